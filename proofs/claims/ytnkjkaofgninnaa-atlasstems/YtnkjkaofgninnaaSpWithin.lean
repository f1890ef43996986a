/- What the iterator of within gives for pieces of numbers. -/
import Derived.Test.YtnkjkaofgninnaaSpNear
import Derived.RangeFuncNested
import Derived.RangeFuncBound
import Derived.RangeFuncCalls
import Derived.RangeFuncLeaves
import Derived.Shelf.Abstract
import Derived.Shelf.RegionOpen
import Derived.OwnWalkIn
import Derived.TacticsInMore
import Derived.LoopNIn
import Derived.LoopIn
import Derived.Maps.AppendAt
namespace Go.Proofs.Ytnkjkaofgninnaa
open Go.RowKit Go.Shelf
attribute [local go_sem] Oper.semAt_some

/-- The pieces within s, cut to it. -/
def cutP (s : Sp) (l : List Pc) : List Pc := l.filterMap fun x => if max x.1 s.1 < min x.2.1 s.2 then some (max x.1 s.1, min x.2.1 s.2, x.2.2) else none
theorem cutP_len (s : Sp) (l : List Pc) : (cutP s l).length ≤ l.length := List.length_filterMap_le _ _
theorem cutP_snoc_in (s : Sp) (l : List Pc) (x : Pc) (h : max x.1 s.1 < min x.2.1 s.2) : cutP s (l ++ [x]) = cutP s l ++ [(max x.1 s.1, min x.2.1 s.2, x.2.2)] := by
  simp only [cutP, List.filterMap_append, List.filterMap_cons, List.filterMap_nil]; rw [if_pos h]
theorem cutP_snoc_out (s : Sp) (l : List Pc) (x : Pc) (h : ¬ max x.1 s.1 < min x.2.1 s.2) : cutP s (l ++ [x]) = cutP s l := by
  simp only [cutP, List.filterMap_append, List.filterMap_cons, List.filterMap_nil]; rw [if_neg h]; simp
theorem cutP_prefix (s : Sp) {a b : List Pc} (h : a <+: b) : cutP s a <+: cutP s b := h.filterMap _
set_option maxRecDepth 100000 in
set_option maxHeartbeats 2000000 in
theorem within1_in (n : Nat) (hn : 1 ≤ n) (y Bp Bs b o cap : Nat) (s : Sp) (l : List Pc) (hl : l.length ≤ 1000000000) (J Jx : List Pc → World → Prop) (hJ : ∀ pre W W', J pre W → Below W.heap.size W W' → J pre W')
    (hY : ∀ pre x W, J pre W → pre.length < l.length → YieldAt Fence.wide (n - 1) Try.prog y #[.agg #[.int .i64 x.1, .int .i64 x.2.1, .int .i64 x.2.2]] W fun e W' =>
      (e = .returned (.bool true) ∧ J (pre ++ [x]) W' ∧ (∀ k ∈ [Bp, Bs, b], W'.heap[k]? = W.heap[k]?)) ∨ (e = .returned (.bool false) ∧ Jx (pre ++ [x]) W'))
    (W : World) (ob : Obj) (hob : W.heap[b]? = some ob) (hBp : W.heap[Bp]? = some (.cells #[.slice (some ⟨b, o, none⟩) l.length cap] 97 (0, 0))) (hBs : W.heap[Bs]? = some (.cells #[.int .i64 s.1, .int .i64 s.2] 43 (0, 0)))
    (hc : ∀ j, (h : j < l.length) → W.cell? ⟨b, o + j * 3, none⟩ = some (.int .i64 l[j].1) ∧ W.cell? ⟨b, o + j * 3 + 1, none⟩ = some (.int .i64 l[j].2.1) ∧ W.cell? ⟨b, o + j * 3 + 2, none⟩ = some (.int .i64 l[j].2.2)) (h0 : J [] W) :
    CallsIn Fence.wide n Try.prog 93 #[.func (.yield y) #[] #[], .pointer (some ⟨Bp, 0, none⟩), .pointer (some ⟨Bs, 0, none⟩)] W fun e W' => (∃ v, e = .returned v) ∧
      (J (cutP s l) W' ∨ ∃ pre, pre <+: cutP s l ∧ Jx pre W') := by
  have HOB := hid hob
  have HBP := hid hBp
  have HBS := hid hBs
  have cp : W.cell? ⟨Bp, 0, none⟩ = some (.slice (some ⟨b, o, none⟩) l.length cap) := by rw [cell_of_row _ _ _ _ _ _ hBp]; rfl
  clear hob hBp hBs
  refine callsIn_of_wp Try.func93 rfl trivial ?_ rfl
  simp only [Try.ntmps93, List.size_toArray, List.length_cons, List.length_nil, Nat.reduceAdd, Nat.reduceSub, Array.replicate_succ, Array.replicate_zero, List.push_toArray, List.append_toArray, List.nil_append, List.cons_append]
  gi_wp2
  gi_loopw [9] (fun i wr => ∃ k : Nat, k ≤ l.length ∧ i = .int .i64 k ∧ J (cutP s (l.take k)) wr ∧ ∀ k ∈ [Bp, Bs, b], wr.heap[k]? = W.heap[k]?) (fun i _ => l.length - (intOf i).toNat)
  case atStart => exact ⟨0, Nat.zero_le _, rfl, h0, fun _ _ => rfl⟩
  case round =>
    obtain ⟨k, hk, rfl, hJs, hnx⟩ := hrel
    by_cases hlt : k < l.length
    · have hcx := hc k hlt
      have heq : wr.heap[b]? = W.heap[b]? := hnx b (by simp)
      have hc0 : wr.cell? ⟨b, o + k * 3, none⟩ = some (.int .i64 l[k].1) := (World.cell?_of_block heq).trans hcx.1
      have hc1 : wr.cell? ⟨b, o + k * 3 + 1, none⟩ = some (.int .i64 l[k].2.1) := (World.cell?_of_block heq).trans hcx.2.1
      have hc2 : wr.cell? ⟨b, o + k * 3 + 2, none⟩ = some (.int .i64 l[k].2.2) := (World.cell?_of_block heq).trans hcx.2.2
      have hs := (hnx Bs (by simp)).trans HBS.out
      have s0 : wr.cell? ⟨Bs, 0, none⟩ = some (.int .i64 s.1) := by rw [cell_of_row _ _ _ _ _ _ hs]; rfl
      have s1 : wr.cell? ⟨Bs, 1, none⟩ = some (.int .i64 s.2) := by rw [cell_of_row _ _ _ _ _ _ hs]; rfl
      have HS := hid hs
      have HNX := hid hnx
      have HLT := hid (show ∀ j ∈ [Bp, Bs, b], j < wr.heap.size by
        intro j hj
        have h := hnx j hj
        simp only [List.mem_cons, List.not_mem_nil, or_false] at hj
        rcases hj with rfl | rfl | rfl
        · exact lt_of_block (h.trans HBP.out)
        · exact lt_of_block (h.trans HBS.out)
        · exact lt_of_block (h.trans HOB.out))
      have HT := hid (show l.take (k + 1) = l.take k ++ [l[k]] by rw [List.take_add_one, List.getElem?_eq_getElem hlt]; rfl)
      obtain ⟨x, hx⟩ : ∃ x, x = l[k] := ⟨_, rfl⟩
      rw [← hx] at hc0 hc1 hc2 HT
      have HX := hid hx
      clear hx hcx heq hs hnx
      obtain ⟨p, q, v⟩ := x
      obtain ⟨A, hA⟩ : ∃ A, A = Obj.cells #[.int .i64 p, .int .i64 q, .int .i64 v] 102 (0, 0) := ⟨_, rfl⟩
      have bA : Below wr.heap.size wr (wr.alloc A) := (Below.refl _ _).alloc (Nat.le_refl _) _
      have t0 := cell_later bA s0
      have t1 := cell_later bA s1
      have r2 : (wr.alloc A).cell? ⟨wr.heap.size, 2, none⟩ = some (.int .i64 v) := by rw [hA, World.cell?_alloc_at _ _ _ _ rfl]; rfl
      have BA := hid bA
      have R2 := hid r2
      rw [hA] at t0 t1 BA R2
      clear bA r2 hA
      by_cases hcut : min q s.2 ≤ max p s.1
      · have HC := hid hcut
        have hd : decide (min q s.2 ≤ max p s.1) = true := decide_eq_true hcut
        clear hcut
        gi_wp2_with (refine ⟨trivial, ?_⟩; first
          | (gi_at_call 94; refine (callsIn_wide.2 (common_any (p, q) s _)).mono ?_; rintro e w1 ⟨rfl, hb1⟩; have B1 := hid hb1; clear hb1)
          | (gi_at_call 79; refine (callsIn_wide.2 (empty_any (max p s.1, min q s.2) _)).mono ?_; rintro e w2 ⟨rfl, hw2⟩; simp only [hd]; have W2 := hid hw2; clear hw2))
        refine ⟨(fun _ h => nomatch h), ?_⟩
        gi_wp2
        have hb : Below wr.heap.size wr w2 := by rw [W2.out]; exact BA.out.trans ((B1.out.mono BA.out.size).trans ((((Below.refl _ _).alloc (Nat.le_refl _) _).alloc (by simp) _).mono (Nat.le_trans BA.out.size B1.out.size)))
        go_roundw
        case rel => exact ⟨k + 1, by omega, by simp, by rw [HT.out, cutP_snoc_out _ _ _ (by have := HC.out; simp only; omega)]; exact hJ _ _ _ hJs hb, fun j hj => (hb.block j (HLT.out j hj)).trans (HNX.out j hj)⟩
        case measure => simp [intOf]; omega
      · have HC := hid hcut
        have hd : decide (min q s.2 ≤ max p s.1) = false := decide_eq_false hcut
        clear hcut
        gi_wp2_with (refine ⟨trivial, ?_⟩; first
          | (gi_at_call 94; refine (callsIn_wide.2 (common_any (p, q) s _)).mono ?_; rintro e w1 ⟨rfl, hb1⟩; have B1 := hid hb1; clear hb1)
          | (gi_at_call 79; refine (callsIn_wide.2 (empty_any (max p s.1, min q s.2) _)).mono ?_; rintro e w2 ⟨rfl, hw2⟩; simp only [hd]; have f0 : w2.cell? ⟨w1.heap.size, 0, none⟩ = some (.int .i64 (max p s.1)) := (by rw [hw2, World.cell?_alloc_past _ _ _ (by simp), World.cell?_alloc_at _ _ _ _ rfl]; rfl); have f1 : w2.cell? ⟨w1.heap.size, 1, none⟩ = some (.int .i64 (min q s.2)) := (by rw [hw2, World.cell?_alloc_past _ _ _ (by simp), World.cell?_alloc_at _ _ _ _ rfl]; rfl); have b2 : Below w1.heap.size w1 w2 := (by rw [hw2]; exact ((Below.refl _ _).alloc (Nat.le_refl _) _).alloc (by simp) _); have f2 : w2.cell? ⟨wr.heap.size, 2, none⟩ = some (.int .i64 v) := cell_later b2 (cell_later B1.out R2.out); have B2 := hid b2; clear hw2 b2; obtain ⟨fn, tmps, assign, body, hy, hR⟩ := hY _ (max p s.1, min q s.2, v) w2 (hJ _ _ _ hJs (BA.out.trans ((B1.out.mono BA.out.size).trans (B2.out.mono (Nat.le_trans BA.out.size B1.out.size))))) (by have := cutP_len s (l.take k); simp only [List.length_take] at this; omega)))
        refine hR.mono ?_
        rintro e W3 (⟨rfl, hJ3, hk3⟩ | ⟨rfl, hJx3⟩)
        · have HK3 := hid hk3
          clear hk3
          gi_wp2
          go_roundw
          case rel => exact ⟨k + 1, by omega, by simp, by rw [HT.out, cutP_snoc_in _ _ _ (by have := HC.out; simp only; omega)]; exact hJ3, fun j hj => (HK3.out j hj).trans (((BA.out.trans ((B1.out.mono BA.out.size).trans (B2.out.mono (Nat.le_trans BA.out.size B1.out.size)))).block j (HLT.out j hj)).trans (HNX.out j hj))⟩
          case measure => simp [intOf]; omega
        · gi_wp2
          refine bodyPost_ret (results_none rfl _ _ _) rfl ?_
          refine ⟨⟨_, rfl⟩, .inr ⟨_, ?_, hJx3⟩⟩
          have h := cutP_prefix s (List.take_prefix (k + 1) l)
          rwa [HT.out, cutP_snoc_in _ _ _ (by have := HC.out; simp only; omega)] at h
    · gi_wp2
      go_end0
      have : k = l.length := by omega
      subst this
      rw [List.take_length] at hJs
      exact ⟨⟨_, rfl⟩, .inl hJs⟩
set_option maxRecDepth 100000 in
set_option maxHeartbeats 1000000 in
theorem within1_nil (n : Nat) (y Bp Bs : Nat) (J : List Pc → World → Prop) (W : World) (hBp : W.cell? ⟨Bp, 0, none⟩ = some (.slice none 0 0)) (h0 : J [] W) :
    CallsIn Fence.wide n Try.prog 93 #[.func (.yield y) #[] #[], .pointer (some ⟨Bp, 0, none⟩), .pointer (some ⟨Bs, 0, none⟩)] W fun e W' => (∃ v, e = .returned v) ∧ J [] W' := by
  refine callsIn_of_wp Try.func93 rfl trivial ?_ rfl
  simp only [Try.ntmps93, List.size_toArray, List.length_cons, List.length_nil, Nat.reduceAdd, Nat.reduceSub, Array.replicate_succ, Array.replicate_zero, List.push_toArray, List.append_toArray, List.nil_append, List.cons_append]
  gi_wp2
  gi_loopw [9] (fun i wr => i = .int .i64 0 ∧ J [] wr) (fun _ _ => 0)
  case atStart => exact ⟨rfl, h0⟩
  case round =>
    obtain ⟨rfl, hJs⟩ := hrel
    gi_wp2
    go_end0
    exact ⟨⟨_, rfl⟩, hJs⟩
set_option maxHeartbeats 1000000 in
theorem within_any (u : Value) (l : List Pc) (s : Sp) (w : World) (hu : Pcs w u l) :
    Calls Try.prog 81 #[u, .agg #[.int .i64 s.1, .int .i64 s.2]] w fun e w' => e = .returned (.func (.func 93) #[] #[.pointer (some ⟨w.heap.size, 0, none⟩), .pointer (some ⟨w.heap.size + 1, 0, none⟩)]) ∧
      w' = (w.alloc (.cells #[u] 97 (0, 0))).alloc (.cells #[.int .i64 s.1, .int .i64 s.2] 43 (0, 0)) := by
  have hmf : ∀ (fn : Fn) (first cap : Array Value) (w : World), (Instr.makeFunc fn first cap).run Try.prog w = .ok (.func fn first cap) w := fun _ _ _ _ => rfl
  obtain ⟨a, c, rfl⟩ : ∃ a c, u = .slice a l.length c := by obtain ⟨ao, n, cap, rfl, rfl, _⟩ := hu; exact ⟨_, _, rfl⟩
  clear hu
  obtain ⟨p, q⟩ := s
  go_enter Try.func81, Try.ntmps81
  go_wp2_with fail
  go_ret
  exact ⟨rfl, rfl⟩
/-- The slice value u holds the pieces l in a block; or it is nil and there are none. -/
def HeldP (W : World) (u : Value) (l : List Pc) : Prop :=
  (u = .slice none 0 0 ∧ l = []) ∨ ∃ b o cap ob, u = .slice (some ⟨b, o, none⟩) l.length cap ∧ W.heap[b]? = some ob ∧
    ∀ j, (h : j < l.length) → W.cell? ⟨b, o + j * 3, none⟩ = some (.int .i64 l[j].1) ∧ W.cell? ⟨b, o + j * 3 + 1, none⟩ = some (.int .i64 l[j].2.1) ∧ W.cell? ⟨b, o + j * 3 + 2, none⟩ = some (.int .i64 l[j].2.2)
theorem HeldP.below {A B : World} (h : Below A.heap.size A B) {u : Value} {l : List Pc} : HeldP A u l → HeldP B u l
  | .inl e => .inl e
  | .inr ⟨b, o, cap, ob, e, hb, hc⟩ => .inr ⟨b, o, cap, ob, e, by rw [h.block b (lt_of_block hb)]; exact hb, fun j hj => ⟨cell_later h (hc j hj).1, cell_later h (hc j hj).2.1, cell_later h (hc j hj).2.2⟩⟩
/-- The two boxes and the row's block lie as they lay. -/
def KeptP (Bp Bs : Nat) (u : Value) (A B : World) : Prop := ∀ k, (k = Bp ∨ k = Bs ∨ u.ownBlock = some k) → B.heap[k]? = A.heap[k]?
theorem KeptP.trans {Bp Bs : Nat} {u : Value} {A B C : World} (h : KeptP Bp Bs u A B) (k : KeptP Bp Bs u B C) : KeptP Bp Bs u A C := fun i hi => (k i hi).trans (h i hi)
theorem within_stops (n : Nat) (hn : 1 ≤ n) (Bp Bs : Nat) (u : Value) (s : Sp) (l : List Pc) (hl : l.length ≤ 1000000000) (w : World)
    (hBp : w.heap[Bp]? = some (.cells #[u] 97 (0, 0))) (hBs : w.heap[Bs]? = some (.cells #[.int .i64 s.1, .int .i64 s.2] 43 (0, 0))) (hI : HeldP w u l) :
    SeqStopsK Fence.wide n Try.prog 93 #[.pointer (some ⟨Bp, 0, none⟩), .pointer (some ⟨Bs, 0, none⟩)] (fun x : Pc => #[Value.agg #[.int .i64 x.1, .int .i64 x.2.1, .int .i64 x.2.2]]) (KeptP Bp Bs u) (fun ys => ys = cutP s l) (fun pre => pre <+: cutP s l) l.length w := fun y J Jx W hW hJ _ hY h0 => by
  have hp := (hW.block Bp (lt_of_block hBp)).trans hBp
  have hs := (hW.block Bs (lt_of_block hBs)).trans hBs
  rcases hI.below hW with ⟨rfl, rfl⟩ | ⟨b, o, cap, ob, rfl, hb, hcs⟩
  · have hc : W.cell? ⟨Bp, 0, none⟩ = some (.slice none 0 0) := by rw [cell_of_row _ _ _ _ _ _ hp]; rfl
    exact (within1_nil n y Bp Bs J W hc h0).mono fun e W' ⟨he, hj⟩ => ⟨he, .inl ⟨_, rfl, hj⟩⟩
  · refine (within1_in n hn y Bp Bs b o cap s l hl J Jx (fun pre X Y hs hb => hJ pre X Y none hs ⟨hb.os, hb.tape, hb.output, hb.size, fun k hk _ => hb.block k hk⟩ (fun r e => by cases e)) ?_ W ob hb hp hs hcs h0).mono ?_
    · intro pre x W1 hj hlt
      obtain ⟨fn, tmps, assign, body, hy, hR⟩ := hY pre x W1 hj hlt
      refine ⟨fn, tmps, assign, body, hy, hR.mono ?_⟩
      rintro e W' (⟨h1, h2, h3⟩ | h)
      · refine .inl ⟨h1, h2, fun k hk => h3 k ?_⟩
        simp only [List.mem_cons, List.not_mem_nil, or_false] at hk
        rcases hk with rfl | rfl | rfl
        · exact .inl rfl
        · exact .inr (.inl rfl)
        · exact .inr (.inr rfl)
      · exact .inr h
    · rintro e W' ⟨he, hj | ⟨pre, hp, hj⟩⟩
      · exact ⟨he, .inl ⟨_, rfl, hj⟩⟩
      · exact ⟨he, .inr ⟨_, hp, hj⟩⟩
end Go.Proofs.Ytnkjkaofgninnaa
