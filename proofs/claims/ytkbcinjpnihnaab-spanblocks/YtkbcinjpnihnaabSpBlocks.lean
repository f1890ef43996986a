/- What the iterator of Blocks gives. Conditions: the row is one of spans that are not empty, of numbers of 64 bits. -/
import Derived.Test.YtkbcinjpnihnaabSpNorm
import Derived.RangeFuncNested
import Derived.RangeFuncBound
import Derived.RangeFuncCalls
import Derived.RangeFuncLeaves
import Derived.Shelf.Abstract
import Derived.Shelf.RegionOpen
import Derived.OwnWalkIn
import Derived.TacticsInMore
import Derived.LoopNIn
import Derived.LoopIn
import Derived.Maps.AppendAt
namespace Go.Proofs.Ytkbcinjpnihnaab
open Go.RowKit Go.Shelf
attribute [local go_sem] Oper.semAt_some

/-- The blocks from p on, before m. -/
def blkR (p m : Int) : List Int := (List.range (m - p).toNat).map fun i : Nat => p + (i : Int)
theorem blkR_none {p m : Int} (h : m ≤ p) : blkR p m = [] := by
  simp only [blkR]; rw [show (m - p).toNat = 0 from by omega]; rfl
theorem blkR_next {p m : Int} (h : p ≤ m) : blkR p (m + 1) = blkR p m ++ [m] := by
  simp only [blkR]
  rw [show (m + 1 - p).toNat = (m - p).toNat + 1 from by omega, List.range_succ, List.map_append]
  simp only [List.map_cons, List.map_nil]
  rw [show p + (((m - p).toNat : Nat) : Int) = m from by omega]
theorem blkR_prefix {p m q : Int} (h : m ≤ q) : blkR p m <+: blkR p q := by
  obtain ⟨t, ht⟩ : ∃ t, (q - p).toNat = (m - p).toNat + t := ⟨(q - p).toNat - (m - p).toNat, by omega⟩
  simp only [blkR]
  rw [ht, List.range_add, List.map_append]
  exact List.prefix_append _ _
/-- The blocks of a row, in its order. -/
def blkL (l : List Sp) : List Int := l.flatMap fun s => blkR s.1 s.2
theorem blkL_nil : blkL [] = [] := rfl
theorem blkL_append (a b : List Sp) : blkL (a ++ b) = blkL a ++ blkL b := List.flatMap_append
theorem blkL_one (x : Sp) : blkL [x] = blkR x.1 x.2 := by simp [blkL]
theorem blkL_prefix {a b : List Sp} (h : a <+: b) : blkL a <+: blkL b := by
  obtain ⟨t, rfl⟩ := h
  rw [blkL_append]; exact List.prefix_append _ _
/-- The box and the row's block lie as they lay, and all spans. -/
def KeptB (B : Nat) (u : Value) (X Y : World) : Prop := ∀ k, (k = B ∨ u.ownBlock = some k ∨ ∃ cs, X.heap[k]? = some (.cells cs 29 (0, 0))) → Y.heap[k]? = X.heap[k]?
theorem KeptB.trans {B : Nat} {u : Value} {X Y Z : World} (h : KeptB B u X Y) (g : KeptB B u Y Z) : KeptB B u X Z := fun k hk => by
  have e := h k hk
  refine (g k ?_).trans e
  rcases hk with h1 | h1 | ⟨cs, h1⟩
  · exact .inl h1
  · exact .inr (.inl h1)
  · exact .inr (.inr ⟨cs, e.trans h1⟩)
set_option maxRecDepth 100000 in
set_option maxHeartbeats 2000000 in
theorem blocks1_in (n : Nat) (hn : 1 ≤ n) (y B b cap : Nat) (l : List Sp) (hl : l.length ≤ 1000000000) (hne : ∀ x ∈ l, x.1 < x.2 ∧ -9223372036854775808 ≤ x.1 ∧ x.2 ≤ 9223372036854775807) (J Jx : List Int → World → Prop) (hJ : ∀ pre W W', J pre W → Below W.heap.size W W' → J pre W')
    (hY : ∀ pre x W, J pre W → pre.length < (blkL l).length → YieldAt Fence.wide (n - 1) Try.prog y #[.int .i64 x] W fun e W' =>
      (e = .returned (.bool true) ∧ J (pre ++ [x]) W' ∧ KeptB B (.slice (some ⟨b, 0, none⟩) l.length cap) W W') ∨ (e = .returned (.bool false) ∧ Jx (pre ++ [x]) W'))
    (W : World) (ob : Obj) (hob : W.heap[b]? = some ob) (hB : W.heap[B]? = some (.cells #[.slice (some ⟨b, 0, none⟩) l.length cap] 22 (0, 0)))
    (hc : ∀ j, (h : j < l.length) → W.cell? ⟨b, j * 2, none⟩ = some (.int .i64 l[j].1) ∧ W.cell? ⟨b, j * 2 + 1, none⟩ = some (.int .i64 l[j].2)) (h0 : J [] W) :
    CallsIn Fence.wide n Try.prog 53 #[.func (.yield y) #[] #[], .pointer (some ⟨B, 0, none⟩)] W fun e W' => (∃ v, e = .returned v) ∧
      (J (blkL l) W' ∨ ∃ pre, pre <+: blkL l ∧ Jx pre W') := by
  have HOB := hid hob
  have HB := hid hB
  have HNE := hid hne
  have cp : W.cell? ⟨B, 0, none⟩ = some (.slice (some ⟨b, 0, none⟩) l.length cap) := by rw [cell_of_row _ _ _ _ _ _ hB]; rfl
  clear hob hB hne
  refine callsIn_of_wp Try.func53 rfl trivial ?_ rfl
  simp only [Try.ntmps53, List.size_toArray, List.length_cons, List.length_nil, Nat.reduceAdd, Nat.reduceSub, Array.replicate_succ, Array.replicate_zero, List.push_toArray, List.append_toArray, List.nil_append, List.cons_append]
  gi_wp2
  gi_loopw [8] (fun i wr => ∃ k : Nat, k ≤ l.length ∧ i = .int .i64 k ∧ J (blkL (l.take k)) wr ∧ ∀ k ∈ [B, b], wr.heap[k]? = W.heap[k]?) (fun i _ => l.length - (intOf i).toNat)
  case atStart => exact ⟨0, Nat.zero_le _, rfl, h0, fun _ _ => rfl⟩
  case round =>
    obtain ⟨k, hk, rfl, hJs, hnx⟩ := hrel
    rename World => w0
    by_cases hlt : k < l.length
    · have hcx := hc k hlt
      have heq : w0.heap[b]? = W.heap[b]? := hnx b (by simp)
      have hc0 : w0.cell? ⟨b, k * 2, none⟩ = some (.int .i64 l[k].1) := (World.cell?_of_block heq).trans hcx.1
      have hc1 : w0.cell? ⟨b, k * 2 + 1, none⟩ = some (.int .i64 l[k].2) := (World.cell?_of_block heq).trans hcx.2
      have HNX := hid hnx
      have HLT := hid (show ∀ j ∈ [B, b], j < w0.heap.size by
        intro j hj
        have h := hnx j hj
        simp only [List.mem_cons, List.not_mem_nil, or_false] at hj
        rcases hj with rfl | rfl
        · exact lt_of_block (h.trans HB.out)
        · exact lt_of_block (h.trans HOB.out))
      have HT := hid (show l.take (k + 1) = l.take k ++ [l[k]] by rw [List.take_add_one, List.getElem?_eq_getElem hlt]; rfl)
      have hne := HNE.out l[k] (List.getElem_mem hlt)
      obtain ⟨x, hx⟩ : ∃ x, x = l[k] := ⟨_, rfl⟩
      rw [← hx] at hc0 hc1 HT hne
      clear hx hcx heq hnx cp
      obtain ⟨p, q⟩ := x
      obtain ⟨hpq, hp, hq⟩ := hne
      simp only at hpq hp hq
      have HP := hid (show blkL (l.take k) ++ blkR p q <+: blkL l by
        have h := blkL_prefix (List.take_prefix (k + 1) l)
        rwa [HT.out, blkL_append, blkL_one] at h)
      have HTE := hid (show blkL (l.take (k + 1)) = blkL (l.take k) ++ blkR p q by rw [HT.out, blkL_append, blkL_one])
      obtain ⟨P, hP⟩ : ∃ P, P = blkL (l.take k) := ⟨_, rfl⟩
      rw [← hP] at HP HTE hJs
      obtain ⟨A, hA⟩ : ∃ A, A = Obj.cells #[.int .i64 p, .int .i64 q] 29 (0, 0) := ⟨_, rfl⟩
      have HA0 := hid (show (w0.alloc A).heap[w0.heap.size]? = some A from heap_alloc_new _ _)
      have HBA := hid (show Below w0.heap.size w0 (w0.alloc A) from (Below.refl _ _).alloc (Nat.le_refl _) _)
      have a0 : (w0.alloc A).cell? ⟨w0.heap.size, 0, none⟩ = some (.int .i64 p) := by rw [hA, World.cell?_alloc_at _ _ _ _ rfl]; rfl
      have a1 : (w0.alloc A).cell? ⟨w0.heap.size, 1, none⟩ = some (.int .i64 q) := by rw [hA, World.cell?_alloc_at _ _ _ _ rfl]; rfl
      have HJS := hid hJs
      rw [hA] at HA0 HBA a0 a1
      clear hA hP hJs HT
      gi_wp2
      gi_loopw [5] (fun i wi => ∃ m : Int, p ≤ m ∧ m ≤ q ∧ i = .int .i64 m ∧ J (P ++ blkR p m) wi ∧ wi.heap[w0.heap.size]? = some (.cells #[.int .i64 p, .int .i64 q] 29 (0, 0)) ∧ ∀ k ∈ [B, b], wi.heap[k]? = W.heap[k]?) (fun i _ => (q - intOf i).toNat)
      case atStart => exact ⟨p, by omega, by omega, rfl, by rw [blkR_none (by omega), List.append_nil]; exact hJ _ _ _ HJS.out HBA.out, HA0.out, fun j hj => (HBA.out.block j (HLT.out j hj)).trans (HNX.out j hj)⟩
      case round =>
        rename_i K0 hK0
        obtain ⟨m, hpm, hmq, rfl, hJi, hAi, hki⟩ := hrel
        have i1 : wr.cell? ⟨w0.heap.size, 1, none⟩ = some (.int .i64 q) := by rw [cell_of_row _ _ _ _ _ _ hAi]; rfl
        have HAI := hid hAi
        have HKI := hid hki
        clear hAi hki hc0 hc1 a0 a1
        by_cases hm : m < q
        · have HN := hid (blkR_next hpm)
          have HPX := hid (show (P ++ blkR p m) ++ [m] <+: blkL l by
            refine List.IsPrefix.trans ?_ HP.out
            rw [List.append_assoc, ← HN.out, List.prefix_append_right_inj]
            exact blkR_prefix (by omega))
          have wm : IntKind.i64.wrap (m + 1) = m + 1 := IntWalk.i64_in _ ⟨by omega, by omega⟩
          obtain ⟨fn, tmps, assign, body, hy, hR⟩ := hY _ m wr hJi (by have := HPX.out.length_le; rw [List.length_append] at this; simp only [List.length_singleton] at this; omega)
          clear hJi
          gi_wp2
          refine hR.mono ?_
          rintro e W3 (⟨rfl, hJ3, hk3⟩ | ⟨rfl, hJx3⟩)
          · have HK3 := hid hk3
            clear hk3
            gi_wp2
            go_roundw
            case rel => exact ⟨m + 1, by omega, by omega, rfl, by rw [HN.out, ← List.append_assoc]; exact hJ3, (HK3.out _ (.inr (.inr ⟨_, HAI.out⟩))).trans HAI.out, fun j hj => (HK3.out j (by
              simp only [List.mem_cons, List.not_mem_nil, or_false] at hj
              rcases hj with rfl | rfl
              · exact .inl rfl
              · exact .inr (.inl rfl))).trans (HKI.out j hj)⟩
            case measure => simp [intOf]; omega
          · gi_wp2
            refine bodyPost_ret (results_none rfl _ _ _) rfl ?_
            exact ⟨⟨_, rfl⟩, .inr ⟨_, HPX.out, hJx3⟩⟩
        · obtain rfl : m = q := by omega
          gi_wp2
          go_roundw
          case rel => exact ⟨k + 1, by omega, by simp, by rw [HTE.out]; exact hJi, HKI.out⟩
          case measure => simp [intOf]; omega
    · gi_wp2
      go_end0
      have : k = l.length := by omega
      subst this
      rw [List.take_length] at hJs
      exact ⟨⟨_, rfl⟩, .inl hJs⟩
set_option maxRecDepth 100000 in
set_option maxHeartbeats 1000000 in
theorem blocks1_nil (n : Nat) (y B : Nat) (J : List Int → World → Prop) (W : World) (hB : W.cell? ⟨B, 0, none⟩ = some (.slice none 0 0)) (h0 : J [] W) :
    CallsIn Fence.wide n Try.prog 53 #[.func (.yield y) #[] #[], .pointer (some ⟨B, 0, none⟩)] W fun e W' => (∃ v, e = .returned v) ∧ J [] W' := by
  refine callsIn_of_wp Try.func53 rfl trivial ?_ rfl
  simp only [Try.ntmps53, List.size_toArray, List.length_cons, List.length_nil, Nat.reduceAdd, Nat.reduceSub, Array.replicate_succ, Array.replicate_zero, List.push_toArray, List.append_toArray, List.nil_append, List.cons_append]
  gi_wp2
  gi_loopw [8] (fun i wr => i = .int .i64 0 ∧ J [] wr) (fun _ _ => 0)
  case atStart => exact ⟨rfl, h0⟩
  case round =>
    obtain ⟨rfl, hJs⟩ := hrel
    gi_wp2
    go_end0
    exact ⟨⟨_, rfl⟩, hJs⟩
theorem blocks_stops (n : Nat) (hn : 1 ≤ n) (B : Nat) (u : Value) (l : List Sp) (hl : l.length ≤ 1000000000) (hne : ∀ x ∈ l, x.1 < x.2 ∧ -9223372036854775808 ≤ x.1 ∧ x.2 ≤ 9223372036854775807) (w : World)
    (hB : w.heap[B]? = some (.cells #[u] 22 (0, 0))) (hI : Held w u l) :
    SeqStopsK Fence.wide n Try.prog 53 #[.pointer (some ⟨B, 0, none⟩)] (fun x : Int => #[Value.int .i64 x]) (KeptB B u) (fun ys => ys = blkL l) (fun pre => pre <+: blkL l) (blkL l).length w := fun y J Jx W hW hJ _ hY h0 => by
  have hp := (hW.block B (lt_of_block hB)).trans hB
  rcases hI.below hW with ⟨rfl, rfl⟩ | ⟨b, cap, ob, rfl, hb, hcs⟩
  · have hc : W.cell? ⟨B, 0, none⟩ = some (.slice none 0 0) := by rw [cell_of_row _ _ _ _ _ _ hp]; rfl
    exact (blocks1_nil n y B J W hc h0).mono fun e W' ⟨he, hj⟩ => ⟨he, .inl ⟨_, rfl, hj⟩⟩
  · refine (blocks1_in n hn y B b cap l hl hne J Jx (fun pre X Y hs hb => hJ pre X Y none hs ⟨hb.os, hb.tape, hb.output, hb.size, fun k hk _ => hb.block k hk⟩ (fun r e => by cases e)) hY W ob hb hp hcs h0).mono ?_
    rintro e W' ⟨he, hj | ⟨pre, hp, hj⟩⟩
    · exact ⟨he, .inl ⟨_, rfl, hj⟩⟩
    · exact ⟨he, .inr ⟨_, hp, hj⟩⟩
end Go.Proofs.Ytkbcinjpnihnaab
