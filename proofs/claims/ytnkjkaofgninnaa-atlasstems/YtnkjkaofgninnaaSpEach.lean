/- What the iterator of Each of a Map of numbers gives. -/
import Derived.Test.YtnkjkaofgninnaaSpMap
namespace Go.Proofs.Ytnkjkaofgninnaa
open Go.RowKit Go.Shelf
attribute [local go_sem] Oper.semAt_some

/-- What Each yields for a piece. -/
def eachV (x : Pc) : Array Value := #[.agg #[.int .i64 x.1, .int .i64 x.2.1], .int .i64 x.2.2]
set_option maxRecDepth 100000 in
set_option maxHeartbeats 2000000 in
theorem each1_in (n : Nat) (hn : 1 ≤ n) (y B b rb o cap : Nat) (l : List Pc) (hl : l.length ≤ 1000000000) (J Jx : List Pc → World → Prop) (hJ : ∀ pre W W', J pre W → Below W.heap.size W W' → J pre W')
    (hY : ∀ pre x W, J pre W → pre.length < l.length → YieldAt Fence.wide (n - 1) Try.prog y (eachV x) W fun e W' =>
      (e = .returned (.bool true) ∧ J (pre ++ [x]) W' ∧ W'.heap[rb]? = W.heap[rb]?) ∨ (e = .returned (.bool false) ∧ Jx (pre ++ [x]) W'))
    (W : World) (ob : Obj) (hob : W.heap[rb]? = some ob) (hB : W.cell? ⟨B, 0, none⟩ = some (.pointer (some ⟨b, 0, none⟩))) (hb : W.cell? ⟨b, 0, none⟩ = some (.slice (some ⟨rb, o, none⟩) l.length cap))
    (hc : ∀ j, (h : j < l.length) → W.cell? ⟨rb, o + j * 3, none⟩ = some (.int .i64 l[j].1) ∧ W.cell? ⟨rb, o + j * 3 + 1, none⟩ = some (.int .i64 l[j].2.1) ∧ W.cell? ⟨rb, o + j * 3 + 2, none⟩ = some (.int .i64 l[j].2.2)) (h0 : J [] W) :
    CallsIn Fence.wide n Try.prog 56 #[.func (.yield y) #[] #[], .pointer (some ⟨B, 0, none⟩)] W fun e W' => (∃ v, e = .returned v) ∧
      (J l W' ∨ ∃ pre, pre <+: l ∧ Jx pre W') := by
  have HOB := hid hob
  clear hob
  unfold eachV at hY
  refine callsIn_of_wp Try.func56 rfl trivial ?_ rfl
  simp only [Try.ntmps56, List.size_toArray, List.length_cons, List.length_nil, Nat.reduceAdd, Nat.reduceSub, Array.replicate_succ, Array.replicate_zero, List.push_toArray, List.append_toArray, List.nil_append, List.cons_append]
  gi_wp2
  gi_loopw [12] (fun i wr => ∃ k : Nat, k ≤ l.length ∧ i = .int .i64 k ∧ J (l.take k) wr ∧ wr.heap[rb]? = W.heap[rb]?) (fun i _ => l.length - (intOf i).toNat)
  case atStart => exact ⟨0, Nat.zero_le _, rfl, h0, rfl⟩
  case round =>
    obtain ⟨k, hk, rfl, hJs, hnx⟩ := hrel
    clear hB hb
    by_cases hlt : k < l.length
    · have hcx := hc k hlt
      have hc0 : wr.cell? ⟨rb, o + k * 3, none⟩ = some (.int .i64 l[k].1) := (World.cell?_of_block hnx).trans hcx.1
      have hc1 : wr.cell? ⟨rb, o + k * 3 + 1, none⟩ = some (.int .i64 l[k].2.1) := (World.cell?_of_block hnx).trans hcx.2.1
      have hc2 : wr.cell? ⟨rb, o + k * 3 + 2, none⟩ = some (.int .i64 l[k].2.2) := (World.cell?_of_block hnx).trans hcx.2.2
      have HNX := hid hnx
      have HLT := hid (show rb < wr.heap.size from lt_of_block (hnx.trans HOB.out))
      have HT := hid (show l.take (k + 1) = l.take k ++ [l[k]] by rw [List.take_add_one, List.getElem?_eq_getElem hlt]; rfl)
      obtain ⟨x, hx⟩ : ∃ x, x = l[k] := ⟨_, rfl⟩
      rw [← hx] at hc0 hc1 hc2 HT
      clear hx hcx hnx
      obtain ⟨p, q, v⟩ := x
      obtain ⟨A, hA⟩ : ∃ A, A = Obj.cells #[.int .i64 p, .int .i64 q, .int .i64 v] 102 (0, 0) := ⟨_, rfl⟩
      have bA : Below wr.heap.size wr (wr.alloc A) := (Below.refl _ _).alloc (Nat.le_refl _) _
      obtain ⟨fn, tmps, assign, body, hy, hR⟩ := hY _ (p, q, v) (wr.alloc A) (hJ _ _ _ hJs bA) (by simp; omega)
      have BA := hid bA
      rw [hA] at BA hy hR
      clear bA hA hJs
      gi_wp2
      refine hR.mono ?_
      rintro e W3 (⟨rfl, hJ3, hk3⟩ | ⟨rfl, hJx3⟩)
      · have HK3 := hid hk3
        clear hk3
        gi_wp2
        go_roundw
        case rel => exact ⟨k + 1, by omega, by simp, by rw [HT.out]; exact hJ3, (HK3.out.trans (BA.out.block rb HLT.out)).trans HNX.out⟩
        case measure => simp [intOf]; omega
      · gi_wp2
        refine bodyPost_ret (results_none rfl _ _ _) rfl ?_
        exact ⟨⟨_, rfl⟩, .inr ⟨_, by rw [← HT.out]; exact List.take_prefix _ _, hJx3⟩⟩
    · gi_wp2
      go_end0
      have : k = l.length := by omega
      subst this
      rw [List.take_length] at hJs
      exact ⟨⟨_, rfl⟩, .inl hJs⟩
set_option maxRecDepth 100000 in
set_option maxHeartbeats 1000000 in
theorem each1_nil (n : Nat) (y B b : Nat) (J : List Pc → World → Prop) (W : World) (hB : W.cell? ⟨B, 0, none⟩ = some (.pointer (some ⟨b, 0, none⟩))) (hb : W.cell? ⟨b, 0, none⟩ = some (.slice none 0 0)) (h0 : J [] W) :
    CallsIn Fence.wide n Try.prog 56 #[.func (.yield y) #[] #[], .pointer (some ⟨B, 0, none⟩)] W fun e W' => (∃ v, e = .returned v) ∧ J [] W' := by
  refine callsIn_of_wp Try.func56 rfl trivial ?_ rfl
  simp only [Try.ntmps56, List.size_toArray, List.length_cons, List.length_nil, Nat.reduceAdd, Nat.reduceSub, Array.replicate_succ, Array.replicate_zero, List.push_toArray, List.append_toArray, List.nil_append, List.cons_append]
  gi_wp2
  gi_loopw [12] (fun i wr => i = .int .i64 0 ∧ J [] wr) (fun _ _ => 0)
  case atStart => exact ⟨rfl, h0⟩
  case round =>
    obtain ⟨rfl, hJs⟩ := hrel
    gi_wp2
    go_end0
    exact ⟨⟨_, rfl⟩, hJs⟩
/-- The row's block lies as it lay. -/
def KeptR (u : Value) (A B : World) : Prop := ∀ k, u.ownBlock = some k → B.heap[k]? = A.heap[k]?
theorem KeptR.trans {u : Value} {A B C : World} (h : KeptR u A B) (k : KeptR u B C) : KeptR u A C := fun i hi => (k i hi).trans (h i hi)
theorem each_stops (n : Nat) (hn : 1 ≤ n) (B b : Nat) (u : Value) (l : List Pc) (hl : l.length ≤ 1000000000) (w : World)
    (hB : w.heap[B]? = some (.cells #[.pointer (some ⟨b, 0, none⟩)] 61 (0, 0))) (hb : w.heap[b]? = some (.cells #[u] 99 (0, 0))) (hI : HeldP w u l) :
    SeqStopsK Fence.wide n Try.prog 56 #[.pointer (some ⟨B, 0, none⟩)] eachV (KeptR u) (fun ys => ys = l) (fun pre => pre <+: l) l.length w := fun y J Jx W hW hJ _ hY h0 => by
  have hp := (hW.block B (lt_of_block hB)).trans hB
  have hs := (hW.block b (lt_of_block hb)).trans hb
  have hcB : W.cell? ⟨B, 0, none⟩ = some (.pointer (some ⟨b, 0, none⟩)) := by rw [cell_of_row _ _ _ _ _ _ hp]; rfl
  have hcb : W.cell? ⟨b, 0, none⟩ = some u := by rw [cell_of_row _ _ _ _ _ _ hs]; rfl
  rcases hI.below hW with ⟨rfl, rfl⟩ | ⟨rb, o, cap, ob, rfl, hrb, hcs⟩
  · exact (each1_nil n y B b J W hcB hcb h0).mono fun e W' ⟨he, hj⟩ => ⟨he, .inl ⟨_, rfl, hj⟩⟩
  · refine (each1_in n hn y B b rb o cap l hl J Jx (fun pre X Y hs hb => hJ pre X Y none hs ⟨hb.os, hb.tape, hb.output, hb.size, fun k hk _ => hb.block k hk⟩ (fun r e => by cases e)) ?_ W ob hrb hcB hcb hcs h0).mono ?_
    · intro pre x W1 hj hlt
      obtain ⟨fn, tmps, assign, body, hy, hR⟩ := hY pre x W1 hj hlt
      refine ⟨fn, tmps, assign, body, hy, hR.mono ?_⟩
      rintro e W' (⟨h1, h2, h3⟩ | h)
      · exact .inl ⟨h1, h2, h3 rb rfl⟩
      · exact .inr h
    · rintro e W' ⟨he, hj | ⟨pre, hp, hj⟩⟩
      · exact ⟨he, .inl ⟨_, rfl, hj⟩⟩
      · exact ⟨he, .inr ⟨_, hp, hj⟩⟩
set_option maxHeartbeats 1000000 in
theorem each_any (b : Nat) (w : World) :
    Calls Try.prog 34 #[.pointer (some ⟨b, 0, none⟩)] w fun e w' => e = .returned (.func (.func 56) #[] #[.pointer (some ⟨w.heap.size, 0, none⟩)]) ∧
      w' = w.alloc (.cells #[.pointer (some ⟨b, 0, none⟩)] 61 (0, 0)) := by
  have hmf : ∀ (fn : Fn) (first cap : Array Value) (w : World), (Instr.makeFunc fn first cap).run Try.prog w = .ok (.func fn first cap) w := fun _ _ _ _ => rfl
  go_enter Try.func34, Try.ntmps34
  go_wp2_with fail
  go_ret
  exact ⟨rfl, rfl⟩
end Go.Proofs.Ytnkjkaofgninnaa
