/- What slices.Grow answers for a nil row of pieces. Conditions: at most a thousand million pieces. -/
import Derived.Test.YtnkjkaofgninnaaSpNear
import Derived.Laws.Append
namespace Go.Proofs.Ytnkjkaofgninnaa
open Go.RowKit

theorem run_append_made {P : Program} (w : World) (t u ty e : TypeId) (i : TypeInfo) (z : Value) (ht : P.underlying t = some (.slice e)) (hu : P.underlying u = some (.int .i64)) (hi : P.info? e = some i) (hz : i.zero = some z)
    (n : Nat) (h0 : 0 < n) (h63 : (n : Int) ≤ 1000000000) (hs : 0 < i.size) (h48 : n * i.bytes ≤ 281474976710656) :
    (Builtin.append_ #[t, u] ty #[.slice none 0 0, .int .i64 n]).run P w =
      .ok (.slice (some ⟨w.heap.size, 0, none⟩) n (grownCap w n 0 e)) (w.drew.alloc (.cells (Builtin.zeroCells z.cells n ++ Builtin.zeroCells z.cells (grownCap w n 0 e - n)) e)) := by
  have hn : n ≠ 0 := by omega
  have h63' : ¬ (9223372036854775807 < (n : Int)) := by omega
  have h48' : ¬ (281474976710656 < Builtin.nextslicecap n 0 * i.bytes) := by rw [nextslicecap_zero h0]; omega
  have h48n : ¬ (281474976710656 < (n : Int) * (i.bytes : Int)) := by
    intro h
    have : (281474976710656 : Int) < ((n * i.bytes : Nat) : Int) := by rw [Int.natCast_mul]; exact h
    omega
  have hw : IntKind.i64.wrap (n : Int) = (n : Int) := IntWalk.i64_in _ ⟨by omega, by omega⟩
  have hneg : ¬ ((n : Int) < 0) := by omega
  have hns : ¬ n * i.size = 0 := by have := Nat.mul_pos h0 hs; omega
  simp [Builtin.append_, run_underlying ht, run_underlying hu, sizeOf, typeInfo, zeroValue, hi, hz, asInt, asIntOf, hw, hneg, h48n, hn, hns, h63', h48', Question.forced, run_firstCells_none, newRow, grownCap]
theorem zero3 (n : Nat) : (Builtin.zeroCells (Value.agg #[.int .i64 0, .int .i64 0, .int .i64 0]).cells n).size = n * 3 := by rw [size_zeroCells]; rfl
set_option maxRecDepth 100000 in
/-- 'append(nil, make([]piece, n)...)' -/
theorem wpl_append_made {w : World} {ops : Array Oper} {rest : List Oper} {o : Oper} {a : Act} {Q : Exit → Act → World → Prop} (hgd : o.guard = none) (s x : Operand)
    (ho : o.op = .call { callee := .builtin .append, args := #[s, x], argTypes := #[97, 3] })
    (n : Nat) (hs : a.eval s = .slice none 0 0) (hx : a.eval x = .int .i64 n) (h0 : 0 < n) (hn : n ≤ 1000000000)
    (h : ∀ va vc w', OwnP w' w.heap.size (.slice va 0 vc) [] → n ≤ vc → vc ≤ 9223372036854775807 → Below w.heap.size w w' → wpList Try.prog ops Q rest (a.put o.dst (.slice va n vc)) w') :
    wpList Try.prog ops Q (o :: rest) a w := by
  obtain ⟨i, hi, hz0, hz1, hz2⟩ := info_parts Try.infoPc
  refine wpList_plain hgd fun K hK => ?_
  have hr := run_append_made (P := Try.prog) w 97 3 o.type 102 i _ Try.underlyingPs Try.underlying3 hi hz0 n h0 (by omega) (by rw [hz1]; omega) (by rw [hz2]; omega)
  have hge := grownCap_ge w n 0 102
  have hle := grownCap_le_maxLen w n 0 102 (by unfold maxLen; omega)
  unfold Oper.wp
  simp [execOp, ho, resolve, invoke, builtin, hs, hx, hr, Result.andThen]
  refine hK _ _ (h _ _ _ ?_ hge (by unfold maxLen at hle; omega) ((Below.refl _ _).drew.alloc (Nat.le_refl _) _))
  exact ⟨rfl, .inr ⟨w.heap.size, grownCap w n 0 102, _, rfl, Nat.le_refl _, heap_alloc_new w.drew _, Nat.zero_le _, hle, by rw [Array.size_append, zero3, zero3, ← Nat.add_mul]; congr 1; omega, by simp; rfl⟩⟩
set_option maxRecDepth 100000 in
set_option maxHeartbeats 1600000 in
theorem growP_any (n : Nat) (w : World) (hn : n ≤ 1000000000) :
    Calls Try.prog 96 #[.slice none 0 0, .int .i64 n] w fun e w' => ∃ va vc, e = .returned (.slice va 0 vc) ∧ OwnP w' w.heap.size (.slice va 0 vc) [] ∧ Below w.heap.size w w' := by
  by_cases h0 : (0 : Int) < (n : Int)
  · have h0' : 0 < n := by omega
    go_enter Try.func96, Try.ntmps96
    go_wp2_with (at_builtin; refine wpl_append_made rfl _ _ rfl n rfl rfl h0' hn ?_; intro va3 vc3 w3 ho3 hg3 hl3 hb3; have O3 := hid ho3; have B3 := hid hb3; clear ho3 hb3)
    go_ret
    exact ⟨va3, vc3, rfl, O3.out, B3.out⟩
  · obtain rfl : n = 0 := by omega
    clear h0
    go_enter Try.func96, Try.ntmps96
    go_wp2_with fail
    go_ret
    exact ⟨none, 0, rfl, OwnP.nil _ _, Below.refl _ _⟩
/-- What the three rows are, laid one behind the other. -/
def cat3 (a b c : List Pc) : Nat → List Pc
  | 0 => []
  | 1 => a
  | 2 => a ++ b
  | _ => a ++ b ++ c
set_option linter.unusedSimpArgs false in
set_option maxRecDepth 100000 in
set_option maxHeartbeats 3200000 in
theorem concat_any (g : Nat) (u1 u2 u3 : Value) (a b c : List Pc) (w : World) (h1 : Pcs w u1 a) (h2 : Pcs w u2 b) (h3 : Pcs w u3 c) (hg : w.heap[g]? = some (.cells #[u1, u2, u3] 97 (0, 0))) (hl : a.length + b.length + c.length ≤ 1000000000) :
    Calls Try.prog 83 #[.slice (some ⟨g, 0, none⟩) 3 3] w fun e w' => ∃ va vc, e = .returned (.slice va (a.length + b.length + c.length) vc) ∧ OwnP w' w.heap.size (.slice va (a.length + b.length + c.length) vc) (a ++ b ++ c) ∧ Below w.heap.size w w' := by
  have H1 := hid h1
  have H2 := hid h2
  have H3 := hid h3
  obtain ⟨a1, _, c1, rfl, rfl, _⟩ := h1
  obtain ⟨a2, _, c2, rfl, rfl, _⟩ := h2
  obtain ⟨a3, _, c3, rfl, rfl, _⟩ := h3
  have z0 : w.cell? ⟨g, 0, none⟩ = some (.slice a1 a.length c1) := by rw [cell_of_row _ _ _ _ _ _ hg]; rfl
  have z1 : w.cell? ⟨g, 1, none⟩ = some (.slice a2 b.length c2) := by rw [cell_of_row _ _ _ _ _ _ hg]; rfl
  have z2 : w.cell? ⟨g, 2, none⟩ = some (.slice a3 c.length c3) := by rw [cell_of_row _ _ _ _ _ _ hg]; rfl
  clear hg
  go_enter Try.func83, Try.ntmps83
  go_wp2_with fail
  go_loopw [3, 11] (fun sv iv wr => ∃ i : Nat, i ≤ 3 ∧ iv = .int .i64 i ∧ sv = .int .i64 ((cat3 a b c i).length : Nat) ∧ w = wr) (fun _ iv _ => 3 - (intOf iv).toNat)
  case atStart => exact ⟨0, by omega, rfl, rfl, rfl⟩
  case round =>
    obtain ⟨i, hi, rfl, rfl, hwr⟩ := hrel
    subst hwr
    have hi4 : i = 0 ∨ i = 1 ∨ i = 2 ∨ i = 3 := by omega
    rcases hi4 with rfl | rfl | rfl | rfl
    · simp only [cat3, List.length_nil]
      go_wp2_with fail
      go_roundw
      case rel => exact ⟨1, by omega, rfl, by simp [cat3], trivial⟩
      case measure => simp [intOf]
    · simp only [cat3]
      go_wp2_with fail
      go_roundw
      case rel => exact ⟨2, by omega, rfl, by simp [cat3], trivial⟩
      case measure => simp [intOf]
    · simp only [cat3]
      go_wp2_with fail
      go_roundw
      case rel => exact ⟨3, by omega, rfl, by simp [cat3]; omega, trivial⟩
      case measure => simp [intOf]
    · simp only [cat3]
      go_wp2_with fail
      rw [show ((a.length : Int) + ((b.length : Int) + (c.length : Int))) = ((a.length + b.length + c.length : Nat) : Int) from by omega]
      refine (growP_any (a.length + b.length + c.length) _ hl).mono ?_
      rintro e w2 ⟨va2, vc2, rfl, ho2, hb2⟩
      have O2 := hid ho2
      have B2 := hid hb2
      clear ho2 hb2
      go_wp2_with fail
      go_loopw [6, 27] (fun nv iv wt => ∃ (i : Nat) (va : Option Addr) (vc : Nat), i ≤ 3 ∧ iv = .int .i64 i ∧ nv = .slice va (cat3 a b c i).length vc ∧ OwnP wt w.heap.size (.slice va (cat3 a b c i).length vc) (cat3 a b c i) ∧ Below w.heap.size w wt) (fun _ iv _ => 3 - (intOf iv).toNat)
      case atStart => exact ⟨0, va2, vc2, by omega, rfl, rfl, O2.out, B2.out⟩
      case round =>
        obtain ⟨i, va, vc, hi, rfl, rfl, hown, hbe⟩ := hrel
        clear O2 B2
        have hsz := hbe.size
        have y0 := cell_later hbe z0
        have y1 := cell_later hbe z1
        have y2 := cell_later hbe z2
        have BE := hid hbe
        have OW := hid hown
        clear hown hbe
        have hi4 : i = 0 ∨ i = 1 ∨ i = 2 ∨ i = 3 := by omega
        rcases hi4 with rfl | rfl | rfl | rfl
        · simp only [cat3, List.length_nil] at OW ⊢
          go_wp2_with (at_builtin; (refine wpl_appendP rfl (.tmp 31) (.tmp 32) rfl w.heap.size (.slice va 0 vc) [] rfl OW.out _ a rfl (H1.out.below BE.out) (by simp; omega) hsz ?_); intro va3 vc3 w3 ho3 hg3; simp only [List.length_nil, Nat.zero_add, List.nil_append] at ho3 ⊢; have O3 := hid ho3; have B3 := hid (BE.out.trans (belowP_grown OW.out hg3 hsz)); clear ho3 hg3)
          go_roundw
          case rel => exact ⟨1, va3, vc3, by omega, rfl, rfl, O3.out, B3.out⟩
          case measure => simp [intOf]
        · simp only [cat3] at OW ⊢
          go_wp2_with (at_builtin; (refine wpl_appendP rfl (.tmp 31) (.tmp 32) rfl w.heap.size (.slice va a.length vc) a rfl OW.out _ b rfl (H2.out.below BE.out) (by omega) hsz ?_); intro va3 vc3 w3 ho3 hg3; have O3 := hid ho3; have B3 := hid (BE.out.trans (belowP_grown OW.out hg3 hsz)); clear ho3 hg3)
          go_roundw
          case rel => exact ⟨2, va3, vc3, by omega, rfl, by simp [cat3], by simpa [cat3] using O3.out, B3.out⟩
          case measure => simp [intOf]
        · simp only [cat3, List.length_append] at OW ⊢
          go_wp2_with (at_builtin; (refine wpl_appendP rfl (.tmp 31) (.tmp 32) rfl w.heap.size (.slice va (a.length + b.length) vc) (a ++ b) rfl OW.out _ c rfl (H3.out.below BE.out) (by simp; omega) hsz ?_); intro va3 vc3 w3 ho3 hg3; have O3 := hid ho3; have B3 := hid (BE.out.trans (belowP_grown OW.out hg3 hsz)); clear ho3 hg3)
          go_roundw
          case rel => exact ⟨3, va3, vc3, by omega, rfl, by simp [cat3, Nat.add_assoc], by simpa [cat3, Nat.add_assoc] using O3.out, B3.out⟩
          case measure => simp [intOf]
        · simp only [cat3] at OW ⊢
          go_wp2_with fail
          go_ret
          have e : (a ++ b ++ c).length = a.length + b.length + c.length := by simp; omega
          have h := OW.out
          rw [e] at h
          exact ⟨va, vc, by first | rfl | (rw [e]; rfl), h, BE.out⟩
end Go.Proofs.Ytnkjkaofgninnaa
