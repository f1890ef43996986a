/- What slices.Concat answers for one row of Refs. Conditions: the row lies in memory; at most a thousand million Refs. -/
import Derived.Test.YthhcpoafnmhnhaaGreatInCloneI
import Derived.Laws.Append
import Derived.Laws.AppendOwnNone
namespace Go.Proofs.YthhcpoafnmhnhaaGreat
open Go.RowKit
set_option linter.unusedVariables false
set_option linter.unusedSimpArgs false

theorem run_append_made {P : Program} (w : World) (t u ty e : TypeId) (i : TypeInfo) (z : Value) (ht : P.underlying t = some (.slice e)) (hu : P.underlying u = some (.int .i64)) (hi : P.info? e = some i) (hz : i.zero = some z)
    (n : Nat) (h0 : 0 < n) (h63 : (n : Int) ≤ 1000000000) (hs : 0 < i.size) (h48 : n * i.bytes ≤ 281474976710656) :
    (Builtin.append_ #[t, u] ty #[.slice none 0 0, .int .i64 n]).run P w =
      .ok (.slice (some ⟨w.heap.size, 0, none⟩) n (grownCap w n 0 e)) (w.drew.alloc (.cells (Builtin.zeroCells z.cells n ++ Builtin.zeroCells z.cells (grownCap w n 0 e - n)) e)) := by
  have hn : n ≠ 0 := by omega
  have h63' : ¬ (9223372036854775807 < (n : Int)) := by omega
  have h48' : ¬ (281474976710656 < Builtin.nextslicecap n 0 * i.bytes) := by rw [nextslicecap_zero h0]; omega
  have h48n : ¬ (281474976710656 < (n : Int) * (i.bytes : Int)) := by
    intro h
    have : (281474976710656 : Int) < ((n * i.bytes : Nat) : Int) := by rw [Int.natCast_mul]; exact h
    omega
  have hw : IntKind.i64.wrap (n : Int) = (n : Int) := IntWalk.i64_in _ ⟨by omega, by omega⟩
  have hneg : ¬ ((n : Int) < 0) := by omega
  have hns : ¬ n * i.size = 0 := by have := Nat.mul_pos h0 hs; omega
  simp [Builtin.append_, run_underlying ht, run_underlying hu, sizeOf, typeInfo, zeroValue, hi, hz, asInt, asIntOf, hw, hneg, h48n, hn, hns, h63', h48', Question.forced, run_firstCells_none, newRow, grownCap]
theorem zero2R (n : Nat) : (Builtin.zeroCells (Value.agg #[.int .i64 0, .int .i64 0]).cells n).size = n * 2 := by rw [size_zeroCells]; rfl
set_option maxRecDepth 100000 in
theorem wpl_append_madeR {w : World} {ops : Array Oper} {rest : List Oper} {o : Oper} {a : Act} {Q : Exit → Act → World → Prop} (hgd : o.guard = none) (s x : Operand)
    (ho : o.op = .call { callee := .builtin .append, args := #[s, x], argTypes := #[29, 3] })
    (n : Nat) (hs : a.eval s = .slice none 0 0) (hx : a.eval x = .int .i64 n) (h0 : 0 < n) (hn : n ≤ 1000000000)
    (h : ∀ va vc w', w'.ownsRow w.heap.size 23 2 (.slice va 0 vc) 0 [] → n ≤ vc → vc ≤ 9223372036854775807 → Below w.heap.size w w' → wpList Tryz.prog ops Q rest (a.put o.dst (.slice va n vc)) w') :
    wpList Tryz.prog ops Q (o :: rest) a w := by
  obtain ⟨i, hi, hz0, hz1, hz2⟩ := info_parts rowRf.i
  refine wpList_plain hgd fun K hK => ?_
  have hr := run_append_made (P := Tryz.prog) w 29 3 o.type 23 i _ Tryz.underlyingRs Tryz.underlying3 hi hz0 n h0 (by omega) (by rw [hz1]; omega) (by rw [hz2]; omega)
  have hge := grownCap_ge w n 0 23
  have hle := grownCap_le_maxLen w n 0 23 (by unfold maxLen; omega)
  unfold Oper.wp
  simp [execOp, ho, resolve, invoke, builtin, hs, hx, hr, Result.andThen]
  refine hK _ _ (h _ _ _ ?_ hge (by unfold maxLen at hle; omega) ((Below.refl _ _).drew.alloc (Nat.le_refl _) _))
  exact ⟨rfl, .inr ⟨w.heap.size, grownCap w n 0 23, _, rfl, Nat.le_refl _, heap_alloc_new w.drew _, Nat.zero_le _, hle, by rw [Array.size_append, zero2R, zero2R, ← Nat.add_mul]; congr 1; omega, by simp⟩⟩
set_option maxRecDepth 100000 in
set_option maxHeartbeats 1600000 in
theorem growR_any (n : Nat) (w : World) (hn : n ≤ 1000000000) :
    Calls Tryz.prog 77 #[.slice none 0 0, .int .i64 n] w fun e w' => ∃ va vc, e = .returned (.slice va 0 vc) ∧ w'.ownsRow w.heap.size 23 2 (.slice va 0 vc) 0 [] ∧ Below w.heap.size w w' := by
  by_cases h0 : (0 : Int) < (n : Int)
  · have h0' : 0 < n := by omega
    go_enter Tryz.func77, Tryz.ntmps77
    go_wp2_with (at_builtin; refine wpl_append_madeR rfl _ _ rfl n rfl rfl h0' hn ?_; intro va3 vc3 w3 ho3 hg3 hl3 hb3; have O3 := hid ho3; have B3 := hid hb3; clear ho3 hb3)
    go_ret
    exact ⟨va3, vc3, rfl, O3.out, B3.out⟩
  · obtain rfl : n = 0 := by omega
    clear h0
    go_enter Tryz.func77, Tryz.ntmps77
    go_wp2_with fail
    go_ret
    exact ⟨none, 0, rfl, World.ownsRow_nil _ _ _ _, Below.refl _ _⟩
theorem rfs_cells {w : World} {v : Value} {l : List (Int × Int)} (h : Rfs w v l) {a : Addr} {n cap : Nat} (hv : v = .slice (some a) n cap) : ∀ j u, (rvs l)[j]? = some u → w.cell? (a.add j) = some u := by
  intro j u hj
  obtain ⟨_, _, _, e, _, _, _, _, h5⟩ := h
  rw [hv] at e
  cases e
  have hj' : j / 2 < l.length := by
    rcases Nat.lt_or_ge (j / 2) l.length with h | h
    · exact h
    · rw [List.getElem?_eq_none (by rw [rvs_len]; omega)] at hj; cases hj
  have h6 := h5 a rfl (j / 2) hj'
  have h7 := rvs_at l (j / 2) hj'
  rcases (show j % 2 = 0 ∨ j % 2 = 1 by omega) with h | h
  · rw [show j / 2 * 2 = j by omega] at h6 h7
    rw [h6.1, ← h7.1]; exact hj
  · rw [show j / 2 * 2 + 1 = j by omega] at h6 h7
    rw [h6.2, ← h7.2]; exact hj
/-- 'append(s, x...)', s of the call's own, x any slice of Refs. -/
theorem wpl_appR {w : World} {ops : Array Oper} {rest : List Oper} {o : Oper} {a : Act} {Q : Exit → Act → World → Prop} (hgd : o.guard = none) (s x : Operand)
    (ho : o.op = .call { callee := .builtin .append, args := #[s, x], argTypes := #[29, 29] })
    (base : Nat) (v : Value) (n : Nat) (xs : List Value) (hs : a.eval s = v) (hown : w.ownsRow base 23 2 v n xs) (u : Value) (m : List (Int × Int)) (hx : a.eval x = u) (hu : Rfs w u m)
    (hsz : n + m.length ≤ 1000000000) (hbase : base ≤ w.heap.size)
    (h : ∀ va vc w', w'.ownsRow base 23 2 (.slice va (n + m.length) vc) (n + m.length) (xs ++ rvs m) → w.grownBy w' v.ownBlock → wpList Tryz.prog ops Q rest (a.put o.dst (.slice va (n + m.length) vc)) w') :
    wpList Tryz.prog ops Q (o :: rest) a w := by
  have hu' := hu
  obtain ⟨ao, k, cap, rfl, rfl, hc, hm, hnone, hcell⟩ := hu
  cases ao with
  | none =>
    have h0 := hnone rfl
    have hm0 : m = [] := List.eq_nil_of_length_eq_zero (by omega)
    subst hm0
    obtain ⟨i, hi, hz0, hz1, hz2⟩ := info_parts rowRf.i
    obtain ⟨va, vc, rfl⟩ := own_shape hown
    obtain rfl : cap = 0 := h0
    refine wpList_append_own_none hgd s x 29 ho base 23 i 2 Tryz.underlyingRs hi _ _ _ hs hown hx ?_
    exact h va vc w (by simpa [rvs] using hown) (World.grownBy.refl _ _)
  | some ad => exact wpl_appA rowRf hgd s x ho base v n xs hs hown ad m.length cap (rvs m) hx (rvs_len m) (rfs_cells hu' rfl) (rvs_one m) hsz hbase h
set_option maxRecDepth 100000 in
set_option maxHeartbeats 3200000 in
theorem concat1_any (g : Nat) (u : Value) (l : List (Int × Int)) (w : World) (h1 : Rfs w u l) (hg : w.heap[g]? = some (.cells #[u] 29 (0, 0))) (hl : l.length ≤ 1000000000) :
    Calls Tryz.prog 62 #[.slice (some ⟨g, 0, none⟩) 1 1] w fun e w' => ∃ va vc, e = .returned (.slice va l.length vc) ∧ w'.ownsRow w.heap.size 23 2 (.slice va l.length vc) l.length (rvs l) ∧ Below w.heap.size w w' := by
  have H1 := hid h1
  obtain ⟨a1, _, c1, rfl, rfl, _⟩ := h1
  have z0 : w.cell? ⟨g, 0, none⟩ = some (.slice a1 l.length c1) := by rw [cell_of_row _ _ _ _ _ _ hg]; rfl
  have hgl := lt_of_block hg
  clear hg
  go_enter Tryz.func62, Tryz.ntmps62
  go_wp2_with fail
  go_loopw [3, 11] (fun sv iv wr => ∃ i : Nat, i ≤ 1 ∧ iv = .int .i64 i ∧ sv = .int .i64 ((if i = 0 then 0 else l.length : Nat) : Int) ∧ w = wr) (fun _ iv _ => 1 - (intOf iv).toNat)
  case atStart => exact ⟨0, by omega, rfl, rfl, rfl⟩
  case round =>
    obtain ⟨i, hi, rfl, rfl, hwr⟩ := hrel
    subst hwr
    have hi4 : i = 0 ∨ i = 1 := by omega
    rcases hi4 with rfl | rfl
    · go_wp2_with fail
      go_roundw
      case rel => exact ⟨1, by omega, rfl, by simp, trivial⟩
      case measure => simp [intOf]
    · go_wp2_with fail
      refine (growR_any l.length _ hl).mono ?_
      rintro e w2 ⟨va2, vc2, rfl, ho2, hb2⟩
      have O2 := hid ho2
      have B2 := hid hb2
      clear ho2 hb2
      go_wp2_with fail
      go_loopw [6, 27] (fun nv iv wt => ∃ (i : Nat) (va : Option Addr) (vc : Nat), i ≤ 1 ∧ iv = .int .i64 i ∧ nv = .slice va (if i = 0 then 0 else l.length) vc ∧ wt.ownsRow w.heap.size 23 2 (.slice va (if i = 0 then 0 else l.length) vc) (if i = 0 then 0 else l.length) (if i = 0 then [] else rvs l) ∧ Below w.heap.size w wt) (fun _ iv _ => 1 - (intOf iv).toNat)
      case atStart => exact ⟨0, va2, vc2, by omega, rfl, rfl, O2.out, B2.out⟩
      case round =>
        obtain ⟨i, va, vc, hi, rfl, rfl, hown, hbe⟩ := hrel
        clear O2 B2
        have hsz := hbe.size
        have y0 : wr.cell? ⟨g, 0, none⟩ = some (.slice a1 l.length c1) := (hbe.cell (p := ⟨g, 0, none⟩) hgl).trans z0
        have BE := hid hbe
        have OW := hid hown
        clear hown hbe
        have hi4 : i = 0 ∨ i = 1 := by omega
        rcases hi4 with rfl | rfl
        · simp only [if_true] at OW ⊢
          go_wp2_with (at_builtin; (refine wpl_appR rfl (.tmp 31) (.tmp 32) rfl w.heap.size (.slice va 0 vc) 0 [] rfl OW.out _ l rfl (H1.out.below BE.out) (by omega) hsz ?_); intro va3 vc3 w3 ho3 hg3; simp only [Nat.zero_add, List.nil_append] at ho3 ⊢; have O3 := hid ho3; have B3 := hid (BE.out.trans (own_bel OW.out hg3 hsz)); clear ho3 hg3)
          go_roundw
          case rel => exact ⟨1, va3, vc3, by omega, rfl, rfl, O3.out, B3.out⟩
          case measure => simp [intOf]
        · go_wp2_with fail
          go_ret
          exact ⟨va, vc, rfl, OW.out, BE.out⟩
end Go.Proofs.YthhcpoafnmhnhaaGreat
