/- Which instances may be, to the document. Conditions: their lists lie in memory. -/
import Derived.Test.YthhcpoafnmhnhaaInRSame
import Derived.Test.YthhcpoafnmhnhaaInRMay
import Derived.Test.YthhcpoafnmhnhaaInMayI
namespace Go.Proofs.Ythhcpoafnmhnhaa
open Go.RowKit
set_option linter.unusedVariables false
set_option linter.unusedSimpArgs false

set_option maxHeartbeats 1600000 in
theorem rmayRef_any (r : Int × Int) (w : World) : Calls Try.prog 30 #[.agg #[.int .i64 r.1, .int .i64 r.2]] w fun e w' => e = .returned (.bool (refB r)) ∧ Below w.heap.size w w' := by
  obtain ⟨a, b⟩ := r
  unfold refB nodeB
  simp only
  cases h0 : decide (0 ≤ a) <;> cases h1 : decide (a < 7) <;> cases h2 : decide (1 ≤ b) <;> cases h3 : decide (b ≤ 1073741824)
  all_goals
    go_enter Try.func30, Try.ntmps30
    go_wp2_with fail
    go_ret
    exact ⟨by rfl, (Below.refl _ _).alloc (Nat.le_refl _) _⟩
set_option maxHeartbeats 1600000 in
theorem rmayBallot_any (r : Int × Int) (w : World) : Calls Try.prog 31 #[.agg #[.int .i64 r.1, .int .i64 r.2]] w fun e w' => e = .returned (.bool (balB r)) ∧ Below w.heap.size w w' := by
  obtain ⟨a, b⟩ := r
  unfold balB nodeB
  simp only
  cases h0 : decide (0 ≤ a) <;> cases h1 : decide (a ≤ 1073741824) <;> cases h2 : decide (0 ≤ b) <;> cases h3 : decide (b < 7)
  all_goals
    go_enter Try.func31, Try.ntmps31
    go_wp2_with fail
    go_ret
    exact ⟨by rfl, (Below.refl _ _).alloc (Nat.le_refl _) _⟩
set_option maxHeartbeats 1600000 in
theorem rless_any (x y : Int × Int) (w : World) : Calls Try.prog 32 #[.agg #[.int .i64 x.1, .int .i64 x.2], .agg #[.int .i64 y.1, .int .i64 y.2]] w fun e w' => e = .returned (.bool (decide (cmp2 x y < 0))) ∧ Below w.heap.size w w' := by
  rw [cmp2_lt]
  obtain ⟨a, b⟩ := x
  obtain ⟨c, d⟩ := y
  simp only
  have e1 : decide (a < c ∨ a = c ∧ b < d) = (decide (a < c) || ((a == c) && decide (b < d))) := by
    rw [Bool.eq_iff_iff]; simp
  rw [e1]
  cases h0 : decide (a < c) <;> cases h1 : (a == c) <;> cases h2 : decide (b < d)
  all_goals
    go_enter Try.func32, Try.ntmps32
    go_wp2_with fail
    go_ret
    exact ⟨by rfl, ((Below.refl _ _).alloc (Nat.le_refl _) _).alloc (by simp) _⟩
set_option maxHeartbeats 1600000 in
theorem r6less_any (x y : Int × Int) (w : World) : Calls Try.prog 9 #[.agg #[.int .i64 x.1, .int .i64 x.2], .agg #[.int .i64 y.1, .int .i64 y.2]] w fun e w' => e = .returned (.bool (refLt x y)) ∧ Below w.heap.size w w' := by
  unfold refLt
  rw [cmp2_lt]
  obtain ⟨a, b⟩ := x
  obtain ⟨c, d⟩ := y
  simp only
  have e1 : decide (a < c ∨ a = c ∧ b < d) = (decide (a < c) || ((a == c) && decide (b < d))) := by
    rw [Bool.eq_iff_iff]; simp
  rw [e1]
  cases h0 : decide (a < c) <;> cases h1 : (a == c) <;> cases h2 : decide (b < d)
  all_goals
    go_enter Try.func9, Try.ntmps9
    go_wp2_with fail
    go_ret
    exact ⟨by rfl, ((Below.refl _ _).alloc (Nat.le_refl _) _).alloc (by simp) _⟩
/-- What the document asks of an instance with Status None. -/
noncomputable def rbare (x : InD) : Bool := eqB x.vote (0, 0) && (!x.same && (cmdEqB x.cmd ⟨0, 0, 0, 0, 0, []⟩ && (x.seq == 0 && x.deps.length == 0)))
/-- What the document asks, in its order. -/
noncomputable def rmayI (x : InD) : Bool :=
  if (!refB x.ref || (!balB x.bal || (!balB x.vote || (decide (cmp2 x.bal x.vote < 0) || (decide (x.st < 0) || (decide (3 < x.st) || (decide (x.seq < 0) || decide (1099511627776 < x.seq)))))))) = true then false
  else if (x.st == 0) = true then rbare x else (List.range x.deps.length).all (depB x.deps) && (mayB x.cmd && decide (x.deps.length ≤ 4096))
theorem cmdEq_zero {c : CmdD} (h : cmdEqB c ⟨0, 0, 0, 0, 0, []⟩ = true) : c = ⟨0, 0, 0, 0, 0, []⟩ := by
  obtain ⟨a0, a1, a2, a3, a4, ad⟩ := c
  unfold cmdEqB eqB at h
  simp only [Bool.and_eq_true, beq_iff_eq, decide_eq_true_eq] at h
  obtain ⟨rfl, rfl, rfl, rfl, rfl, rfl⟩ := h
  rfl
theorem may_zero : mayB ⟨0, 0, 0, 0, 0, []⟩ = true := by kernel_rfl
theorem rmayI_eq (x : InD) : rmayI x = instB x := by
  unfold rmayI instB
  have d1 : decide (x.st < 0) = !decide (0 ≤ x.st) := by rw [Bool.eq_iff_iff]; simp
  have d2 : decide (3 < x.st) = !decide (x.st ≤ 3) := by rw [Bool.eq_iff_iff]; simp
  have d3 : decide (x.seq < 0) = !decide (0 ≤ x.seq) := by rw [Bool.eq_iff_iff]; simp
  have d4 : decide (1099511627776 < x.seq) = !decide (x.seq ≤ 1099511627776) := by rw [Bool.eq_iff_iff]; simp
  rw [d1, d2, d3, d4]
  cases refB x.ref <;> cases balB x.bal <;> cases balB x.vote <;> cases decide (cmp2 x.bal x.vote < 0) <;> cases decide (0 ≤ x.st) <;> cases decide (x.st ≤ 3) <;> cases h5 : decide (0 ≤ x.seq) <;> cases h6 : decide (x.seq ≤ 1099511627776) <;> simp only [Bool.not_true, Bool.not_false, Bool.true_or, Bool.false_or, Bool.or_true, Bool.true_and, Bool.false_and, Bool.and_false, if_true, Bool.false_eq_true, if_false]
  cases h0 : (x.st == 0)
  · simp only [Bool.false_eq_true, if_false, Bool.not_false, Bool.true_or, Bool.and_true]
    unfold depsB
    cases mayB x.cmd <;> cases (List.range x.deps.length).all (depB x.deps) <;> cases decide (x.deps.length ≤ 4096) <;> rfl
  · simp only [if_true, Bool.not_true, Bool.false_or]
    unfold rbare bareB instEqB bareD
    simp only
    have e1 : eqB x.ref x.ref = true := eqB_of rfl
    have e2 : eqB x.bal x.bal = true := eqB_of rfl
    rw [e1, e2, h0]
    simp only [Bool.true_and]
    have es : (x.same == false) = !x.same := by cases x.same <;> rfl
    rw [es]
    cases hv : eqB x.vote (0, 0)
    · simp
    cases x.same
    · cases hc : cmdEqB x.cmd ⟨0, 0, 0, 0, 0, []⟩
      · simp
      · have hc2 := cmdEq_zero hc
        have hm : mayB x.cmd = true := by rw [hc2]; exact may_zero
        rw [hm]
        by_cases hd : x.deps = []
        · have h8 : depsB x.deps = true := by rw [hd]; rfl
          rw [h8, hd, eqB_of rfl]
          simp
        · have h8 : (x.deps.length == 0) = false := by
            rw [beq_eq_false_iff_ne]
            intro h; exact hd (List.eq_nil_of_length_eq_zero h)
          rw [h8, eqB_no hd]
          simp
    · simp
end Go.Proofs.Ythhcpoafnmhnhaa
