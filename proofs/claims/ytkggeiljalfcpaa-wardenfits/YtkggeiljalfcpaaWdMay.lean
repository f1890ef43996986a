/- Which rules there may be. No condition. -/
import Derived.Test.YtkggeiljalfcpaaAtBase
import Derived.Deep.MidRow
namespace Go.Proofs.Ytkggeiljalfcpaa
open Go.RowKit
set_option linter.unusedVariables false
set_option linter.unusedSimpArgs false

/-- Rules. -/
structure RuD where
  hot : Int
  cold : Int
  long : Int
  mute : Int
  cap : Int
def ruV (r : RuD) : Value := .agg #[.int .i64 r.hot, .int .i64 r.cold, .int .i64 r.long, .int .i64 r.mute, .int .i64 r.cap]
def ruL (r : RuD) : List Int := [r.hot, r.cold, r.long, r.mute, r.cap]
def okN (n : Int) : Bool := decide (0 ≤ n) && decide (n ≤ 1073741824)
def mayB (r : RuD) : Bool := (ruL r).all okN
theorem may_no {r : RuD} {i : Nat} (h : i < 5) (hn : okN ((ruL r).getD i 0) = false) : mayB r = false := by
  unfold mayB
  rw [List.all_eq_false]
  have hl : i < (ruL r).length := h
  refine ⟨(ruL r)[i], List.getElem_mem hl, ?_⟩
  rw [show (ruL r).getD i 0 = (ruL r)[i] from by simp [List.getD, List.getElem?_eq_getElem hl]] at hn
  rw [hn]; simp
theorem may_yes {r : RuD} (h : ∀ j, j < 5 → okN ((ruL r).getD j 0) = true) : mayB r = true := by
  unfold mayB
  rw [List.all_eq_true]
  intro n hn
  obtain ⟨j, hj, rfl⟩ := List.mem_iff_getElem.1 hn
  have := h j hj
  rwa [show (ruL r).getD j 0 = (ruL r)[j] from by simp [List.getD, List.getElem?_eq_getElem hj]] at this
theorem Try.underlying5i : Try.prog.underlying 101 = some (.array 5 3) := by kernel_rfl
theorem index5 (a0 a1 a2 a3 a4 : Int) (i : Nat) (h : i < 5) (x : Int) (hx : [a0, a1, a2, a3, a4].getD i 0 = x) (w : World) :
    (Instr.index 101 (.agg #[.int .i64 a0, .int .i64 a1, .int .i64 a2, .int .i64 a3, .int .i64 a4]) (.int .i64 (i : Int))).run Try.prog w = .ok (.int .i64 x) w := by
  subst hx
  match i, h with
  | 0, h => simp [Instr.index, run_underlying Try.underlying5i, asIntOf, go_sem]
  | 1, h => simp [Instr.index, run_underlying Try.underlying5i, asIntOf, go_sem]
  | 2, h => simp [Instr.index, run_underlying Try.underlying5i, asIntOf, go_sem]
  | 3, h => simp [Instr.index, run_underlying Try.underlying5i, asIntOf, go_sem]
  | 4, h => simp [Instr.index, run_underlying Try.underlying5i, asIntOf, go_sem]
set_option maxRecDepth 100000 in
set_option maxHeartbeats 4000000 in
theorem may_any (r : RuD) (w : World) :
    Calls Try.prog 16 #[ruV r] w fun e w' => e = .returned (.bool (mayB r)) ∧ Below w.heap.size w w' := by
  obtain ⟨r0, r1, r2, r3, r4⟩ := r
  have B0 : Hid (Below w.heap.size w (w.alloc (.cells #[.int .i64 r0, .int .i64 r1, .int .i64 r2, .int .i64 r3, .int .i64 r4] 24))) := hid ((Below.refl _ _).alloc (Nat.le_refl _) _)
  obtain ⟨R, hR⟩ : ∃ R : RuD, R = ⟨r0, r1, r2, r3, r4⟩ := ⟨_, rfl⟩
  rw [← hR]
  have HR := hid hR
  unfold ruV
  rw [hR]
  simp only
  rw [← hR]
  clear hR
  go_enter Try.func16, Try.ntmps16
  go_wp2_with fail
  obtain ⟨w1, hw1⟩ : ∃ w1, w1 = w.alloc (.cells #[.int .i64 r0, .int .i64 r1, .int .i64 r2, .int .i64 r3, .int .i64 r4] 24) := ⟨_, rfl⟩
  rw [← hw1] at B0
  rw [← hw1]
  clear hw1
  go_loopw [4, 16] (fun _ iv wr => ∃ i : Nat, iv = .int .i64 i ∧ i ≤ 5 ∧ (∀ j, j < i → okN ((ruL R).getD j 0) = true) ∧ wr = w1) (fun _ iv _ => 5 - (intOf iv).toNat)
  case atStart => exact ⟨0, rfl, by omega, (fun j hj => by omega), rfl⟩
  case round =>
    obtain ⟨i, rfl, hi, hall, rfl⟩ := hrel
    have HALL := hid hall
    clear hall
    by_cases h5 : i = 5
    · subst h5
      have HY := hid (may_yes HALL.out)
      go_wp2_with fail
      go_ret
      exact ⟨by rw [HY.out]; rfl, B0.out⟩
    · have HN : Hid (okN ((ruL R).getD i 0) = false → mayB R = false) := hid fun h => may_no (by omega) h
      have HS : Hid (okN ((ruL R).getD i 0) = true → ∀ j, j < i + 1 → okN ((ruL R).getD j 0) = true) := hid fun h j hj => by
        rcases Nat.lt_or_ge j i with h1 | h1
        · exact HALL.out j h1
        · have e : j = i := by omega
          rw [e]; exact h
      obtain ⟨x, hx⟩ : ∃ x, x = (ruL R).getD i 0 := ⟨_, rfl⟩
      have hix := index5 r0 r1 r2 r3 r4 i (by omega) x (by rw [hx, HR.out]; rfl)
      rw [← hx] at HN HS
      have hi5 : (i : Int) < 5 := by omega
      clear h5 hx
      cases hok : okN x with
      | false =>
        have HNO := hid (HN.out hok)
        unfold okN at hok
        rcases Bool.and_eq_false_iff.1 hok with h1 | h1
        · have h1' : x < 0 := by have := of_decide_eq_false h1; omega
          clear hok h1
          go_wp2_with fail
          go_ret
          exact ⟨by rw [HNO.out]; rfl, B0.out⟩
        · have h1' : 1073741824 < x := by have := of_decide_eq_false h1; omega
          have h2' : ¬ x < 0 := by omega
          clear hok h1
          go_wp2_with fail
          go_ret
          exact ⟨by rw [HNO.out]; rfl, B0.out⟩
      | true =>
        have HY := hid (HS.out hok)
        unfold okN at hok
        simp only [Bool.and_eq_true, decide_eq_true_eq] at hok
        obtain ⟨h1, h2⟩ := hok
        have h1' : ¬ x < 0 := by omega
        have h2' : ¬ 1073741824 < x := by omega
        clear h1 h2
        go_wp2_with fail
        go_roundw
        case rel => exact ⟨_, by go_num, by omega, HY.out, by first | rfl | trivial⟩
        case measure => simp [intOf]; omega
end Go.Proofs.Ytkggeiljalfcpaa
