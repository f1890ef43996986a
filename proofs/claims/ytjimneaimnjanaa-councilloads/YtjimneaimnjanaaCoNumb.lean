/- Are they numbers from 0 to the greatest one? -/
import Derived.Test.YtjimneaimnjanaaCoVot
namespace Go.Proofs.Ytjimneaimnjanaa
open Go.RowKit
set_option linter.unusedVariables false
set_option linter.unusedSimpArgs false

def nmB (n : Int) : Bool := decide (0 ≤ n) && decide (n ≤ 1099511627776)
set_option maxRecDepth 100000 in
set_option maxHeartbeats 4000000 in
theorem areNumbers_any (l : List Int) (v : Value) (w : World) (hv : Nums w v l) :
    Calls Try.prog 80 #[v] w fun e w' => e = .returned (.bool (l.all nmB)) ∧ w' = w := by
  have HV := hid hv
  have hL := hv.len
  obtain ⟨va, vc, rfl⟩ := hv.shape
  clear hv
  go_enter Try.func80, Try.ntmps80
  go_wp2_with fail
  go_loopw [4, 7] (fun _ iv wr => ∃ i : Nat, iv = .int .i64 i ∧ i ≤ l.length ∧ (l.take i).all nmB = true ∧ wr = w) (fun _ iv _ => l.length - (intOf iv).toNat)
  case atStart => exact ⟨0, rfl, Nat.zero_le _, by simp, rfl⟩
  case round =>
    obtain ⟨i, rfl, hi, hall, hwr⟩ := hrel
    replace hwr := hwr.symm
    subst hwr
    have HALL := hid hall
    clear hall
    by_cases hlt : (i : Int) < (l.length : Int)
    · have hil : i < l.length := by omega
      obtain ⟨gd, od, rfl⟩ := HV.out.addr (by omega)
      have c0 := HV.out.lit i hil
      have HNX : Hid ((l.take (i + 1)).all nmB = nmB l[i]) := hid (by rw [List.take_succ_eq_append_getElem hil, List.all_append, HALL.out]; simp)
      have HNO : Hid (nmB l[i] = false → l.all nmB = false) := hid fun h => List.all_eq_false.2 ⟨l[i], List.getElem_mem hil, by rw [h]; simp⟩
      generalize l[i] = x at *
      by_cases h0 : x < 0
      · have HE := hid (HNO.out (by unfold nmB; rw [decide_eq_false (by omega)]; rfl))
        go_wp2_with fail
        go_ret
        exact ⟨by rw [HE.out]; rfl, rfl⟩
      · have hd : decide (x < 0) = false := decide_eq_false h0
        by_cases h1 : (1099511627776 : Int) < x
        · have HE := hid (HNO.out (by unfold nmB; rw [decide_eq_false (show ¬ x ≤ 1099511627776 by omega)]; simp))
          go_wp2_with fail
          go_ret
          exact ⟨by rw [HE.out]; rfl, rfl⟩
        · have HE : Hid ((l.take (i + 1)).all nmB = true) := hid (by rw [HNX.out]; unfold nmB; rw [decide_eq_true (by omega), decide_eq_true (by omega)]; rfl)
          go_wp2_with fail
          go_roundw
          case rel => exact ⟨i + 1, by go_num, by omega, HE.out, by first | rfl | trivial⟩
          case measure => simp [intOf]; omega
    · obtain rfl : i = l.length := by omega
      rw [List.take_length] at HALL
      go_wp2_with fail
      go_ret
      exact ⟨by rw [HALL.out]; rfl, rfl⟩
end Go.Proofs.Ytjimneaimnjanaa
