/- The law AtlasNews: which maps there may be, and which rows are members. Conditions: the members lie in memory. -/
import Derived.Test.YtplpbnglcfdaaaaAtAlike
namespace Go.Proofs.Ytplpbnglcfdaaaa
open Go.RowKit Go.Maps Go.Shelf
set_option linter.unusedVariables false
set_option linter.unusedSimpArgs false

set_option maxRecDepth 100000 in
set_option maxHeartbeats 8000000 in
theorem atlasNews_any (bl : Int) (l : List Int) (v : Value) (w : World) (hv : Nums w v l) :
    Calls Try.prog 4 #[.int .i64 bl, v] w fun e w' => e = .returned (.bool true) ∧ Below w.heap.size w w' := by
  have HV := hid hv
  have hL := hv.len
  obtain ⟨va, vc, rfl⟩ := hv.shape
  clear hv
  by_cases h20 : (20 : Int) < (l.length : Int)
  · go_enter Try.func4, Try.ntmps4
    go_wp2_with (go_at_call 9; refine (lives_any _).mono ?_; rintro e w2 ⟨rfl, hb2⟩; have B2 := hid hb2; clear hb2)
    go_ret
    exact ⟨rfl, B2.out⟩
  have HL20 : Hid (l.length ≤ 20) := hid (by omega)
  have HIM0 := hid (fun W (hW : Nums W (.slice va l.length vc) l) => isMembers_any l _ W hW)
  have HRM0 := hid (fun W (hW : Nums W (.slice va l.length vc) l) => rmembers_any l _ W hW)
  have HNO0 := hid (fun (hn : anewB bl l = false) => anew_no bl l _ w HV.out hn)
  have HYE0 := hid (fun (hn : anewB bl l = true) => anew_yes bl l _ w HV.out (by have := HL20.out; omega) hn)
  have HB : Hid (anewB bl l = (decide (1 ≤ bl) && (decide (bl ≤ 256) && memB l))) := hid rfl
  generalize memB l = mb at *
  have HIM := hid (HIM0.out w HV.out)
  have HRM := hid (HRM0.out w HV.out)
  by_cases h1 : bl < 1
  · have HNO := hid (HNO0.out (by rw [HB.out, decide_eq_false (show ¬ 1 ≤ bl by omega)]; rfl))
    have g1 : ¬ 1 ≤ bl := by omega
    clear HNO0 HYE0 HB
    cases mb
    all_goals
      go_enter Try.func4, Try.ntmps4
      go_wp2_with (first | (go_at_call 10; refine HNO.out.mono ?_; rintro e w2 ⟨rfl, hw2⟩; replace hw2 := hw2.symm; subst hw2) | (go_at_call 12; refine HIM.out.mono ?_; rintro e w2 ⟨rfl, hw2⟩; replace hw2 := hw2.symm; subst hw2) | (go_at_call 11; refine HRM.out.mono ?_; rintro e w2 ⟨rfl, hw2⟩; replace hw2 := hw2.symm; subst hw2) | (go_at_call 9; refine (lives_any _).mono ?_; rintro e w9 ⟨rfl, hb9⟩; have B9 := hid hb9; clear hb9))
      go_ret
      exact ⟨rfl, B9.out⟩
  by_cases h2 : 256 < bl
  · have HNO := hid (HNO0.out (by rw [HB.out, decide_eq_false (show ¬ bl ≤ 256 by omega), Bool.false_and, Bool.and_false]))
    have g2 : ¬ bl ≤ 256 := by omega
    have g1 : 1 ≤ bl := by omega
    clear HNO0 HYE0 HB h1
    cases mb
    all_goals
      go_enter Try.func4, Try.ntmps4
      go_wp2_with (first | (go_at_call 10; refine HNO.out.mono ?_; rintro e w2 ⟨rfl, hw2⟩; replace hw2 := hw2.symm; subst hw2) | (go_at_call 12; refine HIM.out.mono ?_; rintro e w2 ⟨rfl, hw2⟩; replace hw2 := hw2.symm; subst hw2) | (go_at_call 11; refine HRM.out.mono ?_; rintro e w2 ⟨rfl, hw2⟩; replace hw2 := hw2.symm; subst hw2) | (go_at_call 9; refine (lives_any _).mono ?_; rintro e w9 ⟨rfl, hb9⟩; have B9 := hid hb9; clear hb9))
      go_ret
      exact ⟨rfl, B9.out⟩
  have g1 : 1 ≤ bl := by omega
  have g2 : bl ≤ 256 := by omega
  cases mb with
  | false =>
    have HNO := hid (HNO0.out (by rw [HB.out, Bool.and_false, Bool.and_false]))
    clear HNO0 HYE0 HB h1 h2
    go_enter Try.func4, Try.ntmps4
    go_wp2_with (first | (go_at_call 10; refine HNO.out.mono ?_; rintro e w2 ⟨rfl, hw2⟩; replace hw2 := hw2.symm; subst hw2) | (go_at_call 12; refine HIM.out.mono ?_; rintro e w2 ⟨rfl, hw2⟩; replace hw2 := hw2.symm; subst hw2) | (go_at_call 11; refine HRM.out.mono ?_; rintro e w2 ⟨rfl, hw2⟩; replace hw2 := hw2.symm; subst hw2) | (go_at_call 9; refine (lives_any _).mono ?_; rintro e w9 ⟨rfl, hb9⟩; have B9 := hid hb9; clear hb9))
    go_ret
    exact ⟨rfl, B9.out⟩
  | true =>
    have HYE := hid (HYE0.out (by rw [HB.out, decide_eq_true g1, decide_eq_true g2]; rfl))
    have HBL : Hid (1 ≤ bl ∧ bl ≤ 256) := hid ⟨g1, g2⟩
    have AIN : Hid (∀ mv pv, AIn ⟨bl, 1, 2, []⟩ [⟨⟨1, 0, bl, l, []⟩, mv, pv⟩]) := hid fun mv pv => ⟨⟨rfl, by show (0 : Int) < bl; omega, rfl⟩, by intro x hx; rw [List.mem_singleton.1 hx]; exact ⟨by show l.length ≤ _; have := HL20.out; omega, by show 0 ≤ _; omega, by intro o ho; cases ho⟩, by intro x hx; rw [List.mem_singleton.1 hx]; exact ⟨by show (1 : Int) ≤ 1; omega, by show (1 : Int) ≤ 4611686018427387904; omega⟩, by intro x hx y hy _; rw [List.mem_singleton.1 hx, List.mem_singleton.1 hy], by simp, by simp, by show bl ≤ _; omega⟩
    clear HNO0 HYE0 HB h1 h2 HIM HRM
    go_enter Try.func4, Try.ntmps4
    go_wp2_with (first | (go_at_call 10; refine HYE.out.mono ?_; rintro e w2 ⟨b, wb, mb, D, mv, pv, rfl, ha2, hb2, -⟩; have A2 := hid ha2; have B2 := hid hb2; have HIM := hid (HIM0.out _ (HV.out.below hb2)); have HRM := hid (HRM0.out _ (HV.out.below hb2)); have HN2 := hid (HV.out.below hb2); clear ha2 hb2) | (go_at_call 12; refine HIM.out.mono ?_; rintro e w3 ⟨rfl, hw3⟩; replace hw3 := hw3.symm; subst hw3) | (go_at_call 11; refine HRM.out.mono ?_; rintro e w3 ⟨rfl, hw3⟩; replace hw3 := hw3.symm; subst hw3) | (go_at_call 13; refine (rnewA_any bl l _ _ HN2.out).mono ?_; rintro e w4 ⟨xb, sv, rfl, hr4, hb4⟩; have R4 := hid hr4; have A4 := hid (A2.out.below hb4); have B4 := hid (B2.out.trans (hb4.mono B2.out.size)); clear hr4 hb4) | (go_at_call 8; refine (alike_any b wb mb 1 xb _ _ _ D _ _ _ _ A4.out (AIN.out mv pv) R4.out rfl).mono ?_; rintro e w5 ⟨rfl, hb5⟩; have B5 := hid (B4.out.trans (hb5.mono B4.out.size)); clear hb5) | (go_at_call 9; refine (lives_any _).mono ?_; rintro e w9 ⟨rfl, hb9⟩; have B9 := hid (B5.out.trans (hb9.mono B5.out.size)); clear hb9))
    go_ret
    exact ⟨rfl, B9.out⟩
end Go.Proofs.Ytplpbnglcfdaaaa
