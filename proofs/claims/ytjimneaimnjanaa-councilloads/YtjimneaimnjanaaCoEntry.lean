/- Which entries there may be. Conditions: none. -/
import Derived.Test.YtjimneaimnjanaaCoVot
namespace Go.Proofs.Ytjimneaimnjanaa
open Go.RowKit
set_option linter.unusedVariables false
set_option linter.unusedSimpArgs false

def entB (kind : Int) (s : ByteArray) : Bool := decide (s.size ≤ 4096) && (decide (kind = 0) || decide (kind = 1) || decide (kind = 2) && votB (vtx s))
set_option maxRecDepth 100000 in
set_option maxHeartbeats 1600000 in
theorem mayEntry_any (kind : Int) (s : ByteArray) (w : World) :
    Calls Try.prog 100 #[.int .i64 kind, .string s] w fun e w' => e = .returned (.bool (entB kind s)) ∧ Below w.heap.size w w' := by
  have hu : Try.prog.underlying 9 = some .string := by kernel_rfl
  by_cases h : (4096 : Int) < (s.size : Int)
  · have HE : Hid (entB kind s = false) := hid (by unfold entB; rw [decide_eq_false (by omega)]; rfl)
    go_enter Try.func100, Try.ntmps100
    go_wp2_with fail
    go_ret
    exact ⟨by rw [HE.out]; rfl, Below.refl _ _⟩
  · have hd : decide (s.size ≤ 4096) = true := decide_eq_true (by omega)
    by_cases h0 : kind = 0
    · subst h0
      have HE : Hid (entB 0 s = true) := hid (by unfold entB; rw [hd]; rfl)
      go_enter Try.func100, Try.ntmps100
      go_wp2_with fail
      go_ret
      exact ⟨by rw [HE.out]; rfl, Below.refl _ _⟩
    · by_cases h1 : kind = 1
      · subst h1
        have HE : Hid (entB 1 s = true) := hid (by unfold entB; rw [hd]; rfl)
        go_enter Try.func100, Try.ntmps100
        go_wp2_with fail
        go_ret
        exact ⟨by rw [HE.out]; rfl, Below.refl _ _⟩
      · by_cases h2 : kind = 2
        · subst h2
          have HE : Hid (entB 2 s = votB (vtx s)) := hid (by unfold entB; rw [hd]; rfl)
          have HV := hid (fun W => voters_any s W (by omega))
          go_enter Try.func100, Try.ntmps100
          go_wp2_with (go_at_call 26; refine (HV.out _).mono ?_; rintro e w2 ⟨v2, rfl, hb2, -⟩; have B2 := hid hb2; clear hb2)
          go_ret
          exact ⟨by rw [HE.out]; rfl, B2.out⟩
        · have HE : Hid (entB kind s = false) := hid (by unfold entB; rw [decide_eq_false h0, decide_eq_false h1, decide_eq_false h2]; simp)
          go_enter Try.func100, Try.ntmps100
          go_wp2_with fail
          go_ret
          exact ⟨by rw [HE.out]; rfl, Below.refl _ _⟩
end Go.Proofs.Ytjimneaimnjanaa
