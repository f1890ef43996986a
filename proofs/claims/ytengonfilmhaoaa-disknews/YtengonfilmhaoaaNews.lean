/- DiskNews answers true for every number of sectors; nothing that was there has turned. -/
import Derived.Test.YtengonfilmhaoaaDkLives
namespace Go.Proofs.Ytengonfilmhaoaa
open Go.RowKit

theorem new_told {k : Nat} : toldL (newS k) (newS k).image = [] ∧ toldE (newS k) = 0 ∧ usedS (newS k) = 0 ∧ (newS k).room = k ∧ (newS k).off = false := ⟨rfl, rfl, by simp [usedS, newS, sec], rfl, rfl⟩
set_option maxHeartbeats 1600000 in
theorem news_any (n : Int) (w : World) : Calls Try.prog 4 #[.int .i64 n] w fun e w' => e = .returned (.bool true) ∧ Below w.heap.size w w' := by
  by_cases h : n < 1 ∨ 65536 < n
  · by_cases h1 : n < 1
    · have d1 : decide (1 ≤ n) = false := by simp; omega
      go_enter Try.func4, Try.ntmps4
      go_wp2_with (first | (go_at_call 9; refine (new_bad n _ h).mono ?_; rintro e w1 ⟨rfl, rfl⟩) | (go_at_call 15; refine (lives_any _).mono ?_; rintro e w2 ⟨rfl, hb2⟩; have HB := hid hb2; clear hb2))
      go_ret
      exact ⟨rfl, HB.out⟩
    · have d1 : 1 ≤ n := by omega
      have d2 : decide (n ≤ 65536) = false := by simp; omega
      go_enter Try.func4, Try.ntmps4
      go_wp2_with (first | (go_at_call 9; refine (new_bad n _ h).mono ?_; rintro e w1 ⟨rfl, rfl⟩) | (go_at_call 15; refine (lives_any _).mono ?_; rintro e w2 ⟨rfl, hb2⟩; have HB := hid hb2; clear hb2))
      go_ret
      exact ⟨rfl, HB.out⟩
  · obtain ⟨k, rfl⟩ : ∃ k : Nat, n = k := ⟨n.toNat, by omega⟩
    have hk1 : 1 ≤ k := by omega
    have hk2 : k ≤ 65536 := by omega
    have d1 : (1 : Int) ≤ (k : Int) := by omega
    have d2 : (k : Int) ≤ 65536 := by omega
    clear h
    go_enter Try.func4, Try.ntmps4
    go_wp2_with (first | (go_at_call 9; refine (new_ok k _ hk1 hk2).mono ?_; rintro e w1 ⟨b, R, rfl, hd1, hr1, hb1⟩; have D1 := hid hd1; have HB1 := hid hb1; clear hd1 hr1 hb1))
    refine (image_any _ _ _ _ D1.out).mono ?_
    rintro e w2 ⟨va, vc, rfl, ho2, hb2⟩
    have D2 := hid (D1.out.below hb2)
    have HB2 := hid (HB1.out.trans (hb2.mono HB1.out.size))
    clear ho2 hb2 D1 HB1
    rw [new_told.1, new_told.2.1, show ([] : List UInt8).length = 0 from rfl]
    go_wp2_with (first | (go_at_call 18; refine (used_any _ _ _ _ (D2.out.below (drewN_below _ 0))).mono ?_; rw [new_told.2.2.1]; rintro e w13 ⟨rfl, n13, rfl⟩) | (go_at_call 17; refine (room_any _ _ _ _ D2.out).mono ?_; rw [new_told.2.2.2.1]; rintro e w14 ⟨rfl, rfl⟩) | (go_at_call 19; refine (off_any b R (newS k) _ (D2.out.below (drewN_below _ _))).mono ?_; rw [new_told.2.2.2.2]; rintro e w15 ⟨rfl, rfl⟩) | (go_at_call 15; refine (lives_any _).mono ?_; rintro e w3 ⟨rfl, hb3⟩; have HB := hid hb3; clear hb3))
    go_ret
    exact ⟨rfl, (HB2.out.trans ((drewN_below _ _).mono HB2.out.size)).trans (HB.out.mono HB2.out.size)⟩
end Go.Proofs.Ytengonfilmhaoaa
