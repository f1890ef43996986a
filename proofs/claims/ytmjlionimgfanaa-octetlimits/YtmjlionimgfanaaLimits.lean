/- OctetLimits answers true for any number; nothing that was there has turned. -/
import Derived.Test.YtmjlionimgfanaaNil
import Derived.Test.YtmjlionimgfanaaFrame
import Derived.Test.YtmjlionimgfanaaLives
import Derived.Deep.DeepCutAuto
namespace Go.Proofs.Ytmjlionimgfanaa
open Go.RowKit

theorem own_zeros {w : World} {base g m : Nat} (h : w.ownsRow base 5 1 (.slice (some ⟨g, 0, none⟩) m m) m (madeCells (Value.int .u8 0).cells (m * 1)).toList) : Own w base (.slice (some ⟨g, 0, none⟩) m m) (List.replicate m 0) := by
  show World.ownsRow _ _ _ _ _ (List.replicate m (0 : UInt8)).length ((List.replicate m (0 : UInt8)).map bv)
  rw [List.length_replicate, List.map_replicate]
  have e : (madeCells (Value.int .u8 0).cells (m * 1)).toList = List.replicate m (bv 0) := by
    rw [Nat.mul_one]; exact toList_madeCells_one _ _
  rw [← e]; exact h
set_option maxRecDepth 100000 in
set_option maxHeartbeats 3200000 in
theorem limits_law (n : Int) (w : World) (hn0 : -9223372036854775808 ≤ n) (hn1 : n ≤ 9223372036854775807) :
    Calls Try.prog 4 #[.int .i64 n] w fun e w' => e = .returned (.bool true) ∧ Below w.heap.size w w' := by
  obtain ⟨m, hm⟩ : ∃ m : Nat, (m : Int) = max 0 (min n 1048581) := ⟨(max 0 (min n 1048581)).toNat, by omega⟩
  have hm2 : (m : Int) ≤ 1048581 := by omega
  go_enter Try.func4, Try.ntmps4
  go_upto_region 1 with fail
  go_cut [0] (fun t wc => t = .int .i64 (m : Int) ∧ wc = w)
  case first =>
    have HM := hid hm
    clear hm
    go_wp2_with fail
    all_goals
      go_meet
      case rel =>
        have := HM.out
        exact ⟨congrArg (Value.int .i64) (by omega), rfl⟩
  case rest =>
    obtain ⟨rfl, rfl⟩ := hcut
    clear hm hn0 hn1
    obtain ⟨i0, hi, hz0, hz1, hz2⟩ := info_parts Try.infoB
    have HI := hid hi
    have HZ0 := hid hz0
    have HZ1 := hid hz1
    have HZ2 := hid hz2
    clear hi hz0 hz1 hz2
    by_cases hbig : (m : Int) ≤ 1048576
    · go_wp2_with (at_make; refine wpList_make_full _ rfl _ _ 22 rfl wc.heap.size 5 i0 (.int .u8 0) 1 Try.underlyingB HI.out HZ0.out HZ1.out .i64 .i64 _ _ m rfl rfl rfl rfl (by rw [HZ2.out]; omega) (by unfold maxLen; omega) (Nat.le_refl _) ?_; intro w2 ho2 hg2; have HO2 := hid (own_zeros ho2); have HB2 : Hid (Below wc.heap.size wc w2) := hid ⟨hg2.os, hg2.tape, hg2.output, hg2.size, fun k hk => hg2.block k hk (by simp)⟩; clear ho2 hg2)
      refine (frame_any _ _ _ HO2.out.bts (by simp; omega)).mono ?_
      rintro e w3 ⟨va, vc, rfl, ho3, hb3⟩
      rw [List.length_replicate]
      have HB3 := hid (HB2.out.trans (hb3.mono HB2.out.size))
      clear ho3 hb3 HO2 HB2
      go_wp2_with (first
                    | (go_at_call 8; refine (bad_nil _).mono ?_; rintro e w20 ⟨rfl, rfl⟩)
                    | (go_at_call 18; refine (end_nil _).mono ?_; rintro e w21 ⟨rfl, rfl⟩)
                    | (go_at_call 11; refine (left_nil _).mono ?_; rintro e w22 ⟨rfl, rfl⟩)
                    | (go_at_call 7; refine (num_nil _).mono ?_; rintro e w23 ⟨rfl, rfl⟩)
                    | (go_at_call 12; refine (int_nil _).mono ?_; rintro e w24 ⟨rfl, rfl⟩)
                    | (go_at_call 19; refine (byte_nil _).mono ?_; rintro e w25 ⟨rfl, rfl⟩)
                    | (go_at_call 20; refine (bool_nil _).mono ?_; rintro e w26 ⟨rfl, rfl⟩)
                    | (go_at_call 14; refine (text_nil _).mono ?_; rintro e w27 ⟨rfl, rfl⟩)
                    | (go_at_call 21; refine (get_nil _ _).mono ?_; rintro e w28 ⟨rfl, rfl⟩)
                    | (go_at_call 16; refine (lives_any _).mono ?_; rintro e w10 ⟨rfl, hb10⟩; have HB10 := hid hb10; clear hb10))
      go_ret
      exact ⟨rfl, HB3.out.trans (HB10.out.mono HB3.out.size)⟩
    · go_wp2_with (at_make; refine wpList_make_full _ rfl _ _ 22 rfl wc.heap.size 5 i0 (.int .u8 0) 1 Try.underlyingB HI.out HZ0.out HZ1.out .i64 .i64 _ _ m rfl rfl rfl rfl (by rw [HZ2.out]; omega) (by unfold maxLen; omega) (Nat.le_refl _) ?_; intro w2 ho2 hg2; have HO2 := hid (own_zeros ho2); have HB2 : Hid (Below wc.heap.size wc w2) := hid ⟨hg2.os, hg2.tape, hg2.output, hg2.size, fun k hk => hg2.block k hk (by simp)⟩; clear ho2 hg2)
      refine (frame_big _ _ _ HO2.out.bts (by simp; omega)).mono ?_
      rintro e w3 ⟨rfl, rfl⟩
      have HB3 := HB2
      clear HO2 HB2
      go_wp2_with (first
                    | (go_at_call 8; refine (bad_nil _).mono ?_; rintro e w20 ⟨rfl, rfl⟩)
                    | (go_at_call 18; refine (end_nil _).mono ?_; rintro e w21 ⟨rfl, rfl⟩)
                    | (go_at_call 11; refine (left_nil _).mono ?_; rintro e w22 ⟨rfl, rfl⟩)
                    | (go_at_call 7; refine (num_nil _).mono ?_; rintro e w23 ⟨rfl, rfl⟩)
                    | (go_at_call 12; refine (int_nil _).mono ?_; rintro e w24 ⟨rfl, rfl⟩)
                    | (go_at_call 19; refine (byte_nil _).mono ?_; rintro e w25 ⟨rfl, rfl⟩)
                    | (go_at_call 20; refine (bool_nil _).mono ?_; rintro e w26 ⟨rfl, rfl⟩)
                    | (go_at_call 14; refine (text_nil _).mono ?_; rintro e w27 ⟨rfl, rfl⟩)
                    | (go_at_call 21; refine (get_nil _ _).mono ?_; rintro e w28 ⟨rfl, rfl⟩)
                    | (go_at_call 16; refine (lives_any _).mono ?_; rintro e w10 ⟨rfl, hb10⟩; have HB10 := hid hb10; clear hb10))
      go_ret
      exact ⟨rfl, HB3.out.trans (HB10.out.mono HB3.out.size)⟩
end Go.Proofs.Ytmjlionimgfanaa
