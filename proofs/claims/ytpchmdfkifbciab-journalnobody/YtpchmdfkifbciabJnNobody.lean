/- JournalNobody answers true for any bytes; nothing that was there has turned. -/
import Derived.Test.YtpchmdfkifbciabJnNil
import Derived.Test.YtpchmdfkifbciabJnLives
namespace Go.Proofs.Ytpchmdfkifbciab
open Go.RowKit

set_option maxRecDepth 100000 in
set_option maxHeartbeats 3200000 in
theorem nobody_law (v : Value) (b : List UInt8) (w : World) (hb : Bts w v b) :
    Calls Try.prog 4 #[v] w fun e w' => e = .returned (.bool true) ∧ Below w.heap.size w w' := by
  have HI := hid hb
  obtain ⟨ia, ic, rfl⟩ := hb.shape
  clear hb
  go_enter Try.func4, Try.ntmps4
  go_wp2_with fail
  refine (open_nil _).mono ?_
  rintro e w1 ⟨rfl, hb1⟩
  have HB1 := hid hb1
  have HI1 := hid (HI.out.below hb1)
  clear hb1
  go_wp2_with fail
  refine (small_any _ b _ HI1.out).mono ?_
  rintro e w2 ⟨ja, jn, jc, rfl, hj1, -, rfl⟩
  have HJ := hid hj1
  clear hj1
  have HL : Hid ((b.take 3000).length ≤ 3000) := hid (by simp; omega)
  go_wp2_with fail
  refine (format_nil _ _ _ HJ.out (by have := HL.out; omega)).mono ?_
  rintro e w3 ⟨rfl, hb3⟩
  have HB3 := hid (HB1.out.trans (hb3.mono HB1.out.size))
  clear hb3 HJ
  go_wp2_with fail
  refine (new_ok 2 _ (by omega) (by omega)).mono ?_
  rintro e w4 ⟨db, RD, rfl, hd4, hr4, hb4⟩
  have HD4 := hid hd4
  have HB4 := hid (HB3.out.trans (hb4.mono HB3.out.size))
  clear hd4 hr4 hb4
  go_wp2_with fail
  refine (open_bad db RD (newS 2) 8 _ HD4.out rfl (.inl ⟨by decide, rfl⟩)).mono ?_
  rintro e w5 ⟨rfl, hb5⟩
  have HB5 := hid (HB4.out.trans (hb5.mono HB4.out.size))
  have HI5 := hid (HI.out.below HB5.out)
  clear hb5 HD4
  go_wp2_with fail
  refine (small_any _ b _ HI5.out).mono ?_
  rintro e w6 ⟨ka, kn, kc, rfl, hk1, -, rfl⟩
  have HK := hid hk1
  clear hk1
  go_wp2_with fail
  refine (frame_any _ _ _ HK.out (by have := HL.out; omega)).mono ?_
  rintro e w7 ⟨fa, fc, rfl, -, hb7⟩
  have HB7 := hid (HB5.out.trans (hb7.mono HB5.out.size))
  clear hb7 HK HL
  obtain ⟨fl, hfl⟩ : ∃ fl : Nat, fl = (b.take 3000).length := ⟨_, rfl⟩
  rw [← hfl]
  clear hfl
  have hpos : (0 : Int) < (fl : Int) + 8 := by omega
  go_wp2_with (first
    | (go_at_call 9; refine (jadd_nil _ _ _ _).mono ?_; rintro e w8 ⟨rfl, rfl⟩)
    | (go_at_call 13; refine (jsync_nil _).mono ?_; rintro e w8 ⟨rfl, rfl⟩)
    | (go_at_call 14; refine (jsave_nil _ _ _ _).mono ?_; rintro e w8 ⟨rfl, rfl⟩)
    | (go_at_call 11; refine (jdown_nil _).mono ?_; rintro e w8 ⟨rfl, rfl⟩)
    | (go_at_call 12; refine (jcount_nil _).mono ?_; rintro e w8 ⟨rfl, rfl⟩)
    | (go_at_call 18; refine (jsize_nil _).mono ?_; rintro e w8 ⟨rfl, rfl⟩)
    | (go_at_call 15; refine (jimage_nil _).mono ?_; rintro e w8 ⟨rfl, rfl⟩)
    | (go_at_call 19; refine (jrecords_nil _).mono ?_; rintro e w8 ⟨rfl, rfl⟩)
    | (go_at_call 5; refine (jlives_any _).mono ?_; rintro e w12 ⟨rfl, hb12⟩; have HB12 := hid (HB7.out.trans (hb12.mono HB7.out.size)); clear hb12))
  go_ret
  exact ⟨rfl, HB12.out⟩
end Go.Proofs.Ytpchmdfkifbciab
