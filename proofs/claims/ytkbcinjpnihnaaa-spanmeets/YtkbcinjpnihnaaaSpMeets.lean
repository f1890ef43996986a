/- The law SpanMeets, walked. No condition but that the rows lie in memory. -/
import Derived.Test.YtkbcinjpnihnaaaSpMeet
import Derived.Test.YtkbcinjpnihnaaaSpNorms
namespace Go.Proofs.Ytkbcinjpnihnaaa
open Go.RowKit Go.Shelf

set_option maxHeartbeats 3200000 in
theorem meets_any (u v : Value) (x y : List Sp) (w : World) (hu : Sps w u x) (hv : Sps w v y) :
    Calls Try.prog 5 #[u, v] w fun e w' => e = .returned (.bool true) ∧ Below w.heap.size w w' := by
  have HU := hid hu
  have HV := hid hv
  obtain ⟨a0, c0, rfl⟩ := hu.shape
  obtain ⟨a1, c1, rfl⟩ := hv.shape
  clear hu hv
  go_enter Try.func5, Try.ntmps5
  go_wp2_with fail
  refine (cut_any _ x w HU.out).mono ?_
  rintro e w0 ⟨va, vc, rfl, hs, rfl⟩
  have hml : (x.take 60).length ≤ 60 := by simp; omega
  generalize x.take 60 = a at hs hml ⊢
  have HS := hid hs
  clear hs
  go_wp2_with fail
  refine (cut_any _ y _ HV.out).mono ?_
  rintro e w0 ⟨ua, uc, rfl, ht, rfl⟩
  have hnl : (y.take 60).length ≤ 60 := by simp; omega
  generalize y.take 60 = b at ht hnl ⊢
  have HT := hid ht
  clear ht HU HV
  go_wp2_with fail
  refine (meet_any _ _ a b _ HS.out HT.out (by omega) (by omega)).mono ?_
  rintro e w1 ⟨r, va1, vc1, hn, rfl, ho1, hb1⟩
  have R1 := hid ho1.sps
  have B1 := hid hb1
  have S1 := hid (HS.out.below hb1)
  have T1 := hid (HT.out.below hb1)
  have N1 := hid hn
  have hrl : r.length ≤ 120 := by have := hn.len; omega
  clear ho1 hb1 HS HT hn
  go_wp2_with fail
  refine (rof_1 _ _ a b _ S1.out T1.out (by omega) (by omega)).mono ?_
  rintro e w4 ⟨va4, vc4, rfl, ho4, hb4⟩
  have hof : ofL a b (keepF 1 a b) = r := by
    have h := of1_plain a b
    refine plain_unique h.1 N1.out.plain fun k => ?_
    rw [h.2 k, N1.out.mem k]
  rw [hof] at ho4 ⊢
  have F4 := hid ho4.sps
  have R4 := hid (R1.out.below hb4)
  have B4 := hid (B1.out.trans (hb4.mono B1.out.size))
  clear ho4 hb4 hof S1 T1 B1 R1
  go_wp2_with fail
  refine (rsame_any _ _ r r _ R4.out F4.out (by omega)).mono ?_
  rintro e w5 ⟨rfl, hb5⟩
  have hd : decide (r = r) = true := decide_eq_true rfl
  rw [hd]
  have B5 := hid (B4.out.trans (hb5.mono B4.out.size))
  clear hd hb5 B4 F4 R4
  go_wp2_with fail
  refine (lives_any _).mono ?_
  rintro e w8 ⟨rfl, hb8⟩
  have B8 := hid (B5.out.trans (hb8.mono B5.out.size))
  clear hb8 B5
  go_wp2_with fail
  go_ret
  exact ⟨rfl, B8.out⟩
end Go.Proofs.Ytkbcinjpnihnaaa
