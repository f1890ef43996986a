/- OctetSums answers true for any two rows of bytes and any number; nothing that was there has turned. -/
import Derived.Test.YtdojjecjbejdhaaCut
namespace Go.Proofs.Ytdojjecjbejdhaa
open Go.RowKit
set_option maxHeartbeats 800000 in
theorem sums_law (v0 v1 : Value) (l0 l1 : List UInt8) (s : Int) (w : World) (h0 : 0 ≤ s) (h1 : s < 4294967296) (hb0 : Bts w v0 l0) (hb1 : Bts w v1 l1) :
    Calls Try.prog 3 #[v0, v1, .int .u32 s] w fun e w' => e = .returned (.bool true) ∧ Below w.heap.size w w' := by
  have HB0 := hid hb0
  have HB1 := hid hb1
  obtain ⟨a0, c0, rfl⟩ := hb0.shape
  obtain ⟨a1, c1, rfl⟩ := hb1.shape
  clear hb0 hb1
  go_enter Try.func3, Try.ntmps3
  go_wp2_with fail
  refine (cut_any _ _ _ HB0.out).mono ?_
  rintro e w1 ⟨va, na, ca, rfl, hA, rfl⟩
  have HA := hid hA
  clear hA
  go_wp2_with fail
  refine (cut_any _ _ _ HB1.out).mono ?_
  rintro e w1 ⟨vb, nb, cb, rfl, hB, rfl⟩
  have HB := hid hB
  clear hB HB0 HB1
  have hla : (l0.take 3000).length ≤ 3000 := List.length_take_le _ _
  have hlb : (l1.take 3000).length ≤ 3000 := List.length_take_le _ _
  generalize l0.take 3000 = la at *
  generalize l1.take 3000 = lb at *
  obtain rfl : na = la.length := by obtain ⟨_, _, _, e, h, -⟩ := HA.out; cases e; exact h
  obtain rfl : nb = lb.length := by obtain ⟨_, _, _, e, h, -⟩ := HB.out; cases e; exact h
  have HO := hid (Own.empty w1)
  have hba : Below w1.heap.size w1 (w1.alloc (.cells #[] 5)) := (Below.refl _ _).alloc (Nat.le_refl _) _
  have HA1 := hid (HA.out.below hba)
  go_wp2_with (first
    | (at_builtin; refine wpl_append rfl (.tmp 12) (.tmp 13) rfl w1.heap.size (.slice (some ⟨w1.heap.size, 0, none⟩) 0 0) [] rfl HO.out _ la rfl HA1.out (by simp; omega) (by simp) ?_; intro va1 vc1 w2 ho1 hg1; simp only [List.length_nil, Nat.zero_add, List.nil_append] at ho1; have hb2 : Below w1.heap.size w1 w2 := hba.trans (below_grown HO.out hg1 (by simp)); have hs2 := hb2.size; have HO1 := hid ho1; clear ho1)
    | (at_builtin; refine wpl_append rfl (.tmp 14) (.tmp 15) rfl w1.heap.size (.slice va1 la.length vc1) la rfl HO1.out _ lb rfl (HB.out.below hb2) (by omega) hs2 ?_; intro va2 vc2 w3 ho2 hg2; have HO2 := hid ho2; have hb3 : Below w1.heap.size w1 w3 := hb2.trans (below_grown HO1.out hg2 hs2); clear ho2))
  have HA3 := hid (HA.out.below hb3)
  have HB3 := hid (HB.out.below hb3)
  have e12 : (la ++ lb).length = la.length + lb.length := List.length_append
  have HW3 := hid HO2.out.bts
  have hs3 := hb3.size
  clear HA HB HO HO1 hba HA1 hg1 hg2 hb2 hs2 HO2
  refine (sum_any _ _ _ (btss_two (heap_alloc_new _ _) (HA3.out.alloc _) (HB3.out.alloc _))).mono ?_
  rintro e w4 ⟨rfl, rfl⟩
  rw [show [la, lb].flatten = la ++ lb from by simp]
  have hq := crcAll_lt (la ++ lb)
  have HQ : Hid (crcAll (la ++ lb) = 4294967295 - crcRow (4294967295 - crcAll la) lb) := hid (crcAll_append la lb)
  have hqa := crcAll_lt la
  obtain ⟨q, hqq⟩ : ∃ q, q = crcAll (la ++ lb) := ⟨_, rfl⟩
  rw [← hqq] at HQ hq ⊢
  have HQQ := hid hqq
  clear hqq e12
  go_wp2_with fail
  refine (refCRC_any _ _ _ (HW3.out.alloc _)).mono ?_
  rintro e w4 ⟨rfl, rfl⟩
  rw [← HQQ.out]
  go_wp2_with fail
  refine (sum_any _ _ _ (btss_one (heap_alloc2_new _ _ _) ((HW3.out.alloc _).alloc _))).mono ?_
  rintro e w4 ⟨rfl, rfl⟩
  rw [show [la ++ lb].flatten = la ++ lb from by simp, ← HQQ.out]
  go_wp2_with fail
  refine (refCRC_any _ _ _ ((HW3.out.alloc _).alloc _)).mono ?_
  rintro e w4 ⟨rfl, rfl⟩
  rw [← HQQ.out]
  go_wp2_with fail
  refine (sum_any _ _ _ (btss_one (heap3 _ _ _ _).2.2 (((HA3.out.alloc _).alloc _).alloc _))).mono ?_
  rintro e w4 ⟨rfl, rfl⟩
  rw [show [la].flatten = la from by simp]
  obtain ⟨qa, hqaa⟩ : ∃ qa, qa = crcAll la := ⟨_, rfl⟩
  rw [← hqaa] at HQ hqa ⊢
  clear hqaa
  go_wp2_with fail
  refine (more_any _ _ _ _ (by omega) (by omega) (((HB3.out.alloc _).alloc _).alloc _)).mono ?_
  rintro e w4 ⟨rfl, rfl⟩
  rw [Int.toNat_natCast, ← HQ.out]
  go_wp2_with fail
  refine (refCRC_any _ _ _ (((HW3.out.alloc _).alloc _).alloc _)).mono ?_
  rintro e w4 ⟨rfl, rfl⟩
  rw [← HQQ.out]
  go_wp2_with fail
  refine (more_any _ _ _ _ (by omega) (by omega) (((HB3.out.alloc _).alloc _).alloc _)).mono ?_
  rintro e w4 ⟨rfl, rfl⟩
  have hr := crcRow_lt lb (x := 4294967295 - s.toNat) (by omega)
  obtain ⟨r, hrr⟩ : ∃ r, r = crcRow (4294967295 - s.toNat) lb := ⟨_, rfl⟩
  rw [← hrr] at hr ⊢
  have HRR := hid hrr
  clear hrr
  go_wp2_with fail
  refine (refSum_any _ _ _ _ (by omega) (by omega) (((HB3.out.alloc _).alloc _).alloc _)).mono ?_
  rintro e w4 ⟨rfl, rfl⟩
  rw [show (4294967295 - s).toNat = 4294967295 - s.toNat from by omega, ← HRR.out, show ((4294967295 - r : Nat) : Int) = 4294967295 - (r : Int) from by omega]
  go_wp2_with fail
  refine (sum_any _ _ _ (btss_nil _)).mono ?_
  rintro e w4 ⟨rfl, rfl⟩
  rw [show crcAll ([] : List (List UInt8)).flatten = 0 from rfl]
  go_wp2_with fail
  refine (lives_any _).mono ?_
  rintro e w4 ⟨rfl, hb4⟩
  have hB : Below w1.heap.size w1 w4 := (((hb3.alloc hs3 _).alloc (by simp; omega) _).alloc (by simp; omega) _).trans (hb4.mono (by simp; omega))
  have HBB := hid hB
  clear hB hb4 hb3
  go_wp2
  go_ret
  exact ⟨rfl, HBB.out⟩
end Go.Proofs.Ytdojjecjbejdhaa
