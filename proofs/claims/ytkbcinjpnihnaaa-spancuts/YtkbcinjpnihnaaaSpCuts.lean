/- The law SpanCuts, walked. Conditions: the rows lie in memory, their numbers are ints. -/
import Derived.Test.YtkbcinjpnihnaaaSpCut
import Derived.Test.YtkbcinjpnihnaaaSpNorms
namespace Go.Proofs.Ytkbcinjpnihnaaa
open Go.RowKit Go.Shelf

theorem take_I {l : List Sp} (h : ∀ x ∈ l, SpI x) (n : Nat) : ∀ x ∈ l.take n, SpI x := fun x hx => h x (List.mem_of_mem_take hx)
set_option maxHeartbeats 3200000 in
theorem cuts_any (u v : Value) (x y : List Sp) (w : World) (hu : Sps w u x) (hv : Sps w v y) (hI : ∀ z ∈ x, SpI z) (hJ : ∀ z ∈ y, SpI z) :
    Calls Try.prog 6 #[u, v] w fun e w' => e = .returned (.bool true) ∧ Below w.heap.size w w' := by
  have HU := hid hu
  have HV := hid hv
  have HI := hid (take_I hI 60)
  have HJ := hid (take_I hJ 60)
  obtain ⟨a0, c0, rfl⟩ := hu.shape
  obtain ⟨a1, c1, rfl⟩ := hv.shape
  clear hu hv hI hJ
  go_enter Try.func6, Try.ntmps6
  go_wp2_with fail
  refine (cut_any _ x w HU.out).mono ?_
  rintro e w0 ⟨va, vc, rfl, hs, rfl⟩
  have hml : (x.take 60).length ≤ 60 := by simp; omega
  generalize x.take 60 = a at hs hml HI ⊢
  have HS := hid hs
  clear hs
  go_wp2_with fail
  refine (own_any _ a _ HS.out (by omega)).mono ?_
  rintro e w1 ⟨va1, vc1, rfl, ho1, hb1⟩
  have S1 := hid ho1.sps
  have B1 := hid hb1
  have V1 := hid (HV.out.below hb1)
  clear ho1 hb1 HS HU HV
  go_wp2_with fail
  refine (cut_any _ y _ V1.out).mono ?_
  rintro e w0 ⟨ua, uc, rfl, ht, rfl⟩
  have hnl : (y.take 60).length ≤ 60 := by simp; omega
  generalize y.take 60 = b at ht hnl HJ ⊢
  have HT := hid ht
  clear ht V1
  go_wp2_with fail
  refine (own_any _ b _ HT.out (by omega)).mono ?_
  rintro e w2 ⟨va2, vc2, rfl, ho2, hb2⟩
  have T2 := hid ho2.sps
  have S2 := hid (S1.out.below hb2)
  have B2 := hid (B1.out.trans (hb2.mono B1.out.size))
  clear ho2 hb2 HT S1 B1
  go_wp2_with fail
  refine (own_any _ a _ S2.out (by omega)).mono ?_
  rintro e w3 ⟨va3, vc3, rfl, ho3, hb3⟩
  have X3 := hid ho3.sps
  have S3 := hid (S2.out.below hb3)
  have T3 := hid (T2.out.below hb3)
  have B3 := hid (B2.out.trans (hb3.mono B2.out.size))
  clear ho3 hb3 T2 S2 B2
  go_wp2_with fail
  refine (own_any _ b _ T3.out (by omega)).mono ?_
  rintro e w4 ⟨va4, vc4, rfl, ho4, hb4⟩
  have Y4 := hid ho4.sps
  have X4 := hid (X3.out.below hb4)
  have S4 := hid (S3.out.below hb4)
  have T4 := hid (T3.out.below hb4)
  have B4 := hid (B3.out.trans (hb4.mono B3.out.size))
  clear ho4 hb4 T3 S3 B3 X3
  go_wp2_with fail
  refine (cutS_any _ _ a b _ S4.out T4.out (by omega) (by omega) HI.out HJ.out).mono ?_
  rintro e w5 ⟨r, va5, vc5, hc5, rfl, ho5, hb5⟩
  have C5 := hid hc5
  have hrl : r.length ≤ 121 := by have := hc5.len; omega
  have R5 := hid ho5.sps
  have Y5 := hid (Y4.out.below hb5)
  have X5 := hid (X4.out.below hb5)
  have S5 := hid (S4.out.below hb5)
  have T5 := hid (T4.out.below hb5)
  have B5 := hid (B4.out.trans (hb5.mono B4.out.size))
  clear ho5 hb5 hc5 T4 S4 B4 X4 Y4
  go_wp2_with fail
  refine (rof_2 _ _ a b _ S5.out T5.out (by omega) (by omega)).mono ?_
  rintro e w6 ⟨va6, vc6, rfl, ho6, hb6⟩
  have hof : ofL a b (keepF 2 a b) = r := by
    have h := of2_plain a b
    refine plain_unique h.1 C5.out.plain fun k => ?_
    rw [h.2 k, C5.out.mem k]
  rw [hof] at ho6 ⊢
  have F6 := hid ho6.sps
  have R6 := hid (R5.out.below hb6)
  have Y6 := hid (Y5.out.below hb6)
  have X6 := hid (X5.out.below hb6)
  have S6 := hid (S5.out.below hb6)
  have T6 := hid (T5.out.below hb6)
  have B6 := hid (B5.out.trans (hb6.mono B5.out.size))
  clear ho6 hb6 hof T5 S5 B5 X5 Y5 R5
  go_wp2_with fail
  refine (rsame_any _ _ r r _ R6.out F6.out (by omega)).mono ?_
  rintro e w7 ⟨rfl, hb7⟩
  have hd : decide (r = r) = true := decide_eq_true rfl
  rw [hd]
  have Y7 := hid (Y6.out.below hb7)
  have X7 := hid (X6.out.below hb7)
  have S7 := hid (S6.out.below hb7)
  have T7 := hid (T6.out.below hb7)
  have B7 := hid (B6.out.trans (hb7.mono B6.out.size))
  clear hd hb7 T6 S6 B6 X6 Y6 R6 F6
  go_wp2_with fail
  refine (rsame_any _ _ a a _ S7.out X7.out (by omega)).mono ?_
  rintro e w8 ⟨rfl, hb8⟩
  have hd : decide (a = a) = true := decide_eq_true rfl
  rw [hd]
  have Y8 := hid (Y7.out.below hb8)
  have T8 := hid (T7.out.below hb8)
  have B8 := hid (B7.out.trans (hb8.mono B7.out.size))
  clear hd hb8 T7 S7 B7 X7 Y7
  go_wp2_with fail
  refine (rsame_any _ _ b b _ T8.out Y8.out (by omega)).mono ?_
  rintro e w9 ⟨rfl, hb9⟩
  have hd : decide (b = b) = true := decide_eq_true rfl
  rw [hd]
  have B9 := hid (B8.out.trans (hb9.mono B8.out.size))
  clear hd hb9 T8 B8 Y8
  go_wp2_with fail
  refine (lives_any _).mono ?_
  rintro e w10 ⟨rfl, hb10⟩
  have B10 := hid (B9.out.trans (hb10.mono B9.out.size))
  clear hb10 B9
  go_wp2_with fail
  go_ret
  exact ⟨rfl, B10.out⟩
end Go.Proofs.Ytkbcinjpnihnaaa
