/- The law SpanNorms, walked. No condition but that the row lies in memory. -/
import Derived.Test.YtkbcinjpnihnaaaSpLaw
namespace Go.Proofs.Ytkbcinjpnihnaaa
open Go.RowKit Go.Shelf

theorem of0_plain (a b : List Sp) : PlainL (ofL a b (keepF 0 a b)) ∧ ∀ k, InL (ofL a b (keepF 0 a b)) k ↔ (InL a k ∨ InL b k) :=
  ofL_plain a b (keepF 0 a b) (fun p q => p ∨ q) (by simp) fun k => by simp [keepF, keepK, hasB_iff]
theorem of1_plain (a b : List Sp) : PlainL (ofL a b (keepF 1 a b)) ∧ ∀ k, InL (ofL a b (keepF 1 a b)) k ↔ (InL a k ∧ InL b k) :=
  ofL_plain a b (keepF 1 a b) (fun p q => p ∧ q) (by simp) fun k => by simp [keepF, keepK, hasB_iff]
theorem of2_plain (a b : List Sp) : PlainL (ofL a b (keepF 2 a b)) ∧ ∀ k, InL (ofL a b (keepF 2 a b)) k ↔ (InL a k ∧ ¬ InL b k) :=
  ofL_plain a b (keepF 2 a b) (fun p q => p ∧ ¬ q) (by simp) fun k => by
    have h2 := hasB_iff b k
    simp only [keepF, keepK]
    simp
    rw [hasB_iff a k]
    rw [← h2]; simp
theorem InL_nil (k : Int) : ¬ InL [] k := by simp [InL]
set_option maxHeartbeats 3200000 in
theorem norms_any (v : Value) (l : List Sp) (w : World) (hv : Sps w v l) :
    Calls Try.prog 3 #[v] w fun e w' => e = .returned (.bool true) ∧ Below w.heap.size w w' := by
  have HV := hid hv
  obtain ⟨a0, c0, rfl⟩ := hv.shape
  clear hv
  go_enter Try.func3, Try.ntmps3
  go_wp2_with fail
  refine (cut_any _ l w HV.out).mono ?_
  rintro e w0 ⟨va, vc, rfl, hs, rfl⟩
  have hml : (l.take 60).length ≤ 60 := by simp; omega
  generalize l.take 60 = m at hs hml ⊢
  have HS := hid hs
  clear hs HV
  go_wp2_with fail
  refine (own_any _ m _ HS.out (by omega)).mono ?_
  rintro e w1 ⟨va1, vc1, rfl, ho1, hb1⟩
  have S1 := hid ho1.sps
  have B1 := hid hb1
  clear ho1 hb1 HS
  go_wp2_with fail
  refine (own_any _ m _ S1.out (by omega)).mono ?_
  rintro e w2 ⟨va2, vc2, rfl, ho2, hb2⟩
  have W2 := hid ho2.sps
  have S2 := hid (S1.out.below hb2)
  have B2 := hid (B1.out.trans (hb2.mono B1.out.size))
  clear ho2 hb2 S1 B1
  go_wp2_with fail
  refine (norm_any _ m _ S2.out (by omega)).mono ?_
  rintro e w3 ⟨r, va3, vc3, hn, rfl, ho3, hb3⟩
  have O3 := hid ho3.sps
  have S3 := hid (S2.out.below hb3)
  have W3 := hid (W2.out.below hb3)
  have B3 := hid (B2.out.trans (hb3.mono B2.out.size))
  have N3 := hid hn
  have hrl : r.length ≤ 60 := Nat.le_trans hn.len hml
  clear ho3 hb3 S2 B2 W2 hn
  go_wp2_with fail
  refine (rof_0 _ _ m [] _ S3.out (Sps.nil _) (by omega) (by simp)).mono ?_
  rintro e w4 ⟨va4, vc4, rfl, ho4, hb4⟩
  have hof : ofL m [] (keepF 0 m []) = r := by
    have h := of0_plain m []
    refine plain_unique h.1 N3.out.plain fun k => ?_
    rw [h.2 k, N3.out.mem k]
    simp [InL_nil]
  rw [hof] at ho4 ⊢
  have F4 := hid ho4.sps
  have O4 := hid (O3.out.below hb4)
  have S4 := hid (S3.out.below hb4)
  have W4 := hid (W3.out.below hb4)
  have B4 := hid (B3.out.trans (hb4.mono B3.out.size))
  clear ho4 hb4 hof S3 B3 W3 O3
  go_wp2_with fail
  refine (rsame_any _ _ r r _ O4.out F4.out (by omega)).mono ?_
  rintro e w5 ⟨rfl, hb5⟩
  have hd : decide (r = r) = true := decide_eq_true rfl
  rw [hd]
  have O5 := hid (O4.out.below hb5)
  have S5 := hid (S4.out.below hb5)
  have W5 := hid (W4.out.below hb5)
  have B5 := hid (B4.out.trans (hb5.mono B4.out.size))
  clear hd hb5 S4 W4 O4 B4 F4
  go_wp2_with fail
  refine (rplain_any _ r _ O5.out N3.out.plain (by omega)).mono ?_
  rintro e w6 ⟨rfl, hb6⟩
  have S6 := hid (S5.out.below hb6)
  have W6 := hid (W5.out.below hb6)
  have B6 := hid (B5.out.trans (hb6.mono B5.out.size))
  clear hb6 S5 W5 O5 B5
  go_wp2_with fail
  refine (rsame_any _ _ m m _ S6.out W6.out (by omega)).mono ?_
  rintro e w7 ⟨rfl, hb7⟩
  have hd : decide (m = m) = true := decide_eq_true rfl
  rw [hd]
  have B7 := hid (B6.out.trans (hb7.mono B6.out.size))
  clear hd hb7 S6 W6 B6
  go_wp2_with fail
  refine (lives_any _).mono ?_
  rintro e w8 ⟨rfl, hb8⟩
  have B8 := hid (B7.out.trans (hb8.mono B7.out.size))
  clear hb8 B7
  go_wp2_with fail
  go_ret
  exact ⟨rfl, B8.out⟩
end Go.Proofs.Ytkbcinjpnihnaaa
