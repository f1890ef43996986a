/- OctetWrites answers true for any numbers and any text; nothing that was there has turned. -/
import Derived.Test.YtdojjecjbejdhaaRef
import Derived.Deep.RegionWith
import Derived.Deep.DrawnRows
namespace Go.Proofs.Ytdojjecjbejdhaa
open Go.RowKit
attribute [local go_sem ↓] Go.wp_at_zero Go.wp_at_succ
theorem intB_len (n : Int) (h0 : -9223372036854775808 ≤ n) (h1 : n < 9223372036854775808) : (intB n).length ≤ 11 := by
  unfold intB
  split
  · have := numB_len n.toNat (by omega); simp only [List.length_cons]; omega
  · have := numB_len (-1 - n).toNat (by omega); simp only [List.length_cons]; omega
theorem textB_len (s : ByteArray) (h : s.size < 18446744073709551616) : (textB s).length ≤ s.size + 10 := by
  unfold textB
  have := numB_len s.size h
  rw [List.length_append, show s.data.toList.length = s.size from by simp]; omega
/-- What the last row of the law keeps while it is walked. -/
def Kp (w0 : World) (b : Nat) (L : List UInt8) (v : Value) (w : World) : Prop := Wr w b L ∧ Below w0.heap.size w0 w ∧ Bts w v L
theorem kp_next {w0 w w' : World} {b : Nat} {L : List UInt8} {v : Value} (hb : Below w.heap.size w w') (h : Kp w0 b L v w) : Kp w0 b L v w' :=
  ⟨h.1.below hb, h.2.1.trans (hb.mono h.2.1.size), h.2.2.below hb⟩
theorem Kp.wr {w0 w : World} {b : Nat} {L : List UInt8} {v : Value} (h : Kp w0 b L v w) : Wr w b L := h.1
theorem Kp.bel {w0 w : World} {b : Nat} {L : List UInt8} {v : Value} (h : Kp w0 b L v w) : Below w0.heap.size w0 w := h.2.1
theorem bit_back (d : UInt8) (h : d.toNat ≤ 1) : (if ((d.toNat : Int) == 1) = true then (1 : UInt8) else 0) = d := by
  apply UInt8.toNat_inj.1
  rcases (show d.toNat = 0 ∨ d.toNat = 1 by omega) with h | h
  · rw [if_neg (by simp [h]), h]; rfl
  · rw [if_pos (by simp [h]), h]; rfl
set_option maxHeartbeats 1600000 in
theorem writes_law (n i : Int) (s : ByteArray) (w : World) (h0 : 0 ≤ n) (h1 : n ≤ 18446744073709551615) (h2 : -9223372036854775808 ≤ i) (h3 : i ≤ 9223372036854775807) (hs : s.size ≤ 9223372036854775807) :
    Calls Try.prog 4 #[.int .u64 n, .int .i64 i, .string s] w fun e w' => e = .returned (.bool true) ∧ Below w.heap.size w w' := by
  obtain ⟨cap, W1, hrun, hbts, hb1⟩ := conv_bytes w s hs
  have HB := hid hbts
  have H2 := hid h2
  have H3 := hid h3
  clear hbts h2 h3
  go_enter Try.func4, Try.ntmps4
  go_wp2_with fail
  refine (cut_any _ _ _ HB.out).mono ?_
  rintro e w2 ⟨va, na, ca, rfl, hA, rfl⟩
  have hcs := conv_string _ _ _ hA
  have hla : (s.data.toList.take 3000).length ≤ 3000 := List.length_take_le _ _
  generalize s.data.toList.take 3000 = la at *
  obtain ⟨t, ht⟩ : ∃ t : ByteArray, t = ⟨la.toArray⟩ := ⟨_, rfl⟩
  rw [← ht] at hcs
  have htl : t.size ≤ 3000 := by rw [ht]; simpa [ByteArray.size] using hla
  clear ht hla hA HB hrun
  obtain ⟨c, hc⟩ := u8_of (i % 256) (by omega) (by omega)
  obtain ⟨d, hd⟩ := u8_of (n % 2) (by omega) (by omega)
  have hd1 : d.toNat ≤ 1 := by omega
  have hW := Wr.new w2
  have hlt2 := hb1.size
  have HB1 := hid hb1
  clear hb1
  go_wp2_with fail
  refine (num_any _ _ _ _ h0 (by omega) hW (by simp)).mono ?_
  rintro e w3 ⟨rfl, hw3, hb3⟩
  have HW3 := hid hw3
  have HB3 := hid (HB1.out.trans (((Below.refl _ _).alloc hlt2 _).trans (hb3.mono hlt2)))
  clear hw3 hb3 hW HB1 hcs
  have hl1 := numB_len n.toNat (by omega)
  have HH1 := hid h1
  clear h1
  go_wp2_with fail
  refine (int_any _ _ _ _ H2.out (by have := H3.out; omega) HW3.out (by simp; omega)).mono ?_
  rintro e w4 ⟨rfl, hw4, hb4⟩
  have HW4 := hid hw4
  have HB4 := hid (HB3.out.trans (hb4.mono hlt2))
  have hl2 := intB_len i H2.out (by have := H3.out; omega)
  clear hw4 hb4 HW3 HB3
  go_wp2_with fail
  refine (text_any _ _ _ _ HW4.out (by simp; omega)).mono ?_
  rintro e w5 ⟨rfl, hw5, hb5⟩
  have HW5 := hid hw5
  have HB5 := hid (HB4.out.trans (hb5.mono hlt2))
  have hl3 := textB_len t (by omega)
  clear hw5 hb5 HW4 HB4
  go_wp2_with fail
  refine (bool_any _ _ _ _ HW5.out (by simp; omega)).mono ?_
  rintro e w6 ⟨rfl, hw6, hb6⟩
  have HW6 := hid hw6
  have HB6 := hid (HB5.out.trans (hb6.mono hlt2))
  clear hw6 hb6 HW5 HB5
  go_wp2_with fail
  refine (byte_any _ _ _ _ HW6.out (by simp; omega)).mono ?_
  rintro e w7 ⟨rfl, hw7, hb7⟩
  have HW7 := hid hw7
  have HB7 := hid (HB6.out.trans (hb7.mono hlt2))
  clear hw7 hb7 HW6 HB6
  go_wp2_with fail
  refine (refNum_any _ _ h0 (by have := HH1.out; omega)).mono ?_
  rintro e w8 ⟨va8, vc8, rfl, ho8, hb8⟩
  have HO8 := hid ho8
  have HC8 := hid hb8
  clear ho8 hb8
  go_wp2_with fail
  refine (refInt_any _ _ H2.out (by have := H3.out; omega)).mono ?_
  rintro e w9 ⟨va9, vc9, rfl, ho9, hb9⟩
  have hs8 := HC8.out.size
  have HO9 := hid (HO8.out.below hb9)
  have HT9 := hid ho9.bts
  have HC9 := hid (HC8.out.trans (hb9.mono hs8))
  have hs9 := HC9.out.size
  clear ho9 hb9 HC8 hs8 HO8
  go_wp2_with (at_builtin; refine wpl_append rfl (.tmp 27) (.tmp 29) rfl w7.heap.size (.slice va8 (numB n.toNat).length vc8) (numB n.toNat) rfl HO9.out _ (intB i) rfl HT9.out (by omega) hs9 ?_; intro va10 vc10 w10 ho10 hg10; have HC10 := hid (HC9.out.trans (below_grown HO9.out hg10 hs9)); have HO10 := hid ho10; clear ho10)
  refine (refText_any _ _ (by omega)).mono ?_
  rintro e w11 ⟨va11, vc11, rfl, ho11, hb11⟩
  have hs10 := HC10.out.size
  have HO11 := hid (HO10.out.below hb11)
  have HT11 := hid ho11.bts
  have HC11 := hid (HC10.out.trans (hb11.mono hs10))
  have hs11 := HC11.out.size
  have e10 : (numB n.toNat ++ intB i).length = (numB n.toNat).length + (intB i).length := List.length_append
  have e11 : (numB n.toNat ++ intB i ++ textB t).length = (numB n.toNat).length + (intB i).length + (textB t).length := by rw [List.length_append, List.length_append]
  have E10 := hid e10
  have E11 := hid e11
  clear ho11 hb11 HC10 hs10 HO10 HO9 HT9 HC9 hs9 hg10 e10 e11
  go_wp2_with (first
    | (at_builtin; refine wpl_append rfl (.tmp 30) (.tmp 32) rfl w7.heap.size (.slice va10 ((numB n.toNat).length + (intB i).length) vc10) (numB n.toNat ++ intB i) rfl HO11.out _ (textB t) rfl HT11.out (by have := E10.out; omega) hs11 ?_; intro va12 vc12 w12 ho12 hg12; have HC12 := hid (HC11.out.trans (below_grown HO11.out hg12 hs11)); rw [E10.out] at ho12; have HO12 := hid ho12; have hs12' : w7.heap.size ≤ w12.heap.size := HC12.out.size; have hs12 : w7.heap.size ≤ (w12.alloc (.cells #[.int .u8 (d.toNat : Int), .int .u8 (c.toNat : Int)] 5)).heap.size := Nat.le_trans hs12' (by simp); clear ho12)
    | (at_builtin; refine wpl_append rfl (.tmp 33) (.tmp 39) rfl w7.heap.size (.slice va12 ((numB n.toNat).length + (intB i).length + (textB t).length) vc12) (numB n.toNat ++ intB i ++ textB t) rfl ((HO12.out.below ((Below.refl _ _).alloc (Nat.le_refl _) _))) _ [d, c] rfl (bts_block [d, c] (heap_alloc_new _ _) rfl 2 rfl (by omega)) (by have := E11.out; simp only [List.length_cons, List.length_nil]; omega) hs12 ?_; intro va13 vc13 w13 ho13 hg13; have HC13 := hid ((HC12.out.trans ((Below.refl _ _).alloc hs12' _)).trans (below_grown (HO12.out.below ((Below.refl _ _).alloc (Nat.le_refl _) _)) hg13 hs12)); have HO13 := hid ho13; clear ho13))
  have hL : ([] ++ numB n.toNat ++ intB i ++ textB t ++ [if ((d.toNat : Int) == 1) = true then 1 else 0] ++ [c]) = numB n.toNat ++ intB i ++ textB t ++ [d, c] := by
    rw [bit_back d hd1]; simp
  have hw13 := HW7.out.below HC13.out
  rw [hL] at hw13
  have hx13 := HO13.out.bts
  have hlx : (numB n.toNat ++ intB i ++ textB t).length + [d, c].length = (numB n.toNat).length + ((intB i).length + (textB t).length) + 2 := by simp [Nat.add_assoc]
  rw [hlx] at hx13
  have hll : (numB n.toNat ++ intB i ++ textB t ++ [d, c]).length ≤ 5000 := by simp; omega
  have HK := hid (show Wr w13 w2.heap.size (numB n.toNat ++ intB i ++ textB t ++ [d, c]) ∧ Below w.heap.size w w13 ∧ _ from ⟨hw13, HB7.out.trans (HC13.out.mono HB7.out.size), hx13⟩)
  generalize numB n.toNat ++ intB i ++ textB t ++ [d, c] = L at *
  generalize (numB n.toNat).length + ((intB i).length + (textB t).length) + 2 = len at *
  clear hw13 hx13 hlx hL HO13 HC13 HW7 HB7 HO12 HC12 hs12 hs12' hg13 hg12 HO11 HT11 HC11 hs11 E10 E11 H2 H3 HH1 hl1 hl2 hl3 hc hd hd1 htl hs h0
  have hk0 : Kp w w2.heap.size L (.slice va13 len vc13) w13.drew := ⟨HK.out.1, HK.out.2.1.drew, HK.out.2.2⟩
  have hc0 := conv_string _ _ _ hk0.2.2
  clear HK
  go_region_with (first
    | (go_at_call 23; refine (bytes_any w2.heap.size L _ (Kp.wr (by assumption)) (by omega)).mono ?_; rintro e w' ⟨va', vc', rfl, ho', hb'⟩; have hcs' := conv_string _ _ _ ho'.bts; have hk' := kp_next hb' (by assumption); have hc' := conv_string _ _ _ hk'.2.2)
    | (go_at_call 14; refine (lives_any _).mono ?_; rintro e w' ⟨rfl, hb'⟩; have hk' := kp_next hb' (by assumption)))
  all_goals
    go_wp2
    go_ret
    exact ⟨rfl, Kp.bel (by assumption)⟩
end Go.Proofs.Ytdojjecjbejdhaa
