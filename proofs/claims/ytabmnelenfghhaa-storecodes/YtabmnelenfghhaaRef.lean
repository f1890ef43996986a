/- What the document's own functions on bytes answer: Num, Int and Text of package lamellaref01. Conditions: the numbers fit their kinds. -/
import Derived.Test.YtabmnelenfghhaaCut
namespace Go.Proofs.Ytabmnelenfghhaa
open Go.RowKit

theorem numHi_ge (j n : Nat) (acc : List UInt8) (h : n < 128 ^ j) : acc.length ≤ (numHi n acc).length := by
  induction j generalizing n acc with
  | zero =>
    obtain rfl : n = 0 := by simpa using h
    rw [numHi_zero]; exact Nat.le_refl _
  | succ j ih =>
    rcases Nat.eq_zero_or_pos n with rfl | hp
    · rw [numHi_zero]; exact Nat.le_refl _
    · rw [numHi_pos _ _ hp]
      have := ih (n / 128) (UInt8.ofNat (n % 128 + 128) :: acc) (Nat.div_lt_of_lt_mul (by rw [Nat.pow_succ] at h; omega))
      simp only [List.length_cons] at this; omega

set_option maxHeartbeats 400000 in
theorem refNum_any (n : Int) (w : World) (h0 : 0 ≤ n) (h1 : n < 18446744073709551616) :
    Calls Try.prog 32 #[.int .u64 n] w fun e w' => ∃ va vc, e = .returned (.slice va (numB n.toNat).length vc) ∧ Own w' w.heap.size (.slice va (numB n.toNat).length vc) (numB n.toNat) ∧ Below w.heap.size w w' := by
  obtain ⟨n0, rfl⟩ := Int.eq_ofNat_of_zero_le h0
  rw [Int.toNat_natCast]
  have hnl := numB_len n0 (by omega)
  go_enter Try.func32, Try.ntmps32
  go_wp2
  go_loopw [0, 3] (fun nv bvv wr => ∃ (q : Nat) (acc : List UInt8) (va : Option Addr) (vc : Nat), nv = .int .u64 q ∧ q ≤ n0 ∧ bvv = .slice va acc.length vc ∧ Own wr w.heap.size (.slice va acc.length vc) acc ∧ numHi (q / 128) acc = numB n0 ∧ Below w.heap.size w wr) (fun nv _ _ => (intOf nv).toNat)
  case atStart =>
    exact ⟨n0, [UInt8.ofNat (n0 % 128)], _, _, rfl, by omega, rfl, Own.lit w _ [UInt8.ofNat (n0 % 128)] _ (by rw [List.map_cons, bv_num _ (by omega)]; simp) (Nat.le_refl _) 1 rfl (by omega), rfl, (Below.refl _ _).alloc (Nat.le_refl _) _⟩
  case round =>
    obtain ⟨q, acc, va, vc, rfl, hq, rfl, hown, hN, hb⟩ := hrel
    have hal : acc.length ≤ 10 := by
      have := numHi_ge 10 (q / 128) acc (by simp; omega)
      rw [hN] at this; omega
    have hsz := hb.size
    have HN := hio hN
    have HO := hio hown
    have H1 := hio h1
    clear hN hown h1
    have hq2 : (q : Int) ≤ 18446744073709551615 := by have := H1.out; omega
    by_cases hp : (128 : Int) ≤ (q : Int)
    · have HO1 := hio (Own.lit wr w.heap.size [UInt8.ofNat (q / 128 % 128 + 128)] #[.int .u8 ((q : Int) / 128 % 128 + 128)] (by rw [List.map_cons, bv_num _ (by omega)]; simp) hsz 1 rfl (by omega))
      have HB1 := hio (HO.out.bts.alloc (.cells #[.int .u8 ((q : Int) / 128 % 128 + 128)] 5))
      go_wp2_with (at_builtin; refine wpl_append rfl (.tmp 16) (.tmp 17) rfl w.heap.size (.slice (some ⟨wr.heap.size, 0, none⟩) 1 1) [UInt8.ofNat (q / 128 % 128 + 128)] rfl HO1.out _ acc rfl HB1.out (by simp; omega) (by simp; omega) ?_; intro va1 vc1 w2 ho1 hg1; have hb2 : Below w.heap.size w w2 := (hb.alloc hsz _).trans (below_grown HO1.out hg1 (by simp; omega)); have HO2 := hio ho1; clear ho1)
      go_roundw
      case rel =>
        refine ⟨q / 128, UInt8.ofNat (q / 128 % 128 + 128) :: acc, va1, vc1, by go_num, by omega, ?_, ?_, ?_, hb2⟩
        · rw [List.length_cons]; simp [Nat.add_comm]
        · have := HO2.out; simpa [Nat.add_comm] using this
        · rw [← numHi_pos _ _ (by omega)]; exact HN.out
      case measure => simp [intOf]; omega
    · go_wp2
      go_ret
      have hd : acc = numB n0 := by have := HN.out; rw [show q / 128 = 0 from by omega, numHi_zero] at this; exact this
      subst hd
      exact ⟨_, _, rfl, HO.out, hb⟩

theorem intB_pos (n : Int) (h : 0 ≤ n) : intB n = 0 :: numB n.toNat := by unfold intB; rw [if_pos h]
theorem intB_neg (n : Int) (h : ¬ 0 ≤ n) : intB n = 1 :: numB (-1 - n).toNat := by unfold intB; rw [if_neg h]

set_option maxHeartbeats 800000 in
theorem refInt_any (n : Int) (w : World) (h0 : -9223372036854775808 ≤ n) (h1 : n < 9223372036854775808) :
    Calls Try.prog 31 #[.int .i64 n] w fun e w' => ∃ va vc, e = .returned (.slice va (intB n).length vc) ∧ Own w' w.heap.size (.slice va (intB n).length vc) (intB n) ∧ Below w.heap.size w w' := by
  by_cases hn : 0 ≤ n
  · have HI := hio (intB_pos n hn)
    have h2 : n ≤ 9223372036854775807 := by omega
    clear h0 h1
    have HO := hio (Own.lit w w.heap.size [0] #[.int .u8 0] rfl (Nat.le_refl _) 1 rfl (by omega))
    have hb0 : Below w.heap.size w (w.alloc (.cells #[.int .u8 0] 5)) := (Below.refl _ _).alloc (Nat.le_refl _) _
    have hs0 : w.heap.size ≤ (w.alloc (.cells #[.int .u8 0] 5)).heap.size := hb0.size
    have hnl := numB_len n.toNat (by omega)
    go_enter Try.func31, Try.ntmps31
    go_wp2_with fail
    refine (refNum_any _ _ hn (by omega)).mono ?_
    rintro e w1 ⟨va, vc, rfl, ho1, hb1⟩
    have HO1 := hio ho1.bts
    have HB1 := hio (hb0.trans (hb1.mono hs0))
    have hs1 := HB1.out.size
    have HO0 := hio (HO.out.below hb1)
    clear ho1 hb1 hb0 hs0
    go_wp2_with (at_builtin; refine wpl_append rfl (.tmp 12) (.tmp 15) rfl w.heap.size (.slice (some ⟨w.heap.size, 0, none⟩) 1 1) [0] rfl HO0.out _ (numB n.toNat) rfl HO1.out (by simp; omega) hs1 ?_; intro va1 vc1 w2 ho1 hg1; have hb2 := hio (HB1.out.trans (below_grown HO0.out hg1 hs1)); have HO2 := hio ho1; clear ho1)
    go_ret
    rw [HI.out]
    refine ⟨va1, vc1, ?_, ?_, hb2.out⟩
    · simp [Nat.add_comm]
    · have := HO2.out; simpa [Nat.add_comm] using this
  · have HI := hio (intB_neg n hn)
    have e0 : wrap64 (n + 1) = n + 1 := by rw [← IntWalk.i64_left]; exact IntWalk.i64_in _ ⟨by omega, by omega⟩
    have e1 : wrap64 (-(n + 1)) = -1 - n := by rw [← IntWalk.i64_left, show -(n + 1) = -1 - n from by omega]; exact IntWalk.i64_in _ ⟨by omega, by omega⟩
    have e2 : IntKind.u64.wrap (-1 - n) = -1 - n := IntWalk.u64_in _ ⟨by omega, by omega⟩
    have hm : 0 ≤ -1 - n := by omega
    have hM := hio (show -1 - n < 18446744073709551616 by omega)
    have H0 := hio h0
    clear h0 h1
    have HO := hio (Own.lit w w.heap.size [1] #[.int .u8 1] rfl (Nat.le_refl _) 1 rfl (by omega))
    have hb0 : Below w.heap.size w (w.alloc (.cells #[.int .u8 1] 5)) := (Below.refl _ _).alloc (Nat.le_refl _) _
    have hs0 : w.heap.size ≤ (w.alloc (.cells #[.int .u8 1] 5)).heap.size := hb0.size
    have hnl := numB_len (-1 - n).toNat (by have := hM.out; omega)
    go_enter Try.func31, Try.ntmps31
    go_wp2_with fail
    refine (refNum_any _ _ hm hM.out).mono ?_
    rintro e w1 ⟨va, vc, rfl, ho1, hb1⟩
    have HO1 := hio ho1.bts
    have HB1 := hio (hb0.trans (hb1.mono hs0))
    have hs1 := HB1.out.size
    have HO0 := hio (HO.out.below hb1)
    clear ho1 hb1 hb0 hs0 e0 e1 e2
    go_wp2_with (at_builtin; refine wpl_append rfl (.tmp 5) (.tmp 10) rfl w.heap.size (.slice (some ⟨w.heap.size, 0, none⟩) 1 1) [1] rfl HO0.out _ (numB (-1 - n).toNat) rfl HO1.out (by simp; omega) hs1 ?_; intro va1 vc1 w2 ho1 hg1; have hb2 := hio (HB1.out.trans (below_grown HO0.out hg1 hs1)); have HO2 := hio ho1; clear ho1)
    go_ret
    rw [HI.out]
    refine ⟨va1, vc1, ?_, ?_, hb2.out⟩
    · simp [Nat.add_comm]
    · have := HO2.out; simpa [Nat.add_comm] using this


set_option maxHeartbeats 800000 in
theorem refText_any (s : ByteArray) (w : World) (hs : s.size ≤ 140737488340000) :
    Calls Try.prog 33 #[.string s] w fun e w' => ∃ va vc, e = .returned (.slice va (textB s).length vc) ∧ Own w' w.heap.size (.slice va (textB s).length vc) (textB s) ∧ Below w.heap.size w w' := by
  have hnl := numB_len s.size (by omega)
  go_enter Try.func33, Try.ntmps33
  go_wp2_with fail
  refine (refNum_any _ _ (by omega) (by omega)).mono ?_
  rintro e w1 ⟨va, vc, rfl, ho1, hb1⟩
  rw [Int.toNat_natCast] at ho1 ⊢
  obtain ⟨cap, W2, hrun, hbts, hb2⟩ := conv_bytes w1 s (by omega)
  have HO1 := hio (ho1.below hb2)
  have hs1 := hb1.size
  have HB2 := hio (hb1.trans (hb2.mono hs1))
  have hs2 := HB2.out.size
  have HBT := hio hbts
  have hsl : s.data.toList.length = s.size := by simp
  have HSL := hio hsl
  clear hbts ho1 hb1 hb2 hs1 hsl
  go_wp2_with (at_builtin; refine wpl_append rfl (.tmp 6) (.tmp 8) rfl w.heap.size (.slice va (numB s.size).length vc) (numB s.size) rfl HO1.out _ s.data.toList rfl HBT.out (by have := HSL.out; omega) hs2 ?_; intro va1 vc1 w2 ho1 hg1; have hb3 := hio (HB2.out.trans (below_grown HO1.out hg1 hs2)); have HO2 := hio ho1; clear ho1)
  go_ret
  unfold textB
  refine ⟨va1, vc1, ?_, ?_, hb3.out⟩
  · rw [List.length_append]; simp
  · rw [List.length_append]; exact HO2.out
end Go.Proofs.Ytabmnelenfghhaa
