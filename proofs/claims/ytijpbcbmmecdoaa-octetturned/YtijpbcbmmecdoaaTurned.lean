/- OctetTurned answers true for any bytes and any Turn; nothing that was there has turned. -/
import Derived.Test.YtijpbcbmmecdoaaTurnMath
import Derived.Deep.DrawnRows
namespace Go.Proofs.Ytijpbcbmmecdoaa
open Go.RowKit
attribute [local go_sem ↓] Go.wp_at_zero Go.wp_at_succ

/-- Behind i rounds: the bits below i of the pattern are turned, none of the first four bytes'. -/
def TurnF (w : World) (base : Nat) (va : Option Addr) (vc : Nat) (F : List UInt8) (p f i : Nat) : Prop := ∃ c, Own w base (.slice va F.length vc) c ∧ c.length = F.length ∧ numL c = numL F ^^^ ((p % 2 ^ i) <<< f) ∧ c.take 4 = F.take 4

theorem TurnF.step {w : World} {base g vc n : Nat} {F c : List UInt8} {p f i j tb x : Nat} (hn0 : F.length = n) (ho : Own w base (.slice (some ⟨g, 0, none⟩) n vc) c) (hcl : c.length = n) (hn : numL c = numL F ^^^ ((p % 2 ^ i) <<< f)) (ht : c.take 4 = F.take 4)
    (hb : p / 2 ^ i % 2 = 1) {hj : j < c.length} (hx : x = c[j].toNat) (he : f + i = 8 * j + tb) (htb : tb < 8) (hj4 : 4 ≤ j) :
    TurnF (w.setCell ⟨g, j, none⟩ (.int .u8 (bits .xor .u8 (x : Int) (2 ^ tb % 256)))) base (some ⟨g, 0, none⟩) vc F p f (i + 1) := by
  subst hn0
  obtain ⟨c', h1, h2, h3, v, rfl⟩ := Turn.step' ho hcl hn hb hx he htb
  exact ⟨_, h1, h2, h3, by rw [List.take_set_of_le hj4]; exact ht⟩


theorem Own.cap_le {w : World} {base vc n : Nat} {va : Option Addr} {c : List UInt8} (h : Own w base (.slice va n vc) c) : n ≤ vc := by
  obtain ⟨ao, n', cap, e, -, h2, -⟩ := h.bts
  cases e; exact h2

set_option maxRecDepth 100000 in
set_option maxHeartbeats 3200000 in
theorem turned_law (v : Value) (l0 : List UInt8) (t p k : Int) (w : World) (hv : Bts w v l0) (ht0 : 0 ≤ t) (ht1 : t ≤ 18446744073709551615) (hp0 : 0 ≤ p) (hp1 : p ≤ 4294967295) (hk0 : 0 ≤ k) (hk1 : k ≤ 18446744073709551615) :
    Calls Try.prog 5 #[v, .agg #[.int .u64 t, .int .u32 p, .int .u64 k]] w fun e w' => e = .returned (.bool true) ∧ Below w.heap.size w w' := by
  have HV0 := hid hv
  obtain ⟨a0, c0, rfl⟩ := hv.shape
  clear hv
  obtain ⟨p0, rfl⟩ := Int.eq_ofNat_of_zero_le hp0
  go_enter Try.func5, Try.ntmps5
  go_wp2_with fail
  refine (cut_any _ _ _ (HV0.out.alloc _)).mono ?_
  rintro e w1 ⟨va, na, ca, rfl, hA, rfl⟩
  have hll : (l0.take 3000).length ≤ 3000 := List.length_take_le _ _
  clear HV0
  generalize l0.take 3000 = l at *
  obtain rfl : na = l.length := by obtain ⟨_, _, _, e, h, -⟩ := hA; cases e; exact h
  have HV := hid hA
  clear hA
  have HT := hid (heap_alloc_new w (.cells #[.int .u64 t, .int .u32 (p0 : Int), .int .u64 k] 39))
  have hsz : w.heap.size + 1 = (w.alloc (.cells #[.int .u64 t, .int .u32 (p0 : Int), .int .u64 k] 39)).heap.size := by simp
  have hc0 : (w.alloc (.cells #[.int .u64 t, .int .u32 (p0 : Int), .int .u64 k] 39)).cell? ⟨w.heap.size, 0, none⟩ = some (.int .u64 t) := by rw [cell_of_row _ w.heap.size 0 _ _ _ HT.out]; rfl
  have hc1 : (w.alloc (.cells #[.int .u64 t, .int .u32 (p0 : Int), .int .u64 k] 39)).cell? ⟨w.heap.size, 1, none⟩ = some (.int .u32 (p0 : Int)) := by rw [cell_of_row _ w.heap.size 1 _ _ _ HT.out]; rfl
  have hc2 : (w.alloc (.cells #[.int .u64 t, .int .u32 (p0 : Int), .int .u64 k] 39)).cell? ⟨w.heap.size, 2, none⟩ = some (.int .u64 k) := by rw [cell_of_row _ w.heap.size 2 _ _ _ HT.out]; rfl
  have HB0 : Hid (Below w.heap.size w (w.alloc (.cells #[.int .u64 t, .int .u32 (p0 : Int), .int .u64 k] 39))) := hid ((Below.refl _ _).alloc (Nat.le_refl _) _)
  generalize w.alloc (.cells #[.int .u64 t, .int .u32 (p0 : Int), .int .u64 k] 39) = w1 at *
  have HSZ := hid hsz
  clear HT hsz
  go_wp2_with fail
  go_region
  clear hc0 hc1 hc2
  have HVD := hid (HV.out.below ((Below.refl w1.heap.size w1).drew))
  have HBD := hid HB0.out.drew
  have HSD : Hid (w.heap.size + 1 = w1.drew.heap.size) := HSZ
  clear HV HB0 HSZ
  generalize w1.drew = w1 at *
  have HV := HVD
  clear HVD
  go_wp2_with fail
  refine (frame_any _ _ _ HV.out (by omega)).mono ?_
  rintro e w2 ⟨vf, cf, rfl, ho2, hb2⟩
  have HO2 := hid ho2
  have HB2 := hid hb2
  obtain ⟨gf, rfl⟩ := ho2.some_block (Nat.succ_pos _)
  have hcap : l.length + 8 ≤ cf := ho2.cap_le
  have hs2 := hb2.size
  clear ho2 hb2
  have hlI : (l.length : Int) ≤ 3000 := by omega
  obtain ⟨kk, hkk⟩ : ∃ kk : Nat, k % ((l.length : Int) + 8) = (kk : Int) := ⟨(k % ((l.length : Int) + 8)).toNat, by have := Int.emod_nonneg k (show (l.length : Int) + 8 ≠ 0 by omega); omega⟩
  have hkk2 : (kk : Int) < (l.length : Int) + 8 := by have := Int.emod_lt_of_pos k (show (0 : Int) < (l.length : Int) + 8 by omega); omega
  have hnz : ¬ (l.length : Int) + 8 = 0 := by omega
  have hkc : (kk : Int) ≤ (cf : Int) := by omega
  go_wp2_with fail
  have hFL := frameB_len l
  refine (unframe_any _ ((frameB l).take kk) 0 _ (HO2.out.bts.take (by omega)) (Nat.zero_le _) (by rw [List.length_take]; omega)).mono ?_
  rintro e w3 ⟨va3, m3, vc3, next3, code3, rfl, hU, hb3⟩
  have hB := unfE_begin l kk (by omega) (by omega)
  have hcode : va3 = none ∧ m3 = 0 ∧ vc3 = 0 ∧ next3 = 0 ∧ code3 = ((if kk = 0 then 8 else 4 : Nat) : Int) := by
    rw [← hB]
    unfold UnfV at hU
    rw [List.drop_zero, hB] at hU
    rw [if_neg (by split <;> omega)] at hU
    rw [hB]; exact hU
  clear hU hB
  obtain ⟨rfl, rfl, rfl, rfl, rfl⟩ := hcode
  have HO3 := hid (HO2.out.below (hb3.mono (Nat.le_refl _)))
  have HB3 := hid (HB2.out.trans (hb3.mono hs2))
  have hs3 : w1.heap.size ≤ w3.heap.size := HB3.out.size
  have HFL := hid hFL
  clear hb3 HO2 HB2 hs2 hFL hkc hnz hkk hk0 hk1
  obtain ⟨f, hf⟩ : ∃ f : Nat, t % (8 * ((l.length : Int) + 4)) = (f : Int) := ⟨(t % (8 * ((l.length : Int) + 4))).toNat, by have := Int.emod_nonneg t (show 8 * ((l.length : Int) + 4) ≠ 0 by omega); omega⟩
  have hf2 : (f : Int) < 8 * ((l.length : Int) + 4) := by have := Int.emod_lt_of_pos t (show (0 : Int) < 8 * ((l.length : Int) + 4) by omega); omega
  have hnz : ¬ 8 * ((l.length : Int) + 8 - 4) = 0 := by omega
  by_cases hk8 : kk = 0
  case' pos =>
    subst hk8
    simp only [if_true]
    go_wp2_with fail
  case' neg =>
    have hk0 : ((kk : Int) == 0) = false := by simp; omega
    have hk1 : (0 : Int) < (kk : Int) := by omega
    simp only [hk8, if_false]
    clear hk8
    go_wp2_with fail
  all_goals
    simp only [show (l.length : Int) + 8 - 4 = (l.length : Int) + 4 from by omega, hf]
    clear hf hnz ht0 ht1 hcap hkk2 hs3
    have hfl : (f : Int) < 24032 := by omega
    go_loopw [16, 17] (fun tv iv wr => ∃ i : Nat, iv = .int .u64 i ∧ tv = .bool (decide (p0 % 2 ^ i ≠ 0)) ∧ i ≤ 32 ∧ f + i ≤ 8 * (l.length + 4) ∧ TurnF wr w1.heap.size (some ⟨gf, 0, none⟩) cf (frameB l) p0 (32 + f) i ∧ Below w1.heap.size w1 wr) (fun _ iv _ => 32 - (intOf iv).toNat)
    case atStart => exact ⟨0, rfl, by simp [Nat.mod_one], by omega, by omega, ⟨frameB l, by rw [HFL.out]; exact HO3.out, rfl, by simp [Nat.mod_one], rfl⟩, HB3.out⟩
    case round =>
      obtain ⟨i, rfl, rfl, hi32, hfi, ⟨c, hoc, hcl, hnum, htk⟩, hbr⟩ := hrel
      rw [HFL.out] at hoc hcl
      have HOC := hid hoc
      have HNUM := hid hnum
      have HTK := hid htk
      have HBR := hid hbr
      have HCL := hid hcl
      have hsr := hbr.size
      clear hoc hnum hbr hcl HO3 HB3 htk
      have hi0 : (i : Int) ≤ 32 := by omega
      by_cases hin : (i : Int) < 32
      · by_cases hfit : (f : Int) + (i : Int) < 8 * ((l.length : Int) + 4)
        · obtain ⟨j, hj⟩ : ∃ j : Nat, 4 + ((f : Int) + (i : Int)) / 8 = (j : Int) := ⟨4 + (f + i) / 8, by omega⟩
          obtain ⟨tb, htb⟩ : ∃ tb : Nat, ((f : Int) + (i : Int)) % 8 = (tb : Int) := ⟨(f + i) % 8, by omega⟩
          have hj1 : (j : Int) < (l.length : Int) + 8 := by omega
          have htb1 : (tb : Int) < 8 := by omega
          have HJE := hid (show 32 + f + i = 8 * j + tb by omega)
          have HJ4 := hid (show 4 ≤ j by omega)
          obtain ⟨x, hx1, hx2, hx3, hx4⟩ := HOC.out.byte_at (by have := HCL.out; omega) (j := j)
          by_cases hbit : p0 / 2 ^ i % 2 = 1
          · have hbe : bits .and .u32 ((p0 : Int) / 2 ^ i) 1 = 1 := by rw [bit_and _ _ (by omega), hbit]; rfl
            have HX1 := hid hx1
            have HBIT := hid hbit
            clear hx1 hbit
            go_wp2
            go_roundw
            case rel =>
              refine ⟨i + 1, by go_num, ?_, by omega, by omega, ?_, HBR.out.setCell (HOC.out.block_le) _⟩
              · rw [decide_eq_true (mod_pos _ _ HBIT.out)]
              · exact TurnF.step HFL.out HOC.out HCL.out HNUM.out HTK.out HBIT.out HX1.out HJE.out (by omega) HJ4.out
            case measure => simp [intOf]; omega
          · have hbe : bits .and .u32 ((p0 : Int) / 2 ^ i) 1 = 0 := by rw [bit_and _ _ (by omega)]; omega
            have HBIT := hid (show p0 / 2 ^ i % 2 = 0 by omega)
            clear hbit hx1 hx2 hx4
            go_wp2
            go_roundw
            case rel =>
              refine ⟨i + 1, by go_num, by rw [mod_same _ _ HBIT.out], by omega, by omega, ⟨c, by rw [HFL.out]; exact HOC.out, by rw [HFL.out]; exact HCL.out, by rw [mod_same _ _ HBIT.out]; exact HNUM.out, HTK.out⟩, HBR.out⟩
            case measure => simp [intOf]; omega
        all_goals
          go_wp2_with fail
          refine (unframe_any _ c 0 _ HOC.out.bts (Nat.zero_le _) (by have := HCL.out; omega)).mono ?_
          rintro e w4 ⟨va4, m4, vc4, next4, code4, rfl, hU, hb4⟩
          have hE := unfE_turned l c (p0 % 2 ^ i) f (by omega) HCL.out HTK.out (by have := Nat.mod_le p0 (2 ^ i); omega) (by omega) HNUM.out
          unfold UnfV at hU
          rw [List.drop_zero] at hU
          have HB4 := hid (HBR.out.trans (hb4.mono HBR.out.size))
          clear hb4 hi0 hin
          by_cases hd : p0 % 2 ^ i = 0
          · rw [if_pos hd] at hE
            rw [if_pos hE] at hU
            obtain ⟨hO4, hm4, -, rfl⟩ := hU
            have hcF : c = frameB l := numL_inj _ _ (by rw [HCL.out, HFL.out]) (by have := HNUM.out; rw [hd] at this; simpa using this)
            rw [hcF, unfD_frame l (by omega)] at hO4 hm4
            subst hm4
            have hcs1 := conv_string w4 _ _ hO4.bts
            have hcs2 := conv_string w4 _ _ (HV.out.below HB4.out)
            have hcs3 := conv_string w4.drew _ _ (hO4.bts.below ((Below.refl _ _).drew))
            have hcs4 := conv_string w4.drew _ _ ((HV.out.below HB4.out).below ((Below.refl _ _).drew))
            generalize (⟨l.toArray⟩ : ByteArray) = T at hcs1 hcs2 hcs3 hcs4
            simp only [hd]
            clear hE hcF hO4 hfi hfl hf2 hi32
            go_wp2_with (go_at_call 12; refine (lives_any _).mono ?_; rintro e w10 ⟨rfl, hb10⟩; have HB10 := hid hb10; clear hb10)
            go_ret
            exact ⟨rfl, HBD.out.trans ((HB4.out.trans (HB10.out.mono HB4.out.size)).mono (by have := HSD.out; omega))⟩
          · rw [if_neg hd] at hE
            rw [if_neg (by omega)] at hU
            obtain ⟨rfl, rfl, rfl, rfl, rfl⟩ := hU
            rw [hE]
            have hdd : decide (p0 % 2 ^ i = 0) = false := decide_eq_false hd
            simp only [hdd]
            clear hE hfi hfl hf2 hi32 hd hdd
            go_wp2_with (go_at_call 12; refine (lives_any _).mono ?_; rintro e w10 ⟨rfl, hb10⟩; have HB10 := hid hb10; clear hb10)
            go_ret
            exact ⟨rfl, HBD.out.trans ((HB4.out.trans (HB10.out.mono HB4.out.size)).mono (by have := HSD.out; omega))⟩
      all_goals
        go_wp2_with fail
        refine (unframe_any _ c 0 _ HOC.out.bts (Nat.zero_le _) (by have := HCL.out; omega)).mono ?_
        rintro e w4 ⟨va4, m4, vc4, next4, code4, rfl, hU, hb4⟩
        have hE := unfE_turned l c (p0 % 2 ^ i) f (by omega) HCL.out HTK.out (by have := Nat.mod_le p0 (2 ^ i); omega) (by omega) HNUM.out
        unfold UnfV at hU
        rw [List.drop_zero] at hU
        have HB4 := hid (HBR.out.trans (hb4.mono HBR.out.size))
        clear hb4 hi0 hin
        by_cases hd : p0 % 2 ^ i = 0
        · rw [if_pos hd] at hE
          rw [if_pos hE] at hU
          obtain ⟨hO4, hm4, -, rfl⟩ := hU
          have hcF : c = frameB l := numL_inj _ _ (by rw [HCL.out, HFL.out]) (by have := HNUM.out; rw [hd] at this; simpa using this)
          rw [hcF, unfD_frame l (by omega)] at hO4 hm4
          subst hm4
          have hcs1 := conv_string w4 _ _ hO4.bts
          have hcs2 := conv_string w4 _ _ (HV.out.below HB4.out)
          have hcs3 := conv_string w4.drew _ _ (hO4.bts.below ((Below.refl _ _).drew))
          have hcs4 := conv_string w4.drew _ _ ((HV.out.below HB4.out).below ((Below.refl _ _).drew))
          generalize (⟨l.toArray⟩ : ByteArray) = T at hcs1 hcs2 hcs3 hcs4
          simp only [hd]
          clear hE hcF hO4 hfi hfl hf2 hi32
          go_wp2_with (go_at_call 12; refine (lives_any _).mono ?_; rintro e w10 ⟨rfl, hb10⟩; have HB10 := hid hb10; clear hb10)
          go_ret
          exact ⟨rfl, HBD.out.trans ((HB4.out.trans (HB10.out.mono HB4.out.size)).mono (by have := HSD.out; omega))⟩
        · rw [if_neg hd] at hE
          rw [if_neg (by omega)] at hU
          obtain ⟨rfl, rfl, rfl, rfl, rfl⟩ := hU
          rw [hE]
          have hdd : decide (p0 % 2 ^ i = 0) = false := decide_eq_false hd
          simp only [hdd]
          clear hE hfi hfl hf2 hi32 hd hdd
          go_wp2_with (go_at_call 12; refine (lives_any _).mono ?_; rintro e w10 ⟨rfl, hb10⟩; have HB10 := hid hb10; clear hb10)
          go_ret
          exact ⟨rfl, HBD.out.trans ((HB4.out.trans (HB10.out.mono HB4.out.size)).mono (by have := HSD.out; omega))⟩
end Go.Proofs.Ytijpbcbmmecdoaa
