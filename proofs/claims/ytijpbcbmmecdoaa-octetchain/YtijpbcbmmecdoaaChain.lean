/- OctetChain answers true for any rows of bytes and any bytes ahead; nothing that was there has turned. -/
import Derived.Test.YtijpbcbmmecdoaaChainMath
import Derived.Deep.DrawnRows
namespace Go.Proofs.Ytijpbcbmmecdoaa
open Go.RowKit
attribute [local go_sem ↓] Go.wp_at_zero Go.wp_at_succ

set_option maxRecDepth 100000 in
set_option maxHeartbeats 3200000 in
theorem chain_law (v va : Value) (ls : List (List UInt8)) (l : List UInt8) (w : World) (hv : Btss w v ls) (ha : Bts w va l) :
    Calls Try.prog 4 #[v, va] w fun e w' => e = .returned (.bool true) ∧ Below w.heap.size w w' := by
  have HV := hid hv
  have HA := hid ha
  obtain ⟨a1, c1, rfl⟩ := ha.shape
  obtain ⟨ao, n, cap, rfl, rfl, hc, hcap, hnone, hcell⟩ := hv
  clear ha hcell
  by_cases hbig : 50 < (ls.length : Int) ∨ 1000 < (l.length : Int)
  · clear hnone
    go_enter Try.func4, Try.ntmps4
    by_cases h1 : 50 < (ls.length : Int)
    · clear hbig
      go_wp2_with (go_at_call 12; refine (lives_any _).mono ?_; rintro e w10 ⟨rfl, hb10⟩; have HB10 := hid hb10; clear hb10)
      go_ret
      exact ⟨rfl, HB10.out⟩
    · have h2 : 1000 < (l.length : Int) := by omega
      clear hbig
      go_wp2_with (go_at_call 12; refine (lives_any _).mono ?_; rintro e w10 ⟨rfl, hb10⟩; have HB10 := hid hb10; clear hb10)
      go_ret
      exact ⟨rfl, HB10.out⟩
  · have h1 : (ls.length : Int) ≤ 50 := by omega
    have h2 : (l.length : Int) ≤ 1000 := by omega
    clear hbig
    have HO := hid (Own.empty w)
    have hba : Below w.heap.size w (w.alloc (.cells #[] 5)) := (Below.refl _ _).alloc (Nat.le_refl _) _
    have HA1 := hid (HA.out.below hba)
    go_enter Try.func4, Try.ntmps4
    go_wp2_with (at_builtin; refine wpl_append rfl (.tmp 28) (.tmp 29) rfl w.heap.size (.slice (some ⟨w.heap.size, 0, none⟩) 0 0) [] rfl HO.out _ l rfl HA1.out (by simp; omega) (by simp) ?_; intro va1 vc1 w2 ho1 hg1; simp only [List.length_nil, Nat.zero_add, List.nil_append] at ho1; have HB2 := hid (hba.trans (below_grown HO.out hg1 (by simp))); have HO1 := hid ho1; clear ho1 hg1)
    clear hba HO HA1
    go_loopw [5, 33] (fun bvv iv wr => ∃ (i : Nat) (vb : Option Addr) (vc : Nat), iv = .int .i64 i ∧ i ≤ ls.length ∧ bvv = .slice vb (l.length + (framesB (ls.take i)).length) vc ∧ Own wr w.heap.size (.slice vb (l.length + (framesB (ls.take i)).length) vc) (l ++ framesB (ls.take i)) ∧ (framesB (ls.take i)).length ≤ 1008 * i ∧ (∀ j (h : j < ls.length), j < i → ls[j].length ≤ 1000) ∧ Below w.heap.size w wr) (fun _ iv _ => ls.length - (intOf iv).toNat)
    case atStart => exact ⟨0, va1, vc1, rfl, Nat.zero_le _, by simp [framesB_nil], by simpa [framesB_nil] using HO1.out, by simp [framesB_nil], by omega, HB2.out⟩
    case round =>
      obtain ⟨i, vb, vc, rfl, hi, rfl, hown, hlen, hall, hbl⟩ := hrel
      have HOW := hid hown
      have HALL := hid hall
      have HB := hid hbl
      have hs := hbl.size
      clear hown hall hbl HO1 HB2
      have HVR := hid (HV.out.below (HB.out.mono (Nat.le_refl _)))
      by_cases hlt : i < ls.length
      · obtain ⟨ao', n', cap', e', hn', -, -, hnone', hcell'⟩ := HVR.out
        cases e'
        have hao : ∃ ad, ao = some ad := by cases ao with | none => exact absurd (hnone rfl) (by omega) | some ad => exact ⟨ad, rfl⟩
        obtain ⟨ad, rfl⟩ := hao
        obtain ⟨u, hck, hu⟩ := hcell' ad rfl i hlt
        have HU := hid hu
        obtain ⟨ua, uc, rfl⟩ := hu.shape
        clear hcell' hnone hnone' hu
        have HT := hid (framesB_take ls i hlt)
        have HTL := hid (framesB_len_take ls i hlt)
        obtain ⟨x, hx⟩ : ∃ x, x = ls[i] := ⟨_, rfl⟩
        rw [← hx] at hck HU HT HTL
        have HX := hid hx
        obtain ⟨F, hF⟩ : ∃ F, F = framesB (ls.take i) := ⟨_, rfl⟩
        rw [← hF] at HT HTL HOW hlen ⊢
        clear hx hF
        by_cases hxl : 1000 < (x.length : Int)
        · go_wp2_with (go_at_call 12; refine (lives_any _).mono ?_; rintro e w10 ⟨rfl, hb10⟩; have HB10 := hid hb10; clear hb10)
          go_ret
          exact ⟨rfl, HB.out.trans (HB10.out.mono hs)⟩
        · have hxl' : (x.length : Int) ≤ 1000 := by omega
          clear hxl
          go_wp2_with fail
          refine (frame_any _ _ _ HU.out (by omega)).mono ?_
          rintro e w3 ⟨vf, cf, rfl, ho3, hb3⟩
          have HO3 := hid ho3
          have HB3 := hid (HB.out.trans (hb3.mono hs))
          have HOW3 := hid (HOW.out.below hb3)
          have hs3 := HB3.out.size
          have HFL := hid (frameB_len x)
          clear ho3 hb3
          go_wp2_with (at_builtin; refine wpl_append rfl (.tmp 48) (.tmp 49) rfl w.heap.size (.slice vb (l.length + F.length) vc) (l ++ F) rfl HOW3.out _ (frameB x) rfl HO3.out.bts (by rw [HFL.out]; simp; omega) hs3 ?_; intro va4 vc4 w4 ho4 hg4; rw [HFL.out, List.length_append] at ho4 ⊢; have HO4 := hid ho4; have HB4 := hid (HB3.out.trans (below_grown HOW3.out hg4 hs3)); clear ho4 hg4)
          go_roundw
          case rel =>
            have e2 : l.length + (framesB (ls.take (i + 1))).length = l.length + F.length + (x.length + 8) := by rw [HTL.out]; omega
            refine ⟨i + 1, va4, vc4, by go_num, by omega, by rw [e2], ?_, by rw [HTL.out]; omega, ?_, HB4.out⟩
            · rw [e2, HT.out, ← List.append_assoc]; exact HO4.out
            · intro j hj hji
              by_cases hj' : j < i
              · exact HALL.out j hj hj'
              · obtain rfl : j = i := by omega
                have := HX.out; rw [← this]; omega
          case measure => simp [intOf]; omega
      · obtain rfl : i = ls.length := by omega
        rw [List.take_length] at HOW hlen ⊢
        clear hlt hi HVR
        go_wp2
        have HOB := HOW
        have HBB := HB
        have hlI : ((framesB ls).length : Int) ≤ 50400 := by omega
        obtain ⟨m, hm⟩ : ∃ m : Nat, m = l.length + (framesB ls).length := ⟨_, rfl⟩
        rw [← hm] at HOB ⊢
        have hmI : (m : Int) ≤ 51400 := by omega
        have HM := hid hm
        clear hm HOW HB hlen hlI
        go_loopw [10, 56] (fun av iv wt => ∃ (k p : Nat), iv = .int .i64 k ∧ av = .int .i64 p ∧ k ≤ ls.length ∧ p = l.length + (framesB (ls.take k)).length ∧ Below wr.heap.size wr wt) (fun _ iv _ => ls.length - (intOf iv).toNat)
        case atStart => exact ⟨0, l.length, rfl, rfl, Nat.zero_le _, by simp [framesB_nil], Below.refl _ _⟩
        case round =>
          obtain ⟨k, p, rfl, rfl, hk, hp, hbt⟩ := hrel
          have HBT := hid hbt
          have HOT := hid (HOB.out.below hbt)
          have hst := hbt.size
          have hpm : p ≤ m := by have := HM.out; have := framesB_len_le ls k; omega
          have hpI : (p : Int) ≤ (m : Int) := by omega
          have HP := hid hp
          have HBW := hid (HBB.out.trans (hbt.mono hs))
          clear hbt hp
          have hlenB : (l ++ framesB ls).length = m := by rw [List.length_append]; exact HM.out.symm
          have HD : Hid ((l ++ framesB ls).drop p = framesB (ls.drop k)) := hid (by rw [HP.out]; exact chain_drop l ls k)
          have HLB := hid hlenB
          clear hlenB
          by_cases hlt : k < ls.length
          · have HVR := hid (HV.out.below (HBW.out.mono (Nat.le_refl _)))
            obtain ⟨ao', n', cap', e', hn', -, -, hnone', hcell'⟩ := HVR.out
            cases e'
            have hao : ∃ ad, ao = some ad := by cases ao with | none => exact absurd (hnone rfl) (by omega) | some ad => exact ⟨ad, rfl⟩
            obtain ⟨ad, rfl⟩ := hao
            obtain ⟨u, hck, hu⟩ := hcell' ad rfl k hlt
            have HU := hid hu
            obtain ⟨ua, uc, rfl⟩ := hu.shape
            clear hcell' hnone hnone' hu HVR
            have HDK := hid (framesB_drop ls k hlt)
            have HTL := hid (framesB_len_take ls k hlt)
            have hx1 := HALL.out k hlt hlt
            obtain ⟨x, hx⟩ : ∃ x, x = ls[k] := ⟨_, rfl⟩
            rw [← hx] at hck HU HDK HTL hx1
            clear hx
            have hx2 : (x.length : Int) ≤ 1000 := by omega
            go_wp2_with fail
            refine (unframe_any _ (l ++ framesB ls) p _ HOT.out.bts (by rw [HLB.out]; exact hpm) (by rw [HLB.out]; omega)).mono ?_
            rintro e w4 ⟨va4, m4, vc4, next4, code4, rfl, hU, hb4⟩
            unfold UnfV at hU
            rw [HD.out, HDK.out, unfE_app x _ (by omega), if_pos rfl, unfD_app x _ (by omega), wordV_app x _ (by omega)] at hU
            obtain ⟨hO4, rfl, rfl, rfl⟩ := hU
            have HB4 := hid (HBT.out.trans (hb4.mono hst))
            have hcs1 := conv_string w4 _ _ hO4.bts
            have hcs2 := conv_string w4 _ _ (HU.out.below hb4)
            have hcs3 := conv_string w4.drew _ _ (hO4.bts.below ((Below.refl _ _).drew))
            have hcs4 := conv_string w4.drew _ _ ((HU.out.below hb4).below ((Below.refl _ _).drew))
            generalize (⟨x.toArray⟩ : ByteArray) = T at hcs1 hcs2 hcs3 hcs4
            clear hO4 hb4
            go_wp2_with fail
            go_roundw
            case rel =>
              refine ⟨k + 1, p + x.length + 8, by go_num, by go_num, by omega, by rw [HTL.out, HP.out]; omega, HB4.out⟩
            case measure => simp [intOf]; omega
          · obtain rfl : k = ls.length := by omega
            have hpe : p = m := by have := HP.out; rw [List.take_length] at this; rw [this, HM.out]
            subst hpe
            go_wp2_with fail
            refine (unframe_any _ (l ++ framesB ls) p _ HOT.out.bts (by rw [HLB.out]; exact hpm) (by rw [HLB.out]; omega)).mono ?_
            rintro e w4 ⟨va4, m4, vc4, next4, code4, rfl, hU, hb4⟩
            unfold UnfV at hU
            rw [HD.out, List.drop_length, framesB_nil, show unfE [] = 8 from rfl, if_neg (by omega)] at hU
            obtain ⟨rfl, rfl, rfl, rfl, rfl⟩ := hU
            have HB4 := hid (HBW.out.trans (hb4.mono HBW.out.size))
            clear hb4
            go_wp2_with (go_at_call 12; refine (lives_any _).mono ?_; rintro e w10 ⟨rfl, hb10⟩; have HB10 := hid hb10; clear hb10)
            go_ret
            exact ⟨rfl, HB4.out.trans (HB10.out.mono HB4.out.size)⟩
end Go.Proofs.Ytijpbcbmmecdoaa
