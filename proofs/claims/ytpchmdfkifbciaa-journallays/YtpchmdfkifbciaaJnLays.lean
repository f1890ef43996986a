/- JournalLays answers true for any image and any rows of bytes; nothing that was there has turned. -/
import Derived.Test.YtpchmdfkifbciaaJnCalm
import Derived.Test.YtpchmdfkifbciaaJnLives
import Derived.Test.YtpchmdfkifbciaaJnRefFrame
namespace Go.Proofs.Ytpchmdfkifbciaa
open Go.RowKit

/-- A journal, its device, and a row of bytes of the law's own. -/
def JW (B : Nat) (w0 w : World) (jb db : Nat) (S : DS) (J : JS) (v : Value) (l : List UInt8) : Prop := ∃ R, Jd w jb db R S J ∧ (∀ k, R k → B ≤ k) ∧ Below B w0 w ∧ Own w B v l ∧ Out R v
theorem JW.jat {B : Nat} {w0 w : World} {jb db : Nat} {S : DS} {J : JS} {v : Value} {l : List UInt8} (h : JW B w0 w jb db S J v l) : JAt B w0 w jb db S J := by obtain ⟨R, h1, h2, h3, -, -⟩ := h; exact ⟨R, h1, h2, h3⟩
theorem JW.own {B : Nat} {w0 w : World} {jb db : Nat} {S : DS} {J : JS} {v : Value} {l : List UInt8} (h : JW B w0 w jb db S J v l) : Own w B v l := by obtain ⟨R, h1, h2, h3, h4, -⟩ := h; exact h4
theorem JAt.jw {B : Nat} {w0 w : World} {jb db : Nat} {S : DS} {J : JS} (h : JAt B w0 w jb db S J) : JW B w0 w jb db S J (.slice none 0 0) [] := by
  obtain ⟨R, h1, h2, h3⟩ := h
  exact ⟨R, h1, h2, h3, Own.nil _ _, fun k hk => by cases hk⟩
theorem JW.later {B : Nat} {w0 w w' : World} {jb db : Nat} {S : DS} {J : JS} {v : Value} {l : List UInt8} (h : JW B w0 w jb db S J v l) (hB : B ≤ w0.heap.size) (hb : Below w.heap.size w w') : JW B w0 w' jb db S J v l := by
  obtain ⟨R, h1, h2, h3, h4, h5⟩ := h
  exact ⟨R, h1.below hb, h2, h3.trans (hb.mono (Nat.le_trans hB h3.size)), h4.below hb, h5⟩
theorem JW.grown {B : Nat} {w0 w w' : World} {jb db : Nat} {S : DS} {J : JS} {v v' : Value} {l l' : List UInt8} (h : JW B w0 w jb db S J v l) (hB : B ≤ w0.heap.size) (hg : w.grownBy w' v.ownBlock) (ho : Own w' B v' l') (hat : v'.ownBlock = v.ownBlock ∨ v'.ownBlock = some w.heap.size) : JW B w0 w' jb db S J v' l' := by
  obtain ⟨R, h1, h2, h3, h4, h5⟩ := h
  have t : But (fun k => v.ownBlock = some k) w w' := But.grown hg fun _ h => h
  have hs := h3.size
  refine ⟨R, h1.but t fun k hk hk' => h5 k hk' hk, h2, h3.trans ((t.below (B := B) (by omega) fun k hk => (h4.lt k hk).1)), ho, fun k hk h => ?_⟩
  rcases hat with e | e
  · rw [e] at hk; exact h5 k hk h
  · rw [e] at hk; cases hk; exact absurd (h1.rlt _ h) (by omega)
theorem JW.add {B : Nat} {w0 w : World} {jb db : Nat} {S : DS} {J : JS} {u : Value} {l : List UInt8} (h : JW B w0 w jb db S J u l) (hB : B ≤ w0.heap.size) (v : Value) (r : List UInt8) (hv : Bts w v r) (hold : Old B v r) (hsz : sizeJ J ≤ 1000000000) :
    Calls Try.prog 13 #[.pointer (some ⟨jb, 0, none⟩), v] w fun e w' => e = .returned (.int .i64 (addE S J r)) ∧ JW B w0 w' jb db (addS S J r) (addJ S J r) u l := by
  obtain ⟨R, h1, h2, h3, h4, h5⟩ := h
  refine (add_any jb db R S J v r w h1 hv (stay hv fun hr k hk h => by have := hold hr k hk; have := h2 k h; omega) hsz).mono ?_
  rintro e w' ⟨rfl, hs⟩
  obtain ⟨R', a1, a2, a3⟩ := hs.at h3 hB h2
  obtain ⟨R', d', t', r'⟩ := hs
  have hs := h3.size
  refine ⟨rfl, R', d', fun k hk => ?_, a3, h4.but t' h5, fun k hk h => ?_⟩
  · rcases r' k hk with h | h
    · exact h2 k h
    · omega
  · rcases r' k h with h | h
    · exact h5 k hk h
    · have := (h4.lt k hk).2; omega
/-- The first 3000 bytes of each. -/
def smalls (ls : List (List UInt8)) : List (List UInt8) := ls.map (·.take 3000)
theorem smalls_le (ls : List (List UInt8)) : ∀ r ∈ smalls ls, r.length ≤ 3000 := by
  intro r hr
  obtain ⟨x, -, rfl⟩ := List.mem_map.1 hr
  simp; omega
theorem smalls_take (ls : List (List UInt8)) (i : Nat) (h : i < ls.length) : smalls (ls.take (i + 1)) = smalls (ls.take i) ++ [ls[i].take 3000] := by
  unfold smalls
  rw [List.take_succ_eq_append_getElem h, List.map_append]; rfl
set_option maxRecDepth 100000 in
set_option maxHeartbeats 3200000 in
theorem lays_law (iv lv : Value) (im : List UInt8) (ls : List (List UInt8)) (w : World) (hi : Bts w iv im) (hl : Btss w lv ls) :
    Calls Try.prog 8 #[iv, lv] w fun e w' => e = .returned (.bool true) ∧ Below w.heap.size w w' := by
  have HI := hid hi
  have HLS := hid hl
  obtain ⟨ia, ic, rfl⟩ := hi.shape
  obtain ⟨ao, n, cap, rfl, rfl, hc, hcap, hnone, hcell⟩ := hl
  have HC := hid hcell
  clear hi hcell
  go_enter Try.func8, Try.ntmps8
  go_wp2_with fail
  refine (small_any _ im _ HI.out).mono ?_
  rintro e w1 ⟨ja, jn, jc, rfl, hj1, hj2, rfl⟩
  have HJM := hid hj1
  have HOI := hid (ownB_small hj2 (old_of HI.out))
  clear hj1 hj2
  obtain ⟨m, hm⟩ : ∃ m, m = im.take 3000 := ⟨_, rfl⟩
  have hml : m.length ≤ 3000 := by rw [hm]; simp; omega
  rw [← hm] at HJM HOI
  clear hm HI
  obtain ⟨f1, f2, f3⟩ := calm_format 2000 m (by omega) (by unfold sec; omega)
  have F1 := hid f1
  have F2 := hid f2
  have F3 := hid f3
  clear f1 f2 f3
  go_wp2_with fail
  refine (new_ok 2000 _ (by omega) (by omega)).mono ?_
  rintro e w2 ⟨db, RD, rfl, hd2, hr2, hb2⟩
  have HA2 := hid (At.new hd2 hr2 hb2)
  have HM2 := hid (HJM.out.below hb2)
  clear hd2 hr2 hb2
  go_wp2_with fail
  refine (At.format HA2.out (Nat.le_refl _) _ m HM2.out HOI.out F1.out).mono ?_
  rw [F2.out]
  rintro e w3 ⟨jb, rfl, ha3⟩
  obtain ⟨S3, hS3⟩ : ∃ S3, S3 = (saveR (newS 2000) J0 m).2.1 := ⟨_, rfl⟩
  rw [← hS3] at ha3 F3
  clear hS3 F1 F2 HA2 HM2
  have HW3 := hid ha3.jw
  clear ha3
  go_wp2
  go_loopw [8, 9, 10, 33] (fun wv _ _ iv wr => ∃ (i : Nat) (S : DS) (va : Option Addr) (vc : Nat), iv = .int .i64 i ∧ i ≤ ls.length ∧ i ≤ 60 ∧ Calm 2000 S ⟨m, smalls (ls.take i), false⟩ ∧ wv = .slice va (framesB (smalls (ls.take i))).length vc ∧ JW w1.heap.size w1 wr jb db S ⟨m, smalls (ls.take i), false⟩ (.slice va (framesB (smalls (ls.take i))).length vc) (framesB (smalls (ls.take i)))) (fun _ _ _ iv _ => ls.length - (intOf iv).toNat)
  case atStart => exact ⟨0, S3, none, 0, rfl, Nat.zero_le _, by omega, F3.out, rfl, HW3.out⟩
  case round =>
    obtain ⟨i, S, va, vc, rfl, hi, hi60, hcalm, rfl, hjw⟩ := hrel
    have HCA := hid hcalm
    have HW := hid hjw
    clear hcalm hjw HW3 F3
    obtain ⟨rs, hrs⟩ : ∃ rs, rs = smalls (ls.take i) := ⟨_, rfl⟩
    rw [← hrs] at HCA HW ⊢
    have HRS := hid hrs
    have hrl : rs.length = i := by rw [hrs]; simp [smalls]; omega
    have hrsm : ∀ r ∈ rs, r.length ≤ 3000 := by rw [hrs]; exact smalls_le _
    have hrb : (framesB rs).length ≤ 60 * 3008 := by have := framesB_len_all rs 3000 hrsm; rw [hrl] at this; omega
    have HRB := hid hrb
    clear hrs hrl hrsm hrb
    by_cases hdone : i < ls.length ∧ i < 60
    · obtain ⟨hlt, hl6⟩ := hdone
      have hltI : (i : Int) < (ls.length : Int) := by omega
      have h60 : decide ((60 : Int) ≤ (i : Int)) = false := by simp; omega
      have hao : ∃ ad, ao = some ad := by cases ao with | none => exact absurd (hnone rfl) (by omega) | some ad => exact ⟨ad, rfl⟩
      obtain ⟨ad, rfl⟩ := hao
      obtain ⟨x, kx, hx⟩ := HC.out ad rfl i hlt
      have HX := hid hx
      obtain ⟨xa, xc, rfl⟩ := hx.shape
      have kx' : wr.cell? (ad.add i) = some (.slice xa ls[i].length xc) := cell_later HW.out.jat.below kx
      have HXR := hid (hx.below HW.out.jat.below)
      have HXO := hid (old_of HX.out)
      clear hx kx
      have HST := hid (smalls_take ls i hlt)
      obtain ⟨y, hy⟩ : ∃ y, y = ls[i] := ⟨_, rfl⟩
      rw [← hy] at kx' HXR HXO HST HX
      clear hy
      go_wp2_with fail
      refine (small_any _ y _ HXR.out).mono ?_
      rintro e w4 ⟨sa, sn, sc, rfl, hs1, hs2, rfl⟩
      have HSB := hid hs1
      have HSO := hid (ownB_small hs2 HXO.out)
      clear hs1 hs2
      obtain ⟨r, hr⟩ : ∃ r, r = y.take 3000 := ⟨_, rfl⟩
      have hr3 : r.length ≤ 3000 := by rw [hr]; simp; omega
      rw [← hr] at HSB HSO HST
      have HR := hid hr
      clear hr
      have hroom : roomJ 2000 ⟨m, rs, false⟩ r := by
        have := HRB.out
        unfold roomJ sizeJ sec
        simp only
        omega
      obtain ⟨c1, c2, c3, -⟩ := calm_add HCA.out r (by omega) hroom
      have C1 := hid c1
      have C2 := hid c2
      have C3 := hid c3
      clear c1 c2 c3 hroom
      go_wp2_with fail
      refine (HW.out.add (Nat.le_refl _) _ r HSB.out HSO.out (by show (framesB rs).length ≤ _; have := HRB.out; omega)).mono ?_
      rw [C1.out, C2.out]
      rintro e w5 ⟨rfl, hw5⟩
      have HW5 := hid hw5
      have HX5 := hid (HX.out.below hw5.jat.below)
      clear hw5 HW
      go_wp2_with fail
      refine (small_any _ y _ HX5.out).mono ?_
      rintro e w6 ⟨ta, tn, tc, rfl, ht1, ht2, rfl⟩
      rw [← HR.out] at ht1
      have HTB := hid ht1
      clear ht1 ht2
      go_wp2_with fail
      refine (refFrame_any _ r _ HTB.out (by omega)).mono ?_
      rintro e w7 ⟨fa, fc, rfl, hf7, hb7⟩
      have HW7 := hid (HW5.out.later (Nat.le_refl _) hb7)
      have HF7 := hid hf7.bts
      clear hf7 hb7 HW5
      go_wp2_with (at_builtin; refine wpl_append rfl _ _ rfl w1.heap.size (.slice va (framesB rs).length vc) (framesB rs) rfl HW7.out.own _ (frameB r) rfl HF7.out (by rw [frameB_len]; have := HRB.out; omega) HW7.out.jat.below.size ?_; intro va8 vc8 w8 ho8 hg8 hat8; rw [frameB_len] at ho8 hat8 ⊢; have HW8 := hid (HW7.out.grown (Nat.le_refl _) hg8 ho8 hat8); clear ho8 hg8 hat8)
      go_roundw
      case rel =>
        refine ⟨i + 1, addS S ⟨m, rs, false⟩ r, va8, vc8, by go_num, by omega, by omega, ?_, ?_, ?_⟩
        · rw [HST.out, ← HRS.out]; exact C3.out
        · rw [HST.out, ← HRS.out, framesB_snoc, List.length_append, frameB_len]
        · rw [HST.out, ← HRS.out, framesB_snoc, List.length_append, frameB_len]; exact HW8.out
      case measure => simp [intOf]; omega
    · obtain ⟨R, hd, hr, hbw, hown, hout⟩ := HW.out
      obtain ⟨RD, hdk, -⟩ := hd.dk
      have HDK := hid hdk
      have HBW := hid hbw
      have HWT := hid hown
      have HN := hid HCA.out.off
      have HLO := hid HCA.out.log
      have HIM := hid HCA.out.image
      have HMW := hid (HJM.out.below hbw)
      clear hd hr hbw hown hout hdk HW HCA
      have hend : ls.length ≤ i ∨ (i < ls.length ∧ 60 ≤ i) := by omega
      rcases hend with hge | ⟨hlt, hge⟩
      · have hltI : decide ((i : Int) < (ls.length : Int)) = false := by simp; omega
        clear hdone
        go_wp2_with fail
        refine (image_any db RD S _ HDK.out).mono ?_
        rw [toldL_on HN.out, toldE_on HN.out, HIM.out]
        rintro e w9 ⟨aa, ac, rfl, ho9, hb9⟩
        have HO9 := hid ho9.bts
        have HD9 := hid (HDK.out.below hb9)
        have HB9 := hid (HBW.out.trans (hb9.mono HBW.out.size))
        have HW9 := hid (HWT.out.bts.below hb9)
        have HM9 := hid (HMW.out.below hb9)
        clear ho9 hb9
        go_wp2_with fail
        refine (log_any db RD S _ HD9.out).mono ?_
        rw [toldL_on HN.out, toldE_on HN.out, HLO.out]
        rintro e w10 ⟨ba, bc, rfl, ho10, hb10⟩
        have HA10 := hid (HO9.out.below hb10)
        have HL10 := hid ho10.bts
        have HB10 := hid (HB9.out.trans (hb10.mono HB9.out.size))
        have HW10 := hid (HW9.out.below hb10)
        have HM10 := hid (HM9.out.below hb10)
        clear ho10 hb10 HO9 HD9 HB9 HW9 HM9
        go_wp2_with fail
        have sA := conv_string w10.drew _ _ HA10.out
        go_region_with (first
          | (go_at_call 39; refine (refFrame_any _ m _ ?_ (by omega)).mono ?_; exact HM10.out; rintro e w11 ⟨fa, fc, rfl, hf11, hb11⟩; have sA2 := conv_string w11 _ _ ((show Bts w10.drew _ _ from HA10.out).below hb11); have sF := conv_string w11 _ _ hf11.bts; have sL := conv_string w11 _ _ ((show Bts w10.drew _ _ from HL10.out).below hb11); have sW := conv_string w11 _ _ ((show Bts w10.drew _ _ from HW10.out).below hb11); have HB11 : Hid (Below w1.heap.size w1 w11) := hid ((show Below w1.heap.size w1 w10.drew from ⟨HB10.out.os, HB10.out.tape, HB10.out.output, HB10.out.size, HB10.out.block⟩).trans (hb11.mono HB10.out.size)); clear hf11 hb11)
          | (go_at_call 25; refine (jlives_any _).mono ?_; rintro e w12 ⟨rfl, hb12⟩; have HB12 := hid (HB11.out.trans (hb12.mono HB11.out.size)); clear hb12))
        all_goals
          go_wp2
          go_ret
          exact ⟨rfl, HB12.out⟩
      · have hltI : (i : Int) < (ls.length : Int) := by omega
        have h60 : (60 : Int) ≤ (i : Int) := by omega
        have hao : ∃ ad, ao = some ad := by cases ao with | none => exact absurd (hnone rfl) (by omega) | some ad => exact ⟨ad, rfl⟩
        obtain ⟨ad, rfl⟩ := hao
        obtain ⟨x, kx, hx⟩ := HC.out ad rfl i hlt
        obtain ⟨xa, xc, rfl⟩ := hx.shape
        have kx' : wr.cell? (ad.add i) = some (.slice xa ls[i].length xc) := cell_later HBW.out kx
        clear hdone hx kx
        go_wp2_with fail
        refine (image_any db RD S _ HDK.out).mono ?_
        rw [toldL_on HN.out, toldE_on HN.out, HIM.out]
        rintro e w9 ⟨aa, ac, rfl, ho9, hb9⟩
        have HO9 := hid ho9.bts
        have HD9 := hid (HDK.out.below hb9)
        have HB9 := hid (HBW.out.trans (hb9.mono HBW.out.size))
        have HW9 := hid (HWT.out.bts.below hb9)
        have HM9 := hid (HMW.out.below hb9)
        clear ho9 hb9
        go_wp2_with fail
        refine (log_any db RD S _ HD9.out).mono ?_
        rw [toldL_on HN.out, toldE_on HN.out, HLO.out]
        rintro e w10 ⟨ba, bc, rfl, ho10, hb10⟩
        have HA10 := hid (HO9.out.below hb10)
        have HL10 := hid ho10.bts
        have HB10 := hid (HB9.out.trans (hb10.mono HB9.out.size))
        have HW10 := hid (HW9.out.below hb10)
        have HM10 := hid (HM9.out.below hb10)
        clear ho10 hb10 HO9 HD9 HB9 HW9 HM9
        go_wp2_with fail
        have sA := conv_string w10.drew _ _ HA10.out
        go_region_with (first
          | (go_at_call 39; refine (refFrame_any _ m _ ?_ (by omega)).mono ?_; exact HM10.out; rintro e w11 ⟨fa, fc, rfl, hf11, hb11⟩; have sA2 := conv_string w11 _ _ ((show Bts w10.drew _ _ from HA10.out).below hb11); have sF := conv_string w11 _ _ hf11.bts; have sL := conv_string w11 _ _ ((show Bts w10.drew _ _ from HL10.out).below hb11); have sW := conv_string w11 _ _ ((show Bts w10.drew _ _ from HW10.out).below hb11); have HB11 : Hid (Below w1.heap.size w1 w11) := hid ((show Below w1.heap.size w1 w10.drew from ⟨HB10.out.os, HB10.out.tape, HB10.out.output, HB10.out.size, HB10.out.block⟩).trans (hb11.mono HB10.out.size)); clear hf11 hb11)
          | (go_at_call 25; refine (jlives_any _).mono ?_; rintro e w12 ⟨rfl, hb12⟩; have HB12 := hid (HB11.out.trans (hb12.mono HB11.out.size)); clear hb12))
        all_goals
          go_wp2
          go_ret
          exact ⟨rfl, HB12.out⟩
end Go.Proofs.Ytpchmdfkifbciaa
