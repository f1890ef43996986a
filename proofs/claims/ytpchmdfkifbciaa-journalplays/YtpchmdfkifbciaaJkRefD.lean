/- What the document's device does in Append, DoStage, SetStop, Crash, Used, New. Conditions: it lies in memory; at most a hundred thousand million bytes are laid. -/
import Derived.Test.YtpchmdfkifbciaaJkRefC
namespace Go.Proofs.Ytpchmdfkifbciaa
open Go.RowKit

set_option maxHeartbeats 1600000 in
theorem rstage_any (b : Nat) (R : Nat → Prop) (S : DS) (v : Value) (m : List UInt8) (w : World) (hd : Rk w b R S) (hv : Bts w v m) (hov : Out R v) (hm : m.length ≤ 100000000000) :
    Calls Try.prog 41 #[.pointer (some ⟨b, 0, none⟩), v] w fun e w' => e = .returned (.int .i64 (writeE S (stageE S m))) ∧ RStep w b R w' (writeS S (stageS S m) S) := by
  have HD := hid hd
  clear hd
  have HV := hid hv
  have HOV := hid hov
  obtain ⟨ua, uc, rfl⟩ := hv.shape
  clear hv hov
  cases ho : S.off with
  | true =>
    rw [weE_off ho, weS_off ho]
    have HO := hid ho
    clear ho
    go_enter Try.func41, Try.ntmps41
    go_wp2_with (go_at_call 69; refine (count_off b R S _ HD.out HO.out).mono ?_; rintro e w1 ⟨rfl, rfl⟩)
    go_ret
    exact ⟨rfl, RStep.of_below HD.out (Below.refl _ _)⟩
  | false =>
    by_cases hl : S.left = 0
    · rw [weE_goes ho hl, weS_goes ho hl]
      have HO := hid ho
      have HL := hid hl
      clear ho hl
      go_enter Try.func41, Try.ntmps41
      go_wp2_with (go_at_call 69; refine (count_goes b R S _ HD.out HO.out HL.out).mono ?_; rintro e w1 ⟨rfl, hs1⟩; have HS := hid hs1; clear hs1)
      go_ret
      rw [show max (S.left - 1) (-1) = -1 from by rw [HL.out]; rfl]
      exact ⟨rfl, HS.out⟩
    · rw [weE_on ho hl, weS_on ho hl]
      have HO := hid ho
      have HL := hid hl
      clear ho hl
      have hsm : sec m.length ≤ 1000000000 := by unfold sec; omega
      have hsi : sec S.image.length ≤ 65536 := by have := HD.out.ok.image; unfold sec; omega
      have hsl : sec S.log.length ≤ 65536 := by have := HD.out.ok.log; unfold sec; omega
      have e1 : IntKind.i64.wrap ((sec m.length : Int) + (sec S.image.length : Int)) = (sec m.length : Int) + (sec S.image.length : Int) := IntWalk.i64_in _ ⟨by omega, by omega⟩
      have e2 : IntKind.i64.wrap ((sec m.length : Int) + (sec S.image.length : Int) + (sec S.log.length : Int)) = (sec m.length : Int) + (sec S.image.length : Int) + (sec S.log.length : Int) := IntWalk.i64_in _ ⟨by omega, by omega⟩
      by_cases hf : sec m.length + sec S.image.length + sec S.log.length ≤ S.room
      · unfold stageE stageS
        rw [if_pos hf, if_pos hf]
        have HF := hid hf
        have hf' : ¬ ((S.room : Int) < (sec m.length : Int) + (sec S.image.length : Int) + (sec S.log.length : Int)) := by omega
        clear hf
        go_enter Try.func41, Try.ntmps41
        go_wp2_with fail
        refine (count_on b R S _ HD.out HO.out HL.out).mono ?_
        rintro e w1 ⟨rfl, hs1⟩
        obtain ⟨R1, ⟨iv, sv, lv, d1⟩, t1, r1⟩ := hs1
        obtain ⟨va, vc, rfl⟩ := d1.ol.shape
        obtain ⟨vi, vj, rfl⟩ := d1.oi.shape
        obtain ⟨vs, vt, rfl⟩ := d1.os.shape
        obtain ⟨c0, c1, c2, c3, c4, c5, c6, c7, cf⟩ := cell_eight d1.head
        have D1 := hid d1
        have T1 := hid t1
        have U1 := hid r1
        have h1 := d1.ok.log
        have h2 := d1.ok.image
        have h3 := d1.ok.stage
        have h4 := d1.ok.room
        simp only [C0] at c0 c1 c2 c3 c4 c5 c6 c7 h1 h2 h3 h4
        clear d1 t1 r1
        have V1 := hid (HV.out.but T1.out HOV.out)
        go_wp2_with fail
        go_quiet (first | (go_at_call 70; refine Calls.quiet_of_same (rsec_any _ m _ ?_); exact Bts.below V1.out (drewN_below _ _)) | (go_at_call 70; refine Calls.quiet_of_same (rsec_any _ S.image _ ?_); exact Bts.below D1.out.oi.bts (drewN_below _ _)) | (go_at_call 70; refine Calls.quiet_of_same (rsec_any _ S.log _ ?_); exact Bts.below D1.out.ol.bts (drewN_below _ _)))
        go_wp2_with fail
        refine (join_any _ _ m [] _ (V1.out.below (drewN_below w1 _)) (Own.nil _ 0).bts (by simp; omega)).mono ?_
        rw [List.append_nil, List.length_nil, Nat.add_zero]
        rintro e w2 ⟨va2, vc2, rfl, ho2, hb2'⟩
        have hb2 : Below w1.heap.size w1 w2 := ⟨hb2'.os, hb2'.tape, hb2'.output, hb2'.size, hb2'.block⟩
        clear hb2' e1 e2 hf'
        have hH2 := (hb2.block b D1.out.lt).trans D1.out.head
        obtain ⟨k0, k1, k2, k3, k4, k5, k6, k7, kf⟩ := cell_eight hH2
        have H2 := hid hH2
        have B2 := hid hb2
        have O2 := hid ho2
        simp only [C0] at k0 k1 k2 k3 k4 k5 k6 k7
        clear hH2 hb2 ho2 c0 c1 c2 c3 c4 c5 c6 c7 cf
        go_wp2
        try (go_region; go_wp2)
        go_ret
        refine ⟨rfl, rstep_trans T1.out U1.out (D1.out.make B2.out (by first | exact ((But.refl (fun k => k = b) _).set (.inl rfl)).set (.inl rfl) | exact (((But.refl (fun k => k = b) _).set (.inl rfl)).set (.inl rfl)).drew) (D1.out.ok.stageV m HF.out) ?_ (D1.out.oi.below B2.out) (O2.out.lower (Nat.zero_le _)) (D1.out.ol.below B2.out) (old_in D1.out.ii) (new_in O2.out) (old_in D1.out.il))⟩
        exact heap_setCell_same _ b 3 _ _ _ (heap_setCell_same w2 b 2 _ _ _ H2.out)
      · unfold stageE stageS
        rw [if_neg hf, if_neg hf]
        have hf' : (S.room : Int) < (sec m.length : Int) + (sec S.image.length : Int) + (sec S.log.length : Int) := by omega
        clear hf
        go_enter Try.func41, Try.ntmps41
        go_wp2_with fail
        refine (count_on b R S _ HD.out HO.out HL.out).mono ?_
        rintro e w1 ⟨rfl, hs1⟩
        obtain ⟨R1, ⟨iv, sv, lv, d1⟩, t1, r1⟩ := hs1
        obtain ⟨va, vc, rfl⟩ := d1.ol.shape
        obtain ⟨vi, vj, rfl⟩ := d1.oi.shape
        obtain ⟨vs, vt, rfl⟩ := d1.os.shape
        obtain ⟨c0, c1, c2, c3, c4, c5, c6, c7, cf⟩ := cell_eight d1.head
        have D1 := hid d1
        have T1 := hid t1
        have U1 := hid r1
        have h1 := d1.ok.log
        have h2 := d1.ok.image
        have h3 := d1.ok.stage
        have h4 := d1.ok.room
        simp only [C0] at c0 c1 c2 c3 c4 c5 c6 c7 h1 h2 h3 h4
        clear d1 t1 r1
        have V1 := hid (HV.out.but T1.out HOV.out)
        go_wp2_with fail
        go_quiet (first | (go_at_call 70; refine Calls.quiet_of_same (rsec_any _ m _ ?_); exact Bts.below V1.out (drewN_below _ _)) | (go_at_call 70; refine Calls.quiet_of_same (rsec_any _ S.image _ ?_); exact Bts.below D1.out.oi.bts (drewN_below _ _)) | (go_at_call 70; refine Calls.quiet_of_same (rsec_any _ S.log _ ?_); exact Bts.below D1.out.ol.bts (drewN_below _ _)))
        go_wp2
        go_ret
        exact ⟨rfl, rstep_trans T1.out U1.out (RStep.of_below D1.out.rk (drewN_below w1 _))⟩
theorem layS_fits {S : DS} {m : List UInt8} (h : fitsA S m.length) : layS S m = { S with log := S.log ++ m } := by unfold layS; rw [if_pos h]
theorem layE_fits {S : DS} {m : List UInt8} (h : fitsA S m.length) : layE S m = 0 := by unfold layE; rw [if_pos h]
theorem layS_not {S : DS} {m : List UInt8} (h : ¬ fitsA S m.length) : layS S m = S := by unfold layS; rw [if_neg h]
theorem layE_not {S : DS} {m : List UInt8} (h : ¬ fitsA S m.length) : layE S m = 3 := by unfold layE; rw [if_neg h]
set_option maxHeartbeats 1600000 in
theorem rappend_any (b : Nat) (R : Nat → Prop) (S : DS) (v : Value) (m : List UInt8) (w : World) (hd : Rk w b R S) (hv : Bts w v m) (hov : Out R v) (hm : m.length ≤ 100000000000) :
    Calls Try.prog 46 #[.pointer (some ⟨b, 0, none⟩), v] w fun e w' => e = .returned (.int .i64 (writeE S (layE S m))) ∧ RStep w b R w' (writeS S (layS S m) (layS S m)) := by
  have HD := hid hd
  clear hd
  have HV := hid hv
  have HOV := hid hov
  obtain ⟨ua, uc, rfl⟩ := hv.shape
  clear hv hov
  have LL : Hid ((S.log ++ m).length = S.log.length + m.length) := hid List.length_append
  have hsl : sec (S.log.length + m.length) ≤ 1000000000 := by have := HD.out.ok.log; unfold sec; omega
  have hsi : sec S.image.length ≤ 65536 := by have := HD.out.ok.image; unfold sec; omega
  have hss : sec S.stage.length ≤ 65536 := by have := HD.out.ok.stage; unfold sec; omega
  have e1 : IntKind.i64.wrap ((sec (S.log.length + m.length) : Int) + (sec S.image.length : Int)) = (sec (S.log.length + m.length) : Int) + (sec S.image.length : Int) := IntWalk.i64_in _ ⟨by omega, by omega⟩
  have e2 : IntKind.i64.wrap ((sec (S.log.length + m.length) : Int) + (sec S.image.length : Int) + (sec S.stage.length : Int)) = (sec (S.log.length + m.length) : Int) + (sec S.image.length : Int) + (sec S.stage.length : Int) := IntWalk.i64_in _ ⟨by omega, by omega⟩
  cases ho : S.off with
  | true =>
    rw [weE_off ho, weS_off ho]
    have HO := hid ho
    clear ho
    go_enter Try.func46, Try.ntmps46
    go_wp2_with (go_at_call 69; refine (count_off b R S _ HD.out HO.out).mono ?_; rintro e w1 ⟨rfl, rfl⟩)
    go_ret
    exact ⟨rfl, RStep.of_below HD.out (Below.refl _ _)⟩
  | false =>
    by_cases hl : S.left = 0
    · rw [weE_goes ho hl, weS_goes ho hl]
      have HO := hid ho
      have HL := hid hl
      clear ho hl
      by_cases hf : sec (S.log.length + m.length) + sec S.image.length + sec S.stage.length ≤ S.room
      · have HF : Hid (fitsA S m.length) := hid hf
        rw [layS_fits HF.out]
        have hf' : (sec (S.log.length + m.length) : Int) + (sec S.image.length : Int) + (sec S.stage.length : Int) ≤ (S.room : Int) := by omega
        clear hf
        go_enter Try.func46, Try.ntmps46
        go_wp2_with fail
        refine (count_goes b R S _ HD.out HO.out HL.out).mono ?_
        rintro e w1 ⟨rfl, hs1⟩
        obtain ⟨R1, ⟨iv, sv, lv, d1⟩, t1, r1⟩ := hs1
        obtain ⟨va, vc, rfl⟩ := d1.ol.shape
        obtain ⟨vi, vj, rfl⟩ := d1.oi.shape
        obtain ⟨vs, vt, rfl⟩ := d1.os.shape
        obtain ⟨c0, c1, c2, c3, c4, c5, c6, c7, cf⟩ := cell_eight d1.head
        have D1 := hid d1
        have T1 := hid t1
        have U1 := hid r1
        have h1 := d1.ok.log
        have h2 := d1.ok.image
        have h3 := d1.ok.stage
        have h4 := d1.ok.room
        simp only [C1] at c0 c1 c2 c3 c4 c5 c6 c7 h1 h2 h3 h4
        clear d1 t1 r1
        have V1 := hid (HV.out.but T1.out HOV.out)
        go_wp2_with fail
        refine (join_any _ _ S.log m _ D1.out.ol.bts V1.out (by omega)).mono ?_
        rintro e w2 ⟨va2, vc2, rfl, ho2, hb2⟩
        have hH2 := (hb2.block b D1.out.lt).trans D1.out.head
        obtain ⟨k0, k1, k2, k3, k4, k5, k6, k7, kf⟩ := cell_eight hH2
        have H2 := hid hH2
        have B2 := hid hb2
        have O2 := hid ho2
        simp only [C1] at k0 k1 k2 k3 k4 k5 k6 k7
        clear hH2 hb2 ho2 c0 c1 c2 c3 c4 c5 c6 c7 cf
        have L2 := hid O2.out.bts
        have I2 := hid (D1.out.oi.bts.below B2.out)
        have G2 := hid (D1.out.os.bts.below B2.out)
        go_wp2_with fail
        go_quiet (first | (go_at_call 70; refine Calls.quiet_of_same (rsec_any _ (S.log ++ m) _ ?_); exact Bts.below L2.out (drewN_below _ _)) | (go_at_call 70; refine Calls.quiet_of_same (rsec_any _ S.image _ ?_); exact Bts.below I2.out (drewN_below _ _)) | (go_at_call 70; refine Calls.quiet_of_same (rsec_any _ S.stage _ ?_); exact Bts.below G2.out (drewN_below _ _)))
        go_wp2
        go_ret
        rw [show max (S.left - 1) (-1) = -1 from by rw [HL.out]; rfl]
        refine ⟨rfl, rstep_trans T1.out U1.out (D1.out.make B2.out (((But.of_below (drewN_below w2 _)).set (.inl rfl))) (D1.out.ok.lay m HF.out) ?_ (D1.out.oi.below B2.out) (D1.out.os.below B2.out) (by rw [← LL.out] at O2; exact O2.out.lower (Nat.zero_le _)) (old_in D1.out.ii) (old_in D1.out.is) (by rw [← LL.out] at O2; exact new_in O2.out))⟩
        rw [LL.out]
        exact heap_setCell_same (w2.drewN _) b 4 _ _ _ H2.out
      · have HF : Hid (¬ fitsA S m.length) := hid hf
        rw [layS_not HF.out]
        have hq : decide ((sec (S.log.length + m.length) : Int) + (sec S.image.length : Int) + (sec S.stage.length : Int) ≤ (S.room : Int)) = false := by simp; omega
        clear hf
        go_enter Try.func46, Try.ntmps46
        go_wp2_with fail
        refine (count_goes b R S _ HD.out HO.out HL.out).mono ?_
        rintro e w1 ⟨rfl, hs1⟩
        obtain ⟨R1, ⟨iv, sv, lv, d1⟩, t1, r1⟩ := hs1
        obtain ⟨va, vc, rfl⟩ := d1.ol.shape
        obtain ⟨vi, vj, rfl⟩ := d1.oi.shape
        obtain ⟨vs, vt, rfl⟩ := d1.os.shape
        obtain ⟨c0, c1, c2, c3, c4, c5, c6, c7, cf⟩ := cell_eight d1.head
        have D1 := hid d1
        have T1 := hid t1
        have U1 := hid r1
        have h1 := d1.ok.log
        have h2 := d1.ok.image
        have h3 := d1.ok.stage
        have h4 := d1.ok.room
        simp only [C1] at c0 c1 c2 c3 c4 c5 c6 c7 h1 h2 h3 h4
        clear d1 t1 r1
        have V1 := hid (HV.out.but T1.out HOV.out)
        go_wp2_with fail
        refine (join_any _ _ S.log m _ D1.out.ol.bts V1.out (by omega)).mono ?_
        rintro e w2 ⟨va2, vc2, rfl, ho2, hb2⟩
        have hH2 := (hb2.block b D1.out.lt).trans D1.out.head
        obtain ⟨k0, k1, k2, k3, k4, k5, k6, k7, kf⟩ := cell_eight hH2
        have H2 := hid hH2
        have B2 := hid hb2
        have O2 := hid ho2
        simp only [C1] at k0 k1 k2 k3 k4 k5 k6 k7
        clear hH2 hb2 ho2 c0 c1 c2 c3 c4 c5 c6 c7 cf
        have L2 := hid O2.out.bts
        have I2 := hid (D1.out.oi.bts.below B2.out)
        have G2 := hid (D1.out.os.bts.below B2.out)
        go_wp2_with fail
        go_quiet (first | (go_at_call 70; refine Calls.quiet_of_same (rsec_any _ (S.log ++ m) _ ?_); exact Bts.below L2.out (drewN_below _ _)) | (go_at_call 70; refine Calls.quiet_of_same (rsec_any _ S.image _ ?_); exact Bts.below I2.out (drewN_below _ _)) | (go_at_call 70; refine Calls.quiet_of_same (rsec_any _ S.stage _ ?_); exact Bts.below G2.out (drewN_below _ _)))
        go_wp2
        go_ret
        rw [show max (S.left - 1) (-1) = -1 from by rw [HL.out]; rfl]
        exact ⟨rfl, rstep_trans T1.out U1.out (RStep.of_below D1.out.rk (B2.out.trans ((drewN_below w2 _).mono B2.out.size)))⟩
    · rw [weE_on ho hl, weS_on ho hl]
      have HO := hid ho
      have HL := hid hl
      clear ho hl
      by_cases hf : sec (S.log.length + m.length) + sec S.image.length + sec S.stage.length ≤ S.room
      · have HF : Hid (fitsA S m.length) := hid hf
        rw [layS_fits HF.out, layE_fits HF.out]
        have hf' : (sec (S.log.length + m.length) : Int) + (sec S.image.length : Int) + (sec S.stage.length : Int) ≤ (S.room : Int) := by omega
        clear hf
        go_enter Try.func46, Try.ntmps46
        go_wp2_with fail
        refine (count_on b R S _ HD.out HO.out HL.out).mono ?_
        rintro e w1 ⟨rfl, hs1⟩
        obtain ⟨R1, ⟨iv, sv, lv, d1⟩, t1, r1⟩ := hs1
        obtain ⟨va, vc, rfl⟩ := d1.ol.shape
        obtain ⟨vi, vj, rfl⟩ := d1.oi.shape
        obtain ⟨vs, vt, rfl⟩ := d1.os.shape
        obtain ⟨c0, c1, c2, c3, c4, c5, c6, c7, cf⟩ := cell_eight d1.head
        have D1 := hid d1
        have T1 := hid t1
        have U1 := hid r1
        have h1 := d1.ok.log
        have h2 := d1.ok.image
        have h3 := d1.ok.stage
        have h4 := d1.ok.room
        simp only [C0] at c0 c1 c2 c3 c4 c5 c6 c7 h1 h2 h3 h4
        clear d1 t1 r1
        have V1 := hid (HV.out.but T1.out HOV.out)
        go_wp2_with fail
        refine (join_any _ _ S.log m _ D1.out.ol.bts V1.out (by omega)).mono ?_
        rintro e w2 ⟨va2, vc2, rfl, ho2, hb2⟩
        have hH2 := (hb2.block b D1.out.lt).trans D1.out.head
        obtain ⟨k0, k1, k2, k3, k4, k5, k6, k7, kf⟩ := cell_eight hH2
        have H2 := hid hH2
        have B2 := hid hb2
        have O2 := hid ho2
        simp only [C0] at k0 k1 k2 k3 k4 k5 k6 k7
        clear hH2 hb2 ho2 c0 c1 c2 c3 c4 c5 c6 c7 cf
        have L2 := hid O2.out.bts
        have I2 := hid (D1.out.oi.bts.below B2.out)
        have G2 := hid (D1.out.os.bts.below B2.out)
        go_wp2_with fail
        go_quiet (first | (go_at_call 70; refine Calls.quiet_of_same (rsec_any _ (S.log ++ m) _ ?_); exact Bts.below L2.out (drewN_below _ _)) | (go_at_call 70; refine Calls.quiet_of_same (rsec_any _ S.image _ ?_); exact Bts.below I2.out (drewN_below _ _)) | (go_at_call 70; refine Calls.quiet_of_same (rsec_any _ S.stage _ ?_); exact Bts.below G2.out (drewN_below _ _)))
        go_wp2
        go_ret

        refine ⟨rfl, rstep_trans T1.out U1.out (D1.out.make B2.out (((But.of_below (drewN_below w2 _)).set (.inl rfl))) (D1.out.ok.lay m HF.out) ?_ (D1.out.oi.below B2.out) (D1.out.os.below B2.out) (by rw [← LL.out] at O2; exact O2.out.lower (Nat.zero_le _)) (old_in D1.out.ii) (old_in D1.out.is) (by rw [← LL.out] at O2; exact new_in O2.out))⟩
        rw [LL.out]
        exact heap_setCell_same (w2.drewN _) b 4 _ _ _ H2.out
      · have HF : Hid (¬ fitsA S m.length) := hid hf
        rw [layS_not HF.out, layE_not HF.out]
        have hq : decide ((sec (S.log.length + m.length) : Int) + (sec S.image.length : Int) + (sec S.stage.length : Int) ≤ (S.room : Int)) = false := by simp; omega
        clear hf
        go_enter Try.func46, Try.ntmps46
        go_wp2_with fail
        refine (count_on b R S _ HD.out HO.out HL.out).mono ?_
        rintro e w1 ⟨rfl, hs1⟩
        obtain ⟨R1, ⟨iv, sv, lv, d1⟩, t1, r1⟩ := hs1
        obtain ⟨va, vc, rfl⟩ := d1.ol.shape
        obtain ⟨vi, vj, rfl⟩ := d1.oi.shape
        obtain ⟨vs, vt, rfl⟩ := d1.os.shape
        obtain ⟨c0, c1, c2, c3, c4, c5, c6, c7, cf⟩ := cell_eight d1.head
        have D1 := hid d1
        have T1 := hid t1
        have U1 := hid r1
        have h1 := d1.ok.log
        have h2 := d1.ok.image
        have h3 := d1.ok.stage
        have h4 := d1.ok.room
        simp only [C0] at c0 c1 c2 c3 c4 c5 c6 c7 h1 h2 h3 h4
        clear d1 t1 r1
        have V1 := hid (HV.out.but T1.out HOV.out)
        go_wp2_with fail
        refine (join_any _ _ S.log m _ D1.out.ol.bts V1.out (by omega)).mono ?_
        rintro e w2 ⟨va2, vc2, rfl, ho2, hb2⟩
        have hH2 := (hb2.block b D1.out.lt).trans D1.out.head
        obtain ⟨k0, k1, k2, k3, k4, k5, k6, k7, kf⟩ := cell_eight hH2
        have H2 := hid hH2
        have B2 := hid hb2
        have O2 := hid ho2
        simp only [C0] at k0 k1 k2 k3 k4 k5 k6 k7
        clear hH2 hb2 ho2 c0 c1 c2 c3 c4 c5 c6 c7 cf
        have L2 := hid O2.out.bts
        have I2 := hid (D1.out.oi.bts.below B2.out)
        have G2 := hid (D1.out.os.bts.below B2.out)
        go_wp2_with fail
        go_quiet (first | (go_at_call 70; refine Calls.quiet_of_same (rsec_any _ (S.log ++ m) _ ?_); exact Bts.below L2.out (drewN_below _ _)) | (go_at_call 70; refine Calls.quiet_of_same (rsec_any _ S.image _ ?_); exact Bts.below I2.out (drewN_below _ _)) | (go_at_call 70; refine Calls.quiet_of_same (rsec_any _ S.stage _ ?_); exact Bts.below G2.out (drewN_below _ _)))
        go_wp2
        go_ret

        exact ⟨rfl, rstep_trans T1.out U1.out (RStep.of_below D1.out.rk (B2.out.trans ((drewN_below w2 _).mono B2.out.size)))⟩
set_option maxHeartbeats 400000 in
theorem rstop_any (b : Nat) (R : Nat → Prop) (S : DS) (n : Int) (w : World) (hd : Rk w b R S) (hn : n ≤ 9223372036854775807) :
    Calls Try.prog 20 #[.pointer (some ⟨b, 0, none⟩), .int .i64 n] w fun e w' => e = .returned (.tuple #[]) ∧ RStep w b R w' (stopS S n) := by
  obtain ⟨iv, sv, lv, hd⟩ := hd
  have HD := hid hd
  obtain ⟨c0, c1, c2, c3, c4, c5, c6, c7, cf⟩ := cell_eight hd.head
  clear hd
  have HN := hid hn
  clear hn
  by_cases hlt : n < 0
  all_goals
    go_enter Try.func20, Try.ntmps20
    go_wp2
    go_end0
    refine ⟨rfl, HD.out.make (Below.refl _ _) (by first | exact ((But.refl (fun k => k = b) _).set (.inl rfl)).set (.inl rfl) | exact (But.refl (fun k => k = b) _).set (.inl rfl)) (HD.out.ok.stop n HN.out) ?_ HD.out.oi HD.out.os HD.out.ol (old_in HD.out.ii) (old_in HD.out.is) (old_in HD.out.il)⟩
    first
      | (have hm : max n (-1) = -1 := by omega
         simp only [stopS, hm]; exact heap_setCell_same _ b 6 _ _ _ (heap_setCell_same w b 6 _ _ _ HD.out.head))
      | (have hm : max n (-1) = n := by omega
         simp only [stopS, hm]; exact heap_setCell_same w b 6 _ _ _ HD.out.head)
set_option maxHeartbeats 400000 in
theorem rnew_any (n : Nat) (w : World) (h2 : n ≤ 65536) :
    Calls Try.prog 11 #[.int .i64 n] w fun e w' => ∃ b R, e = .returned (.pointer (some ⟨b, 0, none⟩)) ∧ Rk w' b R (newS n) ∧ (∀ k, R k → w.heap.size ≤ k) ∧ Below w.heap.size w w' := by
  go_enter Try.func11, Try.ntmps11
  go_wp2
  go_ret
  refine ⟨w.heap.size, fun k => k = w.heap.size, rfl, ⟨.slice none 0 0, .slice none 0 0, .slice none 0 0, ?_⟩, fun k hk => Nat.le_of_eq hk.symm, (Below.refl _ _).alloc (Nat.le_refl _) _⟩
  exact ⟨newS_ok n h2, rfl, fun k hk => by subst hk; simp, heap_alloc_new _ _, Own.nil _ _, Own.nil _ _, Own.nil _ _, InR.nil _ _, InR.nil _ _, InR.nil _ _⟩
end Go.Proofs.Ytpchmdfkifbciaa
