/- JournalForeign answers true for any image and log; nothing that was there has turned. -/
import Derived.Test.YtpchmdfkifbciaaJnFind
import Derived.Test.YtpchmdfkifbciaaJnCalm
import Derived.Test.YtpchmdfkifbciaaJnLives
namespace Go.Proofs.Ytpchmdfkifbciaa
open Go.RowKit

theorem Try.underlying5E : Try.prog.underlying 60 = some (.array 5 25) := by kernel_rfl
theorem index_want (w : World) (i : Nat) (x : Int) (h : [(0 : Int), 0, 4, 5, 8][i]? = some x) :
    (Instr.index 60 (.agg #[.int .i64 0, .int .i64 0, .int .i64 4, .int .i64 5, .int .i64 8]) (.int .i64 (i : Int))).run Try.prog w = .ok (.int .i64 x) w := by
  match i, h with
  | 0, h => simp [Instr.index, run_underlying Try.underlying5E, asIntOf, go_sem] at h ⊢; exact h
  | 1, h => simp [Instr.index, run_underlying Try.underlying5E, asIntOf, go_sem] at h ⊢; exact h
  | 2, h => simp [Instr.index, run_underlying Try.underlying5E, asIntOf, go_sem] at h ⊢; exact h
  | 3, h => simp [Instr.index, run_underlying Try.underlying5E, asIntOf, go_sem] at h ⊢; exact h
  | 4, h => simp [Instr.index, run_underlying Try.underlying5E, asIntOf, go_sem] at h ⊢; exact h
/-- What lies on the disk. -/
def forS (im lg : List UInt8) : DS := ⟨40, im, [], false, lg, lg.length, false, -1⟩
def forS1 (im : List UInt8) : DS := ⟨40, [], im, true, [], 0, false, -1⟩
def forS2 (im : List UInt8) : DS := ⟨40, im, [], false, [], 0, false, -1⟩
def forS3 (im lg : List UInt8) : DS := ⟨40, im, [], false, lg, 0, false, -1⟩
theorem for_stage (im : List UInt8) (h : im.length ≤ 3000) : writeE (newS 40) (stageE (newS 40) im) = 0 ∧ writeS (newS 40) (stageS (newS 40) im) (newS 40) = forS1 im := by
  have h1 : sec im.length + sec (newS 40).image.length + sec (newS 40).log.length ≤ (newS 40).room := by simp only [newS, sec_nil]; unfold sec; omega
  unfold stageE stageS
  rw [if_pos h1, if_pos h1]
  exact ⟨rfl, rfl⟩
theorem for_commit (im : List UInt8) : writeE (forS1 im) (commitE (forS1 im)) = 0 ∧ writeS (forS1 im) (commitS (forS1 im)) (forS1 im) = forS2 im := ⟨rfl, rfl⟩
theorem for_append (im lg : List UInt8) (h : im.length ≤ 3000) (h' : lg.length ≤ 3000) : writeE (forS2 im) (layE (forS2 im) lg) = 0 ∧ writeS (forS2 im) (layS (forS2 im) lg) (layS (forS2 im) lg) = forS3 im lg := by
  have h1 : fitsA (forS2 im) lg.length := by unfold fitsA; simp only [forS2, List.length_nil, Nat.zero_add]; unfold sec; omega
  unfold layE layS
  rw [if_pos h1, if_pos h1]
  exact ⟨rfl, rfl⟩
theorem for_sync (im lg : List UInt8) : writeE (forS3 im lg) 0 = 0 ∧ writeS (forS3 im lg) (syncS (forS3 im lg)) (forS3 im lg) = forS im lg := ⟨rfl, rfl⟩
theorem mem_len (rs : List (List UInt8)) (r : List UInt8) (h : r ∈ rs) : r.length ≤ (framesB rs).length := by
  induction rs with
  | nil => cases h
  | cons x rs ih =>
    rw [framesB_cons, List.length_append, frameB_len]
    rcases List.mem_cons.1 h with rfl | h
    · omega
    · have := ih h; omega
set_option linter.unusedSimpArgs false in
set_option maxRecDepth 100000 in
set_option maxHeartbeats 6400000 in
theorem foreign_law (iv lv : Value) (im0 lg0 : List UInt8) (w : World) (hi : Bts w iv im0) (hl : Bts w lv lg0) :
    Calls Try.prog 6 #[iv, lv] w fun e w' => e = .returned (.bool true) ∧ Below w.heap.size w w' := by
  have HI := hid hi
  obtain ⟨ia, ic, rfl⟩ := hi.shape
  have HL := hid hl
  obtain ⟨la, lc, rfl⟩ := hl.shape
  clear hi hl
  go_enter Try.func6, Try.ntmps6
  go_wp2_with fail
  refine (small_any _ im0 _ HI.out).mono ?_
  rintro e w1 ⟨ja, jn, jc, rfl, hj1, hj2, rfl⟩
  obtain ⟨im, him⟩ : ∃ im, im = im0.take 3000 := ⟨_, rfl⟩
  have hil : im.length ≤ 3000 := by rw [him]; simp; omega
  rw [← him] at hj1
  have HIM := hid hj1
  obtain rfl : jn = im.length := by obtain ⟨_, _, _, e, h, -⟩ := hj1; cases e; exact h
  clear him hj1 hj2 HI
  go_wp2_with fail
  refine (small_any _ lg0 _ HL.out).mono ?_
  rintro e w1' ⟨ka, kn, kc, rfl, hk1, hk2, hw⟩
  subst hw
  obtain ⟨lg, hlg⟩ : ∃ lg, lg = lg0.take 3000 := ⟨_, rfl⟩
  have hll : lg.length ≤ 3000 := by rw [hlg]; simp; omega
  rw [← hlg] at hk1
  have HLG := hid hk1
  obtain rfl : kn = lg.length := by obtain ⟨_, _, _, e, h, -⟩ := hk1; cases e; exact h
  clear hlg hk1 hk2 HL
  have X1 := hid (for_stage im hil)
  have X2 := hid (for_commit im)
  have X3 := hid (for_append im lg hil hll)
  have X4 := hid (for_sync im lg)
  go_wp2_with fail
  refine (new_ok 40 _ (by omega) (by omega)).mono ?_
  rintro e w2 ⟨db, RD, rfl, hd2, hr2, hb2⟩
  have HA2 := hid (At.new hd2 hr2 hb2)
  clear hd2 hr2 hb2
  go_wp2_with fail
  refine (HA2.out.do (Nat.le_refl _) fun R d => stage_any db R _ _ im _ d (HIM.out.below HA2.out.below) (by omega)).mono ?_
  rw [X1.out.1, X1.out.2]
  rintro e w3 ⟨rfl, ha3⟩
  have HA3 := hid ha3
  clear ha3 HA2
  go_wp2_with fail
  refine (HA3.out.do (Nat.le_refl _) fun R d => commit_any db R _ _ d).mono ?_
  rw [X2.out.1, X2.out.2]
  rintro e w4 ⟨rfl, ha4⟩
  have HA4 := hid ha4
  clear ha4 HA3
  go_wp2_with fail
  refine (HA4.out.do (Nat.le_refl _) fun R d => append_any db R _ _ lg _ d (HLG.out.below HA4.out.below) (by omega)).mono ?_
  rw [X3.out.1, X3.out.2]
  rintro e w5 ⟨rfl, ha5⟩
  have HA5 := hid ha5
  clear ha5 HA4
  go_wp2_with fail
  refine (HA5.out.do (Nat.le_refl _) fun R d => sync_any db R _ _ d).mono ?_
  rw [X4.out.1, X4.out.2]
  rintro e w6 ⟨rfl, ha6⟩
  have HA6 := hid ha6
  have HI6 := hid (HIM.out.below ha6.below)
  have HL6 := hid (HLG.out.below ha6.below)
  clear ha6 HA5 X1 X2 X3 X4
  go_wp2_with fail
  by_cases hok : imgOk im
  · obtain ⟨R6, d6, hr6, hb6⟩ := HA6.out
    have HB6 := hid hb6
    have D6 := hid d6
    have HOK := hid hok
    have HRR := hid hr6
    clear d6 hr6 hb6 hok HA6
    refine (open_any db R6 (forS im lg) _ D6.out rfl HOK.out).mono ?_
    rintro e w7 ⟨rs, p, hfr, hne, h1, h2⟩
    have HFR := hid (show Fr lg rs p from hfr)
    have HNE := hid (show unfE (lg.drop p) ≠ 0 from hne)
    have hple : p ≤ lg.length := HFR.out.le
    have h1' : openE (forS im lg) (unfE (lg.drop p)) p = 0 → _ := h1
    have h2' : openE (forS im lg) (unfE (lg.drop p)) p ≠ 0 → _ := h2
    clear h1 h2 hfr hne
    have hcut : ¬ ((p : Int) < 0 ∨ ((forS im lg).log.length : Int) < (p : Int)) := by show ¬ ((p : Int) < 0 ∨ (lg.length : Int) < (p : Int)); omega
    have hw0 : writeE (forS im lg) (cutE (forS im lg) (p : Nat)) = 0 := by unfold cutE; rw [if_neg hcut]; rfl
    have hul : (unfD im).length ≤ 100000000000 := by have := (unfE_zero HOK.out.1).2; omega
    have HUL := hid hul
    clear hul
    have hsz := HFR.out.size
    have hrl := recs_le rs
    have HRL : Hid (rs.length ≤ 1000000000) := hid (by omega)
    have HRM : Hid (∀ r ∈ rs, r.length ≤ 100000000000) := hid (by
      intro r hr
      have h := mem_len rs r hr
      omega)
    clear hsz hrl
    rcases unfE_cases (lg.drop p) with hq | hq | hq | hq
    · exact absurd hq HNE.out
    · have hE : openE (forS im lg) (unfE (lg.drop p)) p = 0 := by rw [hq]; exact hw0
      have hS : openS (forS im lg) (unfE (lg.drop p)) p = ⟨40, im, [], false, lg.take p, min lg.length p, false, -1⟩ := by
        rw [hq]
        show writeS (forS im lg) (cutS (forS im lg) (p : Nat)) (forS im lg) = _
        unfold cutS
        rw [if_neg hcut]
        rfl
      obtain ⟨jb, R7, rfl, j70, t7, r7⟩ := h1' hE
      have j7 : Jd w7 jb db R7 (openS (forS im lg) (unfE (lg.drop p)) p) ⟨unfD im, rs, false⟩ := j70
      clear j70
      rw [hS] at j7
      obtain ⟨S7, hS7⟩ : ∃ S7 : DS, S7 = ⟨40, im, [], false, lg.take p, min lg.length p, false, -1⟩ := ⟨_, rfl⟩
      rw [← hS7] at j7
      have HON : Hid (S7.off = false) := hid (by rw [hS7])
      obtain ⟨lc, hlc⟩ : ∃ lc, lc = lg.take p := ⟨_, rfl⟩
      have HLC : Hid (S7.log = lc) := hid (by rw [hS7, hlc])
      have HLCE := hid hlc
      clear hlc
      have hp0 : (0 : Int) ≤ (p : Int) := by omega
      have hplI : (p : Int) ≤ (lg.length : Int) := by omega
      have hpk : (p : Int) ≤ (kc : Int) := by obtain ⟨_, _, _, e, h, h3, -⟩ := HLG.out; cases e; omega
      have HQ := hid hq
      clear hS7 hS hE h1' h2' hcut hw0 hq
      have HJ7 := hid j7
      have HB7 : Hid (Below w1'.heap.size w1' w7) := hid (HB6.out.trans (t7.below HB6.out.size HRR.out))
      have HI7 := hid (HIM.out.below HB7.out)
      have HL7 := hid (HLG.out.below HB7.out)
      clear j7 t7 r7 HB6 D6 HI6 HL6
      go_wp2_with fail
      refine (find_ok _ _ im lg _ HI7.out HL7.out (by omega) (by omega) HOK.out).mono ?_
      rintro e w8 ⟨rs', p', hfr', hne', hb8, -, hfind⟩
      obtain ⟨rfl, rfl⟩ := HFR.out.unique HNE.out hfr' hne'
      have hfind := hfind (by rw [HQ.out]; decide)
      rw [HQ.out, if_pos rfl] at hfind
      obtain ⟨va, vc, ra, rc, vs, rfl, ho8, hr8⟩ := hfind
      have HO8 := hid ho8
      have HR8 := hid hr8
      have HL8 := hid (HL7.out.below hb8)
      have HB8 := hid (HB7.out.trans (hb8.mono HB7.out.size))
      have hj8 := HJ7.out.below hb8
      obtain ⟨RJ, RD8, jdv8, -⟩ := hj8
      have HJ8 := hid jdv8.j
      have D8 := hid jdv8.d
      clear ho8 hr8 hb8 hfr' hne' jdv8 HJ7 HB7 HI7 HL7
      have HLX : Hid (Bts w8 (.slice ka p kc) lc) := hid (by rw [HLCE.out]; exact HL8.out.take (n := p) (by omega))
      have hix0 : (Instr.index 60 (.agg #[.int .i64 0, .int .i64 0, .int .i64 4, .int .i64 5, .int .i64 8]) (.int .i64 0)).run Try.prog w8 = .ok (.int .i64 0) w8 := index_want w8 0 0 rfl
      go_wp2_with fail
      refine (log_any db _ _ _ D8.out).mono ?_
      rw [toldL_on HON.out, toldE_on HON.out, HLC.out]
      rintro e w9 ⟨va9, vc9, rfl, ho9, hb9⟩
      have sL := conv_string w9 _ _ ho9.bts
      have sG := conv_string w9 _ _ (HLX.out.below hb9)
      have HB9 := hid (HB8.out.trans (hb9.mono HB8.out.size))
      have HJ9 := hid (HJ8.out.but (But.of_below (R := fun _ => False) hb9) fun _ _ h => h)
      have HO9 := hid (HO8.out.bts.below hb9)
      have HR9 := hid (HR8.out.btss.below hb9)
      clear ho9 hb9 hix0
      go_wp2_with fail
      clear sL sG
      refine wp_region_held_drew (S := fun W => (convert 34 9 (.slice va (unfD im).length vc)).run Try.prog W = .ok (.string ⟨(unfD im).toArray⟩) W) (by kernel_rfl) (conv_string _ _ _ (show Bts w9.drew _ _ from HO9.out)) (fun hHeld => ?_)
      refine wpAnyH_take (i := 0) (v := ?bv0) rfl (by kernel_rfl) (by kernel_rfl) (by kernel_rfl) (fun _ _ _ h => h) (Or.inl ⟨by rfl, ?by0⟩) (by assumption) ?br0
      case by0 => (intro w hSw; (try dsimp only at hSw); go_simp; try with_reducible rfl)
      (try simp only [Act.put, List.setIfInBounds_toArray, List.set_cons_zero, List.set_cons_succ, List.getElem_toArray, List.getElem_cons_succ, List.getElem_cons_zero])
      refine wpAnyH_take (i := 1) (v := .bool false) rfl (by kernel_rfl) (by kernel_rfl) (by kernel_rfl) (fun _ _ _ h => h) (Or.inl ⟨by rfl, ?by1⟩) (by assumption) ?br1
      case by1 => (intro w hSw; (try dsimp only at hSw); go_simp; try with_reducible rfl)
      (try simp only [Act.put, List.setIfInBounds_toArray, List.set_cons_zero, List.set_cons_succ, List.getElem_toArray, List.getElem_cons_succ, List.getElem_cons_zero])
      refine wpAnyH_take (i := 2) (v := .bool false) rfl (by kernel_rfl) (by kernel_rfl) (by kernel_rfl) (fun _ _ _ h => h) (Or.inl ⟨by rfl, ?by2⟩) (by assumption) ?br2
      case by2 => (intro w hSw; (try dsimp only at hSw); go_simp; try with_reducible rfl)
      (try simp only [Act.put, List.setIfInBounds_toArray, List.set_cons_zero, List.set_cons_succ, List.getElem_toArray, List.getElem_cons_succ, List.getElem_cons_zero])
      refine wpAnyH_take (i := 3) (v := ?bv3) rfl (by kernel_rfl) (by kernel_rfl) (by kernel_rfl) (fun _ _ _ h => h) (Or.inl ⟨by rfl, ?by3⟩) (by assumption) ?br3
      case by3 => (intro w hSw; (try dsimp only at hSw); go_simp; try with_reducible rfl)
      (try simp only [Act.put, List.setIfInBounds_toArray, List.set_cons_zero, List.set_cons_succ, List.getElem_toArray, List.getElem_cons_succ, List.getElem_cons_zero])
      refine wpAnyH_take (i := 6) (v := ?bv6) rfl (by kernel_rfl) (by kernel_rfl) (by kernel_rfl) (fun _ _ _ h => h) (Or.inl ⟨by rfl, ?by6⟩) (by assumption) ?br6
      case by6 => (intro w hSw; (try dsimp only at hSw); go_simp; try with_reducible rfl)
      (try simp only [Act.put, List.setIfInBounds_toArray, List.set_cons_zero, List.set_cons_succ, List.getElem_toArray, List.getElem_cons_succ, List.getElem_cons_zero])
      refine wpAnyH_take (i := 7) (v := .string ⟨(unfD im).toArray⟩) rfl (by kernel_rfl) (by kernel_rfl) (by kernel_rfl) (fun _ _ _ h => h) (Or.inl ⟨by rfl, ?by7⟩) (by assumption) ?br7
      case by7 => (intro w hSw; (try dsimp only at hSw); go_simp; try with_reducible rfl)
      (try simp only [Act.put, List.setIfInBounds_toArray, List.set_cons_zero, List.set_cons_succ, List.getElem_toArray, List.getElem_cons_succ, List.getElem_cons_zero])
      refine wpAnyH_ready (rs := [4]) (by kernel_rfl) (by simp) ?_
      refine AllReadyH.cons rfl (fun K hK => ?_) AllReadyH.nil
      rw [if_pos (by rfl)]
      have HJD : Hid (Jn w9.drew jb db RJ ⟨unfD im, rs, false⟩) := hid (HJ9.out.but (w' := w9.drew) (But.of_below (R := fun _ => False) ⟨rfl, rfl, rfl, Nat.le_refl _, fun _ _ => rfl⟩) fun _ _ h => h)
      go_wp2_with fail
      refine (jimage_any jb db RJ ⟨unfD im, rs, false⟩ _ HJD.out HUL.out).mono ?_
      rintro e w10 ⟨xa, xc, rfl, ho10, hb10⟩
      have sI := conv_string w10 _ _ ho10.bts
      have HDB := hid ((show Bts w9.drew _ _ from HO9.out).below hb10)
      have HSD := hid (conv_string w10 _ _ HDB.out)
      have HJ10 := hid (HJD.out.but (But.of_below (R := fun _ => False) hb10) fun _ _ h => h)
      have HR10 := hid ((show Btss w9.drew _ _ from HR9.out).below hb10)
      have HB10 : Hid (Below w1'.heap.size w1' w10) := hid ((show Below w1'.heap.size w1' w9.drew from ⟨HB9.out.os, HB9.out.tape, HB9.out.output, HB9.out.size, HB9.out.block⟩).trans (hb10.mono HB9.out.size))
      clear ho10 hb10
      go_wp2_with fail
      refine hK.out _ _ HSD.out (fun hHeld => ?_)
      try clear hK K
      (try simp only [Act.put, List.setIfInBounds_toArray, List.set_cons_zero, List.set_cons_succ, List.getElem_toArray, List.getElem_cons_succ, List.getElem_cons_zero])
      refine wpAnyH_ready (rs := [5]) (by kernel_rfl) (by simp) ?_
      refine AllReadyH.cons rfl (fun K hK => ?_) AllReadyH.nil
      rw [if_pos (by rfl)]
      go_simp
      refine hK.out _ _ HSD.out (fun hHeld => ?_)
      try clear hK K
      (try simp only [Act.put, List.setIfInBounds_toArray, List.set_cons_zero, List.set_cons_succ, List.getElem_toArray, List.getElem_cons_succ, List.getElem_cons_zero])
      refine wpAnyH_take (i := 8) (v := .bool true) rfl (by kernel_rfl) (by kernel_rfl) (by kernel_rfl) (fun _ _ _ h => h) (Or.inl ⟨by rfl, ?by8⟩) (by assumption) ?br8
      case by8 => (intro w hSw; (try dsimp only at hSw); go_simp; try with_reducible rfl)
      (try simp only [Act.put, List.setIfInBounds_toArray, List.set_cons_zero, List.set_cons_succ, List.getElem_toArray, List.getElem_cons_succ, List.getElem_cons_zero])
      refine wpAnyH_take (i := 9) (v := .bool true) rfl (by kernel_rfl) (by kernel_rfl) (by kernel_rfl) (fun _ _ _ h => h) (Or.inl ⟨by rfl, ?by9⟩) (by assumption) ?br9
      case by9 => (intro w hSw; (try dsimp only at hSw); go_simp; try with_reducible rfl)
      (try simp only [Act.put, List.setIfInBounds_toArray, List.set_cons_zero, List.set_cons_succ, List.getElem_toArray, List.getElem_cons_succ, List.getElem_cons_zero])
      refine wpAnyH_take (i := 10) (v := ?bv10) rfl (by kernel_rfl) (by kernel_rfl) (by kernel_rfl) (fun _ _ _ h => h) (Or.inl ⟨by rfl, ?by10⟩) (by assumption) ?br10
      case by10 => (intro w hSw; (try dsimp only at hSw); go_simp; try with_reducible rfl)
      (try simp only [Act.put, List.setIfInBounds_toArray, List.set_cons_zero, List.set_cons_succ, List.getElem_toArray, List.getElem_cons_succ, List.getElem_cons_zero])
      refine wpAnyH_take (i := 12) (v := ?bv12) rfl (by kernel_rfl) (by kernel_rfl) (by kernel_rfl) (fun _ _ _ h => h) (Or.inl ⟨by rfl, ?by12⟩) (by assumption) ?br12
      case by12 => (intro w hSw; (try dsimp only at hSw); go_simp; try with_reducible rfl)
      (try simp only [Act.put, List.setIfInBounds_toArray, List.set_cons_zero, List.set_cons_succ, List.getElem_toArray, List.getElem_cons_succ, List.getElem_cons_zero])
      refine wpAnyH_ready (rs := [11]) (by kernel_rfl) (by simp) ?_
      refine AllReadyH.cons rfl (fun K hK => ?_) AllReadyH.nil
      rw [if_pos (by rfl)]
      go_wp2_with (go_at_call 29; refine (records_any jb db RJ ⟨unfD im, rs, false⟩ _ HJ10.out HRM.out HRL.out).mono ?_; rintro e w11 ⟨ya, yc, rfl, ⟨ys, hr11⟩, hb11⟩; have HY11 := hid hr11.btss; have HR11 := hid (HR10.out.below hb11); have HB11 := hid (HB10.out.trans (hb11.mono HB10.out.size)); have HD11 := hid (HDB.out.below hb11); clear hr11 hb11)
      refine hK.out _ _ (conv_string _ _ _ HD11.out) (fun hHeld => ?_)
      try clear hK K
      (try simp only [Act.put, List.setIfInBounds_toArray, List.set_cons_zero, List.set_cons_succ, List.getElem_toArray, List.getElem_cons_succ, List.getElem_cons_zero])
      refine wpAnyH_ready (rs := [13]) (by kernel_rfl) (by simp) ?_
      refine AllReadyH.cons rfl (fun K hK => ?_) AllReadyH.nil
      rw [if_pos (by rfl)]
      go_wp2_with (go_at_call 30; refine (jsame_any _ _ rs _ HY11.out HR11.out).mono ?_; rintro e w12 ⟨rfl, hb12⟩; have HB12 := hid (HB11.out.trans (hb12.mono HB11.out.size)); have HD12 := hid (HD11.out.below hb12); clear hb12)
      refine hK.out _ _ (conv_string _ _ _ HD12.out) (fun hHeld => ?_)
      try clear hK K
      (try simp only [Act.put, List.setIfInBounds_toArray, List.set_cons_zero, List.set_cons_succ, List.getElem_toArray, List.getElem_cons_succ, List.getElem_cons_zero])
      refine wpAnyH_take (i := 14) (v := .bool true) rfl (by kernel_rfl) (by kernel_rfl) (by kernel_rfl) (fun _ _ _ h => h) (Or.inl ⟨by rfl, ?by14⟩) (by assumption) ?br14
      case by14 => (intro w hSw; (try dsimp only at hSw); go_simp; try with_reducible rfl)
      (try simp only [Act.put, List.setIfInBounds_toArray, List.set_cons_zero, List.set_cons_succ, List.getElem_toArray, List.getElem_cons_succ, List.getElem_cons_zero])
      refine wpAnyH_take (i := 15) (v := .bool true) rfl (by kernel_rfl) (by kernel_rfl) (by kernel_rfl) (fun _ _ _ h => h) (Or.inl ⟨by rfl, ?by15⟩) (by assumption) ?br15
      case by15 => (intro w hSw; (try dsimp only at hSw); go_simp; try with_reducible rfl)
      (try simp only [Act.put, List.setIfInBounds_toArray, List.set_cons_zero, List.set_cons_succ, List.getElem_toArray, List.getElem_cons_succ, List.getElem_cons_zero])
      refine wpAnyH_take (i := 16) (v := .bool true) rfl (by kernel_rfl) (by kernel_rfl) (by kernel_rfl) (fun _ _ _ h => h) (Or.inl ⟨by rfl, ?by16⟩) (by assumption) ?br16
      case by16 => (intro w hSw; (try dsimp only at hSw); go_simp; try with_reducible rfl)
      (try simp only [Act.put, List.setIfInBounds_toArray, List.set_cons_zero, List.set_cons_succ, List.getElem_toArray, List.getElem_cons_succ, List.getElem_cons_zero])
      refine wpAnyH_ready (rs := [17]) (by kernel_rfl) (by simp) ?_
      refine AllReadyH.cons rfl (fun K hK => ?_) AllReadyH.nil
      rw [if_pos (by rfl)]
      go_wp2_with (go_at_call 25; refine (jlives_any _).mono ?_; rintro e w13 ⟨rfl, hb13⟩; have HB13 := hid (HB12.out.trans (hb13.mono HB12.out.size)); have HD13 := hid (HD12.out.below hb13); clear hb13)
      refine hK.out _ _ (conv_string _ _ _ HD13.out) (fun hHeld => ?_)
      try clear hK K
      (try simp only [Act.put, List.setIfInBounds_toArray, List.set_cons_zero, List.set_cons_succ, List.getElem_toArray, List.getElem_cons_succ, List.getElem_cons_zero])
      refine wpAnyH_take (i := 18) (v := .bool true) rfl (by kernel_rfl) (by kernel_rfl) (by kernel_rfl) (fun _ _ _ h => h) (Or.inl ⟨by rfl, ?by18⟩) (by assumption) ?br18
      case by18 => (intro w hSw; (try dsimp only at hSw); go_simp; try with_reducible rfl)
      (try simp only [Act.put, List.setIfInBounds_toArray, List.set_cons_zero, List.set_cons_succ, List.getElem_toArray, List.getElem_cons_succ, List.getElem_cons_zero])
      refine wpAnyH_take (i := 19) (v := .bool true) rfl (by kernel_rfl) (by kernel_rfl) (by kernel_rfl) (fun _ _ _ h => h) (Or.inl ⟨by rfl, ?by19⟩) (by assumption) ?br19
      case by19 => (intro w hSw; (try dsimp only at hSw); go_simp; try with_reducible rfl)
      (try simp only [Act.put, List.setIfInBounds_toArray, List.set_cons_zero, List.set_cons_succ, List.getElem_toArray, List.getElem_cons_succ, List.getElem_cons_zero])
      refine wpAnyH_done (by kernel_rfl) ?_ _
      go_wp2
      go_ret
      exact ⟨rfl, HB13.out⟩
    · have hE : openE (forS im lg) (unfE (lg.drop p)) p = 5 := by rw [hq]; rfl
      obtain ⟨he7, hs70⟩ := h2' (by rw [hE]; decide)
      have he7' : e = .returned (.tuple #[.pointer none, .int .i64 5]) := by rw [he7]; exact congrArg (fun z => Ending.returned (.tuple #[.pointer none, .int .i64 z])) hE
      have hs7 : Step w6 db R6 w7 (forS im lg) := by
        have : openS (forS im lg) (unfE (lg.drop p)) p = forS im lg := by rw [hq]; rfl
        rw [← this]; exact hs70
      clear he7 hs70
      subst he7'
      have HQ := hid hq
      obtain ⟨R7, d7, t7, r7⟩ := hs7
      have HB7 : Hid (Below w1'.heap.size w1' w7) := hid (HB6.out.trans (t7.below HB6.out.size HRR.out))
      have HI7 := hid (HIM.out.below HB7.out)
      have HL7 := hid (HLG.out.below HB7.out)
      have D7 := hid d7
      clear d7 t7 r7 HB6 D6 HI6 HL6 hE h1' h2' hcut hw0 hq
      go_wp2_with fail
      refine (find_ok _ _ im lg _ HI7.out HL7.out (by omega) (by omega) HOK.out).mono ?_
      rintro e w8 ⟨rs', p', hfr', hne', hb8, hfind, -⟩
      obtain ⟨rfl, rfl⟩ := HFR.out.unique HNE.out hfr' hne'
      obtain rfl := hfind HQ.out
      have HL8 := hid (HL7.out.below hb8)
      have HB8 := hid (HB7.out.trans (hb8.mono HB7.out.size))
      have D8 := hid (D7.out.below hb8)
      have hix : (Instr.index 60 (.agg #[.int .i64 0, .int .i64 0, .int .i64 4, .int .i64 5, .int .i64 8]) (.int .i64 3)).run Try.prog w8 = .ok (.int .i64 5) w8 := index_want w8 3 5 rfl
      clear hb8 HI7 HL7 HB7 D7 hfr' hne'
      go_wp2_with fail
      refine (log_any db _ _ _ D8.out).mono ?_
      rw [show toldL (forS im lg) (forS im lg).log = lg from rfl, show toldE (forS im lg) = 0 from rfl]
      rintro e w9 ⟨va9, vc9, rfl, ho9, hb9⟩
      have sL := conv_string w9 _ _ ho9.bts
      have sG := conv_string w9 _ _ (HL8.out.below hb9)
      have HB9 := hid (HB8.out.trans (hb9.mono HB8.out.size))
      clear ho9 hb9 hix
      go_wp2_with fail
      clear sL sG
      refine wp_region_any (by kernel_rfl) ?_
      try (change wpAny _ _ _ _ _ _ _ (World.drew _))
      refine wpAny_take (i := 0) (v := ?cv0) rfl (by kernel_rfl) (by kernel_rfl) (by kernel_rfl) (fun _ _ _ h => h) (Or.inl ⟨by rfl, ?cy0⟩) ?cr0
      case cy0 => (intro w; go_simp; try with_reducible rfl)
      (try simp only [Act.put, List.setIfInBounds_toArray, List.set_cons_zero, List.set_cons_succ, List.getElem_toArray, List.getElem_cons_succ, List.getElem_cons_zero])
      refine wpAny_take (i := 1) (v := .bool true) rfl (by kernel_rfl) (by kernel_rfl) (by kernel_rfl) (fun _ _ _ h => h) (Or.inl ⟨by rfl, ?cy1⟩) ?cr1
      case cy1 => (intro w; go_simp; try with_reducible rfl)
      (try simp only [Act.put, List.setIfInBounds_toArray, List.set_cons_zero, List.set_cons_succ, List.getElem_toArray, List.getElem_cons_succ, List.getElem_cons_zero])
      refine wpAny_take (i := 2) (v := .bool true) rfl (by kernel_rfl) (by kernel_rfl) (by kernel_rfl) (fun _ _ _ h => h) (Or.inl ⟨by rfl, ?cy2⟩) ?cr2
      case cy2 => (intro w; go_simp; try with_reducible rfl)
      (try simp only [Act.put, List.setIfInBounds_toArray, List.set_cons_zero, List.set_cons_succ, List.getElem_toArray, List.getElem_cons_succ, List.getElem_cons_zero])
      refine wpAny_take (i := 3) (v := undef) rfl (by kernel_rfl) (by kernel_rfl) (by kernel_rfl) (fun _ _ _ h => h) (Or.inr ⟨by rfl, rfl⟩) ?_
      (try simp only [Act.put, List.setIfInBounds_toArray, List.set_cons_zero, List.set_cons_succ, List.getElem_toArray, List.getElem_cons_succ, List.getElem_cons_zero])
      refine wpAny_take (i := 4) (v := undef) rfl (by kernel_rfl) (by kernel_rfl) (by kernel_rfl) (fun _ _ _ h => h) (Or.inr ⟨by rfl, rfl⟩) ?_
      (try simp only [Act.put, List.setIfInBounds_toArray, List.set_cons_zero, List.set_cons_succ, List.getElem_toArray, List.getElem_cons_succ, List.getElem_cons_zero])
      refine wpAny_take (i := 5) (v := undef) rfl (by kernel_rfl) (by kernel_rfl) (by kernel_rfl) (fun _ _ _ h => h) (Or.inr ⟨by rfl, rfl⟩) ?_
      (try simp only [Act.put, List.setIfInBounds_toArray, List.set_cons_zero, List.set_cons_succ, List.getElem_toArray, List.getElem_cons_succ, List.getElem_cons_zero])
      refine wpAny_take (i := 6) (v := undef) rfl (by kernel_rfl) (by kernel_rfl) (by kernel_rfl) (fun _ _ _ h => h) (Or.inr ⟨by rfl, rfl⟩) ?_
      (try simp only [Act.put, List.setIfInBounds_toArray, List.set_cons_zero, List.set_cons_succ, List.getElem_toArray, List.getElem_cons_succ, List.getElem_cons_zero])
      refine wpAny_take (i := 7) (v := undef) rfl (by kernel_rfl) (by kernel_rfl) (by kernel_rfl) (fun _ _ _ h => h) (Or.inr ⟨by rfl, rfl⟩) ?_
      (try simp only [Act.put, List.setIfInBounds_toArray, List.set_cons_zero, List.set_cons_succ, List.getElem_toArray, List.getElem_cons_succ, List.getElem_cons_zero])
      refine wpAny_take (i := 8) (v := undef) rfl (by kernel_rfl) (by kernel_rfl) (by kernel_rfl) (fun _ _ _ h => h) (Or.inr ⟨by rfl, rfl⟩) ?_
      (try simp only [Act.put, List.setIfInBounds_toArray, List.set_cons_zero, List.set_cons_succ, List.getElem_toArray, List.getElem_cons_succ, List.getElem_cons_zero])
      refine wpAny_take (i := 9) (v := undef) rfl (by kernel_rfl) (by kernel_rfl) (by kernel_rfl) (fun _ _ _ h => h) (Or.inr ⟨by rfl, rfl⟩) ?_
      (try simp only [Act.put, List.setIfInBounds_toArray, List.set_cons_zero, List.set_cons_succ, List.getElem_toArray, List.getElem_cons_succ, List.getElem_cons_zero])
      refine wpAny_take (i := 10) (v := undef) rfl (by kernel_rfl) (by kernel_rfl) (by kernel_rfl) (fun _ _ _ h => h) (Or.inr ⟨by rfl, rfl⟩) ?_
      (try simp only [Act.put, List.setIfInBounds_toArray, List.set_cons_zero, List.set_cons_succ, List.getElem_toArray, List.getElem_cons_succ, List.getElem_cons_zero])
      refine wpAny_take (i := 11) (v := undef) rfl (by kernel_rfl) (by kernel_rfl) (by kernel_rfl) (fun _ _ _ h => h) (Or.inr ⟨by rfl, rfl⟩) ?_
      (try simp only [Act.put, List.setIfInBounds_toArray, List.set_cons_zero, List.set_cons_succ, List.getElem_toArray, List.getElem_cons_succ, List.getElem_cons_zero])
      refine wpAny_take (i := 12) (v := undef) rfl (by kernel_rfl) (by kernel_rfl) (by kernel_rfl) (fun _ _ _ h => h) (Or.inr ⟨by rfl, rfl⟩) ?_
      (try simp only [Act.put, List.setIfInBounds_toArray, List.set_cons_zero, List.set_cons_succ, List.getElem_toArray, List.getElem_cons_succ, List.getElem_cons_zero])
      refine wpAny_take (i := 13) (v := undef) rfl (by kernel_rfl) (by kernel_rfl) (by kernel_rfl) (fun _ _ _ h => h) (Or.inr ⟨by rfl, rfl⟩) ?_
      (try simp only [Act.put, List.setIfInBounds_toArray, List.set_cons_zero, List.set_cons_succ, List.getElem_toArray, List.getElem_cons_succ, List.getElem_cons_zero])
      refine wpAny_take (i := 14) (v := undef) rfl (by kernel_rfl) (by kernel_rfl) (by kernel_rfl) (fun _ _ _ h => h) (Or.inr ⟨by rfl, rfl⟩) ?_
      (try simp only [Act.put, List.setIfInBounds_toArray, List.set_cons_zero, List.set_cons_succ, List.getElem_toArray, List.getElem_cons_succ, List.getElem_cons_zero])
      refine wpAny_take (i := 15) (v := .bool true) rfl (by kernel_rfl) (by kernel_rfl) (by kernel_rfl) (fun _ _ _ h => h) (Or.inl ⟨by rfl, ?cy15⟩) ?cr15
      case cy15 => (intro w; go_simp; try with_reducible rfl)
      (try simp only [Act.put, List.setIfInBounds_toArray, List.set_cons_zero, List.set_cons_succ, List.getElem_toArray, List.getElem_cons_succ, List.getElem_cons_zero])
      refine wpAny_take (i := 16) (v := .bool true) rfl (by kernel_rfl) (by kernel_rfl) (by kernel_rfl) (fun _ _ _ h => h) (Or.inl ⟨by rfl, ?cy16⟩) ?cr16
      case cy16 => (intro w; go_simp; try with_reducible rfl)
      (try simp only [Act.put, List.setIfInBounds_toArray, List.set_cons_zero, List.set_cons_succ, List.getElem_toArray, List.getElem_cons_succ, List.getElem_cons_zero])
      refine wpAny_ready (rs := [17]) (by kernel_rfl) (by simp) ?_
      refine AllReady.cons rfl (fun K hK => ?_) AllReady.nil
      rw [if_pos (by rfl)]
      go_wp2_with (go_at_call 25; refine (jlives_any _).mono ?_; rintro e w12 ⟨rfl, hb12⟩; have HB12 : Hid (Below w1'.heap.size w1' w12) := hid ((show Below w1'.heap.size w1' w9.drew from ⟨HB9.out.os, HB9.out.tape, HB9.out.output, HB9.out.size, HB9.out.block⟩).trans (hb12.mono HB9.out.size)); clear hb12)
      try clear hK K
      (try simp only [Act.put, List.setIfInBounds_toArray, List.set_cons_zero, List.set_cons_succ, List.getElem_toArray, List.getElem_cons_succ, List.getElem_cons_zero])
      refine wpAny_take (i := 18) (v := .bool true) rfl (by kernel_rfl) (by kernel_rfl) (by kernel_rfl) (fun _ _ _ h => h) (Or.inl ⟨by rfl, ?cy18⟩) ?cr18
      case cy18 => (intro w; go_simp; try with_reducible rfl)
      (try simp only [Act.put, List.setIfInBounds_toArray, List.set_cons_zero, List.set_cons_succ, List.getElem_toArray, List.getElem_cons_succ, List.getElem_cons_zero])
      refine wpAny_take (i := 19) (v := .bool true) rfl (by kernel_rfl) (by kernel_rfl) (by kernel_rfl) (fun _ _ _ h => h) (Or.inl ⟨by rfl, ?cy19⟩) ?cr19
      case cy19 => (intro w; go_simp; try with_reducible rfl)
      (try simp only [Act.put, List.setIfInBounds_toArray, List.set_cons_zero, List.set_cons_succ, List.getElem_toArray, List.getElem_cons_succ, List.getElem_cons_zero])
      refine wpAny_done (by kernel_rfl) ?_ _
      go_wp2
      go_ret
      exact ⟨rfl, HB12.out⟩
    · have hE : openE (forS im lg) (unfE (lg.drop p)) p = 0 := by rw [hq]; rfl
      have hS : openS (forS im lg) (unfE (lg.drop p)) p = forS im lg := by rw [hq]; rfl
      obtain ⟨jb, R7, rfl, j70, t7, r7⟩ := h1' hE
      have j7 : Jd w7 jb db R7 (openS (forS im lg) (unfE (lg.drop p)) p) ⟨unfD im, rs, false⟩ := j70
      clear j70
      rw [hS] at j7
      obtain ⟨S7, hS7⟩ : ∃ S7 : DS, S7 = forS im lg := ⟨_, rfl⟩
      rw [← hS7] at j7
      have HON : Hid (S7.off = false) := hid (by rw [hS7]; rfl)
      have HLC : Hid (S7.log = lg) := hid (by rw [hS7]; rfl)
      have HQ := hid hq
      clear hS7 hS hE h1' h2' hcut hw0 hq
      have HJ7 := hid j7
      have HB7 : Hid (Below w1'.heap.size w1' w7) := hid (HB6.out.trans (t7.below HB6.out.size HRR.out))
      have HI7 := hid (HIM.out.below HB7.out)
      have HL7 := hid (HLG.out.below HB7.out)
      clear j7 t7 r7 HB6 D6 HI6 HL6
      go_wp2_with fail
      refine (find_ok _ _ im lg _ HI7.out HL7.out (by omega) (by omega) HOK.out).mono ?_
      rintro e w8 ⟨rs', p', hfr', hne', hb8, -, hfind⟩
      obtain ⟨rfl, rfl⟩ := HFR.out.unique HNE.out hfr' hne'
      have hfind := hfind (by rw [HQ.out]; decide)
      rw [HQ.out, if_neg (by decide)] at hfind
      obtain ⟨va, vc, ra, rc, vs, rfl, ho8, hr8⟩ := hfind
      have HO8 := hid ho8
      have HR8 := hid hr8
      have HL8 := hid (HL7.out.below hb8)
      have HB8 := hid (HB7.out.trans (hb8.mono HB7.out.size))
      have hj8 := HJ7.out.below hb8
      obtain ⟨RJ, RD8, jdv8, -⟩ := hj8
      have HJ8 := hid jdv8.j
      have D8 := hid jdv8.d
      clear ho8 hr8 hb8 hfr' hne' jdv8 HJ7 HB7 HI7 HL7
      have HLX := hid HL8.out
      have hix0 : (Instr.index 60 (.agg #[.int .i64 0, .int .i64 0, .int .i64 4, .int .i64 5, .int .i64 8]) (.int .i64 0)).run Try.prog w8 = .ok (.int .i64 0) w8 := index_want w8 0 0 rfl
      go_wp2_with fail
      refine (log_any db _ _ _ D8.out).mono ?_
      rw [toldL_on HON.out, toldE_on HON.out, HLC.out]
      rintro e w9 ⟨va9, vc9, rfl, ho9, hb9⟩
      have sL := conv_string w9 _ _ ho9.bts
      have sG := conv_string w9 _ _ (HLX.out.below hb9)
      have HB9 := hid (HB8.out.trans (hb9.mono HB8.out.size))
      have HJ9 := hid (HJ8.out.but (But.of_below (R := fun _ => False) hb9) fun _ _ h => h)
      have HO9 := hid (HO8.out.bts.below hb9)
      have HR9 := hid (HR8.out.btss.below hb9)
      clear ho9 hb9 hix0
      go_wp2_with fail
      clear sL sG
      refine wp_region_held_drew (S := fun W => (convert 34 9 (.slice va (unfD im).length vc)).run Try.prog W = .ok (.string ⟨(unfD im).toArray⟩) W) (by kernel_rfl) (conv_string _ _ _ (show Bts w9.drew _ _ from HO9.out)) (fun hHeld => ?_)
      refine wpAnyH_take (i := 0) (v := ?dv0) rfl (by kernel_rfl) (by kernel_rfl) (by kernel_rfl) (fun _ _ _ h => h) (Or.inl ⟨by rfl, ?dy0⟩) (by assumption) ?dr0
      case dy0 => (intro w hSw; (try dsimp only at hSw); go_simp; try with_reducible rfl)
      (try simp only [Act.put, List.setIfInBounds_toArray, List.set_cons_zero, List.set_cons_succ, List.getElem_toArray, List.getElem_cons_succ, List.getElem_cons_zero])
      refine wpAnyH_take (i := 1) (v := .bool false) rfl (by kernel_rfl) (by kernel_rfl) (by kernel_rfl) (fun _ _ _ h => h) (Or.inl ⟨by rfl, ?dy1⟩) (by assumption) ?dr1
      case dy1 => (intro w hSw; (try dsimp only at hSw); go_simp; try with_reducible rfl)
      (try simp only [Act.put, List.setIfInBounds_toArray, List.set_cons_zero, List.set_cons_succ, List.getElem_toArray, List.getElem_cons_succ, List.getElem_cons_zero])
      refine wpAnyH_take (i := 2) (v := .bool false) rfl (by kernel_rfl) (by kernel_rfl) (by kernel_rfl) (fun _ _ _ h => h) (Or.inl ⟨by rfl, ?dy2⟩) (by assumption) ?dr2
      case dy2 => (intro w hSw; (try dsimp only at hSw); go_simp; try with_reducible rfl)
      (try simp only [Act.put, List.setIfInBounds_toArray, List.set_cons_zero, List.set_cons_succ, List.getElem_toArray, List.getElem_cons_succ, List.getElem_cons_zero])
      refine wpAnyH_take (i := 3) (v := ?dv3) rfl (by kernel_rfl) (by kernel_rfl) (by kernel_rfl) (fun _ _ _ h => h) (Or.inl ⟨by rfl, ?dy3⟩) (by assumption) ?dr3
      case dy3 => (intro w hSw; (try dsimp only at hSw); go_simp; try with_reducible rfl)
      (try simp only [Act.put, List.setIfInBounds_toArray, List.set_cons_zero, List.set_cons_succ, List.getElem_toArray, List.getElem_cons_succ, List.getElem_cons_zero])
      refine wpAnyH_take (i := 6) (v := ?dv6) rfl (by kernel_rfl) (by kernel_rfl) (by kernel_rfl) (fun _ _ _ h => h) (Or.inl ⟨by rfl, ?dy6⟩) (by assumption) ?dr6
      case dy6 => (intro w hSw; (try dsimp only at hSw); go_simp; try with_reducible rfl)
      (try simp only [Act.put, List.setIfInBounds_toArray, List.set_cons_zero, List.set_cons_succ, List.getElem_toArray, List.getElem_cons_succ, List.getElem_cons_zero])
      refine wpAnyH_take (i := 7) (v := .string ⟨(unfD im).toArray⟩) rfl (by kernel_rfl) (by kernel_rfl) (by kernel_rfl) (fun _ _ _ h => h) (Or.inl ⟨by rfl, ?dy7⟩) (by assumption) ?dr7
      case dy7 => (intro w hSw; (try dsimp only at hSw); go_simp; try with_reducible rfl)
      (try simp only [Act.put, List.setIfInBounds_toArray, List.set_cons_zero, List.set_cons_succ, List.getElem_toArray, List.getElem_cons_succ, List.getElem_cons_zero])
      refine wpAnyH_ready (rs := [4]) (by kernel_rfl) (by simp) ?_
      refine AllReadyH.cons rfl (fun K hK => ?_) AllReadyH.nil
      rw [if_pos (by rfl)]
      have HJD : Hid (Jn w9.drew jb db RJ ⟨unfD im, rs, false⟩) := hid (HJ9.out.but (w' := w9.drew) (But.of_below (R := fun _ => False) ⟨rfl, rfl, rfl, Nat.le_refl _, fun _ _ => rfl⟩) fun _ _ h => h)
      go_wp2_with fail
      refine (jimage_any jb db RJ ⟨unfD im, rs, false⟩ _ HJD.out HUL.out).mono ?_
      rintro e w10 ⟨xa, xc, rfl, ho10, hb10⟩
      have sI := conv_string w10 _ _ ho10.bts
      have HDB := hid ((show Bts w9.drew _ _ from HO9.out).below hb10)
      have HSD := hid (conv_string w10 _ _ HDB.out)
      have HJ10 := hid (HJD.out.but (But.of_below (R := fun _ => False) hb10) fun _ _ h => h)
      have HR10 := hid ((show Btss w9.drew _ _ from HR9.out).below hb10)
      have HB10 : Hid (Below w1'.heap.size w1' w10) := hid ((show Below w1'.heap.size w1' w9.drew from ⟨HB9.out.os, HB9.out.tape, HB9.out.output, HB9.out.size, HB9.out.block⟩).trans (hb10.mono HB9.out.size))
      clear ho10 hb10
      go_wp2_with fail
      refine hK.out _ _ HSD.out (fun hHeld => ?_)
      try clear hK K
      (try simp only [Act.put, List.setIfInBounds_toArray, List.set_cons_zero, List.set_cons_succ, List.getElem_toArray, List.getElem_cons_succ, List.getElem_cons_zero])
      refine wpAnyH_ready (rs := [5]) (by kernel_rfl) (by simp) ?_
      refine AllReadyH.cons rfl (fun K hK => ?_) AllReadyH.nil
      rw [if_pos (by rfl)]
      go_simp
      refine hK.out _ _ HSD.out (fun hHeld => ?_)
      try clear hK K
      (try simp only [Act.put, List.setIfInBounds_toArray, List.set_cons_zero, List.set_cons_succ, List.getElem_toArray, List.getElem_cons_succ, List.getElem_cons_zero])
      refine wpAnyH_take (i := 8) (v := .bool true) rfl (by kernel_rfl) (by kernel_rfl) (by kernel_rfl) (fun _ _ _ h => h) (Or.inl ⟨by rfl, ?dy8⟩) (by assumption) ?dr8
      case dy8 => (intro w hSw; (try dsimp only at hSw); go_simp; try with_reducible rfl)
      (try simp only [Act.put, List.setIfInBounds_toArray, List.set_cons_zero, List.set_cons_succ, List.getElem_toArray, List.getElem_cons_succ, List.getElem_cons_zero])
      refine wpAnyH_take (i := 9) (v := .bool true) rfl (by kernel_rfl) (by kernel_rfl) (by kernel_rfl) (fun _ _ _ h => h) (Or.inl ⟨by rfl, ?dy9⟩) (by assumption) ?dr9
      case dy9 => (intro w hSw; (try dsimp only at hSw); go_simp; try with_reducible rfl)
      (try simp only [Act.put, List.setIfInBounds_toArray, List.set_cons_zero, List.set_cons_succ, List.getElem_toArray, List.getElem_cons_succ, List.getElem_cons_zero])
      refine wpAnyH_take (i := 10) (v := ?dv10) rfl (by kernel_rfl) (by kernel_rfl) (by kernel_rfl) (fun _ _ _ h => h) (Or.inl ⟨by rfl, ?dy10⟩) (by assumption) ?dr10
      case dy10 => (intro w hSw; (try dsimp only at hSw); go_simp; try with_reducible rfl)
      (try simp only [Act.put, List.setIfInBounds_toArray, List.set_cons_zero, List.set_cons_succ, List.getElem_toArray, List.getElem_cons_succ, List.getElem_cons_zero])
      refine wpAnyH_take (i := 12) (v := ?dv12) rfl (by kernel_rfl) (by kernel_rfl) (by kernel_rfl) (fun _ _ _ h => h) (Or.inl ⟨by rfl, ?dy12⟩) (by assumption) ?dr12
      case dy12 => (intro w hSw; (try dsimp only at hSw); go_simp; try with_reducible rfl)
      (try simp only [Act.put, List.setIfInBounds_toArray, List.set_cons_zero, List.set_cons_succ, List.getElem_toArray, List.getElem_cons_succ, List.getElem_cons_zero])
      refine wpAnyH_ready (rs := [11]) (by kernel_rfl) (by simp) ?_
      refine AllReadyH.cons rfl (fun K hK => ?_) AllReadyH.nil
      rw [if_pos (by rfl)]
      go_wp2_with (go_at_call 29; refine (records_any jb db RJ ⟨unfD im, rs, false⟩ _ HJ10.out HRM.out HRL.out).mono ?_; rintro e w11 ⟨ya, yc, rfl, ⟨ys, hr11⟩, hb11⟩; have HY11 := hid hr11.btss; have HR11 := hid (HR10.out.below hb11); have HB11 := hid (HB10.out.trans (hb11.mono HB10.out.size)); have HD11 := hid (HDB.out.below hb11); clear hr11 hb11)
      refine hK.out _ _ (conv_string _ _ _ HD11.out) (fun hHeld => ?_)
      try clear hK K
      (try simp only [Act.put, List.setIfInBounds_toArray, List.set_cons_zero, List.set_cons_succ, List.getElem_toArray, List.getElem_cons_succ, List.getElem_cons_zero])
      refine wpAnyH_ready (rs := [13]) (by kernel_rfl) (by simp) ?_
      refine AllReadyH.cons rfl (fun K hK => ?_) AllReadyH.nil
      rw [if_pos (by rfl)]
      go_wp2_with (go_at_call 30; refine (jsame_any _ _ rs _ HY11.out HR11.out).mono ?_; rintro e w12 ⟨rfl, hb12⟩; have HB12 := hid (HB11.out.trans (hb12.mono HB11.out.size)); have HD12 := hid (HD11.out.below hb12); clear hb12)
      refine hK.out _ _ (conv_string _ _ _ HD12.out) (fun hHeld => ?_)
      try clear hK K
      (try simp only [Act.put, List.setIfInBounds_toArray, List.set_cons_zero, List.set_cons_succ, List.getElem_toArray, List.getElem_cons_succ, List.getElem_cons_zero])
      refine wpAnyH_take (i := 14) (v := .bool true) rfl (by kernel_rfl) (by kernel_rfl) (by kernel_rfl) (fun _ _ _ h => h) (Or.inl ⟨by rfl, ?dy14⟩) (by assumption) ?dr14
      case dy14 => (intro w hSw; (try dsimp only at hSw); go_simp; try with_reducible rfl)
      (try simp only [Act.put, List.setIfInBounds_toArray, List.set_cons_zero, List.set_cons_succ, List.getElem_toArray, List.getElem_cons_succ, List.getElem_cons_zero])
      refine wpAnyH_take (i := 15) (v := .bool true) rfl (by kernel_rfl) (by kernel_rfl) (by kernel_rfl) (fun _ _ _ h => h) (Or.inl ⟨by rfl, ?dy15⟩) (by assumption) ?dr15
      case dy15 => (intro w hSw; (try dsimp only at hSw); go_simp; try with_reducible rfl)
      (try simp only [Act.put, List.setIfInBounds_toArray, List.set_cons_zero, List.set_cons_succ, List.getElem_toArray, List.getElem_cons_succ, List.getElem_cons_zero])
      refine wpAnyH_take (i := 16) (v := .bool true) rfl (by kernel_rfl) (by kernel_rfl) (by kernel_rfl) (fun _ _ _ h => h) (Or.inl ⟨by rfl, ?dy16⟩) (by assumption) ?dr16
      case dy16 => (intro w hSw; (try dsimp only at hSw); go_simp; try with_reducible rfl)
      (try simp only [Act.put, List.setIfInBounds_toArray, List.set_cons_zero, List.set_cons_succ, List.getElem_toArray, List.getElem_cons_succ, List.getElem_cons_zero])
      refine wpAnyH_ready (rs := [17]) (by kernel_rfl) (by simp) ?_
      refine AllReadyH.cons rfl (fun K hK => ?_) AllReadyH.nil
      rw [if_pos (by rfl)]
      go_wp2_with (go_at_call 25; refine (jlives_any _).mono ?_; rintro e w13 ⟨rfl, hb13⟩; have HB13 := hid (HB12.out.trans (hb13.mono HB12.out.size)); have HD13 := hid (HD12.out.below hb13); clear hb13)
      refine hK.out _ _ (conv_string _ _ _ HD13.out) (fun hHeld => ?_)
      try clear hK K
      (try simp only [Act.put, List.setIfInBounds_toArray, List.set_cons_zero, List.set_cons_succ, List.getElem_toArray, List.getElem_cons_succ, List.getElem_cons_zero])
      refine wpAnyH_take (i := 18) (v := .bool true) rfl (by kernel_rfl) (by kernel_rfl) (by kernel_rfl) (fun _ _ _ h => h) (Or.inl ⟨by rfl, ?dy18⟩) (by assumption) ?dr18
      case dy18 => (intro w hSw; (try dsimp only at hSw); go_simp; try with_reducible rfl)
      (try simp only [Act.put, List.setIfInBounds_toArray, List.set_cons_zero, List.set_cons_succ, List.getElem_toArray, List.getElem_cons_succ, List.getElem_cons_zero])
      refine wpAnyH_take (i := 19) (v := .bool true) rfl (by kernel_rfl) (by kernel_rfl) (by kernel_rfl) (fun _ _ _ h => h) (Or.inl ⟨by rfl, ?dy19⟩) (by assumption) ?dr19
      case dy19 => (intro w hSw; (try dsimp only at hSw); go_simp; try with_reducible rfl)
      (try simp only [Act.put, List.setIfInBounds_toArray, List.set_cons_zero, List.set_cons_succ, List.getElem_toArray, List.getElem_cons_succ, List.getElem_cons_zero])
      refine wpAnyH_done (by kernel_rfl) ?_ _
      go_wp2
      go_ret
      exact ⟨rfl, HB13.out⟩
  · obtain ⟨c, wy, hc, hbw, hix⟩ : ∃ c wy : Nat, ((unfE im ≠ 0 ∧ c = unfE im) ∨ (unfE im = 0 ∧ wordV im + 8 < im.length ∧ c = 4)) ∧ badW im = (wy : Int) ∧ [(0 : Int), 0, 4, 5, 8][wy]? = some (c : Int) := by
      unfold badW
      by_cases h0 : im = []
      · subst h0
        exact ⟨8, 4, .inl ⟨by decide, rfl⟩, rfl, rfl⟩
      · rw [if_neg h0]
        rcases unfE_cases im with h | h | h | h
        · refine ⟨4, 2, .inr ⟨h, ?_, rfl⟩, by rw [if_neg (by omega)]; rfl, rfl⟩
          apply Nat.lt_of_not_le
          intro h'
          exact hok ⟨h, h'⟩
        · exact ⟨4, 2, .inl ⟨by omega, h.symm⟩, by rw [if_neg (by omega)]; rfl, rfl⟩
        · exact ⟨5, 3, .inl ⟨by omega, h.symm⟩, by rw [if_pos h]; rfl, rfl⟩
        · exfalso
          unfold unfE at h
          rw [if_neg h0] at h
          split at h <;> try omega
          split at h <;> try omega
          split at h <;> try omega
          split at h <;> omega
    have hc0 : ((c : Int) == 0) = false := by
      rcases hc with ⟨h1, h2⟩ | ⟨h1, h2, h3⟩
      · simp; omega
      · simp; omega
    have hcN : ¬ c = 0 := by simpa using hc0
    obtain ⟨R6, d6, hr6, hb6⟩ := HA6.out
    have HB6 := hid hb6
    have D6 := hid d6
    have HC := hid hc
    have HNO := hid hok
    have HBW := hid hbw
    have HIX := hid hix
    clear d6 hr6 hb6 hc hok hbw hix HA6
    refine (open_bad db R6 (forS im lg) c _ D6.out rfl HC.out).mono ?_
    rintro e w7 ⟨rfl, hb7⟩
    have HI7 := hid (HI6.out.below hb7)
    have HL7 := hid (HL6.out.below hb7)
    have HB7 := hid (HB6.out.trans (hb7.mono HB6.out.size))
    have D7 := hid (D6.out.below hb7)
    clear hb7 HI6 HL6 HB6 D6
    go_wp2_with fail
    refine (find_bad _ _ im lg _ HI7.out HL7.out (by omega) HNO.out).mono ?_
    rw [HBW.out]
    rintro e w8 ⟨rfl, hb8⟩
    have HL8 := hid (HL7.out.below hb8)
    have HB8 := hid (HB7.out.trans (hb8.mono HB7.out.size))
    have D8 := hid (D7.out.below hb8)
    have hix := index_want w8 wy c HIX.out
    clear hb8 HI7 HL7 HB7 D7
    go_wp2_with fail
    refine (log_any db _ _ _ D8.out).mono ?_
    rw [show toldL (forS im lg) (forS im lg).log = lg from rfl, show toldE (forS im lg) = 0 from rfl]
    rintro e w9 ⟨va9, vc9, rfl, ho9, hb9⟩
    have sL := conv_string w9 _ _ ho9.bts
    have sG := conv_string w9 _ _ (HL8.out.below hb9)
    have HB9 := hid (HB8.out.trans (hb9.mono HB8.out.size))
    clear ho9 hb9 hix
    go_wp2_with fail
    clear sL sG
    refine wp_region_any (by kernel_rfl) ?_
    try (change wpAny _ _ _ _ _ _ _ (World.drew _))
    refine wpAny_take (i := 0) (v := ?av0) rfl (by kernel_rfl) (by kernel_rfl) (by kernel_rfl) (fun _ _ _ h => h) (Or.inl ⟨by rfl, ?ay0⟩) ?ar0
    case ay0 => (intro w; go_simp; try with_reducible rfl)
    (try simp only [Act.put, List.setIfInBounds_toArray, List.set_cons_zero, List.set_cons_succ, List.getElem_toArray, List.getElem_cons_succ, List.getElem_cons_zero])
    refine wpAny_take (i := 1) (v := .bool true) rfl (by kernel_rfl) (by kernel_rfl) (by kernel_rfl) (fun _ _ _ h => h) (Or.inl ⟨by rfl, ?ay1⟩) ?ar1
    case ay1 => (intro w; go_simp; try with_reducible rfl)
    (try simp only [Act.put, List.setIfInBounds_toArray, List.set_cons_zero, List.set_cons_succ, List.getElem_toArray, List.getElem_cons_succ, List.getElem_cons_zero])
    refine wpAny_take (i := 2) (v := .bool true) rfl (by kernel_rfl) (by kernel_rfl) (by kernel_rfl) (fun _ _ _ h => h) (Or.inl ⟨by rfl, ?ay2⟩) ?ar2
    case ay2 => (intro w; go_simp; try with_reducible rfl)
    (try simp only [Act.put, List.setIfInBounds_toArray, List.set_cons_zero, List.set_cons_succ, List.getElem_toArray, List.getElem_cons_succ, List.getElem_cons_zero])
    refine wpAny_take (i := 3) (v := undef) rfl (by kernel_rfl) (by kernel_rfl) (by kernel_rfl) (fun _ _ _ h => h) (Or.inr ⟨by rfl, rfl⟩) ?_
    (try simp only [Act.put, List.setIfInBounds_toArray, List.set_cons_zero, List.set_cons_succ, List.getElem_toArray, List.getElem_cons_succ, List.getElem_cons_zero])
    refine wpAny_take (i := 4) (v := undef) rfl (by kernel_rfl) (by kernel_rfl) (by kernel_rfl) (fun _ _ _ h => h) (Or.inr ⟨by rfl, rfl⟩) ?_
    (try simp only [Act.put, List.setIfInBounds_toArray, List.set_cons_zero, List.set_cons_succ, List.getElem_toArray, List.getElem_cons_succ, List.getElem_cons_zero])
    refine wpAny_take (i := 5) (v := undef) rfl (by kernel_rfl) (by kernel_rfl) (by kernel_rfl) (fun _ _ _ h => h) (Or.inr ⟨by rfl, rfl⟩) ?_
    (try simp only [Act.put, List.setIfInBounds_toArray, List.set_cons_zero, List.set_cons_succ, List.getElem_toArray, List.getElem_cons_succ, List.getElem_cons_zero])
    refine wpAny_take (i := 6) (v := undef) rfl (by kernel_rfl) (by kernel_rfl) (by kernel_rfl) (fun _ _ _ h => h) (Or.inr ⟨by rfl, rfl⟩) ?_
    (try simp only [Act.put, List.setIfInBounds_toArray, List.set_cons_zero, List.set_cons_succ, List.getElem_toArray, List.getElem_cons_succ, List.getElem_cons_zero])
    refine wpAny_take (i := 7) (v := undef) rfl (by kernel_rfl) (by kernel_rfl) (by kernel_rfl) (fun _ _ _ h => h) (Or.inr ⟨by rfl, rfl⟩) ?_
    (try simp only [Act.put, List.setIfInBounds_toArray, List.set_cons_zero, List.set_cons_succ, List.getElem_toArray, List.getElem_cons_succ, List.getElem_cons_zero])
    refine wpAny_take (i := 8) (v := undef) rfl (by kernel_rfl) (by kernel_rfl) (by kernel_rfl) (fun _ _ _ h => h) (Or.inr ⟨by rfl, rfl⟩) ?_
    (try simp only [Act.put, List.setIfInBounds_toArray, List.set_cons_zero, List.set_cons_succ, List.getElem_toArray, List.getElem_cons_succ, List.getElem_cons_zero])
    refine wpAny_take (i := 9) (v := undef) rfl (by kernel_rfl) (by kernel_rfl) (by kernel_rfl) (fun _ _ _ h => h) (Or.inr ⟨by rfl, rfl⟩) ?_
    (try simp only [Act.put, List.setIfInBounds_toArray, List.set_cons_zero, List.set_cons_succ, List.getElem_toArray, List.getElem_cons_succ, List.getElem_cons_zero])
    refine wpAny_take (i := 10) (v := undef) rfl (by kernel_rfl) (by kernel_rfl) (by kernel_rfl) (fun _ _ _ h => h) (Or.inr ⟨by rfl, rfl⟩) ?_
    (try simp only [Act.put, List.setIfInBounds_toArray, List.set_cons_zero, List.set_cons_succ, List.getElem_toArray, List.getElem_cons_succ, List.getElem_cons_zero])
    refine wpAny_take (i := 11) (v := undef) rfl (by kernel_rfl) (by kernel_rfl) (by kernel_rfl) (fun _ _ _ h => h) (Or.inr ⟨by rfl, rfl⟩) ?_
    (try simp only [Act.put, List.setIfInBounds_toArray, List.set_cons_zero, List.set_cons_succ, List.getElem_toArray, List.getElem_cons_succ, List.getElem_cons_zero])
    refine wpAny_take (i := 12) (v := undef) rfl (by kernel_rfl) (by kernel_rfl) (by kernel_rfl) (fun _ _ _ h => h) (Or.inr ⟨by rfl, rfl⟩) ?_
    (try simp only [Act.put, List.setIfInBounds_toArray, List.set_cons_zero, List.set_cons_succ, List.getElem_toArray, List.getElem_cons_succ, List.getElem_cons_zero])
    refine wpAny_take (i := 13) (v := undef) rfl (by kernel_rfl) (by kernel_rfl) (by kernel_rfl) (fun _ _ _ h => h) (Or.inr ⟨by rfl, rfl⟩) ?_
    (try simp only [Act.put, List.setIfInBounds_toArray, List.set_cons_zero, List.set_cons_succ, List.getElem_toArray, List.getElem_cons_succ, List.getElem_cons_zero])
    refine wpAny_take (i := 14) (v := undef) rfl (by kernel_rfl) (by kernel_rfl) (by kernel_rfl) (fun _ _ _ h => h) (Or.inr ⟨by rfl, rfl⟩) ?_
    (try simp only [Act.put, List.setIfInBounds_toArray, List.set_cons_zero, List.set_cons_succ, List.getElem_toArray, List.getElem_cons_succ, List.getElem_cons_zero])
    refine wpAny_take (i := 15) (v := .bool true) rfl (by kernel_rfl) (by kernel_rfl) (by kernel_rfl) (fun _ _ _ h => h) (Or.inl ⟨by rfl, ?ay15⟩) ?ar15
    case ay15 => (intro w; go_simp; try with_reducible rfl)
    (try simp only [Act.put, List.setIfInBounds_toArray, List.set_cons_zero, List.set_cons_succ, List.getElem_toArray, List.getElem_cons_succ, List.getElem_cons_zero])
    refine wpAny_take (i := 16) (v := .bool true) rfl (by kernel_rfl) (by kernel_rfl) (by kernel_rfl) (fun _ _ _ h => h) (Or.inl ⟨by rfl, ?ay16⟩) ?ar16
    case ay16 => (intro w; go_simp; try with_reducible rfl)
    (try simp only [Act.put, List.setIfInBounds_toArray, List.set_cons_zero, List.set_cons_succ, List.getElem_toArray, List.getElem_cons_succ, List.getElem_cons_zero])
    refine wpAny_ready (rs := [17]) (by kernel_rfl) (by simp) ?_
    refine AllReady.cons rfl (fun K hK => ?_) AllReady.nil
    rw [if_pos (by rfl)]
    go_wp2_with (go_at_call 25; refine (jlives_any _).mono ?_; rintro e w12 ⟨rfl, hb12⟩; have HB12 : Hid (Below w1'.heap.size w1' w12) := hid ((show Below w1'.heap.size w1' w9.drew from ⟨HB9.out.os, HB9.out.tape, HB9.out.output, HB9.out.size, HB9.out.block⟩).trans (hb12.mono HB9.out.size)); clear hb12)
    try clear hK K
    (try simp only [Act.put, List.setIfInBounds_toArray, List.set_cons_zero, List.set_cons_succ, List.getElem_toArray, List.getElem_cons_succ, List.getElem_cons_zero])
    refine wpAny_take (i := 18) (v := .bool true) rfl (by kernel_rfl) (by kernel_rfl) (by kernel_rfl) (fun _ _ _ h => h) (Or.inl ⟨by rfl, ?ay18⟩) ?ar18
    case ay18 => (intro w; go_simp; try with_reducible rfl)
    (try simp only [Act.put, List.setIfInBounds_toArray, List.set_cons_zero, List.set_cons_succ, List.getElem_toArray, List.getElem_cons_succ, List.getElem_cons_zero])
    refine wpAny_take (i := 19) (v := .bool true) rfl (by kernel_rfl) (by kernel_rfl) (by kernel_rfl) (fun _ _ _ h => h) (Or.inl ⟨by rfl, ?ay19⟩) ?ar19
    case ay19 => (intro w; go_simp; try with_reducible rfl)
    (try simp only [Act.put, List.setIfInBounds_toArray, List.set_cons_zero, List.set_cons_succ, List.getElem_toArray, List.getElem_cons_succ, List.getElem_cons_zero])
    refine wpAny_done (by kernel_rfl) ?_ _
    go_wp2
    go_ret
    exact ⟨rfl, HB12.out⟩
end Go.Proofs.Ytpchmdfkifbciaa
