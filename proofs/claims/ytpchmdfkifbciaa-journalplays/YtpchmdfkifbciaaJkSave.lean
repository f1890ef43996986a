/- What Save of the document's journal answers and leaves. Conditions: it and its device lie in memory; the image has at most 3000 bytes and was there ahead of all. -/
import Derived.Test.YtpchmdfkifbciaaJkCalls
namespace Go.Proofs.Ytpchmdfkifbciaa
open Go.RowKit

set_option maxHeartbeats 1600000 in
theorem xsave_any (B xb xd : Nat) (Q : Nat → Prop) (S : DS) (J : JS) (v : Value) (r : List UInt8) (w : World) (hd : Xd B w xb xd Q S J) (hv : Bts w v r) (hold : Old B v r) (hr : r.length ≤ 3000) :
    Calls Try.prog 12 #[.pointer (some ⟨xb, 0, none⟩), v] w fun e w' => e = .returned (.int .i64 (saveR S J r).1) ∧ XStep B w xb xd Q w' (saveR S J r).2.1 (saveR S J r).2.2 := by
  have HD := hid hd
  have HV := hid hv
  have HOLD := hid hold
  obtain ⟨va, vc, rfl⟩ := hv.shape
  obtain ⟨iv, rv, us, c0, c1, c2, c3, cf, -, -, hlt⟩ := hd.cells
  have hlts := hid hd.lt
  clear hd hv hold
  unfold saveR
  cases hu : J.down with
  | true =>
    rw [hu] at c3
    simp only [if_true]
    clear hu
    go_enter Try.func12, Try.ntmps12
    go_wp2
    go_ret
    exact ⟨rfl, XStep.refl HD.out⟩
  | false =>
    rw [hu] at c3
    simp only [Bool.false_eq_true, if_false, if_neg (show ¬ 1048576 < r.length by omega)]
    have HU := hid hu
    obtain ⟨er, her⟩ : ∃ er, er = writeE S (stageE S (frameB r)) := ⟨_, rfl⟩
    obtain ⟨S1, hS1⟩ : ∃ S1, S1 = writeS S (stageS S (frameB r)) S := ⟨_, rfl⟩
    have HG : Hid (∀ w1 fa fc, Below w.heap.size w w1 → Own w1 w.heap.size (.slice fa (r.length + 8) fc) (frameB r) → Calls Try.prog 41 #[.pointer (some ⟨xd, 0, none⟩), .slice fa (r.length + 8) fc] w1 fun e w' => e = .returned (.int .i64 er) ∧ XStep B w1 xb xd Q w' S1 J) :=
      hid fun w1 fa fc hb ho => by
        rw [her, hS1]
        exact (HD.out.below hb).disk fun X hX d => rstage_any xd X S _ (frameB r) w1 d ho.bts (fun k hk h => by have := (ho.lt k hk).1; have := (hlts.out k (hX k h)).2; omega) (by rw [frameB_len]; omega)
    rw [← her, ← hS1]
    clear her hS1 hu
    have HC : Hid (∀ (w : World) (Q : Nat → Prop), Xd B w xb xd Q S1 J → Calls Try.prog 42 #[.pointer (some ⟨xd, 0, none⟩)] w fun e w' => e = .returned (.int .i64 (writeE S1 (commitE S1))) ∧ XStep B w xb xd Q w' (writeS S1 (commitS S1) S1) J) := hid fun w Q d => d.disk fun X _ d => rcommit_any xd X S1 w d
    obtain ⟨er2, her2⟩ : ∃ er2, er2 = writeE S1 (commitE S1) := ⟨_, rfl⟩
    obtain ⟨S2, hS2⟩ : ∃ S2, S2 = writeS S1 (commitS S1) S1 := ⟨_, rfl⟩
    simp only [← her2, ← hS2] at HC ⊢
    clear her2 hS2
    go_enter Try.func12, Try.ntmps12
    go_wp2_with fail
    go_region_with (first
      | (go_at_call 39; refine (refFrame_any _ r _ (show Bts w.drew _ _ from HV.out) (by omega)).mono ?_; rintro e w1 ⟨fa, fc, rfl, hf1, hb1⟩; have m0 : w1.cell? ⟨xb, 0, none⟩ = some (.pointer (some ⟨xd, 0, none⟩)) := cell_later hb1 c0; have HF1 := hid hf1; have HB1 := hid hb1; clear hf1 hb1)
      | (go_at_call 41; refine (HG.out w1 fa fc ⟨HB1.out.os, HB1.out.tape, HB1.out.output, HB1.out.size, HB1.out.block⟩ HF1.out).mono ?_; rintro e w2 ⟨rfl, hs2⟩; have HS : Hid (XStep B w xb xd Q w2 S1 J) := hid (xstep_below (w1 := w1) ⟨HB1.out.os, HB1.out.tape, HB1.out.output, HB1.out.size, HB1.out.block⟩ hs2); clear hs2))
    all_goals
      clear c0 c1 c2 c3 cf m0 HF1 HG
      obtain ⟨Q2, d2, t2, r2⟩ := HS.out
      obtain ⟨iv2, rv2, us2, k0, k1, k2, k3, kf, -, -, hlt2⟩ := d2.cells
      have D2 := hid d2
      have T2 := hid t2
      have R2 := hid r2
      clear d2 t2 r2
      by_cases h0 : er = 0
      · subst h0
        have HC2 := hid (HC.out w2 Q2 D2.out)
        go_wp2_with fail
        refine HC2.out.mono ?_
        rintro e w3 ⟨rfl, hs3⟩
        have HS3 := hid (xstep_trans T2.out R2.out hs3)
        clear hs3 HC2 k0 k1 k2 k3 kf
        obtain ⟨Q3, d3, t3, r3⟩ := HS3.out
        obtain ⟨iv3, rv3, us3, k0, k1, k2, k3, kf, -, -, hlt3⟩ := d3.cells
        have D3 := hid d3
        have T3 := hid t3
        have R3 := hid r3
        clear d3 t3 r3
        by_cases h6 : er2 = 6
        · subst h6
          go_wp2
          go_ret
          exact ⟨rfl, xstep_trans T3.out R3.out D3.out.downed⟩
        · have h6' : (er2 == 6) = false := by simpa using h6
          by_cases h00 : er2 = 0
          · subst h00
            have HV3 : Hid (Bts w3 (.slice va r.length vc) r) := hid (stay HV.out (fun hr k hk h => by have h1 := HOLD.out hr k hk; have h2 := (hlts.out k h).1; omega) w3 T3.out)
            go_wp2
            go_ret
            have hx := xstep_trans T3.out R3.out (D3.out.saved HV3.out HOLD.out)
            rw [HU.out] at hx
            exact ⟨rfl, hx⟩
          · have h00' : (er2 == 0) = false := by simpa using h00
            go_wp2
            go_ret
            unfold dn
            rw [if_neg h6]
            exact ⟨rfl, HS3.out⟩
      · have h0' : (er == 0) = false := by simpa using h0
        by_cases h6 : er = 6
        · subst h6
          go_wp2
          go_ret
          exact ⟨rfl, xstep_trans T2.out R2.out D2.out.downed⟩
        · have h6' : (er == 6) = false := by simpa using h6
          go_wp2
          go_ret
          unfold dn
          rw [if_neg h6]
          exact ⟨rfl, HS.out⟩
end Go.Proofs.Ytpchmdfkifbciaa
