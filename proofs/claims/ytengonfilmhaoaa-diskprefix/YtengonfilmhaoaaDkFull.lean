/- DiskFull answers true for any Ops and any number; nothing that was there has turned. -/
import Derived.Test.YtengonfilmhaoaaDkOpen
import Derived.Deep.DeepCutAuto
namespace Go.Proofs.Ytengonfilmhaoaa
open Go.RowKit

set_option maxHeartbeats 400000 in
theorem roomN_any (n : Nat) (w : World) :
    Calls Try.prog 10 #[.int .u64 (n : Int)] w fun e w' => e = .returned (.int .i64 ((n % 40 + 1 : Nat) : Int)) ∧ w' = w := by
  go_enter Try.func10, Try.ntmps10
  go_wp2
  go_ret
  exact ⟨congrArg (fun x => Ending.returned (.int .i64 x)) (by omega), rfl⟩
theorem lay_bad {S : DS} {m : List UInt8} (h : layE S m ≠ 0) : layS S m = S := by unfold layE at h; unfold layS; split <;> simp_all
theorem cut_bad {S : DS} {n : Int} (h : cutE S n ≠ 0) : cutS S n = S := by unfold cutE at h; unfold cutS; split <;> simp_all
theorem stage_bad {S : DS} {m : List UInt8} (h : stageE S m ≠ 0) : stageS S m = S := by unfold stageE at h; unfold stageS; split <;> simp_all
theorem commit_bad {S : DS} (h : commitE S ≠ 0) : commitS S = S := by unfold commitE at h; unfold commitS; split <;> simp_all
theorem write_room {S S1 S0 : DS} (h1 : S1.room = S.room) (h0 : S0.room = S.room) : (writeS S S1 S0).room = S.room := by
  unfold writeS
  repeat' split
  all_goals first | rfl | assumption
theorem do_room (S : DS) (o : OpD) : (doS S o).room = S.room := by
  have a : ∀ m, (layS S m).room = S.room := fun m => by unfold layS; split <;> rfl
  have b : ∀ n, (cutS S n).room = S.room := fun m => by unfold cutS; split <;> rfl
  have c : ∀ m, (stageS S m).room = S.room := fun m => by unfold stageS; split <;> rfl
  have d : (commitS S).room = S.room := by unfold commitS; split <;> rfl
  unfold doS
  repeat' split
  all_goals first | rfl | exact write_room (a _) (a _) | exact write_room rfl rfl | exact write_room (b _) rfl | exact write_room (c _) rfl | exact write_room d rfl
/-- A call that is refused changes nothing that is told. -/
theorem write_bad {S S1 S0 : DS} {er : Int} (hb : er ≠ 0 → S1 = S) (h : writeE S er = 3 ∨ writeE S er = 1 ∨ writeE S er = 8) : writeS S S1 S0 = { S with left := max (S.left - 1) (-1) } ∧ S.off = false := by
  unfold writeE at h
  unfold writeS
  cases ho : S.off with
  | true => simp [ho] at h
  | false =>
    by_cases hl : S.left = 0
    · simp [ho, hl] at h
    · simp only [ho, Bool.false_eq_true, if_false, if_neg hl] at h ⊢
      rw [hb (by omega)]
      exact ⟨by simp [ho], trivial⟩
theorem do_bad (S : DS) (o : OpD) (h : doE S o = 3 ∨ doE S o = 1 ∨ doE S o = 8) : doS S o = { S with left := max (S.left - 1) (-1) } ∧ S.off = false := by
  unfold doE at h
  unfold doS
  by_cases h1 : o.kind = 1
  · rw [if_pos h1] at h ⊢; exact write_bad lay_bad h
  rw [if_neg h1] at h ⊢
  by_cases h2 : o.kind = 2
  · rw [if_pos h2] at h ⊢; exact write_bad (fun h => absurd rfl h) h
  rw [if_neg h2] at h ⊢
  by_cases h3 : o.kind = 3
  · rw [if_pos h3] at h ⊢; exact write_bad cut_bad h
  rw [if_neg h3] at h ⊢
  by_cases h4 : o.kind = 4
  · rw [if_pos h4] at h ⊢; exact write_bad stage_bad h
  rw [if_neg h4] at h ⊢
  by_cases h5 : o.kind = 5
  · rw [if_pos h5] at h ⊢; exact write_bad commit_bad h
  rw [if_neg h5] at h
  omega
theorem do_off (S : DS) (o : OpD) (h : S.off = true) (hn : doE S o ≠ 0) : doE S o = 6 ∧ doS S o = S := by
  have hw : ∀ S1 S0 er, writeE S er = 6 ∧ writeS S S1 S0 = S := fun S1 S0 er => by unfold writeE writeS; simp [h]
  unfold doE at hn ⊢
  unfold doS
  by_cases h1 : o.kind = 1
  · rw [if_pos h1, if_pos h1]; exact hw _ _ _
  rw [if_neg h1] at hn ⊢; rw [if_neg h1]
  by_cases h2 : o.kind = 2
  · rw [if_pos h2, if_pos h2]; exact hw _ _ _
  rw [if_neg h2] at hn ⊢; rw [if_neg h2]
  by_cases h3 : o.kind = 3
  · rw [if_pos h3, if_pos h3]; exact hw _ _ _
  rw [if_neg h3] at hn ⊢; rw [if_neg h3]
  by_cases h4 : o.kind = 4
  · rw [if_pos h4, if_pos h4]; exact hw _ _ _
  rw [if_neg h4] at hn ⊢; rw [if_neg h4]
  by_cases h5 : o.kind = 5
  · rw [if_pos h5, if_pos h5]; exact hw _ _ _
  rw [if_neg h5] at hn
  exact absurd rfl hn
/-- What is told behind such a call. -/
theorem full_keeps (S : DS) (o : OpD) (h : doE S o = 3 ∨ doE S o = 1 ∨ doE S o = 8 ∨ (S.off = true ∧ doE S o ≠ 0)) :
    usedS (doS S o) = usedS S ∧ toldL (doS S o) (doS S o).log = toldL S S.log ∧ toldL (doS S o) (doS S o).image = toldL S S.image ∧ (S.off = true → doE S o = 6) := by
  by_cases ho : S.off = true
  · have hn : doE S o ≠ 0 := by rcases h with h | h | h | h <;> first | omega | exact h.2
    obtain ⟨e1, e2⟩ := do_off S o ho hn
    rw [e2]
    exact ⟨rfl, rfl, rfl, fun _ => e1⟩
  · obtain ⟨e1, e2⟩ := do_bad S o (by rcases h with h | h | h | h <;> first | omega | exact absurd h.1 ho)
    rw [e1]
    exact ⟨rfl, rfl, rfl, fun h => absurd h ho⟩
set_option maxRecDepth 100000 in
set_option maxHeartbeats 3200000 in
theorem full_any (v : Value) (os : List OpD) (n : Nat) (w : World) (hv : Ops w v os) :
    Calls Try.prog 7 #[.int .u64 (n : Int), v] w fun e w' => e = .returned (.bool true) ∧ Below w.heap.size w w' := by
  have HV := hid hv
  obtain ⟨ao, len, cap, rfl, rfl, hc, hcap, hnone, hcell⟩ := hv
  clear hcell
  have Z := Nat.le_refl w.heap.size
  obtain ⟨M, hM⟩ : ∃ M : Nat, M = n % 40 + 1 := ⟨_, rfl⟩
  have hM1 : 1 ≤ M := by omega
  have hM2 : M ≤ 40 := by omega
  have HR := hid (show ∀ w, Calls Try.prog 10 #[.int .u64 (n : Int)] w fun e w' => e = .returned (.int .i64 (M : Int)) ∧ w' = w from fun w => by rw [hM]; exact roomN_any n w)
  clear hM
  go_enter Try.func7, Try.ntmps7
  go_wp2_with fail
  refine (HR.out _).mono ?_
  rintro e w0 ⟨rfl, hw0⟩
  rw [hw0]
  clear hw0
  go_wp2_with fail
  refine (new_ok M _ hM1 (by omega)).mono ?_
  rintro e w1 ⟨d, R1, rfl, hd1, hr1, hb1⟩
  have A1 := hid (At.new hd1 hr1 hb1)
  clear hd1 hr1 hb1
  go_wp2_with fail
  go_loopw [30] (fun iv wr => ∃ (i : Nat) (S : DS), iv = .int .i64 i ∧ i ≤ os.length ∧ S.room = M ∧ At w.heap.size w wr d S) (fun iv _ => os.length - (intOf iv).toNat)
  case atStart => exact ⟨0, _, rfl, Nat.zero_le _, rfl, A1.out⟩
  case round =>
    obtain ⟨i, S, rfl, hi, hro, hat⟩ := hrel
    clear A1
    have HA := hid hat
    have HRO := hid hro
    clear hat hro
    by_cases hlt : (i : Int) < (os.length : Int)
    · have hi' : i < os.length := by omega
      have hao : ∃ ad, ao = some ad := by cases ao with | none => exact absurd (hnone rfl) (by omega) | some ad => exact ⟨ad, rfl⟩
      obtain ⟨ad, rfl⟩ := hao
      obtain ⟨ua, uc, g0, g1, g2, g3, g4⟩ := (HV.out.below HA.out.below).get i hi'
      have HO := hid g4
      obtain ⟨o, ho⟩ : ∃ o, o = os[i] := ⟨_, rfl⟩
      rw [← ho] at g0 g1 g2 g3 HO
      clear ho g4
      have hbx : Below wr.heap.size wr (wr.alloc (.cells #[.int .i64 o.kind, .int .i64 o.n, .slice ua o.m.length uc, .int .u64 (o.t : Int)] 33)) := (Below.refl _ _).alloc (Nat.le_refl _) _
      have HA1 := hid (HA.out.later Z hbx)
      have HO1 := hid (HO.out.below hbx)
      have X1 : Hid ((wr.alloc (.cells #[.int .i64 o.kind, .int .i64 o.n, .slice ua o.m.length uc, .int .u64 (o.t : Int)] 33)).heap[wr.heap.size]? = some (.cells #[.int .i64 o.kind, .int .i64 o.n, .slice ua o.m.length uc, .int .u64 (o.t : Int)] 33 (0, 0))) := hid (heap_alloc_new _ _)
      clear hbx
      by_cases h100 : 100 ≤ (i : Int)
      · go_wp2_with (go_at_call 15; refine (lives_any _).mono ?_; rintro e w8 ⟨rfl, hb8⟩; have HB := hid hb8; clear hb8)
        go_ret
        exact ⟨rfl, HA1.out.below.trans (HB.out.mono HA1.out.below.size)⟩
      · go_wp2_with fail
        obtain ⟨R, dd, rr, bb⟩ := HA1.out
        have D1 := hid dd
        have Q1 := hid rr
        have B1 := hid bb
        clear dd rr bb HA1 HA
        refine (log_any d R S _ D1.out).mono ?_
        rintro e w3 ⟨va, vc, rfl, ho3, hb3⟩
        have D3 := hid (D1.out.below hb3)
        have X3 := hid (block_later hb3 X1.out)
        have O3 := hid (HO1.out.below hb3)
        have B3 := hid (B1.out.trans (hb3.mono B1.out.size))
        have A3 := hid ho3
        have OUT3 : Hid (Out R (.slice va (toldL S S.log).length vc)) := hid fun k hk hr => by have := (ho3.lt k hk).1; have := D1.out.rlt k hr; omega
        clear ho3 hb3 D1 B1 HO1 X1
        go_wp2_with fail
        refine (image_any d R S _ D3.out).mono ?_
        rintro e w4 ⟨vi, vj, rfl, ho4, hb4⟩
        have D4 := hid (D3.out.below hb4)
        have X4 := hid (block_later hb4 X3.out)
        obtain ⟨x0, x1, x2, x3⟩ := cell_four X4.out
        have O4 := hid (O3.out.below hb4)
        have B4 := hid (B3.out.trans (hb4.mono B3.out.size))
        have A4 := hid (A3.out.bts.below hb4)
        have I4 := hid ho4.bts
        have OUT4 : Hid (Out R (.slice vi (toldL S S.image).length vj)) := hid fun k hk hr => by have := (ho4.lt k hk).1; have := D3.out.rlt k hr; omega
        clear ho4 hb4 D3 B3 O3 A3 X3 X4
        go_wp2_with fail
        refine (used_any d R S _ D4.out).mono ?_
        rintro e w5 ⟨rfl, n5, rfl⟩
        have hb5 := drewN_below w4 n5
        go_wp2_with fail
        refine (off_any d R S _ (D4.out.below hb5)).mono ?_
        rintro e w6 ⟨rfl, rfl⟩
        go_wp2_with fail
        have D6 := hid (D4.out.below hb5)
        have O6 := hid (O4.out.below hb5)
        have B6 := hid (B4.out.trans (hb5.mono B4.out.size))
        have A6 := hid (A4.out.below hb5)
        have I6 := hid (I4.out.below hb5)
        clear hb5 D4 O4 B4 A4 I4
        refine (do_any d R S o _ _ D6.out O6.out).mono ?_
        rintro e w7 ⟨rfl, hs7⟩
        have H7 := hid (hs7.at B6.out Z Q1.out)
        obtain ⟨R7, d7, t7, r7⟩ := hs7
        have D7 := hid d7
        have A7 := hid (A6.out.but t7 OUT3.out)
        have I7 := hid (I6.out.but t7 OUT4.out)
        clear d7 t7 r7 D6 O6 B6 A6 I6 OUT3 OUT4 Q1
        have hfit : (usedS (doS S o) : Int) ≤ (M : Int) := by
          have := D7.out.ok.fits
          rw [do_room, HRO.out] at this
          unfold usedS; omega
        have FK := hid (full_keeps S o)
        have RO := hid ((do_room S o).trans HRO.out)
        obtain ⟨E, hE⟩ : ∃ E, E = doE S o := ⟨_, rfl⟩
        rw [← hE] at FK ⊢
        clear hE
        obtain ⟨U, hU⟩ : ∃ U, U = usedS (doS S o) := ⟨_, rfl⟩
        have HU := hid hU
        rw [← hU] at hfit FK
        clear hU
        have h2 : decide ((M : Int) < (U : Int)) = false := by simp; omega
        have h3 : decide ((U : Int) < 0) = false := by simp
        have h4 : decide (M < U) = false := by simp; omega
        clear hfit
        go_wp2_with fail
        refine (used_any d R7 _ _ D7.out).mono ?_
        rw [← HU.out]
        rintro e w8 ⟨rfl, n8, rfl⟩
        go_wp2_with fail
        refine (HR.out _).mono ?_
        rintro e w9 ⟨rfl, hw9⟩
        rw [hw9]
        clear hw9
        go_wp2_with fail
        refine (used_any d R7 _ _ (D7.out.below (drewN_below w7 _))).mono ?_
        rw [← HU.out]
        rintro e w10 ⟨rfl, n10, hw10⟩
        have hw10' : Below w7.heap.size w7 w10 := by rw [hw10]; exact (drewN_below w7 n8).trans ((drewN_below (w7.drewN n8) n10).mono (Nat.le_refl _))
        clear hw10
        have D12 := hid (D7.out.below hw10')
        have A12 := hid (A7.out.below hw10')
        have I12 := hid (I7.out.below hw10')
        have H12 := hid (H7.out.later Z hw10')
        clear hw10' D7 A7 I7 H7 h2 h3 h4
        obtain ⟨B, hB⟩ : ∃ B, B = S.off := ⟨_, rfl⟩
        rw [← hB] at FK ⊢
        clear hB
        by_cases e3 : E = 3 ∨ E = 1 ∨ E = 8 ∨ (B = true ∧ E ≠ 0)
        · obtain ⟨f1, f2, f3, f4⟩ := FK.out e3
          clear FK
          rcases e3 with rfl | rfl | rfl | ⟨rfl, hn0⟩
          · obtain rfl : B = false := by cases B with | false => rfl | true => exact absurd (f4 rfl) (by decide)
            clear f4
            go_wp2_with fail
            refine (log_any d R7 _ _ D12.out).mono ?_
            rw [f2]
            rintro e w13 ⟨xa, xc, rfl, ho13, hb13⟩
            have D13 := hid (D12.out.below hb13)
            have A13 := hid (A12.out.below hb13)
            have I13 := hid (I12.out.below hb13)
            have X13 := hid ho13.bts
            have H13 := hid (H12.out.later Z hb13)
            clear ho13 hb13
            go_wp2_with fail
            refine (image_any d R7 _ _ D13.out).mono ?_
            rw [f3]
            rintro e w14 ⟨ya, yc, rfl, ho14, hb14⟩
            have D14 := hid (D13.out.below hb14)
            have H14 := hid (H13.out.later Z hb14)
            have b14 := hid hb14
            have Y14 := hid ho14.bts
            clear ho14 hb14
            go_wp2_with fail
            refine (used_any d R7 _ _ D14.out).mono ?_
            rw [← HU.out, f1]
            rintro e w15 ⟨rfl, n15, rfl⟩
            have hb15 := drewN_below w14 n15
            have s1 := conv_string (w14.drewN n15) _ _ ((X13.out.below b14.out).below hb15)
            have s2 := conv_string (w14.drewN n15) _ _ ((A13.out.below b14.out).below hb15)
            have s3 := conv_string (w14.drewN n15) _ _ (Y14.out.below hb15)
            have s4 := conv_string (w14.drewN n15) _ _ ((I13.out.below b14.out).below hb15)
            have H15 := hid (H14.out.later Z hb15)
            clear hb15 H14 H13 D14 D13 b14 Y14 X13 A13 I13
            go_wp2_with fail
            go_roundw
            case rel => exact ⟨i + 1, _, by go_num, by omega, RO.out, H15.out⟩
            case measure => simp [intOf]; omega
          · obtain rfl : B = false := by cases B with | false => rfl | true => exact absurd (f4 rfl) (by decide)
            clear f4
            go_wp2_with fail
            refine (log_any d R7 _ _ D12.out).mono ?_
            rw [f2]
            rintro e w13 ⟨xa, xc, rfl, ho13, hb13⟩
            have D13 := hid (D12.out.below hb13)
            have A13 := hid (A12.out.below hb13)
            have I13 := hid (I12.out.below hb13)
            have X13 := hid ho13.bts
            have H13 := hid (H12.out.later Z hb13)
            clear ho13 hb13
            go_wp2_with fail
            refine (image_any d R7 _ _ D13.out).mono ?_
            rw [f3]
            rintro e w14 ⟨ya, yc, rfl, ho14, hb14⟩
            have D14 := hid (D13.out.below hb14)
            have H14 := hid (H13.out.later Z hb14)
            have b14 := hid hb14
            have Y14 := hid ho14.bts
            clear ho14 hb14
            go_wp2_with fail
            refine (used_any d R7 _ _ D14.out).mono ?_
            rw [← HU.out, f1]
            rintro e w15 ⟨rfl, n15, rfl⟩
            have hb15 := drewN_below w14 n15
            have s1 := conv_string (w14.drewN n15) _ _ ((X13.out.below b14.out).below hb15)
            have s2 := conv_string (w14.drewN n15) _ _ ((A13.out.below b14.out).below hb15)
            have s3 := conv_string (w14.drewN n15) _ _ (Y14.out.below hb15)
            have s4 := conv_string (w14.drewN n15) _ _ ((I13.out.below b14.out).below hb15)
            have H15 := hid (H14.out.later Z hb15)
            clear hb15 H14 H13 D14 D13 b14 Y14 X13 A13 I13
            go_wp2_with fail
            go_roundw
            case rel => exact ⟨i + 1, _, by go_num, by omega, RO.out, H15.out⟩
            case measure => simp [intOf]; omega
          · obtain rfl : B = false := by cases B with | false => rfl | true => exact absurd (f4 rfl) (by decide)
            clear f4
            go_wp2_with fail
            refine (log_any d R7 _ _ D12.out).mono ?_
            rw [f2]
            rintro e w13 ⟨xa, xc, rfl, ho13, hb13⟩
            have D13 := hid (D12.out.below hb13)
            have A13 := hid (A12.out.below hb13)
            have I13 := hid (I12.out.below hb13)
            have X13 := hid ho13.bts
            have H13 := hid (H12.out.later Z hb13)
            clear ho13 hb13
            go_wp2_with fail
            refine (image_any d R7 _ _ D13.out).mono ?_
            rw [f3]
            rintro e w14 ⟨ya, yc, rfl, ho14, hb14⟩
            have D14 := hid (D13.out.below hb14)
            have H14 := hid (H13.out.later Z hb14)
            have b14 := hid hb14
            have Y14 := hid ho14.bts
            clear ho14 hb14
            go_wp2_with fail
            refine (used_any d R7 _ _ D14.out).mono ?_
            rw [← HU.out, f1]
            rintro e w15 ⟨rfl, n15, rfl⟩
            have hb15 := drewN_below w14 n15
            have s1 := conv_string (w14.drewN n15) _ _ ((X13.out.below b14.out).below hb15)
            have s2 := conv_string (w14.drewN n15) _ _ ((A13.out.below b14.out).below hb15)
            have s3 := conv_string (w14.drewN n15) _ _ (Y14.out.below hb15)
            have s4 := conv_string (w14.drewN n15) _ _ ((I13.out.below b14.out).below hb15)
            have H15 := hid (H14.out.later Z hb15)
            clear hb15 H14 H13 D14 D13 b14 Y14 X13 A13 I13
            go_wp2_with fail
            go_roundw
            case rel => exact ⟨i + 1, _, by go_num, by omega, RO.out, H15.out⟩
            case measure => simp [intOf]; omega
          · obtain rfl : E = 6 := f4 rfl
            clear f4 hn0
            go_wp2_with fail
            refine (log_any d R7 _ _ D12.out).mono ?_
            rw [f2]
            rintro e w13 ⟨xa, xc, rfl, ho13, hb13⟩
            have D13 := hid (D12.out.below hb13)
            have A13 := hid (A12.out.below hb13)
            have I13 := hid (I12.out.below hb13)
            have X13 := hid ho13.bts
            have H13 := hid (H12.out.later Z hb13)
            clear ho13 hb13
            go_wp2_with fail
            refine (image_any d R7 _ _ D13.out).mono ?_
            rw [f3]
            rintro e w14 ⟨ya, yc, rfl, ho14, hb14⟩
            have D14 := hid (D13.out.below hb14)
            have H14 := hid (H13.out.later Z hb14)
            have b14 := hid hb14
            have Y14 := hid ho14.bts
            clear ho14 hb14
            go_wp2_with fail
            refine (used_any d R7 _ _ D14.out).mono ?_
            rw [← HU.out, f1]
            rintro e w15 ⟨rfl, n15, rfl⟩
            have hb15 := drewN_below w14 n15
            have s1 := conv_string (w14.drewN n15) _ _ ((X13.out.below b14.out).below hb15)
            have s2 := conv_string (w14.drewN n15) _ _ ((A13.out.below b14.out).below hb15)
            have s3 := conv_string (w14.drewN n15) _ _ (Y14.out.below hb15)
            have s4 := conv_string (w14.drewN n15) _ _ ((I13.out.below b14.out).below hb15)
            have H15 := hid (H14.out.later Z hb15)
            clear hb15 H14 H13 D14 D13 b14 Y14 X13 A13 I13
            go_wp2_with fail
            go_roundw
            case rel => exact ⟨i + 1, _, by go_num, by omega, RO.out, H15.out⟩
            case measure => simp [intOf]; omega
        · clear FK
          have q1 : (E == 3) = false := by simp; omega
          have q2 : (E == 1) = false := by simp; omega
          have q3 : (E == 8) = false := by simp; omega
          cases B with
          | false =>
            clear e3
            go_wp2_with fail
            go_roundw
            case rel => exact ⟨i + 1, _, by go_num, by omega, RO.out, H12.out⟩
            case measure => simp [intOf]; omega
          | true =>
            obtain rfl : E = 0 := by
              rcases Int.lt_trichotomy E 0 with h | h | h
              · exact absurd (.inr (.inr (.inr ⟨rfl, by omega⟩))) e3
              · exact h
              · exact absurd (.inr (.inr (.inr ⟨rfl, by omega⟩))) e3
            clear e3
            go_wp2_with fail
            go_roundw
            case rel => exact ⟨i + 1, _, by go_num, by omega, RO.out, H12.out⟩
            case measure => simp [intOf]; omega
    · go_wp2_with (go_at_call 15; refine (lives_any _).mono ?_; rintro e w8 ⟨rfl, hb8⟩; have HB := hid hb8; clear hb8)
      go_ret
      exact ⟨rfl, HA.out.below.trans (HB.out.mono HA.out.below.size)⟩
end Go.Proofs.Ytengonfilmhaoaa
