/- OctetFrames answers true for any two rows of bytes and any place; nothing that was there has turned. -/
import Derived.Test.YtijpbcbmmecdoaaRefFrame
import Derived.Deep.DrawnRows
namespace Go.Proofs.Ytijpbcbmmecdoaa
open Go.RowKit
attribute [local go_sem ↓] Go.wp_at_zero Go.wp_at_succ

theorem unfE_cases (r : List UInt8) : unfE r = 0 ∨ unfE r = 8 ∨ unfE r = 4 ∨ unfE r = 5 := by
  unfold unfE
  split
  · simp
  · split
    · simp
    · split
      · simp
      · split
        · simp
        · split <;> simp
theorem unfE_word (r : List UInt8) (h : unfE r = 0) : wordV r ≤ 1048576 := by
  unfold unfE at h
  split at h
  · simp at h
  · split at h
    · simp at h
    · split at h
      · simp at h
      · omega

theorem Try.underlying4E : Try.prog.underlying 32 = some (.array 4 24) := by kernel_rfl
theorem index_why (w : World) (i : Nat) (x : Int) (h : [(0 : Int), 8, 4, 5][i]? = some x) :
    (Instr.index 32 (.agg #[.int .i64 0, .int .i64 8, .int .i64 4, .int .i64 5]) (.int .i64 (i : Int))).run Try.prog w = .ok (.int .i64 x) w := by
  match i, h with
  | 0, h => simp [Instr.index, run_underlying Try.underlying4E, asIntOf, go_sem] at h ⊢; exact h
  | 1, h => simp [Instr.index, run_underlying Try.underlying4E, asIntOf, go_sem] at h ⊢; exact h
  | 2, h => simp [Instr.index, run_underlying Try.underlying4E, asIntOf, go_sem] at h ⊢; exact h
  | 3, h => simp [Instr.index, run_underlying Try.underlying4E, asIntOf, go_sem] at h ⊢; exact h


set_option maxRecDepth 100000 in
set_option maxHeartbeats 3200000 in
theorem frames_law (v vb : Value) (l0 b0 : List UInt8) (t : Int) (w : World) (hv : Bts w v l0) (hb : Bts w vb b0) (ht0 : -9223372036854775808 ≤ t) (ht1 : t ≤ 9223372036854775807) :
    Calls Try.prog 3 #[v, vb, .int .i64 t] w fun e w' => e = .returned (.bool true) ∧ Below w.heap.size w w' := by
  have HV0 := hid hv
  have HB0 := hid hb
  obtain ⟨a0, c0, rfl⟩ := hv.shape
  obtain ⟨a1, c1, rfl⟩ := hb.shape
  clear hv hb
  go_enter Try.func3, Try.ntmps3
  go_wp2_with fail
  refine (cut_any _ _ _ HV0.out).mono ?_
  rintro e w1 ⟨va, na, ca, rfl, hA, rfl⟩
  have hll : (l0.take 3000).length ≤ 3000 := List.length_take_le _ _
  clear HV0
  generalize l0.take 3000 = l at *
  obtain rfl : na = l.length := by obtain ⟨_, _, _, e, h, -⟩ := hA; cases e; exact h
  have HV := hid hA
  clear hA
  go_wp2_with fail
  refine (cut_any _ _ _ HB0.out).mono ?_
  rintro e w2 ⟨vb, nb, cb, rfl, hB, rfl⟩
  have hbb : (b0.take 3000).length ≤ 3000 := List.length_take_le _ _
  clear HB0
  generalize b0.take 3000 = b at *
  obtain rfl : nb = b.length := by obtain ⟨_, _, _, e, h, -⟩ := hB; cases e; exact h
  have HV2 := hid hB
  clear hB
  have hlI : (l.length : Int) ≤ 3000 := by omega
  have hbI : (b.length : Int) ≤ 3000 := by omega
  go_wp2_with fail
  refine (frame_any _ _ _ HV.out (by omega)).mono ?_
  rintro e w3 ⟨vf, cf, rfl, ho3, hb3⟩
  have HO3 := hid ho3
  have HB3 := hid hb3
  have hs3 := hb3.size
  clear ho3 hb3
  have hcs0 := conv_string w3.drew _ _ (HO3.out.bts.below ((Below.refl _ _).drew))
  obtain ⟨T, hTT⟩ : ∃ T : ByteArray, T = ⟨(frameB l).toArray⟩ := ⟨_, rfl⟩
  rw [← hTT] at hcs0
  have HTT := hid hTT
  clear hTT
  go_wp2_with fail
  go_region_with (go_at_call 10; refine (refFrame_any _ l _ ((HV.out.below HB3.out).below ((Below.refl _ _).drew)) (by omega)).mono ?_; rintro e w4 ⟨va4, vc4, rfl, ho4, hb4⟩; have hcs3 := conv_string w4 _ _ ho4.bts; have hcs4 := conv_string w4 _ _ ((HO3.out.bts.below ((Below.refl _ _).drew)).below hb4); rw [← HTT.out] at hcs3 hcs4; have HB4 := hid hb4; clear ho4 hb4)
  all_goals
    have HB4' := hid (HB3.out.trans (((Below.refl w3.heap.size w3).drew.trans HB4.out).mono hs3))
    have hs4 := HB4'.out.size
    have HV4 := hid (HV2.out.below HB4'.out)
    clear hcs0 hcs3 hcs4 HB4 HO3 HTT HB3
    generalize l.length + 8 = lf
    clear hs3
    go_wp2_with fail
    by_cases harg : t < 0 ∨ (b.length : Int) < t
    · refine (unframe_arg _ _ _ _ HV4.out harg).mono ?_
      rintro e w5 ⟨rfl, rfl⟩
      by_cases hneg : t < 0
      · clear harg
        go_wp2_with (go_at_call 12; refine (lives_any _).mono ?_; rintro e w10 ⟨rfl, hb10⟩; have HB10 := hid hb10; clear hb10)
        go_ret
        exact ⟨rfl, HB4'.out.trans (HB10.out.mono hs4)⟩
      · have hbig : (b.length : Int) < t := by omega
        clear harg
        go_wp2_with (go_at_call 12; refine (lives_any _).mono ?_; rintro e w10 ⟨rfl, hb10⟩; have HB10 := hid hb10; clear hb10)
        go_ret
        exact ⟨rfl, HB4'.out.trans (HB10.out.mono hs4)⟩
    · obtain ⟨p, rfl⟩ := Int.eq_ofNat_of_zero_le (show 0 ≤ t by omega)
      have hp : (p : Int) ≤ (b.length : Int) := by omega
      refine (unframe_any _ b p _ HV4.out (by omega) (by omega)).mono ?_
      rintro e w5 ⟨va5, m5, vc5, next5, code5, rfl, hU, hb5⟩
      clear harg ht0 ht1
      have HU := hid hU
      have HB5 := hid (HB4'.out.trans (hb5.mono hs4))
      have HV5 := hid (HV4.out.below hb5)
      clear hU hb5
      by_cases hcp : cb = p
      · have HVS : Hid (Bts w5 (.slice vb (b.length - p) 0) (b.drop p)) := hid (by
          have := HV5.out.sub (k := p) (n := b.length - p) (ao' := vb) (by omega) (fun h => absurd hcp h) (fun _ => rfl)
          rw [List.take_of_length_le (by simp), hcp, Nat.sub_self] at this
          exact this)
        go_wp2_with fail
        refine (refUnframe_any _ (b.drop p) _ HVS.out (by simp; omega)).mono ?_
        rintro e w6 ⟨va6, m6, vc6, n6, why6, rfl, hR, hb6⟩
        have HB6' := hid (HB5.out.trans (hb6.mono HB5.out.size))
        have hU := HU.out
        clear HU HVS HV5 HV4 HB4'
        obtain ⟨r, hr⟩ : ∃ r, r = b.drop p := ⟨_, rfl⟩
        rw [← hr] at hU hR
        unfold UnfV at hU
        unfold RefV at hR
        clear hr
        rcases unfE_cases r with hE | hE | hE | hE
        · rw [if_pos hE] at hU hR
          obtain ⟨hO5, rfl, rfl, rfl⟩ := hU
          obtain ⟨hO6, rfl, rfl, rfl⟩ := hR
          have hwl := unfE_word r hE
          have hO5' := hO5.below hb6
          have hcs1 := conv_string w6 _ _ hO5'.bts
          have hcs2 := conv_string w6 _ _ hO6.bts
          have hcs3 := conv_string w6.drew _ _ (hO5'.bts.below ((Below.refl _ _).drew))
          have hcs4 := conv_string w6.drew _ _ (hO6.bts.below ((Below.refl _ _).drew))
          generalize (⟨(unfD r).toArray⟩ : ByteArray) = T9 at hcs1 hcs2 hcs3 hcs4
          generalize (unfD r).length = md at *
          generalize wordV r = n9 at *
          have hn9 : (n9 : Int) ≤ 1048576 := by omega
          clear hO5 hO5' hO6 hE hb6
          have hass : (p : Int) + (n9 : Int) + 8 = (p : Int) + ((n9 : Int) + 8) := by omega
          simp only [hass]
          clear hass
          have hix : (Instr.index 32 (.agg #[.int .i64 0, .int .i64 8, .int .i64 4, .int .i64 5]) (.int .i64 0)).run Try.prog w6 = .ok (.int .i64 0) w6 := index_why w6 0 0 rfl
          go_wp2_with (go_at_call 12; refine (lives_any _).mono ?_; rintro e w10 ⟨rfl, hb10⟩; have HB10 := hid hb10; clear hb10)
          go_ret
          exact ⟨rfl, HB6'.out.trans (HB10.out.mono HB6'.out.size)⟩
        · rw [if_neg (by omega)] at hU hR
          obtain ⟨rfl, rfl, rfl, rfl, rfl⟩ := hU
          obtain ⟨rfl, rfl, rfl, rfl, rfl⟩ := hR
          simp only [hE, if_true]
          clear hE hb6
          have hix : (Instr.index 32 (.agg #[.int .i64 0, .int .i64 8, .int .i64 4, .int .i64 5]) (.int .i64 1)).run Try.prog w6 = .ok (.int .i64 8) w6 := index_why w6 1 8 rfl
          go_wp2_with (go_at_call 12; refine (lives_any _).mono ?_; rintro e w10 ⟨rfl, hb10⟩; have HB10 := hid hb10; clear hb10)
          go_ret
          exact ⟨rfl, HB6'.out.trans (HB10.out.mono HB6'.out.size)⟩
        · rw [if_neg (by omega)] at hU hR
          obtain ⟨rfl, rfl, rfl, rfl, rfl⟩ := hU
          obtain ⟨rfl, rfl, rfl, rfl, rfl⟩ := hR
          simp only [hE, if_true, if_false, show ¬ (4 : Nat) = 8 from by omega]
          clear hE hb6
          have hix : (Instr.index 32 (.agg #[.int .i64 0, .int .i64 8, .int .i64 4, .int .i64 5]) (.int .i64 2)).run Try.prog w6 = .ok (.int .i64 4) w6 := index_why w6 2 4 rfl
          go_wp2_with (go_at_call 12; refine (lives_any _).mono ?_; rintro e w10 ⟨rfl, hb10⟩; have HB10 := hid hb10; clear hb10)
          go_ret
          exact ⟨rfl, HB6'.out.trans (HB10.out.mono HB6'.out.size)⟩
        · rw [if_neg (by omega)] at hU hR
          obtain ⟨rfl, rfl, rfl, rfl, rfl⟩ := hU
          obtain ⟨rfl, rfl, rfl, rfl, rfl⟩ := hR
          simp only [hE, if_false, show ¬ (5 : Nat) = 8 from by omega, show ¬ (5 : Nat) = 4 from by omega]
          clear hE hb6
          have hix : (Instr.index 32 (.agg #[.int .i64 0, .int .i64 8, .int .i64 4, .int .i64 5]) (.int .i64 3)).run Try.prog w6 = .ok (.int .i64 5) w6 := index_why w6 3 5 rfl
          go_wp2_with (go_at_call 12; refine (lives_any _).mono ?_; rintro e w10 ⟨rfl, hb10⟩; have HB10 := hid hb10; clear hb10)
          go_ret
          exact ⟨rfl, HB6'.out.trans (HB10.out.mono HB6'.out.size)⟩
      · have HVS : Hid (Bts w5 (.slice (vb.map (·.add p)) (b.length - p) (cb - p)) (b.drop p)) := hid (by
          have := HV5.out.sub (k := p) (n := b.length - p) (ao' := vb.map (·.add p)) (by omega) (fun _ => rfl) (fun h => absurd h hcp)
          rw [List.take_of_length_le (by simp)] at this
          exact this)
        go_wp2_with fail
        refine (refUnframe_any _ (b.drop p) _ HVS.out (by simp; omega)).mono ?_
        rintro e w6 ⟨va6, m6, vc6, n6, why6, rfl, hR, hb6⟩
        have HB6' := hid (HB5.out.trans (hb6.mono HB5.out.size))
        have hU := HU.out
        clear HU HVS HV5 HV4 HB4'
        obtain ⟨r, hr⟩ : ∃ r, r = b.drop p := ⟨_, rfl⟩
        rw [← hr] at hU hR
        unfold UnfV at hU
        unfold RefV at hR
        clear hr
        rcases unfE_cases r with hE | hE | hE | hE
        · rw [if_pos hE] at hU hR
          obtain ⟨hO5, rfl, rfl, rfl⟩ := hU
          obtain ⟨hO6, rfl, rfl, rfl⟩ := hR
          have hwl := unfE_word r hE
          have hO5' := hO5.below hb6
          have hcs1 := conv_string w6 _ _ hO5'.bts
          have hcs2 := conv_string w6 _ _ hO6.bts
          have hcs3 := conv_string w6.drew _ _ (hO5'.bts.below ((Below.refl _ _).drew))
          have hcs4 := conv_string w6.drew _ _ (hO6.bts.below ((Below.refl _ _).drew))
          generalize (⟨(unfD r).toArray⟩ : ByteArray) = T9 at hcs1 hcs2 hcs3 hcs4
          generalize (unfD r).length = md at *
          generalize wordV r = n9 at *
          have hn9 : (n9 : Int) ≤ 1048576 := by omega
          clear hO5 hO5' hO6 hE hb6
          have hass : (p : Int) + (n9 : Int) + 8 = (p : Int) + ((n9 : Int) + 8) := by omega
          simp only [hass]
          clear hass
          have hix : (Instr.index 32 (.agg #[.int .i64 0, .int .i64 8, .int .i64 4, .int .i64 5]) (.int .i64 0)).run Try.prog w6 = .ok (.int .i64 0) w6 := index_why w6 0 0 rfl
          go_wp2_with (go_at_call 12; refine (lives_any _).mono ?_; rintro e w10 ⟨rfl, hb10⟩; have HB10 := hid hb10; clear hb10)
          go_ret
          exact ⟨rfl, HB6'.out.trans (HB10.out.mono HB6'.out.size)⟩
        · rw [if_neg (by omega)] at hU hR
          obtain ⟨rfl, rfl, rfl, rfl, rfl⟩ := hU
          obtain ⟨rfl, rfl, rfl, rfl, rfl⟩ := hR
          simp only [hE, if_true]
          clear hE hb6
          have hix : (Instr.index 32 (.agg #[.int .i64 0, .int .i64 8, .int .i64 4, .int .i64 5]) (.int .i64 1)).run Try.prog w6 = .ok (.int .i64 8) w6 := index_why w6 1 8 rfl
          go_wp2_with (go_at_call 12; refine (lives_any _).mono ?_; rintro e w10 ⟨rfl, hb10⟩; have HB10 := hid hb10; clear hb10)
          go_ret
          exact ⟨rfl, HB6'.out.trans (HB10.out.mono HB6'.out.size)⟩
        · rw [if_neg (by omega)] at hU hR
          obtain ⟨rfl, rfl, rfl, rfl, rfl⟩ := hU
          obtain ⟨rfl, rfl, rfl, rfl, rfl⟩ := hR
          simp only [hE, if_true, if_false, show ¬ (4 : Nat) = 8 from by omega]
          clear hE hb6
          have hix : (Instr.index 32 (.agg #[.int .i64 0, .int .i64 8, .int .i64 4, .int .i64 5]) (.int .i64 2)).run Try.prog w6 = .ok (.int .i64 4) w6 := index_why w6 2 4 rfl
          go_wp2_with (go_at_call 12; refine (lives_any _).mono ?_; rintro e w10 ⟨rfl, hb10⟩; have HB10 := hid hb10; clear hb10)
          go_ret
          exact ⟨rfl, HB6'.out.trans (HB10.out.mono HB6'.out.size)⟩
        · rw [if_neg (by omega)] at hU hR
          obtain ⟨rfl, rfl, rfl, rfl, rfl⟩ := hU
          obtain ⟨rfl, rfl, rfl, rfl, rfl⟩ := hR
          simp only [hE, if_false, show ¬ (5 : Nat) = 8 from by omega, show ¬ (5 : Nat) = 4 from by omega]
          clear hE hb6
          have hix : (Instr.index 32 (.agg #[.int .i64 0, .int .i64 8, .int .i64 4, .int .i64 5]) (.int .i64 3)).run Try.prog w6 = .ok (.int .i64 5) w6 := index_why w6 3 5 rfl
          go_wp2_with (go_at_call 12; refine (lives_any _).mono ?_; rintro e w10 ⟨rfl, hb10⟩; have HB10 := hid hb10; clear hb10)
          go_ret
          exact ⟨rfl, HB6'.out.trans (HB10.out.mono HB6'.out.size)⟩
end Go.Proofs.Ytijpbcbmmecdoaa
