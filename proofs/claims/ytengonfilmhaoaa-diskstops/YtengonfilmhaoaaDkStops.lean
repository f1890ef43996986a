/- DiskStops answers true for any Ops and any number; nothing that was there has turned. -/
import Derived.Test.YtengonfilmhaoaaDkOpen
import Derived.Deep.DeepCutAuto
namespace Go.Proofs.Ytengonfilmhaoaa
open Go.RowKit

/-- What holds of a device with a Stop at K, when c writing calls have been made. -/
def StopI (K c : Nat) (S : DS) : Prop := (c ≤ K → S.off = false ∧ S.left = (K : Int) - (c : Int)) ∧ (K < c → S.off = true)
theorem lay_keeps (S : DS) (m : List UInt8) : (layS S m).off = S.off ∧ (layS S m).left = S.left := by unfold layS; split <;> exact ⟨rfl, rfl⟩
theorem cut_keeps (S : DS) (n : Int) : (cutS S n).off = S.off ∧ (cutS S n).left = S.left := by unfold cutS; split <;> exact ⟨rfl, rfl⟩
theorem stage_keeps (S : DS) (m : List UInt8) : (stageS S m).off = S.off ∧ (stageS S m).left = S.left := by unfold stageS; split <;> exact ⟨rfl, rfl⟩
theorem commit_keeps (S : DS) : (commitS S).off = S.off ∧ (commitS S).left = S.left := by unfold commitS; split <;> exact ⟨rfl, rfl⟩
theorem write_off_is {S S1 S0 : DS} {er : Int} (h : S.off = true) : writeE S er = 6 ∧ writeS S S1 S0 = S := by unfold writeE writeS; simp [h]
theorem write_goes_is {S S1 S0 : DS} {er : Int} (h : S.off = false) (hl : S.left = 0) : writeE S er = 6 ∧ (writeS S S1 S0).off = true := by unfold writeE writeS; simp [h, hl]
theorem write_on_is {S S1 S0 : DS} {er : Int} (h : S.off = false) (hl : 0 < S.left) (he : er ≠ 6) (h1 : S1.off = S.off ∧ S1.left = S.left) : writeE S er ≠ 6 ∧ (writeS S S1 S0).off = false ∧ (writeS S S1 S0).left = S.left - 1 := by
  unfold writeE writeS
  have : S.left ≠ 0 := by omega
  simp [h, this, h1.1, h1.2, he]
  omega
theorem layE_ne (S : DS) (m : List UInt8) : layE S m ≠ 6 := by unfold layE; split <;> decide
theorem cutE_ne (S : DS) (n : Int) : cutE S n ≠ 6 := by unfold cutE; split <;> decide
theorem stageE_ne (S : DS) (m : List UInt8) : stageE S m ≠ 6 := by unfold stageE; split <;> decide
theorem commitE_ne (S : DS) : commitE S ≠ 6 := by unfold commitE; split <;> decide
/-- A writing call, as one of writeE and writeS. -/
theorem do_is_write (S : DS) (o : OpD) (h : 1 ≤ o.kind ∧ o.kind ≤ 5) : ∃ er S1 S0, doE S o = writeE S er ∧ doS S o = writeS S S1 S0 ∧ er ≠ 6 ∧ S1.off = S.off ∧ S1.left = S.left := by
  unfold doE doS
  by_cases h1 : o.kind = 1
  · rw [if_pos h1, if_pos h1]; exact ⟨_, _, _, rfl, rfl, layE_ne _ _, lay_keeps _ _⟩
  rw [if_neg h1, if_neg h1]
  by_cases h2 : o.kind = 2
  · rw [if_pos h2, if_pos h2]; exact ⟨_, _, _, rfl, rfl, by decide, rfl, rfl⟩
  rw [if_neg h2, if_neg h2]
  by_cases h3 : o.kind = 3
  · rw [if_pos h3, if_pos h3]; exact ⟨_, _, _, rfl, rfl, cutE_ne _ _, cut_keeps _ _⟩
  rw [if_neg h3, if_neg h3]
  by_cases h4 : o.kind = 4
  · rw [if_pos h4, if_pos h4]; exact ⟨_, _, _, rfl, rfl, stageE_ne _ _, stage_keeps _ _⟩
  rw [if_neg h4, if_neg h4]
  have h5 : o.kind = 5 := by omega
  rw [if_pos h5, if_pos h5]; exact ⟨_, _, _, rfl, rfl, commitE_ne _, commit_keeps _⟩
theorem StopI.next {K c : Nat} {S : DS} {o : OpD} (h : StopI K c S) (hk : 1 ≤ o.kind ∧ o.kind ≤ 5) : StopI K (c + 1) (doS S o) ∧ (K ≤ c → doE S o = 6 ∧ (doS S o).off = true) ∧ (c < K → doE S o ≠ 6 ∧ (doS S o).off = false) := by
  obtain ⟨er, S1, S0, e1, e2, ne, k1, k2⟩ := do_is_write S o hk
  rw [e1, e2]
  obtain ⟨ha, hb⟩ := h
  rcases Nat.lt_trichotomy c K with hc | hc | hc
  · obtain ⟨h1, h2⟩ := ha (by omega)
    obtain ⟨p, q, r⟩ := write_on_is (S1 := S1) (S0 := S0) h1 (by omega) ne ⟨k1, k2⟩
    exact ⟨⟨fun _ => ⟨q, by rw [r, h2]; omega⟩, fun h => by omega⟩, fun h => by omega, fun _ => ⟨p, q⟩⟩
  · obtain ⟨h1, h2⟩ := ha (by omega)
    obtain ⟨p, q⟩ := write_goes_is (er := er) (S1 := S1) (S0 := S0) h1 (by omega)
    exact ⟨⟨fun h => by omega, fun _ => q⟩, fun _ => ⟨p, q⟩, fun h => by omega⟩
  · have h1 := hb hc
    obtain ⟨p, q⟩ := write_off_is (er := er) (S1 := S1) (S0 := S0) h1
    rw [q]
    exact ⟨⟨fun h => by omega, fun _ => h1⟩, fun _ => ⟨p, h1⟩, fun h => by omega⟩
set_option maxRecDepth 100000 in
set_option maxHeartbeats 3200000 in
theorem stops_any (v : Value) (os : List OpD) (n : Nat) (w : World) (hv : Ops w v os) :
    Calls Try.prog 8 #[v, .int .u64 (n : Int)] w fun e w' => e = .returned (.bool true) ∧ Below w.heap.size w w' := by
  have HV := hid hv
  obtain ⟨ao, len, cap, rfl, rfl, hc, hcap, hnone, hcell⟩ := hv
  clear hcell
  have Z := Nat.le_refl w.heap.size
  go_enter Try.func8, Try.ntmps8
  go_wp2_with fail
  refine (new_ok 40 _ (by omega) (by omega)).mono ?_
  rintro e w1 ⟨d, R1, rfl, hd1, hr1, hb1⟩
  have A1 := hid (At.new hd1 hr1 hb1)
  clear hd1 hr1 hb1
  obtain ⟨K, hK⟩ : ∃ K : Nat, K = n % 20 := ⟨_, rfl⟩
  have hK2 : K ≤ 19 := by omega
  have HK := hid hK
  clear hK
  go_wp2_with fail
  rw [show ((n : Int) % 20) = (K : Int) from by rw [HK.out]; omega]
  refine (A1.out.do Z fun R dd => stop_any d R _ (K : Int) _ dd (by omega)).mono ?_
  rintro e w2 ⟨rfl, ha2⟩
  have A2 := hid ha2
  clear ha2 A1
  go_wp2_with fail
  go_loopw [8, 26] (fun cv iv wr => ∃ (c i : Nat) (S : DS), cv = .int .i64 c ∧ iv = .int .i64 i ∧ i ≤ os.length ∧ c ≤ i ∧ StopI K c S ∧ At w.heap.size w wr d S) (fun _ iv _ => os.length - (intOf iv).toNat)
  case atStart => exact ⟨0, 0, _, rfl, rfl, Nat.zero_le _, Nat.le_refl _, ⟨fun _ => ⟨rfl, by simp [stopS]; omega⟩, fun h => by omega⟩, A2.out⟩
  case round =>
    obtain ⟨c, i, S, rfl, rfl, hi, hci, hst, hat⟩ := hrel
    clear A2
    have HS := hid hst
    have HA := hid hat
    clear hst hat
    by_cases hlt : (i : Int) < (os.length : Int)
    · have hi' : i < os.length := by omega
      have hao : ∃ ad, ao = some ad := by cases ao with | none => exact absurd (hnone rfl) (by omega) | some ad => exact ⟨ad, rfl⟩
      obtain ⟨ad, rfl⟩ := hao
      obtain ⟨ua, uc, g0, g1, g2, g3, g4⟩ := (HV.out.below HA.out.below).get i hi'
      have HO := hid g4
      obtain ⟨o, ho⟩ : ∃ o, o = os[i] := ⟨_, rfl⟩
      rw [← ho] at g0 g1 g2 g3 HO
      clear ho g4
      have HA1 := hid (HA.out.later Z ((Below.refl _ _).alloc (Nat.le_refl _) (.cells #[.int .i64 o.kind, .int .i64 o.n, .slice ua o.m.length uc, .int .u64 (o.t : Int)] 33)))
      by_cases h50 : 50 ≤ (i : Int)
      · go_wp2_with fail
        refine (HA1.out.do Z fun R dd => crash_any d R _ 0 _ dd).mono ?_
        rintro e w5 ⟨rfl, ha5⟩
        obtain ⟨R5, d5, r5, b5⟩ := ha5
        have D5 := hid d5
        have A5 : Hid (At w.heap.size w w5 d (crashS S 0)) := hid ⟨R5, d5, r5, b5⟩
        clear d5 r5 b5
        go_wp2_with fail
        refine (off_any d R5 _ _ D5.out).mono ?_
        rw [show (crashS S 0).off = false from rfl]
        rintro e w6 ⟨rfl, rfl⟩
        go_wp2_with fail
        refine (A5.out.do Z fun R dd => sync_any d R _ _ dd).mono ?_
        rw [show writeE (crashS S 0) 0 = 0 from rfl]
        rintro e w7 ⟨rfl, ha7⟩
        have B7 := hid ha7.below
        clear ha7
        go_wp2_with (go_at_call 15; refine (lives_any _).mono ?_; rintro e w8 ⟨rfl, hb8⟩; have HB := hid hb8; clear hb8)
        go_ret
        exact ⟨rfl, B7.out.trans (HB.out.mono B7.out.size)⟩
      · by_cases hk : 1 ≤ o.kind ∧ o.kind ≤ 5
        · have d1 : decide (o.kind < 1) = false := by simp; omega
          have d2 : decide (5 < o.kind) = false := by simp; omega
          obtain ⟨n1, n2, n3⟩ := HS.out.next hk
          have N1 := hid n1
          go_wp2_with fail
          refine (HA1.out.do Z fun R dd => do_any d R S o _ _ dd (HO.out.below ((Below.refl _ _).alloc (Nat.le_refl _) _))).mono ?_
          rintro e w3 ⟨rfl, ha3⟩
          obtain ⟨R3, d3, r3, b3⟩ := ha3
          have D3 := hid d3
          have A3 : Hid (At w.heap.size w w3 d (doS S o)) := hid ⟨R3, d3, r3, b3⟩
          clear d3 r3 b3 g0 g1 g2 g3 n1
          by_cases hck : (K : Int) ≤ (c : Int)
          · obtain ⟨m1, m2⟩ := n2 (by omega)
            rw [m1]
            have M2 := hid m2
            clear n2 n3 m1 m2 hk
            go_wp2_with (go_at_call 19; refine (off_any d R3 _ _ D3.out).mono ?_; rw [M2.out]; rintro e w4 ⟨rfl, rfl⟩)
            go_roundw
            case rel => exact ⟨c + 1, i + 1, _, by go_num, by go_num, by omega, by omega, N1.out, A3.out⟩
            case measure => simp [intOf]; omega
          · obtain ⟨m1, m2⟩ := n3 (by omega)
            have M2 := hid m2
            obtain ⟨E, hE⟩ : ∃ E, E = doE S o := ⟨_, rfl⟩
            rw [← hE] at m1 ⊢
            have m3 : (E == 6) = false := by simpa using m1
            clear n2 n3 m1 m2 hE hk
            go_wp2_with (go_at_call 19; refine (off_any d R3 _ _ D3.out).mono ?_; rw [M2.out]; rintro e w4 ⟨rfl, rfl⟩)
            go_roundw
            case rel => exact ⟨c + 1, i + 1, _, by go_num, by go_num, by omega, by omega, N1.out, A3.out⟩
            case measure => simp [intOf]; omega
        · by_cases h1 : o.kind < 1
          · clear hk
            go_wp2_with fail
            go_roundw
            case rel => exact ⟨c, i + 1, _, rfl, by go_num, by omega, by omega, HS.out, HA1.out⟩
            case measure => simp [intOf]; omega
          · have d1 : decide (o.kind < 1) = false := by simp; omega
            have d2 : 5 < o.kind := by omega
            clear hk h1
            go_wp2_with fail
            go_roundw
            case rel => exact ⟨c, i + 1, _, rfl, by go_num, by omega, by omega, HS.out, HA1.out⟩
            case measure => simp [intOf]; omega
    · go_wp2_with fail
      refine (HA.out.do Z fun R dd => crash_any d R _ 0 _ dd).mono ?_
      rintro e w5 ⟨rfl, ha5⟩
      obtain ⟨R5, d5, r5, b5⟩ := ha5
      have D5 := hid d5
      have A5 : Hid (At w.heap.size w w5 d (crashS S 0)) := hid ⟨R5, d5, r5, b5⟩
      clear d5 r5 b5
      go_wp2_with fail
      refine (off_any d R5 _ _ D5.out).mono ?_
      rw [show (crashS S 0).off = false from rfl]
      rintro e w6 ⟨rfl, rfl⟩
      go_wp2_with fail
      refine (A5.out.do Z fun R dd => sync_any d R _ _ dd).mono ?_
      rw [show writeE (crashS S 0) 0 = 0 from rfl]
      rintro e w7 ⟨rfl, ha7⟩
      have B7 := hid ha7.below
      clear ha7
      go_wp2_with (go_at_call 15; refine (lives_any _).mono ?_; rintro e w8 ⟨rfl, hb8⟩; have HB := hid hb8; clear hb8)
      go_ret
      exact ⟨rfl, B7.out.trans (HB.out.mono B7.out.size)⟩
end Go.Proofs.Ytengonfilmhaoaa
