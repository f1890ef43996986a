/- What the document's device does in its writing calls. Conditions: it lies in memory; at most a hundred thousand million bytes are laid. -/
import Derived.Test.YtpchmdfkifbciaaJkRef
namespace Go.Proofs.Ytpchmdfkifbciaa
open Go.RowKit

theorem Ok.goes {S : DS} (h : Ok S) : Ok { S with off := true, left := -1 } := ⟨h.room, h.fits, h.sure, by simp, by simp⟩
def C1 (S : DS) : DS := { S with off := true, left := -1 }
def C0 (S : DS) : DS := { S with left := max (S.left - 1) (-1) }
set_option maxHeartbeats 400000 in
theorem count_off (b : Nat) (R : Nat → Prop) (S : DS) (w : World) (hd : Rk w b R S) (ho : S.off = true) :
    Calls Try.prog 69 #[.pointer (some ⟨b, 0, none⟩)] w fun e w' => e = .returned (.int .i64 2) ∧ w' = w := by
  obtain ⟨iv, sv, lv, hd⟩ := hd
  obtain ⟨c0, c1, c2, c3, c4, c5, c6, c7, cf⟩ := cell_eight hd.head
  rw [ho] at c7
  clear hd
  go_enter Try.func69, Try.ntmps69
  go_wp2
  go_ret
  exact ⟨rfl, rfl⟩
set_option maxHeartbeats 400000 in
theorem count_goes (b : Nat) (R : Nat → Prop) (S : DS) (w : World) (hd : Rk w b R S) (ho : S.off = false) (hl : S.left = 0) :
    Calls Try.prog 69 #[.pointer (some ⟨b, 0, none⟩)] w fun e w' => e = .returned (.int .i64 1) ∧ RStep w b R w' (C1 S) := by
  obtain ⟨iv, sv, lv, hd⟩ := hd
  obtain ⟨c0, c1, c2, c3, c4, c5, c6, c7, cf⟩ := cell_eight hd.head
  rw [ho] at c7
  rw [hl] at c6
  have HD := hid hd
  clear hd
  go_enter Try.func69, Try.ntmps69
  go_wp2
  go_ret
  refine ⟨rfl, HD.out.make (Below.refl _ _) (((But.refl (fun k => k = b) _).set (.inl rfl)).set (.inl rfl)) HD.out.ok.goes (heap_setCell_same _ b 6 _ _ _ (heap_setCell_same w b 7 _ _ _ HD.out.head)) HD.out.oi HD.out.os HD.out.ol (old_in HD.out.ii) (old_in HD.out.is) (old_in HD.out.il)⟩
set_option maxHeartbeats 800000 in
theorem count_on (b : Nat) (R : Nat → Prop) (S : DS) (w : World) (hd : Rk w b R S) (ho : S.off = false) (hl : S.left ≠ 0) :
    Calls Try.prog 69 #[.pointer (some ⟨b, 0, none⟩)] w fun e w' => e = .returned (.int .i64 0) ∧ RStep w b R w' (C0 S) := by
  have HD0 := hid hd
  obtain ⟨iv, sv, lv, hd⟩ := hd
  obtain ⟨c0, c1, c2, c3, c4, c5, c6, c7, cf⟩ := cell_eight hd.head
  rw [ho] at c7
  have hl0 : (S.left == 0) = false := by simpa using hl
  have g1 := hd.ok.left
  have g2 := hd.ok.left2
  have HD := hid hd
  clear hd hl
  by_cases hp : 0 < S.left
  · have e1 : wrap64 (S.left - 1) = S.left - 1 := by rw [← IntWalk.i64_left]; exact IntWalk.i64_in _ ⟨by omega, by omega⟩
    go_enter Try.func69, Try.ntmps69
    go_wp2
    go_ret
    have hm : max (S.left - 1) (-1) = S.left - 1 := by omega
    refine ⟨rfl, HD.out.make (Below.refl _ _) ((But.refl (fun k => k = b) _).set (.inl rfl)) HD.out.ok.count ?_ HD.out.oi HD.out.os HD.out.ol (old_in HD.out.ii) (old_in HD.out.is) (old_in HD.out.il)⟩
    simp only [C0, hm]
    exact heap_setCell_same w b 6 _ _ _ HD.out.head
  · go_enter Try.func69, Try.ntmps69
    go_wp2
    go_ret
    have hm : C0 S = S := by
      unfold C0
      have : max (S.left - 1) (-1) = S.left := by simp at hl0; omega
      rw [this]
    rw [hm]
    exact ⟨rfl, RStep.of_below HD0.out (Below.refl _ _)⟩
theorem weE_off {S : DS} {er : Int} (h : S.off = true) : writeE S er = 6 := by unfold writeE; simp [h]
theorem weS_off {S S1 S0 : DS} (h : S.off = true) : writeS S S1 S0 = S := by unfold writeS; simp [h]
theorem weE_goes {S : DS} {er : Int} (h : S.off = false) (hl : S.left = 0) : writeE S er = 6 := by unfold writeE; simp [h, hl]
theorem weS_goes {S S1 S0 : DS} (h : S.off = false) (hl : S.left = 0) : writeS S S1 S0 = { S0 with off := true, left := max (S0.left - 1) (-1) } := by unfold writeS; simp [h, hl]
theorem weE_on {S : DS} {er : Int} (h : S.off = false) (hl : S.left ≠ 0) : writeE S er = er := by unfold writeE; simp [h, hl]
theorem weS_on {S S1 S0 : DS} (h : S.off = false) (hl : S.left ≠ 0) : writeS S S1 S0 = { S1 with left := max (S1.left - 1) (-1) } := by unfold writeS; simp [h, hl]
set_option maxHeartbeats 1600000 in
theorem rsync_any (b : Nat) (R : Nat → Prop) (S : DS) (w : World) (hd : Rk w b R S) :
    Calls Try.prog 48 #[.pointer (some ⟨b, 0, none⟩)] w fun e w' => e = .returned (.int .i64 (writeE S (0))) ∧ RStep w b R w' (writeS S (syncS S) S) := by
  have HD := hid hd
  clear hd
  cases ho : S.off with
  | true =>
    rw [weE_off ho, weS_off ho]
    have HO := hid ho
    clear ho
    go_enter Try.func48, Try.ntmps48
    go_wp2_with (go_at_call 69; refine (count_off b R S _ HD.out HO.out).mono ?_; rintro e w1 ⟨rfl, rfl⟩)
    go_ret
    exact ⟨rfl, RStep.of_below HD.out (Below.refl _ _)⟩
  | false =>
    by_cases hl : S.left = 0
    · rw [weE_goes ho hl, weS_goes ho hl]
      have HO := hid ho
      have HL := hid hl
      clear ho hl
      go_enter Try.func48, Try.ntmps48
      go_wp2_with (go_at_call 69; refine (count_goes b R S _ HD.out HO.out HL.out).mono ?_; rintro e w1 ⟨rfl, hs1⟩; have HS := hid hs1; clear hs1)
      go_ret
      rw [show max (S.left - 1) (-1) = -1 from by rw [HL.out]; rfl]
      exact ⟨rfl, HS.out⟩
    · rw [weE_on ho hl, weS_on ho hl]
      have HO := hid ho
      have HL := hid hl
      clear ho hl
      go_enter Try.func48, Try.ntmps48
      go_wp2_with fail
      refine (count_on b R S _ HD.out HO.out HL.out).mono ?_
      rintro e w1 ⟨rfl, hs1⟩
      obtain ⟨R1, ⟨iv, sv, lv, d1⟩, t1, r1⟩ := hs1
      obtain ⟨va, vc, rfl⟩ := d1.ol.shape
      obtain ⟨vi, vj, rfl⟩ := d1.oi.shape
      obtain ⟨vs, vt, rfl⟩ := d1.os.shape
      obtain ⟨c0, c1, c2, c3, c4, c5, c6, c7, cf⟩ := cell_eight d1.head
      have D1 := hid d1
      have T1 := hid t1
      have U1 := hid r1
      have h1 := d1.ok.log
      have h2 := d1.ok.image
      have h3 := d1.ok.stage
      have h4 := d1.ok.room
      simp only [C0] at c0 c1 c2 c3 c4 c5 c6 c7 h1 h2 h3 h4
      clear d1 t1 r1
      go_wp2
      go_ret
      exact ⟨rfl, rstep_trans T1.out U1.out (D1.out.make (Below.refl _ _) ((But.refl (fun k => k = b) _).set (.inl rfl)) D1.out.ok.sync (heap_setCell_same w1 b 5 _ _ _ D1.out.head) D1.out.oi D1.out.os D1.out.ol (old_in D1.out.ii) (old_in D1.out.is) (old_in D1.out.il))⟩
set_option maxHeartbeats 1600000 in
theorem rcommit_any (b : Nat) (R : Nat → Prop) (S : DS) (w : World) (hd : Rk w b R S) :
    Calls Try.prog 42 #[.pointer (some ⟨b, 0, none⟩)] w fun e w' => e = .returned (.int .i64 (writeE S (commitE S))) ∧ RStep w b R w' (writeS S (commitS S) S) := by
  have HD := hid hd
  clear hd
  cases ho : S.off with
  | true =>
    rw [weE_off ho, weS_off ho]
    have HO := hid ho
    clear ho
    go_enter Try.func42, Try.ntmps42
    go_wp2_with (go_at_call 69; refine (count_off b R S _ HD.out HO.out).mono ?_; rintro e w1 ⟨rfl, rfl⟩)
    go_ret
    exact ⟨rfl, RStep.of_below HD.out (Below.refl _ _)⟩
  | false =>
    by_cases hl : S.left = 0
    · rw [weE_goes ho hl, weS_goes ho hl]
      have HO := hid ho
      have HL := hid hl
      clear ho hl
      go_enter Try.func42, Try.ntmps42
      go_wp2_with (go_at_call 69; refine (count_goes b R S _ HD.out HO.out HL.out).mono ?_; rintro e w1 ⟨rfl, hs1⟩; have HS := hid hs1; clear hs1)
      go_ret
      rw [show max (S.left - 1) (-1) = -1 from by rw [HL.out]; rfl]
      exact ⟨rfl, HS.out⟩
    · rw [weE_on ho hl, weS_on ho hl]
      have HO := hid ho
      have HL := hid hl
      clear ho hl
      unfold commitE commitS
      cases hs : S.staged with
      | false =>
        simp only [Bool.false_eq_true, if_false]
        go_enter Try.func42, Try.ntmps42
        go_wp2_with fail
        refine (count_on b R S _ HD.out HO.out HL.out).mono ?_
        rintro e w1 ⟨rfl, hs1⟩
        obtain ⟨R1, ⟨iv, sv, lv, d1⟩, t1, r1⟩ := hs1
        obtain ⟨va, vc, rfl⟩ := d1.ol.shape
        obtain ⟨vi, vj, rfl⟩ := d1.oi.shape
        obtain ⟨vs, vt, rfl⟩ := d1.os.shape
        obtain ⟨c0, c1, c2, c3, c4, c5, c6, c7, cf⟩ := cell_eight d1.head
        have D1 := hid d1
        have T1 := hid t1
        have U1 := hid r1
        have h1 := d1.ok.log
        have h2 := d1.ok.image
        have h3 := d1.ok.stage
        have h4 := d1.ok.room
        simp only [C0] at c0 c1 c2 c3 c4 c5 c6 c7 h1 h2 h3 h4
        clear d1 t1 r1
        rw [hs] at c3
        go_wp2
        go_ret
        exact ⟨rfl, ⟨R1, D1.out.rk, T1.out, U1.out⟩⟩
      | true =>
        simp only [if_true]
        go_enter Try.func42, Try.ntmps42
        go_wp2_with fail
        refine (count_on b R S _ HD.out HO.out HL.out).mono ?_
        rintro e w1 ⟨rfl, hs1⟩
        obtain ⟨R1, ⟨iv, sv, lv, d1⟩, t1, r1⟩ := hs1
        obtain ⟨va, vc, rfl⟩ := d1.ol.shape
        obtain ⟨vi, vj, rfl⟩ := d1.oi.shape
        obtain ⟨vs, vt, rfl⟩ := d1.os.shape
        obtain ⟨c0, c1, c2, c3, c4, c5, c6, c7, cf⟩ := cell_eight d1.head
        have D1 := hid d1
        have T1 := hid t1
        have U1 := hid r1
        have h1 := d1.ok.log
        have h2 := d1.ok.image
        have h3 := d1.ok.stage
        have h4 := d1.ok.room
        simp only [C0] at c0 c1 c2 c3 c4 c5 c6 c7 h1 h2 h3 h4
        clear d1 t1 r1
        rw [hs] at c3
        go_wp2
        go_ret
        refine ⟨rfl, rstep_trans T1.out U1.out (D1.out.make (Below.refl _ _) ((((((But.refl (fun k => k = b) _).set (.inl rfl)).set (.inl rfl)).set (.inl rfl)).set (.inl rfl)).set (.inl rfl)) D1.out.ok.commit ?_ D1.out.os (Own.nil _ _) (Own.nil _ _) (old_in D1.out.is) nil_in nil_in)⟩
        exact heap_setCell_same _ b 5 _ _ _ (heap_setCell_same _ b 4 _ _ _ (heap_setCell_same _ b 3 _ _ _ (heap_setCell_same _ b 2 _ _ _ (heap_setCell_same w1 b 1 _ _ _ D1.out.head))))
set_option maxHeartbeats 1600000 in
theorem rcut_any (b : Nat) (R : Nat → Prop) (S : DS) (n : Int) (w : World) (hd : Rk w b R S) :
    Calls Try.prog 52 #[.pointer (some ⟨b, 0, none⟩), .int .i64 n] w fun e w' => e = .returned (.int .i64 (writeE S (cutE S n))) ∧ RStep w b R w' (writeS S (cutS S n) S) := by
  have HD := hid hd
  clear hd
  cases ho : S.off with
  | true =>
    rw [weE_off ho, weS_off ho]
    have HO := hid ho
    clear ho
    go_enter Try.func52, Try.ntmps52
    go_wp2_with (go_at_call 69; refine (count_off b R S _ HD.out HO.out).mono ?_; rintro e w1 ⟨rfl, rfl⟩)
    go_ret
    exact ⟨rfl, RStep.of_below HD.out (Below.refl _ _)⟩
  | false =>
    by_cases hl : S.left = 0
    · rw [weE_goes ho hl, weS_goes ho hl]
      have HO := hid ho
      have HL := hid hl
      clear ho hl
      go_enter Try.func52, Try.ntmps52
      go_wp2_with (go_at_call 69; refine (count_goes b R S _ HD.out HO.out HL.out).mono ?_; rintro e w1 ⟨rfl, hs1⟩; have HS := hid hs1; clear hs1)
      go_ret
      rw [show max (S.left - 1) (-1) = -1 from by rw [HL.out]; rfl]
      exact ⟨rfl, HS.out⟩
    · rw [weE_on ho hl, weS_on ho hl]
      have HO := hid ho
      have HL := hid hl
      clear ho hl
      by_cases hn : n < 0 ∨ (S.log.length : Int) < n
      · unfold cutE cutS
        rw [if_pos hn, if_pos hn]
        by_cases hn1 : n < 0
        · clear hn
          go_enter Try.func52, Try.ntmps52
          go_wp2_with fail
          refine (count_on b R S _ HD.out HO.out HL.out).mono ?_
          rintro e w1 ⟨rfl, hs1⟩
          obtain ⟨R1, ⟨iv, sv, lv, d1⟩, t1, r1⟩ := hs1
          obtain ⟨va, vc, rfl⟩ := d1.ol.shape
          obtain ⟨vi, vj, rfl⟩ := d1.oi.shape
          obtain ⟨vs, vt, rfl⟩ := d1.os.shape
          obtain ⟨c0, c1, c2, c3, c4, c5, c6, c7, cf⟩ := cell_eight d1.head
          have D1 := hid d1
          have T1 := hid t1
          have U1 := hid r1
          have h1 := d1.ok.log
          have h2 := d1.ok.image
          have h3 := d1.ok.stage
          have h4 := d1.ok.room
          simp only [C0] at c0 c1 c2 c3 c4 c5 c6 c7 h1 h2 h3 h4
          clear d1 t1 r1
          go_wp2
          go_ret
          exact ⟨rfl, ⟨R1, D1.out.rk, T1.out, U1.out⟩⟩
        · have hn2 : (S.log.length : Int) < n := by omega
          have q1 : decide (n < 0) = false := by simp; omega
          clear hn
          go_enter Try.func52, Try.ntmps52
          go_wp2_with fail
          refine (count_on b R S _ HD.out HO.out HL.out).mono ?_
          rintro e w1 ⟨rfl, hs1⟩
          obtain ⟨R1, ⟨iv, sv, lv, d1⟩, t1, r1⟩ := hs1
          obtain ⟨va, vc, rfl⟩ := d1.ol.shape
          obtain ⟨vi, vj, rfl⟩ := d1.oi.shape
          obtain ⟨vs, vt, rfl⟩ := d1.os.shape
          obtain ⟨c0, c1, c2, c3, c4, c5, c6, c7, cf⟩ := cell_eight d1.head
          have D1 := hid d1
          have T1 := hid t1
          have U1 := hid r1
          have h1 := d1.ok.log
          have h2 := d1.ok.image
          have h3 := d1.ok.stage
          have h4 := d1.ok.room
          simp only [C0] at c0 c1 c2 c3 c4 c5 c6 c7 h1 h2 h3 h4
          clear d1 t1 r1
          go_wp2
          go_ret
          exact ⟨rfl, ⟨R1, D1.out.rk, T1.out, U1.out⟩⟩
      · unfold cutE cutS
        rw [if_neg hn, if_neg hn]
        obtain ⟨k, rfl⟩ : ∃ k : Nat, n = k := ⟨n.toNat, by omega⟩
        have hk : k ≤ S.log.length := by omega
        rw [Int.toNat_natCast]
        have q1 : decide ((k : Int) < 0) = false := by simp
        have q2 : decide (S.log.length < k) = false := by simp; omega
        clear hn
        go_enter Try.func52, Try.ntmps52
        go_wp2_with fail
        refine (count_on b R S _ HD.out HO.out HL.out).mono ?_
        rintro e w1 ⟨rfl, hs1⟩
        obtain ⟨R1, ⟨iv, sv, lv, d1⟩, t1, r1⟩ := hs1
        obtain ⟨va, vc, rfl⟩ := d1.ol.shape
        obtain ⟨vi, vj, rfl⟩ := d1.oi.shape
        obtain ⟨vs, vt, rfl⟩ := d1.os.shape
        obtain ⟨c0, c1, c2, c3, c4, c5, c6, c7, cf⟩ := cell_eight d1.head
        have D1 := hid d1
        have T1 := hid t1
        have U1 := hid r1
        have h1 := d1.ok.log
        have h2 := d1.ok.image
        have h3 := d1.ok.stage
        have h4 := d1.ok.room
        simp only [C0] at c0 c1 c2 c3 c4 c5 c6 c7 h1 h2 h3 h4
        clear d1 t1 r1
        obtain ⟨-, g1, g2, g3⟩ := own_len D1.out.ol
        simp only [C0] at g1
        have p3 : ¬ ((vc : Int) < (k : Int)) := by omega
        have p4 : (k : Int) ≤ (vc : Int) := by omega
        have hsu := D1.out.ok.sure
        simp only [C0] at hsu
        clear g1 g2 g3
        go_wp2_with fail
        refine (join_any _ _ (S.log.take k) [] _ (by rw [show k = (S.log.take k).length from by simp; omega]; rw [show (S.log.take k).length = k from by simp; omega]; exact (D1.out.ol.take hk).bts) (Own.nil _ 0).bts (by simp; omega)).mono ?_
        rw [List.append_nil, List.length_nil, Nat.add_zero, show (S.log.take k).length = k from by simp; omega]
        rintro e w2 ⟨va2, vc2, rfl, ho2, hb2⟩
        have hH2 := (hb2.block b D1.out.lt).trans D1.out.head
        obtain ⟨k0, k1, k2, k3, k4, k5, k6, k7, kf⟩ := cell_eight hH2
        have H2 := hid hH2
        have B2 := hid hb2
        have O2 := hid ho2
        simp only [C0] at k0 k1 k2 k3 k4 k5 k6 k7
        clear hH2 hb2 ho2 c0 c1 c2 c3 c4 c5 c6 c7 cf
        go_wp2
        all_goals
          go_ret
          refine ⟨rfl, rstep_trans T1.out U1.out (D1.out.make B2.out (by first | exact ((But.refl (fun k => k = b) _).set (.inl rfl)).set (.inl rfl) | exact (But.refl (fun k => k = b) _).set (.inl rfl)) (D1.out.ok.short k hk) ?_ (D1.out.oi.below B2.out) (D1.out.os.below B2.out) (O2.out.lower (Nat.zero_le _)) (old_in D1.out.ii) (old_in D1.out.is) (new_in O2.out))⟩
          first
            | (have hm : min S.sure k = k := by omega
               simp only [C0, hm]; exact heap_setCell_same _ b 5 _ _ _ (heap_setCell_same w2 b 4 _ _ _ H2.out))
            | (have hm : min S.sure k = S.sure := by omega
               simp only [C0, hm]; exact heap_setCell_same w2 b 4 _ _ _ H2.out)
end Go.Proofs.Ytpchmdfkifbciaa
