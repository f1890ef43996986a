/- JournalDown answers true for any rows, number and Op; nothing that was there has turned. -/
import Derived.Test.YtpchmdfkifbciabJnSmalls
import Derived.Test.YtpchmdfkifbciabJnLives
namespace Go.Proofs.Ytpchmdfkifbciab
open Go.RowKit

/-- The device's power is on; it has what the journal tells. -/
structure On (n : Nat) (L : Int) (S : DS) (J : JS) : Prop where
  room : S.room = n
  off : S.off = false
  left : S.left = L
  image : S.image = frameB J.image
  stage : S.stage = []
  log : S.log = framesB J.recs
  up : J.down = false
theorem on_add {n : Nat} {L : Int} {S : DS} {J : JS} (h : On n L S J) (r : List UInt8) (hr : r.length ≤ 1048576) (hf : roomJ n J r) (hL : 0 < L) :
    addE S J r = 0 ∧ addJ S J r = { J with recs := J.recs ++ [r] } ∧ On n (L - 1) (addS S J r) { J with recs := J.recs ++ [r] } := by
  have hfl := frameB_len r
  have h1 : fitsA S (frameB r).length := by
    unfold fitsA
    rw [h.log, h.image, h.stage, h.room, hfl, frameB_len, sec_nil]
    unfold roomJ sizeJ at hf
    rw [← Nat.add_assoc]; omega
  have e1 : layE S (frameB r) = 0 := by unfold layE; rw [if_pos h1]
  have e2 : layS S (frameB r) = { S with log := S.log ++ frameB r } := by unfold layS; rw [if_pos h1]
  have hl0 : ¬ S.left = 0 := by rw [h.left]; omega
  have e3 : writeE S (layE S (frameB r)) = 0 := by rw [e1]; unfold writeE; rw [h.off, if_neg hl0]; rfl
  have e4 : writeS S (layS S (frameB r)) (layS S (frameB r)) = { S with log := S.log ++ frameB r, left := L - 1 } := by
    rw [e2]; unfold writeS; rw [h.off, if_neg hl0]; simp only [Bool.false_eq_true, if_false, h.left]
    congr 1; omega
  unfold addE addJ addS
  simp only [e3, e4, h.up, Bool.false_eq_true, if_false, if_true, if_neg (show ¬ 1048576 < r.length by omega)]
  refine ⟨trivial, trivial, h.room, h.off, rfl, h.image, h.stage, ?_, by first | exact h.up | rfl⟩
  simp only; rw [framesB_snoc, h.log]
theorem on_torn {n : Nat} {S : DS} {J : JS} (h : On n 0 S J) (r : List UInt8) (hr : r.length ≤ 1048576) : addE S J r = 6 ∧ addJ S J r = { J with down := true } := by
  have e3 : ∀ x, writeE S x = 6 := by intro x; unfold writeE; rw [h.off, if_pos h.left]; rfl
  unfold addE addJ
  simp only [e3, h.up, Bool.false_eq_true, if_false, if_neg (show ¬ 1048576 < r.length by omega)]
  exact ⟨trivial, by simp [dn]⟩
theorem down_all {S : DS} {J : JS} (h : J.down = true) (r : List UInt8) : addE S J r = 7 ∧ addJ S J r = J ∧ addS S J r = S ∧ saveR S J r = (7, S, J) ∧ syncE S J = 7 ∧ syncD S J = S ∧ syncJ S J = J := by
  unfold addE addJ addS saveR syncE syncD syncJ
  simp [h]
theorem calm_stop {n : Nat} {S : DS} {J : JS} (h : Calm n S J) (k : Nat) : On n k (stopS S k) J := ⟨h.room, h.off, by show max _ _ = _; omega, h.image, h.stage, h.log, h.up⟩
set_option maxRecDepth 100000 in
set_option maxHeartbeats 3200000 in
theorem down_law (lv : Value) (ls : List (List UInt8)) (x : Nat) (y0 y1 : Int) (ov : Value) (ob : List UInt8) (w : World) (hl : Btss w lv ls) (hx : x ≤ 18446744073709551615) (ho : Bts w ov ob) :
    Calls Try.prog 3 #[lv, .int .u64 (x : Int), .agg #[.int .i64 y0, .int .i64 y1, ov]] w fun e w' => e = .returned (.bool true) ∧ Below w.heap.size w w' := by
  have kc := fun (w : World) (C : Array Value) (n c : Nat) => Lib.run_convert_bytes_const (P := Try.prog) w 24 5 C n c Try.underlyingB Try.underlyingU
  have HO := hid ho
  obtain ⟨oa, oc, rfl⟩ := ho.shape
  obtain ⟨w0, hw0⟩ : ∃ w0, w0 = w.alloc (.cells #[.int .i64 y0, .int .i64 y1, .slice oa ob.length oc] 26) := ⟨_, rfl⟩
  have hb0 : Below w.heap.size w w0 := by rw [hw0]; exact (Below.refl _ _).alloc (Nat.le_refl _) _
  have HOB : Hid (w0.cell? ⟨w.heap.size, 2, none⟩ = some (.slice oa ob.length oc)) := hid (by rw [hw0, cell_of_row _ _ _ _ _ _ (heap_alloc_new _ _)]; rfl)
  have HO0 := hid (HO.out.below hb0)
  have HB0 := hid hb0
  have HLS := hid (hl.below hb0)
  obtain ⟨ao, n, cap, rfl, rfl, hc, hcap, hnone, -⟩ := hl
  clear ho hb0 HO
  by_cases h30 : (30 : Int) < (ls.length : Int)
  · go_enter Try.func3, Try.ntmps3
    go_wp2_with fail
    rw [← hw0]
    refine (jlives_any _).mono ?_
    rintro e w1 ⟨rfl, hb1⟩
    have HB1 := hid (HB0.out.trans (hb1.mono HB0.out.size))
    clear hb1 hw0
    go_wp2
    go_ret
    exact ⟨rfl, HB1.out⟩
  · obtain ⟨k, hk⟩ : ∃ k : Nat, k = x % 30 := ⟨_, rfl⟩
    have ek : (x : Int) % 30 = (k : Int) := by omega
    have hk30 : (k : Int) < 30 := by omega
    obtain ⟨f1, f2, f3⟩ := calm_format 400 [105] (by simp) (by simp [sec])
    have F1 := hid f1
    have F2 := hid f2
    have F3 := hid f3
    clear f1 f2 f3 hk
    go_enter Try.func3, Try.ntmps3
    go_wp2_with fail
    rw [← hw0]
    clear hw0
    refine (new_ok 400 _ (by omega) (by omega)).mono ?_
    rintro e w2 ⟨db, RD, rfl, hd2, hr2, hb2⟩
    have HA2 := hid (At.new hd2 hr2 hb2)
    clear hd2 hr2 hb2
    go_wp2_with fail
    refine (At.format_new HA2.out (Nat.le_refl _) ((Below.refl _ _).alloc (Nat.le_refl _) _) _ [105] (bts_block [105] (heap_alloc_new w2 _) rfl 1 rfl (by omega)) (fun k hk => new_block hk) F1.out).mono ?_
    rw [F2.out]
    rintro e w3 ⟨jb, rfl, ha3⟩
    obtain ⟨S3, hS3⟩ : ∃ S3, S3 = (saveR (newS 400) J0 [105]).2.1 := ⟨_, rfl⟩
    rw [← hS3] at ha3 F3
    clear hS3 F1 F2 HA2
    have HA3 := hid ha3
    clear ha3
    go_wp2_with fail
    refine (HA3.out.stop (Nat.le_refl _) (k : Int) (by omega)).mono ?_
    rintro e w4 ⟨rfl, ha4⟩
    have HA4 := hid ha4
    have HON := hid (calm_stop F3.out k)
    clear ha4 HA3 F3
    go_wp2_with fail
    go_loopw [11, 12, 13, 41] (fun _ _ _ iv wr => ∃ (i : Nat) (S : DS) (J : JS), iv = .int .i64 i ∧ i ≤ ls.length ∧ J.image = [105] ∧ J.recs = smalls (ls.take (min i k)) ∧ J.down = decide (k < i) ∧ (i ≤ k → On 400 ((k : Int) - i) S J) ∧ JAt w0.heap.size w0 wr jb db S J) (fun _ _ _ iv _ => ls.length - (intOf iv).toNat)
    case atStart => exact ⟨0, _, _, rfl, Nat.zero_le _, rfl, by simp [smalls], by simp, (fun _ => by simpa using HON.out), HA4.out⟩
    case round =>
      obtain ⟨i, S, J, rfl, hi, hji, hjr, hjd, hon, hjat⟩ := hrel
      have HA := hid hjat
      have HJI := hid hji
      have HJR := hid hjr
      have HJD := hid hjd
      have HN := hid hon
      have hiI : (i : Int) ≤ 30 := by omega
      have hsz : sizeJ J ≤ 30 * 3008 := by
        unfold sizeJ
        rw [hjr]
        have := framesB_len_all _ 3000 (smalls_le (ls.take (min i k)))
        simp [smalls] at this ⊢
        have h2 : min (min i k) ls.length ≤ 30 := by omega
        have h3 := Nat.mul_le_mul_right 3008 h2
        omega
      have HSZ := hid hsz
      clear hjat hji hjr hjd hon HA4 HON hsz
      by_cases hlt : (i : Int) < (ls.length : Int)
      · have hao : ∃ ad, ao = some ad := by cases ao with | none => exact absurd (hnone rfl) (by omega) | some ad => exact ⟨ad, rfl⟩
        obtain ⟨ad, rfl⟩ := hao
        obtain ⟨_, _, _, e0, -, -, -, -, hcell⟩ := HLS.out
        cases e0
        obtain ⟨u, ku, hu⟩ := hcell ad rfl i (by omega)
        obtain ⟨xa, xc, rfl⟩ := hu.shape
        have ku' := cell_later HA.out.below ku
        have HU := hid (hu.below HA.out.below)
        have HUO := hid (old_of hu)
        have HST := hid (smalls_take ls i (by omega))
        clear hcell hu ku
        obtain ⟨y, hy⟩ : ∃ y, y = ls[i] := ⟨_, rfl⟩
        rw [← hy] at ku' HU HUO HST
        clear hy
        obtain ⟨r, hr⟩ : ∃ r, r = y.take 3000 := ⟨_, rfl⟩
        have hr3 : r.length ≤ 3000 := by rw [hr]; simp; omega
        rw [← hr] at HST
        have HR := hid hr
        clear hr
        rcases Nat.lt_trichotomy i k with hik | hik | hik
        · have hikI : (i : Int) < (k : Int) := by omega
          have hroom : roomJ 400 J r := by
            unfold roomJ sec
            have := HSZ.out
            rw [HJI.out]
            simp only [List.length_cons, List.length_nil]
            omega
          obtain ⟨c1, c2, c3⟩ := on_add (HN.out (by omega)) r (by omega) hroom (by omega)
          have C1 := hid c1
          have C2 := hid c2
          have C3 := hid c3
          have hd0 : J.down = false := by rw [HJD.out]; simp; omega
          have HD0 := hid hd0
          have hrl : (J.recs ++ [r]).length = i + 1 := by rw [HJR.out]; simp [smalls]; omega
          have HRL := hid hrl
          have hge : decide ((k : Int) ≤ (i : Int)) = false := by simp; omega
          have hne : ((i : Int) == (k : Int)) = false := by simp; omega
          have hgt : decide ((k : Int) < (i : Int)) = false := by simp; omega
          have hmin : ¬ ((k : Int) < (i : Int) + 1) := by omega
          clear c1 c2 c3 hroom hd0 hrl
          go_wp2_with fail
          refine (small_any _ y _ HU.out).mono ?_
          rintro e w5 ⟨sa, sn, sc, rfl, hs1, hs2, rfl⟩
          have HSO := hid (ownB_small hs2 HUO.out)
          have HSB := hid hs1
          rw [← HR.out] at HSO HSB
          clear hs1 hs2
          go_wp2_with fail
          refine (HA.out.add (Nat.le_refl _) _ r HSB.out HSO.out (by have := HSZ.out; omega)).mono ?_
          rw [C1.out, C2.out]
          rintro e w6 ⟨rfl, ha6⟩
          have HA6 := hid ha6
          obtain ⟨R6, hj6⟩ := ha6.jn
          have HJ6 := hid hj6
          clear ha6 hj6
          go_wp2_with (first | (go_at_call 11; refine (down_any jb db R6 _ _ HJ6.out).mono ?_; simp only [HD0.out]; rintro e w7 ⟨rfl, rfl⟩) | (go_at_call 12; refine (count_any jb db R6 _ _ HJ6.out).mono ?_; simp only [HRL.out]; rintro e w7 ⟨rfl, rfl⟩))
          go_roundw
          case rel =>
            refine ⟨i + 1, addS S J r, { J with recs := J.recs ++ [r] }, by go_num, by omega, HJI.out, ?_, ?_, (fun _ => ?_), HA6.out⟩
            · rw [show min (i + 1) k = i + 1 by omega, HST.out, ← show min i k = i by omega, ← HJR.out]
            · simp only [HD0.out]; simp; omega
            · have := C3.out
              rwa [show (k : Int) - (i : Int) - 1 = (k : Int) - ((i + 1 : Nat) : Int) by omega] at this
          case measure => simp [intOf]; omega
        · subst hik
          have hon := HN.out (Nat.le_refl _)
          rw [show (i : Int) - (i : Int) = 0 by omega] at hon
          obtain ⟨c1, c2⟩ := on_torn hon r (by omega)
          have C1 := hid c1
          have C2 := hid c2
          have hrl : J.recs.length = i := by rw [HJR.out]; simp [smalls]; omega
          have HRL := hid hrl
          clear c1 c2 hrl hon
          go_wp2_with fail
          refine (small_any _ y _ HU.out).mono ?_
          rintro e w5 ⟨sa, sn, sc, rfl, hs1, hs2, rfl⟩
          have HSO := hid (ownB_small hs2 HUO.out)
          have HSB := hid hs1
          rw [← HR.out] at HSO HSB
          clear hs1 hs2
          go_wp2_with fail
          refine (HA.out.add (Nat.le_refl _) _ r HSB.out HSO.out (by have := HSZ.out; omega)).mono ?_
          rw [C1.out, C2.out]
          rintro e w6 ⟨rfl, ha6⟩
          have HA6 := hid ha6
          obtain ⟨R6, hj6⟩ := ha6.jn
          have HJ6 := hid hj6
          clear ha6 hj6
          go_wp2_with (first | (go_at_call 11; refine (down_any jb db R6 _ _ HJ6.out).mono ?_; simp only []; rintro e w7 ⟨rfl, rfl⟩) | (go_at_call 12; refine (count_any jb db R6 _ _ HJ6.out).mono ?_; simp only [HRL.out]; rintro e w7 ⟨rfl, rfl⟩))
          go_roundw
          case rel =>
            refine ⟨i + 1, addS S J r, { J with down := true }, by go_num, by omega, HJI.out, ?_, ?_, (fun h => absurd h (by omega)), HA6.out⟩
            · rw [show min (i + 1) i = min i i by omega]; exact HJR.out
            · simp
          case measure => simp [intOf]; omega
        · have hjd1 : J.down = true := by rw [HJD.out]; simp; omega
          obtain ⟨c1, c2, c3, -⟩ := down_all (S := S) hjd1 r
          have C1 := hid c1
          have C2 := hid c2
          have C3 := hid c3
          have HD1 := hid hjd1
          have hrl : J.recs.length = k := by rw [HJR.out]; simp [smalls]; omega
          have HRL := hid hrl
          have HIK := hid hik
          clear c1 c2 c3 hrl hjd1
          have hge : (k : Int) ≤ (i : Int) := by omega
          have hlt' : decide ((i : Int) < (k : Int)) = false := by simp; omega
          have hne : ((i : Int) == (k : Int)) = false := by simp; omega
          have hgt : (k : Int) < (i : Int) := by omega
          have hmin : (k : Int) < (i : Int) + 1 := by omega
          clear hik
          go_wp2_with fail
          refine (small_any _ y _ HU.out).mono ?_
          rintro e w5 ⟨sa, sn, sc, rfl, hs1, hs2, rfl⟩
          have HSO := hid (ownB_small hs2 HUO.out)
          have HSB := hid hs1
          rw [← HR.out] at HSO HSB
          clear hs1 hs2
          go_wp2_with fail
          refine (HA.out.add (Nat.le_refl _) _ r HSB.out HSO.out (by have := HSZ.out; omega)).mono ?_
          rw [C1.out, C2.out, C3.out]
          rintro e w6 ⟨rfl, ha6⟩
          have HA6 := hid ha6
          obtain ⟨R6, hj6⟩ := ha6.jn
          have HJ6 := hid hj6
          clear ha6 hj6
          go_wp2_with (first | (go_at_call 11; refine (down_any jb db R6 _ _ HJ6.out).mono ?_; simp only [HD1.out]; rintro e w7 ⟨rfl, rfl⟩) | (go_at_call 12; refine (count_any jb db R6 _ _ HJ6.out).mono ?_; simp only [HRL.out]; rintro e w7 ⟨rfl, rfl⟩))
          go_roundw
          case rel =>
            refine ⟨i + 1, S, J, by go_num, by omega, HJI.out, ?_, ?_, (fun h => absurd h (by have := HIK.out; omega)), HA6.out⟩
            · have := HIK.out
              rw [show min (i + 1) k = min i k by omega]; exact HJR.out
            · have := HIK.out
              rw [HD1.out]; simp; omega
          case measure => simp [intOf]; omega
      · obtain rfl : i = ls.length := by omega
        by_cases hlk : (ls.length : Int) ≤ (k : Int)
        · have HB4 := hid HA.out.below
          go_wp2_with fail
          refine (jlives_any _).mono ?_
          rintro e w12 ⟨rfl, hb12⟩
          have HB12 := hid ((HB0.out.trans (HB4.out.mono HB0.out.size)).trans (hb12.mono (Nat.le_trans HB0.out.size HB4.out.size)))
          clear hb12
          go_wp2
          go_ret
          exact ⟨rfl, HB12.out⟩
        · have hjd1 : J.down = true := by rw [HJD.out]; simp; omega
          obtain ⟨c1, c2, c3, c4, c5, c6, c7⟩ := down_all (S := S) hjd1 ob
          have C1 := hid c1
          have C2 := hid c2
          have C3 := hid c3
          have C4 := hid c4
          have C5 := hid c5
          have C6 := hid c6
          have C7 := hid c7
          have hrl : J.recs.length = k := by rw [HJR.out]; simp [smalls]; omega
          have HRL := hid hrl
          clear c1 c2 c3 c4 c5 c6 c7 hrl hjd1
          go_wp2_with fail
          refine (HA.out.sync (Nat.le_refl _)).mono ?_
          rw [C5.out, C6.out, C7.out]
          rintro e w5 ⟨rfl, ha5⟩
          have HA5 := hid ha5
          have k5 := cell_later ha5.below HOB.out
          have HO5 := hid (HO0.out.below ha5.below)
          have HOO := hid (old_of HO0.out)
          clear ha5 HA
          go_wp2_with fail
          refine (HA5.out.save (Nat.le_refl _) _ ob HO5.out HOO.out).mono ?_
          rw [C4.out]
          rintro e w6 ⟨rfl, ha6⟩
          have HA6 := hid ha6
          have k6 := cell_later ha6.below HOB.out
          have HO6 := hid (HO0.out.below ha6.below)
          clear ha6 HA5 k5 HO5
          go_wp2_with fail
          refine (HA6.out.add (Nat.le_refl _) _ ob HO6.out HOO.out (by have := HSZ.out; omega)).mono ?_
          rw [C1.out, C2.out, C3.out]
          rintro e w7 ⟨rfl, ha7⟩
          have HB7 := hid ha7.below
          obtain ⟨R7, hj7⟩ := ha7.jn
          have HJ7 := hid hj7
          clear ha7 hj7 HA6 k6 HO6
          go_wp2_with (go_at_call 12; refine (count_any jb db R7 _ _ HJ7.out).mono ?_; simp only [HRL.out]; rintro e w8 ⟨rfl, rfl⟩)
          refine (jimage_any jb db R7 _ _ HJ7.out (by rw [HJI.out]; simp)).mono ?_
          rw [HJI.out]
          rintro e w9 ⟨va9, vc9, rfl, ho9, hb9⟩
          have hcs : (convert 24 9 (.slice va9 1 vc9)).run Try.prog w9 = .ok (.string ⟨#[105]⟩) w9 := conv_string _ _ _ ho9.bts
          have HB9 := hid (HB7.out.trans (hb9.mono HB7.out.size))
          clear ho9 hb9
          go_wp2_with (go_at_call 5; refine (jlives_any _).mono ?_; rintro e w12 ⟨rfl, hb12⟩; have HB12 := hid ((HB0.out.trans (HB9.out.mono HB0.out.size)).trans (hb12.mono (Nat.le_trans HB0.out.size HB9.out.size))); clear hb12)
          go_ret
          exact ⟨rfl, HB12.out⟩
end Go.Proofs.Ytpchmdfkifbciab
