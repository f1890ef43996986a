/- JournalFull answers true for any room, bytes and number; nothing that was there has turned. -/
import Derived.Test.YtpchmdfkifbciaaJnCalm
import Derived.Test.YtpchmdfkifbciaaJnLives
import Derived.Deep.DeepCutAuto
namespace Go.Proofs.Ytpchmdfkifbciaa
open Go.RowKit

theorem own_zeros {w : World} {base g m : Nat} (h : w.ownsRow base 5 1 (.slice (some ⟨g, 0, none⟩) m m) m (madeCells (Value.int .u8 0).cells (m * 1)).toList) : Own w base (.slice (some ⟨g, 0, none⟩) m m) (List.replicate m 0) := by
  show World.ownsRow _ _ _ _ _ (List.replicate m (0 : UInt8)).length ((List.replicate m (0 : UInt8)).map bv)
  rw [List.length_replicate, List.map_replicate]
  have e : (madeCells (Value.int .u8 0).cells (m * 1)).toList = List.replicate m (bv 0) := by
    rw [Nat.mul_one]; exact toList_madeCells_one _ _
  rw [← e]; exact h
/-- 'make', guarded or not, where it is wanted. -/
theorem wpl_make_bytes {w : World} {ops : Array Oper} {rest : List Oper} {o : Oper} {a : Act} {Q : Exit → Act → World → Prop} (hw : Region.wanted o (yielded ops a.tmps) = true) (l c : Operand) (hop : o.op = Op.makeSlice 34 l c) (n : Nat) (hl : a.eval l = .int .i64 n) (hc : a.eval c = .int .i64 n) (hn : n ≤ 1000000000000)
    (hK : ∀ w', Own w' w.heap.size (.slice (some ⟨w.heap.size, 0, none⟩) n n) (List.replicate n 0) → Below w.heap.size w w' → wpList Try.prog ops Q rest (a.put o.dst (.slice (some ⟨w.heap.size, 0, none⟩) n n)) w') :
    wpList Try.prog ops Q (o :: rest) a w := by
  obtain ⟨i0, hi, hz0, hz1, hz2⟩ := info_parts Try.infoB
  refine wpList_step fun K hK' => ?_
  rw [if_pos hw]
  obtain ⟨w', hrun, r1, r2⟩ := run_make_full (P := Try.prog) w w.heap.size 34 5 i0 (.int .u8 0) 1 Try.underlyingB hi hz0 hz1 .i64 .i64 n (by rw [hz2]; omega) (by unfold maxLen; omega) (Nat.le_refl _)
  unfold Oper.wp
  simp [execOp, hop, hl, hc, hrun, Result.andThen]
  exact hK' _ _ (hK w' (own_zeros r1) ⟨r2.os, r2.tape, r2.output, r2.size, fun k hk => r2.block k hk (by simp)⟩)
theorem JAt.save_new {B : Nat} {w0 w w1 : World} {jb db : Nat} {S : DS} {J : JS} (h : JAt B w0 w jb db S J) (hB : B ≤ w0.heap.size) (hb : Below w.heap.size w w1) (v : Value) (r : List UInt8) (hv : Bts w1 v r) (hnew : ∀ k, v.ownBlock = some k → w.heap.size ≤ k) :
    Calls Try.prog 18 #[.pointer (some ⟨jb, 0, none⟩), v] w1 fun e w' => e = .returned (.int .i64 (saveR S J r).1) ∧ JAt B w0 w' jb db (saveR S J r).2.1 (saveR S J r).2.2 := by
  obtain ⟨R, d, hR, h0⟩ := h
  have hs := h0.size
  exact (save_any jb db R S J v r w1 (d.below hb) hv (stay hv fun _ k hk h => by have := hnew k hk; have := d.rlt k h; omega)).mono fun e w' hx => ⟨hx.1, hx.2.at (h0.trans (hb.mono (by omega))) hB hR⟩
theorem framesB_rep (b : List UInt8) (c : Nat) : (framesB (List.replicate c b)).length = c * (b.length + 8) := by
  induction c with
  | zero => simp [framesB]
  | succ c ih => rw [List.replicate_succ, framesB_cons, List.length_append, ih, frameB_len, Nat.succ_mul]; omega
set_option maxRecDepth 100000 in
set_option maxHeartbeats 3200000 in
theorem full_law (x : Nat) (bv0 : Value) (b0 : List UInt8) (n : Int) (w : World) (hb : Bts w bv0 b0) (hx : x ≤ 18446744073709551615) (hn0 : -9223372036854775808 ≤ n) (hn1 : n ≤ 9223372036854775807) :
    Calls Try.prog 7 #[.int .u64 (x : Int), bv0, .int .i64 n] w fun e w' => e = .returned (.bool true) ∧ Below w.heap.size w w' := by
  have HI := hid hb
  obtain ⟨ia, ic, rfl⟩ := hb.shape
  clear hb
  obtain ⟨k, hk⟩ : ∃ k : Nat, k = 2 + x % 6 := ⟨_, rfl⟩
  have hk2 : 2 ≤ k := by omega
  have hk7 : k ≤ 7 := by omega
  have ek : (2 : Int) + (x : Int) % 6 = (k : Int) := by omega
  have HX : Hid (IntKind.i64.wrap ((x : Int) % 6) = (x : Int) % 6) := hid (IntWalk.i64_in _ ⟨by omega, by omega⟩)
  obtain ⟨f1, f2, f3⟩ := calm_format k [] (by simp) (by simp [sec]; omega)
  have F1 := hid f1
  have F2 := hid f2
  have F3 := hid f3
  clear f1 f2 f3 hk
  go_enter Try.func7, Try.ntmps7
  go_wp2_with fail
  refine (small_any _ b0 _ HI.out).mono ?_
  rintro e w1 ⟨ja, jn, jc, rfl, hj1, hj2, rfl⟩
  have HJM := hid hj1
  have HOI := hid (ownB_small hj2 (old_of HI.out))
  clear hj1 hj2
  obtain ⟨b, hb⟩ : ∃ b, b = b0.take 3000 := ⟨_, rfl⟩
  have hbl : b.length ≤ 3000 := by rw [hb]; simp; omega
  rw [← hb] at HJM HOI
  have hjn : jn = b.length := by obtain ⟨_, _, _, e, h, -⟩ := HJM.out; cases e; exact h
  subst hjn
  clear hb HI
  go_wp2_with fail
  refine (new_ok k _ (by omega) (by omega)).mono ?_
  rintro e w2 ⟨db, RD, rfl, hd2, hr2, hb2⟩
  have HA2 := hid (At.new hd2 hr2 hb2)
  clear hd2 hr2 hb2
  go_wp2_with fail
  refine (At.format HA2.out (Nat.le_refl _) _ [] ⟨none, 0, 0, rfl, rfl, Nat.le_refl _, by omega, (fun _ => rfl), (fun ad h => by cases h)⟩ (fun h => absurd rfl h) F1.out).mono ?_
  rw [F2.out]
  rintro e w3 ⟨jb, rfl, ha3⟩
  obtain ⟨S3, hS3⟩ : ∃ S3, S3 = (saveR (newS k) J0 []).2.1 := ⟨_, rfl⟩
  rw [← hS3] at ha3 F3
  clear hS3 F1 F2 HA2
  have HA3 := hid ha3
  clear ha3
  obtain ⟨M, hM⟩ : ∃ M : Nat, (M : Int) = max 0 (min n 300) := ⟨(max 0 (min n 300)).toNat, by omega⟩
  have HM := hid hM
  have hM3 : (M : Int) ≤ 300 := by omega
  go_upto_region 10 with fail
  go_cut [36, 37, 38, 39] (fun _ _ t i wc => t = .int .i64 (M : Int) ∧ i = .int .i64 0 ∧ wc = w3)
  case first =>
    clear hM
    go_wp2_with fail
    all_goals
      go_meet
      case rel =>
        have := HM.out
        exact ⟨congrArg (Value.int .i64) (by omega), rfl, rfl⟩
  case rest =>
    obtain ⟨rfl, rfl, rfl⟩ := hcut
    clear hM HM hn0 hn1
    go_wp2_with fail
    go_loopw [11, 12, 13, 14, 39] (fun cv bvv _ _ iv wr => ∃ (i c z : Nat) (S : DS), iv = .int .i64 i ∧ i ≤ M ∧ c ≤ i ∧ cv = .int .i64 c ∧ bvv = .int .i64 z ∧ z = c * (b.length + 8) ∧ Calm k S ⟨[], List.replicate c b, false⟩ ∧ JAt w1.heap.size w1 wr jb db S ⟨[], List.replicate c b, false⟩) (fun _ _ _ _ iv _ => M - (intOf iv).toNat)
    case atStart => exact ⟨0, 0, 0, S3, rfl, Nat.zero_le _, Nat.zero_le _, rfl, rfl, by simp, F3.out, HA3.out⟩
    case round =>
      obtain ⟨i, c, z, S, rfl, hi, hci, rfl, rfl, hz, hcalm, hjat⟩ := hrel
      have HCA := hid hcalm
      have HA := hid hjat
      have HZ := hid hz
      have hz3 : z ≤ 300 * 3008 := by rw [hz]; exact Nat.mul_le_mul (by omega) (by omega)
      have HSZ : Hid (sizeJ ⟨[], List.replicate c b, false⟩ = z) := hid (by rw [hz]; exact framesB_rep b c)
      have hi3 : (i : Int) ≤ 300 := by omega
      clear hcalm hjat HA3 F3 hz
      by_cases hlt : (i : Int) < (M : Int)
      · by_cases hroom : roomJ k ⟨[], List.replicate c b, false⟩ b
        · obtain ⟨c1, c2, c3, -⟩ := calm_add HCA.out b (by omega) hroom
          have C1 := hid c1
          have C2 := hid c2
          have C3 := hid c3
          have hfit : (z : Int) + (b.length : Int) + 8 ≤ ((k : Int) - 1) * 512 := by
            unfold roomJ at hroom
            rw [HSZ.out] at hroom
            simp [sec] at hroom
            omega
          clear c1 c2 c3 hroom
          have HRP : Hid (List.replicate c b ++ [b] = List.replicate (c + 1) b) := hid (by rw [List.replicate_succ'])
          rw [HRP.out] at C2 C3
          go_wp2_with fail
          refine (HA.out.add (Nat.le_refl _) _ b (HJM.out.below HA.out.below) HOI.out (by rw [HSZ.out]; omega)).mono ?_
          rw [C1.out, C2.out]
          rintro e w4 ⟨rfl, ha4⟩
          have HA4 := hid ha4
          obtain ⟨R4, hj4⟩ := ha4.jn
          have HJ4 := hid hj4
          have HSZ4 : Hid (sizeJ ⟨[], List.replicate (c + 1) b, false⟩ = z + (b.length + 8)) := hid (by have := HZ.out; unfold sizeJ; simp only; rw [framesB_rep, Nat.succ_mul]; omega)
          have HRL : Hid ((List.replicate (c + 1) b).length = c + 1) := hid List.length_replicate
          clear ha4 hj4 HA
          go_wp2_with (first | (go_at_call 37; refine (count_any jb db R4 _ _ HJ4.out).mono ?_; simp only [HRL.out]; rintro e w5 ⟨rfl, rfl⟩) | (go_at_call 38; refine (size_any jb db R4 _ _ HJ4.out).mono ?_; rw [HSZ4.out]; rintro e w5 ⟨rfl, rfl⟩))
          go_roundw
          case rel => exact ⟨i + 1, c + 1, z + (b.length + 8), _, by go_num, by omega, by omega, by go_num, by go_num, by rw [HZ.out, Nat.succ_mul], C3.out, HA4.out⟩
          case measure => simp [intOf]; omega
        · obtain ⟨c1, c2, c3, -⟩ := calm_full HCA.out b (by omega) hroom
          have C1 := hid c1
          have C2 := hid c2
          have C3 := hid c3
          have hfit : decide ((z : Int) + (b.length : Int) + 8 ≤ ((k : Int) - 1) * 512) = false := by
            unfold roomJ at hroom
            rw [HSZ.out] at hroom
            simp [sec] at hroom
            simp
            omega
          clear c1 c2 c3 hroom
          go_wp2_with fail
          refine (HA.out.add (Nat.le_refl _) _ b (HJM.out.below HA.out.below) HOI.out (by rw [HSZ.out]; omega)).mono ?_
          rw [C1.out, C2.out]
          rintro e w4 ⟨rfl, ha4⟩
          have HA4 := hid ha4
          obtain ⟨R4, hj4⟩ := ha4.jn
          have HJ4 := hid hj4
          have HRL : Hid ((List.replicate c b).length = c) := hid List.length_replicate
          clear ha4 hj4 HA
          go_wp2_with (first | (go_at_call 37; refine (count_any jb db R4 _ _ HJ4.out).mono ?_; simp only [HRL.out]; rintro e w5 ⟨rfl, rfl⟩) | (go_at_call 38; refine (size_any jb db R4 _ _ HJ4.out).mono ?_; rw [HSZ.out]; rintro e w5 ⟨rfl, rfl⟩))
          go_roundw
          case rel => exact ⟨i + 1, c, z, _, by go_num, by omega, by omega, rfl, rfl, HZ.out, C3.out, HA4.out⟩
          case measure => simp [intOf]; omega
      · have HRL : Hid ((List.replicate c b).length = c) := hid List.length_replicate
        have HBIG : Hid (1048576 < (List.replicate 1048577 (0 : UInt8)).length) := hid (by rw [List.length_replicate]; decide)
        obtain ⟨g1, g2, g3, g4⟩ := calm_big HCA.out (List.replicate 1048577 0) HBIG.out
        have G1 := hid g1
        have G2 := hid g2
        have G3 := hid g3
        have G4 := hid g4
        clear g1 g2 g3 g4
        obtain ⟨y1, y2, y3, -⟩ := calm_sync HCA.out
        have Y1 := hid y1
        have Y2 := hid y2
        have Y3 := hid y3
        clear y1 y2 y3
        obtain ⟨BB, hBB⟩ : ∃ BB : List UInt8, BB = List.replicate 1048577 0 := ⟨_, rfl⟩
        rw [← hBB] at HBIG G1 G2 G3 G4
        have HBB := hid hBB
        clear hBB
        go_wp2_with (at_make; refine wpl_make_bytes (by rfl) _ _ rfl 1048577 rfl rfl (by decide) ?_; intro w4 ho4 hb4; rw [← HBB.out] at ho4; have HO4 := hid ho4; have HB4 := hid hb4; clear ho4 hb4)
        refine (HA.out.add_new (Nat.le_refl _) HB4.out _ BB HO4.out.bts (fun k hk => new_block hk) (by rw [HSZ.out]; omega)).mono ?_
        rw [G1.out, G2.out, G3.out]
        rintro e w5 ⟨rfl, ha5⟩
        have HA5 := hid ha5
        clear ha5 HA HO4 HB4
        go_wp2_with (at_make; refine wpl_make_bytes (by rfl) _ _ rfl 1048577 rfl rfl (by decide) ?_; intro w6 ho6 hb6; rw [← HBB.out] at ho6; have HO6 := hid ho6; have HB6 := hid hb6; clear ho6 hb6)
        refine (HA5.out.save_new (Nat.le_refl _) HB6.out _ BB HO6.out.bts (fun k hk => new_block hk)).mono ?_
        rw [G4.out]
        rintro e w7 ⟨rfl, ha7⟩
        have HA7 := hid ha7
        obtain ⟨R7, hj7⟩ := ha7.jn
        have HJ7 := hid hj7
        clear ha7 HA5 HO6 HB6 hj7
        go_wp2_with (go_at_call 37; refine (count_any jb db R7 _ _ HJ7.out).mono ?_; simp only [HRL.out]; rintro e w8 ⟨rfl, rfl⟩)
        refine (HA7.out.sync (Nat.le_refl _)).mono ?_
        rw [Y1.out, Y2.out]
        rintro e w8 ⟨rfl, ha8⟩
        have HA8 := hid ha8.at
        clear ha8 HA7 HJ7
        go_wp2_with fail
        have hio := imgOk_frame [] (by simp)
        have him := Y3.out.image
        simp only at him
        have hlo := Y3.out.log
        simp only at hlo
        refine (At.open_ok HA8.out (Nat.le_refl _) Y3.out.off Y3.out.left (by rw [him]; exact hio.1) (List.replicate c b) [] (by rw [hlo, List.append_nil]) Y3.out.small (.inl rfl)).mono ?_
        rintro e w9 ⟨jb9, S9, rfl, ha9, -⟩
        obtain ⟨R9, hj9⟩ := ha9.jn
        have HJ9 := hid hj9
        have HB9 := hid ha9.below
        clear ha9 hj9 hio him hlo HA8
        go_wp2_with (first | (go_at_call 37; refine (count_any jb9 db R9 _ _ HJ9.out).mono ?_; simp only [HRL.out]; rintro e w10 ⟨rfl, rfl⟩) | (go_at_call 25; refine (jlives_any _).mono ?_; rintro e w12 ⟨rfl, hb12⟩; have HB12 := hid (HB9.out.trans (hb12.mono HB9.out.size)); clear hb12))
        go_ret
        exact ⟨rfl, HB12.out⟩
end Go.Proofs.Ytpchmdfkifbciaa
