/- DiskSure answers true for any bytes and any two numbers; nothing that was there has turned. -/
import Derived.Test.YtengonfilmhaoaaDkLives
import Derived.Deep.DeepCutAuto
namespace Go.Proofs.Ytengonfilmhaoaa
open Go.RowKit

theorem sec_le {n k : Nat} (h : n ≤ 512 * k) : sec n ≤ k := by unfold sec; omega
def sA (a : List UInt8) (n : Nat) : DS := ⟨20, [], [], false, a, n, false, -1⟩
theorem sA_lay (a b : List UInt8) (n : Nat) (h : a.length + b.length ≤ 6000) : writeS (sA a n) (layS (sA a n) b) (layS (sA a n) b) = sA (a ++ b) n ∧ writeE (sA a n) (layE (sA a n) b) = 0 := by
  have hf : fitsA (sA a n) b.length := by
    unfold fitsA sA
    have := sec_le (n := a.length + b.length) (k := 12) (by omega)
    simp only [sec_nil]; omega
  unfold writeS writeE layS layE
  rw [if_pos hf, if_pos hf]
  simp [sA]
  omega
theorem sA_sync (a : List UInt8) (n : Nat) : writeS (sA a n) (syncS (sA a n)) (sA a n) = sA a a.length ∧ writeE (sA a n) 0 = 0 := by
  unfold writeS writeE syncS
  simp [sA]
  omega
theorem sA_crash (a b : List UInt8) (k : Int) : crashS (sA (a ++ b) a.length) k = sA ((a ++ b).take (a.length + (min (max k 0) (b.length : Int)).toNat)) (a.length + (min (max k 0) (b.length : Int)).toNat) := by
  unfold crashS keepN sA
  have e : (((a ++ b).length : Int) - (a.length : Int)) = (b.length : Int) := by rw [List.length_append]; omega
  simp only [e]
theorem sA_crash2 (l : List UInt8) (k : Int) : crashS (sA l l.length) k = sA l l.length := by
  have := sA_crash l [] k
  rw [List.append_nil] at this
  rw [this]
  have e : (min (max k 0) (([] : List UInt8).length : Int)).toNat = 0 := by simp only [List.length_nil]; omega
  rw [e, Nat.add_zero, List.take_of_length_le (Nat.le_refl _)]
theorem sA_told (a : List UInt8) (n : Nat) : toldL (sA a n) (sA a n).log = a ∧ toldE (sA a n) = 0 := by unfold toldL toldE sA; simp
set_option maxRecDepth 100000 in
set_option maxHeartbeats 3200000 in
theorem sure_any (v0 v1 : Value) (a b : List UInt8) (k0 k1 : Int) (w : World) (h0 : Bts w v0 a) (h1 : Bts w v1 b) :
    Calls Try.prog 6 #[v0, v1, .agg #[.int .i64 k0, .int .i64 k1]] w fun e w' => e = .returned (.bool true) ∧ Below w.heap.size w w' := by
  have H0 := hid h0
  have H1 := hid h1
  obtain ⟨a0, c0, rfl⟩ := h0.shape
  obtain ⟨a1, c1, rfl⟩ := h1.shape
  clear h0 h1
  by_cases h : 3000 < (a.length : Int)
  · go_enter Try.func6, Try.ntmps6
    go_wp2_with (first | (go_at_call 15; refine (lives_any _).mono ?_; rintro e w3 ⟨rfl, hb3⟩; have HB := hid hb3; clear hb3))
    go_ret
    exact ⟨rfl, ((Below.refl _ _).alloc (Nat.le_refl _) _).trans (HB.out.mono (by simp))⟩
  · by_cases h2 : 3000 < (b.length : Int)
    · go_enter Try.func6, Try.ntmps6
      go_wp2_with (first | (go_at_call 15; refine (lives_any _).mono ?_; rintro e w3 ⟨rfl, hb3⟩; have HB := hid hb3; clear hb3))
      go_ret
      exact ⟨rfl, ((Below.refl _ _).alloc (Nat.le_refl _) _).trans (HB.out.mono (by simp))⟩
    · obtain ⟨W, hW⟩ : ∃ W, W = w.alloc (.cells #[.int .i64 k0, .int .i64 k1] 47) := ⟨_, rfl⟩
      have HW := hid hW
      have HBW : Hid (Below w.heap.size w W) := hid (by rw [hW]; exact (Below.refl _ _).alloc (Nat.le_refl _) _)
      have HK0 : Hid (W.cell? ⟨w.heap.size, 0, none⟩ = some (.int .i64 k0)) := hid (by rw [hW, World.cell?_alloc_at _ _ _ _ rfl]; rfl)
      have HK1 : Hid (W.cell? ⟨w.heap.size, 1, none⟩ = some (.int .i64 k1)) := hid (by rw [hW, World.cell?_alloc_at _ _ _ _ rfl]; rfl)
      go_enter Try.func6, Try.ntmps6
      go_wp2_with fail
      rw [← HW.out]
      clear hW HW
      refine (new_ok 20 _ (by omega) (by omega)).mono ?_
      rintro e w1 ⟨d, R1, rfl, hd1, hr1, hb1⟩
      have A1 : Hid (At W.heap.size W w1 d (sA [] 0)) := hid (At.new hd1 hr1 hb1)
      clear hd1 hr1 hb1
      have hal : a.length ≤ 3000 := by omega
      have hbl : b.length ≤ 3000 := by omega
      obtain ⟨p1, q1⟩ := sA_lay [] a 0 (by simp; omega)
      obtain ⟨p2, q2⟩ := sA_sync a 0
      obtain ⟨p3, q3⟩ := sA_lay a b a.length (by omega)
      have P1 := hid p1
      have Q1 := hid q1
      have P2 := hid p2
      have Q2 := hid q2
      have P3 := hid p3
      have Q3 := hid q3
      clear p1 q1 p2 q2 p3 q3
      go_wp2_with fail
      refine (A1.out.do (Nat.le_refl _) fun R dd => append_any d R _ _ a _ dd ((H0.out.below HBW.out).below A1.out.below) (by omega)).mono ?_
      rw [P1.out, Q1.out, List.nil_append]
      rintro e w2 ⟨rfl, ha2⟩
      have A2 := hid ha2
      clear ha2
      go_wp2_with fail
      refine (A2.out.do (Nat.le_refl _) fun R dd => sync_any d R _ _ dd).mono ?_
      rw [P2.out, Q2.out]
      rintro e w3 ⟨rfl, ha3⟩
      have A3 := hid ha3
      clear ha3
      go_wp2_with fail
      refine (A3.out.do (Nat.le_refl _) fun R dd => append_any d R _ _ b _ dd ((H1.out.below HBW.out).below A3.out.below) (by omega)).mono ?_
      rw [P3.out, Q3.out]
      rintro e w4 ⟨rfl, ha4⟩
      have A4 := hid ha4
      have hk04 := cell_later ha4.below HK0.out
      clear ha4 A1 A2 A3 P1 P2 P3 Q1 Q2 Q3
      go_wp2_with fail
      obtain ⟨N, hN⟩ : ∃ N, N = a.length + (min (max k0 0) (b.length : Int)).toNat := ⟨_, rfl⟩
      have hNl : N ≤ (a ++ b).length := by rw [hN, List.length_append]; omega
      obtain ⟨L, hL⟩ : ∃ L, L = (a ++ b).take N := ⟨_, rfl⟩
      have hLl : L.length = N := by rw [hL, List.length_take]; omega
      have HC1 : Hid (crashS (sA (a ++ b) a.length) k0 = sA L L.length) := hid (by rw [sA_crash, ← hN, ← hL, hLl])
      have HN := hid hN
      have HL := hid hL
      have HLL := hid hLl
      have HNL := hid hNl
      clear hN hL hLl hNl
      refine (A4.out.do (Nat.le_refl _) fun R dd => crash_any d R _ k0 _ dd).mono ?_
      rw [HC1.out]
      rintro e w5 ⟨rfl, ha5⟩
      obtain ⟨R, d5, r5, b5⟩ := ha5
      have D5 := hid d5
      have R5 := hid r5
      have B5 := hid b5
      clear d5 r5 b5 A4 hk04 HC1
      go_wp2_with fail
      refine (log_any d R _ _ D5.out).mono ?_
      rw [(sA_told L L.length).1, (sA_told L L.length).2]
      rintro e w6 ⟨va, vc, rfl, ho6, hb6⟩
      have O6 := hid ho6
      have D6 := hid (D5.out.below hb6)
      have B6 := hid (B5.out.trans (hb6.mono B5.out.size))
      have OUT : Hid (Out R (.slice va L.length vc)) := hid fun k hk hr => by have := (ho6.lt k hk).1; have := D5.out.rlt k hr; omega
      have hk16 := cell_later B6.out HK1.out
      clear ho6 hb6
      go_wp2_with fail
      refine (crash_any d R _ k1 _ D6.out).mono ?_
      rw [sA_crash2]
      rintro e w7 ⟨rfl, hs7⟩
      obtain ⟨R7, d7, t7, r7⟩ := hs7
      have D7 := hid d7
      have X7 := hid (O6.out.bts.but t7 OUT.out)
      have B7 := hid (B6.out.trans (t7.below B6.out.size R5.out))
      clear d7 t7 r7 D6 O6 OUT B6 D5 R5 B5 hk16
      go_wp2_with fail
      refine (log_any d R7 _ _ D7.out).mono ?_
      rw [(sA_told L L.length).1, (sA_told L L.length).2]
      rintro e w8 ⟨vb, vd, rfl, ho8, hb8⟩
      have X8 := hid (X7.out.below hb8)
      have Y8 := hid ho8.bts
      have B8 := hid (B7.out.trans (hb8.mono B7.out.size))
      clear ho8 hb8 D7 X7 B7
      have k08 := cell_later B8.out HK0.out
      have s0 := conv_string w8 _ _ ((H0.out.below HBW.out).below B8.out)
      have s1 := conv_string w8 _ _ ((H1.out.below HBW.out).below B8.out)
      have sx := conv_string w8 _ _ X8.out
      have sy := conv_string w8 _ _ Y8.out
      obtain ⟨K, hK⟩ : ∃ K : Nat, K = (min (max k0 0) (b.length : Int)).toNat := ⟨_, rfl⟩
      have hNK : N = a.length + K := by rw [hK]; exact HN.out
      have HKK : Hid ((K : Int) = max 0 (min k0 (b.length : Int))) := hid (by rw [hK]; omega)
      have hKb : K ≤ b.length := by rw [hK]; omega
      obtain ⟨T, hT⟩ : ∃ T : ByteArray, T = { data := a.toArray } ++ { data := b.toArray } := ⟨_, rfl⟩
      have HT := hid hT
      have hTs : T.size = a.length + b.length := by rw [hT]; simp [ByteArray.size]
      have HX : Hid (T.extract 0 N = ⟨L.toArray⟩) := hid (by
        have e : T = ⟨(a ++ b).toArray⟩ := by rw [hT]; apply ByteArray.ext; simp [ByteArray.data_append]
        rw [e, HL.out, ByteArray.extract_mk]
        congr 1)
      have HNK := hid hNK
      clear hK hT hNK
      go_upto_region 11 with fail
      go_cut [14] (fun t wc => t = .int .i64 (K : Int) ∧ wc = w8)
      case first =>
        go_wp2_with fail
        all_goals
          go_meet
          case rel =>
            have := HKK.out
            exact ⟨congrArg (Value.int .i64) (by omega), rfl⟩
      case rest =>
        obtain ⟨rfl, rfl⟩ := hcut
        have e1 : IntKind.i64.wrap ((a.length : Int) + (K : Int)) = (N : Int) := by rw [HNK.out, IntWalk.i64_in _ ⟨by omega, by omega⟩]; omega
        have hNT : ¬ ((T.size : Int) < (N : Int)) := by rw [hTs, HNK.out]; omega
        have hNT2 : (N : Int) ≤ (T.size : Int) := by rw [hTs, HNK.out]; omega
        have hx := HX.out
        rw [← HT.out]
        have sxd := conv_string wc.drew _ _ (X8.out.below (Below.refl _ _).drew)
        have syd := conv_string wc.drew _ _ (Y8.out.below (Below.refl _ _).drew)
        clear hTs hKb sx sy s0 s1 k08
        go_wp2_with fail
        go_region_with (first | (go_at_call 15; refine (lives_any _).mono ?_; rintro e w10 ⟨rfl, hb10⟩; have HB10 := hid hb10; clear hb10))
        all_goals
          go_wp2
          go_ret
          have hB := HBW.out.trans (B8.out.mono HBW.out.size)
          exact ⟨rfl, hB.drew.trans (HB10.out.mono hB.size)⟩
end Go.Proofs.Ytengonfilmhaoaa
