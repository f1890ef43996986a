/- DiskSwaps answers true for any bytes; nothing that was there has turned. -/
import Derived.Test.YtengonfilmhaoabDkClone
import Derived.Deep.DeepCutAuto
namespace Go.Proofs.Ytengonfilmhaoab
open Go.RowKit

theorem sec_le {n k : Nat} (h : n ≤ 512 * k) : sec n ≤ k := by unfold sec; omega
def sB (i s : List UInt8) (st : Bool) (l : List UInt8) (n : Nat) : DS := ⟨40, i, s, st, l, n, false, -1⟩
theorem sB_stage (i s m l : List UInt8) (st : Bool) (n : Nat) (h : i.length ≤ 3000 ∧ m.length ≤ 3000 ∧ l.length ≤ 3000) : writeS (sB i s st l n) (stageS (sB i s st l n) m) (sB i s st l n) = sB i m true l n ∧ writeE (sB i s st l n) (stageE (sB i s st l n) m) = 0 := by
  have h1 := sec_le (n := i.length) (k := 6) (by omega)
  have h2 := sec_le (n := m.length) (k := 6) (by omega)
  have h3 := sec_le (n := l.length) (k := 6) (by omega)
  have hf : sec m.length + sec (sB i s st l n).image.length + sec (sB i s st l n).log.length ≤ (sB i s st l n).room := by unfold sB; simp only; omega
  unfold writeS writeE stageS stageE
  rw [if_pos hf, if_pos hf]
  simp [sB]
  omega
theorem sB_commit (i s l : List UInt8) (n : Nat) : writeS (sB i s true l n) (commitS (sB i s true l n)) (sB i s true l n) = sB s [] false [] 0 ∧ writeE (sB i s true l n) (commitE (sB i s true l n)) = 0 := by
  unfold writeS writeE commitS commitE
  simp [sB]
  omega
theorem sB_lay (i m : List UInt8) (n : Nat) (h : i.length ≤ 3000 ∧ m.length ≤ 3000) : writeS (sB i [] false [] n) (layS (sB i [] false [] n) m) (layS (sB i [] false [] n) m) = sB i [] false m n ∧ writeE (sB i [] false [] n) (layE (sB i [] false [] n) m) = 0 := by
  have h1 := sec_le (n := i.length) (k := 6) (by omega)
  have h2 := sec_le (n := m.length) (k := 6) (by omega)
  have hf : fitsA (sB i [] false [] n) m.length := by
    show sec (([] : List UInt8).length + m.length) + sec i.length + sec ([] : List UInt8).length ≤ 40
    rw [sec_nil, List.length_nil, Nat.zero_add]; omega
  unfold writeS writeE layS layE
  rw [if_pos hf, if_pos hf]
  simp [sB]
  omega
theorem sB_sync (i s l : List UInt8) (st : Bool) (n : Nat) : writeS (sB i s st l n) (syncS (sB i s st l n)) (sB i s st l n) = sB i s st l l.length ∧ writeE (sB i s st l n) 0 = 0 := by
  unfold writeS writeE syncS
  simp [sB]
  omega
theorem sB_crash (i s l : List UInt8) (st : Bool) (k : Int) : crashS (sB i s st l l.length) k = sB i [] false l l.length := by
  have e : keepN (sB i s st l l.length) k = l.length := by unfold keepN sB; simp only; omega
  unfold crashS
  rw [e]
  simp [sB]
theorem sB_told (i s l m : List UInt8) (st : Bool) (n : Nat) : toldL (sB i s st l n) m = m ∧ toldE (sB i s st l n) = 0 := by unfold toldL toldE sB; simp
theorem sB_toldI (i s l : List UInt8) (st : Bool) (n : Nat) : toldL (sB i s st l n) (sB i s st l n).image = i := (sB_told i s l i st n).1
theorem sB_toldL (i s l : List UInt8) (st : Bool) (n : Nat) : toldL (sB i s st l n) (sB i s st l n).log = l := (sB_told i s l l st n).1
theorem sB_none (i s l : List UInt8) (n : Nat) : writeE (sB i s false l n) (commitE (sB i s false l n)) = 8 := by
  unfold writeE commitE
  simp [sB]
set_option maxRecDepth 100000 in
set_option maxHeartbeats 3200000 in
theorem swaps_any (v0 v1 v2 : Value) (a b c : List UInt8) (w : World) (h0 : Bts w v0 a) (h1 : Bts w v1 b) (h2 : Bts w v2 c) :
    Calls Try.prog 3 #[v0, v1, v2] w fun e w' => e = .returned (.bool true) ∧ Below w.heap.size w w' := by
  have H0 := hid h0
  have H1 := hid h1
  have H2 := hid h2
  obtain ⟨a0, c0, rfl⟩ := h0.shape
  obtain ⟨a1, c1, rfl⟩ := h1.shape
  obtain ⟨a2, c2, rfl⟩ := h2.shape
  clear h0 h1 h2
  by_cases g0 : 3000 < (a.length : Int)
  · go_enter Try.func3, Try.ntmps3
    go_wp2_with (first | (go_at_call 6; refine (lives_any _).mono ?_; rintro e w3 ⟨rfl, hb3⟩; have HB := hid hb3; clear hb3))
    go_ret
    exact ⟨rfl, HB.out⟩
  by_cases g1 : 3000 < (b.length : Int)
  · go_enter Try.func3, Try.ntmps3
    go_wp2_with (first | (go_at_call 6; refine (lives_any _).mono ?_; rintro e w3 ⟨rfl, hb3⟩; have HB := hid hb3; clear hb3))
    go_ret
    exact ⟨rfl, HB.out⟩
  by_cases g2 : 3000 < (c.length : Int)
  · go_enter Try.func3, Try.ntmps3
    go_wp2_with (first | (go_at_call 6; refine (lives_any _).mono ?_; rintro e w3 ⟨rfl, hb3⟩; have HB := hid hb3; clear hb3))
    go_ret
    exact ⟨rfl, HB.out⟩
  have l0 : a.length ≤ 3000 := by omega
  have l1 : b.length ≤ 3000 := by omega
  have l2 : c.length ≤ 3000 := by omega
  have E1 := hid (sB_stage [] [] a [] false 0 ⟨by simp, l0, by simp⟩)
  have E2 := hid (sB_commit [] a [] 0)
  have E3 := hid (sB_lay a c 0 ⟨l0, l2⟩)
  have E4 := hid (sB_sync a [] c false 0)
  have E5 := hid (sB_stage a [] b c false c.length ⟨l0, l1, l2⟩)
  have Z := Nat.le_refl w.heap.size
  go_enter Try.func3, Try.ntmps3
  go_wp2_with fail
  refine (new_ok 40 _ (by omega) (by omega)).mono ?_
  rintro e w1 ⟨d, R1, rfl, hd1, hr1, hb1⟩
  have A1 : Hid (At w.heap.size w w1 d (sB [] [] false [] 0)) := hid (At.new hd1 hr1 hb1)
  clear hd1 hr1 hb1
  go_wp2_with fail
  refine (A1.out.do Z fun R dd => stage_any d R _ _ a _ dd (H0.out.below A1.out.below) (by omega)).mono ?_
  rw [E1.out.1, E1.out.2]
  rintro e w2 ⟨rfl, ha2⟩
  have A2 := hid ha2
  clear ha2 A1 E1
  go_wp2_with fail
  refine (A2.out.do Z fun R dd => commit_any d R _ _ dd).mono ?_
  rw [E2.out.1, E2.out.2]
  rintro e w3 ⟨rfl, ha3⟩
  have A3 := hid ha3
  clear ha3 A2 E2
  go_wp2_with fail
  refine (A3.out.do Z fun R dd => append_any d R _ _ c _ dd (H2.out.below A3.out.below) (by omega)).mono ?_
  rw [E3.out.1, E3.out.2]
  rintro e w4 ⟨rfl, ha4⟩
  have A4 := hid ha4
  clear ha4 A3 E3
  go_wp2_with fail
  refine (A4.out.do Z fun R dd => sync_any d R _ _ dd).mono ?_
  rw [E4.out.1, E4.out.2]
  rintro e w5 ⟨rfl, ha5⟩
  have A5 := hid ha5
  clear ha5 A4 E4
  go_wp2_with fail
  refine (A5.out.do Z fun R dd => stage_any d R _ _ b _ dd (H1.out.below A5.out.below) (by omega)).mono ?_
  rw [E5.out.1, E5.out.2]
  rintro e w6 ⟨rfl, ha6⟩
  have A6 := hid ha6
  clear ha6 A5 E5
  go_wp2_with fail
  obtain ⟨R6, d6, r6, b6⟩ := A6.out
  have D6 := hid d6
  have Q6 := hid r6
  have B6 := hid b6
  clear d6 r6 b6 A6
  refine (copy_any d R6 _ _ D6.out).mono ?_
  rintro e w7 ⟨x, X, rfl, hd7, hr7, hb7⟩
  have D7 := hid (D6.out.below hb7)
  have X7 : Hid (At w6.heap.size w6 w7 x (sB a b true c c.length)) := hid (At.new hd7 hr7 hb7)
  clear hd7 hr7 hb7
  go_wp2_with fail
  refine (X7.out.do (Nat.le_refl _) fun R dd => crash_any x R _ 0 _ dd).mono ?_
  rw [sB_crash]
  rintro e w8 ⟨rfl, ha8⟩
  have X8 := hid ha8
  clear ha8 X7 D7
  go_wp2_with fail
  obtain ⟨RX, d8, r8, b8⟩ := X8.out
  have D8 := hid d8
  have B8 := hid b8
  have Q8 := hid r8
  clear d8 b8 r8 X8
  refine (image_any x RX _ _ D8.out).mono ?_
  rw [sB_toldI, (sB_told a [] c [] false c.length).2]
  rintro e w9 ⟨i9, j9, rfl, ho9, hb9⟩
  have D9 := hid (D8.out.below hb9)
  have B9 := hid (B8.out.trans (hb9.mono B8.out.size))
  have O9 : Hid (Bts w9 (.slice i9 a.length j9) a) := hid ho9.bts
  clear ho9 hb9 D8 B8
  go_wp2_with fail
  refine (log_any x RX _ _ D9.out).mono ?_
  rw [sB_toldL, (sB_told a [] c [] false c.length).2]
  rintro e w10 ⟨i10, j10, rfl, ho10, hb10⟩
  have D10 := hid (D9.out.below hb10)
  have B10 := hid (B9.out.trans (hb10.mono B9.out.size))
  have s1 := conv_string w10 _ _ (O9.out.below hb10)
  have s2 := conv_string w10 (.slice i10 c.length j10) c ho10.bts
  have s3 := conv_string w10 _ _ ((H0.out.below B6.out).below B10.out)
  have s4 := conv_string w10 _ _ ((H2.out.below B6.out).below B10.out)
  clear ho10 hb10 D9 B9 O9
  go_wp2_with fail
  refine (commit_any x RX _ _ D10.out).mono ?_
  rw [sB_none]
  rintro e w11 ⟨rfl, hs11⟩
  have B11 := hid (hs11.at B10.out (Nat.le_refl _) Q8.out).below
  have D11 := hid (D6.out.below B11.out)
  have C11 : Hid (At w.heap.size w w11 d (sB a b true c c.length)) := hid ⟨R6, D11.out, Q6.out, B6.out.trans (B11.out.mono B6.out.size)⟩
  clear hs11 B10 D10 Q8 D6 Q6 B6 B11 D11 s1 s2 s3 s4
  go_wp2_with fail
  refine (C11.out.do Z fun R dd => commit_any d R _ _ dd).mono ?_
  rw [(sB_commit a b c c.length).1, (sB_commit a b c c.length).2]
  rintro e w12 ⟨rfl, ha12⟩
  have A12 := hid ha12
  clear ha12 C11
  go_wp2_with fail
  refine (A12.out.do Z fun R dd => crash_any d R _ 5 _ dd).mono ?_
  rw [show sB b [] false [] 0 = sB b [] false [] ([] : List UInt8).length from rfl, sB_crash]
  rintro e w13 ⟨rfl, ha13⟩
  obtain ⟨R13, d13, r13, b13⟩ := ha13
  have D13 := hid d13
  have B13 := hid b13
  clear d13 r13 b13 A12
  go_wp2_with fail
  refine (image_any d R13 _ _ D13.out).mono ?_
  rw [sB_toldI, (sB_told b [] [] [] false ([] : List UInt8).length).2]
  rintro e w14 ⟨i14, j14, rfl, ho14, hb14⟩
  have D14 := hid (D13.out.below hb14)
  have B14 := hid (B13.out.trans (hb14.mono B13.out.size))
  have O14 := hid ho14.bts
  clear ho14 hb14 D13 B13
  go_wp2_with fail
  refine (log_any d R13 _ _ D14.out).mono ?_
  rw [sB_toldL, (sB_told b [] [] [] false ([] : List UInt8).length).2, List.length_nil]
  rintro e w15 ⟨i15, j15, rfl, ho15, hb15⟩
  have B15 := hid (B14.out.trans (hb15.mono B14.out.size))
  have s1 := conv_string w15 _ _ (O14.out.below hb15)
  have s2 := conv_string w15 _ _ (H1.out.below B15.out)
  clear ho15 hb15 D14 B14 O14
  go_wp2_with (first | (go_at_call 6; refine (lives_any _).mono ?_; rintro e w16 ⟨rfl, hb16⟩; have HB := hid hb16; clear hb16))
  go_ret
  exact ⟨rfl, B15.out.trans (HB.out.mono B15.out.size)⟩
end Go.Proofs.Ytengonfilmhaoab
