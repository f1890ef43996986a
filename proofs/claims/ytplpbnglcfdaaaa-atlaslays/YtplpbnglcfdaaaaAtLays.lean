/- The law AtlasLays: any change is laid as a text, and taken again; any other text is none. Conditions: the change's numbers are ints. -/
import Derived.Test.YtplpbnglcfdaaaaAtLay
import Derived.Deep.CutRange
namespace Go.Proofs.Ytplpbnglcfdaaaa
open Go.RowKit Go.Maps Go.Shelf
set_option linter.unusedVariables false
set_option linter.unusedSimpArgs false

theorem take_back (c : ChD) (hj : ChJ c) : tS (chBy c) 6 = some [] ∧ tkP (chBy c) 6 = c := by
  obtain ⟨k, sh, ot, at', out, in'⟩ := c
  have hi : ∀ x ∈ [k, sh, ot, at', out, in'], I64 x := hj
  have h0 := hi k (by simp)
  have h1 := hi sh (by simp)
  have h2 := hi ot (by simp)
  have h3 := hi at' (by simp)
  have h4 := hi out (by simp)
  have h5 := hi in' (by simp)
  have hl : chBy ⟨k, sh, ot, at', out, in'⟩ = intB k ++ (intB sh ++ (intB ot ++ (intB at' ++ (intB out ++ (intB in' ++ []))))) := by simp [chBy, numC]
  obtain ⟨a5, b5⟩ := int_back in' h5.1 (by have := h5.2; omega) []
  obtain ⟨a4, b4⟩ := int_back out h4.1 (by have := h4.2; omega) (intB in' ++ [])
  obtain ⟨a3, b3⟩ := int_back at' h3.1 (by have := h3.2; omega) (intB out ++ (intB in' ++ []))
  obtain ⟨a2, b2⟩ := int_back ot h2.1 (by have := h2.2; omega) (intB at' ++ (intB out ++ (intB in' ++ [])))
  obtain ⟨a1, b1⟩ := int_back sh h1.1 (by have := h1.2; omega) (intB ot ++ (intB at' ++ (intB out ++ (intB in' ++ []))))
  obtain ⟨a0, b0⟩ := int_back k h0.1 (by have := h0.2; omega) (intB sh ++ (intB ot ++ (intB at' ++ (intB out ++ (intB in' ++ [])))))
  generalize chBy ⟨k, sh, ot, at', out, in'⟩ = l at hl ⊢
  have t0 : tS l 0 = some (intB k ++ (intB sh ++ (intB ot ++ (intB at' ++ (intB out ++ (intB in' ++ [])))))) := by rw [← hl]; rfl
  have st : ∀ i m r, tS l i = some m → intS (some m) = some r → tS l (i + 1) = some r := fun i m r h1 h2 => by
    show intS (tS l i) = some r
    rw [h1]; exact h2
  have t1 := st 0 _ _ t0 b0
  have t2 := st 1 _ _ t1 b1
  have t3 := st 2 _ _ t2 b2
  have t4 := st 3 _ _ t3 b3
  have t5 := st 4 _ _ t4 b4
  have t6 := st 5 _ _ t5 b5
  refine ⟨t6, ?_⟩
  have e0 : intV (tS l 0) = k := by rw [t0]; exact a0
  have e1 : intV (tS l 1) = sh := by rw [t1]; exact a1
  have e2 : intV (tS l 2) = ot := by rw [t2]; exact a2
  have e3 : intV (tS l 3) = at' := by rw [t3]; exact a3
  have e4 : intV (tS l 4) = out := by rw [t4]; exact a4
  have e5 : intV (tS l 5) = in' := by rw [t5]; exact a5
  clear t0 t1 t2 t3 t4 t5 t6 a0 a1 a2 a3 a4 a5 b0 b1 b2 b3 b4 b5
  unfold tkP
  rw [e0, e1, e2, e3, e4, e5]
  rfl
theorem take_only (l : List UInt8) (h : tkB l = true) : chBy (tkP l 6) = l ∧ ChJ (tkP l 6) := by
  have hend : tS l 6 = some [] := by
    unfold tkB at h
    match hs : tS l 6, h with
    | some [], _ => rfl
    | some (_ :: _), h => cases h
    | none, h => cases h
  have step : ∀ i r, tS l (i + 1) = some r → ∃ m, tS l i = some m ∧ m = intB (intV (tS l i)) ++ r ∧ I64 (intV (tS l i)) := fun i r hr => by
    have hr' : intS (tS l i) = some r := hr
    cases hm : tS l i with
    | none => rw [hm] at hr'; cases hr'
    | some m => rw [hm] at hr'; exact ⟨m, rfl, int_only m r hr'⟩
  obtain ⟨m5, e5, q5, j5⟩ := step 5 [] hend
  obtain ⟨m4, e4, q4, j4⟩ := step 4 m5 e5
  obtain ⟨m3, e3, q3, j3⟩ := step 3 m4 e4
  obtain ⟨m2, e2, q2, j2⟩ := step 2 m3 e3
  obtain ⟨m1, e1, q1, j1⟩ := step 1 m2 e2
  obtain ⟨m0, e0, q0, j0⟩ := step 0 m1 e1
  have hl : l = m0 := by have : some l = some m0 := e0; exact Option.some.inj this
  have ht : tkP l 6 = ⟨intV (tS l 0), intV (tS l 1), intV (tS l 2), intV (tS l 3), intV (tS l 4), intV (tS l 5)⟩ := by unfold tkP; simp
  rw [ht]
  generalize intV (tS l 0) = v0 at *
  generalize intV (tS l 1) = v1 at *
  generalize intV (tS l 2) = v2 at *
  generalize intV (tS l 3) = v3 at *
  generalize intV (tS l 4) = v4 at *
  generalize intV (tS l 5) = v5 at *
  refine ⟨?_, ?_⟩
  · rw [hl, q0, q1, q2, q3, q4, q5]
    simp [chBy, numC]
  · intro x hx
    simp only [numC, List.mem_cons, List.not_mem_nil, or_false] at hx
    rcases hx with rfl | rfl | rfl | rfl | rfl | rfl <;> assumption
theorem cells6 {w : World} {B : Nat} {c : ChD} {t : TypeId} {fr : Nat × Nat} (h : w.heap[B]? = some (.cells #[.int .i64 c.k, .int .i64 c.sh, .int .i64 c.ot, .int .i64 c.at', .int .i64 c.out, .int .i64 c.in'] t fr)) : w.cell? ⟨B, 0, none⟩ = some (.int .i64 c.k) ∧ w.cell? ⟨B, 1, none⟩ = some (.int .i64 c.sh) ∧ w.cell? ⟨B, 2, none⟩ = some (.int .i64 c.ot) ∧ w.cell? ⟨B, 3, none⟩ = some (.int .i64 c.at') ∧ w.cell? ⟨B, 4, none⟩ = some (.int .i64 c.out) ∧ w.cell? ⟨B, 5, none⟩ = some (.int .i64 c.in') := by
  refine ⟨?_, ?_, ?_, ?_, ?_, ?_⟩ <;> (rw [cell_of_row _ _ _ _ _ _ h]; rfl)
set_option maxRecDepth 100000 in
set_option maxHeartbeats 8000000 in
theorem atlasLays_any (c : ChD) (s : ByteArray) (w : World) (hj : ChJ c) :
    Calls Try.prog 6 #[chV c, .string s] w fun e w' => e = .returned (.bool true) ∧ Below w.heap.size w w' := by
  have hu : Try.prog.underlying 9 = some .string := by kernel_rfl
  have HJ := hid hj
  obtain ⟨w1, hw1⟩ : ∃ w1, w1 = w.alloc (.cells (chC c) 48) := ⟨_, rfl⟩
  have B1 : Hid (Below w.heap.size w w1) := hid (by rw [hw1]; exact (Below.refl _ _).alloc (Nat.le_refl _) _)
  have C1 : Hid (w1.heap[w.heap.size]? = some (.cells (chC c) 48 (0, 0))) := hid (by rw [hw1]; exact heap_alloc_new _ _)
  have HW1 := hid hw1
  have hlb := flen (numC c) hj
  obtain ⟨tb6, tbc⟩ := take_back c hj
  have HTB : Hid (tkB (chBy c) = true ∧ tkD (chBy c) = c) := hid (by
    have h1 : tkB (chBy c) = true := by unfold tkB; rw [tb6]; rfl
    exact ⟨h1, by unfold tkD; rw [h1, if_pos rfl]; exact tbc⟩)
  have HT1 := hid (fun W => (atake_any ⟨(chBy c).toArray⟩ W (by show (chBy c).toArray.size ≤ _; rw [List.size_toArray]; unfold chBy; have e : (numC c).length = 6 := rfl; omega)).mono (fun e w' (h : TkP (chBy c) W e w') => show e = Ending.returned (.tuple #[.agg #[.int .i64 c.k, .int .i64 c.sh, .int .i64 c.ot, .int .i64 c.at', .int .i64 c.out, .int .i64 c.in'], .int .i64 0]) ∧ Below W.heap.size W w' from ⟨by rw [h.1, HTB.out.2, HTB.out.1]; rfl, h.2⟩))
  have HLY := hid (fun W => alay_any c W hj)
  clear hj hw1 hlb tb6 tbc
  unfold chC at HW1
  unfold chV
  go_enter Try.func6, Try.ntmps6
  go_upto_region 1 with fail
  rw [← HW1.out]
  clear HW1
  obtain ⟨C, hCe⟩ : ∃ C, C = w.heap.size := ⟨_, rfl⟩
  rw [← hCe] at C1
  rw [← hCe]
  clear hCe
  go_upto_if 11 with fail
  go_cut [1] from 12 to 13 (fun sv wx => ∃ s' : ByteArray, sv = .string s' ∧ s'.size ≤ 300 ∧ wx = w1)
  case first =>
    by_cases hbig : (300 : Int) < (s.size : Int)
    · have he : (s.extract 0 300).size ≤ 300 := by rw [ByteArray.size_extract]; omega
      have HE := hid he
      have h3n : 300 ≤ s.size := by omega
      have h3i : (300 : Int) ≤ (s.size : Int) := by omega
      clear he
      go_wp2_with fail
      go_meet
      case rel => exact ⟨s.extract 0 300, rfl, HE.out, rfl⟩
    · go_wp2_with fail
      go_meet
      case rel => exact ⟨s, rfl, by omega, rfl⟩
  case rest =>
    obtain ⟨s', rfl, hs', hwc⟩ := hcut
    rw [hwc]
    clear hwc
    have HT2 := hid (fun W => atake_any s' W (by omega))
    have HSL : Hid (s' = ⟨s'.data.toList.toArray⟩) := hid (by simp)
    obtain ⟨l, hl⟩ : ∃ l, l = s'.data.toList := ⟨_, rfl⟩
    rw [← hl] at HT2 HSL
    have HON : Hid (tkB l = true → chBy (tkP l 6) = l ∧ ChJ (tkP l 6)) := hid (take_only l)
    clear hs' hl
    have hC := C1.out
    unfold chC at hC
    go_upto_region 4 with (first | (refine wpl_loadK rfl _ rfl C rfl _ _ _ rfl hC ?_) | (go_at_call 18; refine (HLY.out _).mono ?_; rintro e w2 ⟨rfl, hb2⟩; have B2 := hid hb2; clear hb2) | (go_at_call 17; refine (HT1.out _).mono ?_; rintro e w3 ⟨rfl, hb3⟩; have B3 := hid (B2.out.trans (hb3.mono B2.out.size)); clear hb3))
    have hb4 : Below w3.heap.size w3 (w3.alloc (.cells #[.int .i64 c.k, .int .i64 c.sh, .int .i64 c.ot, .int .i64 c.at', .int .i64 c.out, .int .i64 c.in'] 48)) := (Below.refl _ _).alloc (Nat.le_refl _) _
    have hD4 := heap_alloc_new w3 (.cells #[.int .i64 c.k, .int .i64 c.sh, .int .i64 c.ot, .int .i64 c.at', .int .i64 c.out, .int .i64 c.in'] 48)
    have hC4 := (hb4.block C (Nat.lt_of_lt_of_le (lt_of_block hC) B3.out.size)).trans ((B3.out.block C (lt_of_block hC)).trans hC)
    have B4 := hid ((B1.out.trans (B3.out.mono B1.out.size)).trans (hb4.mono (B1.out.trans (B3.out.mono B1.out.size)).size))
    clear hb4 hC B2 B3 B1 C1 HT1 HLY
    generalize w3.alloc (.cells #[.int .i64 c.k, .int .i64 c.sh, .int .i64 c.ot, .int .i64 c.at', .int .i64 c.out, .int .i64 c.in'] 48) = w4 at *
    generalize w3.heap.size = D at *
    cases hb : tkB l with
    | false =>
      have HTX := hid (fun W => (HT2.out W).mono (fun e w' (h : TkP l W e w') => show e = Ending.returned (.tuple #[.agg #[.int .i64 0, .int .i64 0, .int .i64 0, .int .i64 0, .int .i64 0, .int .i64 0], .int .i64 4]) ∧ Below W.heap.size W w' from ⟨by rw [h.1]; unfold tkD; rw [hb]; rfl, h.2⟩))
      clear HT2 HON hb HTB HJ
      go_upto_region 5 with (go_at_call 17; refine (HTX.out _).mono ?_; rintro e w5 ⟨rfl, hb5⟩; have B5 := hid hb5; clear hb5)
      have hb6 : Below w5.heap.size w5 (w5.alloc (.cells #[.int .i64 0, .int .i64 0, .int .i64 0, .int .i64 0, .int .i64 0, .int .i64 0] 48)) := (Below.refl _ _).alloc (Nat.le_refl _) _
      have hE6 := heap_alloc_new w5 (.cells #[.int .i64 0, .int .i64 0, .int .i64 0, .int .i64 0, .int .i64 0, .int .i64 0] 48)
      have hD6 := (hb6.block D (Nat.lt_of_lt_of_le (lt_of_block hD4) B5.out.size)).trans ((B5.out.block D (lt_of_block hD4)).trans hD4)
      have hC6 := (hb6.block C (Nat.lt_of_lt_of_le (lt_of_block hC4) B5.out.size)).trans ((B5.out.block C (lt_of_block hC4)).trans hC4)
      have B6 := hid ((B4.out.trans (B5.out.mono B4.out.size)).trans (hb6.mono (B4.out.trans (B5.out.mono B4.out.size)).size))
      clear hb6 hD4 hC4
      generalize w5.alloc (.cells #[.int .i64 0, .int .i64 0, .int .i64 0, .int .i64 0, .int .i64 0, .int .i64 0] 48) = w6 at *
      generalize w5.heap.size = E at *
      obtain ⟨c0, c1, c2, c3, c4, c5⟩ := cells6 (c := c) hC6
      obtain ⟨d0, d1, d2, d3, d4, d5⟩ := cells6 (c := c) hD6
      obtain ⟨e0, e1, e2, e3, e4, e5⟩ := cells6 (c := zC) hE6
      clear hC6 hD6
      simp only [zC] at e0 e1 e2 e3 e4 e5
      clear hE6
      go_wp2_with (go_at_call 9; refine (lives_any _).mono ?_; rintro e w7 ⟨rfl, hb7⟩; have B7 := hid (B6.out.trans (hb7.mono B6.out.size)); clear hb7)
      go_ret
      exact ⟨rfl, B7.out⟩
    | true =>
      have HTX0 := hid (fun W => (HT2.out W).mono (fun e w' (h : TkP l W e w') => show e = Ending.returned (.tuple #[chV (tkP l 6), .int .i64 0]) ∧ Below W.heap.size W w' from ⟨by rw [h.1]; unfold tkD; rw [hb]; rfl, h.2⟩))
      obtain ⟨h1, h2⟩ := HON.out hb
      have HXB := hid h1
      have HXJ := hid h2
      clear HT2 HON hb HTB HJ h1 h2
      generalize tkP l 6 = x at *
      have HTX := hid (fun W => (HTX0.out W).mono (fun e w' h => show e = Ending.returned (.tuple #[.agg #[.int .i64 x.k, .int .i64 x.sh, .int .i64 x.ot, .int .i64 x.at', .int .i64 x.out, .int .i64 x.in'], .int .i64 0]) ∧ Below W.heap.size W w' from h))
      clear HTX0
      go_upto_region 5 with (go_at_call 17; refine (HTX.out _).mono ?_; rintro e w5 ⟨rfl, hb5⟩; have B5 := hid hb5; clear hb5)
      have hb6 : Below w5.heap.size w5 (w5.alloc (.cells #[.int .i64 x.k, .int .i64 x.sh, .int .i64 x.ot, .int .i64 x.at', .int .i64 x.out, .int .i64 x.in'] 48)) := (Below.refl _ _).alloc (Nat.le_refl _) _
      have hE6 := heap_alloc_new w5 (.cells #[.int .i64 x.k, .int .i64 x.sh, .int .i64 x.ot, .int .i64 x.at', .int .i64 x.out, .int .i64 x.in'] 48)
      have hD6 := (hb6.block D (Nat.lt_of_lt_of_le (lt_of_block hD4) B5.out.size)).trans ((B5.out.block D (lt_of_block hD4)).trans hD4)
      have hC6 := (hb6.block C (Nat.lt_of_lt_of_le (lt_of_block hC4) B5.out.size)).trans ((B5.out.block C (lt_of_block hC4)).trans hC4)
      have B6 := hid ((B4.out.trans (B5.out.mono B4.out.size)).trans (hb6.mono (B4.out.trans (B5.out.mono B4.out.size)).size))
      clear hb6 hD4 hC4
      generalize w5.alloc (.cells #[.int .i64 x.k, .int .i64 x.sh, .int .i64 x.ot, .int .i64 x.at', .int .i64 x.out, .int .i64 x.in'] 48) = w6 at *
      generalize w5.heap.size = E at *
      obtain ⟨c0, c1, c2, c3, c4, c5⟩ := cells6 (c := c) hC6
      obtain ⟨d0, d1, d2, d3, d4, d5⟩ := cells6 (c := c) hD6
      obtain ⟨e0, e1, e2, e3, e4, e5⟩ := cells6 (c := x) hE6
      clear hC6 hD6
      have HLX := hid (fun W => alay_any x W HXJ.out)
      rw [HXB.out] at HLX
      go_wp2_with (first | (refine wpl_loadK rfl _ rfl E rfl _ _ _ rfl hE6 ?_) | (go_at_call 18; refine (HLX.out _).mono ?_; rintro e w7 ⟨rfl, hb7⟩; rw [← HSL.out]; have B7 := hid (B6.out.trans (hb7.mono B6.out.size)); clear hb7) | (go_at_call 9; refine (lives_any _).mono ?_; rintro e w8 ⟨rfl, hb8⟩; have B8 := hid (B7.out.trans (hb8.mono B7.out.size)); clear hb8))
      go_ret
      exact ⟨rfl, B8.out⟩
end Go.Proofs.Ytplpbnglcfdaaaa
