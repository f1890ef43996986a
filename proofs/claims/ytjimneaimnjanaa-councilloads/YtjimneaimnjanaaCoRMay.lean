/- The document's May of a state, its Last and Now. Conditions: the entries lie in memory. -/
import Derived.Test.YtjimneaimnjanaaCoLoad
import Derived.Test.YtjimneaimnjanaaCoRef
namespace Go.Proofs.Ytjimneaimnjanaa
open Go.RowKit
set_option linter.unusedVariables false
set_option linter.unusedSimpArgs false

theorem fol_le (term : Int) : ∀ (l : List En) (past : Int), folR term past l = true → past ≤ term
  | [], past, h => by simpa [folR] using h
  | e :: l, past, h => by
    simp only [folR, Bool.and_eq_true, Bool.not_eq_true', decide_eq_false_iff_not] at h
    have := fol_le term l e.term h.2
    omega
theorem mayD_iff (D : CoD) : mayD D = true ↔ votB (vtx D.bv) = true ∧ (0 ≤ D.term ∧ D.term ≤ 1099511627776) ∧ (0 ≤ D.bi ∧ D.bi ≤ 1099511627776) ∧ (0 ≤ D.bt ∧ D.bt ≤ 1099511627776) ∧ (D.vote = -1 ∨ (0 ≤ D.vote ∧ D.vote < 7)) ∧ D.log.length ≤ 4096 ∧ folR D.term D.bt D.log = true := by
  unfold mayD folB nmB nodeB
  simp only [Bool.and_eq_true, Bool.or_eq_true, List.all_cons, List.all_nil, decide_eq_true_eq, beq_iff_eq, Bool.and_true]
  constructor
  · rintro ⟨h1, ⟨h2, h3, h4⟩, h5, h6, h7⟩; exact ⟨h1, h2, h3, h4, h5, h6, h7⟩
  · rintro ⟨h1, h2, h3, h4, h5, h6, h7⟩; exact ⟨h1, ⟨h2, h3, h4⟩, h5, h6, h7⟩
/-- A state's cells. -/
def stC (D : CoD) (lv : Value) : Array Value := #[.int .i64 D.term, .int .i64 D.vote, .int .i64 D.bi, .int .i64 D.bt, .string D.bv, .string D.bx, lv]
theorem ent_iff (k : Int) (s : ByteArray) : entB k s = true ↔ s.size ≤ 4096 ∧ 0 ≤ k ∧ k ≤ 2 ∧ (k = 2 → votB (vtx s) = true) := by
  unfold entB
  simp only [Bool.and_eq_true, Bool.or_eq_true, decide_eq_true_eq]
  constructor
  · rintro ⟨h1, (h | h) | ⟨h, h2⟩⟩
    · exact ⟨h1, by omega, by omega, by omega⟩
    · exact ⟨h1, by omega, by omega, by omega⟩
    · exact ⟨h1, by omega, by omega, fun _ => h2⟩
  · rintro ⟨h1, h2, h3, h4⟩
    refine ⟨h1, ?_⟩
    by_cases h : k = 2
    · exact .inr ⟨h, h4 h⟩
    · exact .inl (by omega)
set_option maxRecDepth 100000 in
set_option maxHeartbeats 8000000 in
theorem rmay_any (lv : Value) (D : CoD) (w : World) (hv : Ens w lv D.log) (hs : D.bv.size ≤ 9223372036854775807) (hx : ∀ e ∈ D.log, e.text.size ≤ 9223372036854775807) :
    Calls Try.prog 21 #[.agg (stC D lv)] w fun e w' => e = .returned (.bool (mayD D)) ∧ Below w.heap.size w w' := by
  obtain ⟨va, vc, rfl⟩ := hv.shape
  have hL := hv.len
  unfold stC
  obtain ⟨w1, hw1⟩ : ∃ w1, w1 = w.alloc (.cells #[.int .i64 D.term, .int .i64 D.vote, .int .i64 D.bi, .int .i64 D.bt, .string D.bv, .string D.bx, .slice va D.log.length vc] 29) := ⟨_, rfl⟩
  have B1 : Hid (Below w.heap.size w w1) := hid (by rw [hw1]; exact (Below.refl _ _).alloc (Nat.le_refl _) _)
  have hA : w1.heap[w.heap.size]? = some (.cells #[.int .i64 D.term, .int .i64 D.vote, .int .i64 D.bi, .int .i64 D.bt, .string D.bv, .string D.bx, .slice va D.log.length vc] 29 (0, 0)) := by rw [hw1]; exact heap_alloc_new _ _
  have HW1 := hid hw1
  have HV1 := hid (hv.below B1.out)
  have HX := hid hx
  have HVO := hid (rvoters_any D.bv w1 hs)
  have hu : Try.prog.underlying 9 = some .string := by kernel_rfl
  clear hw1 hv hx hs
  go_enter Try.func21, Try.ntmps21
  go_upto_region 1 with fail
  rw [← HW1.out]
  obtain ⟨A, hAe⟩ : ∃ A, A = w.heap.size := ⟨_, rfl⟩
  rw [← hAe] at hA
  rw [← hAe]
  clear hAe HW1
  have a4 : w1.cell? ⟨A, 4, none⟩ = some (.string D.bv) := by rw [cell_of_row _ _ _ _ _ _ hA]; rfl
  go_upto_region 2 with (go_at_call 12; refine HVO.out.mono ?_; rintro e w2 ⟨v2, rfl, hb2, -⟩; have B2 := hid (B1.out.trans (hb2.mono B1.out.size)); have HV2 := hid (HV1.out.below hb2); have HA2 := hid ((hb2.block A (lt_of_block hA)).trans hA); clear hb2)
  clear a4 hA HVO
  have a0 : w2.cell? ⟨A, 0, none⟩ = some (.int .i64 D.term) := by rw [cell_of_row _ _ _ _ _ _ HA2.out]; rfl
  have a1 : w2.cell? ⟨A, 1, none⟩ = some (.int .i64 D.vote) := by rw [cell_of_row _ _ _ _ _ _ HA2.out]; rfl
  have a2 : w2.cell? ⟨A, 2, none⟩ = some (.int .i64 D.bi) := by rw [cell_of_row _ _ _ _ _ _ HA2.out]; rfl
  have a3 : w2.cell? ⟨A, 3, none⟩ = some (.int .i64 D.bt) := by rw [cell_of_row _ _ _ _ _ _ HA2.out]; rfl
  have a6 : w2.cell? ⟨A, 6, none⟩ = some (.slice va D.log.length vc) := by rw [cell_of_row _ _ _ _ _ _ HA2.out]; rfl
  have HM := hid (mayD_iff D)
  have HN : Hid (∀ p : Prop, (mayD D = true → p) → ¬ p → mayD D = false) := hid (fun p h1 h2 => Bool.eq_false_iff.2 fun hm => h2 (h1 hm))
  cases hok : votB (vtx D.bv) with
  | false =>
    have HR : Hid (mayD D = false) := hid (HN.out _ (fun h => (HM.out.1 h).1) (by rw [hok]; decide))
    go_wp2_with fail
    go_ret
    exact ⟨by rw [HR.out]; rfl, B2.out⟩
  | true =>
    by_cases g0 : D.term < 0
    · have HR : Hid (mayD D = false) := hid (HN.out (0 ≤ D.term) (fun h => (HM.out.1 h).2.1.1) (by omega))
      go_wp2_with fail
      go_ret
      exact ⟨by rw [HR.out]; rfl, B2.out⟩
    by_cases g1 : (1099511627776 : Int) < D.term
    · have HR : Hid (mayD D = false) := hid (HN.out (D.term ≤ 1099511627776) (fun h => (HM.out.1 h).2.1.2) (by omega))
      go_wp2_with fail
      go_ret
      exact ⟨by rw [HR.out]; rfl, B2.out⟩
    by_cases g2 : D.vote < -1
    · have HR : Hid (mayD D = false) := hid (HN.out (-1 ≤ D.vote) (fun h => by have := (HM.out.1 h).2.2.2.2.1; omega) (by omega))
      go_wp2_with fail
      go_ret
      exact ⟨by rw [HR.out]; rfl, B2.out⟩
    by_cases g3 : (6 : Int) < D.vote
    · have HR : Hid (mayD D = false) := hid (HN.out (D.vote ≤ 6) (fun h => by have := (HM.out.1 h).2.2.2.2.1; omega) (by omega))
      go_wp2_with fail
      go_ret
      exact ⟨by rw [HR.out]; rfl, B2.out⟩
    by_cases g4 : D.bi < 0
    · have HR : Hid (mayD D = false) := hid (HN.out (0 ≤ D.bi) (fun h => (HM.out.1 h).2.2.1.1) (by omega))
      go_wp2_with fail
      go_ret
      exact ⟨by rw [HR.out]; rfl, B2.out⟩
    by_cases g5 : (1099511627776 : Int) < D.bi
    · have HR : Hid (mayD D = false) := hid (HN.out (D.bi ≤ 1099511627776) (fun h => (HM.out.1 h).2.2.1.2) (by omega))
      go_wp2_with fail
      go_ret
      exact ⟨by rw [HR.out]; rfl, B2.out⟩
    by_cases g6 : D.bt < 0
    · have HR : Hid (mayD D = false) := hid (HN.out (0 ≤ D.bt) (fun h => (HM.out.1 h).2.2.2.1.1) (by omega))
      go_wp2_with fail
      go_ret
      exact ⟨by rw [HR.out]; rfl, B2.out⟩
    by_cases g7 : D.term < D.bt
    · have HR : Hid (mayD D = false) := hid (HN.out (D.bt ≤ D.term) (fun h => fol_le _ _ _ (HM.out.1 h).2.2.2.2.2.2) (by omega))
      go_wp2_with fail
      go_ret
      exact ⟨by rw [HR.out]; rfl, B2.out⟩
    by_cases g8 : (4096 : Int) < (D.log.length : Int)
    · have HR : Hid (mayD D = false) := hid (HN.out (D.log.length ≤ 4096) (fun h => (HM.out.1 h).2.2.2.2.2.1) (by omega))
      go_wp2_with fail
      go_ret
      exact ⟨by rw [HR.out]; rfl, B2.out⟩
    have HMF : Hid (mayD D = folR D.term D.bt D.log) := hid (by
      cases hf : folR D.term D.bt D.log with
      | false => exact HN.out _ (fun h => (HM.out.1 h).2.2.2.2.2.2) (by rw [hf]; decide)
      | true => exact HM.out.2 ⟨hok, by omega, by omega, by omega, by omega, by omega, hf⟩)
    clear HM HN hok
    go_upto_region 6 with fail
    clear a1 a2 a3 a6 g0 g1 g2 g3 g4 g5 g6
    go_loopw [5, 7, 8, 9, 71] (fun tv _ _ _ iv wr => ∃ (i : Nat) (p : Int), iv = .int .i64 i ∧ tv = .int .i64 p ∧ i ≤ D.log.length ∧ folR D.term D.bt D.log = folR D.term p (D.log.drop i) ∧ p ≤ D.term ∧ Below w2.heap.size w2 wr) (fun _ _ _ _ iv _ => D.log.length - (intOf iv).toNat)
    case atStart => exact ⟨0, D.bt, rfl, rfl, Nat.zero_le _, rfl, by omega, Below.refl _ _⟩
    case round =>
      obtain ⟨i, p, rfl, rfl, hi, hfo, hpt, hb⟩ := hrel
      have BR := hid hb
      have HF := hid hfo
      clear hb hfo
      have B0 := hid (B2.out.trans (BR.out.mono B2.out.size))
      by_cases hlt : (i : Int) < (D.log.length : Int)
      · have hil : i < D.log.length := by omega
        have HVR := hid (HV2.out.below BR.out)
        obtain ⟨gd, od, rfl⟩ := HVR.out.addr (by omega)
        obtain ⟨c0, c1, c2⟩ := HVR.out.lit i hil
        have HXI := hid (HX.out _ (List.getElem_mem hil))
        have HF2 : Hid (mayD D = (!decide (D.log[i].term < p) && entB D.log[i].kind D.log[i].text && folR D.term D.log[i].term (D.log.drop (i + 1)))) := hid (by
          rw [HMF.out, HF.out, List.drop_eq_getElem_cons hil]; rfl)
        have HF3 : Hid (∀ q, folR D.term q (D.log.drop (i + 1)) = true → q ≤ D.term) := hid (fun q h => fol_le _ _ _ h)
        generalize D.log[i] = x at *
        have tR : wr.cell? ⟨A, 0, none⟩ = some (.int .i64 D.term) := cell_later BR.out a0
        have b4 : Below wr.heap.size wr (wr.alloc (.cells #[.int .i64 x.term, .int .i64 x.kind, .string x.text] 73)) := (Below.refl _ _).alloc (Nat.le_refl _) _
        have hX : (wr.alloc (.cells #[.int .i64 x.term, .int .i64 x.kind, .string x.text] 73)).heap[wr.heap.size]? = some (.cells #[.int .i64 x.term, .int .i64 x.kind, .string x.text] 73 (0, 0)) := heap_alloc_new _ _
        have B4 := hid (BR.out.trans (b4.mono BR.out.size))
        have HVE := hid (rvoters_any x.text (wr.alloc (.cells #[.int .i64 x.term, .int .i64 x.kind, .string x.text] 73)) HXI.out)
        obtain ⟨w4, hw4⟩ : ∃ w4, w4 = wr.alloc (.cells #[.int .i64 x.term, .int .i64 x.kind, .string x.text] 73) := ⟨_, rfl⟩
        rw [← hw4] at hX B4 HVE b4
        have HW4 := hid hw4
        clear hw4
        obtain ⟨E, hE⟩ : ∃ E, E = wr.heap.size := ⟨_, rfl⟩
        rw [← hE] at hX
        have HEE := hid hE
        clear hE
        go_upto_region 8 with fail
        rw [← HW4.out, ← HEE.out]
        have e2 : w4.cell? ⟨E, 2, none⟩ = some (.string x.text) := by rw [cell_of_row _ _ _ _ _ _ hX]; rfl
        have HE4 := hid hX
        have t4 := cell_later b4 tR
        clear hX c0 c1 c2 tR b4 HW4 HEE
        go_upto_region 9 with (go_at_call 12; refine HVE.out.mono ?_; rintro e w5 ⟨v5, rfl, hb5, -⟩; have B5 := hid (B4.out.trans (hb5.mono B4.out.size)); have HE5 := hid ((hb5.block E (lt_of_block HE4.out)).trans HE4.out); have t5 := cell_later hb5 t4; clear hb5)
        clear e2 t4 HVE
        have d0 : w5.cell? ⟨E, 0, none⟩ = some (.int .i64 x.term) := by rw [cell_of_row _ _ _ _ _ _ HE5.out]; rfl
        have d1 : w5.cell? ⟨E, 1, none⟩ = some (.int .i64 x.kind) := by rw [cell_of_row _ _ _ _ _ _ HE5.out]; rfl
        have d2 : w5.cell? ⟨E, 2, none⟩ = some (.string x.text) := by rw [cell_of_row _ _ _ _ _ _ HE5.out]; rfl
        have B05 := hid (B2.out.trans (B5.out.mono B2.out.size))
        by_cases f0 : x.term < p
        · have HR : Hid (mayD D = false) := hid (by rw [HF2.out, decide_eq_true f0]; rfl)
          go_wp2_with fail
          go_ret
          exact ⟨by rw [HR.out]; rfl, B05.out⟩
        by_cases f1 : D.term < x.term
        · have HR : Hid (mayD D = false) := hid (by
            cases hf : folR D.term x.term (D.log.drop (i + 1)) with
            | false => rw [HF2.out, hf, Bool.and_false]
            | true => have := HF3.out _ hf; omega)
          go_wp2_with fail
          go_ret
          exact ⟨by rw [HR.out]; rfl, B05.out⟩
        have HEI := hid (ent_iff x.kind x.text)
        have HEN : Hid (∀ q : Prop, (entB x.kind x.text = true → q) → ¬ q → mayD D = false) := hid (fun q h1 h2 => by
          have : entB x.kind x.text = false := Bool.eq_false_iff.2 fun hm => h2 (h1 hm)
          rw [HF2.out, this, Bool.and_false, Bool.false_and])
        by_cases f2 : x.kind < 0
        · have HR : Hid (mayD D = false) := hid (HEN.out (0 ≤ x.kind) (fun h => (HEI.out.1 h).2.1) (by omega))
          go_wp2_with fail
          go_ret
          exact ⟨by rw [HR.out]; rfl, B05.out⟩
        by_cases f3 : (2 : Int) < x.kind
        · have HR : Hid (mayD D = false) := hid (HEN.out (x.kind ≤ 2) (fun h => (HEI.out.1 h).2.2.1) (by omega))
          go_wp2_with fail
          go_ret
          exact ⟨by rw [HR.out]; rfl, B05.out⟩
        by_cases f5 : (4096 : Int) < (x.text.size : Int)
        · have HR : Hid (mayD D = false) := hid (HEN.out (x.text.size ≤ 4096) (fun h => (HEI.out.1 h).1) (by omega))
          obtain ⟨nb, hnb⟩ : ∃ nb, votB (vtx x.text) = nb := ⟨_, rfl⟩
          rw [hnb]
          clear hnb
          by_cases f4 : x.kind = 2
          · have hk2 : (x.kind == 2) = true := by simp [f4]
            cases nb
            all_goals
              go_wp2_with fail
              go_ret
              exact ⟨by rw [HR.out]; rfl, B05.out⟩
          · have hk2 : (x.kind == 2) = false := by simpa using f4
            go_wp2_with fail
            go_ret
            exact ⟨by rw [HR.out]; rfl, B05.out⟩
        have HNX : Hid (entB x.kind x.text = true → folR D.term D.bt D.log = folR D.term x.term (D.log.drop (i + 1))) := hid (fun h => by
          rw [← HMF.out, HF2.out, h, decide_eq_false f0]; rfl)
        by_cases f4 : x.kind = 2
        · have hk2 : (x.kind == 2) = true := by simp [f4]
          cases hnb : votB (vtx x.text) with
          | false =>
            have HR : Hid (mayD D = false) := hid (HEN.out (votB (vtx x.text) = true) (fun h => (HEI.out.1 h).2.2.2 f4) (by rw [hnb]; decide))
            go_wp2_with fail
            go_ret
            exact ⟨by rw [HR.out]; rfl, B05.out⟩
          | true =>
            have HG := hid (HNX.out (HEI.out.2 ⟨by omega, by omega, by omega, fun _ => hnb⟩))
            clear hnb
            go_wp2_with fail
            go_roundw
            case rel => exact ⟨i + 1, x.term, by go_num, rfl, by omega, HG.out, by omega, B5.out⟩
            case measure => simp [intOf]; omega
        · have hk2 : (x.kind == 2) = false := by simpa using f4
          have HG := hid (HNX.out (HEI.out.2 ⟨by omega, by omega, by omega, fun h => absurd h f4⟩))
          go_wp2_with fail
          go_roundw
          case rel => exact ⟨i + 1, x.term, by go_num, rfl, by omega, HG.out, by omega, B5.out⟩
          case measure => simp [intOf]; omega
      · obtain rfl : i = D.log.length := by omega
        have HR : Hid (mayD D = true) := hid (by rw [HMF.out, HF.out, List.drop_length]; simpa [folR] using hpt)
        go_wp2_with fail
        go_ret
        exact ⟨by rw [HR.out]; rfl, B0.out⟩
/-- A state's last entry. -/
def lastT (D : CoD) : Int := tUp D D.log.length
set_option maxRecDepth 100000 in
set_option maxHeartbeats 4000000 in
theorem rlast_any (lv : Value) (D : CoD) (w : World) (hv : Ens w lv D.log) (hi : CoI D) :
    Calls Try.prog 11 #[.agg (stC D lv)] w fun e w' => e = .returned (.tuple #[.int .i64 (D.bi + D.log.length), .int .i64 (lastT D)]) ∧ Below w.heap.size w w' := by
  obtain ⟨va, vc, rfl⟩ := hv.shape
  have hlo := hi.lo
  have hhi := hi.hi
  have hll := hi.len
  unfold stC
  obtain ⟨w1, hw1⟩ : ∃ w1, w1 = w.alloc (.cells #[.int .i64 D.term, .int .i64 D.vote, .int .i64 D.bi, .int .i64 D.bt, .string D.bv, .string D.bx, .slice va D.log.length vc] 29) := ⟨_, rfl⟩
  have B1 : Hid (Below w.heap.size w w1) := hid (by rw [hw1]; exact (Below.refl _ _).alloc (Nat.le_refl _) _)
  have hA : w1.heap[w.heap.size]? = some (.cells #[.int .i64 D.term, .int .i64 D.vote, .int .i64 D.bi, .int .i64 D.bt, .string D.bv, .string D.bx, .slice va D.log.length vc] 29 (0, 0)) := by rw [hw1]; exact heap_alloc_new _ _
  have HW1 := hid hw1
  have HV1 := hid (hv.below B1.out)
  clear hw1 hv hi
  go_enter Try.func11, Try.ntmps11
  go_upto_region 1 with fail
  rw [← HW1.out]
  obtain ⟨A, hAe⟩ : ∃ A, A = w.heap.size := ⟨_, rfl⟩
  rw [← hAe] at hA
  rw [← hAe]
  clear hAe HW1
  have a2 : w1.cell? ⟨A, 2, none⟩ = some (.int .i64 D.bi) := by rw [cell_of_row _ _ _ _ _ _ hA]; rfl
  have a3 : w1.cell? ⟨A, 3, none⟩ = some (.int .i64 D.bt) := by rw [cell_of_row _ _ _ _ _ _ hA]; rfl
  have a6 : w1.cell? ⟨A, 6, none⟩ = some (.slice va D.log.length vc) := by rw [cell_of_row _ _ _ _ _ _ hA]; rfl
  clear hA
  by_cases h0 : D.log.length = 0
  · have HT : Hid (lastT D = D.bt ∧ D.bi + (D.log.length : Int) = D.bi) := hid ⟨by unfold lastT; rw [h0]; rfl, by omega⟩
    have hd : ((D.log.length : Int) == 0) = true := by simp; exact List.length_eq_zero_iff.1 h0
    go_upto_region 2 with fail
    go_quiet (fail)
    go_wp2_with fail
    go_ret2
    exact ⟨by rw [HT.out.1, HT.out.2]; rfl, B1.out.trans ((belowN w1 nq).mono B1.out.size)⟩
  · obtain ⟨q, hq⟩ : ∃ q, D.log.length = q + 1 := ⟨D.log.length - 1, by omega⟩
    have hd : ((D.log.length : Int) == 0) = false := by simp; intro e; rw [e] at h0; exact h0 rfl
    obtain ⟨gd, od, rfl⟩ := HV1.out.addr (by omega)
    obtain ⟨c0, -, -⟩ := HV1.out.lit q (by omega)
    have HT : Hid (lastT D = D.log[q].term) := hid ((congrArg (tUp D) hq).trans (by
      show (D.log.getD q _).term = _
      simp [List.getD, List.getElem?_eq_getElem (show q < D.log.length by omega)]))
    generalize D.log[q].term = y at *
    have hs1 : (D.log.length : Int) - 1 = (q : Int) := by omega
    have hw1 : IntKind.i64.wrap ((D.log.length : Int) - 1) = (q : Int) := by rw [hs1]; exact IntWalk.i64_in _ ⟨by omega, by omega⟩
    have hw2 : IntKind.i64.wrap (D.bi + (D.log.length : Int)) = D.bi + (D.log.length : Int) := IntWalk.i64_in _ ⟨by omega, by omega⟩
    have hql : (q : Int) < (D.log.length : Int) := by omega
    clear hq h0
    go_upto_region 3 with fail
    go_quiet (fail)
    go_wp2_with fail
    go_ret2
    exact ⟨by rw [HT.out]; rfl, B1.out.trans ((belowN w1 nq).mono B1.out.size)⟩
set_option maxRecDepth 100000 in
set_option maxHeartbeats 4000000 in
theorem rnow_any (lv : Value) (D : CoD) (w : World) (hv : Ens w lv D.log) :
    Calls Try.prog 13 #[.agg (stC D lv)] w fun e w' => e = .returned (.string (vNow D)) ∧ Below w.heap.size w w' := by
  obtain ⟨va, vc, rfl⟩ := hv.shape
  have hL := hv.len
  unfold stC
  obtain ⟨w1, hw1⟩ : ∃ w1, w1 = w.alloc (.cells #[.int .i64 D.term, .int .i64 D.vote, .int .i64 D.bi, .int .i64 D.bt, .string D.bv, .string D.bx, .slice va D.log.length vc] 29) := ⟨_, rfl⟩
  have B1 : Hid (Below w.heap.size w w1) := hid (by rw [hw1]; exact (Below.refl _ _).alloc (Nat.le_refl _) _)
  have hA : w1.heap[w.heap.size]? = some (.cells #[.int .i64 D.term, .int .i64 D.vote, .int .i64 D.bi, .int .i64 D.bt, .string D.bv, .string D.bx, .slice va D.log.length vc] 29 (0, 0)) := by rw [hw1]; exact heap_alloc_new _ _
  have HW1 := hid hw1
  have HV1 := hid (hv.below B1.out)
  clear hw1 hv
  go_enter Try.func13, Try.ntmps13
  go_upto_region 1 with fail
  rw [← HW1.out]
  obtain ⟨A, hAe⟩ : ∃ A, A = w.heap.size := ⟨_, rfl⟩
  rw [← hAe] at hA
  rw [← hAe]
  clear hAe HW1
  have a4 : w1.cell? ⟨A, 4, none⟩ = some (.string D.bv) := by rw [cell_of_row _ _ _ _ _ _ hA]; rfl
  have a6 : w1.cell? ⟨A, 6, none⟩ = some (.slice va D.log.length vc) := by rw [cell_of_row _ _ _ _ _ _ hA]; rfl
  clear hA
  go_wp2_with fail
  clear a4 a6
  go_loopw [3, 5, 11] (fun sv _ iv wr => ∃ i : Nat, iv = .int .i64 i ∧ sv = .string (vUp D i) ∧ i ≤ D.log.length ∧ Below w1.heap.size w1 wr) (fun _ _ iv _ => D.log.length - (intOf iv).toNat)
  case atStart => exact ⟨0, rfl, rfl, Nat.zero_le _, Below.refl _ _⟩
  case round =>
    obtain ⟨i, rfl, rfl, hi, hb⟩ := hrel
    have BR := hid hb
    clear hb
    by_cases hlt : (i : Int) < (D.log.length : Int)
    · have hil : i < D.log.length := by omega
      have HVR := hid (HV1.out.below BR.out)
      obtain ⟨gd, od, rfl⟩ := HVR.out.addr (by omega)
      obtain ⟨c0, c1, c2⟩ := HVR.out.lit i hil
      have HU : Hid (vUp D (i + 1) = if D.log[i].kind = 2 then D.log[i].text else vUp D i) := hid (by
        rw [vUp, show D.log.getD i ⟨0, 0, ⟨#[]⟩⟩ = D.log[i] by simp [List.getD, List.getElem?_eq_getElem hil]])
      generalize D.log[i] = x at *
      generalize vUp D i = u at *
      have b4 : Below wr.heap.size wr (wr.alloc (.cells #[.int .i64 x.term, .int .i64 x.kind, .string x.text] 73)) := (Below.refl _ _).alloc (Nat.le_refl _) _
      have B4 := hid (BR.out.trans (b4.mono BR.out.size))
      by_cases hk : x.kind = 2
      · have HE := hid (HU.out.trans (if_pos hk))
        have hk2 : (x.kind == 2) = true := by simp [hk]
        clear b4 hk
        go_wp2_with fail
        go_roundw
        case rel => exact ⟨i + 1, by go_num, by rw [HE.out], by omega, B4.out⟩
        case measure => simp [intOf]; omega
      · have HE := hid (HU.out.trans (if_neg hk))
        have hk2 : (x.kind == 2) = false := by simpa using hk
        clear b4
        go_wp2_with fail
        go_roundw
        case rel => exact ⟨i + 1, by go_num, by rw [HE.out], by omega, B4.out⟩
        case measure => simp [intOf]; omega
    · obtain rfl : i = D.log.length := by omega
      go_wp2_with fail
      go_ret
      exact ⟨rfl, B1.out.trans (BR.out.mono B1.out.size)⟩
end Go.Proofs.Ytjimneaimnjanaa
