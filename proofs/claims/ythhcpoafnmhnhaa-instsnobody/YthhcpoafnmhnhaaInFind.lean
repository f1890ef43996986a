/- What the document's Find finds in a row of instances. Conditions: the row lies in memory. -/
import Derived.Test.YthhcpoafnmhnhaaInRPut
namespace Go.Proofs.Ythhcpoafnmhnhaa
open Go.RowKit Go.Maps Go.Shelf
set_option linter.unusedVariables false
set_option linter.unusedSimpArgs false

/-- The place of a Ref in a row; -1: it is not there. -/
def FindR (X : List EnI) (r : Int × Int) (i : Int) : Prop := (∃ k, ∃ h : k < X.length, X[k].x.ref = r ∧ i = k) ∨ (i = -1 ∧ ∀ e ∈ X, e.x.ref ≠ r)
set_option maxRecDepth 100000 in
set_option maxHeartbeats 4000000 in
theorem rfind_any (v : Value) (l : List EnI) (r : Int × Int) (w : World) (hv : Ins w v l) :
    Calls Try.prog 7 #[v, .agg #[.int .i64 r.1, .int .i64 r.2]] w fun e w' => ∃ i, e = .returned (.int .i64 i) ∧ FindR l r i ∧ Below w.heap.size w w' := by
  have hL := hv.len
  have HV0 := hid hv
  obtain ⟨va, vc, rfl⟩ := hv.shape
  clear hv
  obtain ⟨r0, r1⟩ := r
  simp only
  obtain ⟨w1, hw1⟩ : ∃ w1, w1 = w.alloc (.cells #[.int .i64 r0, .int .i64 r1] 24) := ⟨_, rfl⟩
  have b1 : Below w.heap.size w w1 := by rw [hw1]; exact (Below.refl _ _).alloc (Nat.le_refl _) _
  have hA : w1.heap[w.heap.size]? = some (.cells #[.int .i64 r0, .int .i64 r1] 24 (0, 0)) := by rw [hw1]; exact heap_alloc_new _ _
  have HW1 := hid hw1
  have B1 := hid b1
  have HA := hid hA
  have HV := hid (HV0.out.below b1)
  clear hw1 b1 hA HV0
  go_enter Try.func7, Try.ntmps7
  go_upto_region 1 with fail
  rw [← HW1.out]
  obtain ⟨A, hAe⟩ : ∃ A, A = w.heap.size := ⟨_, rfl⟩
  rw [← hAe] at HA
  rw [← hAe]
  clear hAe HW1
  go_wp2_with fail
  go_loopw [5, 6, 9] (fun _ _ iv wr => ∃ i : Nat, iv = .int .i64 i ∧ i ≤ l.length ∧ (∀ j (h : j < l.length), j < i → l[j].x.ref ≠ (r0, r1)) ∧ Below w1.heap.size w1 wr) (fun _ _ iv _ => l.length - (intOf iv).toNat)
  case atStart => exact ⟨0, rfl, Nat.zero_le _, (fun j _ hj => by omega), Below.refl _ _⟩
  case round =>
    obtain ⟨i, rfl, hi, hall, hbr⟩ := hrel
    have HALL := hid hall
    have BR := hid hbr
    have HAr := hid ((hbr.block A (lt_of_block HA.out)).trans HA.out)
    have HVr := hid (HV.out.below hbr)
    clear hall hbr
    by_cases hlt : (i : Int) < (l.length : Int)
    · have hil : i < l.length := by omega
      obtain ⟨gb, go', hva⟩ := HVr.out.addr (by omega)
      subst hva
      have HRG := hid (HVr.out.range i hil)
      have HYI : Hid (l[i].x.ref = (r0, r1) → FindR l (r0, r1) i) := hid fun h => .inl ⟨i, hil, h, rfl⟩
      have HNX : Hid (l[i].x.ref ≠ (r0, r1) → ∀ j (h : j < l.length), j < i + 1 → l[j].x.ref ≠ (r0, r1)) := hid fun h j hj h1 => by
        rcases Nat.lt_or_ge j i with h2 | h2
        · exact HALL.out j hj h2
        · obtain rfl : j = i := by omega
          exact h
      generalize l[i] = y at HRG HYI HNX
      have hcy : y.c.size = 16 := rfl
      have hyo := y.one
      go_upto_region 4 with (first | (refine wpl_loadE rfl _ rfl gb (go' + i * 16) rfl y.c hcy HRG.out ?_) | (refine wpl_storeC rfl _ _ rfl wr.heap.size y.c rfl rfl hcy hyo _ zeroI (.slice none 0 0) (.slice none 0 0) (heap_alloc_new _ _) ?_))
      obtain ⟨wa, hwa⟩ : ∃ wa, wa = (wr.alloc (.cells (instC zeroI (.slice none 0 0) (.slice none 0 0)) 38)).setRow wr.heap.size y.c := ⟨_, rfl⟩
      have ba : Below wr.heap.size wr wa := by rw [hwa]; exact below_row ((Below.refl _ _).alloc (Nat.le_refl _) _) (Nat.le_refl _) _
      have hYb : wa.heap[wr.heap.size]? = some (.cells y.c 38 (0, 0)) := by rw [hwa]; exact setRow_heap _ _ _ _ _ _ (heap_alloc_new _ _)
      have HWA := hid hwa
      clear hwa
      unfold instC zeroI at HWA
      simp only at HWA
      rw [← HWA.out]
      obtain ⟨Y, hYe⟩ : ∃ Y, Y = wr.heap.size := ⟨_, rfl⟩
      rw [← hYe] at hYb
      rw [← hYe]
      clear hYe HWA
      have k0 : wa.cell? ⟨Y, 0, none⟩ = some (.int .i64 y.x.ref.1) := by rw [cell_of_row _ _ _ _ _ _ hYb]; rfl
      have k1 : wa.cell? ⟨Y, 1, none⟩ = some (.int .i64 y.x.ref.2) := by rw [cell_of_row _ _ _ _ _ _ hYb]; rfl
      have hAa := (ba.block A (lt_of_block HAr.out)).trans HAr.out
      have a0 : wa.cell? ⟨A, 0, none⟩ = some (.int .i64 r0) := by rw [cell_of_row _ _ _ _ _ _ hAa]; rfl
      have a1 : wa.cell? ⟨A, 1, none⟩ = some (.int .i64 r1) := by rw [cell_of_row _ _ _ _ _ _ hAa]; rfl
      have BA := hid (BR.out.trans (ba.mono BR.out.size))
      clear hAa ba hYb
      obtain ⟨s0, hs0⟩ : ∃ s, s = y.x.ref.1 := ⟨_, rfl⟩
      obtain ⟨s1, hs1⟩ : ∃ s, s = y.x.ref.2 := ⟨_, rfl⟩
      have HS : Hid (y.x.ref = (s0, s1)) := hid (by rw [hs0, hs1])
      rw [← hs0] at k0
      rw [← hs1] at k1
      clear hs0 hs1
      cases e0 : (s0 == r0) with
      | false =>
        go_wp2_with fail
        go_roundw
        case rel => exact ⟨i + 1, by go_num, by omega, HNX.out (by rw [HS.out]; intro h; cases h; simp at e0), BA.out⟩
        case measure => simp [intOf]; omega
      | true =>
        cases e1 : (s1 == r1) with
        | false =>
          go_wp2_with fail
          go_roundw
          case rel => exact ⟨i + 1, by go_num, by omega, HNX.out (by rw [HS.out]; intro h; cases h; simp at e1), BA.out⟩
          case measure => simp [intOf]; omega
        | true =>
          have HYY := hid (HYI.out (by rw [HS.out, beq_iff_eq.1 e0, beq_iff_eq.1 e1]))
          go_wp2_with fail
          go_ret
          exact ⟨i, rfl, HYY.out, B1.out.trans (BA.out.mono B1.out.size)⟩
    · have HN : Hid (∀ e ∈ l, e.x.ref ≠ (r0, r1)) := hid fun e he => by
        obtain ⟨j, hj, h2⟩ := List.getElem_of_mem he
        rw [← h2]
        exact HALL.out j hj (by omega)
      go_wp2_with fail
      go_ret
      exact ⟨-1, rfl, .inr ⟨rfl, HN.out⟩, B1.out.trans (BR.out.mono B1.out.size)⟩
end Go.Proofs.Ythhcpoafnmhnhaa
