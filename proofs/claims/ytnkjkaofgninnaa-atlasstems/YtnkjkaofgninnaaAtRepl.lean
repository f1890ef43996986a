/- Index, Contains and Sort of rows of numbers; the document's swap; fits and members of a Replace. Conditions: they lie in memory. -/
import Derived.Sort.OwnSortedInts
import Derived.Test.YtnkjkaofgninnaaAtSort
import Derived.Test.YtnkjkaofgninnaaAtReplF
import Derived.Test.YtnkjkaofgninnaaAtSpans
import Derived.Test.YtnkjkaofgninnaaAtSame
namespace Go.Proofs.Ytnkjkaofgninnaa
open Go.RowKit Go.Maps Go.Shelf Go.Sort
set_option linter.unusedVariables false
set_option linter.unusedSimpArgs false

/-- What Index answers. -/
def IxP (l : List Int) (x : Int) (w : World) (e : Ending) (w' : World) : Prop := w' = w ∧ ((∃ k, ∃ h : k < l.length, l[k] = x ∧ e = .returned (.int .i64 k)) ∨ (x ∉ l ∧ e = .returned (.int .i64 (-1))))
set_option maxRecDepth 100000 in
set_option maxHeartbeats 4000000 in
theorem nindex_any (l : List Int) (x : Int) (v : Value) (w : World) (hv : Nums w v l) :
    Calls Try.prog 49 #[v, .int .i64 x] w (IxP l x w) := by
  have HV := hid hv
  have hL := hv.len
  obtain ⟨va, vc, rfl⟩ := hv.shape
  clear hv
  go_enter Try.func49, Try.ntmps49
  go_wp2_with fail
  go_loopw [5, 8] (fun _ iv wr => ∃ i : Nat, iv = .int .i64 i ∧ i ≤ l.length ∧ (∀ j, (h : j < l.length) → j < i → l[j] ≠ x) ∧ wr = w) (fun _ iv _ => l.length - (intOf iv).toNat)
  case atStart => exact ⟨0, rfl, Nat.zero_le _, (fun j _ hj => by omega), rfl⟩
  case round =>
    obtain ⟨i, rfl, hi, hall, rfl⟩ := hrel
    have HALL := hid hall
    clear hall
    by_cases hlt : (i : Int) < (l.length : Int)
    · have hil : i < l.length := by omega
      obtain ⟨gd, od, rfl⟩ := HV.out.addr (by omega)
      have c0 := HV.out.lit i hil
      obtain ⟨r, hr⟩ : ∃ r, r = l[i] := ⟨_, rfl⟩
      rw [← hr] at c0
      by_cases hx : r = x
      · have HH : Hid (IxP l x wr (.returned (.int .i64 i)) wr) := hid ⟨rfl, .inl ⟨i, hil, by rw [← hr, hx], rfl⟩⟩
        subst hx
        clear hr
        go_wp2_with fail
        go_ret
        exact HH.out
      · have g : (x == r) = false := by simpa using fun e => hx e.symm
        have HN : Hid (∀ j, (h : j < l.length) → j < i + 1 → l[j] ≠ x) := hid fun j h hj => by
          rcases Nat.lt_or_ge j i with h1 | h1
          · exact HALL.out j h h1
          · have e : j = i := by omega
            subst e
            rw [← hr]; exact hx
        clear hr hx
        go_wp2_with fail
        go_roundw
        case rel => exact ⟨i + 1, by go_num, by omega, HN.out, by first | rfl | trivial⟩
        case measure => simp [intOf]; omega
    · have HH : Hid (IxP l x wr (.returned (.int .i64 (-1))) wr) := hid ⟨rfl, .inr ⟨fun hm => by
        obtain ⟨j, hj, he⟩ := List.mem_iff_getElem.1 hm
        exact HALL.out j hj (by omega) he, rfl⟩⟩
      go_wp2_with fail
      go_ret
      exact HH.out
set_option maxRecDepth 100000 in
theorem ncontains_any (l : List Int) (x : Int) (v : Value) (w : World) (hv : Nums w v l) :
    Calls Try.prog 46 #[v, .int .i64 x] w fun e w' => e = .returned (.bool (decide (x ∈ l))) ∧ w' = w := by
  have hI := hid (nindex_any l x v w hv)
  obtain ⟨va, vc, rfl⟩ := hv.shape
  by_cases hm : x ∈ l
  · rw [decide_eq_true hm]
    have HM := hid hm
    clear hm hv
    go_enter Try.func46, Try.ntmps46
    go_wp2_with (go_at_call 49; refine hI.out.mono ?_; rintro e w2 ⟨hw2, ⟨k, hk, -, rfl⟩ | ⟨hn, -⟩⟩; rotate_left; exact absurd HM.out hn; subst hw2)
    go_ret
    exact ⟨rfl, rfl⟩
  · rw [decide_eq_false hm]
    have HM := hid hm
    clear hm hv
    go_enter Try.func46, Try.ntmps46
    go_wp2_with (go_at_call 49; refine hI.out.mono ?_; rintro e w2 ⟨hw2, ⟨k, hk, he, rfl⟩ | ⟨-, rfl⟩⟩; exact absurd (by rw [← he]; exact List.getElem_mem hk) HM.out; subst hw2)
    go_ret
    exact ⟨rfl, rfl⟩
/-- Sort of a row of one's own. -/
theorem nsort_any (l : List Int) (B g cap : Nat) (w : World) (ho : w.ownsRow B 3 1 (.slice (some ⟨g, 0, none⟩) l.length cap) l.length (nvs l)) (h0 : 0 < l.length) (hl : l.length ≤ 1000000) :
    Calls Try.prog 50 #[.slice (some ⟨g, 0, none⟩) l.length cap] w fun e w' => e = .returned (.tuple #[]) ∧ w'.ownsRow B 3 1 (.slice (some ⟨g, 0, none⟩) l.length cap) l.length (nvs (l.mergeSort fun x y => decide (x ≤ y))) ∧ w.grownBy w' (some g) := by
  rcases ho.2 with ⟨hn, -⟩ | ⟨g', cap', cur, hv, hB, hg, hn, hcap, hsz, ht⟩
  · cases hn
  cases hv
  have ht' : cur.toList.take l.length = l.map (Value.int .i64) := by rw [Nat.mul_one] at ht; exact ht
  refine (show Calls Try.prog 50 #[.slice (some ⟨g, 0, none⟩) l.length cap] w _ from Any.slices_Sort_int Try.lays189 g 0 cap l w (holds_of_blockI hg ht') (lt_of_block hg) (by omega)).mono ?_
  rintro e w' ⟨rfl, n, os, rfl⟩
  exact ⟨rfl, ownsRow_sortedI (by rw [List.length_mergeSort]) hB hg hn hcap hsz, grownBy_sortedI _⟩
set_option maxRecDepth 100000 in
set_option maxHeartbeats 4000000 in
theorem fits_rep (c : ChD) (S : ShD) (mv pv v : Value) (w : World) (hk3 : c.k = 3) (hG : ShR w v [⟨S, mv, pv⟩]) :
    Calls Try.prog 28 #[chV c, v] w fun e w' => e = .returned (.bool (swB S.mem c.out c.in')) ∧ Below w.heap.size w w' := by
  obtain ⟨g, vc, rfl⟩ := hG.shape (by simp)
  obtain ⟨⟨ma, mc, rfl⟩, ⟨pa, pc, rfl⟩⟩ := (show ShM w S mv pv from hG.m ⟨S, mv, pv⟩ (by simp)).shape
  obtain ⟨k, sh, ot, at', out, in'⟩ := c
  simp only at hk3
  have HK := hid hk3
  clear hk3
  have HFB : Hid (swB S.mem out in' = (decide (out ∈ S.mem) && ((!decide (in' ∈ S.mem)) && nodeB in'))) := hid (by unfold swB; congr 2; simp)
  obtain ⟨w1, hw1⟩ : ∃ w1, w1 = w.alloc (.cells #[.int .i64 k, .int .i64 sh, .int .i64 ot, .int .i64 at', .int .i64 out, .int .i64 in'] 24) := ⟨_, rfl⟩
  have B1 : Below w.heap.size w w1 := by rw [hw1]; exact (Below.refl _ _).alloc (Nat.le_refl _) _
  have hA1 : w1.heap[w.heap.size]? = some (.cells #[.int .i64 k, .int .i64 sh, .int .i64 ot, .int .i64 at', .int .i64 out, .int .i64 in'] 24 (0, 0)) := by rw [hw1]; exact heap_alloc_new _ _
  have HW1 := hid hw1
  have HB1 := hid B1
  have HG1 := hid (hG.below B1)
  clear hw1
  clear hG B1
  generalize swB S.mem out in' = r at HFB ⊢
  simp only [List.length_cons, List.length_nil, Nat.zero_add] at HG1
  simp only [List.length_cons, List.length_nil, Nat.zero_add]
  have hRG := HG1.out.range 0 (by simp)
  unfold SX.c at hRG
  simp only [List.getElem_cons_zero, Nat.zero_mul] at hRG
  unfold chV
  go_enter Try.func28, Try.ntmps28
  go_upto_region 1 with fail
  rw [← HW1.out]
  clear HW1
  obtain ⟨C, hCe⟩ : ∃ C, C = w.heap.size := ⟨_, rfl⟩
  rw [← hCe]
  rw [← hCe] at hA1
  clear hCe
  go_upto_region 2 with (refine wpl_loadM rfl _ rfl g 0 (by go_simp) _ _ _ _ _ hRG ?_)
  clear hRG
  have hb2 : Below w1.heap.size w1 (w1.alloc (.cells #[.int .i64 S.id, .int .i64 S.fr, .int .i64 S.to, .slice ma S.mem.length mc, .slice pa S.past.length pc] 46)) := (Below.refl _ _).alloc (Nat.le_refl _) _
  have hP2 := heap_alloc_new w1 (.cells #[.int .i64 S.id, .int .i64 S.fr, .int .i64 S.to, .slice ma S.mem.length mc, .slice pa S.past.length pc] 46)
  have B2 := hid (HB1.out.trans (hb2.mono HB1.out.size))
  have HG2 := hid (HG1.out.below hb2)
  have hA2 := (hb2.block C (lt_of_block hA1)).trans hA1
  clear hb2 hA1 HG1
  generalize w1.alloc (.cells #[.int .i64 S.id, .int .i64 S.fr, .int .i64 S.to, .slice ma S.mem.length mc, .slice pa S.past.length pc] 46) = w2 at *
  generalize w1.heap.size = P at *
  have a0 : w2.cell? ⟨C, 0, none⟩ = some (.int .i64 k) := by rw [cell_of_row _ _ _ _ _ _ hA2]; rfl
  have a4 : w2.cell? ⟨C, 4, none⟩ = some (.int .i64 out) := by rw [cell_of_row _ _ _ _ _ _ hA2]; rfl
  have a5 : w2.cell? ⟨C, 5, none⟩ = some (.int .i64 in') := by rw [cell_of_row _ _ _ _ _ _ hA2]; rfl
  have p3 : w2.cell? ⟨P, 3, none⟩ = some (.slice ma S.mem.length mc) := by rw [cell_of_row _ _ _ _ _ _ hP2]; rfl
  clear hP2 hA2
  obtain rfl : k = 3 := HK.out
  obtain ⟨b1, hb1⟩ : ∃ b1, b1 = decide (out ∈ S.mem) := ⟨_, rfl⟩
  obtain ⟨b2, hb2⟩ : ∃ b2, b2 = decide (in' ∈ S.mem) := ⟨_, rfl⟩
  obtain ⟨b3, hb3⟩ : ∃ b3, b3 = nodeB in' := ⟨_, rfl⟩
  rw [← hb1, ← hb2, ← hb3] at HFB
  have H1 := hid hb1.symm
  have H2 := hid hb2.symm
  have H3 := hid hb3.symm
  clear hb1 hb2 hb3
  have HM : Hid (Nums w2 (.slice ma S.mem.length mc) S.mem) := hid (nums_own (HG2.out.m ⟨S, .slice ma S.mem.length mc, .slice pa S.past.length pc⟩ (by simp)).m rfl)
  cases b1 with
  | false =>
    go_wp2_with (first | (go_at_call 46; refine (ncontains_any S.mem _ _ _ HM.out).mono ?_; (first | rw [H1.out] | rw [H2.out]); rintro e w3 ⟨rfl, hw3⟩; replace hw3 := hw3.symm; subst hw3) | (go_at_call 47; refine (anode_any _ _).mono ?_; rw [H3.out]; rintro e w3 ⟨rfl, hw3⟩; replace hw3 := hw3.symm; subst hw3))
    go_ret
    exact ⟨by rw [HFB.out]; rfl, B2.out⟩
  | true =>
    cases b2 with
    | true =>
      go_wp2_with (first | (go_at_call 46; refine (ncontains_any S.mem _ _ _ HM.out).mono ?_; (first | rw [H1.out] | rw [H2.out]); rintro e w3 ⟨rfl, hw3⟩; replace hw3 := hw3.symm; subst hw3) | (go_at_call 47; refine (anode_any _ _).mono ?_; rw [H3.out]; rintro e w3 ⟨rfl, hw3⟩; replace hw3 := hw3.symm; subst hw3))
      go_ret
      exact ⟨by rw [HFB.out]; rfl, B2.out⟩
    | false =>
      cases b3 with
      | true =>
        go_wp2_with (first | (go_at_call 46; refine (ncontains_any S.mem _ _ _ HM.out).mono ?_; (first | rw [H1.out] | rw [H2.out]); rintro e w3 ⟨rfl, hw3⟩; replace hw3 := hw3.symm; subst hw3) | (go_at_call 47; refine (anode_any _ _).mono ?_; rw [H3.out]; rintro e w3 ⟨rfl, hw3⟩; replace hw3 := hw3.symm; subst hw3))
        go_ret
        exact ⟨by rw [HFB.out]; rfl, B2.out⟩
      | false =>
        go_wp2_with (first | (go_at_call 46; refine (ncontains_any S.mem _ _ _ HM.out).mono ?_; (first | rw [H1.out] | rw [H2.out]); rintro e w3 ⟨rfl, hw3⟩; replace hw3 := hw3.symm; subst hw3) | (go_at_call 47; refine (anode_any _ _).mono ?_; rw [H3.out]; rintro e w3 ⟨rfl, hw3⟩; replace hw3 := hw3.symm; subst hw3))
        go_ret
        exact ⟨by rw [HFB.out]; rfl, B2.out⟩
set_option maxRecDepth 100000 in
set_option maxHeartbeats 4000000 in
theorem members_rep (c : ChD) (S : ShD) (mv pv : Value) (w : World) (hk : c.k = 3) (h : ShM w S mv pv) (hm : memB S.mem = true) (hs : swB S.mem c.out c.in' = true) :
    Calls Try.prog 31 #[chV c, shV S mv pv] w fun e w' => ∃ va vc, e = .returned (.slice va (swD S.mem c.out c.in').length vc) ∧ w'.ownsRow w.heap.size 3 1 (.slice va (swD S.mem c.out c.in').length vc) (swD S.mem c.out c.in').length (nvs (swD S.mem c.out c.in')) ∧ Below w.heap.size w w' := by
  obtain ⟨⟨ma, mc, rfl⟩, ⟨pa, pc, rfl⟩⟩ := h.shape
  obtain ⟨k, sh, ot, at', out, in'⟩ := c
  simp only at hk hs
  subst hk
  obtain ⟨hr, hn, -⟩ := mem_rise hm
  have hlen : S.mem.length ≤ 7 := by have := rise_len _ 0 hr hn; omega
  have hs3 : out ∈ S.mem ∧ in' ∉ S.mem ∧ (0 ≤ in' ∧ in' < 7) := by simpa [swB, nodeB] using hs
  have HM := hid hs3.1
  have HSS := hid fun (j : Nat) (hj : j < S.mem.length) (he : S.mem[j] = out) => sort_set S.mem out in' j hj he hr hn hs3.2.2 hs3.2.1
  have HSL := hid fun (j : Nat) (hj : j < S.mem.length) (he : S.mem[j] = out) => swD_len S.mem out in' j hj he hr hn hs3.2.2 hs3.2.1
  generalize swD S.mem out in' = Z at *
  obtain ⟨w1, hw1⟩ : ∃ w1, w1 = (w.alloc (.cells #[.int .i64 3, .int .i64 sh, .int .i64 ot, .int .i64 at', .int .i64 out, .int .i64 in'] 24)).alloc (.cells #[.int .i64 S.id, .int .i64 S.fr, .int .i64 S.to, .slice ma S.mem.length mc, .slice pa S.past.length pc] 46) := ⟨_, rfl⟩
  obtain ⟨hA1, hR1⟩ := heap_two w (.cells #[.int .i64 3, .int .i64 sh, .int .i64 ot, .int .i64 at', .int .i64 out, .int .i64 in'] 24) (.cells #[.int .i64 S.id, .int .i64 S.fr, .int .i64 S.to, .slice ma S.mem.length mc, .slice pa S.past.length pc] 46)
  rw [← hw1] at hA1 hR1
  have HB1 : Hid (Below w.heap.size w w1) := hid (by rw [hw1]; exact ((Below.refl _ _).alloc (Nat.le_refl _) _).alloc (by simp) _)
  have HW1 := hid hw1
  have c3 : w1.cell? ⟨w.heap.size + 1, 3, none⟩ = some (.slice ma S.mem.length mc) := by rw [cell_of_row _ _ _ _ _ _ hR1]; rfl
  have HMM := hid (nums_own (own_below h.m HB1.out) rfl)
  have HA1 := hid hA1
  clear hw1 hA1 hR1 h hr hn hs3 hs hm
  unfold chV shV
  go_enter Try.func31, Try.ntmps31
  go_upto_region 1 with fail
  rw [← HW1.out]
  clear HW1
  obtain ⟨C, hC⟩ : ∃ C, C = w.heap.size := ⟨_, rfl⟩
  rw [← hC] at HA1 c3
  rw [← hC]
  have HCE := hid hC
  clear hC
  go_upto_region 2 with (go_at_call 21; refine (cloneN_any _ _ _ HMM.out (by omega)).mono ?_; rintro e w2 ⟨va2, vc2, rfl, ho2, hb2⟩; have O2 := hid (own_lower ho2 HB1.out.size); have B2 := hid (HB1.out.trans (hb2.mono HB1.out.size)); have HA2 := hid ((hb2.block C (lt_of_block HA1.out)).trans HA1.out); clear ho2 hb2)
  have d0 : w2.cell? ⟨C, 0, none⟩ = some (.int .i64 3) := by rw [cell_of_row _ _ _ _ _ _ HA2.out]; rfl
  have d4 : w2.cell? ⟨C, 4, none⟩ = some (.int .i64 out) := by rw [cell_of_row _ _ _ _ _ _ HA2.out]; rfl
  have d5 : w2.cell? ⟨C, 5, none⟩ = some (.int .i64 in') := by rw [cell_of_row _ _ _ _ _ _ HA2.out]; rfl
  have HL0 : Hid (0 < S.mem.length) := hid (List.length_pos_of_mem HM.out)
  obtain ⟨g, rfl⟩ : ∃ g, va2 = some ⟨g, 0, none⟩ := own_some O2.out HL0.out
  have HG0 : Hid (w.heap.size ≤ g) := hid (World.ownsRow.lt O2.out g rfl).1
  obtain ⟨B0, hB0⟩ : ∃ B0, B0 = w.heap.size := ⟨_, rfl⟩
  rw [← hB0] at O2
  go_upto_region 3 with fail
  refine wp_region_held_drew (S := fun Y => Y.cell? ⟨C, 4, none⟩ = some (.int .i64 out) ∧ Y.cell? ⟨C, 5, none⟩ = some (.int .i64 in')) (by kernel_rfl) ⟨d4, d5⟩ (fun hHeld => ?_)
  refine wpAnyH_take (i := 0) (v := ?av0) rfl (by kernel_rfl) (by kernel_rfl) (by kernel_rfl) (fun _ _ _ h => h) (Or.inl ⟨by rfl, ?ay0⟩) (by assumption) ?ar0
  case ay0 => (intro w hSw; (try dsimp only at hSw); go_simp; try with_reducible rfl)
  (try simp only [Act.put, putS])
  refine wpAnyH_take (i := 1) (v := ?av1) rfl (by kernel_rfl) (by kernel_rfl) (by kernel_rfl) (fun _ _ _ h => h) (Or.inl ⟨by rfl, ?ay1⟩) (by assumption) ?ar1
  case ay1 => (intro w hSw; (try dsimp only at hSw); go_simp; try with_reducible rfl)
  (try simp only [Act.put, putS])
  refine wpAnyH_take (i := 2) (v := ?av2) rfl (by kernel_rfl) (by kernel_rfl) (by kernel_rfl) (fun _ _ _ h => h) (Or.inl ⟨by rfl, ?ay2⟩) (by assumption) ?ar2
  case ay2 => (intro w hSw; (try dsimp only at hSw); go_simp; try with_reducible rfl)
  (try simp only [Act.put, putS])
  refine wpAnyH_take (i := 3) (v := ?av3) rfl (by kernel_rfl) (by kernel_rfl) (by kernel_rfl) (fun _ _ _ h => h) (Or.inl ⟨by rfl, ?ay3⟩) (by assumption) ?ar3
  case ay3 => (intro w hSw; (try dsimp only at hSw); go_simp; try with_reducible rfl)
  (try simp only [Act.put, putS])
  refine wpAnyH_take (i := 5) (v := ?av5) rfl (by kernel_rfl) (by kernel_rfl) (by kernel_rfl) (fun _ _ _ h => h) (Or.inl ⟨by rfl, ?ay5⟩) (by assumption) ?ar5
  case ay5 => (intro w hSw; (try dsimp only at hSw); go_simp; try with_reducible rfl)
  (try simp only [Act.put, putS])
  refine wpAnyH_take (i := 6) (v := ?av6) rfl (by kernel_rfl) (by kernel_rfl) (by kernel_rfl) (fun _ _ _ h => h) (Or.inl ⟨by rfl, ?ay6⟩) (by assumption) ?ar6
  case ay6 => (intro w hSw; (try dsimp only at hSw); go_simp; try with_reducible rfl)
  (try simp only [Act.put, putS])
  refine wpAnyH_ready (rs := [4]) (by kernel_rfl) (by simp) ?_
  refine AllReadyH.cons rfl (fun K hK => ?_) AllReadyH.nil
  rw [if_pos (by rfl)]
  go_wp2_with fail
  refine (nindex_any S.mem out _ _ (nums_own (own_below O2.out ((Below.refl _ _).drew)) rfl)).mono ?_
  rintro e w3 ⟨hw3, ⟨k, hk, hke, rfl⟩ | ⟨hn, -⟩⟩
  rotate_left
  exact absurd HM.out hn
  subst hw3
  have HKE : Hid (∃ h : k < S.mem.length, S.mem[k] = out) := hid ⟨hk, hke⟩
  have HKQ : Hid (S.mem[k]? = some out) := hid (by rw [List.getElem?_eq_getElem hk, hke])
  have HKL := hid hk
  clear hke
  clear hk
  refine hK.out _ _ hHeld (fun hHeld => ?_)
  try clear hK K
  (try simp only [Act.put, putS])
  have hkl : (k : Int) < (S.mem.length : Int) := by have := HKL.out; omega
  refine wpAnyH_take (i := 7) (v := ?bv7) rfl (by kernel_rfl) (by kernel_rfl) (by kernel_rfl) (fun _ _ _ h => h) (Or.inl ⟨by rfl, ?by7⟩) (by assumption) ?br7
  case by7 => (intro w hSw; (try dsimp only at hSw); go_simp; try with_reducible rfl)
  (try simp only [Act.put, putS])
  refine wpAnyH_ready (rs := [8]) (by kernel_rfl) (by simp) ?_
  refine AllReadyH.cons rfl (fun K hK => ?_) AllReadyH.nil
  rw [if_pos (by rfl)]
  have t1 : w2.drew.cell? ⟨g, k, none⟩ = some (.int .i64 out) := own_cell O2.out (by unfold nvs; rw [List.getElem?_map, HKQ.out]; rfl)
  have t2 : w2.drew.frozen? ⟨g, k, none⟩ = false := by
    rcases O2.out.2 with ⟨hn, -⟩ | ⟨g', cap', cur, hv, hB, hg, -⟩
    · cases hn
    cases hv
    exact frozen_of_row _ _ _ _ _ hg
  go_simp
  have hgC : C ≠ g := fun e => own_ne O2.out HA2.out (by decide) (by rw [e]; rfl)
  have hC3 : (w2.setCell ⟨g, k, none⟩ (.int .i64 in')).heap[C]? = some (.cells #[.int .i64 3, .int .i64 sh, .int .i64 ot, .int .i64 at', .int .i64 out, .int .i64 in'] 24 (0, 0)) := (Below.heap_setCell _ _ _ _ hgC).trans HA2.out
  refine hK.out _ _ ⟨by show (w2.setCell ⟨g, k, none⟩ (.int .i64 in')).cell? _ = _; rw [cell_of_row _ _ _ _ _ _ hC3]; rfl, by show (w2.setCell ⟨g, k, none⟩ (.int .i64 in')).cell? _ = _; rw [cell_of_row _ _ _ _ _ _ hC3]; rfl⟩ (fun hHeld => ?_)
  try clear hK K
  (try simp only [Act.put, putS])
  refine wpAnyH_done (by kernel_rfl) ?_ _
  obtain ⟨hk9, he9⟩ := HKE.out
  have HZ := hid (HSS.out k hk9 he9)
  have HZL := hid (HSL.out k hk9 he9)
  have O3 : Hid ((w2.setCell ⟨g, k, none⟩ (.int .i64 in')).drew.ownsRow B0 3 1 (.slice (some ⟨g, 0, none⟩) (S.mem.set k in').length vc2) (S.mem.set k in').length (nvs (S.mem.set k in'))) := hid (by
    rw [List.length_set]
    have := own_put (i := k) (u := .int .i64 in') O2.out (by omega)
    rw [show nvs (S.mem.set k in') = (nvs S.mem).set k (.int .i64 in') from by unfold nvs; rw [List.map_set]]
    exact this)
  have B3 : Hid (Below w.heap.size w (w2.setCell ⟨g, k, none⟩ (.int .i64 in')).drew) := hid (below_set B2.out (HG0.out)).drew
  have HLS : Hid ((S.mem.set k in').length = S.mem.length) := hid (List.length_set ..)
  rw [← HLS.out]
  generalize S.mem.set k in' = M at *
  generalize (w2.setCell ⟨g, k, none⟩ (.int .i64 in')).drew = w3 at *
  go_wp2_with (go_at_call 50; refine (nsort_any M B0 g vc2 _ O3.out (by have := HLS.out; have := HL0.out; omega) (by have := HLS.out; omega)).mono ?_; rintro e w4 ⟨rfl, ho4, hg4⟩; have O4 := hid ho4; have B4 := hid (B3.out.grown hg4 B3.out.size (fun k hk => by cases hk; exact HG0.out)); clear ho4 hg4)
  go_ret
  have hzl : Z.length = M.length := by rw [HZL.out, HLS.out]
  rw [hzl]
  have h4 := O4.out
  rw [HZ.out, hB0] at h4
  exact ⟨_, _, rfl, h4, B4.out⟩
end Go.Proofs.Ytnkjkaofgninnaa
