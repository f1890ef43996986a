/- Two stores that have the same are the same. -/
import Derived.Test.YtabmnelenfghhaaBkStore
import Derived.Laws.StructEq
import Derived.Deep.RegionHeld3
import Derived.Deep.CutBlock
import Derived.Deep.CutRange
namespace Go.Proofs.Ytabmnelenfghhaa
open Go.RowKit
attribute [local go_sem] Oper.semAt_some
set_option linter.unusedVariables false
set_option linter.unusedSimpArgs false

theorem Try.underMk : Try.prog.underlying 98 = some (.array 4 3) := by kernel_rfl
theorem Try.underI : Try.prog.underlying 3 = some (.int .i64) := by kernel_rfl
theorem Try.sizeI0 : (Try.prog.info? 3).map (·.size) = some 1 := by kernel_rfl
theorem part_int (xs : Array Value) (i : Nat) (x : Int) (h : xs[i]? = some (.int .i64 x)) (w : World) : (part 3 xs i).run Try.prog w = .ok (.int .i64 x) w := by
  obtain ⟨inf, hi, hs⟩ := Option.map_eq_some_iff.1 Try.sizeI0
  simp [part, go_sem, sizeOf, typeInfo, hi, hs, h]
theorem run_eq_arr4 (d : Nat) (a0 a1 a2 a3 : Int) (w : World) : (Op.equalIn (d + 2) 98 (.agg #[.int .i64 a0, .int .i64 a1, .int .i64 a2, .int .i64 a3]) (.agg #[.int .i64 a0, .int .i64 a1, .int .i64 a2, .int .i64 a3])).run Try.prog w = .ok true w := by
  obtain ⟨inf, hi, hs⟩ := Option.map_eq_some_iff.1 Try.sizeI0
  have e : ∀ x : Int, (Op.equalIn (d + 1) 3 (.int .i64 x) (.int .i64 x)).run Try.prog w = .ok true w := fun x => by simp [Op.equalIn, run_underlying Try.underI]
  have p0 := part_int #[.int .i64 a0, .int .i64 a1, .int .i64 a2, .int .i64 a3] 0 a0 rfl w
  have p1 := part_int #[.int .i64 a0, .int .i64 a1, .int .i64 a2, .int .i64 a3] 1 a1 rfl w
  have p2 := part_int #[.int .i64 a0, .int .i64 a1, .int .i64 a2, .int .i64 a3] 2 a2 rfl w
  have p3 := part_int #[.int .i64 a0, .int .i64 a1, .int .i64 a2, .int .i64 a3] 3 a3 rfl w
  have z : ∀ w, (sizeOf 3).run Try.prog w = .ok 1 w := fun w => by simp [sizeOf, typeInfo, hi, hs, go_sem]
  rw [show d + 2 = (d + 1) + 1 from rfl, Op.equalIn]
  simp only [Sem.run_bind, run_underlying Try.underMk, Result.andThen_ok, z]
  simp only [Std.Legacy.Range.forIn_eq_forIn_range', Std.Legacy.Range.size, Nat.sub_zero, Nat.add_sub_cancel, Nat.div_one, List.range'_succ, List.range'_zero, List.forIn_cons, List.forIn_nil]
  simp only [Sem.run_bind, Nat.zero_mul, Nat.reduceAdd, Nat.reduceMul, p0, p1, p2, p3, e, Result.andThen_ok, Bool.not_true, Bool.false_eq_true, if_false, Sem.run_pure]
set_option maxRecDepth 100000 in
set_option maxHeartbeats 1600000 in
theorem alikeC_any (c : CellD) (w : World) :
    Calls Try.prog 52 #[cellV c, cellV c] w fun e w' => e = .returned (.bool true) ∧ Below w.heap.size w w' := by
  obtain ⟨t, m⟩ := c
  unfold cellV
  simp only
  generalize m 0 = m0
  generalize m 1 = m1
  generalize m 2 = m2
  generalize m 3 = m3
  have hEq : ∀ W, (Op.equalIn 10000 98 (.agg #[.int .i64 m0, .int .i64 m1, .int .i64 m2, .int .i64 m3]) (.agg #[.int .i64 m0, .int .i64 m1, .int .i64 m2, .int .i64 m3])).run Try.prog W = .ok true W := fun W => run_eq_arr4 9998 m0 m1 m2 m3 W
  go_enter Try.func52, Try.ntmps52
  go_wp2_with fail
  go_ret
  exact ⟨rfl, ((Below.refl _ _).alloc (Nat.le_refl _) _).alloc (by simp) _⟩
/-- The cells of a row. -/
theorem row5_at {w : World} {base g n cap : Nat} {l : List CellD} (h : w.ownsRow base 100 5 (.slice (some ⟨g, 0, none⟩) n cap) n (flat5 l)) (j : Nat) (hj : j < l.length) : w.cell? ⟨g, j * 5, none⟩ = some (.string l[j].text) ∧ w.cell? ⟨g, j * 5 + 1, none⟩ = some (.int .i64 (l[j].m 0)) ∧ w.cell? ⟨g, j * 5 + 2, none⟩ = some (.int .i64 (l[j].m 1)) ∧ w.cell? ⟨g, j * 5 + 3, none⟩ = some (.int .i64 (l[j].m 2)) ∧ w.cell? ⟨g, j * 5 + 4, none⟩ = some (.int .i64 (l[j].m 3)) := by
  have e := flat5_at l j hj
  have k : ∀ i u, (flat5 l)[i]? = some u → w.cell? ⟨g, i, none⟩ = some u := fun i u hu => by
    have := h.cells (g := g) rfl _ _ hu; rw [Addr.add_lit] at this; simpa using this
  exact ⟨k _ _ e.1, k _ _ (e.2 0), k _ _ (e.2 1), k _ _ (e.2 2), k _ _ (e.2 3)⟩
set_option maxRecDepth 100000 in
set_option maxHeartbeats 4000000 in
theorem equalC_any (g g' n cap cap' base base' : Nat) (l : List CellD) (w : World) (hn : n = l.length) (hl : n ≤ 1000) (h : w.ownsRow base 100 5 (.slice (some ⟨g, 0, none⟩) n cap) n (flat5 l)) (h' : w.ownsRow base' 100 5 (.slice (some ⟨g', 0, none⟩) n cap') n (flat5 l)) :
    Calls Try.prog 51 #[.slice (some ⟨g, 0, none⟩) n cap, .slice (some ⟨g', 0, none⟩) n cap', .func (.func 52) #[] #[]] w fun e w' => e = .returned (.bool true) ∧ Below w.heap.size w w' := by
  have HN := hid hn
  have H1 := hid (fun j hj => row5_at h j hj)
  have H2 := hid (fun j hj => row5_at h' j hj)
  clear hn h h'
  go_enter Try.func51, Try.ntmps51
  go_wp2_with fail
  go_loopw [7, 8, 9, 17] (fun _ _ _ iv wr => ∃ i : Nat, iv = .int .i64 i ∧ i ≤ n ∧ Below w.heap.size w wr) (fun _ _ _ iv _ => n - (intOf iv).toNat)
  case atStart => exact ⟨0, rfl, Nat.zero_le _, Below.refl _ _⟩
  case round =>
    obtain ⟨i, rfl, hi, hb⟩ := hrel
    by_cases hlt : i < n
    · have hltI : (i : Int) < (n : Int) := by omega
      have hix : 0 ≤ (i : Int) ∧ (i : Int) < (n : Int) := by omega
      have hil : i < l.length := by rw [← HN.out]; exact hlt
      obtain ⟨a0, a1, a2, a3, a4⟩ := H1.out i hil
      obtain ⟨b0, b1, b2, b3, b4⟩ := H2.out i hil
      generalize l[i] = c at a0 a1 a2 a3 a4 b0 b1 b2 b3 b4
      have HAL := hid (fun W => alikeC_any c W)
      obtain ⟨t, m⟩ := c
      unfold cellV at HAL
      simp only at a0 a1 a2 a3 a4 b0 b1 b2 b3 b4 HAL
      generalize m 0 = m0 at *
      generalize m 1 = m1 at *
      generalize m 2 = m2 at *
      generalize m 3 = m3 at *
      have c0 := cell_later hb a0
      have c1 := cell_later hb a1
      have c2 := cell_later hb a2
      have c3 := cell_later hb a3
      have c4 := cell_later hb a4
      obtain ⟨W1, hW1⟩ : ∃ W1, W1 = wr.alloc (.cells #[.string t, .int .i64 m0, .int .i64 m1, .int .i64 m2, .int .i64 m3] 100) := ⟨_, rfl⟩
      have bW1 : Below wr.heap.size wr W1 := by rw [hW1]; exact (Below.refl _ _).alloc (Nat.le_refl _) _
      have B1 := hid (hb.trans (bW1.mono hb.size))
      have h11 : W1.heap[wr.heap.size]? = some (.cells #[.string t, .int .i64 m0, .int .i64 m1, .int .i64 m2, .int .i64 m3] 100 (0, 0)) := by rw [hW1]; exact heap_alloc_new _ _
      have HW1 := hid hW1
      clear hW1 bW1 hb a0 a1 a2 a3 a4
      go_upto_region 6 with fail
      rw [← HW1.out]
      obtain ⟨P, hP⟩ : ∃ P, P = wr.heap.size := ⟨_, rfl⟩
      rw [← hP] at h11
      rw [← hP]
      clear hP HW1 c0 c1 c2 c3 c4
      have d0 := cell_later B1.out b0
      have d1 := cell_later B1.out b1
      have d2 := cell_later B1.out b2
      have d3 := cell_later B1.out b3
      have d4 := cell_later B1.out b4
      obtain ⟨W2, hW2⟩ : ∃ W2, W2 = W1.alloc (.cells #[.string t, .int .i64 m0, .int .i64 m1, .int .i64 m2, .int .i64 m3] 100) := ⟨_, rfl⟩
      have bW2 : Below W1.heap.size W1 W2 := by rw [hW2]; exact (Below.refl _ _).alloc (Nat.le_refl _) _
      have B2 := hid (B1.out.trans (bW2.mono B1.out.size))
      have h22 : W2.heap[W1.heap.size]? = some (.cells #[.string t, .int .i64 m0, .int .i64 m1, .int .i64 m2, .int .i64 m3] 100 (0, 0)) := by rw [hW2]; exact heap_alloc_new _ _
      have h12 := (bW2.block P (lt_of_block h11)).trans h11
      have HW2 := hid hW2
      clear hW2 bW2 h11 b0 b1 b2 b3 b4 B1
      go_upto_region 7 with fail
      rw [← HW2.out]
      obtain ⟨Q, hQ⟩ : ∃ Q, Q = W1.heap.size := ⟨_, rfl⟩
      rw [← hQ] at h22
      rw [← hQ]
      clear hQ HW2 d0 d1 d2 d3 d4
      have e0 : W2.cell? ⟨P, 0, none⟩ = some (.string t) := by rw [cell_of_row _ _ _ _ _ _ h12]; rfl
      have e1 : W2.cell? ⟨P, 1, none⟩ = some (.int .i64 m0) := by rw [cell_of_row _ _ _ _ _ _ h12]; rfl
      have e2 : W2.cell? ⟨P, 2, none⟩ = some (.int .i64 m1) := by rw [cell_of_row _ _ _ _ _ _ h12]; rfl
      have e3 : W2.cell? ⟨P, 3, none⟩ = some (.int .i64 m2) := by rw [cell_of_row _ _ _ _ _ _ h12]; rfl
      have e4 : W2.cell? ⟨P, 4, none⟩ = some (.int .i64 m3) := by rw [cell_of_row _ _ _ _ _ _ h12]; rfl
      have f0 : W2.cell? ⟨Q, 0, none⟩ = some (.string t) := by rw [cell_of_row _ _ _ _ _ _ h22]; rfl
      have f1 : W2.cell? ⟨Q, 1, none⟩ = some (.int .i64 m0) := by rw [cell_of_row _ _ _ _ _ _ h22]; rfl
      have f2 : W2.cell? ⟨Q, 2, none⟩ = some (.int .i64 m1) := by rw [cell_of_row _ _ _ _ _ _ h22]; rfl
      have f3 : W2.cell? ⟨Q, 3, none⟩ = some (.int .i64 m2) := by rw [cell_of_row _ _ _ _ _ _ h22]; rfl
      have f4 : W2.cell? ⟨Q, 4, none⟩ = some (.int .i64 m3) := by rw [cell_of_row _ _ _ _ _ _ h22]; rfl
      clear h12 h22
      go_wp2_with fail
      refine (HAL.out _).mono ?_
      rintro e W3 ⟨rfl, hb3⟩
      have B3 := hid (B2.out.trans (hb3.mono B2.out.size))
      clear hb3 HAL e0 e1 e2 e3 e4 f0 f1 f2 f3 f4
      go_wp2_with fail
      go_roundw
      case rel => exact ⟨i + 1, by go_num, by omega, B3.out⟩
      case measure => simp [intOf]; omega
    · have hltI : ¬ (i : Int) < (n : Int) := by omega
      have HB := hid hb
      clear hb
      go_wp2_with fail
      go_ret
      exact ⟨rfl, HB.out⟩
set_option maxRecDepth 100000 in
set_option maxHeartbeats 3200000 in
theorem same_eq (b g b' g' : Nat) (S : StD) (w : World) (hS : St w b g S) (hS' : St w b' g' S) :
    Calls Try.prog 21 #[.pointer (some ⟨b, 0, none⟩), .pointer (some ⟨b', 0, none⟩)] w fun e w' => e = .returned (.bool true) ∧ Below w.heap.size w w' := by
  have HLL : Hid (S.cells.length ≤ 1000) := hid (by have := hS.i.n; have := hS.i.f; have := hS.i.t; omega)
  obtain ⟨_, cap, h1, h2⟩ := hS
  obtain ⟨_, cap', h3, h4⟩ := hS'
  have key : ∀ {q : Nat} {cs : Array Value} {t : TypeId} {fr : Nat × Nat}, w.heap[q]? = some (.cells cs t fr) → ∀ Y, Below w.heap.size w Y → Y.heap[q]? = some (.cells cs t fr) := fun h Y hY => (hY.block _ (lt_of_block h)).trans h
  have HO1 : Hid (∀ Y, Below w.heap.size w Y → Y.ownsRow 0 100 5 (.slice (some ⟨g, 0, none⟩) S.cells.length cap) S.cells.length (flat5 S.cells)) := hid fun Y hY => by
    obtain ⟨r1, r2⟩ := h2
    refine ⟨r1, ?_⟩
    rcases r2 with r2 | ⟨q, cp, cur, hv, hq, hh, r⟩
    · exact Or.inl r2
    · exact Or.inr ⟨q, cp, cur, hv, hq, key hh Y hY, r⟩
  have HO2 : Hid (∀ Y, Below w.heap.size w Y → Y.ownsRow 0 100 5 (.slice (some ⟨g', 0, none⟩) S.cells.length cap') S.cells.length (flat5 S.cells)) := hid fun Y hY => by
    obtain ⟨r1, r2⟩ := h4
    refine ⟨r1, ?_⟩
    rcases r2 with r2 | ⟨q, cp, cur, hv, hq, hh, r⟩
    · exact Or.inl r2
    · exact Or.inr ⟨q, cp, cur, hv, hq, key hh Y hY, r⟩
  have SW : Hid (∀ X, Below w.heap.size w X → X.cell? ⟨b, 0, none⟩ = some (.int .i64 S.from') ∧ X.cell? ⟨b, 1, none⟩ = some (.int .i64 S.to) ∧ X.cell? ⟨b, 2, none⟩ = some (.bool S.fr) ∧ X.cell? ⟨b, 3, none⟩ = some (.slice (some ⟨g, 0, none⟩) S.cells.length cap) ∧ X.cell? ⟨b', 0, none⟩ = some (.int .i64 S.from') ∧ X.cell? ⟨b', 1, none⟩ = some (.int .i64 S.to) ∧ X.cell? ⟨b', 2, none⟩ = some (.bool S.fr) ∧ X.cell? ⟨b', 3, none⟩ = some (.slice (some ⟨g', 0, none⟩) S.cells.length cap')) := hid fun X hX => by
    have e1 := key h1 X hX
    have e3 := key h3 X hX
    refine ⟨?_, ?_, ?_, ?_, ?_, ?_, ?_, ?_⟩ <;> first | (rw [cell_of_row _ _ _ _ _ _ e1]; rfl) | (rw [cell_of_row _ _ _ _ _ _ e3]; rfl)
  have hff : (S.fr == S.fr) = true := by cases S.fr <;> rfl
  clear h1 h2 h3 h4 key
  go_enter Try.func21, Try.ntmps21
  go_upto_region 3 with fail
  refine wp_region_held_drew (S := fun X => X.cell? ⟨b, 0, none⟩ = some (.int .i64 S.from') ∧ X.cell? ⟨b, 1, none⟩ = some (.int .i64 S.to) ∧ X.cell? ⟨b, 2, none⟩ = some (.bool S.fr) ∧ X.cell? ⟨b, 3, none⟩ = some (.slice (some ⟨g, 0, none⟩) S.cells.length cap) ∧ X.cell? ⟨b', 0, none⟩ = some (.int .i64 S.from') ∧ X.cell? ⟨b', 1, none⟩ = some (.int .i64 S.to) ∧ X.cell? ⟨b', 2, none⟩ = some (.bool S.fr) ∧ X.cell? ⟨b', 3, none⟩ = some (.slice (some ⟨g', 0, none⟩) S.cells.length cap')) (by kernel_rfl) (SW.out _ ((Below.refl _ _).drew)) (fun hHeld => ?_)
  refine wpAnyH_take (i := 0) (v := ?rv0) rfl (by kernel_rfl) (by kernel_rfl) (by kernel_rfl) (fun _ _ _ h => h) (Or.inl ⟨by rfl, ?ry0⟩) (by assumption) ?rr0
  case ry0 => (intro w hSw; (try dsimp only at hSw); go_simp; try with_reducible rfl)
  (try simp only [Act.put, List.setIfInBounds_toArray, List.set_cons_zero, List.set_cons_succ, List.getElem_toArray, List.getElem_cons_succ, List.getElem_cons_zero])
  refine wpAnyH_take (i := 1) (v := ?rv1) rfl (by kernel_rfl) (by kernel_rfl) (by kernel_rfl) (fun _ _ _ h => h) (Or.inl ⟨by rfl, ?ry1⟩) (by assumption) ?rr1
  case ry1 => (intro w hSw; (try dsimp only at hSw); go_simp; try with_reducible rfl)
  (try simp only [Act.put, List.setIfInBounds_toArray, List.set_cons_zero, List.set_cons_succ, List.getElem_toArray, List.getElem_cons_succ, List.getElem_cons_zero])
  refine wpAnyH_take (i := 2) (v := ?rv2) rfl (by kernel_rfl) (by kernel_rfl) (by kernel_rfl) (fun _ _ _ h => h) (Or.inl ⟨by rfl, ?ry2⟩) (by assumption) ?rr2
  case ry2 => (intro w hSw; (try dsimp only at hSw); go_simp; try with_reducible rfl)
  (try simp only [Act.put, List.setIfInBounds_toArray, List.set_cons_zero, List.set_cons_succ, List.getElem_toArray, List.getElem_cons_succ, List.getElem_cons_zero])
  refine wpAnyH_take (i := 3) (v := ?rv3) rfl (by kernel_rfl) (by kernel_rfl) (by kernel_rfl) (fun _ _ _ h => h) (Or.inl ⟨by rfl, ?ry3⟩) (by assumption) ?rr3
  case ry3 => (intro w hSw; (try dsimp only at hSw); go_simp; try with_reducible rfl)
  (try simp only [Act.put, List.setIfInBounds_toArray, List.set_cons_zero, List.set_cons_succ, List.getElem_toArray, List.getElem_cons_succ, List.getElem_cons_zero])
  refine wpAnyH_take (i := 4) (v := ?rv4) rfl (by kernel_rfl) (by kernel_rfl) (by kernel_rfl) (fun _ _ _ h => h) (Or.inl ⟨by rfl, ?ry4⟩) (by assumption) ?rr4
  case ry4 => (intro w hSw; (try dsimp only at hSw); go_simp; try with_reducible rfl)
  (try simp only [Act.put, List.setIfInBounds_toArray, List.set_cons_zero, List.set_cons_succ, List.getElem_toArray, List.getElem_cons_succ, List.getElem_cons_zero])
  refine wpAnyH_take (i := 5) (v := ?rv5) rfl (by kernel_rfl) (by kernel_rfl) (by kernel_rfl) (fun _ _ _ h => h) (Or.inl ⟨by rfl, ?ry5⟩) (by assumption) ?rr5
  case ry5 => (intro w hSw; (try dsimp only at hSw); go_simp; try with_reducible rfl)
  (try simp only [Act.put, List.setIfInBounds_toArray, List.set_cons_zero, List.set_cons_succ, List.getElem_toArray, List.getElem_cons_succ, List.getElem_cons_zero])
  refine wpAnyH_take (i := 6) (v := ?rv6) rfl (by kernel_rfl) (by kernel_rfl) (by kernel_rfl) (fun _ _ _ h => h) (Or.inl ⟨by rfl, ?ry6⟩) (by assumption) ?rr6
  case ry6 => (intro w hSw; (try dsimp only at hSw); go_simp; try with_reducible rfl)
  (try simp only [Act.put, List.setIfInBounds_toArray, List.set_cons_zero, List.set_cons_succ, List.getElem_toArray, List.getElem_cons_succ, List.getElem_cons_zero])
  refine wpAnyH_take (i := 7) (v := ?rv7) rfl (by kernel_rfl) (by kernel_rfl) (by kernel_rfl) (fun _ _ _ h => h) (Or.inl ⟨by rfl, ?ry7⟩) (by assumption) ?rr7
  case ry7 => (intro w hSw; (try dsimp only at hSw); go_simp; try with_reducible rfl)
  (try simp only [Act.put, List.setIfInBounds_toArray, List.set_cons_zero, List.set_cons_succ, List.getElem_toArray, List.getElem_cons_succ, List.getElem_cons_zero])
  refine wpAnyH_take (i := 8) (v := ?rv8) rfl (by kernel_rfl) (by kernel_rfl) (by kernel_rfl) (fun _ _ _ h => h) (Or.inl ⟨by rfl, ?ry8⟩) (by assumption) ?rr8
  case ry8 => (intro w hSw; (try dsimp only at hSw); go_simp; try with_reducible rfl)
  (try simp only [Act.put, List.setIfInBounds_toArray, List.set_cons_zero, List.set_cons_succ, List.getElem_toArray, List.getElem_cons_succ, List.getElem_cons_zero])
  refine wpAnyH_take (i := 9) (v := ?rv9) rfl (by kernel_rfl) (by kernel_rfl) (by kernel_rfl) (fun _ _ _ h => h) (Or.inl ⟨by rfl, ?ry9⟩) (by assumption) ?rr9
  case ry9 => (intro w hSw; (try dsimp only at hSw); go_simp; try with_reducible rfl)
  (try simp only [Act.put, List.setIfInBounds_toArray, List.set_cons_zero, List.set_cons_succ, List.getElem_toArray, List.getElem_cons_succ, List.getElem_cons_zero])
  refine wpAnyH_take (i := 10) (v := ?rv10) rfl (by kernel_rfl) (by kernel_rfl) (by kernel_rfl) (fun _ _ _ h => h) (Or.inl ⟨by rfl, ?ry10⟩) (by assumption) ?rr10
  case ry10 => (intro w hSw; (try dsimp only at hSw); go_simp; try with_reducible rfl)
  (try simp only [Act.put, List.setIfInBounds_toArray, List.set_cons_zero, List.set_cons_succ, List.getElem_toArray, List.getElem_cons_succ, List.getElem_cons_zero])
  refine wpAnyH_take (i := 11) (v := ?rv11) rfl (by kernel_rfl) (by kernel_rfl) (by kernel_rfl) (fun _ _ _ h => h) (Or.inl ⟨by rfl, ?ry11⟩) (by assumption) ?rr11
  case ry11 => (intro w hSw; (try dsimp only at hSw); go_simp; try with_reducible rfl)
  (try simp only [Act.put, List.setIfInBounds_toArray, List.set_cons_zero, List.set_cons_succ, List.getElem_toArray, List.getElem_cons_succ, List.getElem_cons_zero])
  refine wpAnyH_take (i := 12) (v := ?rv12) rfl (by kernel_rfl) (by kernel_rfl) (by kernel_rfl) (fun _ _ _ h => h) (Or.inl ⟨by rfl, ?ry12⟩) (by assumption) ?rr12
  case ry12 => (intro w hSw; (try dsimp only at hSw); go_simp; try with_reducible rfl)
  (try simp only [Act.put, List.setIfInBounds_toArray, List.set_cons_zero, List.set_cons_succ, List.getElem_toArray, List.getElem_cons_succ, List.getElem_cons_zero])
  refine wpAnyH_take (i := 13) (v := ?rv13) rfl (by kernel_rfl) (by kernel_rfl) (by kernel_rfl) (fun _ _ _ h => h) (Or.inl ⟨by rfl, ?ry13⟩) (by assumption) ?rr13
  case ry13 => (intro w hSw; (try dsimp only at hSw); go_simp; try with_reducible rfl)
  (try simp only [Act.put, List.setIfInBounds_toArray, List.set_cons_zero, List.set_cons_succ, List.getElem_toArray, List.getElem_cons_succ, List.getElem_cons_zero])
  refine wpAnyH_take (i := 14) (v := ?rv14) rfl (by kernel_rfl) (by kernel_rfl) (by kernel_rfl) (fun _ _ _ h => h) (Or.inl ⟨by rfl, ?ry14⟩) (by assumption) ?rr14
  case ry14 => (intro w hSw; (try dsimp only at hSw); go_simp; try with_reducible rfl)
  (try simp only [Act.put, List.setIfInBounds_toArray, List.set_cons_zero, List.set_cons_succ, List.getElem_toArray, List.getElem_cons_succ, List.getElem_cons_zero])
  refine wpAnyH_take (i := 15) (v := ?rv15) rfl (by kernel_rfl) (by kernel_rfl) (by kernel_rfl) (fun _ _ _ h => h) (Or.inl ⟨by rfl, ?ry15⟩) (by assumption) ?rr15
  case ry15 => (intro w hSw; (try dsimp only at hSw); go_simp; try with_reducible rfl)
  (try simp only [Act.put, List.setIfInBounds_toArray, List.set_cons_zero, List.set_cons_succ, List.getElem_toArray, List.getElem_cons_succ, List.getElem_cons_zero])
  refine wpAnyH_take (i := 16) (v := ?rv16) rfl (by kernel_rfl) (by kernel_rfl) (by kernel_rfl) (fun _ _ _ h => h) (Or.inl ⟨by rfl, ?ry16⟩) (by assumption) ?rr16
  case ry16 => (intro w hSw; (try dsimp only at hSw); go_simp; try with_reducible rfl)
  (try simp only [Act.put, List.setIfInBounds_toArray, List.set_cons_zero, List.set_cons_succ, List.getElem_toArray, List.getElem_cons_succ, List.getElem_cons_zero])
  refine wpAnyH_take (i := 17) (v := ?rv17) rfl (by kernel_rfl) (by kernel_rfl) (by kernel_rfl) (fun _ _ _ h => h) (Or.inl ⟨by rfl, ?ry17⟩) (by assumption) ?rr17
  case ry17 => (intro w hSw; (try dsimp only at hSw); go_simp; try with_reducible rfl)
  (try simp only [Act.put, List.setIfInBounds_toArray, List.set_cons_zero, List.set_cons_succ, List.getElem_toArray, List.getElem_cons_succ, List.getElem_cons_zero])
  refine wpAnyH_take (i := 18) (v := ?rv18) rfl (by kernel_rfl) (by kernel_rfl) (by kernel_rfl) (fun _ _ _ h => h) (Or.inl ⟨by rfl, ?ry18⟩) (by assumption) ?rr18
  case ry18 => (intro w hSw; (try dsimp only at hSw); go_simp; try with_reducible rfl)
  (try simp only [Act.put, List.setIfInBounds_toArray, List.set_cons_zero, List.set_cons_succ, List.getElem_toArray, List.getElem_cons_succ, List.getElem_cons_zero])
  refine wpAnyH_take (i := 19) (v := ?rv19) rfl (by kernel_rfl) (by kernel_rfl) (by kernel_rfl) (fun _ _ _ h => h) (Or.inl ⟨by rfl, ?ry19⟩) (by assumption) ?rr19
  case ry19 => (intro w hSw; (try dsimp only at hSw); go_simp; try with_reducible rfl)
  (try simp only [Act.put, List.setIfInBounds_toArray, List.set_cons_zero, List.set_cons_succ, List.getElem_toArray, List.getElem_cons_succ, List.getElem_cons_zero])
  refine wpAnyH_take (i := 20) (v := ?rv20) rfl (by kernel_rfl) (by kernel_rfl) (by kernel_rfl) (fun _ _ _ h => h) (Or.inl ⟨by rfl, ?ry20⟩) (by assumption) ?rr20
  case ry20 => (intro w hSw; (try dsimp only at hSw); go_simp; try with_reducible rfl)
  (try simp only [Act.put, List.setIfInBounds_toArray, List.set_cons_zero, List.set_cons_succ, List.getElem_toArray, List.getElem_cons_succ, List.getElem_cons_zero])
  refine wpAnyH_take (i := 21) (v := ?rv21) rfl (by kernel_rfl) (by kernel_rfl) (by kernel_rfl) (fun _ _ _ h => h) (Or.inl ⟨by rfl, ?ry21⟩) (by assumption) ?rr21
  case ry21 => (intro w hSw; (try dsimp only at hSw); go_simp; try with_reducible rfl)
  (try simp only [Act.put, List.setIfInBounds_toArray, List.set_cons_zero, List.set_cons_succ, List.getElem_toArray, List.getElem_cons_succ, List.getElem_cons_zero])
  refine wpAnyH_take (i := 22) (v := ?rv22) rfl (by kernel_rfl) (by kernel_rfl) (by kernel_rfl) (fun _ _ _ h => h) (Or.inl ⟨by rfl, ?ry22⟩) (by assumption) ?rr22
  case ry22 => (intro w hSw; (try dsimp only at hSw); go_simp; try with_reducible rfl)
  (try simp only [Act.put, List.setIfInBounds_toArray, List.set_cons_zero, List.set_cons_succ, List.getElem_toArray, List.getElem_cons_succ, List.getElem_cons_zero])
  refine wpAnyH_take (i := 23) (v := ?rv23) rfl (by kernel_rfl) (by kernel_rfl) (by kernel_rfl) (fun _ _ _ h => h) (Or.inl ⟨by rfl, ?ry23⟩) (by assumption) ?rr23
  case ry23 => (intro w hSw; (try dsimp only at hSw); go_simp; try with_reducible rfl)
  (try simp only [Act.put, List.setIfInBounds_toArray, List.set_cons_zero, List.set_cons_succ, List.getElem_toArray, List.getElem_cons_succ, List.getElem_cons_zero])
  refine wpAnyH_take (i := 24) (v := ?rv24) rfl (by kernel_rfl) (by kernel_rfl) (by kernel_rfl) (fun _ _ _ h => h) (Or.inl ⟨by rfl, ?ry24⟩) (by assumption) ?rr24
  case ry24 => (intro w hSw; (try dsimp only at hSw); go_simp; try with_reducible rfl)
  (try simp only [Act.put, List.setIfInBounds_toArray, List.set_cons_zero, List.set_cons_succ, List.getElem_toArray, List.getElem_cons_succ, List.getElem_cons_zero])
  refine wpAnyH_take (i := 25) (v := ?rv25) rfl (by kernel_rfl) (by kernel_rfl) (by kernel_rfl) (fun _ _ _ h => h) (Or.inl ⟨by rfl, ?ry25⟩) (by assumption) ?rr25
  case ry25 => (intro w hSw; (try dsimp only at hSw); go_simp; try with_reducible rfl)
  (try simp only [Act.put, List.setIfInBounds_toArray, List.set_cons_zero, List.set_cons_succ, List.getElem_toArray, List.getElem_cons_succ, List.getElem_cons_zero])
  refine wpAnyH_take (i := 26) (v := ?rv26) rfl (by kernel_rfl) (by kernel_rfl) (by kernel_rfl) (fun _ _ _ h => h) (Or.inl ⟨by rfl, ?ry26⟩) (by assumption) ?rr26
  case ry26 => (intro w hSw; (try dsimp only at hSw); go_simp; try with_reducible rfl)
  (try simp only [Act.put, List.setIfInBounds_toArray, List.set_cons_zero, List.set_cons_succ, List.getElem_toArray, List.getElem_cons_succ, List.getElem_cons_zero])
  refine wpAnyH_take (i := 27) (v := ?rv27) rfl (by kernel_rfl) (by kernel_rfl) (by kernel_rfl) (fun _ _ _ h => h) (Or.inl ⟨by rfl, ?ry27⟩) (by assumption) ?rr27
  case ry27 => (intro w hSw; (try dsimp only at hSw); go_simp; try with_reducible rfl)
  (try simp only [Act.put, List.setIfInBounds_toArray, List.set_cons_zero, List.set_cons_succ, List.getElem_toArray, List.getElem_cons_succ, List.getElem_cons_zero])
  refine wpAnyH_take (i := 28) (v := ?rv28) rfl (by kernel_rfl) (by kernel_rfl) (by kernel_rfl) (fun _ _ _ h => h) (Or.inl ⟨by rfl, ?ry28⟩) (by assumption) ?rr28
  case ry28 => (intro w hSw; (try dsimp only at hSw); go_simp; try with_reducible rfl)
  (try simp only [Act.put, List.setIfInBounds_toArray, List.set_cons_zero, List.set_cons_succ, List.getElem_toArray, List.getElem_cons_succ, List.getElem_cons_zero])
  refine wpAnyH_ready (rs := [29]) (by kernel_rfl) (by simp) ?_
  refine AllReadyH.cons rfl (fun K hK => ?_) AllReadyH.nil
  rw [if_pos (by rfl)]
  go_wp2_with fail
  refine (equalC_any g g' S.cells.length cap cap' 0 0 S.cells _ rfl HLL.out (HO1.out _ ((Below.refl _ _).drew)) (HO2.out _ ((Below.refl _ _).drew))).mono ?_
  rintro e w2 ⟨rfl, hb2⟩
  have B2 : Hid (Below w.heap.size w w2) := hid (((Below.refl _ _).drew).trans hb2)
  clear hb2
  refine hK.out _ _ (SW.out _ B2.out) (fun hHeld => ?_)
  try clear hK K
  (try simp only [Act.put, List.setIfInBounds_toArray, List.set_cons_zero, List.set_cons_succ, List.getElem_toArray, List.getElem_cons_succ, List.getElem_cons_zero])
  refine wpAnyH_take (i := 30) (v := ?rv30) rfl (by kernel_rfl) (by kernel_rfl) (by kernel_rfl) (fun _ _ _ h => h) (Or.inl ⟨by rfl, ?ry30⟩) (by assumption) ?rr30
  case ry30 => (intro w hSw; (try dsimp only at hSw); go_simp; try with_reducible rfl)
  (try simp only [Act.put, List.setIfInBounds_toArray, List.set_cons_zero, List.set_cons_succ, List.getElem_toArray, List.getElem_cons_succ, List.getElem_cons_zero])
  refine wpAnyH_take (i := 31) (v := ?rv31) rfl (by kernel_rfl) (by kernel_rfl) (by kernel_rfl) (fun _ _ _ h => h) (Or.inl ⟨by rfl, ?ry31⟩) (by assumption) ?rr31
  case ry31 => (intro w hSw; (try dsimp only at hSw); go_simp; try with_reducible rfl)
  (try simp only [Act.put, List.setIfInBounds_toArray, List.set_cons_zero, List.set_cons_succ, List.getElem_toArray, List.getElem_cons_succ, List.getElem_cons_zero])
  refine wpAnyH_done (by kernel_rfl) ?_ _
  go_wp2_with fail
  go_ret
  exact ⟨rfl, B2.out⟩
end Go.Proofs.Ytabmnelenfghhaa
