/- The document's SameShard of two that are the same. Conditions: they lie in memory. -/
import Derived.Test.YtnkjkaofgninnaaAtSame
import Derived.Test.YtnkjkaofgninnaaAtApply
namespace Go.Proofs.Ytnkjkaofgninnaa
open Go.RowKit Go.Maps Go.Shelf
set_option linter.unusedVariables false
set_option linter.unusedSimpArgs false

/-- A shard lies in memory, its members wherever. -/
structure ShN (w : World) (S : ShD) (mv pv : Value) : Prop where
  m : Nums w mv S.mem
  p : ∃ L : List OrX, L.map (·.o) = S.past ∧ w.ownsRow 0 52 4 pv L.length (orvs L) ∧ ∀ x ∈ L, Nums w x.mv x.o.mem
theorem ShM.n {w : World} {S : ShD} {mv pv : Value} (h : ShM w S mv pv) : ShN w S mv pv := by
  obtain ⟨L, h1, h2, h3⟩ := h.p
  exact ⟨nums_own h.m rfl, L, h1, h2, fun x hx => nums_own (h3 x hx) rfl⟩
theorem ShN.below {w w' : World} {S : ShD} {mv pv : Value} (h : ShN w S mv pv) (hb : Below w.heap.size w w') : ShN w' S mv pv := by
  obtain ⟨L, h1, h2, h3⟩ := h.p
  exact ⟨h.m.below hb, L, h1, own_below h2 hb, fun x hx => (h3 x hx).below hb⟩
theorem ShN.shape {w : World} {S : ShD} {mv pv : Value} (h : ShN w S mv pv) : (∃ va vc, mv = .slice va S.mem.length vc) ∧ ∃ va vc, pv = .slice va S.past.length vc := by
  obtain ⟨L, h1, h2, h3⟩ := h.p
  have := own_shape h2
  rw [show L.length = S.past.length by rw [← h1]; simp] at this
  exact ⟨h.m.shape, this⟩
theorem Try.eqgSp : Try.prog.eqGuardType Try.prog.depth 43 = false := by kernel_rfl
theorem run_neq_sp (a b : Int) (w : World) : (binOp .neq 43 (.agg #[.int .i64 a, .int .i64 b]) (.agg #[.int .i64 a, .int .i64 b])).run Try.prog w = .ok (.bool false) w := by
  go_simp
/-- The origin at a place. -/
theorem ShN.at {w : World} {S : ShD} {mv : Value} {g n vc : Nat} (h : ShN w S mv (.slice (some ⟨g, 0, none⟩) n vc)) (i : Nat) (hi : i < S.past.length) : ∃ ma mc, w.cell? ⟨g, i * 4, none⟩ = some (.int .i64 S.past[i].id) ∧ w.rangeAt g (i * 4 + 1) [.int .i64 S.past[i].fr, .int .i64 S.past[i].to] ∧ w.cell? ⟨g, i * 4 + 3, none⟩ = some (.slice ma S.past[i].mem.length mc) ∧ Nums w (.slice ma S.past[i].mem.length mc) S.past[i].mem := by
  obtain ⟨L, h1, h2, h3⟩ := h.p
  have hl : L.length = S.past.length := by rw [← h1]; simp
  have hil : i < L.length := by omega
  have hn : n = L.length := by
    obtain ⟨_, hx⟩ := h2
    rcases hx with ⟨e, h0⟩ | ⟨g', cap, cur, e, -⟩
    · cases e
    · cases e; rfl
  subst hn
  have ho : S.past[i] = L[i].o := by simp only [← h1]; simp
  obtain ⟨q0, q1, q2, q3⟩ := orvs_at L i hil
  have hm := h3 L[i] (List.getElem_mem hil)
  obtain ⟨ma, mc, he⟩ := hm.shape
  rw [ho]
  refine ⟨ma, mc, own_cell h2 q0, ?_, ?_, ?_⟩
  · refine own_range h2 (i * 4 + 1) _ fun k v hv => ?_
    match k, hv with
    | 0, hv => rw [Nat.add_zero, q1]; exact hv
    | 1, hv => rw [q2]; exact hv
  · rw [← he]; exact own_cell h2 q3
  · rw [← he]; exact hm
set_option maxRecDepth 100000 in
set_option maxHeartbeats 8000000 in
theorem sameShard_eq (S : ShD) (mv pv mw pw : Value) (w : World) (h1 : ShN w S mv pv) (h2 : ShN w S mw pw) (hp : S.past.length ≤ 1000000) :
    Calls Try.prog 15 #[shV S mv pv, shV S mw pw] w fun e w' => e = .returned (.bool true) ∧ Below w.heap.size w w' := by
  obtain ⟨⟨ma, mc, rfl⟩, ⟨pa, pc, rfl⟩⟩ := h1.shape
  obtain ⟨⟨na, nc, rfl⟩, ⟨qa, qc, rfl⟩⟩ := h2.shape
  obtain ⟨w1, hw1⟩ : ∃ w1, w1 = (w.alloc (.cells #[.int .i64 S.id, .int .i64 S.fr, .int .i64 S.to, .slice ma S.mem.length mc, .slice pa S.past.length pc] 46)).alloc (.cells #[.int .i64 S.id, .int .i64 S.fr, .int .i64 S.to, .slice na S.mem.length nc, .slice qa S.past.length qc] 46) := ⟨_, rfl⟩
  obtain ⟨hA1, hB1⟩ := heap_two w (.cells #[.int .i64 S.id, .int .i64 S.fr, .int .i64 S.to, .slice ma S.mem.length mc, .slice pa S.past.length pc] 46) (.cells #[.int .i64 S.id, .int .i64 S.fr, .int .i64 S.to, .slice na S.mem.length nc, .slice qa S.past.length qc] 46)
  rw [← hw1] at hA1 hB1
  have B1 : Hid (Below w.heap.size w w1) := hid (by rw [hw1]; exact ((Below.refl _ _).alloc (Nat.le_refl _) _).alloc (by simp) _)
  have HW1 := hid hw1
  have HA := hid (h1.below B1.out)
  have HB := hid (h2.below B1.out)
  clear h1 h2 hw1
  unfold shV
  go_enter Try.func15, Try.ntmps15
  go_upto_region 1 with fail
  rw [← HW1.out]
  clear HW1
  obtain ⟨A, hAe⟩ : ∃ A, A = w.heap.size := ⟨_, rfl⟩
  obtain ⟨C, hCe⟩ : ∃ C, C = w.heap.size + 1 := ⟨_, rfl⟩
  rw [← hAe] at hA1
  rw [← hCe] at hB1
  rw [← hCe, ← hAe]
  clear hAe hCe
  have a0 : w1.cell? ⟨A, 0, none⟩ = some (.int .i64 S.id) := by rw [cell_of_row _ _ _ _ _ _ hA1]; rfl
  have a1 : w1.cell? ⟨A, 1, none⟩ = some (.int .i64 S.fr) := by rw [cell_of_row _ _ _ _ _ _ hA1]; rfl
  have a2 : w1.cell? ⟨A, 2, none⟩ = some (.int .i64 S.to) := by rw [cell_of_row _ _ _ _ _ _ hA1]; rfl
  have a3 : w1.cell? ⟨A, 3, none⟩ = some (.slice ma S.mem.length mc) := by rw [cell_of_row _ _ _ _ _ _ hA1]; rfl
  have b0 : w1.cell? ⟨C, 0, none⟩ = some (.int .i64 S.id) := by rw [cell_of_row _ _ _ _ _ _ hB1]; rfl
  have b1 : w1.cell? ⟨C, 1, none⟩ = some (.int .i64 S.fr) := by rw [cell_of_row _ _ _ _ _ _ hB1]; rfl
  have b2 : w1.cell? ⟨C, 2, none⟩ = some (.int .i64 S.to) := by rw [cell_of_row _ _ _ _ _ _ hB1]; rfl
  have b3 : w1.cell? ⟨C, 3, none⟩ = some (.slice na S.mem.length nc) := by rw [cell_of_row _ _ _ _ _ _ hB1]; rfl
  have HA1 := hid hA1
  have HB1 := hid hB1
  have HAC : Hid (∀ Y, Below w1.heap.size w1 Y → Y.cell? ⟨A, 4, none⟩ = some (.slice pa S.past.length pc) ∧ Y.cell? ⟨C, 4, none⟩ = some (.slice qa S.past.length qc)) := hid fun Y hY =>
    ⟨by rw [cell_of_row _ _ _ _ _ _ ((hY.block A (lt_of_block HA1.out)).trans HA1.out)]; rfl, by rw [cell_of_row _ _ _ _ _ _ ((hY.block C (lt_of_block HB1.out)).trans HB1.out)]; rfl⟩
  clear hA1 hB1
  go_upto_region 3 with (go_at_call 16; refine (sameInts_eq S.mem _ _ _ HA.out.m HB.out.m).mono ?_; rintro e w2 ⟨rfl, hb2⟩; obtain ⟨k4, l4⟩ := HAC.out _ hb2; have B2 := hid hb2; clear hb2)
  clear a0 a1 a2 a3 b0 b1 b2 b3
  have hpI : (S.past.length : Int) ≤ 1000000 := by omega
  go_wp2_with fail
  clear k4 l4
  go_loopw [5, 38] (fun _ iv wr => ∃ i : Nat, iv = .int .i64 i ∧ i ≤ S.past.length ∧ Below w1.heap.size w1 wr) (fun _ iv _ => S.past.length - (intOf iv).toNat)
  case atStart => exact ⟨0, rfl, Nat.zero_le _, B2.out⟩
  case round =>
    obtain ⟨i, rfl, hi, hb⟩ := hrel
    have BR := hid hb
    clear hb B2
    by_cases hlt : (i : Int) < (S.past.length : Int)
    · have hil : i < S.past.length := by omega
      obtain ⟨g, rfl⟩ : ∃ g, pa = some ⟨g, 0, none⟩ := by
        obtain ⟨L, e1, e2, -⟩ := HA.out.p
        exact own_some e2 (by rw [show L.length = S.past.length by rw [← e1]; simp]; omega)
      obtain ⟨q, rfl⟩ : ∃ q, qa = some ⟨q, 0, none⟩ := by
        obtain ⟨L, e1, e2, -⟩ := HB.out.p
        exact own_some e2 (by rw [show L.length = S.past.length by rw [← e1]; simp]; omega)
      obtain ⟨xa, xc, x0, x1, x3, xn⟩ := (HA.out.below BR.out).at i hil
      obtain ⟨ya, yc, y0, y1, y3, yn⟩ := (HB.out.below BR.out).at i hil
      obtain ⟨k4, l4⟩ := HAC.out _ BR.out
      have NA := hid xn
      have NB := hid yn
      generalize S.past[i] = od at *
      have SW : Hid (∀ Y, Below wr.heap.size wr Y → (Y.cell? ⟨A, 4, none⟩ = some (.slice (some ⟨g, 0, none⟩) S.past.length pc) ∧ Y.cell? ⟨C, 4, none⟩ = some (.slice (some ⟨q, 0, none⟩) S.past.length qc) ∧ Y.cell? ⟨g, i * 4, none⟩ = some (.int .i64 od.id) ∧ Y.cell? ⟨q, i * 4, none⟩ = some (.int .i64 od.id) ∧ Y.cell? ⟨g, i * 4 + 3, none⟩ = some (.slice xa od.mem.length xc) ∧ Y.cell? ⟨q, i * 4 + 3, none⟩ = some (.slice ya od.mem.length yc)) ∧ Y.rangeAt g (i * 4 + 1) [.int .i64 od.fr, .int .i64 od.to] ∧ Y.rangeAt q (i * 4 + 1) [.int .i64 od.fr, .int .i64 od.to]) := hid fun Y hY =>
        ⟨⟨cell_later hY k4, cell_later hY l4, cell_later hY x0, cell_later hY y0, cell_later hY x3, cell_later hY y3⟩, fun j v hv => cell_later hY (x1 j v hv), fun j v hv => cell_later hY (y1 j v hv)⟩
      obtain ⟨dP, hdP1, hdP2⟩ := Try.rowSp
      clear k4 l4 x0 x1 x3 xn y0 y1 y3 yn
      go_upto_region 6 with fail
      refine wp_region_held_drew (S := fun Y => (Y.cell? ⟨A, 4, none⟩ = some (.slice (some ⟨g, 0, none⟩) S.past.length pc) ∧ Y.cell? ⟨C, 4, none⟩ = some (.slice (some ⟨q, 0, none⟩) S.past.length qc) ∧ Y.cell? ⟨g, i * 4, none⟩ = some (.int .i64 od.id) ∧ Y.cell? ⟨q, i * 4, none⟩ = some (.int .i64 od.id) ∧ Y.cell? ⟨g, i * 4 + 3, none⟩ = some (.slice xa od.mem.length xc) ∧ Y.cell? ⟨q, i * 4 + 3, none⟩ = some (.slice ya od.mem.length yc)) ∧ Y.rangeAt g (i * 4 + 1) [.int .i64 od.fr, .int .i64 od.to] ∧ Y.rangeAt q (i * 4 + 1) [.int .i64 od.fr, .int .i64 od.to]) (by kernel_rfl) (SW.out _ ((Below.refl _ _).drew)) (fun hHeld => ?_)
      refine wpAnyH_take (i := 0) (v := ?pv0) rfl (by kernel_rfl) (by kernel_rfl) (by kernel_rfl) (fun _ _ _ h => h) (Or.inl ⟨by rfl, ?py0⟩) (by assumption) ?pr0
      case py0 => (intro w hSw; (try dsimp only at hSw); go_simp; try with_reducible rfl)
      (try simp only [Act.put, putS])
      refine wpAnyH_take (i := 1) (v := ?pv1) rfl (by kernel_rfl) (by kernel_rfl) (by kernel_rfl) (fun _ _ _ h => h) (Or.inl ⟨by rfl, ?py1⟩) (by assumption) ?pr1
      case py1 => (intro w hSw; (try dsimp only at hSw); go_simp; try with_reducible rfl)
      (try simp only [Act.put, putS])
      refine wpAnyH_take (i := 2) (v := ?pv2) rfl (by kernel_rfl) (by kernel_rfl) (by kernel_rfl) (fun _ _ _ h => h) (Or.inl ⟨by rfl, ?py2⟩) (by assumption) ?pr2
      case py2 => (intro w hSw; (try dsimp only at hSw); go_simp; try with_reducible rfl)
      (try simp only [Act.put, putS])
      refine wpAnyH_take (i := 3) (v := ?pv3) rfl (by kernel_rfl) (by kernel_rfl) (by kernel_rfl) (fun _ _ _ h => h) (Or.inl ⟨by rfl, ?py3⟩) (by assumption) ?pr3
      case py3 => (intro w hSw; (try dsimp only at hSw); go_simp; try with_reducible rfl)
      (try simp only [Act.put, putS])
      refine wpAnyH_take (i := 4) (v := ?pv4) rfl (by kernel_rfl) (by kernel_rfl) (by kernel_rfl) (fun _ _ _ h => h) (Or.inl ⟨by rfl, ?py4⟩) (by assumption) ?pr4
      case py4 => (intro w hSw; (try dsimp only at hSw); go_simp; try with_reducible rfl)
      (try simp only [Act.put, putS])
      refine wpAnyH_take (i := 5) (v := ?pv5) rfl (by kernel_rfl) (by kernel_rfl) (by kernel_rfl) (fun _ _ _ h => h) (Or.inl ⟨by rfl, ?py5⟩) (by assumption) ?pr5
      case py5 => (intro w hSw; (try dsimp only at hSw); go_simp; try with_reducible rfl)
      (try simp only [Act.put, putS])
      refine wpAnyH_take (i := 6) (v := ?pv6) rfl (by kernel_rfl) (by kernel_rfl) (by kernel_rfl) (fun _ _ _ h => h) (Or.inl ⟨by rfl, ?py6⟩) (by assumption) ?pr6
      case py6 => (intro w hSw; (try dsimp only at hSw); go_simp; try with_reducible rfl)
      (try simp only [Act.put, putS])
      refine wpAnyH_take (i := 7) (v := ?pv7) rfl (by kernel_rfl) (by kernel_rfl) (by kernel_rfl) (fun _ _ _ h => h) (Or.inl ⟨by rfl, ?py7⟩) (by assumption) ?pr7
      case py7 => (intro w hSw; (try dsimp only at hSw); go_simp; try with_reducible rfl)
      (try simp only [Act.put, putS])
      refine wpAnyH_take (i := 8) (v := ?pv8) rfl (by kernel_rfl) (by kernel_rfl) (by kernel_rfl) (fun _ _ _ h => h) (Or.inl ⟨by rfl, ?py8⟩) (by assumption) ?pr8
      case py8 => (intro w hSw; (try dsimp only at hSw); go_simp; try with_reducible rfl)
      (try simp only [Act.put, putS])
      refine wpAnyH_take (i := 9) (v := ?pv9) rfl (by kernel_rfl) (by kernel_rfl) (by kernel_rfl) (fun _ _ _ h => h) (Or.inl ⟨by rfl, ?py9⟩) (by assumption) ?pr9
      case py9 => (intro w hSw; (try dsimp only at hSw); go_simp; try with_reducible rfl)
      (try simp only [Act.put, putS])
      refine wpAnyH_take (i := 10) (v := ?pv10) rfl (by kernel_rfl) (by kernel_rfl) (by kernel_rfl) (fun _ _ _ h => h) (Or.inl ⟨by rfl, ?py10⟩) (by assumption) ?pr10
      case py10 => (intro w hSw; (try dsimp only at hSw); go_simp; try with_reducible rfl)
      (try simp only [Act.put, putS])
      refine wpAnyH_take (i := 11) (v := ?pv11) rfl (by kernel_rfl) (by kernel_rfl) (by kernel_rfl) (fun _ _ _ h => h) (Or.inl ⟨by rfl, ?py11⟩) (by assumption) ?pr11
      case py11 => (intro w hSw; (try dsimp only at hSw); go_simp; try with_reducible rfl)
      (try simp only [Act.put, putS])
      refine wpAnyH_take (i := 12) (v := ?pv12) rfl (by kernel_rfl) (by kernel_rfl) (by kernel_rfl) (fun _ _ _ h => h) (Or.inl ⟨by rfl, ?py12⟩) (by assumption) ?pr12
      case py12 => (intro w hSw; (try dsimp only at hSw); go_simp; try with_reducible rfl)
      (try simp only [Act.put, putS])
      refine wpAnyH_take (i := 13) (v := ?pv13) rfl (by kernel_rfl) (by kernel_rfl) (by kernel_rfl) (fun _ _ _ h => h) (Or.inl ⟨by rfl, ?py13⟩) (by assumption) ?pr13
      case py13 => (intro w hSw; (try dsimp only at hSw); go_simp; try with_reducible rfl)
      (try simp only [Act.put, putS])
      refine wpAnyH_take (i := 14) (v := ?pv14) rfl (by kernel_rfl) (by kernel_rfl) (by kernel_rfl) (fun _ _ _ h => h) (Or.inl ⟨by rfl, ?py14⟩) (by assumption) ?pr14
      case py14 => (intro w hSw; (try dsimp only at hSw); go_simp; try with_reducible rfl)
      (try simp only [Act.put, putS])
      refine wpAnyH_take (i := 15) (v := ?pv15) rfl (by kernel_rfl) (by kernel_rfl) (by kernel_rfl) (fun _ _ _ h => h) (Or.inl ⟨by rfl, ?py15⟩) (by assumption) ?pr15
      case py15 => (intro w hSw; (try dsimp only at hSw); go_simp; try with_reducible rfl)
      (try simp only [Act.put, putS])
      refine wpAnyH_take (i := 16) (v := ?pv16) rfl (by kernel_rfl) (by kernel_rfl) (by kernel_rfl) (fun _ _ _ h => h) (Or.inl ⟨by rfl, ?py16⟩) (by assumption) ?pr16
      case py16 => (intro w hSw; (try dsimp only at hSw); go_simp; try with_reducible rfl)
      (try simp only [Act.put, putS])
      refine wpAnyH_take (i := 17) (v := ?pv17) rfl (by kernel_rfl) (by kernel_rfl) (by kernel_rfl) (fun _ _ _ h => h) (Or.inl ⟨by rfl, ?py17⟩) (by assumption) ?pr17
      case py17 => (intro w hSw; (try dsimp only at hSw); go_simp; try with_reducible rfl)
      (try simp only [Act.put, putS])
      refine wpAnyH_take (i := 18) (v := ?pv18) rfl (by kernel_rfl) (by kernel_rfl) (by kernel_rfl) (fun _ _ _ h => h) (Or.inl ⟨by rfl, ?py18⟩) (by assumption) ?pr18
      case py18 => (intro w hSw; (try dsimp only at hSw); go_simp; try with_reducible rfl)
      (try simp only [Act.put, putS])
      refine wpAnyH_take (i := 19) (v := .agg #[.int .i64 od.fr, .int .i64 od.to]) rfl (by kernel_rfl) (by kernel_rfl) (by kernel_rfl) (fun _ _ _ h => h) (yieldsIf_load_mid rfl _ _ rfl g (i * 4 + 1) (by go_simp) [.int .i64 od.fr, .int .i64 od.to] dP (fun Y hY => hY.2.1) hdP1 hdP2 Try.sizeSp) (by assumption) ?_
      (try simp only [Act.put, putS])
      refine wpAnyH_take (i := 20) (v := ?qv20) rfl (by kernel_rfl) (by kernel_rfl) (by kernel_rfl) (fun _ _ _ h => h) (Or.inl ⟨by rfl, ?qy20⟩) (by assumption) ?qr20
      case qy20 => (intro w hSw; (try dsimp only at hSw); go_simp; try with_reducible rfl)
      (try simp only [Act.put, putS])
      refine wpAnyH_take (i := 21) (v := ?qv21) rfl (by kernel_rfl) (by kernel_rfl) (by kernel_rfl) (fun _ _ _ h => h) (Or.inl ⟨by rfl, ?qy21⟩) (by assumption) ?qr21
      case qy21 => (intro w hSw; (try dsimp only at hSw); go_simp; try with_reducible rfl)
      (try simp only [Act.put, putS])
      refine wpAnyH_take (i := 22) (v := ?qv22) rfl (by kernel_rfl) (by kernel_rfl) (by kernel_rfl) (fun _ _ _ h => h) (Or.inl ⟨by rfl, ?qy22⟩) (by assumption) ?qr22
      case qy22 => (intro w hSw; (try dsimp only at hSw); go_simp; try with_reducible rfl)
      (try simp only [Act.put, putS])
      refine wpAnyH_take (i := 23) (v := ?qv23) rfl (by kernel_rfl) (by kernel_rfl) (by kernel_rfl) (fun _ _ _ h => h) (Or.inl ⟨by rfl, ?qy23⟩) (by assumption) ?qr23
      case qy23 => (intro w hSw; (try dsimp only at hSw); go_simp; try with_reducible rfl)
      (try simp only [Act.put, putS])
      refine wpAnyH_take (i := 24) (v := ?qv24) rfl (by kernel_rfl) (by kernel_rfl) (by kernel_rfl) (fun _ _ _ h => h) (Or.inl ⟨by rfl, ?qy24⟩) (by assumption) ?qr24
      case qy24 => (intro w hSw; (try dsimp only at hSw); go_simp; try with_reducible rfl)
      (try simp only [Act.put, putS])
      refine wpAnyH_take (i := 25) (v := .agg #[.int .i64 od.fr, .int .i64 od.to]) rfl (by kernel_rfl) (by kernel_rfl) (by kernel_rfl) (fun _ _ _ h => h) (yieldsIf_load_mid rfl _ _ rfl q (i * 4 + 1) (by go_simp) [.int .i64 od.fr, .int .i64 od.to] dP (fun Y hY => hY.2.2) hdP1 hdP2 Try.sizeSp) (by assumption) ?_
      (try simp only [Act.put, putS])
      refine wpAnyH_take (i := 26) (v := .bool false) rfl (by kernel_rfl) (by kernel_rfl) (by kernel_rfl) (fun _ _ _ h => h) (Or.inl ⟨by rfl, ?ne26⟩) (by assumption) ?nr26
      case ne26 =>
        intro Y hY
        exact exec_bin rfl rfl rfl (run_eqGuard_agg _ _ _ _ _ _ _ Try.eqgSp) (run_neq_sp od.fr od.to Y)
      (try simp only [Act.put, putS])
      refine wpAnyH_take (i := 27) (v := ?rv27) rfl (by kernel_rfl) (by kernel_rfl) (by kernel_rfl) (fun _ _ _ h => h) (Or.inl ⟨by rfl, ?ry27⟩) (by assumption) ?rr27
      case ry27 => (intro w hSw; (try dsimp only at hSw); go_simp; try with_reducible rfl)
      (try simp only [Act.put, putS])
      refine wpAnyH_take (i := 28) (v := ?rv28) rfl (by kernel_rfl) (by kernel_rfl) (by kernel_rfl) (fun _ _ _ h => h) (Or.inl ⟨by rfl, ?ry28⟩) (by assumption) ?rr28
      case ry28 => (intro w hSw; (try dsimp only at hSw); go_simp; try with_reducible rfl)
      (try simp only [Act.put, putS])
      refine wpAnyH_take (i := 29) (v := ?rv29) rfl (by kernel_rfl) (by kernel_rfl) (by kernel_rfl) (fun _ _ _ h => h) (Or.inl ⟨by rfl, ?ry29⟩) (by assumption) ?rr29
      case ry29 => (intro w hSw; (try dsimp only at hSw); go_simp; try with_reducible rfl)
      (try simp only [Act.put, putS])
      refine wpAnyH_take (i := 30) (v := ?rv30) rfl (by kernel_rfl) (by kernel_rfl) (by kernel_rfl) (fun _ _ _ h => h) (Or.inl ⟨by rfl, ?ry30⟩) (by assumption) ?rr30
      case ry30 => (intro w hSw; (try dsimp only at hSw); go_simp; try with_reducible rfl)
      (try simp only [Act.put, putS])
      refine wpAnyH_take (i := 31) (v := ?rv31) rfl (by kernel_rfl) (by kernel_rfl) (by kernel_rfl) (fun _ _ _ h => h) (Or.inl ⟨by rfl, ?ry31⟩) (by assumption) ?rr31
      case ry31 => (intro w hSw; (try dsimp only at hSw); go_simp; try with_reducible rfl)
      (try simp only [Act.put, putS])
      refine wpAnyH_take (i := 32) (v := ?rv32) rfl (by kernel_rfl) (by kernel_rfl) (by kernel_rfl) (fun _ _ _ h => h) (Or.inl ⟨by rfl, ?ry32⟩) (by assumption) ?rr32
      case ry32 => (intro w hSw; (try dsimp only at hSw); go_simp; try with_reducible rfl)
      (try simp only [Act.put, putS])
      refine wpAnyH_take (i := 33) (v := ?rv33) rfl (by kernel_rfl) (by kernel_rfl) (by kernel_rfl) (fun _ _ _ h => h) (Or.inl ⟨by rfl, ?ry33⟩) (by assumption) ?rr33
      case ry33 => (intro w hSw; (try dsimp only at hSw); go_simp; try with_reducible rfl)
      (try simp only [Act.put, putS])
      refine wpAnyH_take (i := 34) (v := ?rv34) rfl (by kernel_rfl) (by kernel_rfl) (by kernel_rfl) (fun _ _ _ h => h) (Or.inl ⟨by rfl, ?ry34⟩) (by assumption) ?rr34
      case ry34 => (intro w hSw; (try dsimp only at hSw); go_simp; try with_reducible rfl)
      (try simp only [Act.put, putS])
      refine wpAnyH_take (i := 35) (v := ?rv35) rfl (by kernel_rfl) (by kernel_rfl) (by kernel_rfl) (fun _ _ _ h => h) (Or.inl ⟨by rfl, ?ry35⟩) (by assumption) ?rr35
      case ry35 => (intro w hSw; (try dsimp only at hSw); go_simp; try with_reducible rfl)
      (try simp only [Act.put, putS])
      refine wpAnyH_take (i := 36) (v := ?rv36) rfl (by kernel_rfl) (by kernel_rfl) (by kernel_rfl) (fun _ _ _ h => h) (Or.inl ⟨by rfl, ?ry36⟩) (by assumption) ?rr36
      case ry36 => (intro w hSw; (try dsimp only at hSw); go_simp; try with_reducible rfl)
      (try simp only [Act.put, putS])
      refine wpAnyH_take (i := 37) (v := ?rv37) rfl (by kernel_rfl) (by kernel_rfl) (by kernel_rfl) (fun _ _ _ h => h) (Or.inl ⟨by rfl, ?ry37⟩) (by assumption) ?rr37
      case ry37 => (intro w hSw; (try dsimp only at hSw); go_simp; try with_reducible rfl)
      (try simp only [Act.put, putS])
      refine wpAnyH_take (i := 38) (v := ?rv38) rfl (by kernel_rfl) (by kernel_rfl) (by kernel_rfl) (fun _ _ _ h => h) (Or.inl ⟨by rfl, ?ry38⟩) (by assumption) ?rr38
      case ry38 => (intro w hSw; (try dsimp only at hSw); go_simp; try with_reducible rfl)
      (try simp only [Act.put, putS])
      refine wpAnyH_take (i := 39) (v := ?rv39) rfl (by kernel_rfl) (by kernel_rfl) (by kernel_rfl) (fun _ _ _ h => h) (Or.inl ⟨by rfl, ?ry39⟩) (by assumption) ?rr39
      case ry39 => (intro w hSw; (try dsimp only at hSw); go_simp; try with_reducible rfl)
      (try simp only [Act.put, putS])
      refine wpAnyH_take (i := 40) (v := ?rv40) rfl (by kernel_rfl) (by kernel_rfl) (by kernel_rfl) (fun _ _ _ h => h) (Or.inl ⟨by rfl, ?ry40⟩) (by assumption) ?rr40
      case ry40 => (intro w hSw; (try dsimp only at hSw); go_simp; try with_reducible rfl)
      (try simp only [Act.put, putS])
      refine wpAnyH_ready (rs := [41]) (by kernel_rfl) (by simp) ?_
      refine AllReadyH.cons rfl (fun K hK => ?_) AllReadyH.nil
      rw [if_pos (by rfl)]
      go_wp2_with fail
      refine (sameInts_eq od.mem _ _ _ (NA.out.below ((Below.refl _ _).drew)) (NB.out.below ((Below.refl _ _).drew))).mono ?_
      rintro e w5 ⟨rfl, hb5⟩
      have B5 := hid (((Below.refl wr.heap.size wr).drew).trans hb5)
      clear hb5
      refine hK.out _ _ (SW.out _ B5.out) (fun hHeld => ?_)
      try clear hK K
      (try simp only [Act.put, putS])
      refine wpAnyH_take (i := 42) (v := ?rv42) rfl (by kernel_rfl) (by kernel_rfl) (by kernel_rfl) (fun _ _ _ h => h) (Or.inl ⟨by rfl, ?ry42⟩) (by assumption) ?rr42
      case ry42 => (intro w hSw; (try dsimp only at hSw); go_simp; try with_reducible rfl)
      (try simp only [Act.put, putS])
      refine wpAnyH_take (i := 43) (v := ?rv43) rfl (by kernel_rfl) (by kernel_rfl) (by kernel_rfl) (fun _ _ _ h => h) (Or.inl ⟨by rfl, ?ry43⟩) (by assumption) ?rr43
      case ry43 => (intro w hSw; (try dsimp only at hSw); go_simp; try with_reducible rfl)
      (try simp only [Act.put, putS])
      refine wpAnyH_done (by kernel_rfl) ?_ _
      go_wp2_with fail
      go_roundw
      case rel => exact ⟨i + 1, by go_num, by omega, BR.out.trans (B5.out.mono BR.out.size)⟩
      case measure => simp [intOf]; omega
    · go_wp2_with fail
      go_ret
      exact ⟨rfl, B1.out.trans (BR.out.mono B1.out.size)⟩
end Go.Proofs.Ytnkjkaofgninnaa
