/- What clone of an instance gives: one with lists of its own. Conditions: its lists lie in memory and are not too long. -/
import Derived.Test.YthhcpoafnmhnhaaGreatInClone
import Derived.Laws.Tables
import Derived.Laws.Rows
namespace Go.Proofs.YthhcpoafnmhnhaaGreat
open Go.RowKit
set_option linter.unusedVariables false
set_option linter.unusedSimpArgs false

theorem Tryz.sizeInst : (Tryz.prog.info? 31).map (·.size) = some 16 := by kernel_rfl
theorem Tryz.structInst0 : (Tryz.prog.underlying 31).map (fun d => match d with | .struct _ | .array _ _ => true | _ => false) = some true := by kernel_rfl
theorem Tryz.structInst : ∃ d, Tryz.prog.underlying 31 = some d ∧ (match d with | .struct _ | .array _ _ => true | _ => false) = true := by
  have h := Tryz.structInst0
  cases hd : Tryz.prog.underlying 31 with
  | none => rw [hd] at h; cases h
  | some d => rw [hd] at h; exact ⟨d, rfl, by simpa using h⟩
theorem instC_size (x : InD) (u v : Value) : (instC x u v).size = 16 := rfl
theorem instC_one (x : InD) (u v : Value) (hu : u.oneCell' = true) (hv : v.oneCell' = true) : (instC x u v).all (·.oneCell') = true := by
  simp [instC, Value.oneCell']
  exact ⟨hu, hv⟩
theorem results_inst {fn : Func} {p : Tmp} (h : fn.results = #[.cell p 31]) (tmps : Array Value) (w : World) (g : Nat) (t : TypeId) (x : InD) (u v : Value) (fr : Nat × Nat)
    (hp : tmps.getD p undef = .pointer (some ⟨g, 0, none⟩)) (hg : w.heap[g]? = some (.cells (instC x u v) t fr)) : (results fn tmps).run Tryz.prog w = .ok (instV x u v) w := by
  obtain ⟨d, hd1, hd2⟩ := Tryz.structInst
  refine results_cell_row h tmps w g t _ fr d hp hg hd1 ?_ Tryz.sizeInst
  cases d <;> first | rfl | (simp at hd2)
theorem wpl_loadI {ops : Array Oper} {rest : List Oper} {o : Oper} {a : Act} {w : World} {Q : Exit → Act → World → Prop} (hgd : o.guard = none) (x : Operand) (ho : o.op = .load 31 x)
    (g : Nat) (hx : a.eval x = .pointer (some ⟨g, 0, none⟩)) (t : TypeId) (X : InD) (u v : Value) (fr : Nat × Nat) (hg : w.heap[g]? = some (.cells (instC X u v) t fr))
    (h : wpList Tryz.prog ops Q rest (a.put o.dst (instV X u v)) w) : wpList Tryz.prog ops Q (o :: rest) a w := by
  obtain ⟨d, hd1, hd2⟩ := Tryz.structInst
  exact wpList_load_row hgd _ x ho g hx t _ fr d hg hd1 (by cases d <;> first | rfl | (simp at hd2)) Tryz.sizeInst h
theorem wpl_storeI {ops : Array Oper} {rest : List Oper} {o : Oper} {a : Act} {w : World} {Q : Exit → Act → World → Prop} (hgd : o.guard = none) (x y : Operand) (ho : o.op = .store 31 x y)
    (g : Nat) (X : InD) (u v : Value) (hx : a.eval x = .pointer (some ⟨g, 0, none⟩)) (hy : a.eval y = instV X u v) (hu : u.oneCell' = true) (hv : v.oneCell' = true)
    (t : TypeId) (X0 : InD) (u0 v0 : Value) (hg : w.heap[g]? = some (.cells (instC X0 u0 v0) t (0, 0)))
    (h : wpList Tryz.prog ops Q rest (a.put o.dst undef) (w.setRow g (instC X u v))) : wpList Tryz.prog ops Q (o :: rest) a w :=
  wpList_store_row hgd _ x y ho g _ hx hy t _ hg Tryz.sizeInst rfl (instC_one X u v hu hv) h
def zeroI : InD := ⟨(0, 0), (0, 0), (0, 0), 0, false, ⟨0, 0, 0, 0, 0, []⟩, 0, []⟩
theorem below_row {B : Nat} {a w : World} (h : Below B a w) {g : Nat} (hg : B ≤ g) (cs : Array Value) : Below B a (w.setRow g cs) :=
  ⟨h.os, h.tape, h.output, by simpa using h.size, fun k hk => (setRow_other _ _ _ _ (by omega)).trans (h.block k hk)⟩
theorem own_lt {B b : Nat} {e : TypeId} {k n : Nat} {v : Value} {xs : List Value} {w w' : World} (h : w.ownsRow B e k v n xs) (hb : b < B) (hk : ∀ q, q ≠ b → w'.heap[q]? = w.heap[q]?) : w'.ownsRow B e k v n xs :=
  own_kept h fun q cs hq _ => hk q (by have := (World.ownsRow.lt h q hq).1; omega)
set_option maxRecDepth 100000 in
set_option maxHeartbeats 4000000 in
theorem iclone_any (x : InD) (u v : Value) (w : World) (hx : InM w x u v) (hl1 : x.cmd.data.length ≤ 1000000000) (hl2 : x.deps.length ≤ 1000000000) :
    Calls Tryz.prog 35 #[instV x u v] w fun e w' => ∃ u' v', e = .returned (instV x u' v') ∧ w'.ownsRow w.heap.size 9 1 u' x.cmd.data.length (svs x.cmd.data) ∧ w'.ownsRow w.heap.size 23 2 v' x.deps.length (rvs x.deps) ∧ Below w.heap.size w w' := by
  obtain ⟨xua, xuc, rfl⟩ := hx.d.shape
  obtain ⟨xva, xvc, rfl⟩ := hx.r.shape
  have HX := hid hx
  clear hx
  obtain ⟨w1, hw1⟩ : ∃ w1, w1 = (w.alloc (.cells (instC x (.slice xua x.cmd.data.length xuc) (.slice xva x.deps.length xvc)) 31)).alloc (.cells (instC zeroI (.slice none 0 0) (.slice none 0 0)) 31) := ⟨_, rfl⟩
  have B1 : Hid (Below w.heap.size w w1) := hid (by rw [hw1]; exact ((Below.refl _ _).alloc (Nat.le_refl _) _).alloc (by simp) _)
  have hA : Hid (w1.heap[w.heap.size]? = some (.cells (instC x (.slice xua x.cmd.data.length xuc) (.slice xva x.deps.length xvc)) 31 (0, 0))) := hid (by rw [hw1]; exact heap_alloc2_old _ _ _)
  have hB : Hid (w1.heap[w.heap.size + 1]? = some (.cells (instC zeroI (.slice none 0 0) (.slice none 0 0)) 31 (0, 0))) := hid (by rw [hw1]; exact heap_alloc2_new _ _ _)
  have HW1 := hid hw1
  clear hw1
  unfold instV
  unfold instC zeroI at HW1
  unfold instC
  go_enter Tryz.func35, Tryz.ntmps35
  go_upto_region 1 with fail
  rw [← HW1.out]
  obtain ⟨A, hAe⟩ : ∃ A, A = w.heap.size := ⟨_, rfl⟩
  obtain ⟨B, hBe⟩ : ∃ B, B = w.heap.size + 1 := ⟨_, rfl⟩
  have HAe := hid hAe
  have HBe := hid hBe
  rw [← hAe] at hA
  rw [← hBe] at hB
  rw [← hBe, ← hAe]
  clear hAe hBe HW1
  have c13 : w1.cell? ⟨A, 13, none⟩ = some (.slice xua x.cmd.data.length xuc) := by rw [cell_of_row _ _ _ _ _ _ hA.out]; rfl
  go_wp2_with fail
  refine (cloneS_any _ x.cmd.data w1 (HX.out.below B1.out).d hl1).mono ?_
  rintro e w2 ⟨va, vc, rfl, ho2, hb2⟩
  have A2 := hid ((hb2.block A (lt_of_block hA.out)).trans hA.out)
  have R2 := hid ((hb2.block B (lt_of_block hB.out)).trans hB.out)
  have hlA := lt_of_block hA.out
  have hlB := lt_of_block hB.out
  have B2 := hid (B1.out.trans (hb2.mono B1.out.size))
  have O2 := hid ho2
  clear ho2 hb2 c13 hA hB B1
  have c13 : w2.cell? ⟨A, 13, none⟩ = some (.slice xua x.cmd.data.length xuc) := by rw [cell_of_row _ _ _ _ _ _ A2.out]; rfl
  have f13 : w2.frozen? ⟨A, 13, none⟩ = false := frozen_of_row _ _ _ _ _ A2.out
  obtain ⟨w3, hw3⟩ : ∃ w3, w3 = w2.setCell ⟨A, 13, none⟩ (.slice va x.cmd.data.length vc) := ⟨_, rfl⟩
  have A3 : Hid (w3.heap[A]? = some (.cells (instC x (.slice va x.cmd.data.length vc) (.slice xva x.deps.length xvc)) 31 (0, 0))) := hid (by rw [hw3]; exact heap_setCell_same _ _ _ _ _ _ A2.out)
  have c15 : (w2.setCell ⟨A, 13, none⟩ (.slice va x.cmd.data.length vc)).cell? ⟨A, 15, none⟩ = some (.slice xva x.deps.length xvc) := by rw [← hw3, cell_of_row _ _ _ _ _ _ A3.out]; rfl
  have R3 : Hid (w3.heap[B]? = some (.cells (instC zeroI (.slice none 0 0) (.slice none 0 0)) 31 (0, 0))) := hid (by rw [hw3, Below.heap_setCell _ _ _ _ (by have := HAe.out; have := HBe.out; simp; omega)]; exact R2.out)
  have B3 : Hid (Below w.heap.size w w3) := hid (by rw [hw3]; exact B2.out.setCell (by have := HAe.out; simp; omega) _)
  have O3 : Hid (w3.ownsRow w1.heap.size 9 1 (.slice va x.cmd.data.length vc) x.cmd.data.length (svs x.cmd.data)) := hid (by rw [hw3]; exact own_lt O2.out hlA fun q hq => Below.heap_setCell _ _ _ _ (by simp; omega))
  have HW3 := hid hw3
  clear hw3 A2 R2 B2 O2
  go_wp2_with fail
  rw [← HW3.out]
  clear c13 f13 c15 HW3
  refine (cloneR_any _ x.deps w3 (HX.out.below B3.out).r hl2).mono ?_
  rintro e w4 ⟨vb, vd, rfl, ho4, hb4⟩
  have A4 := hid ((hb4.block A (lt_of_block A3.out)).trans A3.out)
  have R4 := hid ((hb4.block B (lt_of_block R3.out)).trans R3.out)
  have B4 := hid (B3.out.trans (hb4.mono B3.out.size))
  have O4 := hid (own_below O3.out hb4)
  have P4 := hid ho4
  have hlA3 := lt_of_block A3.out
  have hlB3 := lt_of_block R3.out
  clear ho4 hb4 A3 R3 B3 O3
  have c15 : w4.cell? ⟨A, 15, none⟩ = some (.slice xva x.deps.length xvc) := by rw [cell_of_row _ _ _ _ _ _ A4.out]; rfl
  have f15 : w4.frozen? ⟨A, 15, none⟩ = false := frozen_of_row _ _ _ _ _ A4.out
  obtain ⟨w5, hw5⟩ : ∃ w5, w5 = w4.setCell ⟨A, 15, none⟩ (.slice vb x.deps.length vd) := ⟨_, rfl⟩
  have A5 : Hid (w5.heap[A]? = some (.cells (instC x (.slice va x.cmd.data.length vc) (.slice vb x.deps.length vd)) 31 (0, 0))) := hid (by rw [hw5]; exact heap_setCell_same _ _ _ _ _ _ A4.out)
  have R5 : Hid (w5.heap[B]? = some (.cells (instC zeroI (.slice none 0 0) (.slice none 0 0)) 31 (0, 0))) := hid (by rw [hw5, Below.heap_setCell _ _ _ _ (by have := HAe.out; have := HBe.out; simp; omega)]; exact R4.out)
  have B5 : Hid (Below w.heap.size w w5) := hid (by rw [hw5]; exact B4.out.setCell (by have := HAe.out; simp; omega) _)
  have O5 : Hid (w5.ownsRow w1.heap.size 9 1 (.slice va x.cmd.data.length vc) x.cmd.data.length (svs x.cmd.data)) := hid (by rw [hw5]; exact own_lt O4.out hlA fun q hq => Below.heap_setCell _ _ _ _ (by simp; omega))
  have P5 : Hid (w5.ownsRow w3.heap.size 23 2 (.slice vb x.deps.length vd) x.deps.length (rvs x.deps)) := hid (by rw [hw5]; exact own_lt P4.out hlA3 fun q hq => Below.heap_setCell _ _ _ _ (by simp; omega))
  have HW5 := hid hw5
  clear hw5 A4 R4 B4 O4 P4
  go_upto_region 3 with fail
  rw [← HW5.out]
  clear c15 f15 HW5
  go_wp2_with (first | (refine wpl_loadI rfl _ rfl A rfl _ x _ _ _ A5.out ?_) | (refine wpl_storeI rfl _ _ rfl B x (.slice va x.cmd.data.length vc) (.slice vb x.deps.length vd) rfl rfl rfl rfl _ _ _ _ R5.out ?_))
  (try simp only [Exit.inBlock, Exit.then])
  refine bodyPost_ret (results_inst rfl _ _ B _ x _ _ _ rfl (setRow_heap _ _ _ _ _ _ R5.out)) rfl ?_
  refine ⟨_, _, rfl, ?_, ?_, below_row B5.out (by have := HBe.out; omega) _⟩
  · exact own_lower (own_lt O5.out hlB fun q hq => setRow_other _ _ _ _ hq) (by have := HAe.out; omega)
  · exact own_lower (own_lt P5.out hlB3 fun q hq => setRow_other _ _ _ _ hq) (by have := HAe.out; omega)
end Go.Proofs.YthhcpoafnmhnhaaGreat
