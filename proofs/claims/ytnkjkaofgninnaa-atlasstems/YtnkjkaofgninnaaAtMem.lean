/- A map of shards in memory: its numbers, what is open, where blocks are, its shards by their numbers. No condition. -/
import Derived.Test.YtnkjkaofgninnaaAtCopy
import Derived.Test.YtnkjkaofgninnaaSpMap
import Derived.Maps.OwnSet
import Derived.Maps.OwnIn
import Derived.Maps.Views
import Derived.Maps.Keyed
import Derived.MapViews
namespace Go.Proofs.Ytnkjkaofgninnaa
open Go.RowKit Go.Maps Go.Shelf
set_option linter.unusedVariables false
set_option linter.unusedSimpArgs false
set_option maxRecDepth 100000

theorem Try.underlyingInt : Try.prog.underlying 3 = some (.int .i64) := by kernel_rfl
theorem intK : Keyed Try.prog 3 := int_keyed Try.underlyingInt
theorem Try.underlyingMs : Try.prog.underlying 62 = some (.map 3 46) := by kernel_rfl
theorem key_of (i : Int) (h : I64 i) : keyOf Try.prog 3 (.int .i64 i) = some (.int .i64 i) :=
  keyOf_int_mk Try.underlyingInt (by have := h; simpa [I64, Lit.wf, IntKind.min, IntKind.max, IntKind.signed, IntKind.bits] using this)
/-- A shard's value, whatever its lists. -/
def ShS (v : Value) : Prop := ∃ (S : ShD) (ua : Option Addr) (un uc : Nat) (va : Option Addr) (vn vc : Nat), v = shV S (.slice ua un uc) (.slice va vn vc)
open Classical in
/-- A shard is held as it is. -/
noncomputable def RHs (v : Value) : Option (DataW Value × List MemPlace) := if ShS v then some (.held v, []) else none
theorem RHs_mk {v : Value} (h : ShS v) : RHs v = some (.held v, []) := if_pos h
theorem RHs_inv {v : Value} {d : DataW Value} {ps : List MemPlace} (h : RHs v = some (d, ps)) : ShS v ∧ d = .held v ∧ ps = [] := by
  unfold RHs at h
  split at h
  · rename_i hc
    simp only [Option.some.injEq, Prod.mk.injEq] at h
    exact ⟨hc, h.1.symm, h.2.symm⟩
  · cases h
def zS : ShD := ⟨0, 0, 0, [], []⟩
def zV : Value := shV zS (.slice none 0 0) (.slice none 0 0)
theorem zShS : ShS zV := ⟨_, _, _, _, _, _, _, rfl⟩
theorem Try.infoSh : (Try.prog.info? 46).map (fun i => i.zero) = some (some zV) := by kernel_rfl
theorem Try.zeroSh (w : World) : (zeroValue 46).run Try.prog w = .ok zV w := by
  have hz := Try.infoSh
  cases hi : Try.prog.info? 46 with
  | none => rw [hi] at hz; cases hz
  | some i =>
    rw [hi] at hz
    have h2 : i.zero = some zV := by simpa using hz
    simp [zeroValue, typeInfo, hi, h2]
/-- A shard with its rows. -/
structure SX where
  s : ShD
  mv : Value
  pv : Value
def SX.v (x : SX) : Value := shV x.s x.mv x.pv
/-- The map D has the shards X, by their numbers. -/
structure SM (D : DataW Value) (X : List SX) : Prop where
  isMap : IsMap D
  yes : ∀ x ∈ X, Maps.has D (.int .i64 x.s.id) = true ∧ ∀ zd, D.atKey (.int .i64 x.s.id) zd = .held x.v
  no : ∀ i : Int, (∀ x ∈ X, x.s.id ≠ i) → Maps.has D (.int .i64 i) = false
theorem SM.nil : SM (.map []) [] := ⟨isMap_empty, by simp, fun i _ => rfl⟩
theorem lit_ne {i j : Int} (h : i ≠ j) : (Lit.int .i64 i) ≠ .int .i64 j := fun e => h (by cases e; rfl)
theorem SM.put {D : DataW Value} {X : List SX} (h : SM D X) (x : SX) (hn : ∀ y ∈ X, y.s.id ≠ x.s.id) : SM (D.put (.int .i64 x.s.id) (.held x.v)) (x :: X) := by
  refine ⟨h.isMap.put _ _, fun y hy => ?_, fun i hi => ?_⟩
  · rcases List.mem_cons.1 hy with rfl | hy
    · exact ⟨has_put_same h.isMap (show WideAt.IsKeyLit (.int .i64 y.s.id) from trivial) _, fun zd => atKey_put_same h.isMap (show WideAt.IsKeyLit (.int .i64 y.s.id) from trivial) _ _⟩
    · have := lit_ne (hn y hy)
      rw [has_put_other this]
      exact ⟨(h.yes y hy).1, fun zd => by rw [atKey_put_other this]; exact (h.yes y hy).2 zd⟩
  · rw [has_put_other (lit_ne (hi x (by simp)).symm)]
    exact h.no i fun y hy => hi y (by simp [hy])
theorem SM.del {D : DataW Value} {X : List SX} (h : SM D X) (j : Int) : SM (D.del (.int .i64 j)) (X.filter fun y => decide (y.s.id ≠ j)) := by
  refine ⟨h.isMap.del _, fun y hy => ?_, fun i hi => ?_⟩
  · simp only [List.mem_filter, decide_eq_true_eq] at hy
    have := lit_ne hy.2
    rw [has_del_other this]
    exact ⟨(h.yes y hy.1).1, fun zd => by rw [atKey_del_other this]; exact (h.yes y hy.1).2 zd⟩
  · by_cases e : i = j
    · subst e; exact has_del_same
    · rw [has_del_other (lit_ne e)]
      exact h.no i fun y hy e2 => hi y (by simp only [List.mem_filter, decide_eq_true_eq]; exact ⟨hy, by omega⟩) e2
theorem SM.congr {D : DataW Value} {X Y : List SX} (h : SM D X) (he : ∀ x, x ∈ Y ↔ x ∈ X) : SM D Y :=
  ⟨h.isMap, fun x hx => h.yes x ((he x).1 hx), fun i hi => h.no i fun x hx => hi x ((he x).2 hx)⟩
/-- Only blocks of R have turned. -/
structure Tr (R : Nat → Prop) (w w' : World) : Prop where
  os : w'.os = w.os
  tape : w'.tape = w.tape
  output : w'.output = w.output
  size : w.heap.size ≤ w'.heap.size
  block : ∀ q, q < w.heap.size → ¬ R q → w'.heap[q]? = w.heap[q]?
theorem Tr.refl (R : Nat → Prop) (w : World) : Tr R w w := ⟨rfl, rfl, rfl, Nat.le_refl _, fun _ _ _ => rfl⟩
theorem Tr.trans {R : Nat → Prop} {w w1 w2 : World} (h : Tr R w w1) (k : Tr R w1 w2) : Tr R w w2 :=
  ⟨k.os.trans h.os, k.tape.trans h.tape, k.output.trans h.output, Nat.le_trans h.size k.size, fun q hq hr => (k.block q (Nat.lt_of_lt_of_le hq h.size) hr).trans (h.block q hq hr)⟩
theorem Tr.below {R : Nat → Prop} {w w' : World} (h : Below w.heap.size w w') : Tr R w w' := ⟨h.os, h.tape, h.output, h.size, fun q hq _ => h.block q hq⟩
theorem Tr.grown {R : Nat → Prop} {w w' : World} {b : Nat} (h : w.grownBy w' (some b)) (hb : R b) : Tr R w w' := ⟨h.os, h.tape, h.output, h.size, fun q hq hr => h.block q hq fun e => by cases e; exact hr hb⟩
theorem Tr.set {R : Nat → Prop} {w : World} {b i : Nat} {v : Value} (hb : R b) : Tr R w (w.setCell ⟨b, i, none⟩ v) := ⟨rfl, rfl, rfl, by simp, fun q hq hr => Below.heap_setCell _ _ _ _ fun e => by have e' : q = b := e; exact hr (e' ▸ hb)⟩
theorem Tr.to {R : Nat → Prop} {w w' : World} (h : Tr R w w') {B : Nat} (hR : ∀ q, R q → B ≤ q) (hB : B ≤ w.heap.size) : Below B w w' :=
  ⟨h.os, h.tape, h.output, h.size, fun k hk => h.block k (by omega) fun hr => by have := hR k hr; omega⟩
theorem Tr.mono {R R' : Nat → Prop} {w w' : World} (h : Tr R w w') (hs : ∀ q, R q → R' q) : Tr R' w w' := ⟨h.os, h.tape, h.output, h.size, fun q hq hr => h.block q hq fun e => hr (hs q e)⟩
def AtR (b wb mb : Nat) : Nat → Prop := fun q => q = b ∨ q = wb ∨ q = mb
/-- A map's numbers. -/
structure AtN where
  bl : Int
  ep : Int
  nx : Int
  op : List Int
def atC (N : AtN) (ov : Value) (wb mb : Nat) : Array Value := #[.int .i64 N.bl, .int .i64 N.ep, .int .i64 N.nx, ov, .pointer (some ⟨wb, 0, none⟩), .map (some mb)]
/-- A map of shards lies in memory: where blocks are says W, its shards are X. -/
structure AtM (w : World) (b wb mb n : Nat) (ov : Value) (D : DataW Value) (N : AtN) (W : List Pc) (X : List SX) : Prop where
  box : w.heap[b]? = some (.cells (atC N ov wb mb) 64 (0, 0))
  opn : w.ownsRow 0 3 1 ov N.op.length (nvs N.op)
  whr : MapC w wb W
  own : w.ownsMap Try.prog 3 RHs mb n D
  sm : SM D X
  mem : ∀ x ∈ X, ShM w x.s x.mv x.pv
theorem AtM.nob {w : World} {b wb mb n : Nat} {ov : Value} {D : DataW Value} {N : AtN} {W : List Pc} {X : List SX} (h : AtM w b wb mb n ov D N W X) {q : Nat} {cs : Array Value} {t : TypeId} {fr : Nat × Nat} (hq : w.heap[q]? = some (.cells cs t fr)) (h1 : t ≠ 64) (h2 : t ≠ 99) : ¬ AtR b wb mb q := by
  rintro (rfl | rfl | rfl)
  · rw [h.box] at hq; cases hq; exact h1 rfl
  · obtain ⟨va, vc, hm, -⟩ := h.whr.at'
    rw [hm] at hq; cases hq; exact h2 rfl
  · obtain ⟨es, clock, hm, -⟩ := h.own
    rw [hm] at hq; cases hq
theorem AtM.ne {w : World} {b wb mb n : Nat} {ov : Value} {D : DataW Value} {N : AtN} {W : List Pc} {X : List SX} (h : AtM w b wb mb n ov D N W X) : wb ≠ b ∧ mb ≠ b ∧ mb ≠ wb := by
  obtain ⟨va, vc, hm, -⟩ := h.whr.at'
  obtain ⟨es, clock, hk, -⟩ := h.own
  refine ⟨fun e => ?_, fun e => ?_, fun e => ?_⟩
  · rw [e, h.box] at hm; cases hm
  · rw [e, h.box] at hk; cases hk
  · rw [e, hm] at hk; cases hk
/-- Rows of other types stand where a map of shards turns. -/
theorem own_tr {w w' : World} {b wb mb n : Nat} {ov : Value} {D : DataW Value} {N : AtN} {W : List Pc} {X : List SX} (h : AtM w b wb mb n ov D N W X) (ht : Tr (AtR b wb mb) w w') {B : Nat} {E : TypeId} {sz k : Nat} {v : Value} {xs : List Value} (ho : w.ownsRow B E sz v k xs) (h1 : E ≠ 64) (h2 : E ≠ 99) : w'.ownsRow B E sz v k xs :=
  own_kept ho fun q cs hq hh => ht.block q (lt_of_block hh) (h.nob hh h1 h2)
theorem ShM.tr {w w' : World} {b wb mb n : Nat} {ov : Value} {D : DataW Value} {N : AtN} {W : List Pc} {X : List SX} (h : AtM w b wb mb n ov D N W X) (ht : Tr (AtR b wb mb) w w') {S : ShD} {mv pv : Value} (hs : ShM w S mv pv) : ShM w' S mv pv := by
  obtain ⟨L, h1, h2, h3⟩ := hs.p
  exact ⟨own_tr h ht hs.m (by decide) (by decide), L, h1, own_tr h ht h2 (by decide) (by decide), fun x hx => own_tr h ht (h3 x hx) (by decide) (by decide)⟩
theorem AtM.below {w w' : World} {b wb mb n : Nat} {ov : Value} {D : DataW Value} {N : AtN} {W : List Pc} {X : List SX} (h : AtM w b wb mb n ov D N W X) (hb : Below w.heap.size w w') : AtM w' b wb mb n ov D N W X :=
  ⟨(hb.block b (lt_of_block h.box)).trans h.box, own_below h.opn hb, h.whr.kept hb, h.own.kept (row := none) (grown_of_below hb none) (by simp), h.sm, fun x hx => (h.mem x hx).below hb⟩
theorem AtM.cell {w : World} {b wb mb n : Nat} {ov : Value} {D : DataW Value} {N : AtN} {W : List Pc} {X : List SX} (h : AtM w b wb mb n ov D N W X) (i : Nat) : w.cell? ⟨b, i, none⟩ = (atC N ov wb mb)[i]? := by rw [cell_of_row _ _ _ _ _ _ h.box]
theorem AtM.fz {w : World} {b wb mb n : Nat} {ov : Value} {D : DataW Value} {N : AtN} {W : List Pc} {X : List SX} (h : AtM w b wb mb n ov D N W X) (i : Nat) : w.frozen? ⟨b, i, none⟩ = false := frozen_of_row _ _ _ _ _ h.box
theorem AtM.shape {w : World} {b wb mb n : Nat} {ov : Value} {D : DataW Value} {N : AtN} {W : List Pc} {X : List SX} (h : AtM w b wb mb n ov D N W X) : ∃ va vc, ov = .slice va N.op.length vc := own_shape h.opn
/-- One of its own cells is set. -/
theorem AtM.set {w : World} {b wb mb n : Nat} {ov ov' : Value} {D : DataW Value} {N N' : AtN} {W : List Pc} {X : List SX} (h : AtM w b wb mb n ov D N W X) (i : Nat) (v : Value) (hc : (atC N ov wb mb).setIfInBounds i v = atC N' ov' wb mb) (ho : w.ownsRow 0 3 1 ov' N'.op.length (nvs N'.op)) : AtM (w.setCell ⟨b, i, none⟩ v) b wb mb n ov' D N' W X := by
  have ht : Tr (AtR b wb mb) w (w.setCell ⟨b, i, none⟩ v) := Tr.set (.inl rfl)
  have hn := h.ne
  refine ⟨by rw [← hc]; exact heap_setCell_same _ _ _ _ _ _ h.box, own_tr h ht ho (by decide) (by decide), ⟨?_, h.whr.can, h.whr.ints⟩, h.own.setCell (a := ⟨b, i, none⟩) hn.2.1 v, h.sm, fun x hx => ShM.tr h ht (h.mem x hx)⟩
  obtain ⟨va, vc, h1, h2⟩ := h.whr.at'
  exact ⟨va, vc, (Below.heap_setCell _ _ _ _ hn.1).trans h1, own_tr h ht h2 (by decide) (by decide)⟩
end Go.Proofs.Ytnkjkaofgninnaa
