/- Tables of instances in memory: a map from Refs, whose elements are held as they are. No condition. -/
import Derived.Test.YthhcpoafnmhnhaaGreatInSame
import Derived.Maps.OwnSet
import Derived.Maps.RangeWalk
import Derived.Sort.MapsRangeIn
import Derived.Maps.OwnIn
import Derived.DeepKeys4
import Derived.MapViews
namespace Go.Proofs.YthhcpoafnmhnhaaGreat
open Go.RowKit Go.Maps
set_option linter.unusedVariables false
set_option linter.unusedSimpArgs false
set_option maxRecDepth 100000

theorem Tryz.laidOutI : laidOutB Tryz.prog = true := by kernel_rfl
theorem Tryz.rowRef : (23 : TypeId) < Tryz.prog.types.size := of_decide_eq_true (by kernel_rfl)
theorem Tryz.deepRef : Tryz.prog.keyTypeAt (Tryz.prog.types.size + 1) 23 = true := by kernel_rfl
theorem Tryz.wideRef : (match Tryz.prog.underlying 23 with | some (.array _ _) | some (.struct _) => true | _ => false) = true := by rw [Tryz.underlying23]
theorem refLaw : Keyed Tryz.prog 23 := Keyed.of_law (deep_law_laid Tryz.laidOutI (m := 2) (by omega) Tryz.rowRef (by kernel_rfl) Tryz.wideRef)
/-- An instance's value, whatever its lists. -/
def InSh (v : Value) : Prop := ∃ (x : InD) (ua : Option Addr) (un uc : Nat) (va : Option Addr) (vn vc : Nat), v = instV x (.slice ua un uc) (.slice va vn vc)
theorem InSh.cells {v : Value} (h : InSh v) : ∃ cs : Array Value, v = .agg cs ∧ cs.size = 16 ∧ cs.all (·.oneCell') = true := by
  obtain ⟨x, _, _, _, _, _, _, rfl⟩ := h
  exact ⟨_, rfl, rfl, by simp [instC, Value.oneCell']⟩
open Classical in
/-- An instance is held as it is. -/
noncomputable def RH (v : Value) : Option (DataW Value × List MemPlace) := if InSh v then some (.held v, []) else none
theorem RH_mk {v : Value} (h : InSh v) : RH v = some (.held v, []) := if_pos h
theorem RH_inv {v : Value} {d : DataW Value} {ps : List MemPlace} (h : RH v = some (d, ps)) : InSh v ∧ d = .held v ∧ ps = [] := by
  unfold RH at h
  split at h
  · rename_i hc
    simp only [Option.some.injEq, Prod.mk.injEq] at h
    exact ⟨hc, h.1.symm, h.2.symm⟩
  · cases h
/-- A Ref as a key. -/
def refK (r : Int × Int) : Lit := (DataW.agg [.lit (.int .i64 r.1), .lit (.int .i64 r.2)] : DataW Unit).asKey
theorem Tryz.cellsRef : Tryz.prog.cellsOf 23 = 2 := by kernel_rfl
theorem Tryz.cellsInt : Tryz.prog.cellsOf 3 = 1 := by kernel_rfl
theorem refV_formed (a b : Value) : (Value.agg #[a, b]).formed Tryz.prog 23 = true := by simp [Value.formed, Tryz.underlying23, Tryz.cellsRef]
theorem keyOf_ref (r : Int × Int) (h1 : I64 r.1) (h2 : I64 r.2) : keyOf Tryz.prog 23 (.agg #[.int .i64 r.1, .int .i64 r.2]) = some (refK r) := by
  have w1 : (Lit.int .i64 r.1).wf = true := by have := h1; simpa [I64, Lit.wf, IntKind.min, IntKind.max, IntKind.signed, IntKind.bits] using this
  have w2 : (Lit.int .i64 r.2).wf = true := by have := h2; simpa [I64, Lit.wf, IntKind.min, IntKind.max, IntKind.signed, IntKind.bits] using this
  have ht : DataW.Trod (fun _ => ()) Tryz.prog default 0 (fun _ => false) false 23 (.agg #[.int .i64 r.1, .int .i64 r.2]) (.agg [.lit (.int .i64 r.1), .lit (.int .i64 r.2)]) [] := by
    refine ⟨2, ?_⟩
    simp [DataW.trod, Value.cells, Tryz.underlying23, Tryz.underlying3, Tryz.cellsInt, Tryz.cellsRef, w1, w2]
  exact (keyOf_asKey Tryz.deepRef Tryz.wideRef (refV_formed _ _) ht).1
theorem Tryz.underlyingTab : Tryz.prog.underlying 77 = some (.map 23 31) := by kernel_rfl
/-- A table lies at block tb, its map at block mb. -/
structure Tb (w : World) (tb mb n : Nat) (D : DataW Value) : Prop where
  box : w.heap[tb]? = some (.cells #[.map (some mb)] 79 (0, 0))
  own : w.ownsMap Tryz.prog 23 RH mb n D
theorem Tb.kept {w w' : World} {tb mb n : Nat} {D : DataW Value} {row : Option Nat} (h : Tb w tb mb n D) (hg : w.grownBy w' row) (h1 : some tb ≠ row) (h2 : some mb ≠ row) : Tb w' tb mb n D :=
  ⟨(hg.block tb (lt_of_block h.box) h1).trans h.box, h.own.kept hg h2⟩
theorem Tb.below {w w' : World} {tb mb n : Nat} {D : DataW Value} (h : Tb w tb mb n D) (hb : Below w.heap.size w w') : Tb w' tb mb n D :=
  h.kept (row := none) ⟨hb.os, hb.tape, hb.output, hb.size, fun k hk _ => hb.block k hk⟩ (by simp) (by simp)
set_option maxHeartbeats 1600000 in
theorem inew_any (w : World) : Calls Tryz.prog 14 #[] w fun e w' => e = .returned (.pointer (some ⟨w.heap.size + 1, 0, none⟩)) ∧ Tb w' (w.heap.size + 1) w.heap.size 0 (.map []) ∧ Below w.heap.size w w' := by
  have hmm := @run_makeMap Tryz.prog
  go_enter Tryz.func14, Tryz.ntmps14
  go_wp2
  go_ret
  refine ⟨by simp, ⟨?_, ?_⟩, ?_⟩
  · have := heap_alloc_new (w.alloc (.map #[] 0)) (.cells #[.map (some w.heap.size)] 79)
    simpa using this
  · exact (World.ownsMap_made w Tryz.prog 23 RH).alloc _
  · exact ((Below.refl _ _).alloc (Nat.le_refl _) _).alloc (by simp) _
end Go.Proofs.YthhcpoafnmhnhaaGreat
