/- Commands and texts as they come in. No condition. -/
import Derived.Test.YthhcpoafnmhnhaaGreatBkBase
import Derived.ProofKit
import Derived.OpenShut
import Derived.ChangeOld
import Derived.Deep.SlicePairs
import Derived.Lib.SmallJoins
namespace Go.Proofs.YthhcpoafnmhnhaaGreat
open Go.ChangeShapes Go.WideShapes Go.ChangeAt Go.RowKit Go.Deep
set_option maxRecDepth 100000

variable {H : Type} {enc : TypeId × Value → H} {w : World} {base : Nat} {spare : Nat → Bool} {held : Bool}

theorem Tryz.cellsI : Tryz.prog.cellsOf 3 = 1 := by kernel_rfl
theorem Tryz.cellsStr : Tryz.prog.cellsOf 9 = 1 := by kernel_rfl
theorem Tryz.cellsStrs : Tryz.prog.cellsOf 26 = 1 := by kernel_rfl
theorem Tryz.cellsCmd : Tryz.prog.cellsOf 28 = 6 := by kernel_rfl
theorem Tryz.cellsSp : Tryz.prog.cellsOf 107 = 2 := by kernel_rfl
theorem int_of {n : Nat} {v0 : Value} {y0 : DataW H × List MemPlace} (h0 : DataW.trod enc Tryz.prog w base spare held n 3 [v0] = some y0) : ∃ x : Int, v0 = .int .i64 x ∧ I64 x := by
  obtain ⟨a0, e0, rfl, w0⟩ := DataW.trod_int Tryz.underlying3 h0
  simp at e0
  subst e0
  have s0 : -9223372036854775808 ≤ a0 ∧ a0 ≤ 9223372036854775807 := by simpa [Lit.wf, IntKind.min, IntKind.max, IntKind.signed, IntKind.bits] using w0
  exact ⟨a0, rfl, s0⟩
/-- A slice of texts that came in. -/
theorem strs_of {n : Nat} {v : Value} {y : DataW H × List MemPlace} (h : DataW.trod enc Tryz.prog w base spare held n 26 [v] = some y) : ∃ l, Strs w v l ∧ ∀ s ∈ l, s.size ≤ maxLen := by
  rcases DataW.trod_slice Tryz.underlying26 h with ⟨hcs, _⟩ | ⟨a, len, cap, elems, rest, n', _, hcs, _, hb, hl, hm, hlen, hel, _, _⟩
  · simp at hcs
    subst hcs
    exact ⟨[], Strs.nil _, by simp⟩
  · simp at hcs
    subst hcs
    have each : ∀ i, i < len → ∃ q : ByteArray, w.cell? (a.add i) = some (.string q) ∧ q.size ≤ maxLen := by
      intro i hi
      have h1 := hel i hi
      rw [List.getElem?_eq_getElem (by omega), Tryz.cellsStr] at h1
      obtain ⟨cs, h2, h3⟩ := Option.bind_eq_some_iff.1 h1
      obtain ⟨_, hcl, hcell⟩ := World.cells?_some h2
      match cs, hcl with
      | [v0], _ =>
        obtain ⟨s, hs, _, hz⟩ := DataW.trod_string Tryz.underlying9 h3
        simp at hs
        subst hs
        have e0 := hcell 0 (by omega)
        rw [Addr.add_add] at e0
        exact ⟨s, by simpa using e0, hz⟩
    obtain ⟨q, hq⟩ := choose_lt each
    refine ⟨(List.range len).map q, ⟨some a, len, cap, rfl, by simp, hl, by unfold maxLen at hm; omega, (fun h => by cases h), fun ad had j hj => ?_⟩, ?_⟩
    · obtain rfl := Option.some.inj had
      have hj' : j < len := by simpa using hj
      simp only [List.getElem_map, List.getElem_range]
      exact (hq j hj').1
    · intro x hx
      simp only [List.mem_map, List.mem_range] at hx
      obtain ⟨i, hi, rfl⟩ := hx
      exact (hq i hi).2
/-- What can stand in a command. -/
structure CmdJ (c : CmdD) : Prop where
  op : I64 c.op
  client : I64 c.client
  seq : I64 c.seq
  f : I64 c.from'
  t : I64 c.to
  s : ∀ s ∈ c.data, s.size ≤ maxLen
theorem cmd6_of {n : Nat} {v0 v1 v2 v3 v4 v5 : Value} {y : DataW H × List MemPlace} (h : DataW.trod enc Tryz.prog w base spare held n 28 [v0, v1, v2, v3, v4, v5] = some y) : ∃ (c : CmdD) (u : Value), v0 = .int .i64 c.op ∧ v1 = .int .i64 c.client ∧ v2 = .int .i64 c.seq ∧ v3 = .int .i64 c.from' ∧ v4 = .int .i64 c.to ∧ v5 = u ∧ Strs w u c.data ∧ CmdJ c := by
  obtain ⟨xs, k, hk, hxy, _, hxl, hf⟩ := DataW.trod_struct Tryz.underlying28 h
  match xs, hxl with
  | [y0, y1, y2, y3, y4, y5], _ =>
    have g0 := hf 0 _ rfl
    have g1 := hf 1 _ rfl
    have g2 := hf 2 _ rfl
    have g3 := hf 3 _ rfl
    have g4 := hf 4 _ rfl
    have g5 := hf 5 _ rfl
    simp [Tryz.cellsI, Tryz.cellsStrs] at g0 g1 g2 g3 g4 g5
    obtain ⟨x0, rfl, i0⟩ := int_of g0
    obtain ⟨x1, rfl, i1⟩ := int_of g1
    obtain ⟨x2, rfl, i2⟩ := int_of g2
    obtain ⟨x3, rfl, i3⟩ := int_of g3
    obtain ⟨x4, rfl, i4⟩ := int_of g4
    obtain ⟨l, hl, hz⟩ := strs_of g5
    exact ⟨⟨x0, x1, x2, x3, x4, l⟩, v5, rfl, rfl, rfl, rfl, rfl, rfl, hl, ⟨i0, i1, i2, i3, i4, hz⟩⟩
/-- A command by value. -/
theorem cmd_of {r : Reach} {b0 : Nat} {v : Value} {d : DataW H} {p : List MemPlace} (hv : Value.okWide Tryz.prog w r b0 28 v) (h : DataW.Trod enc Tryz.prog w base spare held 28 v d p) : ∃ (c : CmdD) (u : Value), v = cmdV c u ∧ Strs w u c.data ∧ CmdJ c := by
  simp only [Value.okWide, Tryz.underlying28] at hv
  obtain ⟨cs, rfl, h2, -⟩ := hv
  rw [Tryz.cellsCmd] at h2
  obtain ⟨l⟩ := cs
  obtain ⟨fuel, hf⟩ := h
  match l, h2 with
  | [c0, c1, c2, c3, c4, c5], _ =>
    obtain ⟨c, u, rfl, rfl, rfl, rfl, rfl, rfl, hs, hj⟩ := cmd6_of hf
    exact ⟨c, _, rfl, hs, hj⟩
/-- A span by value. -/
theorem span_of {r : Reach} {b0 : Nat} {v : Value} {d : DataW H} {p : List MemPlace} (hv : Value.okWide Tryz.prog w r b0 107 v) (h : DataW.Trod enc Tryz.prog w base spare held 107 v d p) : ∃ x : Sp, v = .agg #[.int .i64 x.1, .int .i64 x.2] ∧ I64 x.1 ∧ I64 x.2 := by
  obtain ⟨v0, v1, y0, y1, n, rfl, rfl, rfl, h0, h1⟩ := Go.Joins.open_agg2 Tryz.underlying107 (by kernel_rfl) Tryz.cellsSp hv h
  obtain ⟨x0, rfl, i0⟩ := int_of h0
  obtain ⟨x1, rfl, i1⟩ := int_of h1
  exact ⟨(x0, x1), rfl, i0, i1⟩
end Go.Proofs.YthhcpoafnmhnhaaGreat
