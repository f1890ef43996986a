/- Two numbers by value. -/
import Derived.Test.YtappdhgabbjoiaaBkOpen
namespace Go.Proofs.Ytappdhgabbjoiaa
open Go.ChangeShapes Go.WideShapes Go.ChangeAt Go.RowKit Go.Deep
set_option maxRecDepth 100000

variable {H : Type} {enc : TypeId × Value → H} {w : World} {base : Nat} {spare : Nat → Bool} {held : Bool}

theorem int2_of {r : Reach} {b0 : Nat} {v : Value} {d : DataW H} {p : List MemPlace} (hv : Value.okWide Try.prog w r b0 46 v) (h : DataW.Trod enc Try.prog w base spare held 46 v d p) : ∃ x : Int × Int, v = .agg #[.int .i64 x.1, .int .i64 x.2] ∧ I64 x.1 ∧ I64 x.2 := by
  have hu : Try.prog.underlying 46 = some (.array 2 3) := by kernel_rfl
  have hc : Try.prog.cellsOf 46 = 2 := by kernel_rfl
  simp only [Value.okWide, hu] at hv
  obtain ⟨cs, rfl, h2, -⟩ := hv
  rw [hc] at h2
  obtain ⟨l⟩ := cs
  obtain ⟨fuel, hf⟩ := h
  obtain ⟨xs, m, -, -, -, hxl, hel⟩ := DataW.trod_array hu hf
  match l, h2, xs, hxl with
  | [c0, c1], _, [y0, y1], _ =>
    have g0 := hel 0 (by omega)
    have g1 := hel 1 (by omega)
    simp [Value.cells, Try.cellsI] at g0 g1
    obtain ⟨x, rfl, hx⟩ := int_of g0
    obtain ⟨y, rfl, hy⟩ := int_of g1
    exact ⟨(x, y), rfl, hx, hy⟩
end Go.Proofs.Ytappdhgabbjoiaa
