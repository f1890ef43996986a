/- A change by value as it comes in. No condition. -/
import Derived.Test.YtplpbnglcfdaaaaAtOpen
import Derived.Test.YtplpbnglcfdaaaaAtLay
namespace Go.Proofs.Ytplpbnglcfdaaaa
open Go.ChangeShapes Go.WideShapes Go.ChangeAt Go.RowKit Go.Deep
set_option maxRecDepth 100000

variable {H : Type} {enc : TypeId × Value → H} {w : World} {base : Nat} {spare : Nat → Bool} {held : Bool}
theorem Try.cellsCh : Try.prog.cellsOf 48 = 6 := by kernel_rfl
theorem ch6_of {n : Nat} {v0 v1 v2 v3 v4 v5 : Value} {y : DataW H × List MemPlace} (h : DataW.trod enc Try.prog w base spare held n 48 [v0, v1, v2, v3, v4, v5] = some y) : ∃ c : ChD, v0 = .int .i64 c.k ∧ v1 = .int .i64 c.sh ∧ v2 = .int .i64 c.ot ∧ v3 = .int .i64 c.at' ∧ v4 = .int .i64 c.out ∧ v5 = .int .i64 c.in' ∧ ChJ c := by
  obtain ⟨xs, k, hk, hxy, _, hxl, hf⟩ := DataW.trod_struct Try.underlying48 h
  match xs, hxl with
  | [y0, y1, y2, y3, y4, y5], _ =>
    have g0 := hf 0 _ rfl
    have g1 := hf 1 _ rfl
    have g2 := hf 2 _ rfl
    have g3 := hf 3 _ rfl
    have g4 := hf 4 _ rfl
    have g5 := hf 5 _ rfl
    simp [Try.cellsI] at g0 g1 g2 g3 g4 g5
    obtain ⟨x0, rfl, i0⟩ := int_of g0
    obtain ⟨x1, rfl, i1⟩ := int_of g1
    obtain ⟨x2, rfl, i2⟩ := int_of g2
    obtain ⟨x3, rfl, i3⟩ := int_of g3
    obtain ⟨x4, rfl, i4⟩ := int_of g4
    obtain ⟨x5, rfl, i5⟩ := int_of g5
    refine ⟨⟨x0, x1, x2, x3, x4, x5⟩, rfl, rfl, rfl, rfl, rfl, rfl, ?_⟩
    intro x hx
    simp only [numC, List.mem_cons, List.not_mem_nil, or_false] at hx
    rcases hx with rfl | rfl | rfl | rfl | rfl | rfl <;> assumption
/-- A change by value. -/
theorem ch_of {r : Reach} {b0 : Nat} {v : Value} {d : DataW H} {p : List MemPlace} (hv : Value.okWide Try.prog w r b0 48 v) (h : DataW.Trod enc Try.prog w base spare held 48 v d p) : ∃ c : ChD, v = chV c ∧ ChJ c := by
  simp only [Value.okWide, Try.underlying48] at hv
  obtain ⟨cs, rfl, h2, -⟩ := hv
  rw [Try.cellsCh] at h2
  obtain ⟨l⟩ := cs
  obtain ⟨fuel, hf⟩ := h
  match l, h2 with
  | [c0, c1, c2, c3, c4, c5], _ =>
    obtain ⟨c, rfl, rfl, rfl, rfl, rfl, rfl, hj⟩ := ch6_of hf
    exact ⟨c, rfl, hj⟩
end Go.Proofs.Ytplpbnglcfdaaaa
