/- A reply beside an error as the answer of a call. -/
import Derived.Test.YtabmnelenfghhaaBkStore
namespace Go.Proofs.Ytabmnelenfghhaa
open Go.RowKit

theorem Try.structRe0 : (Try.prog.underlying 60).map isAgg = some true := by kernel_rfl
theorem Try.structRe : ∃ d, Try.prog.underlying 60 = some d ∧ isAgg d = true := by
  have h := Try.structRe0
  cases hd : Try.prog.underlying 60 with
  | none => rw [hd] at h; cases h
  | some d => rw [hd] at h; exact ⟨d, rfl, by simpa using h⟩
theorem Try.sizeRe : (Try.prog.info? 60).map (·.size) = some 2 := by kernel_rfl
theorem results_reply {fn : Func} {p q : Tmp} (h : fn.results = #[.cell p 60, .tmp q]) (tmps : Array Value) (w : World) (g : Nat) (t : TypeId) (v0 v1 : Value) (fr : Nat × Nat)
    (hp : tmps.getD p undef = .pointer (some ⟨g, 0, none⟩)) (hg : w.heap[g]? = some (.cells #[v0, v1] t fr)) : (results fn tmps).run Try.prog w = .ok (.tuple #[.agg #[v0, v1], tmps.getD q undef]) w := by
  obtain ⟨d, hd1, hd2⟩ := Try.structRe
  exact results_pair h tmps w g t _ fr d hp hg hd2 hd1 Try.sizeRe
end Go.Proofs.Ytabmnelenfghhaa
