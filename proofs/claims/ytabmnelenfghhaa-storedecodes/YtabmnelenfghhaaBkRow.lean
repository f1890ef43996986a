/- Rows of the call's own, of any element type: what an append leaves. -/
import Derived.Test.YtabmnelenfghhaaBkStore
import Derived.Test.YtabmnelenfghhaaKt
import Derived.Laws.AppendOwn
import Derived.Deep.RegionHeld3
namespace Go.Proofs.Ytabmnelenfghhaa
open Go.RowKit
set_option linter.unusedVariables false
set_option linter.unusedSimpArgs false

theorem rowStr : RowT 22 9 (.string ⟨#[]⟩) 1 16 := ⟨by kernel_rfl, by kernel_rfl, rfl, by decide, by decide⟩
theorem rowCell : RowT 89 100 zeroV 5 48 := ⟨by kernel_rfl, by kernel_rfl, rfl, by decide, by decide⟩
theorem rowInts : RowT 106 66 (.slice none 0 0) 1 24 := ⟨by kernel_rfl, by kernel_rfl, rfl, by decide, by decide⟩
def tvs (l : List ByteArray) : List Value := l.map .string
theorem tvs_len (l : List ByteArray) : (tvs l).length = l.length := by simp [tvs]
theorem tvs_snoc (l : List ByteArray) (s : ByteArray) : tvs (l ++ [s]) = tvs l ++ [.string s] := by simp [tvs]
/-- A row of texts is one. -/
theorem strs_own {w : World} {base : Nat} {v : Value} {l : List ByteArray} (h : w.ownsRow base 9 1 v l.length (tvs l)) : Strs w v l := by
  have h' := h
  obtain ⟨h1, h2⟩ := h
  rcases h2 with ⟨rfl, h0⟩ | ⟨g, cap, cur, rfl, -, hh, hc, hm, -⟩
  · have : l = [] := List.length_eq_zero_iff.1 h0
    subst this; exact Strs.nil _
  · refine ⟨_, _, _, rfl, rfl, hc, by unfold maxLen at hm; omega, (fun h => by cases h), ?_⟩
    intro ad had j hj
    cases had
    exact h'.cells (g := g) rfl j _ (by simp [tvs, hj])
end Go.Proofs.Ytabmnelenfghhaa
