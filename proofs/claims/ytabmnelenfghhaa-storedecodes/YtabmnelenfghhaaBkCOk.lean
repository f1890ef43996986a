/- Plain facts: what a store's cells may be. -/
import Derived.Test.YtabmnelenfghhaaBkStore
namespace Go.Proofs.Ytabmnelenfghhaa
open Go.RowKit
set_option linter.unusedVariables false
set_option linter.unusedSimpArgs false

/-- A cell that may be. -/
def COk (c : CellD) : Prop := isTextB c.text = true ∧ ∀ k, 0 ≤ c.m k ∧ c.m k ≤ 1099511627776
/-- A store whose cells may be. -/
def SOk (S : StD) : Prop := ∀ c ∈ S.cells, COk c
theorem empty_text : isTextB ⟨#[]⟩ = true := by kernel_rfl
theorem zero_ok : COk zeroC := ⟨empty_text, fun _ => ⟨Int.le_refl 0, by show (0 : Int) ≤ 1099511627776; omega⟩⟩
theorem rep_ok (f t : Int) (b : Bool) (n : Nat) : SOk ⟨f, t, b, List.replicate n zeroC⟩ := fun c hc => by
  obtain rfl := List.eq_of_mem_replicate hc
  exact zero_ok
theorem getD_ok {l : List CellD} (h : ∀ c ∈ l, COk c) (j : Nat) : COk (l.getD j zeroC) := by
  rw [List.getD_eq_getElem?_getD]
  cases he : l[j]? with
  | none => exact zero_ok
  | some c => exact h c (List.mem_of_getElem? he)
end Go.Proofs.Ytabmnelenfghhaa
