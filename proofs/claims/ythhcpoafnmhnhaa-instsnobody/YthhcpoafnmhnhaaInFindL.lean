/- What the document's Find finds in the row that stands beside a table. -/
import Derived.Test.YthhcpoafnmhnhaaInFind
import Derived.Test.YthhcpoafnmhnhaaInPlay
import Derived.Test.YthhcpoafnmhnhaaInRising
namespace Go.Proofs.Ythhcpoafnmhnhaa
open Go.RowKit Go.Maps Go.Shelf

theorem PlI.find {w W : World} {tb mb nn : Nat} {D : DataW Value} {L X : List EnI} {v : Value} (h : PlI w W tb mb nn D L X v) {e : EnI} (he : e ∈ L) {i : Int} (hf : FindR X e.x.ref i) : ∃ k, ∃ hk : k < X.length, i = k ∧ X[k].x = e.x := by
  rcases hf with ⟨k, hk, h1, h2⟩ | ⟨-, h1⟩
  · refine ⟨k, hk, h2, ?_⟩
    have : X[k].x ∈ L.map (fun y => y.x) := by rw [← h.same]; exact List.mem_map.2 ⟨_, List.getElem_mem hk, rfl⟩
    obtain ⟨e', he', h3⟩ := List.mem_map.1 this
    rw [← h3, once_eqR h.tl.once he' he (by rw [h3, h1])]
  · have : e.x ∈ X.map (fun y => y.x) := by rw [h.same]; exact List.mem_map.2 ⟨_, he, rfl⟩
    obtain ⟨e', he', h3⟩ := List.mem_map.1 this
    exact absurd (by rw [h3]) (h1 e' he')
end Go.Proofs.Ythhcpoafnmhnhaa
