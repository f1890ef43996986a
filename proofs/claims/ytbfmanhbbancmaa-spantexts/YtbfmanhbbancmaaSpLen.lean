/- What Len of a Map of numbers answers. Conditions: none. -/
import Derived.Test.YtbfmanhbbancmaaSpNear
namespace Go.Proofs.Ytbfmanhbbancmaa
open Go.RowKit
theorem len_any (b : Nat) (v : Value) (l : List Pc) (w : World) (hm : Mp w b v l) :
    Calls Try.prog 13 #[.pointer (some ⟨b, 0, none⟩)] w fun e w' => e = .returned (.int .i64 l.length) ∧ ∃ q, w' = w.drewN q := by
  obtain ⟨va, vc, rfl⟩ : ∃ va vc, v = .slice va l.length vc := by obtain ⟨_, ao, n, cap, rfl, rfl, _⟩ := hm; exact ⟨_, _, rfl⟩
  have cb : w.cell? ⟨b, 0, none⟩ = some (.slice va l.length vc) := by rw [cell_of_row _ _ _ _ _ _ hm.1]; rfl
  clear hm
  go_enter Try.func13, Try.ntmps13
  go_wp2_with fail
  go_ret
  exact ⟨rfl, 0, rfl⟩
end Go.Proofs.Ytbfmanhbbancmaa
