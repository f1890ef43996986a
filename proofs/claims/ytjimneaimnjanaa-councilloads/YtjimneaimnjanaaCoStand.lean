/- mayStand, where self is a voter up to what is told. -/
import Derived.Test.YtjimneaimnjanaaCoAlone
namespace Go.Proofs.Ytjimneaimnjanaa
open Go.RowKit
set_option linter.unusedVariables false
set_option linter.unusedSimpArgs false

theorem votersAt_at (b : Nat) (lv : Value) (D : CoD) (n k : Nat) (w : World) (h : Co w 0 b lv D) (hi : CoI D) (hn : n ≤ D.log.length) :
    Calls Try.prog 49 #[.pointer (some ⟨b, 0, none⟩), .int .i64 (D.bi + n)] (w.drewN k) fun e w' => e = .returned (.string (vUp D n)) ∧ w' = w.drewN k :=
  votersAt_any 0 b lv D n _ (h.below (belowN _ _)) hi hn
set_option maxRecDepth 100000 in
set_option maxHeartbeats 1600000 in
theorem mayStand_yes (b : Nat) (lv : Value) (D : CoD) (n : Nat) (w : World) (h : Co w 0 b lv D) (hi : CoI D) (hn : n ≤ D.log.length) (ht : D.told = D.bi + n) (h0 : 0 ≤ D.self) (h1 : D.self ≤ 255) (hy : namesB (vUp D n) D.self = true) (htm : D.term < 1099511627776) :
    Calls Try.prog 72 #[.pointer (some ⟨b, 0, none⟩)] w fun e w' => e = .returned (.bool true) ∧ ∃ m, w' = w.drewN m := by
  have H := hid h
  have HI := hid hi
  have c0 : w.cell? ⟨b, 0, none⟩ = some (.int .i64 D.self) := h.cell 0
  have c1 : w.cell? ⟨b, 1, none⟩ = some (.int .i64 D.term) := h.cell 1
  have hnt : ¬ (1099511627776 : Int) ≤ D.term := by omega
  have c10 : w.cell? ⟨b, 10, none⟩ = some (.int .i64 (D.bi + n)) := by rw [← ht]; exact h.cell 10
  have HNM : Hid (∀ Y, Calls Try.prog 66 #[.string (vUp D n), .int .i64 D.self] Y fun e w' => e = .returned (.bool true) ∧ w' = Y) := hid fun Y => by
    have := names_any (vUp D n) D.self Y h0 h1
    rwa [hy] at this
  clear h hi ht hy
  go_enter Try.func72, Try.ntmps72
  go_wp2_with fail
  go_quiet (first | (go_at_call 49; exact Calls.quiet_of_same (votersAt_at b lv D n _ _ H.out HI.out hn)) | (go_at_call 66; exact Calls.quiet_of_same (HNM.out _)))
  go_wp2_with fail
  go_ret
  exact ⟨rfl, nq, rfl⟩
end Go.Proofs.Ytjimneaimnjanaa
