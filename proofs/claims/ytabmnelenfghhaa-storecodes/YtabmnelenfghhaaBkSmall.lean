/- The small span of a law may be a store's. -/
import Derived.Test.YtabmnelenfghhaaBkStore
namespace Go.Proofs.Ytabmnelenfghhaa
open Go.RowKit

theorem u64_mod (n : Int) : IntKind.u64.wrap n = n % 18446744073709551616 := by simp [IntKind.wrap, IntKind.bits, IntKind.signed]
theorem rest_in (t m : Int) (h0 : 1 ≤ m) (h1 : m ≤ 300) : 0 ≤ wrap64 ((IntKind.u64.wrap t).tmod m) ∧ wrap64 ((IntKind.u64.wrap t).tmod m) < m := by
  rw [u64_mod, Int.tmod_eq_emod_of_nonneg (by omega)]
  have a := Int.emod_nonneg (t % 18446744073709551616) (b := m) (by omega)
  have b := Int.emod_lt_of_pos (t % 18446744073709551616) (b := m) (by omega)
  rw [IntWalk.wrap64_in _ (by omega)]
  exact ⟨a, b⟩
theorem small_may (p r : Int) (h0 : 0 ≤ p) (h1 : 0 ≤ r) (h2 : p + r < 256) : mayBeB (p, wrap64 (wrap64 (p + 1) + r)) = true := by
  rw [IntWalk.wrap64_in (p + 1) (by omega), IntWalk.wrap64_in _ (by omega)]
  unfold mayBeB
  simp
  omega
set_option maxRecDepth 100000 in
set_option maxHeartbeats 1600000 in
theorem small_any (x : Sp) (w : World) :
    Calls Try.prog 17 #[.agg #[.int .i64 x.1, .int .i64 x.2]] w fun e w' => ∃ y : Sp, e = .returned (.agg #[.int .i64 y.1, .int .i64 y.2]) ∧ mayBeB y = true ∧ Below w.heap.size w w' := by
  obtain ⟨f, t⟩ := x
  have HP := hid (rest_in f 250 (by omega) (by omega))
  go_enter Try.func17, Try.ntmps17
  go_wp2_with fail
  · rename_i hz
    exfalso
    have := HP.out
    rw [IntWalk.wrap64_in _ (by omega), IntWalk.u64_in _ (by omega)] at hz
    omega
  · rename_i hlt hz
    have hp := HP.out
    rw [IntWalk.wrap64_in (256 - _) (by omega)] at hlt
    refine bodyPost_ret (results_span rfl _ _ (w.heap.size + 1) _ _ _ _ rfl (heap_alloc2_new _ _ _)) rfl ?_
    refine ⟨(_, _), rfl, ?_, ((Below.refl _ _).alloc (Nat.le_refl _) _).alloc (by simp) _⟩
    rw [IntWalk.wrap64_in (256 - _) (by omega), IntWalk.u64_in (256 - _) (by omega)]
    have hr := rest_in t (256 - wrap64 ((IntKind.u64.wrap f).tmod 250)) (by omega) (by omega)
    exact small_may _ _ (by omega) (by omega) (by omega)
  · rename_i hlt
    have hp := HP.out
    rw [IntWalk.wrap64_in (256 - _) (by omega)] at hlt
    refine bodyPost_ret (results_span rfl _ _ (w.heap.size + 1) _ _ _ _ rfl (heap_alloc2_new _ _ _)) rfl ?_
    first | refine ⟨_, _, rfl, ?_, ((Below.refl _ _).alloc (Nat.le_refl _) _).alloc (by simp) _⟩ | refine ⟨(_, _), rfl, ?_, ((Below.refl _ _).alloc (Nat.le_refl _) _).alloc (by simp) _⟩
    have hr := rest_in t 40 (by omega) (by omega)
    exact small_may _ _ (by omega) (by omega) (by omega)
end Go.Proofs.Ytabmnelenfghhaa
