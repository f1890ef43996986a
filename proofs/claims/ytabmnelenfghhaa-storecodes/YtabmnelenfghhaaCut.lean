/- cut answers the first 3000 bytes; nothing turns. -/
import Derived.Test.YtabmnelenfghhaaLives
namespace Go.Proofs.Ytabmnelenfghhaa
open Go.RowKit

theorem Bts.take {w : World} {n m cap : Nat} {l : List UInt8} {ao : Option Addr} (hb : Bts w (.slice ao m cap) l) (hn : n ≤ l.length) : Bts w (.slice ao n cap) (l.take n) := by
  obtain ⟨ao1, n1, cap1, e, h1, h2, h3, h4, h5⟩ := hb
  cases e
  refine ⟨_, _, _, rfl, by simp; omega, by omega, h3, h4, fun ad had j hj => ?_⟩
  rw [h5 ad had j (by simp at hj; omega)]
  simp
theorem Bts.sub {w : World} {m cap k n : Nat} {l : List UInt8} {ao ao' : Option Addr} (hb : Bts w (.slice ao m cap) l) (hk : k + n ≤ l.length) (hd : cap ≠ k → ao' = ao.map (·.add k)) (hd1 : cap = k → ao' = ao) : Bts w (.slice ao' n (cap - k)) ((l.drop k).take n) := by
  obtain ⟨ao1, n1, cap1, e, h1, h2, h3, h4, h5⟩ := hb
  cases e
  refine ⟨_, _, _, rfl, by simp; omega, by omega, by omega, ?_, fun ad had j hj => ?_⟩
  · intro h
    by_cases hc : cap = k
    · omega
    · rw [hd hc] at h
      cases ao with
      | none => have := h4 rfl; omega
      | some a => cases h
  · have hj' : j < n := by simp at hj; omega
    have hc : cap ≠ k := by omega
    rw [hd hc] at had
    cases ao with
    | none => cases had
    | some a =>
      obtain rfl := Option.some.inj had
      rw [Addr.add_add, h5 a rfl (k + j) (by omega)]
      simp
end Go.Proofs.Ytabmnelenfghhaa
