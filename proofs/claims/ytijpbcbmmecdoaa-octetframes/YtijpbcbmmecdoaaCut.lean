/- cut answers the first 3000 bytes; nothing turns. -/
import Derived.Test.YtijpbcbmmecdoaaLives
namespace Go.Proofs.Ytijpbcbmmecdoaa
open Go.RowKit

set_option maxHeartbeats 400000 in
theorem cut_any (v : Value) (l : List UInt8) (w : World) (hv : Bts w v l) :
    Calls Try.prog 8 #[v] w fun e w' => ∃ va n vc, e = .returned (.slice va n vc) ∧ Bts w (.slice va n vc) (l.take 3000) ∧ w' = w := by
  have HV := hid hv
  obtain ⟨ao, n, cap, rfl, rfl, hc, hcap, hnone, hcell⟩ := hv
  by_cases hl : 3000 < l.length
  · have hao : ∃ ad, ao = some ad := by cases ao with | none => exact absurd (hnone rfl) (by omega) | some ad => exact ⟨ad, rfl⟩
    obtain ⟨ad, rfl⟩ := hao
    have HB : Hid (Bts w (.slice (some ad) 3000 cap) (l.take 3000)) := hid (by
      refine ⟨_, _, _, rfl, by simp; omega, by omega, hcap, (fun h => by cases h), ?_⟩
      intro a ha j hj
      have hj' : j < l.length := by simp at hj; omega
      rw [hcell a ha j hj']
      simp)
    clear hcell hnone HV
    go_enter Try.func8, Try.ntmps8
    go_wp2
    go_ret
    exact ⟨_, _, _, rfl, HB.out, rfl⟩
  · have HB : Hid (Bts w (.slice ao l.length cap) (l.take 3000)) := hid (by rw [List.take_of_length_le (by omega)]; exact HV.out)
    clear hcell hnone HV
    go_enter Try.func8, Try.ntmps8
    go_wp2
    go_ret
    exact ⟨_, _, _, rfl, HB.out, rfl⟩
theorem Bts.take {w : World} {n m cap : Nat} {l : List UInt8} {ao : Option Addr} (hb : Bts w (.slice ao m cap) l) (hn : n ≤ l.length) : Bts w (.slice ao n cap) (l.take n) := by
  obtain ⟨ao1, n1, cap1, e, h1, h2, h3, h4, h5⟩ := hb
  cases e
  refine ⟨_, _, _, rfl, by simp; omega, by omega, h3, h4, fun ad had j hj => ?_⟩
  rw [h5 ad had j (by simp at hj; omega)]
  simp
theorem Bts.sub {w : World} {m cap k n : Nat} {l : List UInt8} {ao ao' : Option Addr} (hb : Bts w (.slice ao m cap) l) (hk : k + n ≤ l.length) (hd : cap ≠ k → ao' = ao.map (·.add k)) (hd1 : cap = k → ao' = ao) : Bts w (.slice ao' n (cap - k)) ((l.drop k).take n) := by
  obtain ⟨ao1, n1, cap1, e, h1, h2, h3, h4, h5⟩ := hb
  cases e
  refine ⟨_, _, _, rfl, by simp; omega, by omega, by omega, ?_, fun ad had j hj => ?_⟩
  · intro h
    by_cases hc : cap = k
    · omega
    · rw [hd hc] at h
      cases ao with
      | none => have := h4 rfl; omega
      | some a => cases h
  · have hj' : j < n := by simp at hj; omega
    have hc : cap ≠ k := by omega
    rw [hd hc] at had
    cases ao with
    | none => cases had
    | some a =>
      obtain rfl := Option.some.inj had
      rw [Addr.add_add, h5 a rfl (k + j) (by omega)]
      simp
end Go.Proofs.Ytijpbcbmmecdoaa
