/- . -/
import Derived.Test.YtappdhgabbjoiaaBkAll
import Derived.Test.YtappdhgabbjoiaaBkOnceF
import Derived.Test.YtappdhgabbjoiaaBkMark
import Derived.Test.YtappdhgabbjoiaaBkSmall
namespace Go.Proofs.Ytappdhgabbjoiaa
open Go.RowKit
set_option linter.unusedVariables false
set_option linter.unusedSimpArgs false

theorem rest_in2 (t m : Int) (h0 : 1 ≤ m) (h1 : m ≤ 1000000000) : 0 ≤ wrap64 ((IntKind.u64.wrap t).tmod m) ∧ wrap64 ((IntKind.u64.wrap t).tmod m) < m := by
  rw [u64_mod, Int.tmod_eq_emod_of_nonneg (by omega)]
  have a := Int.emod_nonneg (t % 18446744073709551616) (b := m) (by omega)
  have b := Int.emod_lt_of_pos (t % 18446744073709551616) (b := m) (by omega)
  rw [IntWalk.wrap64_in _ (by omega)]
  exact ⟨a, b⟩
def tLater : ByteArray := ⟨#[108, 97, 116, 101, 114]⟩
def tEarly : ByteArray := ⟨#[101, 97, 114, 108, 121]⟩
theorem late_text : isTextB tLater = true ∧ isTextB tEarly = true := by constructor <;> kernel_rfl
theorem late_may (s : ByteArray) (hs : isTextB s = true) (sq a b : Int) (n : Nat) (h1 : 1 ≤ sq ∧ sq ≤ 3000000) (h2 : 0 ≤ a ∧ b ≤ 256) (h3 : b = a + n) (h4 : 0 < n ∧ n ≤ 16) : mayB ⟨2, 2, sq, a, b, List.replicate n s⟩ = true := by
  unfold mayB
  rw [if_neg (by simp), if_pos (by rfl)]
  have e1 : mayAskB ⟨2, 2, sq, a, b, List.replicate n s⟩ = true := by
    unfold mayAskB mayBeB
    simp
    omega
  have e2 : mayCarryB ⟨2, 2, sq, a, b, List.replicate n s⟩ = true := by
    unfold mayCarryB
    rw [if_pos rfl]
    simp [hs]
    omega
  rw [e1, e2]; rfl

/-- What the two writes leave of a block. -/
theorem late_cells (Lt E : Int) (y1 z1 : Nat) (n1 n2 k : Nat) (hE : 1 ≤ E ∧ E < Lt) (hk : k < 256) :
    (chF ⟨2, 2, E, z1, z1 + n2, List.replicate n2 tEarly⟩ 2 z1 n2 (chF ⟨2, 2, Lt, y1, y1 + n1, List.replicate n1 tLater⟩ 2 y1 n1 (List.replicate 256 zeroC) (List.finRange n1)) (List.finRange n2))[k]? = some (if y1 ≤ k ∧ k < y1 + n1 then ⟨tLater, fun j => if j = 2 then Lt else 0⟩ else if z1 ≤ k ∧ k < z1 + n2 then ⟨tEarly, fun j => if j = 2 then E else 0⟩ else zeroC) := by
  have ex : ∀ (a n : Nat), (∃ x ∈ List.finRange n, k = a + x.val) ↔ (a ≤ k ∧ k < a + n) := fun a n => ⟨fun ⟨x, _, e⟩ => by have := x.isLt; omega, fun h => ⟨⟨k - a, by omega⟩, by simp, by show k = a + (k - a); omega⟩⟩
  rw [chF_get _ _ _ _ _ (finRange_nodup n2), chF_get _ _ _ _ _ (finRange_nodup n1)]
  have h0 : (List.replicate 256 zeroC)[k]? = some zeroC := by rw [List.getElem?_replicate]; rw [if_pos hk]
  rw [h0]
  by_cases hx : y1 ≤ k ∧ k < y1 + n1
  · rw [if_pos ((ex y1 n1).2 hx), if_pos hx]
    have e1 : chC ⟨2, 2, Lt, y1, y1 + n1, List.replicate n1 tLater⟩ 2 (k - y1) zeroC = ⟨tLater, fun j => if j = 2 then Lt else 0⟩ := by
      unfold chC
      rw [if_neg (by show ¬ Lt ≤ 0; omega), if_pos rfl]
      have : (List.replicate n1 tLater).getD (k - y1) ⟨#[]⟩ = tLater := by
        simp [List.getD, List.getElem?_replicate, show k - y1 < n1 by omega]
      rw [this]; rfl
    simp only [Option.map_some, e1]
    by_cases hz : z1 ≤ k ∧ k < z1 + n2
    · rw [if_pos ((ex z1 n2).2 hz)]
      (try simp only [Option.map_some])
      unfold chC
      rw [if_pos (by show E ≤ Lt; omega)]
    · rw [if_neg (fun h => hz ((ex z1 n2).1 h))]
  · rw [if_neg (fun h => hx ((ex y1 n1).1 h)), if_neg hx]
    by_cases hz : z1 ≤ k ∧ k < z1 + n2
    · rw [if_pos ((ex z1 n2).2 hz), if_pos hz]
      simp only [Option.map_some]
      unfold chC
      rw [if_neg (by show ¬ E ≤ 0; omega), if_pos rfl]
      have : (List.replicate n2 tEarly).getD (k - z1) ⟨#[]⟩ = tEarly := by
        simp [List.getD, List.getElem?_replicate, show k - z1 < n2 by omega]
      rw [this]; rfl
    · rw [if_neg (fun h => hz ((ex z1 n2).1 h)), if_neg hz]
/-- The two writes, one behind the other. -/
theorem late_next (S0 : StD) (hS0 : S0 = ⟨0, 256, false, List.replicate (256 - 0 : Int).toNat zeroC⟩) (Lt E y1 xx z1 zz : Int) (n1 n2 : Nat) (hE : 1 ≤ E ∧ E < Lt ∧ Lt ≤ 3000000) (hx : 0 ≤ y1 ∧ xx ≤ 256 ∧ xx = y1 + n1 ∧ 0 < n1 ∧ n1 ≤ 16) (hz : 0 ≤ z1 ∧ zz ≤ 256 ∧ zz = z1 + n2 ∧ 0 < n2 ∧ n2 ≤ 16) :
    ∃ S1 S2, nextS S0 ⟨2, 2, Lt, y1, xx, List.replicate n1 tLater⟩ = S1 ∧ nextS S1 ⟨2, 2, E, z1, zz, List.replicate n2 tEarly⟩ = S2 ∧ errN S0 ⟨2, 2, Lt, y1, xx, List.replicate n1 tLater⟩ = 0 ∧ errN S1 ⟨2, 2, E, z1, zz, List.replicate n2 tEarly⟩ = 0 ∧
      ∀ k : Nat, k < 256 → blockT S2 k = (if y1 ≤ (k : Int) ∧ (k : Int) < xx then tLater else if z1 ≤ (k : Int) ∧ (k : Int) < zz then tEarly else ⟨#[]⟩) ∧ markN S2 k 2 = (if y1 ≤ (k : Int) ∧ (k : Int) < xx then Lt else if z1 ≤ (k : Int) ∧ (k : Int) < zz then E else 0) := by
  obtain ⟨y, rfl⟩ : ∃ y : Nat, y1 = y := ⟨y1.toNat, by omega⟩
  obtain ⟨z, rfl⟩ : ∃ z : Nat, z1 = z := ⟨z1.toNat, by omega⟩
  obtain ⟨-, hx2, rfl, hx3, hx4⟩ := hx
  obtain ⟨-, hz2, rfl, hz3, hz4⟩ := hz
  subst hS0
  have m1 := late_may tLater late_text.1 Lt y (y + n1) n1 (by omega) (by omega) rfl ⟨hx3, hx4⟩
  have m2 := late_may tEarly late_text.2 E z (z + n2) n2 (by omega) (by omega) rfl ⟨hz3, hz4⟩
  have i1 : inB ⟨0, 256, false, List.replicate (256 - 0 : Int).toNat zeroC⟩ ⟨2, 2, Lt, y, y + n1, List.replicate n1 tLater⟩ = true := by unfold inB; simp; omega
  obtain ⟨o1, e1⟩ := ok_facts m1 (by rw [i1]; simp) rfl
  have n1' : nextS ⟨0, 256, false, List.replicate (256 - 0 : Int).toNat zeroC⟩ ⟨2, 2, Lt, y, y + n1, List.replicate n1 tLater⟩ = ⟨0, 256, false, chF ⟨2, 2, Lt, y, y + n1, List.replicate n1 tLater⟩ 2 y n1 (List.replicate 256 zeroC) (List.finRange n1)⟩ := by
    unfold nextS
    rw [if_neg (by rw [o1]; simp), if_pos (.inl rfl)]
    have hd : dOf ⟨0, 256, false, List.replicate (256 - 0 : Int).toNat zeroC⟩ ⟨2, 2, Lt, y, y + n1, List.replicate n1 tLater⟩ = y := by unfold dOf; simp
    have hc : cntOf ⟨2, 2, Lt, y, y + n1, List.replicate n1 tLater⟩ = n1 := by unfold cntOf; simp; omega
    rw [hd, hc]; rfl
  have i2 : inB ⟨0, 256, false, chF ⟨2, 2, Lt, y, y + n1, List.replicate n1 tLater⟩ 2 y n1 (List.replicate 256 zeroC) (List.finRange n1)⟩ ⟨2, 2, E, z, z + n2, List.replicate n2 tEarly⟩ = true := by unfold inB; simp; omega
  obtain ⟨o2, e2⟩ := ok_facts m2 (by rw [i2]; simp) rfl
  have n2' : nextS ⟨0, 256, false, chF ⟨2, 2, Lt, y, y + n1, List.replicate n1 tLater⟩ 2 y n1 (List.replicate 256 zeroC) (List.finRange n1)⟩ ⟨2, 2, E, z, z + n2, List.replicate n2 tEarly⟩ = ⟨0, 256, false, chF ⟨2, 2, E, z, z + n2, List.replicate n2 tEarly⟩ 2 z n2 (chF ⟨2, 2, Lt, y, y + n1, List.replicate n1 tLater⟩ 2 y n1 (List.replicate 256 zeroC) (List.finRange n1)) (List.finRange n2)⟩ := by
    unfold nextS
    rw [if_neg (by rw [o2]; simp), if_pos (.inl rfl)]
    have hd : dOf ⟨0, 256, false, chF ⟨2, 2, Lt, y, y + n1, List.replicate n1 tLater⟩ 2 y n1 (List.replicate 256 zeroC) (List.finRange n1)⟩ ⟨2, 2, E, z, z + n2, List.replicate n2 tEarly⟩ = z := by unfold dOf; simp
    have hc : cntOf ⟨2, 2, E, z, z + n2, List.replicate n2 tEarly⟩ = n2 := by unfold cntOf; simp; omega
    rw [hd, hc]; rfl
  refine ⟨_, _, n1', n2', e1, e2, fun k hk => ?_⟩
  have hc := late_cells Lt E y z n1 n2 k ⟨hE.1, hE.2.1⟩ hk
  have hin : ¬ ((k : Int) < 0 ∨ 256 ≤ (k : Int)) := by omega
  unfold blockT markN
  simp only
  rw [if_neg hin, if_neg hin, dif_pos (by omega)]
  have hkn : ((k : Int) - 0).toNat = k := by omega
  rw [hkn]
  simp only [List.getD, hc, Option.getD_some]
  have q1 : ((y : Int) ≤ (k : Int) ∧ (k : Int) < (y : Int) + (n1 : Int)) ↔ (y ≤ k ∧ k < y + n1) := by omega
  have q2 : ((z : Int) ≤ (k : Int) ∧ (k : Int) < (z : Int) + (n2 : Int)) ↔ (z ≤ k ∧ k < z + n2) := by omega
  simp only [q1, q2]
  by_cases h1 : y ≤ k ∧ k < y + n1
  · simp only [if_pos h1]; exact ⟨by first | trivial | rfl, by first | trivial | rfl⟩
  · by_cases h2 : z ≤ k ∧ k < z + n2
    · simp only [if_neg h1, if_pos h2]; exact ⟨by first | trivial | rfl, by first | trivial | rfl⟩
    · simp only [if_neg h1, if_neg h2]; exact ⟨by first | trivial | rfl, by first | trivial | rfl⟩

end Go.Proofs.Ytappdhgabbjoiaa
