/- The document's Map: what Get answers. -/
import Derived.Test.YtbfmanhbbancmaaSpRefM
import Derived.Test.YtbfmanhbbancmaaSpNorm
namespace Go.Proofs.Ytbfmanhbbancmaa
open Go.RowKit

/-- Is the block among those of what was done? -/
def hitD (k : Int) (d : Dn) : Prop := d.1.1 ≤ k ∧ k < d.1.2
/-- What the document's Map tells of a block: the last that was done to it. -/
def RGet (D : List Dn) (k v : Int) (ok : Bool) : Prop :=
  ((∀ d ∈ D, ¬ hitD k d) ∧ v = 0 ∧ ok = false) ∨ ∃ j, ∃ h : j < D.length, hitD k D[j] ∧ (∀ i, (hi : i < D.length) → j < i → ¬ hitD k D[i]) ∧ ok = D[j].2.2 ∧ v = if D[j].2.2 then D[j].2.1 else 0
set_option maxRecDepth 100000 in
set_option maxHeartbeats 3200000 in
theorem rget_any (base b : Nat) (D : List Dn) (c : Int) (w : World) (hm : RefM w base b D) (hl : D.length ≤ 1000000) :
    Calls Try.prog 10 #[.pointer (some ⟨b, 0, none⟩), .int .i64 c] w fun e w' => ∃ v ok, RGet D c v ok ∧ e = .returned (.tuple #[.int .i64 v, .bool ok]) ∧ w' = w := by
  obtain ⟨lv, vv, ov, hb, hL, hV, hO⟩ := hm.at'
  obtain ⟨la, lc, rfl⟩ := hL.shape
  obtain ⟨na, nc, rfl⟩ := hV.shape
  obtain ⟨oa, oc, rfl⟩ := hO.shape
  have HH := hid hL.held
  have HV := hid hV
  have HO := hid hO
  have cb0 : w.cell? ⟨b, 0, none⟩ = some (.slice la D.length lc) := by rw [cell_of_row _ _ _ _ _ _ hb]; simp
  have cb1 : w.cell? ⟨b, 1, none⟩ = some (.slice na D.length nc) := by rw [cell_of_row _ _ _ _ _ _ hb]; simp
  have cb2 : w.cell? ⟨b, 2, none⟩ = some (.slice oa D.length oc) := by rw [cell_of_row _ _ _ _ _ _ hb]; simp
  have hw1 : IntKind.i64.wrap ((D.length : Int) - 1) = (D.length : Int) - 1 := IntWalk.i64_in _ ⟨by omega, by omega⟩
  clear hm hb hL hV hO
  go_enter Try.func10, Try.ntmps10
  go_wp2_with fail
  go_loopw [6] (fun i wr => ∃ n : Nat, n ≤ D.length ∧ i = .int .i64 ((n : Int) - 1) ∧ (∀ j, (h : j < D.length) → n ≤ j → ¬ hitD c D[j]) ∧ wr = w) (fun i _ => (intOf i + 1).toNat)
  case atStart => exact ⟨D.length, Nat.le_refl _, by first | rfl | simp, fun j h h' => by omega, rfl⟩
  case round =>
    obtain ⟨n, hn, rfl, hno, rfl⟩ := hrel
    have HNO := hid hno
    clear hno
    cases n with
    | zero =>
      have hneg : ¬ (0 : Int) ≤ ((0 : Nat) : Int) - 1 := by omega
      go_wp2_with fail
      go_ret2
      have hR : RGet D c 0 false := Or.inl ⟨fun d hd => by obtain ⟨j, hj, rfl⟩ := List.mem_iff_getElem.1 hd; exact HNO.out j hj (Nat.zero_le _), rfl, rfl⟩
      exact ⟨0, .inl ⟨hR, rfl, rfl⟩⟩
    | succ n =>
      have e1 : ((n + 1 : Nat) : Int) - 1 = (n : Int) := by omega
      rw [e1]
      have hnD : n < D.length := by omega
      have n1 : (0 : Int) ≤ (n : Int) := by omega
      have n2 : (0 : Int) ≤ (n : Int) ∧ (n : Int) < (D.length : Int) := by omega
      have n3 : (n : Int) < (D.length : Int) := by omega
      obtain ⟨g1, rfl, c0, c1⟩ : ∃ g, la = some ⟨g, 0, none⟩ ∧ wr.cell? ⟨g, n * 2, none⟩ = some (.int .i64 D[n].1.1) ∧ wr.cell? ⟨g, n * 2 + 1, none⟩ = some (.int .i64 D[n].1.2) := by
        rcases HH.out with ⟨_, h⟩ | ⟨g, cap, ob, e, _, h⟩
        · simp at h; subst h; simp at hnD
        · cases e
          have := h n (by simpa using hnD)
          simp only [List.getElem_map] at this
          exact ⟨g, rfl, this⟩
      obtain ⟨g2, rfl, c2⟩ : ∃ g, na = some ⟨g, 0, none⟩ ∧ wr.cell? ⟨g, n, none⟩ = some (.int .i64 D[n].2.1) := by
        obtain ⟨g, e, h⟩ := HV.out.at_lit n (by simpa using hnD)
        simp only [List.getElem_map] at h
        exact ⟨g, e, h⟩
      obtain ⟨g3, rfl, c3⟩ : ∃ g, oa = some ⟨g, 0, none⟩ ∧ wr.cell? ⟨g, n, none⟩ = some (.bool D[n].2.2) := by
        obtain ⟨g, e, h⟩ := HO.out.at_lit n (by simpa using hnD)
        simp only [List.getElem_map] at h
        exact ⟨g, e, h⟩
      have wn : IntKind.i64.wrap ((n : Int) - 1) = (n : Int) - 1 := IntWalk.i64_in _ ⟨by omega, by omega⟩
      by_cases h1 : D[n].1.1 ≤ c
      · by_cases h2 : c < D[n].1.2
        · have HIT : Hid (∀ v ok, ok = D[n].2.2 → v = (if D[n].2.2 then D[n].2.1 else 0) → RGet D c v ok) := hid fun v ok e1 e2 => .inr ⟨n, hnD, ⟨h1, h2⟩, fun i hi hlt => HNO.out i hi (by omega), e1, e2⟩
          cases hon : D[n].2.2 with
          | true =>
            rw [hon] at c3
            go_wp2_with fail
            go_ret2
            exact ⟨_, _, HIT.out _ true hon.symm (by rw [hon]; rfl), rfl, rfl⟩
          | false =>
            rw [hon] at c3
            go_wp2_with fail
            go_ret2
            exact ⟨_, _, HIT.out 0 false hon.symm (by rw [hon]; rfl), rfl, rfl⟩
        · have HN : Hid (¬ hitD c D[n]) := hid fun h => h2 h.2
          go_wp2_with fail
          go_roundw
          case rel => exact ⟨n, by omega, rfl, fun j h hj => by
            rcases Nat.lt_or_ge n j with h' | h'
            · exact HNO.out j h (by omega)
            · obtain rfl : j = n := by omega
              exact HN.out, by trivial⟩
          case measure => simp only [intOf]; omega
      · have HN : Hid (¬ hitD c D[n]) := hid fun h => h1 h.1
        go_wp2_with fail
        go_roundw
        case rel => exact ⟨n, by omega, rfl, fun j h hj => by
          rcases Nat.lt_or_ge n j with h' | h'
          · exact HNO.out j h (by omega)
          · obtain rfl : j = n := by omega
            exact HN.out, by trivial⟩
        case measure => simp only [intOf]; omega
end Go.Proofs.Ytbfmanhbbancmaa
