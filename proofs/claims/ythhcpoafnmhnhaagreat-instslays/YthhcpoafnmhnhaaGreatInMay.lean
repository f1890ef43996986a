/- Refs and Ballots that may be; rows of Refs in memory, and which of them may be needs. No condition but that they lie in memory. -/
import Derived.Test.YthhcpoafnmhnhaaGreatInCmp
namespace Go.Proofs.YthhcpoafnmhnhaaGreat
open Go.RowKit
set_option linter.unusedVariables false
set_option linter.unusedSimpArgs false

def nodeB (n : Int) : Bool := decide (0 ≤ n) && decide (n < 7)
set_option maxHeartbeats 400000 in
theorem mayNode_any (n : Int) (w : World) : Calls Tryz.prog 67 #[.int .i64 n] w fun e w' => e = .returned (.bool (nodeB n)) ∧ w' = w := by
  unfold nodeB
  cases h : decide (0 ≤ n)
  all_goals
    go_enter Tryz.func67, Tryz.ntmps67
    go_wp2
    go_ret
    exact ⟨by simp, rfl⟩
/-- A Ref that may be. -/
def refB (r : Int × Int) : Bool := nodeB r.1 && decide (1 ≤ r.2) && decide (r.2 ≤ 1073741824)
set_option maxHeartbeats 1600000 in
theorem mayRef_any (r : Int × Int) (w : World) : Calls Tryz.prog 50 #[.agg #[.int .i64 r.1, .int .i64 r.2]] w fun e w' => e = .returned (.bool (refB r)) ∧ Below w.heap.size w w' := by
  obtain ⟨a, b⟩ := r
  unfold refB
  simp only
  obtain ⟨q, hq⟩ : ∃ q, q = nodeB a := ⟨_, rfl⟩
  rw [← hq]
  have HQ := hid hq
  clear hq
  cases q <;> cases h1 : decide (1 ≤ b)
  all_goals
    go_enter Tryz.func50, Tryz.ntmps50
    go_wp2_with (go_at_call 67; refine (mayNode_any _ _).mono ?_; rintro e w1 ⟨rfl, rfl⟩; rw [← HQ.out])
    go_ret
    exact ⟨by simp, (Below.refl _ _).alloc (Nat.le_refl _) _⟩
/-- A Ballot that may be. -/
def balB (r : Int × Int) : Bool := decide (0 ≤ r.1) && decide (r.1 ≤ 1073741824) && nodeB r.2
set_option maxHeartbeats 1600000 in
theorem mayBallot_any (r : Int × Int) (w : World) : Calls Tryz.prog 51 #[.agg #[.int .i64 r.1, .int .i64 r.2]] w fun e w' => e = .returned (.bool (balB r)) ∧ Below w.heap.size w w' := by
  obtain ⟨a, b⟩ := r
  unfold balB
  simp only
  obtain ⟨q, hq⟩ : ∃ q, q = nodeB b := ⟨_, rfl⟩
  rw [← hq]
  have HQ := hid hq
  clear hq
  cases h1 : decide (0 ≤ a) <;> cases h2 : decide (a ≤ 1073741824)
  all_goals
    go_enter Tryz.func51, Tryz.ntmps51
    go_wp2_with (go_at_call 67; refine (mayNode_any _ _).mono ?_; rintro e w1 ⟨rfl, rfl⟩; rw [← HQ.out])
    go_ret
    exact ⟨by simp, (Below.refl _ _).alloc (Nat.le_refl _) _⟩
def refLt (x y : Int × Int) : Bool := decide (cmp2 x y < 0)
set_option maxHeartbeats 1600000 in
theorem gless_any (x y : Int × Int) (w : World) : Calls Tryz.prog 73 #[.agg #[.int .i64 x.1, .int .i64 x.2], .agg #[.int .i64 y.1, .int .i64 y.2]] w fun e w' => e = .returned (.bool (refLt x y)) ∧ Below w.heap.size w w' := by
  unfold refLt
  have HC := hid (fun W => gcompare_any x y W)
  obtain ⟨a, b⟩ := x
  obtain ⟨c, d⟩ := y
  simp only at HC ⊢
  generalize cmp2 (a, b) (c, d) = r at *
  go_enter Tryz.func73, Tryz.ntmps73
  go_wp2_with fail
  refine (HC.out _).mono ?_
  rintro e w1 ⟨rfl, hb1⟩
  have B1 := hid ((((Below.refl w.heap.size w).alloc (Nat.le_refl _) _).alloc (by simp) _).trans (hb1.mono (by simp; omega)))
  clear hb1
  go_wp2_with fail
  go_ret
  exact ⟨rfl, B1.out⟩
/-- v is a slice of the Refs l. -/
def Rfs (w : World) (v : Value) (l : List (Int × Int)) : Prop :=
  ∃ ao n cap, v = .slice ao n cap ∧ n = l.length ∧ n ≤ cap ∧ cap ≤ 9223372036854775807 ∧ (ao = none → cap = 0) ∧
    ∀ ad, ao = some ad → ∀ j, (h : j < l.length) → w.cell? (ad.add (j * 2)) = some (.int .i64 l[j].1) ∧ w.cell? (ad.add (j * 2 + 1)) = some (.int .i64 l[j].2)
theorem Rfs.below {w w' : World} {v : Value} {l : List (Int × Int)} (h : Rfs w v l) (hb : Below w.heap.size w w') : Rfs w' v l := by
  obtain ⟨ao, n, cap, rfl, h1, h2, h3, h4, h5⟩ := h
  exact ⟨ao, n, cap, rfl, h1, h2, h3, h4, fun ad had j hj => ⟨cell_later hb (h5 ad had j hj).1, cell_later hb (h5 ad had j hj).2⟩⟩
theorem Rfs.shape {w : World} {v : Value} {l : List (Int × Int)} (h : Rfs w v l) : ∃ va vc, v = .slice va l.length vc := by
  obtain ⟨ao, n, cap, rfl, rfl, -⟩ := h; exact ⟨_, _, rfl⟩
theorem Rfs.nil (w : World) : Rfs w (.slice none 0 0) [] := ⟨none, 0, 0, rfl, rfl, Nat.le_refl _, by omega, (fun _ => rfl), (fun ad h => by cases h)⟩
theorem Rfs.len {w : World} {v : Value} {l : List (Int × Int)} (h : Rfs w v l) : (l.length : Int) ≤ 9223372036854775807 := by
  obtain ⟨ao, n, cap, rfl, h1, h2, h3, -⟩ := h; omega
theorem Rfs.addr {w : World} {ao : Option Addr} {cap : Nat} {l : List (Int × Int)} (h : Rfs w (.slice ao l.length cap) l) (hl : 0 < l.length) : ∃ b o, ao = some ⟨b, o, none⟩ := by
  obtain ⟨ao', n, cap', e, h1, h2, h3, h4, h5⟩ := h
  cases e
  cases ao with
  | none => have := h4 rfl; omega
  | some a =>
    have h0 := (h5 a rfl 0 hl).1
    have := World.cell?_spot h0
    obtain ⟨b, o, sp⟩ := a
    simp [Addr.add] at this
    subst this
    exact ⟨b, o, rfl⟩
theorem Rfs.lit {w : World} {b o cap : Nat} {l : List (Int × Int)} (h : Rfs w (.slice (some ⟨b, o, none⟩) l.length cap) l) (j : Nat) (hj : j < l.length) : w.cell? ⟨b, o + j * 2, none⟩ = some (.int .i64 l[j].1) ∧ w.cell? ⟨b, o + j * 2 + 1, none⟩ = some (.int .i64 l[j].2) := by
  obtain ⟨ao', n, cap', e, h1, h2, h3, h4, h5⟩ := h
  cases e
  have := h5 _ rfl j hj
  rwa [Addr.add_lit, Addr.add_lit] at this
end Go.Proofs.YthhcpoafnmhnhaaGreat
