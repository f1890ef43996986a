/- Rows of elements that came in, as lists; what is laid of a list. No condition. -/
import Derived.Test.YtabmnelenfghhaaGetBase
namespace Go.Proofs.Ytabmnelenfghhaa
open Go.RowKit

/-- The value v is a slice whose elements are xs, in blocks below B. -/
def RowB {α : Type} (ev : α → Value) (B : Nat) (w : World) (v : Value) (xs : List α) : Prop :=
  ∃ ao n cap, v = .slice ao n cap ∧ n = xs.length ∧ n ≤ cap ∧ cap ≤ 9223372036854775807 ∧ (ao = none → cap = 0) ∧
    ∀ ad, ao = some ad → ∀ j, (h : j < xs.length) → w.cell? (ad.add j) = some (ev xs[j]) ∧ ad.block < B
theorem RowB.below {α : Type} {ev : α → Value} {B B' : Nat} {w w' : World} {v : Value} {xs : List α} (h : RowB ev B w v xs) (hb : Below B' w w') (hB : B ≤ B') : RowB ev B w' v xs := by
  obtain ⟨ao, n, cap, rfl, h1, h2, h3, h4, h5⟩ := h
  refine ⟨ao, n, cap, rfl, h1, h2, h3, h4, fun ad had j hj => ?_⟩
  have := h5 ad had j hj
  refine ⟨?_, this.2⟩
  have e : (ad.add j).block = ad.block := by simp [Addr.add]; split <;> rfl
  rw [hb.cell (p := ad.add j) (by rw [e]; omega)]
  exact this.1
theorem RowB.shape {α : Type} {ev : α → Value} {B : Nat} {w : World} {v : Value} {xs : List α} (h : RowB ev B w v xs) : ∃ va vc, v = .slice va xs.length vc := by
  obtain ⟨ao, n, cap, rfl, rfl, -⟩ := h; exact ⟨_, _, rfl⟩
/-- A row of the call's own, read as one that came in. -/
theorem owns_row {α : Type} {ev : α → Value} {w : World} {base : Nat} {te : TypeId} {v : Value} {xs : List α} (h : w.ownsRow base te 1 v xs.length (xs.map ev)) : RowB ev w.heap.size w v xs := by
  have h' := h
  obtain ⟨h1, h2⟩ := h
  rcases h2 with ⟨rfl, h0⟩ | ⟨g, cap, cur, rfl, hg, hh, hc, hm, hs, ht⟩
  · exact ⟨none, 0, 0, rfl, h0.symm, Nat.le_refl _, by omega, (fun _ => rfl), (fun ad h => by cases h)⟩
  · refine ⟨some ⟨g, 0, none⟩, xs.length, cap, rfl, rfl, hc, hm, (fun h => by cases h), ?_⟩
    intro ad had j hj
    obtain rfl := Option.some.inj had
    exact ⟨h'.cells rfl j (ev xs[j]) (by simp [hj]), lt_of_block hh⟩
theorem RowB.at {α : Type} {ev : α → Value} {B : Nat} {w : World} {va : Option Addr} {n vc : Nat} {xs : List α} (h : RowB ev B w (.slice va n vc) xs) (i : Nat) (hi : i < xs.length) : ∃ ad, va = some ad ∧ w.cell? (ad.add i) = some (ev xs[i]) := by
  obtain ⟨ao, _, _, e, h1, h2, h3, h4, h5⟩ := h
  cases e
  cases va with
  | none => exact absurd (h4 rfl) (by omega)
  | some ad => exact ⟨ad, rfl, (h5 ad rfl i hi).1⟩
/-- What is laid of a list. -/
def listB {α : Type} (enc : α → List UInt8) (xs : List α) : List UInt8 := numB xs.length ++ xs.flatMap enc
theorem flat_take {α : Type} (enc : α → List UInt8) (xs : List α) (i : Nat) (h : i < xs.length) : (xs.take (i + 1)).flatMap enc = (xs.take i).flatMap enc ++ enc xs[i] := by
  rw [List.take_succ_eq_append_getElem h, List.flatMap_append]; simp
theorem flat_len {α : Type} (enc : α → List UInt8) (xs : List α) (h : ∀ x ∈ xs, (enc x).length ≤ 2000) : (xs.flatMap enc).length ≤ 2000 * xs.length := by
  induction xs with
  | nil => simp
  | cons x xs ih =>
    have h1 := h x (List.mem_cons_self ..)
    have h2 := ih fun y hy => h y (List.mem_cons_of_mem _ hy)
    rw [List.flatMap_cons, List.length_append, List.length_cons]; omega
theorem flat_take_len {α : Type} (enc : α → List UInt8) (xs : List α) (i : Nat) (h : ∀ x ∈ xs, (enc x).length ≤ 2000) : ((xs.take i).flatMap enc).length ≤ 2000 * xs.length := by
  have := flat_len enc (xs.take i) fun x hx => h x (List.mem_of_mem_take hx)
  have h2 : (xs.take i).length ≤ xs.length := List.length_take_le' _ _
  exact Nat.le_trans this (Nat.mul_le_mul_left _ h2)
theorem num_nat (b : Nat) (l : List UInt8) (x : Nat) (w : World) (hx : (x : Int) ≤ 18446744073709551615) (hw : Wr w b l) (hsz : l.length ≤ 140737488350000) :
    Calls Try.prog 41 #[.pointer (some ⟨b, 0, none⟩), .int .u64 (x : Int)] w fun e w' => e = .returned (.tuple #[]) ∧ Wr w' b (l ++ numB x) ∧ Below b w w' := by
  have := num_any b l (x : Int) w (by omega) (by omega) hw hsz
  rw [Int.toNat_natCast] at this
  exact this
end Go.Proofs.Ytabmnelenfghhaa
