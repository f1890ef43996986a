/- What Mark of a store answers. -/
import Derived.Test.YtabmnelenfghhaaBkStore
namespace Go.Proofs.Ytabmnelenfghhaa
open Go.RowKit

/-- What Mark answers: the number and the error. -/
def markN (S : StD) (k n : Int) : Int := if k < S.from' ∨ S.to ≤ k then 0 else if h : 0 ≤ n ∧ n < 4 then (S.cells.getD (k - S.from').toNat zeroC).m ⟨n.toNat, by omega⟩ else 0
def markE (S : StD) (k n : Int) : Int := if k < S.from' ∨ S.to ≤ k then 9 else if 0 ≤ n ∧ n < 4 then 0 else 1
set_option maxRecDepth 100000 in
set_option maxHeartbeats 1600000 in
theorem mark_far (tx : ByteArray) (m : Fin 4 → Int) (b : Nat) (k n : Int) (w : World) (HC : Hid (Calls Try.prog 65 #[.pointer (some ⟨b, 0, none⟩), .int .i64 k] w fun e w' => e = .returned (.tuple #[cellV ⟨tx, m⟩, .int .i64 9]) ∧ Below w.heap.size w w')) :
    Calls Try.prog 55 #[.pointer (some ⟨b, 0, none⟩), .int .i64 k, .int .i64 n] w fun e w' => e = .returned (.tuple #[.int .i64 0, .int .i64 9]) ∧ Below w.heap.size w w' := by
  unfold cellV at HC
  simp only at HC
  go_enter Try.func55, Try.ntmps55
  go_wp2_with fail
  refine HC.out.mono ?_
  rintro e w2 ⟨rfl, hb2⟩
  have B2 := hid hb2
  clear hb2
  go_wp2_with fail
  go_ret2
  exact ⟨rfl, B2.out.alloc B2.out.size _⟩
set_option maxRecDepth 100000 in
set_option maxHeartbeats 1600000 in
theorem mark_bad (tx : ByteArray) (m : Fin 4 → Int) (b : Nat) (k n : Int) (w : World) (hn : ¬ (0 ≤ n ∧ n < 4)) (HC : Hid (Calls Try.prog 65 #[.pointer (some ⟨b, 0, none⟩), .int .i64 k] w fun e w' => e = .returned (.tuple #[cellV ⟨tx, m⟩, .int .i64 0]) ∧ Below w.heap.size w w')) :
    Calls Try.prog 55 #[.pointer (some ⟨b, 0, none⟩), .int .i64 k, .int .i64 n] w fun e w' => e = .returned (.tuple #[.int .i64 0, .int .i64 1]) ∧ Below w.heap.size w w' := by
  by_cases h : n < 0
  · have hd : decide (n < 0) = true := decide_eq_true h
    clear hn h
    unfold cellV at HC
    simp only at HC
    go_enter Try.func55, Try.ntmps55
    go_wp2_with fail
    refine HC.out.mono ?_
    rintro e w2 ⟨rfl, hb2⟩
    have B2 := hid hb2
    clear hb2
    go_wp2_with fail
    go_ret2
    exact ⟨rfl, B2.out.alloc B2.out.size _⟩
  · have hd : decide (n < 0) = false := decide_eq_false h
    have hd2 : decide (4 ≤ n) = true := decide_eq_true (by omega)
    clear hn h
    unfold cellV at HC
    simp only at HC
    go_enter Try.func55, Try.ntmps55
    go_wp2_with fail
    refine HC.out.mono ?_
    rintro e w2 ⟨rfl, hb2⟩
    have B2 := hid hb2
    clear hb2
    go_wp2_with fail
    go_ret2
    exact ⟨rfl, B2.out.alloc B2.out.size _⟩
set_option maxRecDepth 100000 in
set_option maxHeartbeats 3200000 in
theorem mark_at (tx : ByteArray) (m : Fin 4 → Int) (b : Nat) (k : Int) (n : Fin 4) (w : World) (HC : Hid (Calls Try.prog 65 #[.pointer (some ⟨b, 0, none⟩), .int .i64 k] w fun e w' => e = .returned (.tuple #[cellV ⟨tx, m⟩, .int .i64 0]) ∧ Below w.heap.size w w')) :
    Calls Try.prog 55 #[.pointer (some ⟨b, 0, none⟩), .int .i64 k, .int .i64 (n.val : Int)] w fun e w' => e = .returned (.tuple #[.int .i64 (m n), .int .i64 0]) ∧ Below w.heap.size w w' := by
  match n with
  | ⟨0, _⟩ =>
    show Calls Try.prog 55 #[.pointer (some ⟨b, 0, none⟩), .int .i64 k, .int .i64 0] w fun e w' => e = .returned (.tuple #[.int .i64 (m 0), .int .i64 0]) ∧ Below w.heap.size w w'
    unfold cellV at HC
    simp only at HC
    go_enter Try.func55, Try.ntmps55
    go_wp2_with fail
    refine HC.out.mono ?_
    rintro e w2 ⟨rfl, hb2⟩
    have B2 := hid hb2
    clear hb2
    go_wp2_with fail
    go_ret2
    exact ⟨rfl, B2.out.alloc B2.out.size _⟩
  | ⟨1, _⟩ =>
    show Calls Try.prog 55 #[.pointer (some ⟨b, 0, none⟩), .int .i64 k, .int .i64 1] w fun e w' => e = .returned (.tuple #[.int .i64 (m 1), .int .i64 0]) ∧ Below w.heap.size w w'
    unfold cellV at HC
    simp only at HC
    go_enter Try.func55, Try.ntmps55
    go_wp2_with fail
    refine HC.out.mono ?_
    rintro e w2 ⟨rfl, hb2⟩
    have B2 := hid hb2
    clear hb2
    go_wp2_with fail
    go_ret2
    exact ⟨rfl, B2.out.alloc B2.out.size _⟩
  | ⟨2, _⟩ =>
    show Calls Try.prog 55 #[.pointer (some ⟨b, 0, none⟩), .int .i64 k, .int .i64 2] w fun e w' => e = .returned (.tuple #[.int .i64 (m 2), .int .i64 0]) ∧ Below w.heap.size w w'
    unfold cellV at HC
    simp only at HC
    go_enter Try.func55, Try.ntmps55
    go_wp2_with fail
    refine HC.out.mono ?_
    rintro e w2 ⟨rfl, hb2⟩
    have B2 := hid hb2
    clear hb2
    go_wp2_with fail
    go_ret2
    exact ⟨rfl, B2.out.alloc B2.out.size _⟩
  | ⟨3, _⟩ =>
    show Calls Try.prog 55 #[.pointer (some ⟨b, 0, none⟩), .int .i64 k, .int .i64 3] w fun e w' => e = .returned (.tuple #[.int .i64 (m 3), .int .i64 0]) ∧ Below w.heap.size w w'
    unfold cellV at HC
    simp only at HC
    go_enter Try.func55, Try.ntmps55
    go_wp2_with fail
    refine HC.out.mono ?_
    rintro e w2 ⟨rfl, hb2⟩
    have B2 := hid hb2
    clear hb2
    go_wp2_with fail
    go_ret2
    exact ⟨rfl, B2.out.alloc B2.out.size _⟩
theorem mark_any (b g : Nat) (S : StD) (k n : Int) (w : World) (hS : St w b g S) :
    Calls Try.prog 55 #[.pointer (some ⟨b, 0, none⟩), .int .i64 k, .int .i64 n] w fun e w' => e = .returned (.tuple #[.int .i64 (markN S k n), .int .i64 (markE S k n)]) ∧ Below w.heap.size w w' := by
  have HC := cell_any b g S k w hS
  unfold blockE at HC
  unfold markN markE
  by_cases h : k < S.from' ∨ S.to ≤ k
  · simp only [h, if_true] at HC ⊢
    exact mark_far _ _ b k n w (hid HC)
  · simp only [h, if_false] at HC ⊢
    by_cases hn : 0 ≤ n ∧ n < 4
    · simp only [hn, and_self, if_true, dif_pos]
      have := mark_at _ _ b k ⟨n.toNat, by omega⟩ w (hid HC)
      rw [show ((⟨n.toNat, by omega⟩ : Fin 4).val : Int) = n from by simp; omega] at this
      exact this
    · simp only [hn, if_false, dif_neg, not_false_eq_true]
      exact mark_bad _ _ b k n w hn (hid HC)
end Go.Proofs.Ytabmnelenfghhaa
