/- The document's reader of states: its int and text. Conditions: the bytes lie in memory. -/
import Derived.Test.YtjimneaimnjanaaCoLoadF
import Derived.Test.YtjimneaimnjanaaCoRMay
import Derived.Test.YtjimneaimnjanaaOTake
namespace Go.Proofs.Ytjimneaimnjanaa
open Go.RowKit
set_option linter.unusedVariables false
set_option linter.unusedSimpArgs false

theorem Try.elemBB : Try.prog.elem 22 = 5 := by kernel_rfl
theorem Try.underlyingB' : Try.prog.underlying 22 = some (.slice (Try.prog.elem 22)) := by rw [Try.elemBB]; exact Try.underlyingB
/-- The value v is a slice of the bytes r, in whatever world where w's blocks are. -/
def BtW (w : World) (v : Value) (r : List UInt8) : Prop := ∀ W, Below w.heap.size w W → Bts W v r
theorem BtW.from {w : World} {a : Option Addr} {c : Nat} {l : List UInt8} (h : BtW w (.slice a l.length c) l) (k : Nat) (hk : k ≤ l.length) (r : List UInt8) (hr : r = l.drop k) :
    ∃ a', (∀ W, (Instr.slice 22 (.slice a l.length c) (some (.int .i64 (k : Int))) none none).run Try.prog W = .ok (.slice a' r.length (c - k)) W) ∧ BtW w (.slice a' r.length (c - k)) r := by
  have hl : r.length = l.length - k := by rw [hr]; simp
  obtain ⟨i, hi, hz0, hz1, hz2⟩ := info_parts Try.infoB
  obtain ⟨_, _, _, e, g1, g2, g3, -⟩ := h w (Below.refl _ _)
  cases e
  refine ⟨if c = k then a else a.map (·.add k), fun W => ?_, fun W hW => ?_⟩
  · have := run_slice_l (P := Try.prog) W 22 a l.length c Try.underlyingB' .i64 (k : Int) (by omega) (by omega)
    rw [this, Try.elemBB]
    simp [sizeOf, typeInfo, hi, hz1, sliced, hl]
  · have := (h W hW).sub (k := k) (n := l.length - k) (ao' := if c = k then a else a.map (·.add k)) (by omega) (fun hc => if_neg hc) (fun hc => if_pos hc)
    rw [hl]
    rw [hr]
    rwa [List.take_of_length_le (by simp)] at this
/-- The reader at block X has the bytes l, which lie among w0's blocks; bad: something was none. -/
structure Rr (w0 w : World) (X : Nat) (l : List UInt8) (bad : Bool) : Prop where
  rd : ∃ a c, w.heap[X]? = some (.cells #[.slice a l.length c, .bool bad] 97 (0, 0)) ∧ BtW w0 (.slice a l.length c) l
  bel : Below w0.heap.size w0 w
  px : w0.heap.size ≤ X
theorem Rr.below {w0 w w' : World} {X : Nat} {l : List UInt8} {bad : Bool} (h : Rr w0 w X l bad) (hb : Below w.heap.size w w') : Rr w0 w' X l bad := by
  obtain ⟨a, c, h1, h2⟩ := h.rd
  exact ⟨⟨a, c, (hb.block X (lt_of_block h1)).trans h1, h2⟩, h.bel.trans (hb.mono h.bel.size), h.px⟩
/-- What is left, and whether there was none. -/
def nxL (l : List UInt8) (s : Option (List UInt8)) : List UInt8 := s.getD l
theorem nx_drop (l : List UInt8) (s : Option (List UInt8)) (h : ∀ r, s = some r → ∃ t, l = t ++ r ∧ 1 ≤ t.length) : kOf l s ≤ l.length ∧ nxL l s = l.drop (kOf l s) ∧ ((kOf l s : Int) == 0) = s.isNone := by
  cases s with
  | none => exact ⟨Nat.zero_le _, rfl, rfl⟩
  | some r =>
    obtain ⟨t, rfl, ht⟩ := h r rfl
    have e : kOf (t ++ r) (some r) = t.length := by show (t ++ r).length - r.length = _; simp
    rw [e]
    refine ⟨by simp, by simp [nxL], ?_⟩
    show ((t.length : Int) == 0) = false
    simp; intro h; rw [h] at ht; simp at ht
theorem int_nx (l r : List UInt8) (h : intS (some l) = some r) : ∃ t, l = t ++ r ∧ 1 ≤ t.length := by
  refine ⟨_, (int_only l r h).1, ?_⟩
  unfold intB; split <;> simp
theorem text_nx (l r : List UInt8) (h : textS (some l) = some r) : ∃ t, l = t ++ r ∧ 1 ≤ t.length := by
  refine ⟨_, text_only l r h, ?_⟩
  unfold textB
  have := numB_pos (⟨(textV (some l)).toArray⟩ : ByteArray).size
  rw [List.length_append]; omega
set_option maxRecDepth 100000 in
set_option maxHeartbeats 4000000 in
theorem rrInt_any (X : Nat) (l : List UInt8) (bad : Bool) (w0 w : World) (hr : Rr w0 w X l bad) :
    Calls Try.prog 41 #[.pointer (some ⟨X, 0, none⟩)] w fun e w' => e = .returned (.int .i64 (intV (some l))) ∧ Rr w0 w' X (nxL l (intS (some l))) (bad || (intS (some l)).isNone) ∧ w.grownBy w' (some X) := by
  obtain ⟨⟨a, c, hX, hBW⟩, hbel, hpx⟩ := hr
  have hB := hBW w hbel
  obtain ⟨hk, hnx, hk0⟩ := nx_drop l _ (int_nx l)
  obtain ⟨a', hsl, hB'⟩ := hBW.from _ hk _ hnx
  have x0 : w.cell? ⟨X, 0, none⟩ = some (.slice a l.length c) := by rw [cell_of_row _ _ _ _ _ _ hX]; rfl
  have HT := hid (takeInt_any _ l w hB)
  have HX := hid hX
  have HB := hid hB'
  generalize intV (some l) = y at HT ⊢
  generalize (intS (some l)).isNone = nn at hk0 ⊢
  generalize nxL l (intS (some l)) = l2 at *
  generalize kOf l (intS (some l)) = k at *
  have HBL := hid (And.intro hbel hpx)
  clear hB hB' hX hnx hBW hbel
  go_enter Try.func41, Try.ntmps41
  go_upto_region 2 with (go_at_call 82; refine HT.out.mono ?_; rintro e w2 ⟨rfl, hb2⟩; have B2 := hid hb2; clear hb2)
  have hX2 := (B2.out.block X (lt_of_block HX.out)).trans HX.out
  have y1 : w2.cell? ⟨X, 1, none⟩ = some (.bool bad) := by rw [cell_of_row _ _ _ _ _ _ hX2]; rfl
  have f1 : w2.frozen? ⟨X, 1, none⟩ = false := frozen_of_row _ _ _ _ _ hX2
  have hX3 : (w2.setCell ⟨X, 1, none⟩ (.bool (bad || nn))).heap[X]? = some (.cells #[.slice a l.length c, .bool (bad || nn)] 97 (0, 0)) := heap_setCell_same _ _ _ _ _ _ hX2
  have y0 : (w2.setCell ⟨X, 1, none⟩ (.bool (bad || nn))).cell? ⟨X, 0, none⟩ = some (.slice a l.length c) := by rw [cell_of_row _ _ _ _ _ _ hX3]; rfl
  have f0 : (w2.setCell ⟨X, 1, none⟩ (.bool (bad || nn))).frozen? ⟨X, 0, none⟩ = false := frozen_of_row _ _ _ _ _ hX3
  have HF : Hid (Rr w0 ((w2.setCell ⟨X, 1, none⟩ (.bool (bad || nn))).setCell ⟨X, 0, none⟩ (.slice a' l2.length (c - k))) X l2 (bad || nn) ∧ w.grownBy ((w2.setCell ⟨X, 1, none⟩ (.bool (bad || nn))).setCell ⟨X, 0, none⟩ (.slice a' l2.length (c - k))) (some X)) := hid (by
    refine ⟨⟨⟨a', c - k, heap_setCell_same _ _ _ _ _ _ hX3, HB.out⟩, below_set (below_set (HBL.out.1.trans (B2.out.mono HBL.out.1.size)) hpx) hpx, hpx⟩, ?_⟩
    · exact grown_trans (grown_trans (grown_of B2.out) (grown_set _ _ _ _)) (grown_set _ _ _ _))
  clear hX2 hX3 x0
  cases bad with
  | true =>
    rw [Bool.true_or] at *
    go_wp2_with fail
    go_ret
    exact ⟨rfl, HF.out⟩
  | false =>
    rw [Bool.false_or] at *
    go_wp2_with fail
    go_ret
    exact ⟨rfl, HF.out⟩
set_option maxRecDepth 100000 in
set_option maxHeartbeats 4000000 in
theorem rrText_any (X : Nat) (l : List UInt8) (bad : Bool) (w0 w : World) (hr : Rr w0 w X l bad) :
    Calls Try.prog 42 #[.pointer (some ⟨X, 0, none⟩)] w fun e w' => e = .returned (.string ⟨(textV (some l)).toArray⟩) ∧ Rr w0 w' X (nxL l (textS (some l))) (bad || (textS (some l)).isNone) ∧ w.grownBy w' (some X) := by
  obtain ⟨⟨a, c, hX, hBW⟩, hbel, hpx⟩ := hr
  have hB := hBW w hbel
  obtain ⟨hk, hnx, hk0⟩ := nx_drop l _ (text_nx l)
  obtain ⟨a', hsl, hB'⟩ := hBW.from _ hk _ hnx
  have x0 : w.cell? ⟨X, 0, none⟩ = some (.slice a l.length c) := by rw [cell_of_row _ _ _ _ _ _ hX]; rfl
  have HT := hid (takeText_any _ l w hB)
  have HX := hid hX
  have HB := hid hB'
  generalize (⟨(textV (some l)).toArray⟩ : ByteArray) = y at HT ⊢
  generalize (textS (some l)).isNone = nn at hk0 ⊢
  generalize nxL l (textS (some l)) = l2 at *
  generalize kOf l (textS (some l)) = k at *
  have HBL := hid (And.intro hbel hpx)
  clear hB hB' hX hnx hBW hbel
  go_enter Try.func42, Try.ntmps42
  go_upto_region 2 with (go_at_call 83; refine HT.out.mono ?_; rintro e w2 ⟨rfl, hb2⟩; have B2 := hid hb2; clear hb2)
  have hX2 := (B2.out.block X (lt_of_block HX.out)).trans HX.out
  have y1 : w2.cell? ⟨X, 1, none⟩ = some (.bool bad) := by rw [cell_of_row _ _ _ _ _ _ hX2]; rfl
  have f1 : w2.frozen? ⟨X, 1, none⟩ = false := frozen_of_row _ _ _ _ _ hX2
  have hX3 : (w2.setCell ⟨X, 1, none⟩ (.bool (bad || nn))).heap[X]? = some (.cells #[.slice a l.length c, .bool (bad || nn)] 97 (0, 0)) := heap_setCell_same _ _ _ _ _ _ hX2
  have y0 : (w2.setCell ⟨X, 1, none⟩ (.bool (bad || nn))).cell? ⟨X, 0, none⟩ = some (.slice a l.length c) := by rw [cell_of_row _ _ _ _ _ _ hX3]; rfl
  have f0 : (w2.setCell ⟨X, 1, none⟩ (.bool (bad || nn))).frozen? ⟨X, 0, none⟩ = false := frozen_of_row _ _ _ _ _ hX3
  have HF : Hid (Rr w0 ((w2.setCell ⟨X, 1, none⟩ (.bool (bad || nn))).setCell ⟨X, 0, none⟩ (.slice a' l2.length (c - k))) X l2 (bad || nn) ∧ w.grownBy ((w2.setCell ⟨X, 1, none⟩ (.bool (bad || nn))).setCell ⟨X, 0, none⟩ (.slice a' l2.length (c - k))) (some X)) := hid (by
    refine ⟨⟨⟨a', c - k, heap_setCell_same _ _ _ _ _ _ hX3, HB.out⟩, below_set (below_set (HBL.out.1.trans (B2.out.mono HBL.out.1.size)) hpx) hpx, hpx⟩, ?_⟩
    · exact grown_trans (grown_trans (grown_of B2.out) (grown_set _ _ _ _)) (grown_set _ _ _ _))
  clear hX2 hX3 x0
  cases bad with
  | true =>
    rw [Bool.true_or] at *
    go_wp2_with fail
    go_ret
    exact ⟨rfl, HF.out⟩
  | false =>
    rw [Bool.false_or] at *
    go_wp2_with fail
    go_ret
    exact ⟨rfl, HF.out⟩
end Go.Proofs.Ytjimneaimnjanaa
