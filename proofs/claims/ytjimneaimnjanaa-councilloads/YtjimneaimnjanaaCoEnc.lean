/- Encode: a council's bytes. Conditions: what it has can be laid. -/
import Derived.Test.YtjimneaimnjanaaCoLay
namespace Go.Proofs.Ytjimneaimnjanaa
open Go.RowKit
set_option linter.unusedVariables false
set_option linter.unusedSimpArgs false

def numL (D : CoD) : List Int := [D.term, D.vote, D.bi, D.bt]
/-- A council's bytes. -/
def coBy (D : CoD) : List UInt8 := (numL D).flatMap intB ++ textB D.bv ++ textB D.bx ++ listB enBy D.log
/-- What can be laid. -/
structure CoJ (D : CoD) : Prop where
  n : ∀ x ∈ numL D, I64 x
  v : D.bv.size ≤ 1048576
  x : D.bx.size ≤ 1048576
  l : ∀ e ∈ D.log, EnJ e
  len : D.log.length ≤ 4096
theorem numL_len (D : CoD) : (numL D).length = 4 := rfl
theorem nm_at (A : Nat) (i : Nat) (h : i < 4) : (nmP A)[i]? = some (.pointer (some ⟨A, 1 + i, none⟩)) := by
  match i, h with
  | 0, _ => rfl
  | 1, _ => rfl
  | 2, _ => rfl
  | 3, _ => rfl
theorem Co.num {w : World} {base b : Nat} {lv : Value} {D : CoD} (h : Co w base b lv D) (i : Nat) (hi : i < (numL D).length) : w.cell? ⟨b, 1 + i, none⟩ = some (.int .i64 (numL D)[i]) := by
  rw [h.cell]
  match i, hi with
  | 0, _ => rfl
  | 1, _ => rfl
  | 2, _ => rfl
  | 3, _ => rfl
set_option maxRecDepth 100000 in
set_option maxHeartbeats 4000000 in
theorem encode_any (b : Nat) (lv : Value) (D : CoD) (w : World) (h : Co w 0 b lv D) (hj : CoJ D) :
    Calls Try.prog 14 #[.pointer (some ⟨b, 0, none⟩)] w fun e w' => ∃ va vc, e = .returned (.slice va (coBy D).length vc) ∧ Own w' w.heap.size (.slice va (coBy D).length vc) (coBy D) ∧ Below w.heap.size w w' := by
  have H := hid h
  have HJ := hid hj
  have hlb := lt_of_block h.head
  have HE0 := hid (ens_low (ens_own h.log rfl) (Nat.le_refl w.heap.size))
  obtain ⟨w1, hw1⟩ : ∃ w1, w1 = w.alloc (.cells #[.slice none 0 0] 103) := ⟨_, rfl⟩
  have B1 : Hid (Wb w.heap.size w w1) := hid (by rw [hw1]; exact Wb.new ((Below.refl _ _).alloc (Nat.le_refl _) _) (Nat.le_refl _))
  have hw0 : Wr w1 w.heap.size [] := by rw [hw1]; exact Wr.new w
  have HW1 := hid hw1
  have hs1 : w1.heap.size = w.heap.size + 1 := by rw [hw1]; simp
  clear h hj hw1
  go_enter Try.func14, Try.ntmps14
  go_upto_region 4 with fail
  rw [← HW1.out]
  obtain ⟨W, hWe⟩ : ∃ W, W = w.heap.size := ⟨_, rfl⟩
  rw [← hWe] at hw0 hs1 B1 HE0 hlb
  rw [← hWe]
  have HWE := hid hWe
  clear HW1 hWe
  have WR1 := hid hw0
  have HS1 := hid hs1
  clear hw0 hs1
  have HN := hid (numbers_any b w1)
  go_upto_region 5 with (go_at_call 34; refine HN.out.mono ?_; rintro e w2 ⟨rfl, hn2, hb2⟩; have N2 := hid hn2; have B2 := hid (B1.out.trans (Wb.new (b := W) hb2 (by have := HS1.out; omega))); have WR2 := hid (WR1.out.below hb2); clear hn2 hb2)
  obtain ⟨N, hNe⟩ : ∃ N, N = w1.heap.size := ⟨_, rfl⟩
  rw [← hNe] at N2
  rw [← hNe]
  clear hNe HN
  have HLI := hid (fun x hx => intB_lenM x (HJ.out.n x hx))
  go_loopw [5, 13] (fun _ iv wr => ∃ i : Nat, iv = .int .i64 i ∧ i ≤ 4 ∧ Wr wr W (((numL D).take i).flatMap intB) ∧ Wb W w2 wr) (fun _ iv _ => 4 - (intOf iv).toNat)
  case atStart => exact ⟨0, rfl, Nat.zero_le _, WR2.out, Wb.refl _ _⟩
  case round =>
    obtain ⟨i, rfl, hi, hwr, hbr⟩ := hrel
    have WR := hid hwr
    have BR := hid hbr
    clear hwr hbr
    have B0R := hid (B2.out.trans BR.out)
    have CR : Hid (Co wr 0 b lv D) := hid ⟨(B0R.out.bel.block b hlb).trans H.out.head, own_kept H.out.log fun q cs hq hh => B0R.out.bel.block q (by have := HWE.out; have := lt_of_block hh; omega)⟩
    have hfl := flat_take_lenM intB (numL D) i 11 HLI.out
    rw [numL_len] at hfl
    by_cases hlt : (i : Int) < 4
    · have hi4 : i < 4 := by omega
      have hNr := (BR.out.kt _ _ _ _ N2.out (by decide)).trans N2.out
      have p0 : wr.cell? ⟨N, i, none⟩ = some (.pointer (some ⟨b, 1 + i, none⟩)) := by rw [cell_of_row _ _ _ _ _ _ hNr]; exact nm_at b i hi4
      have hil : i < (numL D).length := hi4
      have p1 := CR.out.num i hil
      have HFT := hid (flat_take intB (numL D) i hil)
      have hok := HJ.out.n _ (List.getElem_mem hil)
      generalize (numL D)[i] = x at *
      obtain ⟨hx0, hx1⟩ := hok
      clear hNr
      go_wp2_with (go_at_call 44; refine (int_kt W _ x _ hx0 (by omega) WR.out (by omega)).mono ?_; rintro e w3 ⟨rfl, hw3, hb3⟩; have W3 := hid hw3; have B3 := hid (BR.out.trans hb3); clear hw3 hb3)
      go_roundw
      case rel => exact ⟨i + 1, by go_num, by omega, by rw [HFT.out]; exact W3.out, B3.out⟩
      case measure => simp [intOf]; omega
    · obtain rfl : i = 4 := by omega
      have c5 : wr.cell? ⟨b, 5, none⟩ = some (.string D.bv) := CR.out.cell 5
      have hv := textB_lenM _ HJ.out.v
      have hx := textB_lenM _ HJ.out.x
      have hvs := HJ.out.v
      have hxs := HJ.out.x
      rw [show (numL D).take 4 = numL D from rfl] at WR hfl
      have HC6 : Hid (∀ Y, Wb W w Y → Y.cell? ⟨b, 6, none⟩ = some (.string D.bx) ∧ Y.cell? ⟨b, 7, none⟩ = some lv) := hid fun Y hY => by
        have := (hY.bel.block b hlb).trans H.out.head
        exact ⟨by rw [cell_of_row _ _ _ _ _ _ this]; rfl, by rw [cell_of_row _ _ _ _ _ _ this]; rfl⟩
      go_upto_region 10 with (go_at_call 45; refine (text_kt W _ D.bv _ WR.out (by omega)).mono ?_; rintro e w3 ⟨rfl, hw3, hb3⟩; have W3 := hid hw3; have B3 := hid (B0R.out.trans hb3); clear hw3 hb3)
      obtain ⟨d6, -⟩ := HC6.out _ B3.out
      go_upto_region 11 with (go_at_call 45; refine (text_kt W _ D.bx _ W3.out (by rw [List.length_append]; omega)).mono ?_; rintro e w4 ⟨rfl, hw4, hb4⟩; have W4 := hid hw4; have B4 := hid (B3.out.trans hb4); clear hw4 hb4)
      obtain ⟨-, d7⟩ := HC6.out _ B4.out
      have hln := HJ.out.len
      go_upto_region 12 with (go_at_call 46; refine (putE_kt W _ lv D.log _ W4.out (HE0.out.below B4.out.bel) HJ.out.l (by rw [List.length_append, List.length_append]; omega) (by omega)).mono ?_; rintro e w5 ⟨rfl, hw5, hb5⟩; have W5 := hid hw5; have B5 := hid (B4.out.trans hb5); clear hw5 hb5)
      have W6 : Hid (Wr w5 W (coBy D)) := hid W5.out
      have hcl : (coBy D).length ≤ 140737488340000 := by
        have e1 := flat_lenM enBy D.log 1048608 fun x hx => enBy_len x (HJ.out.l x hx)
        have e2 := numB_len D.log.length (by omega)
        unfold coBy listB
        rw [List.length_append, List.length_append, List.length_append, List.length_append]
        omega
      go_wp2_with (go_at_call 48; refine (bytes_any W (coBy D) _ W6.out (by omega)).mono ?_; rintro e w6 ⟨va, vc, rfl, ho6, hb6⟩; have O6 := hid ho6; have B6 := hid hb6; clear ho6 hb6)
      go_ret
      have hsz := B5.out.ko.size
      have hww : Below w.heap.size w w5 := by have := B5.out.bel; rw [HWE.out] at this; exact this
      exact ⟨va, vc, rfl, own_lower O6.out hww.size, hww.trans (B6.out.mono hww.size)⟩
end Go.Proofs.Ytjimneaimnjanaa
