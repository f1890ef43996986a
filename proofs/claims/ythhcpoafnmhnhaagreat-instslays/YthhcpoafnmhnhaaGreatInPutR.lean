/- What Put of octet lays of a row of Refs. Conditions: the Writer lies in memory, the row ahead of it. -/
import Derived.Test.YthhcpoafnmhnhaaGreatInMay
import Derived.Test.YthhcpoafnmhnhaaGreatInClone
import Derived.Test.YthhcpoafnmhnhaaGreatWk
import Derived.Test.YthhcpoafnmhnhaaGreatBkLay
namespace Go.Proofs.YthhcpoafnmhnhaaGreat
open Go.RowKit
set_option linter.unusedVariables false
set_option linter.unusedSimpArgs false

/-- A Ref's bytes. -/
def refB' (r : Int × Int) : List UInt8 := intB r.1 ++ intB r.2
theorem refB'_len (r : Int × Int) (h : I64 r.1 ∧ I64 r.2) : (refB' r).length ≤ 22 := by
  have h1 := intB_lenM r.1 h.1
  have h2 := intB_lenM r.2 h.2
  unfold refB'
  rw [List.length_append]; omega
/-- A row of Refs in blocks below B. -/
def RfB (B : Nat) (w : World) (v : Value) (l : List (Int × Int)) : Prop := Rfs w v l ∧ ∀ ad n cap, v = .slice (some ad) n cap → 0 < l.length → ad.block < B
theorem RfB.below {B : Nat} {w w' : World} {v : Value} {l : List (Int × Int)} (h : RfB B w v l) (hb : Below B w w') : RfB B w' v l := by
  obtain ⟨⟨ao, n, cap, rfl, h1, h2, h3, h4, h5⟩, h6⟩ := h
  refine ⟨⟨ao, n, cap, rfl, h1, h2, h3, h4, fun ad had j hj => ?_⟩, h6⟩
  have hl : ad.block < B := h6 ad n cap (by rw [had]) (by omega)
  have e0 : ∀ k, (ad.add k).block = ad.block := fun k => by unfold Addr.add; split <;> rfl
  exact ⟨(hb.cell (p := ad.add (j * 2)) (by rw [e0]; exact hl)).trans (h5 ad had j hj).1, (hb.cell (p := ad.add (j * 2 + 1)) (by rw [e0]; exact hl)).trans (h5 ad had j hj).2⟩
theorem rfs_low {w : World} {v : Value} {l : List (Int × Int)} (h : Rfs w v l) {B : Nat} (hB : w.heap.size ≤ B) : RfB B w v l := by
  refine ⟨h, fun ad n cap e hl => ?_⟩
  obtain ⟨ao, n', cap', e', h1, h2, h3, h4, h5⟩ := h
  rw [e] at e'
  cases e'
  have h0 := (h5 ad rfl 0 hl).1
  have := World.block_lt_of_cell? _ _ h0
  have e0 : (ad.add (0 * 2)).block = ad.block := by unfold Addr.add; split <;> rfl
  rw [e0] at this
  omega
set_option maxHeartbeats 1600000 in
theorem layRef_kt (b : Nat) (l : List UInt8) (r : Int × Int) (w : World) (hr : I64 r.1 ∧ I64 r.2) (hw : Wr w b l) (hsz : l.length ≤ 100000000000) :
    Calls Tryz.prog 23 #[.pointer (some ⟨b, 0, none⟩), .agg #[.int .i64 r.1, .int .i64 r.2]] w fun e w' => e = .returned (.tuple #[]) ∧ Wr w' b (l ++ refB' r) ∧ Wb b w w' := by
  obtain ⟨r0, r1⟩ := r
  obtain ⟨⟨a0, a1⟩, c0, c1⟩ := hr
  simp only at a0 a1 c0 c1 ⊢
  have hlt := hw.lt
  obtain ⟨w1, hw1⟩ : ∃ w1, w1 = w.alloc (.cells #[.int .i64 r0, .int .i64 r1] 23) := ⟨_, rfl⟩
  have b1 : Below w.heap.size w w1 := by rw [hw1]; exact (Below.refl _ _).alloc (Nat.le_refl _) _
  have hA : w1.heap[w.heap.size]? = some (.cells #[.int .i64 r0, .int .i64 r1] 23 (0, 0)) := by rw [hw1]; exact heap_alloc_new _ _
  have W1 := hid (hw.below b1)
  have B1 := hid (Wb.new (b := b) b1 (Nat.le_of_lt hlt))
  have HW1 := hid hw1
  have hIl := intB_lenM r0 ⟨a0, a1⟩
  clear hw hw1 b1
  go_enter Tryz.func23, Tryz.ntmps23
  go_upto_region 1 with fail
  rw [← HW1.out]
  obtain ⟨A, hAe⟩ : ∃ A, A = w.heap.size := ⟨_, rfl⟩
  rw [← hAe] at hA
  rw [← hAe]
  clear hAe HW1
  have x0 : w1.cell? ⟨A, 0, none⟩ = some (.int .i64 r0) := by rw [cell_of_row _ _ _ _ _ _ hA]; rfl
  have HA := hid hA
  clear hA
  go_wp2_with fail
  refine (int_kt b l r0 _ a0 (by omega) W1.out (by omega)).mono ?_
  rintro e w2 ⟨rfl, hw2, hb2⟩
  have W2 := hid hw2
  have A2 := hid ((hb2.kt _ _ _ _ HA.out (by decide)).trans HA.out)
  have B2 := hid (B1.out.trans hb2)
  clear hw2 hb2 W1 HA B1 x0
  have x1 : w2.cell? ⟨A, 1, none⟩ = some (.int .i64 r1) := by rw [cell_of_row _ _ _ _ _ _ A2.out]; rfl
  go_wp2_with fail
  refine (int_kt b _ r1 _ c0 (by omega) W2.out (by rw [List.length_append]; omega)).mono ?_
  rintro e w3 ⟨rfl, hw3, hb3⟩
  have W3 := hid hw3
  have B3 := hid (B2.out.trans hb3)
  clear hw3 hb3
  go_wp2
  go_end0
  refine ⟨rfl, ?_, B3.out⟩
  unfold refB'
  rw [← List.append_assoc]
  exact W3.out
set_option maxHeartbeats 1600000 in
theorem putR_kt (b : Nat) (l : List UInt8) (v : Value) (xs : List (Int × Int)) (w : World) (hw : Wr w b l) (hv : RfB b w v xs) (hx : ∀ x ∈ xs, I64 x.1 ∧ I64 x.2) (hl : l.length ≤ 20000000000) (hn : xs.length ≤ 5000) :
    Calls Tryz.prog 22 #[.pointer (some ⟨b, 0, none⟩), v, .func (.func 23) #[] #[]] w fun e w' =>
      e = .returned (.tuple #[]) ∧ Wr w' b (l ++ listB refB' xs) ∧ Wb b w w' := by
  have HV := hio hv
  obtain ⟨va, vc, rfl⟩ := hv.1.shape
  have hblt := hw.lt
  have HW := hio hw
  have HX := hio hx
  clear hw hx hv
  have hnl := numB_len xs.length (by omega)
  have hfn := fun w => run_eql_fn w (.func 23) #[] #[] Tryz.underlying63
  go_enter Tryz.func22, Tryz.ntmps22
  go_wp2_with (first
    | (go_at_call 40; refine (num_kt _ _ _ _ (by omega) (by omega) HW.out (by omega)).mono ?_; rintro e w1 ⟨rfl, hw1, hb1⟩; rw [Int.toNat_natCast] at hw1; have HW1 := hio hw1; have HB1 := hio hb1; clear hw1 hb1))
  clear hfn HW
  go_loopw [7, 21] (fun _ iv wr => ∃ i : Nat, iv = .int .i64 i ∧ i ≤ xs.length ∧ Wr wr b (l ++ numB xs.length ++ (xs.take i).flatMap refB') ∧ Wb b w wr) (fun _ iv _ => xs.length - (intOf iv).toNat)
  case atStart => exact ⟨0, rfl, Nat.zero_le _, by simpa using HW1.out, HB1.out⟩
  case round =>
    obtain ⟨i, rfl, hin, hwr, hbr⟩ := hrel
    clear HW1 HB1
    have HWR := hio hwr
    have HBR := hio hbr
    clear hwr hbr
    by_cases hlt : (i : Int) < (xs.length : Int)
    · have hi : i < xs.length := by omega
      have HVr := HV.out.below HBR.out.bel
      obtain ⟨gd, od, rfl⟩ := HVr.1.addr (by omega)
      obtain ⟨c0, c1⟩ := HVr.1.lit i hi
      have hok := HX.out xs[i] (List.getElem_mem hi)
      have HFT := hio (flat_take refB' xs i hi)
      have hfl := flat_take_lenM refB' xs i 22 fun x hx => refB'_len x (HX.out x hx)
      clear HVr
      obtain ⟨x, hxx⟩ : ∃ x, x = xs[i] := ⟨_, rfl⟩
      rw [← hxx] at c0 c1 hok HFT
      clear hxx
      have hlen : (l ++ numB xs.length ++ (xs.take i).flatMap refB').length ≤ 50000000000 := by
        rw [List.length_append, List.length_append]; omega
      have HLEN := hio hlen
      have HOK := hio hok
      clear hlen hfl hnl hok
      obtain ⟨w2, hw2⟩ : ∃ w2, w2 = wr.alloc (.cells #[.int .i64 x.1, .int .i64 x.2] 23) := ⟨_, rfl⟩
      have b2 : Below wr.heap.size wr w2 := by rw [hw2]; exact (Below.refl _ _).alloc (Nat.le_refl _) _
      have HW2 := hio (HWR.out.below b2)
      have HB2 := hio (HBR.out.trans (Wb.new (b := b) b2 (Nat.le_of_lt HWR.out.lt)))
      have HE2 := hio hw2
      clear hw2 b2
      go_wp2_with fail
      rw [← HE2.out]
      refine (layRef_kt b _ x _ HOK.out HW2.out (by have := HLEN.out; omega)).mono ?_
      rintro e w3 ⟨rfl, hw3, hb3⟩
      have HW3 := hio hw3
      have HB3 := hio (HB2.out.trans hb3)
      clear hw3 hb3
      go_wp2_with fail
      go_roundw
      case rel =>
        refine ⟨i + 1, by go_num, by omega, ?_, HB3.out⟩
        rw [HFT.out, ← List.append_assoc]; exact HW3.out
      case measure => simp [intOf]; omega
    · have hin' : i = xs.length := by omega
      go_wp2
      go_end0
      refine ⟨rfl, ?_, HBR.out⟩
      have := HWR.out
      rw [hin', List.take_length, List.append_assoc] at this
      exact this
end Go.Proofs.YthhcpoafnmhnhaaGreat
