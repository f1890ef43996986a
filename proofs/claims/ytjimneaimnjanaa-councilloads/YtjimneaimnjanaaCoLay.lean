/- A council's bytes: layEntry, Put of entries, numbers, Encode. Conditions: numbers are ints, texts are not too long. -/
import Derived.Test.YtjimneaimnjanaaCoEx
import Derived.Test.YtjimneaimnjanaaCoFollow
import Derived.Test.YtjimneaimnjanaaWk
namespace Go.Proofs.Ytjimneaimnjanaa
open Go.RowKit
set_option linter.unusedVariables false
set_option linter.unusedSimpArgs false

theorem intB_lenM (n : Int) (h : I64 n) : (intB n).length ≤ 11 := by
  obtain ⟨h0, h1⟩ := h
  unfold intB
  split
  · have := numB_len n.toNat (by omega); simp only [List.length_cons]; omega
  · have := numB_len (-1 - n).toNat (by omega); simp only [List.length_cons]; omega
/-- An entry's bytes. -/
def enBy (e : En) : List UInt8 := intB e.term ++ intB e.kind ++ textB e.text
/-- An entry that may be laid. -/
structure EnJ (e : En) : Prop where
  t : I64 e.term
  k : I64 e.kind
  s : e.text.size ≤ 1048576
theorem enBy_len (e : En) (h : EnJ e) : (enBy e).length ≤ 1048608 := by
  have h1 := intB_lenM _ h.t
  have h2 := intB_lenM _ h.k
  have h3 := textB_lenM _ h.s
  unfold enBy
  rw [List.length_append, List.length_append]; omega
/-- A row of entries in blocks below B. -/
def EnB (B : Nat) (w : World) (v : Value) (l : List En) : Prop := Ens w v l ∧ ∀ ad n cap, v = .slice (some ad) n cap → 0 < l.length → ad.block < B
theorem EnB.below {B : Nat} {w w' : World} {v : Value} {l : List En} (h : EnB B w v l) (hb : Below B w w') : EnB B w' v l := by
  obtain ⟨⟨ao, n, cap, rfl, h1, h2, h3, h4, h5⟩, h6⟩ := h
  refine ⟨⟨ao, n, cap, rfl, h1, h2, h3, h4, fun ad had j hj => ?_⟩, h6⟩
  have hl : ad.block < B := h6 ad n cap (by rw [had]) (by omega)
  have e0 : ∀ k, (ad.add k).block = ad.block := fun k => by unfold Addr.add; split <;> rfl
  exact ⟨(hb.cell (p := ad.add (j * 3)) (by rw [e0]; exact hl)).trans (h5 ad had j hj).1, (hb.cell (p := ad.add (j * 3 + 1)) (by rw [e0]; exact hl)).trans (h5 ad had j hj).2.1, (hb.cell (p := ad.add (j * 3 + 2)) (by rw [e0]; exact hl)).trans (h5 ad had j hj).2.2⟩
theorem ens_low {w : World} {v : Value} {l : List En} (h : Ens w v l) {B : Nat} (hB : w.heap.size ≤ B) : EnB B w v l := by
  refine ⟨h, fun ad n cap e hl => ?_⟩
  obtain ⟨ao, n', cap', e', h1, h2, h3, h4, h5⟩ := h
  rw [e] at e'
  cases e'
  have h0 := (h5 ad rfl 0 hl).1
  have := World.block_lt_of_cell? _ _ h0
  have e0 : (ad.add (0 * 3)).block = ad.block := by unfold Addr.add; split <;> rfl
  rw [e0] at this
  omega
theorem ens_own {w : World} {base n : Nat} {v : Value} {l : List En} (h : w.ownsRow base 73 3 v n (evs l)) (hn : n = l.length) : Ens w v l := by
  subst hn
  have h' := h
  obtain ⟨h1, h2⟩ := h
  rcases h2 with ⟨rfl, h0⟩ | ⟨g, cap, cur, rfl, -, hh, hc, hm, -⟩
  · have : l = [] := List.length_eq_zero_iff.1 h0
    subst this
    exact ⟨none, 0, 0, rfl, rfl, Nat.le_refl _, by omega, (fun _ => rfl), (fun ad h => by cases h)⟩
  · refine ⟨_, _, _, rfl, rfl, hc, by unfold maxLen at hm; omega, (fun h => by cases h), ?_⟩
    intro ad had j hj
    cases had
    obtain ⟨k1, k2, k3⟩ := evs_at l j hj
    exact ⟨h'.cells (g := g) rfl _ _ k1, h'.cells (g := g) rfl _ _ k2, h'.cells (g := g) rfl _ _ k3⟩
set_option maxRecDepth 100000 in
set_option maxHeartbeats 1600000 in
theorem layEntry_kt (b : Nat) (l : List UInt8) (x : En) (w : World) (hx : EnJ x) (hw : Wr w b l) (hsz : l.length ≤ 100000000000) :
    Calls Try.prog 47 #[.pointer (some ⟨b, 0, none⟩), .agg #[.int .i64 x.term, .int .i64 x.kind, .string x.text]] w fun e w' => e = .returned (.tuple #[]) ∧ Wr w' b (l ++ enBy x) ∧ Wb b w w' := by
  obtain ⟨⟨a0, a1⟩, ⟨c0, c1⟩, hs⟩ := hx
  obtain ⟨r0, r1, tx⟩ := x
  simp only at a0 a1 c0 c1 hs ⊢
  have hlt := hw.lt
  obtain ⟨w1, hw1⟩ : ∃ w1, w1 = w.alloc (.cells #[.int .i64 r0, .int .i64 r1, .string tx] 73) := ⟨_, rfl⟩
  have b1 : Below w.heap.size w w1 := by rw [hw1]; exact (Below.refl _ _).alloc (Nat.le_refl _) _
  have hA : w1.heap[w.heap.size]? = some (.cells #[.int .i64 r0, .int .i64 r1, .string tx] 73 (0, 0)) := by rw [hw1]; exact heap_alloc_new _ _
  have W1 := hid (hw.below b1)
  have B1 := hid (Wb.new (b := b) b1 (Nat.le_of_lt hlt))
  have HW1 := hid hw1
  have hIl := intB_lenM r0 ⟨a0, a1⟩
  have hIl2 := intB_lenM r1 ⟨c0, c1⟩
  clear hw hw1 b1
  go_enter Try.func47, Try.ntmps47
  go_upto_region 1 with fail
  rw [← HW1.out]
  obtain ⟨A, hAe⟩ : ∃ A, A = w.heap.size := ⟨_, rfl⟩
  rw [← hAe] at hA
  rw [← hAe]
  clear hAe HW1
  have x0 : w1.cell? ⟨A, 0, none⟩ = some (.int .i64 r0) := by rw [cell_of_row _ _ _ _ _ _ hA]; rfl
  have HA := hid hA
  clear hA
  go_wp2_with fail
  refine (int_kt b l r0 _ a0 (by omega) W1.out (by omega)).mono ?_
  rintro e w2 ⟨rfl, hw2, hb2⟩
  have W2 := hid hw2
  have A2 := hid ((hb2.kt _ _ _ _ HA.out (by decide)).trans HA.out)
  have B2 := hid (B1.out.trans hb2)
  clear hw2 hb2 W1 HA B1 x0
  have x1 : w2.cell? ⟨A, 1, none⟩ = some (.int .i64 r1) := by rw [cell_of_row _ _ _ _ _ _ A2.out]; rfl
  go_wp2_with fail
  refine (int_kt b _ r1 _ c0 (by omega) W2.out (by rw [List.length_append]; omega)).mono ?_
  rintro e w3 ⟨rfl, hw3, hb3⟩
  have W3 := hid hw3
  have A3 := hid ((hb3.kt _ _ _ _ A2.out (by decide)).trans A2.out)
  have B3 := hid (B2.out.trans hb3)
  clear hw3 hb3 x1 A2
  have x2 : w3.cell? ⟨A, 2, none⟩ = some (.string tx) := by rw [cell_of_row _ _ _ _ _ _ A3.out]; rfl
  go_wp2_with fail
  refine (text_kt b _ tx _ W3.out (by rw [List.length_append, List.length_append]; omega)).mono ?_
  rintro e w4 ⟨rfl, hw4, hb4⟩
  have W4 := hid hw4
  have B4 := hid (B3.out.trans hb4)
  clear hw4 hb4
  go_wp2
  go_end0
  refine ⟨rfl, ?_, B4.out⟩
  unfold enBy
  rw [← List.append_assoc, ← List.append_assoc]
  exact W4.out
set_option maxRecDepth 100000 in
set_option maxHeartbeats 1600000 in
theorem putE_kt (b : Nat) (l : List UInt8) (v : Value) (xs : List En) (w : World) (hw : Wr w b l) (hv : EnB b w v xs) (hx : ∀ x ∈ xs, EnJ x) (hl : l.length ≤ 20000000000) (hn : xs.length ≤ 5000) :
    Calls Try.prog 46 #[.pointer (some ⟨b, 0, none⟩), v, .func (.func 47) #[] #[]] w fun e w' =>
      e = .returned (.tuple #[]) ∧ Wr w' b (l ++ listB enBy xs) ∧ Wb b w w' := by
  have HV := hio hv
  obtain ⟨va, vc, rfl⟩ := hv.1.shape
  have hblt := hw.lt
  have HW := hio hw
  have HX := hio hx
  clear hw hx hv
  have hnl := numB_len xs.length (by omega)
  have hfn := fun w => run_eql_fn w (.func 47) #[] #[] Try.underlying107
  go_enter Try.func46, Try.ntmps46
  go_wp2_with (first
    | (go_at_call 85; refine (num_kt _ _ _ _ (by omega) (by omega) HW.out (by omega)).mono ?_; rintro e w1 ⟨rfl, hw1, hb1⟩; rw [Int.toNat_natCast] at hw1; have HW1 := hio hw1; have HB1 := hio hb1; clear hw1 hb1))
  clear hfn HW
  go_loopw [7, 21] (fun _ iv wr => ∃ i : Nat, iv = .int .i64 i ∧ i ≤ xs.length ∧ Wr wr b (l ++ numB xs.length ++ (xs.take i).flatMap enBy) ∧ Wb b w wr) (fun _ iv _ => xs.length - (intOf iv).toNat)
  case atStart => exact ⟨0, rfl, Nat.zero_le _, by simpa using HW1.out, HB1.out⟩
  case round =>
    obtain ⟨i, rfl, hin, hwr, hbr⟩ := hrel
    clear HW1 HB1
    have HWR := hio hwr
    have HBR := hio hbr
    clear hwr hbr
    by_cases hlt : (i : Int) < (xs.length : Int)
    · have hi : i < xs.length := by omega
      have HVr := HV.out.below HBR.out.bel
      obtain ⟨gd, od, rfl⟩ := HVr.1.addr (by omega)
      obtain ⟨c0, c1, c2⟩ := HVr.1.lit i hi
      have hok := HX.out xs[i] (List.getElem_mem hi)
      have HFT := hio (flat_take enBy xs i hi)
      have hfl := flat_take_lenM enBy xs i 1048608 fun x hx => enBy_len x (HX.out x hx)
      clear HVr
      obtain ⟨x, hxx⟩ : ∃ x, x = xs[i] := ⟨_, rfl⟩
      rw [← hxx] at c0 c1 c2 hok HFT
      clear hxx
      have hlen : (l ++ numB xs.length ++ (xs.take i).flatMap enBy).length ≤ 50000000000 := by
        rw [List.length_append, List.length_append]; omega
      have HLEN := hio hlen
      have HOK := hio hok
      clear hlen hfl hnl hok
      obtain ⟨w2, hw2⟩ : ∃ w2, w2 = wr.alloc (.cells #[.int .i64 x.term, .int .i64 x.kind, .string x.text] 73) := ⟨_, rfl⟩
      have b2 : Below wr.heap.size wr w2 := by rw [hw2]; exact (Below.refl _ _).alloc (Nat.le_refl _) _
      have HW2 := hio (HWR.out.below b2)
      have HB2 := hio (HBR.out.trans (Wb.new (b := b) b2 (Nat.le_of_lt HWR.out.lt)))
      have HE2 := hio hw2
      clear hw2 b2
      go_wp2_with fail
      rw [← HE2.out]
      refine (layEntry_kt b _ x _ HOK.out HW2.out (by have := HLEN.out; omega)).mono ?_
      rintro e w3 ⟨rfl, hw3, hb3⟩
      have HW3 := hio hw3
      have HB3 := hio (HB2.out.trans hb3)
      clear hw3 hb3
      go_wp2_with fail
      go_roundw
      case rel =>
        refine ⟨i + 1, by go_num, by omega, ?_, HB3.out⟩
        rw [HFT.out, ← List.append_assoc]; exact HW3.out
      case measure => simp [intOf]; omega
    · have hin' : i = xs.length := by omega
      go_wp2
      go_end0
      refine ⟨rfl, ?_, HBR.out⟩
      have := HWR.out
      rw [hin', List.take_length, List.append_assoc] at this
      exact this
def nmP (A : Nat) : Array Value := #[.pointer (some ⟨A, 1, none⟩), .pointer (some ⟨A, 2, none⟩), .pointer (some ⟨A, 3, none⟩), .pointer (some ⟨A, 4, none⟩)]
set_option maxRecDepth 100000 in
set_option maxHeartbeats 1600000 in
theorem numbers_any (A : Nat) (w : World) :
    Calls Try.prog 34 #[.pointer (some ⟨A, 0, none⟩)] w fun e w' => e = .returned (.slice (some ⟨w.heap.size, 0, none⟩) 4 4) ∧ w'.heap[w.heap.size]? = some (.cells (nmP A) 84 (0, 0)) ∧ Below w.heap.size w w' := by
  go_enter Try.func34, Try.ntmps34
  go_upto_region 1 with fail
  refine wp_region_held_drew (S := fun _ => True) (by kernel_rfl) trivial (fun hHeld => ?_)
  refine wpAnyH_take (i := 0) (v := ?hv0) rfl (by kernel_rfl) (by kernel_rfl) (by kernel_rfl) (fun _ _ _ h => h) (Or.inl ⟨by rfl, ?hy0⟩) (by assumption) ?hr0
  case hy0 => (intro w hSw; (try dsimp only at hSw); go_simp; try with_reducible rfl)
  (try simp only [Act.put, List.setIfInBounds_toArray, List.set_cons_zero, List.set_cons_succ, List.getElem_toArray, List.getElem_cons_succ, List.getElem_cons_zero])
  refine wpAnyH_take (i := 1) (v := ?hv1) rfl (by kernel_rfl) (by kernel_rfl) (by kernel_rfl) (fun _ _ _ h => h) (Or.inl ⟨by rfl, ?hy1⟩) (by assumption) ?hr1
  case hy1 => (intro w hSw; (try dsimp only at hSw); go_simp; try with_reducible rfl)
  (try simp only [Act.put, List.setIfInBounds_toArray, List.set_cons_zero, List.set_cons_succ, List.getElem_toArray, List.getElem_cons_succ, List.getElem_cons_zero])
  refine wpAnyH_take (i := 2) (v := ?hv2) rfl (by kernel_rfl) (by kernel_rfl) (by kernel_rfl) (fun _ _ _ h => h) (Or.inl ⟨by rfl, ?hy2⟩) (by assumption) ?hr2
  case hy2 => (intro w hSw; (try dsimp only at hSw); go_simp; try with_reducible rfl)
  (try simp only [Act.put, List.setIfInBounds_toArray, List.set_cons_zero, List.set_cons_succ, List.getElem_toArray, List.getElem_cons_succ, List.getElem_cons_zero])
  refine wpAnyH_take (i := 3) (v := ?hv3) rfl (by kernel_rfl) (by kernel_rfl) (by kernel_rfl) (fun _ _ _ h => h) (Or.inl ⟨by rfl, ?hy3⟩) (by assumption) ?hr3
  case hy3 => (intro w hSw; (try dsimp only at hSw); go_simp; try with_reducible rfl)
  (try simp only [Act.put, List.setIfInBounds_toArray, List.set_cons_zero, List.set_cons_succ, List.getElem_toArray, List.getElem_cons_succ, List.getElem_cons_zero])
  refine wpAnyH_take (i := 4) (v := ?hv4) rfl (by kernel_rfl) (by kernel_rfl) (by kernel_rfl) (fun _ _ _ h => h) (Or.inl ⟨by rfl, ?hy4⟩) (by assumption) ?hr4
  case hy4 => (intro w hSw; (try dsimp only at hSw); go_simp; try with_reducible rfl)
  (try simp only [Act.put, List.setIfInBounds_toArray, List.set_cons_zero, List.set_cons_succ, List.getElem_toArray, List.getElem_cons_succ, List.getElem_cons_zero])
  refine wpAnyH_take (i := 5) (v := ?hv5) rfl (by kernel_rfl) (by kernel_rfl) (by kernel_rfl) (fun _ _ _ h => h) (Or.inl ⟨by rfl, ?hy5⟩) (by assumption) ?hr5
  case hy5 => (intro w hSw; (try dsimp only at hSw); go_simp; try with_reducible rfl)
  (try simp only [Act.put, List.setIfInBounds_toArray, List.set_cons_zero, List.set_cons_succ, List.getElem_toArray, List.getElem_cons_succ, List.getElem_cons_zero])
  refine wpAnyH_take (i := 6) (v := ?hv6) rfl (by kernel_rfl) (by kernel_rfl) (by kernel_rfl) (fun _ _ _ h => h) (Or.inl ⟨by rfl, ?hy6⟩) (by assumption) ?hr6
  case hy6 => (intro w hSw; (try dsimp only at hSw); go_simp; try with_reducible rfl)
  (try simp only [Act.put, List.setIfInBounds_toArray, List.set_cons_zero, List.set_cons_succ, List.getElem_toArray, List.getElem_cons_succ, List.getElem_cons_zero])
  refine wpAnyH_take (i := 7) (v := ?hv7) rfl (by kernel_rfl) (by kernel_rfl) (by kernel_rfl) (fun _ _ _ h => h) (Or.inl ⟨by rfl, ?hy7⟩) (by assumption) ?hr7
  case hy7 => (intro w hSw; (try dsimp only at hSw); go_simp; try with_reducible rfl)
  (try simp only [Act.put, List.setIfInBounds_toArray, List.set_cons_zero, List.set_cons_succ, List.getElem_toArray, List.getElem_cons_succ, List.getElem_cons_zero])
  refine wpAnyH_take (i := 8) (v := ?hv8) rfl (by kernel_rfl) (by kernel_rfl) (by kernel_rfl) (fun _ _ _ h => h) (Or.inl ⟨by rfl, ?hy8⟩) (by assumption) ?hr8
  case hy8 => (intro w hSw; (try dsimp only at hSw); go_simp; try with_reducible rfl)
  (try simp only [Act.put, List.setIfInBounds_toArray, List.set_cons_zero, List.set_cons_succ, List.getElem_toArray, List.getElem_cons_succ, List.getElem_cons_zero])
  refine wpAnyH_take (i := 9) (v := ?hv9) rfl (by kernel_rfl) (by kernel_rfl) (by kernel_rfl) (fun _ _ _ h => h) (Or.inl ⟨by rfl, ?hy9⟩) (by assumption) ?hr9
  case hy9 => (intro w hSw; (try dsimp only at hSw); go_simp; try with_reducible rfl)
  (try simp only [Act.put, List.setIfInBounds_toArray, List.set_cons_zero, List.set_cons_succ, List.getElem_toArray, List.getElem_cons_succ, List.getElem_cons_zero])
  refine wpAnyH_take (i := 10) (v := ?hv10) rfl (by kernel_rfl) (by kernel_rfl) (by kernel_rfl) (fun _ _ _ h => h) (Or.inl ⟨by rfl, ?hy10⟩) (by assumption) ?hr10
  case hy10 => (intro w hSw; (try dsimp only at hSw); go_simp; try with_reducible rfl)
  (try simp only [Act.put, List.setIfInBounds_toArray, List.set_cons_zero, List.set_cons_succ, List.getElem_toArray, List.getElem_cons_succ, List.getElem_cons_zero])
  refine wpAnyH_take (i := 11) (v := ?hv11) rfl (by kernel_rfl) (by kernel_rfl) (by kernel_rfl) (fun _ _ _ h => h) (Or.inl ⟨by rfl, ?hy11⟩) (by assumption) ?hr11
  case hy11 => (intro w hSw; (try dsimp only at hSw); go_simp; try with_reducible rfl)
  (try simp only [Act.put, List.setIfInBounds_toArray, List.set_cons_zero, List.set_cons_succ, List.getElem_toArray, List.getElem_cons_succ, List.getElem_cons_zero])
  refine wpAnyH_take (i := 12) (v := ?hv12) rfl (by kernel_rfl) (by kernel_rfl) (by kernel_rfl) (fun _ _ _ h => h) (Or.inl ⟨by rfl, ?hy12⟩) (by assumption) ?hr12
  case hy12 => (intro w hSw; (try dsimp only at hSw); go_simp; try with_reducible rfl)
  (try simp only [Act.put, List.setIfInBounds_toArray, List.set_cons_zero, List.set_cons_succ, List.getElem_toArray, List.getElem_cons_succ, List.getElem_cons_zero])
  refine wpAnyH_take (i := 13) (v := ?hv13) rfl (by kernel_rfl) (by kernel_rfl) (by kernel_rfl) (fun _ _ _ h => h) (Or.inl ⟨by rfl, ?hy13⟩) (by assumption) ?hr13
  case hy13 => (intro w hSw; (try dsimp only at hSw); go_simp; try with_reducible rfl)
  (try simp only [Act.put, List.setIfInBounds_toArray, List.set_cons_zero, List.set_cons_succ, List.getElem_toArray, List.getElem_cons_succ, List.getElem_cons_zero])
  refine wpAnyH_ready (rs := [14]) (by kernel_rfl) (by simp) ?_
  refine AllReadyH.cons rfl (fun K hK => ?_) AllReadyH.nil
  rw [if_pos (by rfl)]
  go_simp
  refine hK.out _ _ trivial (fun hHeld => ?_)
  try clear hK K
  (try simp only [Act.put, List.setIfInBounds_toArray, List.set_cons_zero, List.set_cons_succ, List.getElem_toArray, List.getElem_cons_succ, List.getElem_cons_zero])
  refine wpAnyH_take (i := 15) (v := ?hv15) rfl (by kernel_rfl) (by kernel_rfl) (by kernel_rfl) (fun _ _ _ h => h) (Or.inl ⟨by rfl, ?hy15⟩) (by assumption) ?hr15
  case hy15 => (intro w hSw; (try dsimp only at hSw); go_simp; try with_reducible rfl)
  (try simp only [Act.put, List.setIfInBounds_toArray, List.set_cons_zero, List.set_cons_succ, List.getElem_toArray, List.getElem_cons_succ, List.getElem_cons_zero])
  refine wpAnyH_done (by kernel_rfl) ?_ _
  go_wp2_with fail
  go_ret
  exact ⟨rfl, heap_alloc_new w _, ((Below.refl _ _).alloc (Nat.le_refl _) _).drew⟩
end Go.Proofs.Ytjimneaimnjanaa
