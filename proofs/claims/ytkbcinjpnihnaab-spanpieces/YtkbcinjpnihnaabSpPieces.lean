/- What Pieces answers; the law SpanPieces, walked. Conditions: the numbers are ints. -/
import Derived.Test.YtkbcinjpnihnaabSpLaw
import Derived.Test.YtkbcinjpnihnaabSpOpen
import Derived.Maps.AppendAt
namespace Go.Proofs.Ytkbcinjpnihnaab
open Go.RowKit Go.Shelf

theorem wrap_subP (s t : Int) (h : s < t) (hs : I64 s) (ht : I64 t) : IntKind.u64.wrap (IntKind.u64.wrap t - IntKind.u64.wrap s) = t - s := by
  have hw : ∀ n : Int, IntKind.u64.wrap n = n % 18446744073709551616 := fun n => by simp [IntKind.wrap, IntKind.signed, IntKind.bits]
  rw [hw, hw, hw]
  obtain ⟨h1, h2⟩ := hs
  obtain ⟨h3, h4⟩ := ht
  omega
theorem wrap_u (m : Int) (h0 : 0 ≤ m) (h1 : m ≤ 18446744073709551615) : IntKind.u64.wrap m = m := by
  have hw : ∀ n : Int, IntKind.u64.wrap n = n % 18446744073709551616 := fun n => by simp [IntKind.wrap, IntKind.signed, IntKind.bits]
  rw [hw]; omega
set_option maxHeartbeats 800000 in
theorem sizeP_any (s t : Int) (w : World) (h : s < t) (hs : I64 s) (ht : I64 t) :
    Calls Try.prog 39 #[.agg #[.int .i64 s, .int .i64 t]] w fun e w' => e = .returned (.int .u64 (t - s)) ∧ Below w.heap.size w w' := by
  have hw := wrap_subP s t h hs ht
  have HB := hid ((Below.refl w.heap.size w).alloc (Nat.le_refl _) (.cells #[.int .i64 s, .int .i64 t] 29))
  clear h hs ht
  go_enter Try.func39, Try.ntmps39
  go_wp2_with fail
  go_ret
  exact ⟨rfl, HB.out⟩
theorem quo_u (n m : Int) (h0 : 0 ≤ n) (h1 : n ≤ 18446744073709551615) (hm : 1 ≤ m) : IntKind.u64.wrap (n.tdiv m) = n / m := by
  rw [Int.tdiv_eq_ediv_of_nonneg h0]
  have a := Int.ediv_nonneg h0 (show 0 ≤ m by omega)
  have b := Int.ediv_le_self m h0
  exact wrap_u _ a (by omega)
/-- The first i pieces of m blocks from f on. -/
def pcs0 (f m : Int) : Nat → List Sp
  | 0 => []
  | i + 1 => pcs0 f m i ++ [(f + i * m, f + (i + 1 : Nat) * m)]
theorem pcs0_len (f m : Int) (i : Nat) : (pcs0 f m i).length = i := by
  induction i with
  | zero => rfl
  | succ i ih => simp [pcs0, ih]
/-- How many whole pieces there are ahead of the last one. -/
structure PcQ (f t m : Int) (q : Nat) : Prop where
  lo : (q : Int) * m < t - f
  hi : t - f ≤ (q : Int) * m + m
theorem PcQ.of {f t m : Int} (h : f < t) (hm : 1 ≤ m) : PcQ f t m ((t - f - 1) / m).toNat := by
  have h0 : 0 ≤ (t - f - 1) / m := Int.ediv_nonneg (by omega) (by omega)
  have e := Int.mul_ediv_add_emod (t - f - 1) m
  have r1 := Int.emod_nonneg (t - f - 1) (show m ≠ 0 by omega)
  have r2 := Int.emod_lt_of_pos (t - f - 1) (show 0 < m by omega)
  have c : (((t - f - 1) / m).toNat : Int) * m = m * ((t - f - 1) / m) := by rw [Int.toNat_of_nonneg h0, Int.mul_comm]
  exact ⟨by omega, by omega⟩
theorem PcQ.at {f t m : Int} {q : Nat} (_ : PcQ f t m q) (hm : 1 ≤ m) (i : Nat) (hi : i ≤ q) : (i : Int) * m ≤ (q : Int) * m ∧ 0 ≤ (i : Int) * m ∧ (i < q → (i : Int) * m + m ≤ (q : Int) * m) := by
  refine ⟨Int.mul_le_mul_of_nonneg_right (by omega) (by omega), Int.mul_nonneg (by omega) (by omega), fun hl => ?_⟩
  have := Int.mul_le_mul_of_nonneg_right (show ((i + 1 : Nat) : Int) ≤ (q : Int) by omega) (show 0 ≤ m by omega)
  rw [Int.natCast_add, Int.add_mul] at this
  simpa using this
theorem next_mul (f m : Int) (i : Nat) : f + ((i + 1 : Nat) : Int) * m = f + (i : Int) * m + m := by
  rw [Int.natCast_add, Int.add_mul]; simp; omega
set_option maxRecDepth 100000 in
set_option maxHeartbeats 4000000 in
theorem pieces_none (f t m : Int) (w : World) (hf : I64 f) (ht : I64 t) (hm : I64 m) (h : t ≤ f ∨ m < 1 ∨ 4096 ≤ (t - f - 1) / m) :
    Calls Try.prog 19 #[.agg #[.int .i64 f, .int .i64 t], .int .i64 m] w fun e w' => e = .returned (.slice none 0 0) ∧ Below w.heap.size w w' := by
  have HB := hid ((Below.refl w.heap.size w).alloc (Nat.le_refl _) (.cells #[.int .i64 f, .int .i64 t] 29))
  by_cases h1 : t ≤ f
  · have hd : decide (t ≤ f) = true := decide_eq_true h1
    clear h h1 hf ht hm
    go_enter Try.func19, Try.ntmps19
    go_wp2_with (first | (go_at_call 30; refine (empty_any (f, t) _).mono ?_; rintro e w1 ⟨rfl, hw1⟩; simp only [hd]; have W1 := hid hw1; clear hw1))
    go_ret
    exact ⟨rfl, by rw [W1.out]; exact HB.out.alloc HB.out.size _⟩
  · have hd : decide (t ≤ f) = false := decide_eq_false h1
    by_cases h2 : m < 1
    · have hd2 : decide (m < 1) = true := decide_eq_true h2
      clear h h1 h2 hf ht hm
      go_enter Try.func19, Try.ntmps19
      go_wp2_with (first | (go_at_call 30; refine (empty_any (f, t) _).mono ?_; rintro e w1 ⟨rfl, hw1⟩; simp only [hd]; have W1 := hid hw1; clear hw1))
      go_ret
      exact ⟨rfl, by rw [W1.out]; exact HB.out.alloc HB.out.size _⟩
    · have hd2 : decide (m < 1) = false := decide_eq_false h2
      have h3 : 4096 ≤ (t - f - 1) / m := by omega
      have HS := hid (show f < t by omega)
      have HF := hid hf
      have HT := hid ht
      have H3 := hid h3
      have wm : IntKind.u64.wrap m = m := wrap_u m (by omega) (by have := hm.2; omega)
      have w1' : IntKind.u64.wrap (t - f - 1) = t - f - 1 := wrap_u _ (by omega) (by have := hf.1; have := ht.2; omega)
      have hmz : 1 ≤ m := by omega
      have wq : IntKind.u64.wrap ((t - f - 1).tdiv m) = (t - f - 1) / m := quo_u _ _ (by omega) (by have := hf.1; have := ht.2; omega) (by omega)
      obtain ⟨Q, hQ⟩ : ∃ Q, Q = (t - f - 1) / m := ⟨_, rfl⟩
      rw [← hQ] at wq h3
      have hd3 : decide (4096 ≤ Q) = true := decide_eq_true h3
      clear h h1 h2 h3 hf ht hm hQ H3
      go_enter Try.func19, Try.ntmps19
      go_wp2_with (first | (go_at_call 30; refine (empty_any (f, t) _).mono ?_; rintro e w1 ⟨rfl, hw1⟩; simp only [hd]; have W1 := hid hw1; have c0 : w1.cell? ⟨w.heap.size, 0, none⟩ = some (.int .i64 f) := (by rw [hw1, World.cell?_alloc_past _ _ _ (by simp), World.cell?_alloc_at _ _ _ _ rfl]; rfl); have c1 : w1.cell? ⟨w.heap.size, 1, none⟩ = some (.int .i64 t) := (by rw [hw1, World.cell?_alloc_past _ _ _ (by simp), World.cell?_alloc_at _ _ _ _ rfl]; rfl); clear hw1) | (go_at_call 39; refine (sizeP_any f t _ HS.out HF.out HT.out).mono ?_; rintro e w2 ⟨rfl, hb2⟩; have B2 := hid hb2; clear hb2))
      go_ret
      exact ⟨rfl, (HB.out.trans ((by rw [W1.out]; exact (Below.refl _ _).alloc HB.out.size _ : Below w.heap.size _ w1))).trans (B2.out.mono (by rw [W1.out]; simp; omega))⟩
set_option maxRecDepth 100000 in
set_option maxHeartbeats 4000000 in
theorem pieces_some (f t m : Int) (w : World) (hf : I64 f) (ht : I64 t) (hm : I64 m) (h1 : f < t) (h2 : 1 ≤ m) (q : Nat) (hq : q = ((t - f - 1) / m).toNat) (h3 : q < 4096) :
    Calls Try.prog 19 #[.agg #[.int .i64 f, .int .i64 t], .int .i64 m] w fun e w' => ∃ va vc, e = .returned (.slice va (q + 1) vc) ∧ OwnS w' w.heap.size (.slice va (q + 1) vc) (pcs0 f m q ++ [(f + q * m, t)]) ∧ Below w.heap.size w w' := by
  have HPQ : Hid (PcQ f t m q) := hid (by rw [hq]; exact PcQ.of h1 h2)
  have HB := hid ((Below.refl w.heap.size w).alloc (Nat.le_refl _) (.cells #[.int .i64 f, .int .i64 t] 29))
  have hd : decide (t ≤ f) = false := decide_eq_false (by omega)
  have hd2 : decide (m < 1) = false := decide_eq_false (by omega)
  have HS := hid h1
  have HF := hid hf
  have HT := hid ht
  have HM := hid h2
  have wm : IntKind.u64.wrap m = m := wrap_u m (by omega) (by have := hm.2; omega)
  have w1' : IntKind.u64.wrap (t - f - 1) = t - f - 1 := wrap_u _ (by omega) (by have := hf.1; have := ht.2; omega)
  have hmz : 1 ≤ m := h2
  have h0 : 0 ≤ (t - f - 1) / m := Int.ediv_nonneg (by omega) (by omega)
  have wq : IntKind.u64.wrap ((t - f - 1).tdiv m) = (q : Int) := by rw [hq, Int.toNat_of_nonneg h0]; exact quo_u _ _ (by omega) (by have := hf.1; have := ht.2; omega) (by omega)
  have hd3 : decide (4096 ≤ (q : Int)) = false := decide_eq_false (by omega)
  clear hf ht hm h1 h2 hq h0
  go_enter Try.func19, Try.ntmps19
  go_wp2_with (first | (go_at_call 30; refine (empty_any (f, t) _).mono ?_; rintro e w1 ⟨rfl, hw1⟩; simp only [hd]; have h1 : w1.heap[w.heap.size]? = some (.cells #[.int .i64 f, .int .i64 t] 29 (0, 0)) := (by rw [hw1, Below.heap_alloc _ _ _ (by simp)]; exact heap_alloc_new _ _); have b1 : Below w.heap.size w w1 := (by rw [hw1]; exact HB.out.alloc HB.out.size _); have H1 := hid h1; have B1 := hid b1; have c0 : w1.cell? ⟨w.heap.size, 0, none⟩ = some (.int .i64 f) := (by rw [cell_of_row _ _ _ _ _ _ h1]; rfl); have c1 : w1.cell? ⟨w.heap.size, 1, none⟩ = some (.int .i64 t) := (by rw [cell_of_row _ _ _ _ _ _ h1]; rfl); clear hw1 h1 b1) | (go_at_call 39; refine (sizeP_any f t _ HS.out HF.out HT.out).mono ?_; rintro e w2 ⟨rfl, hb2⟩; have B2 := hid hb2; clear hb2))
  have X2 : Hid (w2.heap[w.heap.size]? = some (.cells #[.int .i64 f, .int .i64 t] 29 (0, 0))) := hid (by rw [B2.out.block _ (lt_of_block H1.out)]; exact H1.out)
  have BB2 := hid (B1.out.trans (B2.out.mono B1.out.size))
  obtain ⟨b, hb⟩ : ∃ b, b = w.heap.size := ⟨_, rfl⟩
  rw [← hb] at X2 ⊢
  have hbl : b < w2.heap.size := lt_of_block X2.out
  have HBW : Hid (w.heap.size ≤ b) := hid (by omega)
  clear hb c0 c1 H1 B1 B2 HB w1' hmz wq hd3 hd hd2
  go_wp2_with fail
  go_loopw [5, 6] (fun pv _ wr => ∃ (i : Nat) (va : Option Addr) (vc : Nat) (p : List Sp), pv = .slice va p.length vc ∧ i ≤ q ∧ p = pcs0 f m i ∧ wr.heap[b]? = some (.cells #[.int .i64 (f + i * m), .int .i64 t] 29 (0, 0)) ∧ OwnS wr w2.heap.size (.slice va p.length vc) p ∧ w2.grownBy wr (some b)) (fun pv _ _ => q - (match pv with | .slice _ n _ => n | _ => 0))
  case atStart => exact ⟨0, none, 0, [], rfl, Nat.zero_le _, rfl, by simpa using X2.out, OwnS.nil _ _, World.grownBy.refl _ _⟩
  case round =>
    obtain ⟨i, va, vc, p, rfl, hi, hp, hx, ho, hg⟩ := hrel
    have HP := hid hp
    have HX := hid hx
    have HO := hid ho
    have HG := hid hg
    have hsz := hg.size
    have hpl : p.length = i := by rw [hp, pcs0_len]
    have HPL := hid hpl
    obtain ⟨a1, a2, a3⟩ := HPQ.out.at HM.out i hi
    have q1 := HPQ.out.lo
    have q2 := HPQ.out.hi
    have HNX := hid (next_mul f m i)
    obtain ⟨c, hc⟩ : ∃ c, c = f + (i : Int) * m := ⟨_, rfl⟩
    have hxb : wr.heap[b]? = some (.cells #[.int .i64 c, .int .i64 t] 29 (0, 0)) := by rw [hc]; exact hx
    have x0 : wr.cell? ⟨b, 0, none⟩ = some (.int .i64 c) := by rw [cell_of_row _ _ _ _ _ _ hxb]; rfl
    have x1 : wr.cell? ⟨b, 1, none⟩ = some (.int .i64 t) := by rw [cell_of_row _ _ _ _ _ _ hxb]; rfl
    have HXB := hid hxb
    have hct : c < t := by omega
    have hcI : I64 c := ⟨by have := HF.out.1; omega, by have := HT.out.2; omega⟩
    have HCT := hid hct
    have HCI := hid hcI
    have HCC := hid hc
    rw [← hc] at HNX
    by_cases hlt : i < q
    · have hcm : decide (m < t - c) = true := decide_eq_true (by have := a3 hlt; omega)
      have wcm : IntKind.i64.wrap (c + m) = c + m := IntWalk.i64_in _ ⟨by have := HF.out.1; have := HM.out; omega, by have := a3 hlt; have := HT.out.2; omega⟩
      have HNP : Hid (pcs0 f m (i + 1) = p ++ [(c, c + m)]) := hid (by rw [pcs0, HP.out, HNX.out, HCC.out])
      clear hp hx ho hg hpl a1 a2 a3 q1 q2 hc hxb hct hcI
      go_wp2_with fail
      refine (sizeP_any c t _ HCT.out HCI.out HT.out).mono ?_
      rintro e w5 ⟨rfl, hb5⟩
      have O5 := hid (HO.out.below hb5)
      have G5 := hid (HG.out.trans (grown_of_below hb5 _))
      have hx5 := (hb5.block b (by omega)).trans HXB.out
      have c0 : w5.cell? ⟨b, 0, none⟩ = some (.int .i64 c) := by rw [cell_of_row _ _ _ _ _ _ hx5]; rfl
      have HX5 := hid hx5
      have hs5 : w2.heap.size ≤ w5.heap.size := Nat.le_trans hsz hb5.size
      have OX := hid (O5.out.below ((Below.refl _ _).alloc (Nat.le_refl _) (.cells #[.int .i64 c, .int .i64 (c + m)] 29)))
      have PX := hid (sps_one (heap_alloc_new w5 (.cells #[.int .i64 c, .int .i64 (c + m)] 29)))
      have hsX : w2.heap.size ≤ (w5.alloc (.cells #[.int .i64 c, .int .i64 (c + m)] 29)).heap.size := Nat.le_trans hs5 (by simp)
      have hpl2 : p.length ≤ 4096 := by have := HPL.out; omega
      clear hb5 hx5 x0 x1
      go_wp2_with (at_builtin; refine wpl_appendS rfl (.tmp 31) (.tmp 36) rfl w2.heap.size (.slice va p.length vc) p rfl OX.out _ [(c, c + m)] rfl PX.out (by simp only [List.length_singleton]; omega) hsX ?_; intro va7 vc7 w7 ho7 hg7; have O7 := hid ho7; have B7 := hid (belowS_grown OX.out hg7 hsX); have X7 : Hid (w7.heap[b]? = some (.cells #[.int .i64 c, .int .i64 t] 29 (0, 0))) := hid (by rw [B7.out.block b hbl, Below.heap_alloc _ _ _ (by omega)]; exact HX5.out); have c7 : w7.cell? ⟨b, 0, none⟩ = some (.int .i64 c) := (by rw [cell_of_row _ _ _ _ _ _ X7.out]; rfl); have f7 : w7.frozen? ⟨b, 0, none⟩ = false := (by simp [World.frozen?, X7.out]); have K7 := hid hg7; clear ho7 hg7)
      have X8 := heap_setCell_same w7 b 0 _ _ (.int .i64 (c + m)) X7.out
      have G7 : w2.grownBy w7 (some b) := (G5.out.trans (World.grownBy_alloc w5 _ _)).andThen K7.out fun k e => by
        have := (World.ownsRow.lt OX.out k e).1; exact .inl this
      refine ⟨⟨i + 1, va7, vc7, p ++ [(c, c + m)], by simp, by omega, HNP.out.symm, ?_, ?_, G7.trans (grownBy_setCell' w7 b _)⟩, ?_⟩
      · rw [HNX.out]; exact X8
      · have := O7.out.kept (w' := w7.setCell ⟨b, 0, none⟩ (.int .i64 (c + m))) fun k hk _ => Below.heap_setCell w7 ⟨b, 0, none⟩ _ k (by simp; omega)
        simpa using this
      · have := HPL.out; simp only; omega
    · have hcm : decide (m < t - c) = false := decide_eq_false (by
        have : i = q := by omega
        subst this; omega)
      have hiq : i = q := by omega
      have HIQ := hid hiq
      clear hp hx ho hg hpl a1 a2 a3 q1 q2 hc hxb hct hcI hiq
      go_wp2_with fail
      refine (sizeP_any c t _ HCT.out HCI.out HT.out).mono ?_
      rintro e w5 ⟨rfl, hb5⟩
      have O5 := hid (HO.out.below hb5)
      have G5 := hid (HG.out.trans (grown_of_below hb5 _))
      have hx5 := (hb5.block b (by omega)).trans HXB.out
      have c0 : w5.cell? ⟨b, 0, none⟩ = some (.int .i64 c) := by rw [cell_of_row _ _ _ _ _ _ hx5]; rfl
      have c1 : w5.cell? ⟨b, 1, none⟩ = some (.int .i64 t) := by rw [cell_of_row _ _ _ _ _ _ hx5]; rfl
      have hs5 : w2.heap.size ≤ w5.heap.size := Nat.le_trans hsz hb5.size
      have OX := hid (O5.out.below ((Below.refl _ _).alloc (Nat.le_refl _) (.cells #[.int .i64 c, .int .i64 t] 29)))
      have PX := hid (sps_one (heap_alloc_new w5 (.cells #[.int .i64 c, .int .i64 t] 29)))
      have hsX : w2.heap.size ≤ (w5.alloc (.cells #[.int .i64 c, .int .i64 t] 29)).heap.size := Nat.le_trans hs5 (by simp)
      have hpl2 : p.length ≤ 4096 := by have := HPL.out; omega
      clear hb5 hx5 x0 x1
      go_wp2_with (at_builtin; refine wpl_appendS rfl (.tmp 40) (.tmp 42) rfl w2.heap.size (.slice va p.length vc) p rfl OX.out _ [(c, t)] rfl PX.out (by simp only [List.length_singleton]; omega) hsX ?_; intro va7 vc7 w7 ho7 hg7; have O7 := hid ho7; have K7 := hid hg7; clear ho7 hg7)
      go_ret
      have G7 : w2.grownBy w7 (some b) := (G5.out.trans (World.grownBy_alloc w5 _ _)).andThen K7.out fun k e => by
        have := (World.ownsRow.lt OX.out k e).1; exact .inl this
      have e1 : p.length + 1 = q + 1 := by have := HPL.out; have := HIQ.out; omega
      have e2 : p ++ [(c, t)] = pcs0 f m q ++ [(f + (q : Int) * m, t)] := by rw [HP.out, HCC.out, HIQ.out]
      have o7 := O7.out
      simp only [List.length_singleton] at o7
      rw [e1, e2] at o7
      refine ⟨va7, vc7, ?_, o7.lower BB2.out.size, BB2.out.grown G7 BB2.out.size fun k e => by cases e; exact HBW.out⟩
      show Ending.returned (.slice va7 (p.length + 1) vc7) = _
      rw [e1]
end Go.Proofs.Ytkbcinjpnihnaab
