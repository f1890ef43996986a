/- What slices.Concat of two rows of spans and Join answer. Conditions: the rows lie in memory and have at most a million spans each. -/
import Derived.Test.YtkbcinjpnihnaabSpLaw
namespace Go.Proofs.Ytkbcinjpnihnaab
open Go.RowKit Go.Shelf

theorem zero2S (n : Nat) : (Builtin.zeroCells (Value.agg #[.int .i64 0, .int .i64 0]).cells n).size = n * 2 := by rw [size_zeroCells]; rfl
set_option maxRecDepth 100000 in
/-- 'append(nil, make([]Span, n)...)' -/
theorem wpl_append_madeS {w : World} {ops : Array Oper} {rest : List Oper} {o : Oper} {a : Act} {Q : Exit → Act → World → Prop} (hgd : o.guard = none) (s x : Operand)
    (ho : o.op = .call { callee := .builtin .append, args := #[s, x], argTypes := #[22, 3] })
    (n : Nat) (hs : a.eval s = .slice none 0 0) (hx : a.eval x = .int .i64 n) (h0 : 0 < n) (hn : n ≤ 1000000000)
    (h : ∀ va vc w', OwnS w' w.heap.size (.slice va 0 vc) [] → n ≤ vc → vc ≤ 9223372036854775807 → Below w.heap.size w w' → wpList Try.prog ops Q rest (a.put o.dst (.slice va n vc)) w') :
    wpList Try.prog ops Q (o :: rest) a w := by
  obtain ⟨i, hi, hz0, hz1, hz2⟩ := info_parts Try.infoSp
  refine wpList_plain hgd fun K hK => ?_
  have hr := run_append_made (P := Try.prog) w 22 3 o.type 29 i _ Try.underlyingSs Try.underlying3 hi hz0 n h0 (by omega) (by rw [hz1]; omega) (by rw [hz2]; omega)
  have hge := grownCap_ge w n 0 29
  have hle := grownCap_le_maxLen w n 0 29 (by unfold maxLen; omega)
  unfold Oper.wp
  simp [execOp, ho, resolve, invoke, builtin, hs, hx, hr, Result.andThen]
  refine hK _ _ (h _ _ _ ?_ hge (by unfold maxLen at hle; omega) ((Below.refl _ _).drew.alloc (Nat.le_refl _) _))
  exact ⟨rfl, .inr ⟨w.heap.size, grownCap w n 0 29, _, rfl, Nat.le_refl _, heap_alloc_new w.drew _, Nat.zero_le _, hle, by rw [Array.size_append, zero2S, zero2S, ← Nat.add_mul]; congr 1; omega, by simp; rfl⟩⟩
set_option maxRecDepth 100000 in
set_option maxHeartbeats 1600000 in
theorem growSl_any (n : Nat) (w : World) (hn : n ≤ 1000000000) :
    Calls Try.prog 45 #[.slice none 0 0, .int .i64 n] w fun e w' => ∃ va vc, e = .returned (.slice va 0 vc) ∧ OwnS w' w.heap.size (.slice va 0 vc) [] ∧ Below w.heap.size w w' := by
  by_cases h0 : (0 : Int) < (n : Int)
  · have h0' : 0 < n := by omega
    go_enter Try.func45, Try.ntmps45
    go_wp2_with (at_builtin; refine wpl_append_madeS rfl _ _ rfl n rfl rfl h0' hn ?_; intro va3 vc3 w3 ho3 hg3 hl3 hb3; have O3 := hid ho3; have B3 := hid hb3; clear ho3 hb3)
    go_ret
    exact ⟨va3, vc3, rfl, O3.out, B3.out⟩
  · obtain rfl : n = 0 := by omega
    clear h0
    go_enter Try.func45, Try.ntmps45
    go_wp2_with fail
    go_ret
    exact ⟨none, 0, rfl, OwnS.nil _ _, Below.refl _ _⟩
def cat2 (a b : List Sp) : Nat → List Sp
  | 0 => []
  | 1 => a
  | _ => a ++ b
set_option linter.unusedSimpArgs false in
set_option maxRecDepth 100000 in
set_option maxHeartbeats 3200000 in
theorem concatS_any (g : Nat) (u1 u2 : Value) (a b : List Sp) (w : World) (h1 : Sps w u1 a) (h2 : Sps w u2 b) (hg : w.heap[g]? = some (.cells #[u1, u2] 22 (0, 0))) (hl : a.length + b.length ≤ 1000000000) :
    Calls Try.prog 31 #[.slice (some ⟨g, 0, none⟩) 2 2] w fun e w' => ∃ va vc, e = .returned (.slice va (a.length + b.length) vc) ∧ OwnS w' w.heap.size (.slice va (a.length + b.length) vc) (a ++ b) ∧ Below w.heap.size w w' := by
  have H1 := hid h1
  have H2 := hid h2
  obtain ⟨a1, _, c1, rfl, rfl, _⟩ := h1
  obtain ⟨a2, _, c2, rfl, rfl, _⟩ := h2
  have z0 : w.cell? ⟨g, 0, none⟩ = some (.slice a1 a.length c1) := by rw [cell_of_row _ _ _ _ _ _ hg]; rfl
  have z1 : w.cell? ⟨g, 1, none⟩ = some (.slice a2 b.length c2) := by rw [cell_of_row _ _ _ _ _ _ hg]; rfl
  clear hg
  go_enter Try.func31, Try.ntmps31
  go_wp2_with fail
  go_loopw [3, 11] (fun sv iv wr => ∃ i : Nat, i ≤ 2 ∧ iv = .int .i64 i ∧ sv = .int .i64 ((cat2 a b i).length : Nat) ∧ w = wr) (fun _ iv _ => 2 - (intOf iv).toNat)
  case atStart => exact ⟨0, by omega, rfl, rfl, rfl⟩
  case round =>
    obtain ⟨i, hi, rfl, rfl, hwr⟩ := hrel
    subst hwr
    have hi4 : i = 0 ∨ i = 1 ∨ i = 2 := by omega
    rcases hi4 with rfl | rfl | rfl
    · simp only [cat2, List.length_nil]
      go_wp2_with fail
      go_roundw
      case rel => exact ⟨1, by omega, rfl, by simp [cat2], trivial⟩
      case measure => simp [intOf]
    · simp only [cat2]
      go_wp2_with fail
      go_roundw
      case rel => exact ⟨2, by omega, rfl, by simp [cat2], trivial⟩
      case measure => simp [intOf]
    · simp only [cat2]
      go_wp2_with fail
      rw [show ((a.length : Int) + (b.length : Int)) = ((a.length + b.length : Nat) : Int) from by omega]
      refine (growSl_any (a.length + b.length) _ hl).mono ?_
      rintro e w2 ⟨va2, vc2, rfl, ho2, hb2⟩
      have O2 := hid ho2
      have B2 := hid hb2
      clear ho2 hb2
      go_wp2_with fail
      go_loopw [6, 27] (fun nv iv wt => ∃ (i : Nat) (va : Option Addr) (vc : Nat), i ≤ 2 ∧ iv = .int .i64 i ∧ nv = .slice va (cat2 a b i).length vc ∧ OwnS wt w.heap.size (.slice va (cat2 a b i).length vc) (cat2 a b i) ∧ Below w.heap.size w wt) (fun _ iv _ => 2 - (intOf iv).toNat)
      case atStart => exact ⟨0, va2, vc2, by omega, rfl, rfl, O2.out, B2.out⟩
      case round =>
        obtain ⟨i, va, vc, hi, rfl, rfl, hown, hbe⟩ := hrel
        clear O2 B2
        have hsz := hbe.size
        have y0 := cell_later hbe z0
        have y1 := cell_later hbe z1
        have BE := hid hbe
        have OW := hid hown
        clear hown hbe
        have hi4 : i = 0 ∨ i = 1 ∨ i = 2 := by omega
        rcases hi4 with rfl | rfl | rfl
        · simp only [cat2, List.length_nil] at OW ⊢
          go_wp2_with (at_builtin; (refine wpl_appendS rfl (.tmp 31) (.tmp 32) rfl w.heap.size (.slice va 0 vc) [] rfl OW.out _ a rfl (H1.out.below BE.out) (by simp; omega) hsz ?_); intro va3 vc3 w3 ho3 hg3; simp only [List.length_nil, Nat.zero_add, List.nil_append] at ho3 ⊢; have O3 := hid ho3; have B3 := hid (BE.out.trans (belowS_grown OW.out hg3 hsz)); clear ho3 hg3)
          go_roundw
          case rel => exact ⟨1, va3, vc3, by omega, rfl, rfl, O3.out, B3.out⟩
          case measure => simp [intOf]
        · simp only [cat2] at OW ⊢
          go_wp2_with (at_builtin; (refine wpl_appendS rfl (.tmp 31) (.tmp 32) rfl w.heap.size (.slice va a.length vc) a rfl OW.out _ b rfl (H2.out.below BE.out) (by omega) hsz ?_); intro va3 vc3 w3 ho3 hg3; have O3 := hid ho3; have B3 := hid (BE.out.trans (belowS_grown OW.out hg3 hsz)); clear ho3 hg3)
          go_roundw
          case rel => exact ⟨2, va3, vc3, by omega, rfl, by simp [cat2], by simpa [cat2] using O3.out, B3.out⟩
          case measure => simp [intOf]
        · simp only [cat2] at OW ⊢
          go_wp2_with fail
          go_ret
          have e : (a ++ b).length = a.length + b.length := by simp
          have h := OW.out
          rw [e] at h
          exact ⟨va, vc, by first | rfl | (rw [e]; rfl), h, BE.out⟩
set_option maxHeartbeats 800000 in
theorem join_any (u v : Value) (a b : List Sp) (w : World) (hu : Sps w u a) (hv : Sps w v b) (ha : a.length ≤ 1000000) (hb : b.length ≤ 1000000) :
    Calls Try.prog 11 #[u, v] w fun e w' => ∃ r va vc, NormOf (a ++ b) r ∧ e = .returned (.slice va r.length vc) ∧ OwnS w' w.heap.size (.slice va r.length vc) r ∧ Below w.heap.size w w' := by
  obtain ⟨ua, uc, rfl⟩ := hu.shape
  obtain ⟨va, vc, rfl⟩ := hv.shape
  have HC := hid (concatS_any w.heap.size _ _ a b (w.alloc (.cells #[.slice ua a.length uc, .slice va b.length vc] 22)) (hu.alloc _) (hv.alloc _) (heap_alloc_new _ _) (by omega))
  clear hu hv
  go_enter Try.func11, Try.ntmps11
  go_wp2_with fail
  refine HC.out.mono ?_
  rintro e w1 ⟨va1, vc1, rfl, ho1, hb1⟩
  have e1 : a.length + b.length = (a ++ b).length := by simp
  rw [e1] at ho1 ⊢
  have S1 := hid ho1.sps
  have B1 := hid (((Below.refl _ _).alloc (Nat.le_refl _) _).trans (hb1.mono (by simp)) : Below w.heap.size w w1)
  have HE := hid e1
  clear ho1 hb1 e1 HC
  obtain ⟨c, hc⟩ : ∃ c, c = a ++ b := ⟨_, rfl⟩
  rw [← hc] at S1 ⊢
  have hcl : c.length ≤ 1000000000 := by rw [hc]; simp; omega
  have HCC := hid hc
  clear hc HE
  go_wp2_with fail
  refine (norm_any _ c _ S1.out hcl).mono ?_
  rintro e w2 ⟨r, va2, vc2, hn, rfl, ho2, hb2⟩
  have N2 := hid hn
  have O2 := hid (ho2.lower B1.out.size)
  have B2 := hid (B1.out.trans (hb2.mono B1.out.size))
  clear hn ho2 hb2
  go_wp2_with fail
  go_ret
  exact ⟨r, va2, vc2, by rw [← HCC.out]; exact N2.out, rfl, O2.out, B2.out⟩
end Go.Proofs.Ytkbcinjpnihnaab
