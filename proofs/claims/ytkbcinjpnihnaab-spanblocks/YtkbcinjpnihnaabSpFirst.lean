/- What first of the laws answers: the first blocks of a row. -/
import Derived.Test.YtkbcinjpnihnaabSpBlocks
import Derived.Test.YtkbcinjpnihnaabSpLives
import Derived.Test.YtkbcinjpnihnaabSpIns
import Derived.Test.YtkbcinjpnihnaabSpCount
namespace Go.Proofs.Ytkbcinjpnihnaab
open Go.RowKit Go.Shelf
attribute [local go_sem] Oper.semAt_some

set_option maxHeartbeats 1000000 in
theorem blocks_any (v : Value) (l : List Sp) (w : World) (hv : Sps w v l) (hl : l.length ≤ 1000000000) :
    Calls Try.prog 38 #[v] w fun e w' => ∃ r u B, NormOf l r ∧ e = .returned (.func (.func 53) #[] #[.pointer (some ⟨B, 0, none⟩)]) ∧
      w'.heap[B]? = some (.cells #[u] 22 (0, 0)) ∧ OwnS w' w.heap.size u r ∧ w.heap.size ≤ B ∧ Below w.heap.size w w' := by
  have hmf : ∀ (fn : Fn) (first cap : Array Value) (w : World), (Instr.makeFunc fn first cap).run Try.prog w = .ok (.func fn first cap) w := fun _ _ _ _ => rfl
  have HV := hid hv
  obtain ⟨a0, c0, rfl⟩ := hv.shape
  clear hv
  go_enter Try.func38, Try.ntmps38
  go_wp2_with (go_at_call 14; refine (norm_any _ l _ HV.out hl).mono ?_; rintro e w1 ⟨r, va, vc, hn, rfl, ho, hb⟩; have HN := hid hn; have HO := hid ho; have HB := hid hb; clear hn ho hb)
  go_ret
  refine ⟨r, _, w1.heap.size, HN.out, rfl, heap_alloc_new _ _, HO.out.below ((Below.refl _ _).alloc (Nat.le_refl _) _), HB.out.size, HB.out.alloc HB.out.size _⟩
/-- A number more behind a row of the call's own, inside a fence. -/
theorem wpi_appendN {F : Fence} {n : Nat} {w : World} {ops : Array Oper} {rest : List Oper} {o : Oper} {a : Act} {Q : Exit → Act → World → Prop} (hgd : o.guard = none) (s x : Operand)
    (ho : o.op = .call { callee := .builtin .append, args := #[s, x], argTypes := #[33, 33] })
    (base : Nat) (v : Value) (l : List Int) (hs : a.eval s = v) (hown : OwnN w base v l) (g : Nat) (y : Int) (hx : a.eval x = .slice (some ⟨g, 0, none⟩) 1 1) (hg : w.cell? ⟨g, 0, none⟩ = some (.int .i64 y))
    (hl : l.length ≤ 1000000001) (hbase : base ≤ w.heap.size)
    (h : ∀ va vc m w', m = l ++ [y] → OwnN w' base (.slice va m.length vc) m → w.grownBy w' v.ownBlock → wpListIn F n Try.prog ops Q rest (a.put o.dst (.slice va m.length vc)) w') :
    wpListIn F n Try.prog ops Q (o :: rest) a w := by
  obtain ⟨i, hi, hz0, hz1, hz2⟩ := info_parts Try.infoI
  refine wpListIn_append_own w hgd s x 33 ho base 3 i (.int .i64 0) 1 8 Try.underlyingIs hi hz0 hz1 hz2 rfl (by decide) v l.length (ivs l) hs hown ⟨g, 0, none⟩ 1 1 [.int .i64 y] hx rfl (one_cellN hg) (one_int y) (by unfold maxLen; omega) (by omega) hbase ?_
  intro v' w' ho' hg' _
  have ho2 : OwnN w' base v' (l ++ [y]) := by
    show w'.ownsRow _ _ _ _ (l ++ [y]).length (ivs (l ++ [y]))
    rw [List.length_append]
    have e : ivs (l ++ [y]) = ivs l ++ [.int .i64 y] := by simp [ivs]
    rw [e]; exact ho'
  obtain ⟨va, vc, rfl⟩ := ho2.shape
  exact h va vc _ w' rfl ho2 hg'
/-- The row that is gathered, in its box A. -/
structure Got (w1 : World) (A : Nat) (acc : List Int) (W : World) : Prop where
  row : ∃ u, Boxed W A 33 u ∧ OwnN W w1.heap.size u acc
  size : w1.heap.size ≤ W.heap.size
  grown : w1.grownBy W (some A)
theorem OwnN.turned {X Y : World} {row : Option Nat} {base : Nat} {u : Value} {l : List Int} (h : OwnN X base u l) (hg : X.grownBy Y row) (hr : ∀ r, row = some r → ∃ o : Obj, X.heap[r]? = some o ∧ o.isCells = false) : OwnN Y base u l := by
  obtain ⟨h1, h2⟩ := h
  refine ⟨h1, ?_⟩
  rcases h2 with h2 | ⟨g, cap, cur, hv, hb, hh, r⟩
  · exact Or.inl h2
  · refine Or.inr ⟨g, cap, cur, hv, hb, ?_, r⟩
    rw [hg.block g (lt_of_block hh) (fun e => by obtain ⟨o, ho, hc⟩ := hr g e.symm; rw [hh] at ho; cases ho; cases hc)]
    exact hh
theorem Got.turned {w1 X Y : World} {A : Nat} {acc : List Int} {row : Option Nat} (h : Got w1 A acc X) (hg : X.grownBy Y row) (hr : ∀ r, row = some r → w1.heap.size ≤ r ∧ ∃ o : Obj, X.heap[r]? = some o ∧ o.isCells = false) : Got w1 A acc Y := by
  obtain ⟨⟨u, hb, hu⟩, hz, hbl⟩ := h
  have hr' : ∀ r, row = some r → ∃ o : Obj, X.heap[r]? = some o ∧ o.isCells = false := fun r e => (hr r e).2
  exact ⟨⟨u, cells_turned hb hg hr', hu.turned hg hr'⟩, Nat.le_trans hz hg.size, hbl.andThen hg fun j e => .inl (hr j e).1⟩
theorem OwnN.not_block {W : World} {base : Nat} {u : Value} {l : List Int} (h : OwnN W base u l) {k : Nat} {cs : Array Value} {t : TypeId} {fr : Nat × Nat} (hk : W.heap[k]? = some (.cells cs t fr)) (ht : t ≠ 3) : some k ≠ u.ownBlock := by
  obtain ⟨h1, h2⟩ := h
  rcases h2 with ⟨rfl, _⟩ | ⟨g, cap, cur, rfl, _, hh, -⟩
  · intro e; cases e
  · intro e
    have : k = g := by simpa [Value.ownBlock] using e
    subst this
    rw [hk] at hh
    cases hh
    exact ht rfl
theorem keepsN_grown {B : Nat} {w w1 : World} {v : Value} {l : List Int} (ho : OwnN w B v l) (hg : w.grownBy w1 v.ownBlock) : KeepsOthers w w1 := by
  refine KeepsOthers.of_grownBy hg fun j o hj hoj => ?_
  obtain ⟨h1, h2⟩ := ho
  rcases h2 with ⟨rfl, _⟩ | ⟨g, cap, cur, rfl, _, hh, -⟩
  · cases hj
  · cases hj
    rw [hh] at hoj
    cases hoj; rfl
/-- A number more is laid, and the row is put into the box. -/
theorem Got.laid {w1 W W2 : World} {A : Nat} {pre m : List Int} {v1 v2 : Value} {o : Obj} (h : Got w1 A pre W) (hbx : Boxed W A 33 v1) (hA : A < w1.heap.size) (hu : OwnN (W.alloc o) w1.heap.size v1 pre) (hg2 : (W.alloc o).grownBy W2 v1.ownBlock) (ho : OwnN W2 w1.heap.size v2 m) :
    Got w1 A m (W2.setCell ⟨A, 0, none⟩ v2) ∧ KeepsOthers W (W2.setCell ⟨A, 0, none⟩ v2) ∧ (∀ k, k < W.heap.size → k ≠ A → (k < w1.heap.size ∨ ∃ cs t fr, W.heap[k]? = some (.cells cs t fr) ∧ t ≠ 3) → (W2.setCell ⟨A, 0, none⟩ v2).heap[k]? = W.heap[k]?) := by
  obtain ⟨-, hz, hg⟩ := h
  have ba : Below W.heap.size W (W.alloc o) := (Below.refl _ _).alloc (Nat.le_refl _) _
  have hsz : W.heap.size + 1 ≤ W2.heap.size := by have := hg2.size; simpa using this
  have key : ∀ k, k < W.heap.size → k ≠ A → (k < w1.heap.size ∨ ∃ cs t fr, W.heap[k]? = some (.cells cs t fr) ∧ t ≠ 3) → (W2.setCell ⟨A, 0, none⟩ v2).heap[k]? = W.heap[k]? := by
    intro k hk hne hc
    rw [Below.heap_setCell W2 ⟨A, 0, none⟩ _ k hne, hg2.block k (by simp; omega) ?_, ba.block k hk]
    intro e
    rcases hc with hc | ⟨cs, t, fr, hc, ht⟩
    · have := (World.ownsRow.lt hu k e.symm).1; omega
    · exact hu.not_block ((ba.block k hk).trans hc) ht e
  have hbk : W2.heap[A]? = W.heap[A]? := (hg2.block A (by simp; omega) fun e => by have := (World.ownsRow.lt hu A e.symm).1; omega).trans (ba.block A (by omega))
  refine ⟨⟨⟨v2, Boxed.set _ (hbk.trans hbx), ho.kept fun k hk _ => Below.heap_setCell W2 ⟨A, 0, none⟩ _ k (by simp; omega)⟩, by simp; omega, ?_⟩, ((KeepsOthers.alloc _ _).trans (keepsN_grown hu hg2)).trans (KeepsOthers.setCell _ _ _), key⟩
  refine ⟨hg2.os.trans hg.os, hg2.tape.trans hg.tape, hg2.output.trans hg.output, by simp; omega, fun k hk hne => ?_⟩
  rw [key k (by omega) (fun e => hne (by rw [e])) (.inl hk)]
  exact hg.block k hk hne
/-- The frame of a round. -/
def AtI (Fr : Int → Act) (x : Int) (a' : Act) (_ : World) : Prop := a' = Fr x
set_option maxRecDepth 100000 in
set_option maxHeartbeats 4000000 in
theorem first_some (v : Value) (l : List Sp) (most : Nat) (w : World) (hv : Sps w v l) (hl : l.length ≤ 1000000000) (hI : ∀ x ∈ l, SpI x) (hm0 : 0 < most) (hm : most ≤ 300) :
    Calls Try.prog 18 #[v, .int .i64 most] w fun e w' => ∃ m va vc, (∀ r, PlainL r → (∀ k, InL r k ↔ InL l k) → m = (blkL r).take most) ∧ e = .returned (.slice va m.length vc) ∧ OwnN w' w.heap.size (.slice va m.length vc) m ∧ Below w.heap.size w w' := by
  have HI := hid hI
  have HV := hid ((hv.alloc (.cells #[.int .i64 most] 3)).alloc (.cells #[.slice none 0 0] 33))
  obtain ⟨a0, c0, rfl⟩ := hv.shape
  have hne0 : ((most : Int) == 0) = false := by simp; omega
  have hmi : ¬ (most : Int) = 0 := by omega
  have hnil : ∀ (B : Nat) (W : World), (binOp BinOp.eql 75 (.func (.func 53) #[] #[.pointer (some ⟨B, 0, none⟩)]) .nilFunc).run Try.prog W = .ok (.bool false) W := fun _ _ => by kernel_rfl
  clear hv hI
  refine (callsIn_wide (n := 3)).1 ?_
  refine callsIn_of_wp_marks Try.func18 rfl trivial ?_ rfl
  simp only [Try.ntmps18, List.size_toArray, List.length_cons, List.length_nil, Nat.reduceAdd, Nat.reduceSub, Array.replicate_succ, Array.replicate_zero, List.push_toArray, List.append_toArray, List.nil_append, List.cons_append]
  refine wpIn_wide.2 ?_
  go_wp2_with (go_at_call 38; refine (blocks_any _ l _ HV.out hl).mono ?_; rintro e w1 ⟨r, u, B, hn, rfl, hB, ho, hB0, hb⟩; have HN := hid hn; have HB := hid hB; have HO := hid ho; have HB0 := hid hB0; have HBB := hid hb; clear hn hB ho hB0 hb)
  obtain ⟨A, hA⟩ : ∃ A, A = w.heap.size + 1 := ⟨_, rfl⟩
  rw [← hA]
  obtain ⟨w0, hw0⟩ : ∃ w0, w0 = (w.alloc (.cells #[.int .i64 most] 3)).alloc (.cells #[.slice none 0 0] 33) := ⟨_, rfl⟩
  rw [← hw0] at HO HB0 HBB
  have hs0 : w0.heap.size = w.heap.size + 2 := by rw [hw0]; simp
  have x0 : Boxed w0 A 33 (.slice none 0 0) := by rw [hw0, hA, ← World.size_alloc w (.cells #[.int .i64 most] 3)]; exact Boxed.new _ _ _
  have m0 : w0.heap[w.heap.size]? = some (.cells #[.int .i64 most] 3 (0, 0)) := by rw [hw0, Below.heap_alloc _ _ _ (by simp)]; exact heap_alloc_new _ _
  have b0 : Below w.heap.size w w0 := by rw [hw0]; exact ((Below.refl _ _).alloc (Nat.le_refl _) _).alloc (by simp) _
  have hs1 : w0.heap.size ≤ w1.heap.size := HBB.out.size
  have x1 : Boxed w1 A 33 (.slice none 0 0) := (HBB.out.block A (by omega)).trans x0
  have m1 : w1.heap[w.heap.size]? = some (.cells #[.int .i64 most] 3 (0, 0)) := (HBB.out.block _ (by omega)).trans m0
  have B1 := hid (b0.trans (HBB.out.mono b0.size))
  have X1 := hid x1
  have M1 := hid m1
  have hBl := lt_of_block HB.out
  have hB0 := HB0.out
  obtain ⟨ua, uc, rfl⟩ := HO.out.shape
  have hsv : ∀ k, (Value.slice ua r.length uc).ownBlock = some k → w0.heap.size ≤ k ∧ k < w1.heap.size := fun k hk => World.ownsRow.lt HO.out k hk
  have hrl : r.length ≤ 1000000000 := Nat.le_trans HN.out.len hl
  have HR := hid (show ∀ m, (m = blkL r ∧ m.length < most ∨ m <+: blkL r ∧ m.length = most) → ∀ r', PlainL r' → (∀ k, InL r' k ↔ InL l k) → m = (blkL r').take most by
    intro m h r' hp' hm'
    obtain rfl : r' = r := plain_unique hp' HN.out.plain fun k => (hm' k).trans (HN.out.mem k).symm
    rcases h with ⟨rfl, h2⟩ | ⟨h1, h2⟩
    · rw [List.take_of_length_le (by omega)]
    · rw [← h2]; exact List.prefix_iff_eq_take.1 h1)
  have HNE := hid (show ∀ x ∈ r, x.1 < x.2 ∧ -9223372036854775808 ≤ x.1 ∧ x.2 ≤ 9223372036854775807 from fun x hx => ⟨HN.out.plain.1 x hx, (norm_I HN.out HI.out x hx).1.1, (norm_I HN.out HI.out x hx).2.2⟩)
  have hA1 : w.heap.size < A := by omega
  have hA2 : A < w0.heap.size := by omega
  clear hA hw0 b0 x0 m0 x1 m1 HV HI
  refine (wpIn_wide (n := 3)).1 ?_
  refine wpIn_rangeFunc_ownH (F := Fence.wide) rfl (by omega) (gf := 53) (lb := #[.pointer (some ⟨B, 0, none⟩)]) rfl trivial (enters_of Try.func53 (by kernel_rfl) rfl)
    (blocks_stops _ (by omega) B (.slice ua r.length uc) r hrl HNE.out w1 HB.out HO.out.held) KeptB.trans ?keptb (Below.refl _ _) (fun _ => rfl)
    (fun pre W => Got w1 A pre W ∧ pre.length < most)
    (fun c pre W => c = Code.exit 0 ∧ Got w1 A pre W ∧ pre.length = most) ?hI ?hIx ⟨⟨⟨_, X1.out, World.ownsRow_nil _ _ _ _⟩, Nat.le_refl _, World.grownBy.refl _ _⟩, hm0⟩
    (AtI ?Fr)
    ?hAx ?assign ?body ?done ?stop
  case keptb =>
    intro W y o o' hy ho hoc _ k hk
    by_cases hky : k = y
    · subst hky
      exfalso
      rcases hk with rfl | hk | ⟨cs, hk⟩
      · omega
      · have := hsv k hk; omega
      · rw [hk] at ho; cases ho; cases hoc
    · rcases Nat.lt_or_ge k W.heap.size with h | h
      · exact (grownBy_putObj' W y o').block k h fun e => hky (by simpa using e)
      · rw [Array.getElem?_eq_none h, Array.getElem?_eq_none (by simpa using h)]
  case hI =>
    intro s X Y row h hg hr
    exact ⟨h.1.turned hg hr, h.2⟩
  case hIx =>
    intro c s X Y row h hg hr
    exact ⟨h.1, h.2.1.turned hg hr, h.2.2⟩
  case assign =>
    intro y pre x W K h hK
    gi_wp2
    refine hK _ _ (KeepsOthers.refl _ |>.from _) (fun _ _ => rfl) h ?ax
    case ax =>
      clear hK
      show _ = _
      with_reducible rfl
  case hAx =>
    rintro x a' s X Y row h hg hr
    exact h
  case body =>
    rintro y pre x a' W hy _ ⟨hM, hpl⟩ hfr hlt'
    obtain rfl : a' = _ := hfr
    have HM := hid hM
    obtain ⟨⟨u0, hbx, hu⟩, hz, hg⟩ := hM
    obtain ⟨va1, vc1, rfl⟩ := hu.shape
    have hbc := hbx.cell
    have hAl : A < W.heap.size := by omega
    have hwl : w.heap.size < W.heap.size := by omega
    have hmW : W.heap[w.heap.size]? = some (.cells #[.int .i64 most] 3 (0, 0)) := (hg.block w.heap.size (by omega) (by simp; omega)).trans M1.out
    have ba : Below W.heap.size W (W.alloc (.cells #[.int .i64 x] 3)) := (Below.refl _ _).alloc (Nat.le_refl _) _
    have hua := hu.below ba
    have hcx : (W.alloc (.cells #[.int .i64 x] 3)).cell? ⟨W.heap.size, 0, none⟩ = some (.int .i64 x) := by rw [World.cell?_alloc_at _ _ _ _ rfl]; rfl
    have hown : ∀ k, (Value.slice va1 pre.length vc1).ownBlock = some k → w1.heap.size ≤ k := fun k hk => (World.ownsRow.lt hu k hk).1
    have HBX := hid hbx
    have HUA := hid hua
    have HCX := hid hcx
    have HMW := hid hmW
    have HG := hid hg
    have BA := hid ba
    have hneA : w.heap.size ≠ A := by omega
    clear hbx hu hg hua hcx hmW ba
    gi_wp2_with (gi_at_builtin; refine wpi_appendN rfl _ _ rfl w1.heap.size (.slice va1 pre.length vc1) pre rfl HUA.out W.heap.size x rfl HCX.out (by omega) (by simp; omega) ?_; intro va2 vc2 m W2 hm ho2 hg2; have hbk : W2.heap[A]? = W.heap[A]? := ((hg2.block A (by simp; omega) (fun e => by have := hown A e.symm; omega)).trans (BA.out.block A hAl)); have hwk : W2.heap[w.heap.size]? = W.heap[w.heap.size]? := ((hg2.block w.heap.size (by simp; omega) (fun e => by have := hown w.heap.size e.symm; omega)).trans (BA.out.block w.heap.size hwl)); have hc2 : W2.cell? ⟨A, 0, none⟩ = some (.slice va1 pre.length vc1) := (World.cell?_of_block hbk).trans hbc; have hf2 : W2.frozen? ⟨A, 0, none⟩ = false := (World.frozen?_of_block hbk).trans HBX.out.frozen; have hcm : W2.cell? ⟨w.heap.size, 0, none⟩ = some (.int .i64 most) := (by rw [cell_of_row _ _ _ _ _ _ (hwk.trans HMW.out)]; rfl); have hml : m.length = pre.length + 1 := (by rw [hm]; simp); have HM2 := hid hm; have HO2 := hid ho2; have HG2 := hid hg2; have HBK := hid hbk; clear hm ho2 hg2 hbk hwk)
    all_goals
      rename_i hq
      have hL := HM.out.laid HBX.out (by omega) HUA.out HG2.out HO2.out
      rw [hml] at hL
      rw [HM2.out] at hL
    · have hq' : pre.length + 1 = most := by simp at hq; omega
      exact ⟨hL.2.1.from _, rfl, hL.1, by simp; omega⟩
    · have hq' : pre.length + 1 ≠ most := by simp at hq; omega
      refine ⟨hL.2.1.from _, ?_, hL.1, by simp; omega⟩
      intro k hk
      by_cases hkA : k = A
      · subst hkA
        exfalso
        rcases hk with hk | hk | ⟨cs, hk⟩
        · omega
        · have := hsv k hk; omega
        · have h := HBX.out
          unfold Boxed at h
          rw [hk] at h; cases h
      · rcases hk with rfl | hk | ⟨cs, hk⟩
        · exact hL.2.2 _ (by omega) hkA (.inl hBl)
        · have := hsv k hk; exact hL.2.2 _ (by omega) hkA (.inl this.2)
        · exact hL.2.2 _ (lt_of_block hk) hkA (.inr ⟨_, _, _, hk, by decide⟩)
  case done =>
    rintro D ys W hD hys ⟨hM, hpl⟩ hK
    obtain ⟨⟨u0, hbx, hu⟩, hz, hg⟩ := hM
    obtain ⟨va1, vc1, rfl⟩ := hu.shape
    have hbc := hbx.cell
    have HM := hid (HR.out ys (.inl ⟨hys, hpl⟩))
    clear hys hpl
    gi_wp2
    go_wp2_with fail
    refine ⟨by simp, .inl ⟨_, _, rfl, run_takeDeferred hK, ?_⟩⟩
    refine ⟨_, results_tmp rfl _ _ _, ys, va1, vc1, HM.out, rfl, ?_, ?_⟩
    · exact (hu.lower (by have := B1.out.size; omega)).turned (grownBy_putObj' W D (.deferred none)) fun r e => by cases e; exact ⟨_, hK, rfl⟩
    · refine Below.trans (B1.out.grown hg B1.out.size (fun k e => by cases e; omega)) (belowK_b (w := w) (Nat.le_refl _) W D _ _ (by have := B1.out.size; omega) hK rfl rfl)
  case stop =>
    rintro D c pre W hD hpre ⟨rfl, hM, hpl⟩ hK
    obtain ⟨⟨u0, hbx, hu⟩, hz, hg⟩ := hM
    obtain ⟨va1, vc1, rfl⟩ := hu.shape
    have hbc := hbx.cell
    have HM := hid (HR.out pre (.inr ⟨hpre, hpl⟩))
    clear hpre hpl
    gi_wp2
    go_wp2_with fail
    refine ⟨by simp, .inl ⟨_, _, rfl, run_takeDeferred hK, ?_⟩⟩
    refine ⟨_, results_tmp rfl _ _ _, pre, va1, vc1, HM.out, rfl, ?_, ?_⟩
    · exact (hu.lower (by have := B1.out.size; omega)).turned (grownBy_putObj' W D (.deferred none)) fun r e => by cases e; exact ⟨_, hK, rfl⟩
    · refine Below.trans (B1.out.grown hg B1.out.size (fun k e => by cases e; omega)) (belowK_b (w := w) (Nat.le_refl _) W D _ _ (by have := B1.out.size; omega) hK rfl rfl)
set_option maxHeartbeats 1000000 in
theorem first_none (v : Value) (l : List Sp) (w : World) (hv : Sps w v l) :
    Calls Try.prog 18 #[v, .int .i64 0] w fun e w' => e = .returned (.slice none 0 0) ∧ Below w.heap.size w w' := by
  obtain ⟨a0, c0, rfl⟩ := hv.shape
  clear hv
  refine (callsIn_wide (n := 3)).1 ?_
  refine callsIn_of_wp_marks Try.func18 rfl trivial ?_ rfl
  simp only [Try.ntmps18, List.size_toArray, List.length_cons, List.length_nil, Nat.reduceAdd, Nat.reduceSub, Array.replicate_succ, Array.replicate_zero, List.push_toArray, List.append_toArray, List.nil_append, List.cons_append]
  refine wpIn_wide.2 ?_
  go_wp2_with fail
  exact ⟨_, results_tmp rfl _ _ _, rfl, ((Below.refl _ _).alloc (Nat.le_refl _) _).alloc (by simp) _⟩
theorem first_any (v : Value) (l : List Sp) (most : Nat) (w : World) (hv : Sps w v l) (hl : l.length ≤ 1000000000) (hI : ∀ x ∈ l, SpI x) (hm : most ≤ 300) :
    Calls Try.prog 18 #[v, .int .i64 most] w fun e w' => ∃ m va vc, (∀ r, PlainL r → (∀ k, InL r k ↔ InL l k) → m = (blkL r).take most) ∧ e = .returned (.slice va m.length vc) ∧ OwnN w' w.heap.size (.slice va m.length vc) m ∧ Below w.heap.size w w' := by
  rcases Nat.eq_zero_or_pos most with rfl | h
  · refine (first_none v l w hv).mono ?_
    rintro e w' ⟨rfl, hb⟩
    exact ⟨[], none, 0, fun r _ _ => by simp, rfl, World.ownsRow_nil _ _ _ _, hb⟩
  · exact first_some v l most w hv hl hI h hm
end Go.Proofs.Ytkbcinjpnihnaab
