/- exchange: new shards where others were. Conditions: they lie in memory. -/
import Derived.Test.YtnkjkaofgninnaaAtSpan2
namespace Go.Proofs.Ytnkjkaofgninnaa
open Go.RowKit Go.Maps Go.Shelf
set_option linter.unusedVariables false
set_option linter.unusedSimpArgs false

theorem wp_del {o : Oper} {a : Act} {w w' : World} {K : Act → World → Prop} {Q : Exit → Act → World → Prop} {t k : TypeId} (m x : Operand) (hop : o.op = .call { callee := .builtin .delete, args := #[m, x], argTypes := #[t, k] }) {mv key : Value} (hm : a.eval m = mv) (hx : a.eval x = key)
    (hrun : (Builtin.delete_ #[t, k] o.type #[mv, key]).run Try.prog w = .ok (.tuple #[]) w') (h : K (a.put o.dst (.tuple #[])) w') : o.wp Try.prog a w K Q := by
  unfold Oper.wp
  simp [execOp, hop, resolve, invoke, builtin, hm, hx, hrun, Result.andThen]
  exact h
def SX.or (x : SX) : OrX := ⟨⟨x.s.id, x.s.fr, x.s.to, x.s.mem⟩, x.mv⟩
theorem Tr.more {R : Nat → Prop} {w w1 w2 : World} {row : Option Nat} (h : Tr R w w1) (hg : w1.grownBy w2 row) (hr : ∀ k, row = some k → w.heap.size ≤ k ∨ R k) : Tr R w w2 :=
  ⟨hg.os.trans h.os, hg.tape.trans h.tape, hg.output.trans h.output, Nat.le_trans h.size hg.size, fun q hq hn => (hg.block q (Nat.lt_of_lt_of_le hq h.size) fun e => by
    rcases hr q e.symm with h1 | h1
    · omega
    · exact hn h1).trans (h.block q hq hn)⟩
theorem Tr.bel {R : Nat → Prop} {w w1 w2 : World} (h : Tr R w w1) (hb : Below w1.heap.size w1 w2) : Tr R w w2 := h.trans (Tr.below hb)
/-- Only the shards by their numbers have turned. -/
theorem AtM.only {w w' : World} {b wb mb n : Nat} {ov : Value} {D D' : DataW Value} {N : AtN} {W : List Pc} {X X' : List SX} (h : AtM w b wb mb n ov D N W X) (ht : Tr (fun q => q = mb) w w') (ho : w'.ownsMap Try.prog 3 RHs mb n D') (hs : SM D' X') (hx : ∀ x ∈ X', x ∈ X) : AtM w' b wb mb n ov D' N W X' := by
  have hn := h.ne
  have ht' : Tr (AtR b wb mb) w w' := ht.mono fun q hq => .inr (.inr hq)
  refine ⟨(ht.block b (lt_of_block h.box) (fun e => hn.2.1 e.symm)).trans h.box, own_tr h ht' h.opn (by decide) (by decide), ⟨?_, h.whr.can, h.whr.ints⟩, ho, hs, fun x hx' => ShM.tr h ht' (h.mem x (hx x hx'))⟩
  obtain ⟨va, vc, h1, h2⟩ := h.whr.at'
  exact ⟨va, vc, (ht.block wb (lt_of_block h1) (fun e => hn.2.2 e.symm)).trans h1, own_tr h ht' h2 (by decide) (by decide)⟩
theorem ShR.tr {w w' : World} {b wb mb n : Nat} {ov : Value} {D : DataW Value} {N : AtN} {W : List Pc} {X : List SX} (h : AtM w b wb mb n ov D N W X) (ht : Tr (AtR b wb mb) w w') {v : Value} {G : List SX} (hs : ShR w v G) : ShR w' v G := ⟨own_tr h ht hs.o (by decide) (by decide), fun x hx => ShM.tr h ht (hs.m x hx)⟩
/-- The shards whose numbers are not among some. -/
def outX (X : List SX) (ids : List Int) : List SX := X.filter fun y => decide (y.s.id ∉ ids)
theorem outX_nil (X : List SX) : outX X [] = X := by simp [outX]
theorem mem_outX {X : List SX} {ids : List Int} {y : SX} : y ∈ outX X ids ↔ y ∈ X ∧ y.s.id ∉ ids := by simp [outX]
theorem outX_snoc (X : List SX) (ids : List Int) (i : Int) : ∀ y, y ∈ outX X (ids ++ [i]) ↔ y ∈ (outX X ids).filter fun y => decide (y.s.id ≠ i) := fun y => by
  simp only [List.mem_filter, mem_outX, decide_eq_true_eq, List.mem_append, List.mem_singleton]
  constructor
  · rintro ⟨h1, h2⟩; exact ⟨⟨h1, fun h => h2 (.inl h)⟩, fun h => h2 (.inr h)⟩
  · rintro ⟨⟨h1, h2⟩, h3⟩; exact ⟨h1, fun h => h.elim h2 h3⟩
theorem own_nm {w : World} {mb n : Nat} {D : DataW Value} {B : Nat} {E : TypeId} {sz k : Nat} {v : Value} {xs : List Value} (ho : w.ownsMap Try.prog 3 RHs mb n D) (hr : w.ownsRow B E sz v k xs) : some mb ≠ v.ownBlock := fun e => by
  obtain ⟨cur, hc⟩ := own_typed hr e.symm
  obtain ⟨es, clock, hm, -⟩ := ho
  rw [hm] at hc; cases hc
/-- The new shards. -/
def nwX (nx : Int) (ml : List Int) (ps : List OrD) (mv pv : Value) : List Sp → List SX
  | [] => []
  | s :: l => ⟨⟨nx, s.1, s.2, ml, ps⟩, mv, pv⟩ :: nwX (nx + 1) ml ps mv pv l
theorem nwX_snoc (ml : List Int) (ps : List OrD) (mv pv : Value) (s : Sp) : ∀ (l : List Sp) (nx : Int), nwX nx ml ps mv pv (l ++ [s]) = nwX nx ml ps mv pv l ++ [⟨⟨nx + l.length, s.1, s.2, ml, ps⟩, mv, pv⟩]
  | [], nx => by simp [nwX]
  | t :: l, nx => by
    have := nwX_snoc ml ps mv pv s l (nx + 1)
    rw [List.cons_append, nwX, this, nwX, List.cons_append, List.length_cons, show nx + 1 + (l.length : Int) = nx + ((l.length + 1 : Nat) : Int) by omega]
theorem nwX_id (ml : List Int) (ps : List OrD) (mv pv : Value) : ∀ (l : List Sp) (nx : Int), ∀ x ∈ nwX nx ml ps mv pv l, nx ≤ x.s.id ∧ x.s.id < nx + l.length
  | [], nx, x, hx => by cases hx
  | t :: l, nx, x, hx => by
    rw [List.length_cons]
    rcases List.mem_cons.1 hx with rfl | hx
    · simp only; omega
    · have := nwX_id ml ps mv pv l (nx + 1) x hx; omega
theorem nwX_mem (ml : List Int) (ps : List OrD) (mv pv : Value) : ∀ (l : List Sp) (nx : Int), ∀ x ∈ nwX nx ml ps mv pv l, x.s.mem = ml ∧ x.s.past = ps ∧ x.mv = mv ∧ x.pv = pv
  | [], nx, x, hx => by cases hx
  | t :: l, nx, x, hx => by
    rcases List.mem_cons.1 hx with rfl | hx
    · exact ⟨rfl, rfl, rfl, rfl⟩
    · exact nwX_mem ml ps mv pv l (nx + 1) x hx
def opD (nx : Int) (j : Nat) : List Int := (List.range j).map fun i : Nat => nx + (i : Int)
theorem opD_succ (nx : Int) (j : Nat) : opD nx (j + 1) = opD nx j ++ [nx + (j : Int)] := by unfold opD; rw [List.range_succ]; simp
theorem opD_len (nx : Int) (j : Nat) : (opD nx j).length = j := by simp [opD]
/-- Pieces put one behind the other. -/
def Chs : List Pc → List Pc → List Pc → Prop
  | W, [], W' => W' = W
  | W, p :: l, W' => ∃ W1, Can W1 ∧ ChP W (p.1, p.2.1) [p] W1 ∧ Chs W1 l W'
theorem Chs.snoc {p : Pc} {W1 W' : List Pc} (hw : Can W') : ∀ (l W : List Pc), Chs W l W1 → ChP W1 (p.1, p.2.1) [p] W' → Chs W (l ++ [p]) W'
  | [], W, h, k => by
    have e : W1 = W := h
    subst e
    exact ⟨W', hw, k, rfl⟩
  | q :: l, W, ⟨W2, h0, h1, h2⟩, k => ⟨W2, h0, h1, Chs.snoc hw l W2 h2 k⟩
/-- Put together anew. -/
theorem AtM.re {wa w : World} {b wb mb n n' : Nat} {ov ov' : Value} {D D' : DataW Value} {N N' : AtN} {W W' : List Pc} {X X' : List SX} (h : AtM wa b wb mb n ov D N W X) (ht : Tr (AtR b wb mb) wa w) (h1 : w.heap[b]? = some (.cells (atC N' ov' wb mb) 64 (0, 0))) (h2 : w.ownsRow 0 3 1 ov' N'.op.length (nvs N'.op)) (h3 : MapC w wb W') (h4 : w.ownsMap Try.prog 3 RHs mb n' D') (h5 : SM D' X') (h6 : ∀ x ∈ X', ShM wa x.s x.mv x.pv) : AtM w b wb mb n' ov' D' N' W' X' :=
  ⟨h1, h2, h3, h4, h5, fun x hx => ShM.tr h ht (h6 x hx)⟩
/-- A row of numbers of one's own grows beside it. -/
theorem AtM.app {w w' : World} {b wb mb n : Nat} {ov : Value} {D : DataW Value} {N : AtN} {W : List Pc} {X : List SX} (h : AtM w b wb mb n ov D N W X) {B k : Nat} {u : Value} {xs : List Value} (hu : w.ownsRow B 3 1 u k xs) (hg : w.grownBy w' u.ownBlock) : w'.heap[b]? = some (.cells (atC N ov wb mb) 64 (0, 0)) ∧ MapC w' wb W ∧ w'.ownsMap Try.prog 3 RHs mb n D := by
  obtain ⟨va, vc, h1, h2⟩ := h.whr.at'
  exact ⟨(hg.block b (lt_of_block h.box) fun e => own_ne hu h.box (by decide) e.symm).trans h.box, ⟨⟨va, vc, (hg.block wb (lt_of_block h1) fun e => own_ne hu h1 (by decide) e.symm).trans h1, own_kept h2 fun q cs hq hh => hg.block q (lt_of_block hh) fun e => own_ne hu hh (by decide) e.symm⟩, h.whr.can, h.whr.ints⟩, h.own.kept hg (own_nm h.own hu)⟩
/-- What exchange leaves. -/
def ExP (b wb mb n : Nat) (N : AtN) (W : List Pc) (X G : List SX) (sp : List Sp) (ml : List Int) (mv : Value) (w : World) (e : Ending) (w' : World) : Prop :=
  ∃ ov' D' W' pvo, e = .returned (.tuple #[]) ∧ AtM w' b wb mb (n + sp.length) ov' D' ⟨N.bl, N.ep + 1, N.nx + sp.length, opD N.nx sp.length⟩ W' (nwX N.nx ml (G.map fun x => x.or.o) mv pvo sp ++ outX X (G.map (·.s.id))) ∧ Chs W ((nwX N.nx ml (G.map fun x => x.or.o) mv pvo sp).map SX.pc) W' ∧ Tr (AtR b wb mb) w w'
set_option maxRecDepth 100000 in
set_option maxHeartbeats 8000000 in
theorem exchange_any (b wb mb n : Nat) (ov : Value) (D : DataW Value) (N : AtN) (W : List Pc) (X G : List SX) (sp : List Sp) (ml : List Int) (pv sv mv : Value) (w : World) (h : AtM w b wb mb n ov D N W X) (hG : ShR w pv G) (hGX : ∀ x ∈ G, x ∈ X) (hG2 : G.length ≤ 2) (hXI : ∀ x ∈ X, I64 x.s.id)
    (hs : OwnS w 0 sv sp) (hm : w.ownsRow 0 3 1 mv ml.length (nvs ml)) (hop : N.op = []) (hov : ov = .slice none 0 0) (hn : n ≤ 100000) (hsp2 : sp.length ≤ 2) (hnx : 0 ≤ N.nx ∧ N.nx ≤ 1073741824) (hep : 0 ≤ N.ep ∧ N.ep ≤ 1073741824) (hlt0 : ∀ x ∈ X, x.s.id < N.nx) (hWl : W.length ≤ 100000) (hsI : ∀ s ∈ sp, -9223372036854775808 ≤ s.1 ∧ s.2 ≤ 9223372036854775807) :
    Calls Try.prog 29 #[.pointer (some ⟨b, 0, none⟩), pv, sv, mv] w (ExP b wb mb n N W X G sp ml mv w) := by
  obtain ⟨sva, svc, rfl⟩ := hs.shape
  obtain ⟨mva, mvc, rfl⟩ := own_shape hm
  obtain ⟨pva, pvc, rfl⟩ := own_shape hG.o
  have H := hid h
  have HG := hid hG
  have HGX := hid hGX
  have HXI := hid hXI
  have HS := hid hs
  have HM := hid hm
  have hG2' : (G.length : Int) ≤ 2 := by omega
  have HOP := hid hop
  have HOV := hid hov
  have HN9 := hid hn
  have HNX := hid hnx
  have HEP := hid hep
  have HLT0 := hid hlt0
  have HW9 := hid hWl
  have HSI0 := hid hsI
  have hsp2' : (sp.length : Int) ≤ 2 := by omega
  clear h hG hGX hXI hs hm hop hov hn hnx hep hlt0 hWl hsI
  go_enter Try.func29, Try.ntmps29
  go_wp2_with fail
  go_loopw [8, 10, 15] (fun lv _ iv wr => ∃ (i : Nat) (D1 : DataW Value), iv = .int .i64 i ∧ i ≤ G.length ∧ wr.ownsRow w.heap.size 52 4 lv i (orvs ((G.take i).map SX.or)) ∧ Tr (fun q => q = mb) w wr ∧ wr.ownsMap Try.prog 3 RHs mb n D1 ∧ SM D1 (outX X ((G.take i).map (·.s.id)))) (fun _ _ iv _ => G.length - (intOf iv).toNat)
  case atStart => exact ⟨0, D, rfl, Nat.zero_le _, World.ownsRow_nil _ _ _ _, Tr.refl _ _, H.out.own, by rw [List.take_zero, List.map_nil, outX_nil]; exact H.out.sm⟩
  case round =>
    obtain ⟨i, D1, rfl, hi, ho, ht, hom, hsm⟩ := hrel
    obtain ⟨la, lc, rfl⟩ := own_shape ho
    have OO := hid ho
    have TT := hid ht
    have OMR := hid hom
    have SMR := hid hsm
    clear ho ht hom hsm
    by_cases hlt : (i : Int) < (G.length : Int)
    · have hil : i < G.length := by omega
      have HT' : Hid (Tr (AtR b wb mb) w wr) := hid (TT.out.mono fun q hq => .inr (.inr hq))
      have HGR := hid (ShR.tr H.out HT'.out HG.out)
      obtain ⟨g, rfl⟩ : ∃ g, pva = some ⟨g, 0, none⟩ := own_some HG.out.o (by omega)
      obtain ⟨T, ma, mc, pa, pc, hxe⟩ := HGR.out.sl i hil
      have hRG := HGR.out.range i hil
      rw [hxe] at hRG
      unfold SX.c at hRG
      simp only at hRG
      have HMM : Hid (ShM wr T (.slice ma T.mem.length mc) (.slice pa T.past.length pc)) := hid (by have := HGR.out.m _ (List.getElem_mem hil); rw [hxe] at this; exact this)
      have HTI : Hid (I64 T.id) := hid (by have := HXI.out _ (HGX.out _ (List.getElem_mem hil)); rw [hxe] at this; exact this)
      have HTK : Hid (G.take (i + 1) = G.take i ++ [⟨T, .slice ma T.mem.length mc, .slice pa T.past.length pc⟩]) := hid (by rw [List.take_add_one, List.getElem?_eq_getElem hil, hxe]; rfl)
      clear hxe
      have hb2 : Below wr.heap.size wr (wr.alloc (.cells #[.int .i64 T.id, .int .i64 T.fr, .int .i64 T.to, .slice ma T.mem.length mc, .slice pa T.past.length pc] 46)) := (Below.refl _ _).alloc (Nat.le_refl _) _
      have hg2 := heap_alloc_new wr (.cells #[.int .i64 T.id, .int .i64 T.fr, .int .i64 T.to, .slice ma T.mem.length mc, .slice pa T.past.length pc] 46)
      have HB2 := hid hb2
      have HG2' := hid hg2
      clear hb2 hg2
      go_upto_region 4 with (refine wpl_loadM rfl _ rfl g (i * 5) (by go_simp) _ _ _ _ _ hRG ?_)
      have B2 := hid HB2.out
      have hg2 := HG2'.out
      clear HB2 HG2' hRG
      generalize wr.alloc (.cells #[.int .i64 T.id, .int .i64 T.fr, .int .i64 T.to, .slice ma T.mem.length mc, .slice pa T.past.length pc] 46) = w2 at *
      have HSB : Hid (wr.heap.size < w2.heap.size) := hid (lt_of_block hg2)
      have HSZ : Hid (w.heap.size ≤ wr.heap.size) := hid TT.out.size
      have O2 := hid (own_below OO.out B2.out)
      have T2 := hid (TT.out.bel B2.out)
      have M2 := hid (OMR.out.kept (row := none) (grown_of_below B2.out none) (by simp))
      have N2 := hid (own_below HMM.out.m B2.out)
      clear OO TT OMR HMM
      generalize wr.heap.size = Sb at *
      go_upto_region 5 with (first | (refine wpl_loadH rfl _ rfl Sb rfl _ _ _ rfl hg2 ?_) | (go_at_call 48; refine (origin_any T ma T.mem.length mc pa T.past.length pc _).mono ?_; rintro e w3 ⟨rfl, hb3⟩; have B3 := hid (hb3.alloc (Nat.le_trans hb3.size (Nat.le_refl _)) (.cells #[.int .i64 T.id, .int .i64 T.fr, .int .i64 T.to, .slice ma T.mem.length mc] 52)); have Y3 : Hid (∀ j u, (orC ⟨⟨T.id, T.fr, T.to, T.mem⟩, .slice ma T.mem.length mc⟩)[j]? = some u → (w3.alloc (.cells #[.int .i64 T.id, .int .i64 T.fr, .int .i64 T.to, .slice ma T.mem.length mc] 52)).cell? ⟨w3.heap.size, j, none⟩ = some u) := hid (fun j u hj => by rw [cell_of_row _ _ _ _ _ _ (heap_alloc_new _ _)]; unfold orC at hj; simpa using hj); clear hb3) | (at_builtin; refine wpl_app rowOr rfl _ _ rfl w.heap.size (.slice la i lc) i (orvs ((G.take i).map SX.or)) rfl (own_below O2.out B3.out) w3.heap.size 1 1 (orC ⟨⟨T.id, T.fr, T.to, T.mem⟩, .slice ma T.mem.length mc⟩) rfl rfl Y3.out (by intro u hu; simp [orC] at hu; rcases hu with rfl | rfl | rfl | rfl <;> rfl) (by omega) (by have := B3.out.size; have := HSZ.out; have := HSB.out; omega) ?_; intro va5 vc5 w5 ho5 hg5; have O5 := hid ho5; have G5 := hid hg5; clear ho5 hg5))
      have T5 : Hid (Tr (fun q => q = mb) w w5) := hid ((T2.out.bel B3.out).more G5.out fun k hk => .inl (World.ownsRow.lt O2.out k hk).1)
      have OM : Hid (w5.drew.ownsMap Try.prog 3 RHs mb n D1) := hid (((M2.out.kept (row := none) (grown_of_below B3.out none) (by simp)).kept G5.out (own_nm (M2.out.kept (row := none) (grown_of_below B3.out none) (by simp)) (own_below O2.out B3.out))).drew)
      have S5 : Hid (w5.heap[Sb]? = some (.cells #[.int .i64 T.id, .int .i64 T.fr, .int .i64 T.to, .slice ma T.mem.length mc, .slice pa T.past.length pc] 46 (0, 0))) := hid (by
        have h1 := (B3.out.block Sb (lt_of_block hg2)).trans hg2
        exact (G5.out.block Sb (lt_of_block h1) fun e => own_ne (own_below O2.out B3.out) h1 (by decide) e.symm).trans h1)
      have Z5 : Hid (w5.heap[b]? = some (.cells (atC N ov wb mb) 64 (0, 0))) := hid ((T5.out.block b (lt_of_block H.out.box) (fun e => H.out.ne.2.1 e.symm)).trans H.out.box)
      have SW : Hid (∀ Y, w5.grownBy Y (some mb) → Y.cell? ⟨b, 5, none⟩ = some (.map (some mb)) ∧ Y.cell? ⟨Sb, 0, none⟩ = some (.int .i64 T.id)) := hid fun Y hY => by
        have n1 : Sb ≠ mb := fun e => by obtain ⟨es, clock, hm, -⟩ := OM.out; have h5 := S5.out; rw [e] at h5; have hm' : w5.heap[mb]? = _ := hm; rw [hm'] at h5; cases h5
        have h1 := (hY.block b (lt_of_block Z5.out) fun e => H.out.ne.2.1 (by cases e; rfl)).trans Z5.out
        have h2 := (hY.block Sb (lt_of_block S5.out) fun e => n1 (by cases e; rfl)).trans S5.out
        exact ⟨by rw [cell_of_row _ _ _ _ _ _ h1]; rfl, by rw [cell_of_row _ _ _ _ _ _ h2]; rfl⟩
      clear hg2
      refine wp_region_held_drew (S := fun Y => Y.cell? ⟨b, 5, none⟩ = some (.map (some mb)) ∧ Y.cell? ⟨Sb, 0, none⟩ = some (.int .i64 T.id)) (by kernel_rfl) (SW.out _ ⟨rfl, rfl, rfl, Nat.le_refl _, fun _ _ _ => rfl⟩) (fun hHeld => ?_)
      refine wpAnyH_take (i := 0) (v := ?pv0) rfl (by kernel_rfl) (by kernel_rfl) (by kernel_rfl) (fun _ _ _ h => h) (Or.inl ⟨by rfl, ?py0⟩) (by assumption) ?pr0
      case py0 => (intro w hSw; (try dsimp only at hSw); go_simp; try with_reducible rfl)
      (try simp only [Act.put, putS])
      refine wpAnyH_take (i := 1) (v := ?pv1) rfl (by kernel_rfl) (by kernel_rfl) (by kernel_rfl) (fun _ _ _ h => h) (Or.inl ⟨by rfl, ?py1⟩) (by assumption) ?pr1
      case py1 => (intro w hSw; (try dsimp only at hSw); go_simp; try with_reducible rfl)
      (try simp only [Act.put, putS])
      refine wpAnyH_take (i := 2) (v := ?pv2) rfl (by kernel_rfl) (by kernel_rfl) (by kernel_rfl) (fun _ _ _ h => h) (Or.inl ⟨by rfl, ?py2⟩) (by assumption) ?pr2
      case py2 => (intro w hSw; (try dsimp only at hSw); go_simp; try with_reducible rfl)
      (try simp only [Act.put, putS])
      refine wpAnyH_take (i := 3) (v := ?pv3) rfl (by kernel_rfl) (by kernel_rfl) (by kernel_rfl) (fun _ _ _ h => h) (Or.inl ⟨by rfl, ?py3⟩) (by assumption) ?pr3
      case py3 => (intro w hSw; (try dsimp only at hSw); go_simp; try with_reducible rfl)
      (try simp only [Act.put, putS])
      refine wpAnyH_take (i := 4) (v := ?pv4) rfl (by kernel_rfl) (by kernel_rfl) (by kernel_rfl) (fun _ _ _ h => h) (Or.inl ⟨by rfl, ?py4⟩) (by assumption) ?pr4
      case py4 => (intro w hSw; (try dsimp only at hSw); go_simp; try with_reducible rfl)
      (try simp only [Act.put, putS])
      refine wpAnyH_take (i := 5) (v := ?pv5) rfl (by kernel_rfl) (by kernel_rfl) (by kernel_rfl) (fun _ _ _ h => h) (Or.inl ⟨by rfl, ?py5⟩) (by assumption) ?pr5
      case py5 => (intro w hSw; (try dsimp only at hSw); go_simp; try with_reducible rfl)
      (try simp only [Act.put, putS])
      refine wpAnyH_ready (rs := [6]) (by kernel_rfl) (by simp) ?_
      refine AllReadyH.cons rfl (fun K hK => ?_) AllReadyH.nil
      rw [if_pos (by rfl)]
      obtain ⟨w6, hrun, ho6, ht6⟩ := OM.out.drop intK Try.underlyingMs (key_of T.id HTI.out) _
      refine wp_del _ _ rfl rfl rfl hrun ?_
      have O6 := hid ho6
      have G6 : Hid (w5.grownBy w6 (some mb)) := hid ⟨ht6.grown.os, ht6.grown.tape, ht6.grown.output, ht6.grown.size, ht6.grown.block⟩
      clear hrun ho6 ht6
      refine hK.out _ _ (SW.out _ G6.out) (fun hHeld => ?_)
      try clear hK K
      (try simp only [Act.put, putS])
      refine wpAnyH_done (by kernel_rfl) ?_ _
      have HREL : Hid (w6.ownsRow w.heap.size 52 4 (.slice va5 (i + 1) vc5) (i + 1) (orvs ((G.take (i + 1)).map SX.or)) ∧ Tr (fun q => q = mb) w w6 ∧ w6.ownsMap Try.prog 3 RHs mb n (D1.del (.int .i64 T.id)) ∧ SM (D1.del (.int .i64 T.id)) (outX X ((G.take (i + 1)).map (·.s.id)))) := hid (by
        refine ⟨?_, T5.out.more G6.out (fun k hk => .inr (by cases hk; rfl)), O6.out, ?_⟩
        · rw [HTK.out, List.map_append, orvs_append]
          exact own_kept O5.out fun q cs hq hh => G6.out.block q (lt_of_block hh) fun e => by
            cases e
            obtain ⟨es, clock, hm, -⟩ := OM.out
            have hm' : w5.heap[mb]? = _ := hm
            rw [hm'] at hh; cases hh
        · rw [HTK.out, List.map_append]
          exact (SMR.out.del T.id).congr (outX_snoc X _ T.id))
      go_wp2_with fail
      go_roundw
      case rel => exact ⟨i + 1, _, by go_num, by omega, HREL.out⟩
      case measure => simp [intOf]; omega
    · have hiL : i = G.length := by omega
      subst hiL
      rw [List.take_length] at OO SMR
      have HT' : Hid (Tr (AtR b wb mb) w wr) := hid (TT.out.mono fun q hq => .inr (.inr hq))
      have HA : Hid (AtM wr b wb mb n ov D1 N W (outX X (G.map (·.s.id)))) := hid (H.out.only TT.out OMR.out SMR.out fun x hx => (mem_outX.1 hx).1)
      have HSA := hid (show OwnS wr 0 (.slice sva sp.length svc) sp from own_tr H.out HT'.out HS.out (by decide) (by decide))
      have HMA := hid (own_tr H.out HT'.out HM.out (by decide) (by decide))
      have HMG : Hid (Mems wr (G.map SX.or)) := hid fun x hx => by
        obtain ⟨y, hy, rfl⟩ := List.mem_map.1 hx
        exact ((ShR.tr H.out HT'.out HG.out).m y hy).m
      have HOO := hid (own_lower OO.out (Nat.zero_le _))
      obtain ⟨wa, hwa⟩ : ∃ wa, wa = wr := ⟨_, rfl⟩
      rw [← hwa] at HT' HA HSA HMA HMG HOO
      have HSH : Hid (∀ id fr tt Y, Tr (AtR b wb mb) wa Y → ShM Y ⟨id, fr, tt, ml, G.map fun x => x.or.o⟩ (.slice mva ml.length mvc) (.slice la G.length lc)) := hid fun id fr tt Y hY =>
        ShM.tr HA.out hY ⟨HMA.out, G.map SX.or, by simp, by rw [List.length_map]; exact HOO.out, HMG.out⟩
      rw [← hwa]
      clear OO TT OMR SMR H HG HM HS hlt hi HOO HMG hwa
      go_wp2_with fail
      go_loopw [12, 33] (fun _ iv wr => ∃ (j : Nat) (ov2 : Value) (D2 : DataW Value) (W2 : List Pc), iv = .int .i64 j ∧ j ≤ sp.length ∧ AtM wr b wb mb (n + j) ov2 D2 ⟨N.bl, N.ep, N.nx + j, opD N.nx j⟩ W2 (nwX N.nx ml (G.map fun x => x.or.o) (.slice mva ml.length mvc) (.slice la G.length lc) (sp.take j) ++ outX X (G.map (·.s.id))) ∧ wr.ownsRow wa.heap.size 3 1 ov2 j (nvs (opD N.nx j)) ∧ Chs W ((nwX N.nx ml (G.map fun x => x.or.o) (.slice mva ml.length mvc) (.slice la G.length lc) (sp.take j)).map SX.pc) W2 ∧ W2.length ≤ W.length + 3 * j ∧ Tr (AtR b wb mb) wa wr) (fun _ iv _ => sp.length - (intOf iv).toNat)
      case atStart =>
        refine ⟨0, ov, D1, W, rfl, Nat.zero_le _, ?_, by rw [HOV.out]; exact World.ownsRow_nil _ _ _ _, rfl, by omega, Tr.refl _ _⟩
        have := HA.out
        rw [show N = ⟨N.bl, N.ep, N.nx + ((0 : Nat) : Int), opD N.nx 0⟩ from by
          obtain ⟨bl, ep, nx, op⟩ := N
          have h0 : op = [] := HOP.out
          rw [h0]; simp [opD]] at this
        exact this
      case round =>
        obtain ⟨j, ov2, D2, W2, rfl, hj, hA2, hO2, hC2, hL2, hT2⟩ := hrel
        have A2 := hid hA2
        have OV2 := hid hO2
        have HCH := hid hC2
        have HWL := hid hL2
        have T2 := hid hT2
        clear hA2 hO2 hC2 hL2 hT2
        by_cases hlt : (j : Int) < (sp.length : Int)
        · have hjl : j < sp.length := by omega
          obtain ⟨va2, vc2, hov2⟩ := A2.out.shape
          simp only at hov2
          subst hov2
          replace OV2 : Hid (wr.ownsRow wa.heap.size 3 1 (.slice va2 (opD N.nx j).length vc2) (opD N.nx j).length (nvs (opD N.nx j))) := hid (by have := OV2.out; rw [opD_len] at this ⊢; exact this)
          have HSR := hid (show OwnS wr 0 (.slice sva sp.length svc) sp from own_tr HA.out T2.out HSA.out (by decide) (by decide))
          obtain ⟨gs, rfl⟩ : ∃ g, sva = some ⟨g, 0, none⟩ := own_some HSA.out (by omega)
          obtain ⟨s1, s2, hse⟩ : ∃ s1 s2, sp[j] = (s1, s2) := ⟨_, _, rfl⟩
          have hrg : wr.rangeAt gs (j * 2) [.int .i64 s1, .int .i64 s2] := own_range HSR.out (j * 2) _ fun k v hv => by
            obtain ⟨h0, h1⟩ := flat_at sp j hjl
            rw [hse] at h0 h1
            match k, hv with
            | 0, hv => rw [Nat.add_zero, h0]; exact hv
            | 1, hv => rw [h1]; exact hv
          have HSI : Hid (-9223372036854775808 ≤ s1 ∧ s2 ≤ 9223372036854775807) := hid (by have := HSI0.out _ (List.getElem_mem hjl); rw [hse] at this; exact this)
          have HTK : Hid (sp.take (j + 1) = sp.take j ++ [(s1, s2)]) := hid (by rw [List.take_add_one, List.getElem?_eq_getElem hjl, hse]; rfl)
          have HTL : Hid ((sp.take j).length = j) := hid (by rw [List.length_take]; omega)
          have HNEW : Hid (∀ y ∈ nwX N.nx ml (G.map fun x => x.or.o) (.slice mva ml.length mvc) (.slice la G.length lc) (sp.take j) ++ outX X (G.map (·.s.id)), y.s.id ≠ N.nx + j) := hid fun y hy => by
            rcases List.mem_append.1 hy with hy | hy
            · have := nwX_id _ _ _ _ _ _ y hy
              rw [HTL.out] at this
              omega
            · have := HLT0.out y (mem_outX.1 hy).1
              omega
          clear hse
          obtain ⟨dP, hdP1, hdP2⟩ := Try.rowSp
          go_upto_region 10 with (refine wpList_load_mid rfl _ _ rfl gs (j * 2) (by go_simp) [.int .i64 s1, .int .i64 s2] dP hrg hdP1 hdP2 Try.sizeSp ?_)
          have hb3 : Below wr.heap.size wr (wr.alloc (.cells #[.int .i64 s1, .int .i64 s2] 43)) := (Below.refl _ _).alloc (Nat.le_refl _) _
          have hg3 := heap_alloc_new wr (.cells #[.int .i64 s1, .int .i64 s2] 43)
          have A3 := hid (A2.out.below hb3)
          have T3 := hid (T2.out.bel hb3)
          have OV3 := hid (own_below OV2.out hb3)
          have G3 := hid hg3
          clear A2 T2 OV2 hrg hb3 hg3 HSR
          generalize wr.alloc (.cells #[.int .i64 s1, .int .i64 s2] 43) = w3 at *
          generalize wr.heap.size = P3 at *
          have c2 : w3.cell? ⟨b, 2, none⟩ = some (.int .i64 (N.nx + j)) := A3.out.cell 2
          have hrg3 : w3.rangeAt P3 0 [.int .i64 s1, .int .i64 s2] := range_of_row G3.out 0 _ fun j v hv => by rw [Nat.zero_add]; simpa using hv
          refine wp_region_held_drew (S := fun Y => Y.cell? ⟨b, 2, none⟩ = some (.int .i64 (N.nx + j)) ∧ Y.rangeAt P3 0 [.int .i64 s1, .int .i64 s2]) (by kernel_rfl) ⟨c2, hrg3⟩ (fun hHeld => ?_)
          refine wpAnyH_take (i := 0) (v := ?av0) rfl (by kernel_rfl) (by kernel_rfl) (by kernel_rfl) (fun _ _ _ h => h) (Or.inl ⟨by rfl, ?ay0⟩) (by assumption) ?ar0
          case ay0 => (intro w hSw; (try dsimp only at hSw); go_simp; try with_reducible rfl)
          (try simp only [Act.put, putS])
          refine wpAnyH_take (i := 1) (v := ?av1) rfl (by kernel_rfl) (by kernel_rfl) (by kernel_rfl) (fun _ _ _ h => h) (Or.inl ⟨by rfl, ?ay1⟩) (by assumption) ?ar1
          case ay1 => (intro w hSw; (try dsimp only at hSw); go_simp; try with_reducible rfl)
          (try simp only [Act.put, putS])
          refine wpAnyH_take (i := 2) (v := ?av2) rfl (by kernel_rfl) (by kernel_rfl) (by kernel_rfl) (fun _ _ _ h => h) (Or.inl ⟨by rfl, ?ay2⟩) (by assumption) ?ar2
          case ay2 => (intro w hSw; (try dsimp only at hSw); go_simp; try with_reducible rfl)
          (try simp only [Act.put, putS])
          refine wpAnyH_take (i := 3) (v := ?av3) rfl (by kernel_rfl) (by kernel_rfl) (by kernel_rfl) (fun _ _ _ h => h) (Or.inl ⟨by rfl, ?ay3⟩) (by assumption) ?ar3
          case ay3 => (intro w hSw; (try dsimp only at hSw); go_simp; try with_reducible rfl)
          (try simp only [Act.put, putS])
          refine wpAnyH_take (i := 4) (v := ?av4) rfl (by kernel_rfl) (by kernel_rfl) (by kernel_rfl) (fun _ _ _ h => h) (Or.inl ⟨by rfl, ?ay4⟩) (by assumption) ?ar4
          case ay4 => (intro w hSw; (try dsimp only at hSw); go_simp; try with_reducible rfl)
          (try simp only [Act.put, putS])
          refine wpAnyH_take (i := 5) (v := .agg #[.int .i64 s1, .int .i64 s2]) rfl (by kernel_rfl) (by kernel_rfl) (by kernel_rfl) (fun _ _ _ h => h) (yieldsIf_load_mid rfl _ _ rfl P3 0 rfl [.int .i64 s1, .int .i64 s2] dP (fun Y hY => hY.2) hdP1 hdP2 Try.sizeSp) (by assumption) ?_
          (try simp only [Act.put, putS])
          refine wpAnyH_take (i := 6) (v := ?bv6) rfl (by kernel_rfl) (by kernel_rfl) (by kernel_rfl) (fun _ _ _ h => h) (Or.inl ⟨by rfl, ?by6⟩) (by assumption) ?br6
          case by6 => (intro w hSw; (try dsimp only at hSw); go_simp; try with_reducible rfl)
          (try simp only [Act.put, putS])
          refine wpAnyH_take (i := 7) (v := ?bv7) rfl (by kernel_rfl) (by kernel_rfl) (by kernel_rfl) (fun _ _ _ h => h) (Or.inl ⟨by rfl, ?by7⟩) (by assumption) ?br7
          case by7 => (intro w hSw; (try dsimp only at hSw); go_simp; try with_reducible rfl)
          (try simp only [Act.put, putS])
          refine wpAnyH_take (i := 8) (v := ?bv8) rfl (by kernel_rfl) (by kernel_rfl) (by kernel_rfl) (fun _ _ _ h => h) (Or.inl ⟨by rfl, ?by8⟩) (by assumption) ?br8
          case by8 => (intro w hSw; (try dsimp only at hSw); go_simp; try with_reducible rfl)
          (try simp only [Act.put, putS])
          refine wpAnyH_ready (rs := [9]) (by kernel_rfl) (by simp) ?_
          refine AllReadyH.cons rfl (fun K hK => ?_) AllReadyH.nil
          rw [if_pos (by rfl)]
          go_wp2_with fail
          refine (keep_any b wb mb (n + j) _ D2 ⟨N.bl, N.ep, N.nx + j, opD N.nx j⟩ W2 _ ⟨N.nx + j, s1, s2, ml, G.map fun x => x.or.o⟩ (.slice mva ml.length mvc) (.slice la G.length lc) _ (A3.out.below ((Below.refl _ _).drew)) (by have := HN9.out; omega) (HSH.out _ _ _ _ (T3.out.bel ((Below.refl _ _).drew))) ⟨by show (-9223372036854775808 : Int) ≤ N.nx + j; have := HNX.out; omega, by show N.nx + (j : Int) ≤ 9223372036854775807; have := HNX.out; omega⟩ HNEW.out (by have := HWL.out; have := HW9.out; omega) HSI.out).mono ?_
          rintro e w4 ⟨rfl, W4, ha4, hc4, ht4⟩
          have A4 := hid ha4
          have C4 := hid hc4
          have T4 := hid ((T3.out.bel ((Below.refl _ _).drew)).trans ht4)
          have OV4 := hid (own_tr (A3.out.below ((Below.refl _ _).drew)) ht4 (own_below OV3.out ((Below.refl _ _).drew)) (by decide) (by decide))
          have P4 : Hid (w4.rangeAt P3 0 [.int .i64 s1, .int .i64 s2]) := hid (range_of_row ((ht4.block P3 (lt_of_block G3.out) (A3.out.nob G3.out (by decide) (by decide))).trans G3.out) 0 _ fun j v hv => by rw [Nat.zero_add]; simpa using hv)
          clear ha4 hc4 ht4
          refine hK.out _ _ ⟨A4.out.cell 2, P4.out⟩ (fun hHeld => ?_)
          try clear hK K
          (try simp only [Act.put, putS])
          refine wpAnyH_done (by kernel_rfl) ?_ _
          clear hHeld c2 hrg3
          have c2 : w4.cell? ⟨b, 2, none⟩ = some (.int .i64 (N.nx + j)) := A4.out.cell 2
          have c3 : w4.drew.cell? ⟨b, 3, none⟩ = some (.slice va2 (opD N.nx j).length vc2) := A4.out.cell 3
          have BA : Hid (Below w4.heap.size w4 (w4.drew.alloc (.cells #[.int .i64 (N.nx + j)] 3))) := hid (((Below.refl w4.heap.size w4).drew).alloc (Nat.le_refl _) _)
          have AA := hid (A4.out.below BA.out)
          have OV := hid (own_below OV4.out BA.out)
          have HY : Hid (∀ i u, ([.int .i64 (N.nx + j)] : List Value)[i]? = some u → (w4.drew.alloc (.cells #[.int .i64 (N.nx + j)] 3)).cell? ⟨w4.heap.size, i, none⟩ = some u) := hid fun i u hi => by
            have hn : (w4.drew.alloc (.cells #[.int .i64 (N.nx + j)] 3)).heap[w4.heap.size]? = _ := heap_alloc_new w4.drew _
            rw [cell_of_row _ _ _ _ _ _ hn]
            simpa using hi
          have c3b : (w4.drew.alloc (.cells #[.int .i64 (N.nx + j)] 3)).cell? ⟨b, 3, none⟩ = some (.slice va2 (opD N.nx j).length vc2) := AA.out.cell 3
          have c3c : ((w4.alloc (.cells #[.int .i64 (N.nx + j)] 3)).drew).cell? ⟨b, 3, none⟩ = some (.slice va2 (opD N.nx j).length vc2) := c3b
          clear A3 T3 OV3 G3 P4 OV4
          go_upto_region 11 with fail
          refine wp_region_held_drew (S := fun Y => Y.cell? ⟨b, 2, none⟩ = some (.int .i64 (N.nx + j))) (by kernel_rfl) c2 (fun hHeld => ?_)
          refine wpAnyH_take (i := 0) (v := ?cv0) rfl (by kernel_rfl) (by kernel_rfl) (by kernel_rfl) (fun _ _ _ h => h) (Or.inl ⟨by rfl, ?cy0⟩) (by assumption) ?cr0
          case cy0 => (intro w hSw; (try dsimp only at hSw); go_simp; try with_reducible rfl)
          (try simp only [Act.put, putS])
          refine wpAnyH_take (i := 1) (v := ?cv1) rfl (by kernel_rfl) (by kernel_rfl) (by kernel_rfl) (fun _ _ _ h => h) (Or.inl ⟨by rfl, ?cy1⟩) (by assumption) ?cr1
          case cy1 => (intro w hSw; (try dsimp only at hSw); go_simp; try with_reducible rfl)
          (try simp only [Act.put, putS])
          refine wpAnyH_take (i := 2) (v := ?cv2) rfl (by kernel_rfl) (by kernel_rfl) (by kernel_rfl) (fun _ _ _ h => h) (Or.inl ⟨by rfl, ?cy2⟩) (by assumption) ?cr2
          case cy2 => (intro w hSw; (try dsimp only at hSw); go_simp; try with_reducible rfl)
          (try simp only [Act.put, putS])
          refine wpAnyH_take (i := 3) (v := ?cv3) rfl (by kernel_rfl) (by kernel_rfl) (by kernel_rfl) (fun _ _ _ h => h) (Or.inl ⟨by rfl, ?cy3⟩) (by assumption) ?cr3
          case cy3 => (intro w hSw; (try dsimp only at hSw); go_simp; try with_reducible rfl)
          (try simp only [Act.put, putS])
          refine wpAnyH_take (i := 5) (v := ?cv5) rfl (by kernel_rfl) (by kernel_rfl) (by kernel_rfl) (fun _ _ _ h => h) (Or.inl ⟨by rfl, ?cy5⟩) (by assumption) ?cr5
          case cy5 => (intro w hSw; (try dsimp only at hSw); go_simp; try with_reducible rfl)
          (try simp only [Act.put, putS])
          refine wpAnyH_take (i := 6) (v := ?cv6) rfl (by kernel_rfl) (by kernel_rfl) (by kernel_rfl) (fun _ _ _ h => h) (Or.inl ⟨by rfl, ?cy6⟩) (by assumption) ?cr6
          case cy6 => (intro w hSw; (try dsimp only at hSw); go_simp; try with_reducible rfl)
          (try simp only [Act.put, putS])
          refine wpAnyH_take (i := 7) (v := ?cv7) rfl (by kernel_rfl) (by kernel_rfl) (by kernel_rfl) (fun _ _ _ h => h) (Or.inl ⟨by rfl, ?cy7⟩) (by assumption) ?cr7
          case cy7 => (intro w hSw; (try dsimp only at hSw); go_simp; try with_reducible rfl)
          (try simp only [Act.put, putS])
          refine wpAnyH_take (i := 8) (v := ?cv8) rfl (by kernel_rfl) (by kernel_rfl) (by kernel_rfl) (fun _ _ _ h => h) (Or.inl ⟨by rfl, ?cy8⟩) (by assumption) ?cr8
          case cy8 => (intro w hSw; (try dsimp only at hSw); go_simp; try with_reducible rfl)
          (try simp only [Act.put, putS])
          refine wpAnyH_ready (rs := [4, 9]) (by kernel_rfl) (by simp) ?_
          refine AllReadyH.cons rfl (fun K hK => ?_) (AllReadyH.cons rfl (fun K hK => ?_) AllReadyH.nil)
          · skip
            rw [if_pos (by rfl)]
            go_simp
            refine hK.out _ _ hHeld (fun hHeld => ?_)
            clear hK K
            (try simp only [Act.put, putS])
            refine wpAnyH_ready (rs := [9]) (by kernel_rfl) (by simp) ?_
            refine AllReadyH.cons rfl (fun K hK => ?_) AllReadyH.nil
            rw [if_pos (by rfl)]
            go_simp
            refine hK.out _ _ (cell_later (((Below.refl w4.heap.size w4).drew).alloc (Nat.le_refl _) _) c2) (fun hHeld => ?_)
            clear hK K
            (try simp only [Act.put, putS])
            clear c3 c3b c3c
            refine wpAnyH_ready (rs := [10]) (by kernel_rfl) (by simp) ?_
            refine AllReadyH.cons rfl (fun K hK => ?_) AllReadyH.nil
            rw [if_pos (by rfl)]
            refine wp_app rowNm _ _ rfl wa.heap.size (.slice va2 (opD N.nx j).length vc2) (opD N.nx j).length (nvs (opD N.nx j)) rfl OV.out w4.heap.size 1 1 [.int .i64 (N.nx + j)] rfl rfl HY.out (by simp [Value.oneCell']) (by rw [opD_len]; omega) (Nat.le_trans T4.out.size BA.out.size) ?_
            intro va5 vc5 w5 ho5 hg5
            obtain ⟨p1, p2, p3⟩ := AA.out.app OV.out hg5
            have tr5 : Tr (AtR b wb mb) wa w5 := (T4.out.bel BA.out).more hg5 fun k hk => .inl (World.ownsRow.lt OV.out k hk).1
            refine hK.out _ _ (by rw [cell_of_row _ _ _ _ _ _ p1]; rfl) (fun hHeld => ?_)
            clear hK K
            (try simp only [Act.put, putS])
            refine wpAnyH_take (i := 11) (v := ?dv11) rfl (by kernel_rfl) (by kernel_rfl) (by kernel_rfl) (fun _ _ _ h => h) (Or.inl ⟨by rfl, ?dy11⟩) (by assumption) ?dr11
            case dy11 => (intro w hSw; (try dsimp only at hSw); go_simp; try with_reducible rfl)
            (try simp only [Act.put, putS])
            refine wpAnyH_take (i := 12) (v := ?dv12) rfl (by kernel_rfl) (by kernel_rfl) (by kernel_rfl) (fun _ _ _ h => h) (Or.inl ⟨by rfl, ?dy12⟩) (by assumption) ?dr12
            case dy12 => (intro w hSw; (try dsimp only at hSw); go_simp; try with_reducible rfl)
            (try simp only [Act.put, putS])
            have c35 : w5.cell? ⟨b, 3, none⟩ = some (.slice va2 (opD N.nx j).length vc2) := by rw [cell_of_row _ _ _ _ _ _ p1]; rfl
            have f35 : w5.frozen? ⟨b, 3, none⟩ = false := frozen_of_row _ _ _ _ _ p1
            refine wpAnyH_ready (rs := [13]) (by kernel_rfl) (by simp) ?_
            refine AllReadyH.cons rfl (fun K hK => ?_) AllReadyH.nil
            rw [if_pos (by rfl)]
            go_simp
            have b6 : (w5.setCell ⟨b, 3, none⟩ (.slice va5 ((opD N.nx j).length + 1) vc5)).heap[b]? = some (.cells (atC ⟨N.bl, N.ep, N.nx + j, opD N.nx (j + 1)⟩ (.slice va5 ((opD N.nx j).length + 1) vc5) wb mb) 64 (0, 0)) := heap_setCell_same _ _ _ _ _ _ p1
            have tr6 : Tr (AtR b wb mb) wa (w5.setCell ⟨b, 3, none⟩ (.slice va5 ((opD N.nx j).length + 1) vc5)) := tr5.trans (Tr.set (.inl rfl))
            have o6 : (w5.setCell ⟨b, 3, none⟩ (.slice va5 ((opD N.nx j).length + 1) vc5)).ownsRow wa.heap.size 3 1 (.slice va5 ((opD N.nx j).length + 1) vc5) ((opD N.nx j).length + 1) (nvs (opD N.nx (j + 1))) := by
              have := own_set (i := 3) (u := .slice va5 ((opD N.nx j).length + 1) vc5) ho5 p1 (by decide)
              rw [opD_succ]
              simpa [nvs] using this
            have m6 : MapC (w5.setCell ⟨b, 3, none⟩ (.slice va5 ((opD N.nx j).length + 1) vc5)) wb W4 := by
              obtain ⟨ya, yc, h1, h2⟩ := p2.at'
              exact ⟨⟨ya, yc, (Below.heap_setCell _ _ _ _ A4.out.ne.1).trans h1, own_set h2 p1 (by decide)⟩, p2.can, p2.ints⟩
            have n6 := p3.setCell (a := ⟨b, 3, none⟩) A4.out.ne.2.1 (.slice va5 ((opD N.nx j).length + 1) vc5)
            refine hK.out _ _ (by rw [cell_of_row _ _ _ _ _ _ b6]; rfl) (fun hHeld => ?_)
            clear hK K
            (try simp only [Act.put, putS])
            refine wpAnyH_done (by kernel_rfl) ?_ _
            generalize w5.setCell ⟨b, 3, none⟩ (.slice va5 ((opD N.nx j).length + 1) vc5) = w6 at b6 tr6 o6 m6 n6 ⊢
            have B6 := hid b6
            have TR6 := hid tr6
            have O6 := hid o6
            have M6 := hid m6
            have N6 := hid n6
            have k2 : w6.cell? ⟨b, 2, none⟩ = some (.int .i64 (N.nx + j)) := by rw [cell_of_row _ _ _ _ _ _ b6]; rfl
            have kf : w6.frozen? ⟨b, 2, none⟩ = false := frozen_of_row _ _ _ _ _ b6
            clear b6 tr6 o6 m6 n6 hHeld c35 f35 p1 p2 p3 tr5 ho5 hg5
            have hwn : IntKind.i64.wrap (N.nx + j + 1) = N.nx + ((j + 1 : Nat) : Int) := by rw [IntWalk.i64_in _ ⟨by have := HNX.out; omega, by have := HNX.out; omega⟩]; omega
            have HREL : Hid (AtM (w6.setCell ⟨b, 2, none⟩ (.int .i64 (N.nx + ((j + 1 : Nat) : Int)))) b wb mb (n + (j + 1)) (.slice va5 ((opD N.nx j).length + 1) vc5) (D2.put (.int .i64 (N.nx + j)) (.held (shV ⟨N.nx + j, s1, s2, ml, G.map fun x => x.or.o⟩ (.slice mva ml.length mvc) (.slice la G.length lc)))) ⟨N.bl, N.ep, N.nx + ((j + 1 : Nat) : Int), opD N.nx (j + 1)⟩ W4 (nwX N.nx ml (G.map fun x => x.or.o) (.slice mva ml.length mvc) (.slice la G.length lc) (sp.take (j + 1)) ++ outX X (G.map (·.s.id))) ∧ (w6.setCell ⟨b, 2, none⟩ (.int .i64 (N.nx + ((j + 1 : Nat) : Int)))).ownsRow wa.heap.size 3 1 (.slice va5 ((opD N.nx j).length + 1) vc5) (j + 1) (nvs (opD N.nx (j + 1))) ∧ Chs W ((nwX N.nx ml (G.map fun x => x.or.o) (.slice mva ml.length mvc) (.slice la G.length lc) (sp.take (j + 1))).map SX.pc) W4 ∧ W4.length ≤ W.length + 3 * (j + 1) ∧ Tr (AtR b wb mb) wa (w6.setCell ⟨b, 2, none⟩ (.int .i64 (N.nx + ((j + 1 : Nat) : Int))))) := hid (by
              have hX : ∀ x, x ∈ nwX N.nx ml (G.map fun x => x.or.o) (.slice mva ml.length mvc) (.slice la G.length lc) (sp.take (j + 1)) ++ outX X (G.map (·.s.id)) ↔ x ∈ (⟨⟨N.nx + j, s1, s2, ml, G.map fun x => x.or.o⟩, .slice mva ml.length mvc, .slice la G.length lc⟩ : SX) :: (nwX N.nx ml (G.map fun x => x.or.o) (.slice mva ml.length mvc) (.slice la G.length lc) (sp.take j) ++ outX X (G.map (·.s.id))) := fun x => by
                rw [HTK.out, nwX_snoc, HTL.out]
                simp only [List.mem_append, List.mem_cons, List.not_mem_nil, or_false]
                constructor
                · rintro ((h | h) | h)
                  · exact .inr (.inl h)
                  · exact .inl h
                  · exact .inr (.inr h)
                · rintro (h | h | h)
                  · exact .inl (.inr h)
                  · exact .inl (.inl h)
                  · exact .inr h
              have hl1 : (opD N.nx j).length + 1 = j + 1 := by rw [opD_len]
              refine ⟨HA.out.re (TR6.out.trans (Tr.set (.inl rfl))) (heap_setCell_same _ _ _ _ _ _ B6.out) ?_ ?_ ?_ (A4.out.sm.congr hX) ?_, ?_, ?_, ?_, TR6.out.trans (Tr.set (.inl rfl))⟩
              · have := own_set (i := 2) (u := .int .i64 (N.nx + ((j + 1 : Nat) : Int))) O6.out B6.out (by decide)
                rw [show (opD N.nx (j + 1)).length = (opD N.nx j).length + 1 by rw [opD_len, opD_len]]
                exact own_lower this (Nat.zero_le _)
              · obtain ⟨ya, yc, h1, h2⟩ := M6.out.at'
                exact ⟨⟨ya, yc, (Below.heap_setCell _ _ _ _ A4.out.ne.1).trans h1, own_set h2 B6.out (by decide)⟩, M6.out.can, M6.out.ints⟩
              · have := N6.out.setCell (a := ⟨b, 2, none⟩) A4.out.ne.2.1 (.int .i64 (N.nx + ((j + 1 : Nat) : Int)))
                exact this
              · intro x hx
                rcases List.mem_append.1 hx with hx | hx
                · obtain ⟨e1, e2, e3, e4⟩ := nwX_mem _ _ _ _ _ _ x hx
                  have := HSH.out x.s.id x.s.fr x.s.to wa (Tr.refl _ _)
                  refine ⟨by rw [e1, e3]; exact this.m, ?_⟩
                  obtain ⟨L, h1, h2, h3⟩ := this.p
                  exact ⟨L, by rw [e2]; exact h1, by rw [e4]; exact h2, h3⟩
                · exact HA.out.mem x hx
              · have := own_set (i := 2) (u := .int .i64 (N.nx + ((j + 1 : Nat) : Int))) O6.out B6.out (by decide)
                rw [hl1] at this ⊢
                exact this
              · rw [HTK.out, nwX_snoc, List.map_append, HTL.out]
                exact Chs.snoc A4.out.whr.can _ _ HCH.out C4.out
              · have := C4.out.1
                have := HWL.out
                omega)
            go_wp2_with fail
            rw [show N.nx + ((j : Int) + 1) = N.nx + ((j + 1 : Nat) : Int) by omega]
            generalize w6.setCell ⟨b, 2, none⟩ (.int .i64 (N.nx + ((j + 1 : Nat) : Int))) = w7 at *
            go_roundw
            case rel => exact ⟨j + 1, _, _, _, by go_num, by omega, HREL.out⟩
            case measure => simp [intOf]; omega
          · skip
            rw [if_pos (by rfl)]
            go_simp
            refine hK.out _ _ (cell_later (((Below.refl w4.heap.size w4).drew).alloc (Nat.le_refl _) _) c2) (fun hHeld => ?_)
            clear hK K
            (try simp only [Act.put, putS])
            refine wpAnyH_ready (rs := [4]) (by kernel_rfl) (by simp) ?_
            refine AllReadyH.cons rfl (fun K hK => ?_) AllReadyH.nil
            rw [if_pos (by rfl)]
            go_simp
            refine hK.out _ _ hHeld (fun hHeld => ?_)
            clear hK K
            (try simp only [Act.put, putS])
            clear c3 c3b c3c
            refine wpAnyH_ready (rs := [10]) (by kernel_rfl) (by simp) ?_
            refine AllReadyH.cons rfl (fun K hK => ?_) AllReadyH.nil
            rw [if_pos (by rfl)]
            refine wp_app rowNm _ _ rfl wa.heap.size (.slice va2 (opD N.nx j).length vc2) (opD N.nx j).length (nvs (opD N.nx j)) rfl OV.out w4.heap.size 1 1 [.int .i64 (N.nx + j)] rfl rfl HY.out (by simp [Value.oneCell']) (by rw [opD_len]; omega) (Nat.le_trans T4.out.size BA.out.size) ?_
            intro va5 vc5 w5 ho5 hg5
            obtain ⟨p1, p2, p3⟩ := AA.out.app OV.out hg5
            have tr5 : Tr (AtR b wb mb) wa w5 := (T4.out.bel BA.out).more hg5 fun k hk => .inl (World.ownsRow.lt OV.out k hk).1
            refine hK.out _ _ (by rw [cell_of_row _ _ _ _ _ _ p1]; rfl) (fun hHeld => ?_)
            clear hK K
            (try simp only [Act.put, putS])
            refine wpAnyH_take (i := 11) (v := ?fv11) rfl (by kernel_rfl) (by kernel_rfl) (by kernel_rfl) (fun _ _ _ h => h) (Or.inl ⟨by rfl, ?fy11⟩) (by assumption) ?fr11
            case fy11 => (intro w hSw; (try dsimp only at hSw); go_simp; try with_reducible rfl)
            (try simp only [Act.put, putS])
            refine wpAnyH_take (i := 12) (v := ?fv12) rfl (by kernel_rfl) (by kernel_rfl) (by kernel_rfl) (fun _ _ _ h => h) (Or.inl ⟨by rfl, ?fy12⟩) (by assumption) ?fr12
            case fy12 => (intro w hSw; (try dsimp only at hSw); go_simp; try with_reducible rfl)
            (try simp only [Act.put, putS])
            have c35 : w5.cell? ⟨b, 3, none⟩ = some (.slice va2 (opD N.nx j).length vc2) := by rw [cell_of_row _ _ _ _ _ _ p1]; rfl
            have f35 : w5.frozen? ⟨b, 3, none⟩ = false := frozen_of_row _ _ _ _ _ p1
            refine wpAnyH_ready (rs := [13]) (by kernel_rfl) (by simp) ?_
            refine AllReadyH.cons rfl (fun K hK => ?_) AllReadyH.nil
            rw [if_pos (by rfl)]
            go_simp
            have b6 : (w5.setCell ⟨b, 3, none⟩ (.slice va5 ((opD N.nx j).length + 1) vc5)).heap[b]? = some (.cells (atC ⟨N.bl, N.ep, N.nx + j, opD N.nx (j + 1)⟩ (.slice va5 ((opD N.nx j).length + 1) vc5) wb mb) 64 (0, 0)) := heap_setCell_same _ _ _ _ _ _ p1
            have tr6 : Tr (AtR b wb mb) wa (w5.setCell ⟨b, 3, none⟩ (.slice va5 ((opD N.nx j).length + 1) vc5)) := tr5.trans (Tr.set (.inl rfl))
            have o6 : (w5.setCell ⟨b, 3, none⟩ (.slice va5 ((opD N.nx j).length + 1) vc5)).ownsRow wa.heap.size 3 1 (.slice va5 ((opD N.nx j).length + 1) vc5) ((opD N.nx j).length + 1) (nvs (opD N.nx (j + 1))) := by
              have := own_set (i := 3) (u := .slice va5 ((opD N.nx j).length + 1) vc5) ho5 p1 (by decide)
              rw [opD_succ]
              simpa [nvs] using this
            have m6 : MapC (w5.setCell ⟨b, 3, none⟩ (.slice va5 ((opD N.nx j).length + 1) vc5)) wb W4 := by
              obtain ⟨ya, yc, h1, h2⟩ := p2.at'
              exact ⟨⟨ya, yc, (Below.heap_setCell _ _ _ _ A4.out.ne.1).trans h1, own_set h2 p1 (by decide)⟩, p2.can, p2.ints⟩
            have n6 := p3.setCell (a := ⟨b, 3, none⟩) A4.out.ne.2.1 (.slice va5 ((opD N.nx j).length + 1) vc5)
            refine hK.out _ _ (by rw [cell_of_row _ _ _ _ _ _ b6]; rfl) (fun hHeld => ?_)
            clear hK K
            (try simp only [Act.put, putS])
            refine wpAnyH_done (by kernel_rfl) ?_ _
            generalize w5.setCell ⟨b, 3, none⟩ (.slice va5 ((opD N.nx j).length + 1) vc5) = w6 at b6 tr6 o6 m6 n6 ⊢
            have B6 := hid b6
            have TR6 := hid tr6
            have O6 := hid o6
            have M6 := hid m6
            have N6 := hid n6
            have k2 : w6.cell? ⟨b, 2, none⟩ = some (.int .i64 (N.nx + j)) := by rw [cell_of_row _ _ _ _ _ _ b6]; rfl
            have kf : w6.frozen? ⟨b, 2, none⟩ = false := frozen_of_row _ _ _ _ _ b6
            clear b6 tr6 o6 m6 n6 hHeld c35 f35 p1 p2 p3 tr5 ho5 hg5
            have hwn : IntKind.i64.wrap (N.nx + j + 1) = N.nx + ((j + 1 : Nat) : Int) := by rw [IntWalk.i64_in _ ⟨by have := HNX.out; omega, by have := HNX.out; omega⟩]; omega
            have HREL : Hid (AtM (w6.setCell ⟨b, 2, none⟩ (.int .i64 (N.nx + ((j + 1 : Nat) : Int)))) b wb mb (n + (j + 1)) (.slice va5 ((opD N.nx j).length + 1) vc5) (D2.put (.int .i64 (N.nx + j)) (.held (shV ⟨N.nx + j, s1, s2, ml, G.map fun x => x.or.o⟩ (.slice mva ml.length mvc) (.slice la G.length lc)))) ⟨N.bl, N.ep, N.nx + ((j + 1 : Nat) : Int), opD N.nx (j + 1)⟩ W4 (nwX N.nx ml (G.map fun x => x.or.o) (.slice mva ml.length mvc) (.slice la G.length lc) (sp.take (j + 1)) ++ outX X (G.map (·.s.id))) ∧ (w6.setCell ⟨b, 2, none⟩ (.int .i64 (N.nx + ((j + 1 : Nat) : Int)))).ownsRow wa.heap.size 3 1 (.slice va5 ((opD N.nx j).length + 1) vc5) (j + 1) (nvs (opD N.nx (j + 1))) ∧ Chs W ((nwX N.nx ml (G.map fun x => x.or.o) (.slice mva ml.length mvc) (.slice la G.length lc) (sp.take (j + 1))).map SX.pc) W4 ∧ W4.length ≤ W.length + 3 * (j + 1) ∧ Tr (AtR b wb mb) wa (w6.setCell ⟨b, 2, none⟩ (.int .i64 (N.nx + ((j + 1 : Nat) : Int))))) := hid (by
              have hX : ∀ x, x ∈ nwX N.nx ml (G.map fun x => x.or.o) (.slice mva ml.length mvc) (.slice la G.length lc) (sp.take (j + 1)) ++ outX X (G.map (·.s.id)) ↔ x ∈ (⟨⟨N.nx + j, s1, s2, ml, G.map fun x => x.or.o⟩, .slice mva ml.length mvc, .slice la G.length lc⟩ : SX) :: (nwX N.nx ml (G.map fun x => x.or.o) (.slice mva ml.length mvc) (.slice la G.length lc) (sp.take j) ++ outX X (G.map (·.s.id))) := fun x => by
                rw [HTK.out, nwX_snoc, HTL.out]
                simp only [List.mem_append, List.mem_cons, List.not_mem_nil, or_false]
                constructor
                · rintro ((h | h) | h)
                  · exact .inr (.inl h)
                  · exact .inl h
                  · exact .inr (.inr h)
                · rintro (h | h | h)
                  · exact .inl (.inr h)
                  · exact .inl (.inl h)
                  · exact .inr h
              have hl1 : (opD N.nx j).length + 1 = j + 1 := by rw [opD_len]
              refine ⟨HA.out.re (TR6.out.trans (Tr.set (.inl rfl))) (heap_setCell_same _ _ _ _ _ _ B6.out) ?_ ?_ ?_ (A4.out.sm.congr hX) ?_, ?_, ?_, ?_, TR6.out.trans (Tr.set (.inl rfl))⟩
              · have := own_set (i := 2) (u := .int .i64 (N.nx + ((j + 1 : Nat) : Int))) O6.out B6.out (by decide)
                rw [show (opD N.nx (j + 1)).length = (opD N.nx j).length + 1 by rw [opD_len, opD_len]]
                exact own_lower this (Nat.zero_le _)
              · obtain ⟨ya, yc, h1, h2⟩ := M6.out.at'
                exact ⟨⟨ya, yc, (Below.heap_setCell _ _ _ _ A4.out.ne.1).trans h1, own_set h2 B6.out (by decide)⟩, M6.out.can, M6.out.ints⟩
              · have := N6.out.setCell (a := ⟨b, 2, none⟩) A4.out.ne.2.1 (.int .i64 (N.nx + ((j + 1 : Nat) : Int)))
                exact this
              · intro x hx
                rcases List.mem_append.1 hx with hx | hx
                · obtain ⟨e1, e2, e3, e4⟩ := nwX_mem _ _ _ _ _ _ x hx
                  have := HSH.out x.s.id x.s.fr x.s.to wa (Tr.refl _ _)
                  refine ⟨by rw [e1, e3]; exact this.m, ?_⟩
                  obtain ⟨L, h1, h2, h3⟩ := this.p
                  exact ⟨L, by rw [e2]; exact h1, by rw [e4]; exact h2, h3⟩
                · exact HA.out.mem x hx
              · have := own_set (i := 2) (u := .int .i64 (N.nx + ((j + 1 : Nat) : Int))) O6.out B6.out (by decide)
                rw [hl1] at this ⊢
                exact this
              · rw [HTK.out, nwX_snoc, List.map_append, HTL.out]
                exact Chs.snoc A4.out.whr.can _ _ HCH.out C4.out
              · have := C4.out.1
                have := HWL.out
                omega)
            go_wp2_with fail
            rw [show N.nx + ((j : Int) + 1) = N.nx + ((j + 1 : Nat) : Int) by omega]
            generalize w6.setCell ⟨b, 2, none⟩ (.int .i64 (N.nx + ((j + 1 : Nat) : Int))) = w7 at *
            go_roundw
            case rel => exact ⟨j + 1, _, _, _, by go_num, by omega, HREL.out⟩
            case measure => simp [intOf]; omega
        · have hjL : j = sp.length := by omega
          subst hjL
          rw [List.take_length] at A2 HCH
          have c1 : wr.cell? ⟨b, 1, none⟩ = some (.int .i64 N.ep) := A2.out.cell 1
          have f1 := A2.out.fz 1
          have hwe : IntKind.i64.wrap (N.ep + 1) = N.ep + 1 := IntWalk.i64_in _ ⟨by have := HEP.out; omega, by have := HEP.out; omega⟩
          have HF : Hid (ExP b wb mb n N W X G sp ml (.slice mva ml.length mvc) w (.returned (.tuple #[])) (wr.setCell ⟨b, 1, none⟩ (.int .i64 (N.ep + 1)))) := hid ⟨ov2, D2, W2, .slice la G.length lc, rfl, A2.out.set 1 _ rfl A2.out.opn, HCH.out, (HT'.out.trans T2.out).trans (Tr.set (.inl rfl))⟩
          go_wp2_with fail
          go_end0
          exact HF.out
end Go.Proofs.Ytnkjkaofgninnaa
