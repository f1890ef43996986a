/- What Clone of a table answers: another table of its own. Conditions: the table and its instances lie in memory, and are light. -/
import Derived.Test.YtadjeefigjdkiaaInKnownL
import Derived.Test.YtadjeefigjdkiaaRnd2
namespace Go.Proofs.Ytadjeefigjdkiaa
open Go.RowKit Go.Maps Go.Shelf
attribute [local go_sem] Oper.semAt_some
set_option linter.unusedVariables false
set_option linter.unusedSimpArgs false

/-- A table that is light, its lists of its own. -/
structure LtT (base : Nat) (W : World) (tb mb nn : Nat) (D : DataW Value) (L : List EnI) : Prop where
  tab : Tb W tb mb nn D
  tl : TL D L
  mem : ∀ e ∈ L, LightI e.x ∧ W.ownsRow base 9 1 e.u e.x.cmd.data.length (svs e.x.cmd.data) ∧ W.ownsRow base 23 2 e.r e.x.deps.length (rvs e.x.deps)
theorem LtT.inm {base : Nat} {W : World} {tb mb nn : Nat} {D : DataW Value} {L : List EnI} (h : LtT base W tb mb nn D L) {e : EnI} (he : e ∈ L) : InM W e.x e.u e.r := ⟨strs_svs (h.mem e he).2.1, rfs_rvs (h.mem e he).2.2⟩
theorem LtT.below {base : Nat} {W W' : World} {tb mb nn : Nat} {D : DataW Value} {L : List EnI} (h : LtT base W tb mb nn D L) (hb : Below W.heap.size W W') : LtT base W' tb mb nn D L :=
  ⟨h.tab.below hb, h.tl, fun e he => ⟨(h.mem e he).1, own_below (h.mem e he).2.1 hb, own_below (h.mem e he).2.2 hb⟩⟩
theorem LtT.kc {base : Nat} {W W' : World} {tb mb nn : Nat} {D : DataW Value} {L : List EnI} (h : LtT base W tb mb nn D L) (hk : KC W W') (hT : Tb W' tb mb nn D) : LtT base W' tb mb nn D L :=
  ⟨hT, h.tl, fun e he => ⟨(h.mem e he).1, own_kc (h.mem e he).2.1 hk, own_kc (h.mem e he).2.2 hk⟩⟩
theorem LtT.put {base : Nat} {W W' : World} {tb mb nn : Nat} {D D' : DataW Value} {L : List EnI} (h : LtT base W tb mb nn D L) {e : EnI} {n' : Nat} (hT : Tb W' tb mb n' D') (hL : TL D' (putL L e)) (hg : W.grownBy W' (some mb)) (hl : LightI e.x) (hu : W'.ownsRow base 9 1 e.u e.x.cmd.data.length (svs e.x.cmd.data)) (hr : W'.ownsRow base 23 2 e.r e.x.deps.length (rvs e.x.deps)) : LtT base W' tb mb n' D' (putL L e) := by
  have hk := KC.grown h.tab hg
  refine ⟨hT, hL, fun y hy => ?_⟩
  rcases mem_putL hy with rfl | ⟨hy, -⟩
  · exact ⟨hl, hu, hr⟩
  · exact ⟨(h.mem y hy).1, own_kc (h.mem y hy).2.1 hk, own_kc (h.mem y hy).2.2 hk⟩
/-- In the loop: the table that is made; all else is as it was. -/
structure CI (base : Nat) (w1 : World) (tb mb : Nat) (n : Nat) (W : World) : Prop where
  tab : ∃ nn D L, LtT base W tb mb nn D L ∧ nn ≤ n ∧ L.length ≤ n
  grown : w1.grownBy W (some mb)
theorem CI.turned {base : Nat} {w1 X Y : World} {tb mb n : Nat} {row : Option Nat} (h : CI base w1 tb mb n X) (hm : mb < w1.heap.size) (hg : X.grownBy Y row) (hr : ∀ r, row = some r → w1.heap.size ≤ r ∧ ∃ o : Obj, X.heap[r]? = some o ∧ o.isCells = false) : CI base w1 tb mb n Y := by
  obtain ⟨⟨nn, D, L, h1, h2, h3⟩, hgr⟩ := h
  have hk : KC X Y := fun q cs t fr hq => by
    refine (hg.block q (lt_of_block hq) ?_).trans hq
    intro e
    obtain ⟨o, ho, hc⟩ := (hr q e.symm).2
    rw [hq] at ho; cases ho; cases hc
  refine ⟨⟨nn, D, L, h1.kc hk (h1.tab.kept hg ?_ ?_), h2, h3⟩, hgr.andThen hg fun j e => .inl (hr j e).1⟩
  · intro e
    obtain ⟨o, ho, hc⟩ := (hr tb e.symm).2
    rw [h1.tab.box] at ho; cases ho; cases hc
  · intro e
    have := (hr mb e.symm).1
    omega
theorem CI.below {base : Nat} {w1 X Y : World} {tb mb n : Nat} (h : CI base w1 tb mb n X) (hm : mb < w1.heap.size) (hb : Below X.heap.size X Y) : CI base w1 tb mb n Y := h.turned hm (row := none) ⟨hb.os, hb.tape, hb.output, hb.size, fun k hk _ => hb.block k hk⟩ (fun r e => by cases e)
/-- The frame of a round: the entry lies in a box. -/
def AtF (n0 : Nat) (L : List EnI) (Fr : Fin L.length → Nat → Act) (x : Fin L.length) (a' : Act) (W : World) : Prop := ∃ q, n0 ≤ q ∧ a' = Fr x q ∧ W.heap[q]? = some (.cells (enL L x).c 31 (0, 0))
/-- What Clone leaves. -/
def ClP (n : Nat) (w : World) (e : Ending) (w' : World) : Prop := ∃ tb mb nn D L, e = .returned (.pointer (some ⟨tb, 0, none⟩)) ∧ LtT w.heap.size w' tb mb nn D L ∧ w.heap.size ≤ tb ∧ w.heap.size ≤ mb ∧ nn ≤ n ∧ L.length ≤ n ∧ Below w.heap.size w w'
set_option maxRecDepth 100000 in
set_option maxHeartbeats 4000000 in
theorem icloneT_any (tb mb nn : Nat) (D : DataW Value) (L : List EnI) (w : World) (hT : Tb w tb mb nn D) (hL : TL D L) (hM : ∀ e ∈ L, InM w e.x e.u e.r) (hl : ∀ e ∈ L, LightI e.x) (hn : L.length ≤ 60) :
    Calls Try.prog 24 #[.pointer (some ⟨tb, 0, none⟩)] w (ClP L.length w) := by
  have HT := hid hT
  have HL := hid hL
  have HM := hid hM
  have HLi := hid hl
  have HDs := hid hL.size
  have hmbw : mb < w.heap.size := hT.own.lt
  clear hT hL hM hl
  refine (callsIn_wide (n := 3)).1 ?_
  refine callsIn_of_wp_marks Try.func24 rfl trivial ?_ rfl
  simp only [Try.ntmps24, List.size_toArray, List.length_cons, List.length_nil, Nat.reduceAdd, Nat.reduceSub, Array.replicate_succ, Array.replicate_zero, List.push_toArray, List.append_toArray, List.nil_append, List.cons_append]
  refine wpIn_wide.2 ?_
  go_wp2_with fail
  refine (inew_any w).mono ?_
  rintro e wn ⟨rfl, hTn, hbn⟩
  obtain ⟨tc, htc⟩ : ∃ tc, tc = w.heap.size + 1 := ⟨_, rfl⟩
  obtain ⟨mc, hmc⟩ : ∃ mc, mc = w.heap.size := ⟨_, rfl⟩
  rw [← htc, ← hmc] at hTn
  rw [← htc]
  have HTC := hid htc
  have HMC := hid hmc
  have TN := hid hTn
  have BN := hid hbn
  clear htc hmc hTn hbn
  obtain ⟨w0, hw0⟩ : ∃ w0, w0 = wn.alloc (.cells #[.pointer (some ⟨tc, 0, none⟩)] 36) := ⟨_, rfl⟩
  have b0 : Below wn.heap.size wn w0 := by rw [hw0]; exact (Below.refl _ _).alloc (Nat.le_refl _) _
  have o0 : w0.heap[wn.heap.size]? = some (.cells #[.pointer (some ⟨tc, 0, none⟩)] 36 (0, 0)) := by rw [hw0]; exact heap_alloc_new _ _
  have HW0 := hid hw0
  clear hw0
  go_upto_region 4 with fail
  rw [← HW0.out]
  obtain ⟨O, hO⟩ : ∃ O, O = wn.heap.size := ⟨_, rfl⟩
  rw [← hO] at o0
  rw [← hO]
  have HOe := hid hO
  have T0 := hid (TN.out.below b0)
  have B0 := hid (BN.out.trans (b0.mono BN.out.size))
  have O0 := hid o0
  clear hO HW0 b0 o0 TN
  go_wp2_with fail
  refine (known_any _ w0 ⟨_, rfl⟩).mono ?_
  rintro e w1 ⟨rfl, hw1⟩
  have b1 : Below w0.heap.size w0 w1 := by rw [hw1]; exact (Below.refl _ _).alloc (Nat.le_refl _) _
  have K1 : Hid (w1.heap[w0.heap.size]? = some (.cells #[.pointer (some ⟨tb, 0, none⟩)] 36 (0, 0))) := hid (by rw [hw1]; exact heap_alloc_new _ _)
  have O1 := hid ((b1.block O (lt_of_block O0.out)).trans O0.out)
  have T1 := hid (T0.out.below b1)
  have B1 := hid (B0.out.trans (b1.mono B0.out.size))
  have TT1 := hid (HT.out.below B1.out)
  have HM1 : Hid (∀ e ∈ L, InM w1 e.x e.u e.r) := hid fun e he => (HM.out e he).below B1.out
  have hlm : mc < w1.heap.size := T1.out.own.lt
  have hmm : mb ≠ mc := by have := HMC.out; omega
  have hlO : O < w1.heap.size := lt_of_block O1.out
  obtain ⟨B, hB⟩ : ∃ B, B = w0.heap.size := ⟨_, rfl⟩
  rw [← hB] at K1
  rw [← hB]
  clear hw1 b1 O0 T0 B0 hB HT HM
  go_wp2_with fail
  refine (wpIn_wide (n := 3)).1 ?_
  refine wpIn_rangeFunc_ownH (F := Fence.wide) rfl (by omega) (gf := 59) (lb := #[.pointer (some ⟨B, 0, none⟩)]) rfl trivial (enters_of Try.func59 (by kernel_rfl) rfl)
    (knownL_stops _ (by omega) B tb mb nn D L HL.out mc hmm w1 hlm K1.out TT1.out) (fun h k => KWB.trans h k) (fun W l o o' h1 h2 h3 h4 => KWB.of (walksK_b (w := w1) W l o o' h1 h2 h3 h4)) (Below.refl _ _) (fun _ => rfl)
    (fun pre W => CI w.heap.size w1 tc mc pre.length W)
    (fun c pre W => False) ?hI ?hIx ?h0
    (AtF w1.heap.size L ?Fr)
    ?hAx ?assign ?body ?done ?stop
  case h0 => exact ⟨⟨0, _, [], ⟨T1.out, TL.nil, by simp⟩, Nat.le_refl _, by simp⟩, World.grownBy.refl _ _⟩
  case hI =>
    intro s X Y row h hg hr
    exact h.turned hlm hg hr
  case hIx =>
    intro c s X Y row h hg hr
    exact h
  case hAx =>
    rintro x a' s X Y row ⟨q, h1, h2, h3⟩ hg hr
    refine ⟨q, h1, h2, (hg.block q (lt_of_block h3) ?_).trans h3⟩
    intro e
    obtain ⟨o, ho, hc⟩ := (hr q e.symm).2
    rw [h3] at ho; cases ho; cases hc
  case assign =>
    intro y pre x W K h hK
    have hc1 : (enL L x).c.size = 16 := rfl
    have hc2 : (enL L x).c.all (·.oneCell') = true := instC_one _ _ _ rfl rfl
    have hv : (enL L x).v = .agg (enL L x).c := rfl
    rw [hv]
    clear hv
    gi_wp2_with (first | (refine wplI_storeC rfl _ _ rfl W.heap.size (enL L x).c rfl rfl hc1 hc2 _ zeroI (.slice none 0 0) (.slice none 0 0) (heap_alloc_new _ _) ?_) | gi_in)
    have hb : Below W.heap.size W ((W.alloc (.cells (instC zeroI (.slice none 0 0) (.slice none 0 0)) 31)).setRow W.heap.size (enL L x).c) := below_row ((Below.refl _ _).alloc (Nat.le_refl _) _) (Nat.le_refl _) _
    have hrow : ((W.alloc (.cells (instC zeroI (.slice none 0 0) (.slice none 0 0)) 31)).setRow W.heap.size (enL L x).c).heap[W.heap.size]? = some (.cells (enL L x).c 31 (0, 0)) := setRow_heap _ _ _ _ _ _ (heap_alloc_new _ _)
    refine hK _ _ ((keeps_belowI hb).from _) (KWB.of (keeps_belowI hb).walks) (h.below hlm hb) ⟨W.heap.size, h.grown.size, ?ax, hrow⟩
    case ax =>
      clear hK hb hrow
      obtain ⟨q, hq⟩ : ∃ q, q = W.heap.size := ⟨_, rfl⟩
      rw [← hq]
  case body =>
    rintro y pre x a' W hy _ hM ⟨q, hq, hfr, hx⟩ hlt'
    obtain rfl : a' = _ := hfr
    obtain ⟨⟨n2, D2, L2, hLt, hn2, hln⟩, hgr⟩ := hM
    have hpl : pre.length < L.length := by have := HDs.out; omega
    have HLt := hid hLt
    have HGR := hid hgr
    have hkw : KC w1 W := KC.grown T1.out hgr
    have hin : L[x.1] ∈ L := List.getElem_mem x.2
    have HIW : Hid (InM W (enL L x).x (enL L x).u (enL L x).r) := hid ((HM1.out L[x.1] hin).kc hkw)
    have HLX : Hid (LightI (enL L x).x) := hid (HLi.out L[x.1] hin)
    have hl1 : (enL L x).x.cmd.data.length ≤ 1000000000 := by have := HLX.out.1; omega
    have hl2 : (enL L x).x.deps.length ≤ 1000000000 := by have := HLX.out.2.2; omega
    have HRI : Hid (RefI (enL L x).x.ref) := hid (HL.out.refs L[x.1] hin)
    have hOW := hkw _ _ _ _ O1.out
    have SW : Hid (∀ X, W.grownBy X (some mc) → X.cell? ⟨O, 0, none⟩ = some (.pointer (some ⟨tc, 0, none⟩)) ∧ X.cell? ⟨tc, 0, none⟩ = some (.map (some mc)) ∧ X.cell? ⟨q, 0, none⟩ = some (.int .i64 (enL L x).x.ref.1) ∧ X.cell? ⟨q, 1, none⟩ = some (.int .i64 (enL L x).x.ref.2) ∧ X.heap[q]? = some (.cells (instC (enL L x).x (enL L x).u (enL L x).r) 31 (0, 0)) ∧ X.heap[tc]? = some (.cells #[.map (some mc)] 69 (0, 0))) := hid fun X hX => by
      have hk := KC.grown hLt.tab hX
      have h1 := hk _ _ _ _ hOW
      have h2 := hk _ _ _ _ hLt.tab.box
      have h3 := hk _ _ _ _ hx
      refine ⟨?_, ?_, ?_, ?_, h3, h2⟩
      · rw [cell_of_row _ _ _ _ _ _ h1]; rfl
      · rw [cell_of_row _ _ _ _ _ _ h2]; rfl
      · rw [cell_of_row _ _ _ _ _ _ h3]; rfl
      · rw [cell_of_row _ _ _ _ _ _ h3]; rfl
    have HBW : Hid (w.heap.size ≤ W.heap.size) := hid (Nat.le_trans B1.out.size hgr.size)
    clear hLt hgr hkw hin hOW hx
    gi_wp2
    refine region_held_round (S := fun X => X.cell? ⟨O, 0, none⟩ = some (.pointer (some ⟨tc, 0, none⟩)) ∧ X.cell? ⟨tc, 0, none⟩ = some (.map (some mc)) ∧ X.cell? ⟨q, 0, none⟩ = some (.int .i64 (enL L x).x.ref.1) ∧ X.cell? ⟨q, 1, none⟩ = some (.int .i64 (enL L x).x.ref.2) ∧ X.heap[q]? = some (.cells (instC (enL L x).x (enL L x).u (enL L x).r) 31 (0, 0)) ∧ X.heap[tc]? = some (.cells #[.map (some mc)] 69 (0, 0))) y (by rintro ⟨_, _, h⟩; exact h) (by kernel_rfl) (by kernel_rfl) (SW.out _ ⟨rfl, rfl, rfl, Nat.le_refl _, fun _ _ _ => rfl⟩) (fun hHeld => ?_)
    refine wpAnyH_take (i := 0) (v := ?bv0) rfl (by kernel_rfl) (by kernel_rfl) (by kernel_rfl) (fun _ _ _ h => h) (Or.inl ⟨by rfl, ?by0⟩) (by assumption) ?br0
    case by0 => (intro w hSw; (try dsimp only at hSw); go_simp; try with_reducible rfl)
    (try simp only [Act.put, List.setIfInBounds_toArray, List.set_cons_zero, List.set_cons_succ, List.getElem_toArray, List.getElem_cons_succ, List.getElem_cons_zero])
    refine wpAnyH_take (i := 1) (v := ?bv1) rfl (by kernel_rfl) (by kernel_rfl) (by kernel_rfl) (fun _ _ _ h => h) (Or.inl ⟨by rfl, ?by1⟩) (by assumption) ?br1
    case by1 => (intro w hSw; (try dsimp only at hSw); go_simp; try with_reducible rfl)
    (try simp only [Act.put, List.setIfInBounds_toArray, List.set_cons_zero, List.set_cons_succ, List.getElem_toArray, List.getElem_cons_succ, List.getElem_cons_zero])
    refine wpAnyH_take (i := 2) (v := ?bv2) rfl (by kernel_rfl) (by kernel_rfl) (by kernel_rfl) (fun _ _ _ h => h) (Or.inl ⟨by rfl, ?by2⟩) (by assumption) ?br2
    case by2 => (intro w hSw; (try dsimp only at hSw); go_simp; try with_reducible rfl)
    (try simp only [Act.put, List.setIfInBounds_toArray, List.set_cons_zero, List.set_cons_succ, List.getElem_toArray, List.getElem_cons_succ, List.getElem_cons_zero])
    refine wpAnyH_take (i := 3) (v := ?bv3) rfl (by kernel_rfl) (by kernel_rfl) (by kernel_rfl) (fun _ _ _ h => h) (Or.inl ⟨by rfl, ?by3⟩) (by assumption) ?br3
    case by3 => (intro w hSw; (try dsimp only at hSw); go_simp; try with_reducible rfl)
    (try simp only [Act.put, List.setIfInBounds_toArray, List.set_cons_zero, List.set_cons_succ, List.getElem_toArray, List.getElem_cons_succ, List.getElem_cons_zero])
    refine wpAnyH_take (i := 4) (v := ?bv4) rfl (by kernel_rfl) (by kernel_rfl) (by kernel_rfl) (fun _ _ _ h => h) (Or.inl ⟨by rfl, ?by4⟩) (by assumption) ?br4
    case by4 => (intro w hSw; (try dsimp only at hSw); go_simp; try with_reducible rfl)
    (try simp only [Act.put, List.setIfInBounds_toArray, List.set_cons_zero, List.set_cons_succ, List.getElem_toArray, List.getElem_cons_succ, List.getElem_cons_zero])
    refine wpAnyH_take (i := 5) (v := ?bv5) rfl (by kernel_rfl) (by kernel_rfl) (by kernel_rfl) (fun _ _ _ h => h) (Or.inl ⟨by rfl, ?by5⟩) (by assumption) ?br5
    case by5 => (intro w hSw; (try dsimp only at hSw); go_simp; try with_reducible rfl)
    (try simp only [Act.put, List.setIfInBounds_toArray, List.set_cons_zero, List.set_cons_succ, List.getElem_toArray, List.getElem_cons_succ, List.getElem_cons_zero])
    refine wpAnyH_take (i := 6) (v := instV (enL L x).x (enL L x).u (enL L x).r) rfl (by kernel_rfl) (by kernel_rfl) (by kernel_rfl) (fun _ _ _ h => h) (Or.inl ⟨by rfl, ?by6⟩) (by assumption) ?br6
    case by6 =>
      intro w hSw
      exact exec_loadI rfl rfl hSw.2.2.2.2.1
    (try simp only [Act.put, List.setIfInBounds_toArray, List.set_cons_zero, List.set_cons_succ, List.getElem_toArray, List.getElem_cons_succ, List.getElem_cons_zero])
    refine wpAnyH_ready (rs := [7]) (by kernel_rfl) (by simp) ?_
    refine AllReadyH.cons rfl (fun K hK => ?_) AllReadyH.nil
    rw [if_pos (by rfl)]
    go_wp2_with fail
    refine (iclone_any (enL L x).x _ _ _ (HIW.out.below ((Below.refl _ _).drew)) hl1 hl2).mono ?_
    rintro e w4 ⟨u', v', rfl, hu4, hv4, hb4⟩
    have B4 : Hid (Below W.heap.size W w4) := hid (((Below.refl _ _).drew).trans hb4)
    have U4 : Hid (w4.ownsRow W.heap.size 9 1 u' (enL L x).x.cmd.data.length (svs (enL L x).x.cmd.data)) := hid hu4
    have V4 : Hid (w4.ownsRow W.heap.size 23 2 v' (enL L x).x.deps.length (rvs (enL L x).x.deps)) := hid hv4
    clear hu4 hv4 hb4
    obtain ⟨ua', uc', rfl⟩ := own_shape U4.out
    obtain ⟨va', vc', rfl⟩ := own_shape V4.out
    refine hK.out _ _ (SW.out _ ⟨B4.out.os, B4.out.tape, B4.out.output, B4.out.size, fun k hk _ => B4.out.block k hk⟩) (fun hHeld => ?_)
    try clear hK K
    (try simp only [Act.put, List.setIfInBounds_toArray, List.set_cons_zero, List.set_cons_succ, List.getElem_toArray, List.getElem_cons_succ, List.getElem_cons_zero])
    refine wpAnyH_ready (rs := [8]) (by kernel_rfl) (by simp) ?_
    refine AllReadyH.cons rfl (fun K hK => ?_) AllReadyH.nil
    rw [if_pos (by rfl)]
    obtain ⟨w5, hrun, ho5, hg5⟩ := (HLt.out.tab.below B4.out).own.update refLaw Try.underlyingTab (by unfold maxLen; omega) (keyOf_ref (enL L x).x.ref HRI.out.1 HRI.out.2) (RH_mk ⟨(enL L x).x, ua', _, uc', va', _, vc', rfl⟩)
    refine wp_upd _ _ _ rfl rfl rfl rfl hrun ?_
    have G5 : Hid (W.grownBy w5 (some mc)) := hid ((World.grownBy.mk B4.out.os B4.out.tape B4.out.output B4.out.size fun k hk _ => B4.out.block k hk : W.grownBy w4 (some mc)).trans hg5)
    have G45 := hid hg5
    have O5 := hid ho5
    clear hrun ho5 hg5
    refine hK.out _ _ (SW.out _ G5.out) (fun hHeld => ?_)
    try clear hK K
    (try simp only [Act.put, List.setIfInBounds_toArray, List.set_cons_zero, List.set_cons_succ, List.getElem_toArray, List.getElem_cons_succ, List.getElem_cons_zero])
    refine wpAnyH_done (by kernel_rfl) ?_ _
    gi_wp2
    refine ⟨KeepsFrom.of_grownBy G5.out (fun j e => by cases e; exact hlm), KWB.grown G5.out, ?_⟩
    show CI w.heap.size w1 tc mc (pre ++ [x]).length _
    obtain ⟨en, hen⟩ : ∃ en : EnI, en = ⟨.bool true, (enL L x).x, ua', (enL L x).x.cmd.data.length, uc', va', (enL L x).x.deps.length, vc'⟩ := ⟨_, rfl⟩
    have hex : en.x = (enL L x).x := by rw [hen]
    have hT5 : Tb w5 tc mc (n2 + 1) (D2.put (refK (enL L x).x.ref) (.held en.v)) := ⟨hHeld.2.2.2.2.2, by rw [hen]; exact O5.out⟩
    have hL5 := HLt.out.tl.put en (by rw [hex]; exact HRI.out)
    rw [hex] at hL5
    have hk45 : KC w4 w5 := KC.grown (HLt.out.tab.below B4.out) G45.out
    have hu5 : w5.ownsRow w.heap.size 9 1 en.u en.x.cmd.data.length (svs en.x.cmd.data) := by rw [hen]; exact own_lower (own_kc U4.out hk45) HBW.out
    have hr5 : w5.ownsRow w.heap.size 23 2 en.r en.x.deps.length (rvs en.x.deps) := by rw [hen]; exact own_lower (own_kc V4.out hk45) HBW.out
    refine ⟨⟨n2 + 1, _, putL L2 en, HLt.out.put hT5 hL5 G5.out (by rw [hex]; exact HLX.out) hu5 hr5, by simp; omega, ?_⟩, HGR.out.trans G5.out⟩
    rw [putL_len]
    simp
    split <;> omega
  case done =>
    intro Dd xs W hD hS hM hdf
    obtain ⟨⟨n2, D2, L2, hLt, hn2, hln⟩, hgr⟩ := hM
    have hlen : xs.length ≤ L.length := by have := hS.len HL.out; simpa using this
    have hkw : KC w1 W := KC.grown T1.out hgr
    have hOW := hkw _ _ _ _ O1.out
    have cO : W.cell? ⟨O, 0, none⟩ = some (.pointer (some ⟨tc, 0, none⟩)) := by rw [cell_of_row _ _ _ _ _ _ hOW]; rfl
    have HLt := hid hLt
    have HGR := hid hgr
    clear hLt hgr hkw hOW
    gi_wp2
    go_wp2_with fail
    refine ⟨by simp, .inl ⟨_, _, rfl, run_takeDeferred hdf, ?_⟩⟩
    have hpo := grownBy_putObj' W Dd (.deferred none)
    have hkp : KC W (W.putObj Dd (.deferred none)) := fun q cs t fr hq => by
      refine (hpo.block q (lt_of_block hq) ?_).trans hq
      intro e; cases e; rw [hdf] at hq; cases hq
    have hDm : some mc ≠ some Dd := by intro e; cases e; omega
    have hDt : some tc ≠ some Dd := by intro e; cases e; have := HLt.out.tab.box; rw [hdf] at this; cases this
    refine ⟨_, results_tmp rfl _ _ _, tc, mc, n2, D2, L2, rfl, HLt.out.kc hkp (HLt.out.tab.kept hpo hDt hDm), by have := HTC.out; omega, by have := HMC.out; omega, by omega, by omega, ?_⟩
    exact Below.trans (B1.out.grown HGR.out B1.out.size (fun k e => by cases e; have := HMC.out; omega)) (belowK_b (w := w) (Nat.le_refl _) W Dd _ _ (by have := B1.out.size; omega) hdf rfl rfl)
  case stop =>
    intro Dd c pre W hD hS hF hdf
    exact hF.elim
end Go.Proofs.Ytadjeefigjdkiaa
