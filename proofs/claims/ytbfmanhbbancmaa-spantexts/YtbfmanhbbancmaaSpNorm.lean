/- What Norm of package span answers. No condition but that the row lies in memory. -/
import Derived.Test.YtbfmanhbbancmaaSpRise
import Derived.RangeFuncNested
import Derived.RangeFuncBound
import Derived.RangeFuncCalls
import Derived.RangeFuncLeaves
import Derived.Shelf.Abstract
import Derived.Shelf.RegionOpen
import Derived.OwnWalkIn
import Derived.TacticsInMore
import Derived.LoopNIn
import Derived.LoopIn
import Derived.Maps.AppendAt
namespace Go.Proofs.Ytbfmanhbbancmaa
open Go.RowKit Go.Shelf
attribute [local go_sem] Oper.semAt_some

/-- The slice value sv holds the spans l; or it is nil and there are none. -/
def Held (W : World) (sv : Value) (l : List Sp) : Prop :=
  (sv = .slice none 0 0 ∧ l = []) ∨ ∃ b cap ob, sv = .slice (some ⟨b, 0, none⟩) l.length cap ∧ W.heap[b]? = some ob ∧ ∀ j, (h : j < l.length) → W.cell? ⟨b, j * 2, none⟩ = some (.int .i64 l[j].1) ∧ W.cell? ⟨b, j * 2 + 1, none⟩ = some (.int .i64 l[j].2)
/-- The block of a slice lies as it lay. -/
def Kept (sv : Value) (A B : World) : Prop := ∀ k, sv.ownBlock = some k → B.heap[k]? = A.heap[k]?
theorem Kept.trans {sv : Value} {A B C : World} (h : Kept sv A B) (k : Kept sv B C) : Kept sv A C := fun i hi => (k i hi).trans (h i hi)
theorem Held.kept {A B : World} {sv : Value} {l : List Sp} (h : Kept sv A B) : Held A sv l → Held B sv l
  | .inl e => .inl e
  | .inr ⟨b, cap, ob, e, hb, hc⟩ => .inr ⟨b, cap, ob, e, by rw [h b (by rw [e]; rfl)]; exact hb, fun j hj => by
      have := h b (by rw [e]; rfl)
      exact ⟨(World.cell?_of_block this).trans (hc j hj).1, (World.cell?_of_block this).trans (hc j hj).2⟩⟩
theorem Held.below {A B : World} (h : Below A.heap.size A B) {sv : Value} {l : List Sp} (hh : Held A sv l) : Held B sv l := by
  refine hh.kept fun k hk => ?_
  rcases hh with ⟨rfl, _⟩ | ⟨b, cap, ob, rfl, hb, _⟩
  · cases hk
  · cases hk; exact h.block b (lt_of_block hb)
theorem OwnS.held {w : World} {base : Nat} {va : Option Addr} {vc : Nat} {l : List Sp} (h : OwnS w base (.slice va l.length vc) l) : Held w (.slice va l.length vc) l := by
  have h' := h
  obtain ⟨h1, h2⟩ := h
  rcases h2 with ⟨h2, h0⟩ | ⟨g, cap, cur, e, hbg, hh, -⟩
  · exact .inl ⟨h2, List.eq_nil_of_length_eq_zero h0⟩
  · cases e
    exact .inr ⟨g, vc, _, rfl, hh, fun j hj => ⟨(h'.cells_at j hj).1, (h'.cells_at j hj).2.1⟩⟩

set_option maxRecDepth 100000 in
set_option maxHeartbeats 2000000 in
theorem values1_in (F : Fence) (n : Nat) (h7 : F.fn 64) (hro : F.round = none) (hn : 1 ≤ n) (y Bs b cap : Nat) (l : List Sp) (hl : l.length ≤ 1000000000) (J Jx : List Sp → World → Prop) (hJ : ∀ pre W o, J pre W → J pre (W.alloc o))
    (hY : ∀ pre x W, J pre W → pre.length < l.length → YieldAt F (n - 1) Try.prog y #[.agg #[.int .i64 x.1, .int .i64 x.2]] W fun e W' =>
      (e = .returned (.bool true) ∧ J (pre ++ [x]) W' ∧ Kept (.slice (some ⟨b, 0, none⟩) l.length cap) W W') ∨ (e = .returned (.bool false) ∧ Jx (pre ++ [x]) W'))
    (W : World) (ob : Obj) (hob : W.heap[b]? = some ob) (hBs : W.cell? ⟨Bs, 0, none⟩ = some (.slice (some ⟨b, 0, none⟩) l.length cap)) (hc : ∀ j, (h : j < l.length) → W.cell? ⟨b, j * 2, none⟩ = some (.int .i64 l[j].1) ∧ W.cell? ⟨b, j * 2 + 1, none⟩ = some (.int .i64 l[j].2)) (h0 : J [] W) :
    CallsIn F n Try.prog 64 #[.func (.yield y) #[] #[], .pointer (some ⟨Bs, 0, none⟩)] W fun e W' => (∃ v, e = .returned v) ∧
      (J l W' ∨ ∃ pre, pre <+: l ∧ Jx pre W') := by
  have HOB := hid hob
  clear hob
  refine callsIn_of_wp Try.func64 rfl h7 ?_ hro
  simp only [Try.ntmps64, List.size_toArray, List.length_cons, List.length_nil, Nat.reduceAdd, Nat.reduceSub, Array.replicate_succ, Array.replicate_zero, List.push_toArray, List.append_toArray, List.nil_append, List.cons_append]
  gi_wp2
  gi_loopw [7] (fun i wr => ∃ k : Nat, k ≤ l.length ∧ i = .int .i64 k ∧ J (l.take k) wr ∧ wr.heap[b]? = some ob) (fun i _ => l.length - (intOf i).toNat)
  case atStart => exact ⟨0, Nat.zero_le _, rfl, h0, HOB.out⟩
  case round =>
    obtain ⟨k, hk, rfl, hJs, hnx⟩ := hrel
    by_cases hlt : k < l.length
    · have hcx := hc k hlt
      have heq : wr.heap[b]? = W.heap[b]? := hnx.trans HOB.out.symm
      have hc0 : wr.cell? ⟨b, k * 2, none⟩ = some (.int .i64 l[k].1) := (World.cell?_of_block heq).trans hcx.1
      have hc1 : wr.cell? ⟨b, k * 2 + 1, none⟩ = some (.int .i64 l[k].2) := (World.cell?_of_block heq).trans hcx.2
      have HT := hid (show l.take (k + 1) = l.take k ++ [l[k]] by rw [List.take_add_one, List.getElem?_eq_getElem hlt]; rfl)
      obtain ⟨x, hx⟩ : ∃ x, x = l[k] := ⟨_, rfl⟩
      rw [← hx] at hc0 hc1 HT
      have HX := hid hx
      clear hx hcx heq
      obtain ⟨p, q⟩ := x
      obtain ⟨fn, tmps, assign, body, hy, hR⟩ := hY _ (p, q) (wr.alloc (.cells #[.int .i64 p, .int .i64 q] 33)) (hJ _ _ _ hJs) (by simp; omega)
      have HBA := hid (show (wr.alloc (.cells #[.int .i64 p, .int .i64 q] 33)).heap[b]? = some ob by rw [Below.heap_alloc _ _ _ (lt_of_block hnx)]; exact hnx)
      clear hnx
      gi_wp2
      refine hR.mono ?_
      rintro e W3 (⟨rfl, hJ3, hk3⟩ | ⟨rfl, hJx3⟩)
      · have HK3 := hid ((hk3 b rfl).trans HBA.out)
        clear hk3
        gi_wp2
        go_roundw
        case rel => exact ⟨k + 1, by omega, by simp, by rw [HT.out]; exact hJ3, HK3.out⟩
        case measure => simp [intOf]; omega
      · gi_wp2
        refine bodyPost_ret (results_none rfl _ _ _) rfl ?_
        exact ⟨⟨_, rfl⟩, .inr ⟨_, by rw [← HT.out]; exact List.take_prefix _ _, hJx3⟩⟩
    · obtain rfl : k = l.length := by omega
      clear hnx
      gi_wp2
      go_end0
      rw [List.take_length] at hJs
      exact ⟨⟨_, rfl⟩, .inl hJs⟩
set_option maxRecDepth 100000 in
set_option maxHeartbeats 1000000 in
theorem values1_nil (F : Fence) (n : Nat) (h7 : F.fn 64) (hro : F.round = none) (y Bs : Nat) (J : List Sp → World → Prop) (W : World) (hBs : W.cell? ⟨Bs, 0, none⟩ = some (.slice none 0 0)) (h0 : J [] W) :
    CallsIn F n Try.prog 64 #[.func (.yield y) #[] #[], .pointer (some ⟨Bs, 0, none⟩)] W fun e W' => (∃ v, e = .returned v) ∧ J [] W' := by
  refine callsIn_of_wp Try.func64 rfl h7 ?_ hro
  simp only [Try.ntmps64, List.size_toArray, List.length_cons, List.length_nil, Nat.reduceAdd, Nat.reduceSub, Array.replicate_succ, Array.replicate_zero, List.push_toArray, List.append_toArray, List.nil_append, List.cons_append]
  gi_wp2
  gi_loopw [7] (fun i wr => i = .int .i64 0 ∧ J [] wr) (fun _ _ => 0)
  case atStart => exact ⟨rfl, h0⟩
  case round =>
    obtain ⟨rfl, hJs⟩ := hrel
    gi_wp2
    go_end0
    exact ⟨⟨_, rfl⟩, hJs⟩
theorem values_stops (F : Fence) (n : Nat) (h7 : F.fn 64) (hro : F.round = none) (hn : 1 ≤ n) (Bs : Nat) (sv : Value) (l : List Sp) (hl : l.length ≤ 1000000000) (w : World) (hBs : Bs < w.heap.size)
    (hc : w.cell? ⟨Bs, 0, none⟩ = some sv) (hI : Held w sv l) :
    SeqStopsK F n Try.prog 64 #[.pointer (some ⟨Bs, 0, none⟩)] (fun x : Sp => #[Value.agg #[.int .i64 x.1, .int .i64 x.2]]) (Kept sv) (fun ys => ys = l) (fun pre => pre <+: l) l.length w := fun y J Jx W hW hJ _ hY h0 => by
  have hc' := (hW.cell (p := ⟨Bs, 0, none⟩) hBs).trans hc
  rcases hI.below hW with ⟨rfl, rfl⟩ | ⟨b, cap, ob, rfl, hb, hcs⟩
  · exact (values1_nil F n h7 hro y Bs J W hc' h0).mono fun e W' ⟨he, hj⟩ => ⟨he, .inl ⟨_, rfl, hj⟩⟩
  · refine (values1_in F n h7 hro hn y Bs b cap l hl J Jx (fun pre X o hs => hJ pre X _ none hs (World.grownBy_alloc X o none) (fun r e => by cases e)) hY W ob hb hc' hcs h0).mono ?_
    rintro e W' ⟨he, hj | ⟨pre, hp, hj⟩⟩
    · exact ⟨he, .inl ⟨_, rfl, hj⟩⟩
    · exact ⟨he, .inr ⟨_, hp, hj⟩⟩

theorem growF_len (l p : List Sp) : (l.foldl growL p).length ≤ p.length + l.length := by
  induction l generalizing p with
  | nil => simp
  | cons x l ih =>
    have h1 := ih (growL p x)
    have h2 := growL_len p x
    simp only [List.foldl_cons, List.length_cons]; omega
/-- A row of the call's own lies on where only what is no cells turns. -/
theorem OwnS.turned {X Y : World} {row : Option Nat} {base : Nat} {u : Value} {l : List Sp} (h : OwnS X base u l) (hg : X.grownBy Y row) (hr : ∀ r, row = some r → ∃ o : Obj, X.heap[r]? = some o ∧ o.isCells = false) : OwnS Y base u l := by
  obtain ⟨h1, h2⟩ := h
  refine ⟨h1, ?_⟩
  rcases h2 with h2 | ⟨g, cap, cur, hv, hb, hh, r⟩
  · exact Or.inl h2
  · refine Or.inr ⟨g, cap, cur, hv, hb, ?_, r⟩
    rw [hg.block g (lt_of_block hh) (fun e => by obtain ⟨o, ho, hc⟩ := hr g e.symm; rw [hh] at ho; cases ho; cases hc)]
    exact hh
theorem cells_turned {X Y : World} {row : Option Nat} {k : Nat} {cs : Array Value} {t : TypeId} {fr : Nat × Nat} (h : X.heap[k]? = some (.cells cs t fr)) (hg : X.grownBy Y row) (hr : ∀ r, row = some r → ∃ o : Obj, X.heap[r]? = some o ∧ o.isCells = false) : Y.heap[k]? = some (.cells cs t fr) := by
  rw [hg.block k (lt_of_block h) (fun e => by obtain ⟨o, ho, hc⟩ := hr k e.symm; rw [h] at ho; cases ho; cases hc)]
  exact h

set_option maxRecDepth 100000 in
set_option maxHeartbeats 2000000 in
theorem norm_walk (v : Value) (l : List Sp) (w : World) (hv : Sps w v l) (hl : l.length ≤ 1000000000) :
    Calls Try.prog 25 #[v] w fun e w' => ∃ l' va vc, l'.Perm (full l) ∧ Rises l' ∧ e = .returned (.slice va (l'.foldl growL []).length vc) ∧ OwnS w' w.heap.size (.slice va (l'.foldl growL []).length vc) (l'.foldl growL []) ∧ Below w.heap.size w w' := by
  have HV := hid (hv.alloc (.cells #[.slice none 0 0] 28))
  obtain ⟨a0, c0, rfl⟩ := hv.shape
  clear hv
  refine (callsIn_wide (n := 3)).1 ?_
  refine callsIn_of_wp_marks Try.func25 rfl trivial ?_ rfl
  simp only [Try.ntmps25, List.size_toArray, List.length_cons, List.length_nil, Nat.reduceAdd, Nat.reduceSub, Array.replicate_succ, Array.replicate_zero, List.push_toArray, List.append_toArray, List.nil_append, List.cons_append]
  gi_wp2_with (refine ⟨trivial, ?_⟩; gi_at_call 36; refine (callsIn_wide.2 (rising_any _ l _ HV.out hl)).mono ?_; rintro e w1 ⟨B, va, vc, l', rfl, hp, hr, hcB, ho1, hB0, hB1, hb1⟩)
  have hl' : l'.length ≤ 1000000000 := by rw [hp.length_eq]; unfold full; exact Nat.le_trans (List.length_filter_le _ _) hl
  rw [show (w.alloc (.cells #[.slice none 0 0] 28)).heap.size = w.heap.size + 1 from by simp] at ho1 hB0
  have hbox0 : Boxed w1 w.heap.size 28 (.slice none 0 0) := by
    show w1.heap[w.heap.size]? = _
    rw [hb1.block w.heap.size (by simp)]
    exact heap_alloc_new _ _
  have hbw0 : Below w.heap.size w w1 := ((Below.refl _ _).alloc (Nat.le_refl _) _).trans (hb1.mono (by simp))
  have hsv : ∀ k, (Value.slice va l'.length vc).ownBlock = some k → w.heap.size + 1 ≤ k ∧ k < w1.heap.size := fun k hk => World.ownsRow.lt ho1 k hk
  have hs1 : w.heap.size < w1.heap.size := by have := hb1.size; simp at this; omega
  have hheld := ho1.held
  refine wpIn_rangeFunc_ownH (F := Fence.wide) rfl (by omega) (gf := 64) (lb := #[.pointer (some ⟨B, 0, none⟩)]) rfl trivial (enters_of Try.func64 (by kernel_rfl) rfl)
    (values_stops Fence.wide _ trivial rfl (by omega) B (.slice va l'.length vc) l' hl' w1 hB1 hcB hheld) Kept.trans ?keptb (Below.refl _ _) (fun _ => rfl)
    (fun pre W => (∃ u, Boxed W w.heap.size 28 u ∧ OwnS W w1.heap.size u (pre.foldl growL [])) ∧ w1.heap.size ≤ W.heap.size ∧ Below w.heap.size w W)
    (fun _ _ _ => False) ?hI (fun _ _ _ _ _ hs _ _ => hs) ⟨⟨_, hbox0, OwnS.nil _ _⟩, Nat.le_refl _, hbw0⟩
    (fun x a' W => ∃ Bx, W.heap[Bx]? = some (.cells #[.int .i64 x.1, .int .i64 x.2] 33 (0, 0)) ∧ a' = { tmps := #[.slice a0 l.length c0, undef, .slice none 0 0, .pointer (some ⟨w.heap.size, 0, none⟩), .pointer (some ⟨Bx, 0, none⟩), .slice a0 l.length c0, .func (.func 64) #[] #[.pointer (some ⟨B, 0, none⟩)], .agg #[.int .i64 x.1, .int .i64 x.2], undef, undef, undef, undef], defers := [] })
    ?hAx ?assign ?body ?done ?stop
  case keptb =>
    intro W y o o' hy ho _ _ k hk
    have h1 := (hsv k hk).2
    have h2 := lt_of_block ho
    refine (grownBy_putObj' W y o').block k (by omega) fun e => ?_
    have h3 : k = y := by simpa using e
    omega
  case hI =>
    rintro s X Y row ⟨⟨u, hb, hu⟩, hz, hbl⟩ hg hr
    have hr' : ∀ r, row = some r → ∃ o : Obj, X.heap[r]? = some o ∧ o.isCells = false := fun r e => (hr r e).2
    exact ⟨⟨u, cells_turned hb hg hr', hu.turned hg hr'⟩, Nat.le_trans hz hg.size, hbl.grown hg hbl.size (fun k e => by have := (hr k e).1; omega)⟩
  case hAx =>
    rintro x a' s X Y row ⟨Bx, h1, h2⟩ hg hr
    exact ⟨Bx, cells_turned h1 hg fun r e => (hr r e).2, h2⟩
  case assign =>
    rintro y pre x W K ⟨⟨u, hb, hu⟩, hz, hbl⟩ hK
    gi_wp2
    refine hK _ _ ((KeepsOthers.alloc _ _).from _) ?_ ⟨⟨u, hb.alloc _, hu.below ((Below.refl _ _).alloc (Nat.le_refl _) _)⟩, by simp; omega, hbl.alloc hbl.size _⟩ ⟨W.heap.size, heap_alloc_new _ _, rfl⟩
    intro k hk
    exact Below.heap_alloc _ _ _ (by have := (hsv k hk).2; omega)
  case body =>
    rintro y pre x a' W hy _ ⟨⟨u, hb, hu⟩, hz, hbl⟩ ⟨Bx, hX, rfl⟩ hlt
    obtain ⟨ua, uc, rfl⟩ := hu.shape
    have hbc := hb.cell
    have hx0 : W.cell? ⟨Bx, 0, none⟩ = some (.int .i64 x.1) := by rw [cell_of_row W Bx 0 _ _ _ hX]; rfl
    have hx1 : W.cell? ⟨Bx, 1, none⟩ = some (.int .i64 x.2) := by rw [cell_of_row W Bx 1 _ _ _ hX]; rfl
    have hpl : (pre.foldl growL []).length ≤ 1000000000 := by have := growF_len pre []; simp at this; omega
    have HG := hid (grow_any w1.heap.size ua uc (pre.foldl growL []) x W hu hz hpl)
    have HBX := hid hb
    have HBL := hid hbl
    have hfo : (pre ++ [x]).foldl growL [] = growL (pre.foldl growL []) x := by simp
    have HFO := hid hfo
    clear hfo hb hbl hu hX hpl
    generalize pre.foldl growL [] = p at *
    gi_wp2_with (refine ⟨trivial, ?_⟩; gi_at_call 37; refine (CallsIn.inRound y (callsIn_wide.2 HG.out)).mono ?_; rintro e W2 ⟨va2, vc2, rfl, ho2, hb2, hk2⟩; have hbk := hb2.block w.heap.size hs1; have hc2 : W2.cell? ⟨w.heap.size, 0, none⟩ = some (.slice ua p.length uc) := (World.cell?_of_block hbk).trans hbc; have hf2 : W2.frozen? ⟨w.heap.size, 0, none⟩ = false := (World.frozen?_of_block hbk).trans HBX.out.frozen)
    refine ⟨(hk2.trans (KeepsOthers.setCell _ _ _)).from _, ?_, ⟨_, Boxed.set _ (hbk.trans HBX.out), ?_⟩, ?_, ?_⟩
    · intro k hk
      have h1 := hsv k hk
      rw [Below.heap_setCell W2 ⟨w.heap.size, 0, none⟩ _ k (by simp; omega)]
      exact hb2.block k h1.2
    · rw [HFO.out]
      exact ho2.kept fun k hk _ => Below.heap_setCell W2 ⟨w.heap.size, 0, none⟩ _ k (by simp; omega)
    · have := hb2.size
      simp; omega
    · exact (HBL.out.trans (hb2.mono (by omega))).setCell (p := ⟨w.heap.size, 0, none⟩) (Nat.le_refl _) _
  case done =>
    rintro D ys W hD hys ⟨⟨u, hb, hu⟩, hz, hbl⟩ hK
    have HYS := hid hys
    have hbc := hb.cell
    obtain ⟨ua, uc, rfl⟩ := hu.shape
    clear hys
    gi_wp2
    refine ⟨by simp, .inl ⟨_, _, rfl, run_takeDeferred hK, ?_⟩⟩
    refine ⟨_, results_tmp rfl _ _ _, ys, ua, uc, by rw [HYS.out]; exact hp, by rw [HYS.out]; exact hr, rfl, ?_, ?_⟩
    · exact (hu.lower (by omega)).turned (grownBy_putObj' W D (.deferred none)) fun r e => by cases e; exact ⟨_, hK, rfl⟩
    · exact hbl.trans (belowK_b (w := w) (Nat.le_refl _) W D _ _ (by omega) hK rfl rfl)
  case stop =>
    rintro D c pre W _ _ h _
    exact h.elim
end Go.Proofs.Ytbfmanhbbancmaa
