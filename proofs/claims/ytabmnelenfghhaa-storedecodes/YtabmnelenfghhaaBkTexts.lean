/- What texts of a store gives: the texts of its blocks. -/
import Derived.Test.YtabmnelenfghhaaBkChange
import Derived.Test.YtabmnelenfghhaaBkRow
import Derived.Deep.CutBlock
import Derived.Deep.CutRange
namespace Go.Proofs.Ytabmnelenfghhaa
open Go.RowKit Go.Shelf
set_option linter.unusedVariables false
set_option linter.unusedSimpArgs false
attribute [local go_sem] Oper.semAt_some

/-- The texts of the cells from d on, as far as pre tells. -/
def txF (S : StD) (d : Nat) {cnt : Nat} (pre : List (Fin cnt)) : List ByteArray := pre.map fun i => (S.cells.getD (d + i.val) zeroC).text
theorem txF_snoc (S : StD) (d : Nat) {cnt : Nat} (pre : List (Fin cnt)) (x : Fin cnt) : txF S d (pre ++ [x]) = txF S d pre ++ [(S.cells.getD (d + x.val) zeroC).text] := by simp [txF]
theorem txF_len (S : StD) (d : Nat) {cnt : Nat} (pre : List (Fin cnt)) : (txF S d pre).length = pre.length := by simp [txF]
/-- In the loop over cells: the store, the row of texts in the box B5, and all else as it was. -/
structure TI (w5 : World) (b g B5 : Nat) (S : StD) (l : List ByteArray) (W : World) : Prop where
  st : St W b g S
  grown : w5.grownBy W (some B5)
  row : ∃ va vc, W.heap[B5]? = some (.cells #[.slice va l.length vc] 22 (0, 0)) ∧ W.ownsRow w5.heap.size 9 1 (.slice va l.length vc) l.length (tvs l)
theorem cells_turned {X Y : World} {k : Nat} {row : Option Nat} {cs : Array Value} {t : TypeId} {fr : Nat × Nat} (hk : X.heap[k]? = some (.cells cs t fr)) (hg : X.grownBy Y row) (hr : ∀ r, row = some r → ∃ o : Obj, X.heap[r]? = some o ∧ o.isCells = false) : Y.heap[k]? = X.heap[k]? := by
  refine hg.block k (lt_of_block hk) fun e => ?_
  obtain ⟨o, ho, hc⟩ := hr k e.symm
  rw [hk] at ho; cases ho; cases hc
theorem TI.turned {w5 X Y : World} {b g B5 : Nat} {S : StD} {l : List ByteArray} {row : Option Nat} (h : TI w5 b g B5 S l X) (hg : X.grownBy Y row) (hr : ∀ r, row = some r → w5.heap.size ≤ r ∧ ∃ o : Obj, X.heap[r]? = some o ∧ o.isCells = false) : TI w5 b g B5 S l Y := by
  obtain ⟨h1, h2, va, vc, h3, h4⟩ := h
  have hr2 := fun r e => (hr r e).2
  exact ⟨h1.turned hg hr2, h2.andThen hg fun j e => .inl (hr j e).1, va, vc, (cells_turned h3 hg hr2).trans h3, own_kept h4 fun q cs _ hh => cells_turned hh hg hr2⟩
theorem TI.later {w5 X Y : World} {b g B5 : Nat} {S : StD} {l : List ByteArray} (h : TI w5 b g B5 S l X) (hb : Below X.heap.size X Y) : TI w5 b g B5 S l Y := h.turned (row := none) ⟨hb.os, hb.tape, hb.output, hb.size, fun k hk _ => hb.block k hk⟩ (fun r e => by cases e)
theorem keeps_grown {X Y : World} {row : Option Nat} (hg : X.grownBy Y row) (hr : ∀ r, row = some r → ∃ cs t fr, X.heap[r]? = some (.cells cs t fr)) : KeepsOthers X Y := by
  refine KeepsOthers.of_grownBy hg fun j o hj hoj => ?_
  obtain ⟨cs, t, fr, h⟩ := hr j hj
  rw [h] at hoj; cases hoj; rfl
theorem own_cells {w : World} {B : Nat} {e : TypeId} {k n : Nat} {v : Value} {xs : List Value} (h : w.ownsRow B e k v n xs) : ∀ r, v.ownBlock = some r → ∃ cs t fr, w.heap[r]? = some (.cells cs t fr) := by
  intro r hr
  obtain ⟨_, h2⟩ := h
  rcases h2 with ⟨rfl, _⟩ | ⟨g, cap, cur, rfl, -, hh, -⟩
  · cases hr
  · cases hr; exact ⟨_, _, _, hh⟩
set_option linter.unusedSimpArgs false in
set_option maxRecDepth 100000 in
set_option maxHeartbeats 8000000 in
theorem texts_any (b g : Nat) (S : StD) (sp : Sp) (d cnt : Nat) (w : World) (hS : St w b g S) (hf : sp.1 = S.from' + d) (ht : sp.2 = sp.1 + cnt) (hN : d + cnt ≤ S.cells.length) :
    Calls Try.prog 63 #[.pointer (some ⟨b, 0, none⟩), .agg #[.int .i64 sp.1, .int .i64 sp.2]] w fun e w' => ∃ va vc, e = .returned (.slice va cnt vc) ∧ w'.ownsRow w.heap.size 9 1 (.slice va cnt vc) cnt (tvs (txF S d (List.finRange cnt))) ∧ Below w.heap.size w w' ∧ KeepsOthers w w' := by
  have HS := hid hS
  obtain ⟨cf, ct⟩ := sp
  simp only at hf ht ⊢
  have hi := hS.i
  have hif := hi.f
  have hit := hi.t
  have hin := hi.n
  have hlt := hS.lt
  have HF := hid hf
  have HT := hid ht
  have htI : ct ≤ 256 := by omega
  have hcI : cnt ≤ 256 := by omega
  clear hS hi hf ht
  refine (callsIn_wide (n := 3)).1 ?_
  refine callsIn_of_wp_marks Try.func63 rfl trivial ?_ rfl
  simp only [Try.ntmps63, List.size_toArray, List.length_cons, List.length_nil, Nat.reduceAdd, Nat.reduceSub, Array.replicate_succ, Array.replicate_zero, List.push_toArray, List.append_toArray, List.nil_append, List.cons_append]
  refine wpIn_wide.2 ?_
  go_upto_region 2 with fail
  obtain ⟨w1, hw1⟩ : ∃ w1, w1 = (w.alloc (.cells #[.int .i64 cf, .int .i64 ct] 42)).alloc (.cells #[.slice none 0 0] 22) := ⟨_, rfl⟩
  have hb1 : Below w.heap.size w w1 := by rw [hw1]; exact ((Below.refl _ _).alloc (Nat.le_refl _) _).alloc (by simp) _
  have h31 : w1.heap[w.heap.size]? = some (.cells #[.int .i64 cf, .int .i64 ct] 42 (0, 0)) := by rw [hw1]; exact heap_alloc2_old _ _ _
  have h51 : w1.heap[w.heap.size + 1]? = some (.cells #[.slice none 0 0] 22 (0, 0)) := by rw [hw1]; exact heap_alloc2_new _ _ _
  have K1 : Hid (KeepsOthers w w1) := hid (by rw [hw1]; exact (KeepsOthers.alloc _ _).trans (KeepsOthers.alloc _ _))
  have hs1 : w1.heap.size = w.heap.size + 2 := by rw [hw1]; simp
  rw [← hw1]
  clear hw1
  obtain ⟨B3, hB3⟩ : ∃ B, B = w.heap.size := ⟨_, rfl⟩
  obtain ⟨B5, hB5⟩ : ∃ B, B = w.heap.size + 1 := ⟨_, rfl⟩
  rw [← hB3] at h31
  rw [← hB5] at h51
  rw [← hB5, ← hB3]
  have hwB : w.heap.size ≤ B5 := by omega
  have hgB : g < B3 ∧ b < B3 ∧ B3 < B5 ∧ B5 < w1.heap.size := by omega
  have p0 : w1.cell? ⟨B3, 0, none⟩ = some (.int .i64 cf) := by rw [cell_of_row _ _ _ _ _ _ h31]; rfl
  have p1 : w1.cell? ⟨B3, 1, none⟩ = some (.int .i64 ct) := by rw [cell_of_row _ _ _ _ _ _ h31]; rfl
  have B1 := hid hb1
  have H51 := hid h51
  clear hb1 h31 h51 hB3 hB5 hs1
  go_wp2_with (go_at_call 43; refine (within_any b (cf, ct) _).mono ?_; rintro e w5 ⟨rfl, hw5⟩; have W5 := hid hw5; clear hw5)
  have b5 : Below w1.heap.size w1 w5 := by rw [W5.out]; exact ((Below.refl _ _).alloc (Nat.le_refl _) _).alloc (by simp) _
  have hs5 : w5.heap[w1.heap.size]? = some (.cells #[.pointer (some ⟨b, 0, none⟩)] 44 (0, 0)) := by rw [W5.out]; exact heap_alloc2_old _ _ _
  have ho5 : w5.heap[w1.heap.size + 1]? = some (.cells #[.int .i64 cf, .int .i64 ct] 42 (0, 0)) := by rw [W5.out]; exact heap_alloc2_new _ _ _
  have BW5 := hid (B1.out.trans (b5.mono B1.out.size))
  have St5 := hid (HS.out.below BW5.out)
  have H55 := hid ((b5.block B5 (lt_of_block H51.out)).trans H51.out)
  obtain ⟨Bs, hBs⟩ : ∃ A, A = w1.heap.size := ⟨_, rfl⟩
  obtain ⟨Bo, hBo⟩ : ∃ A, A = w1.heap.size + 1 := ⟨_, rfl⟩
  have hs5' : w5.heap.size = w1.heap.size + 2 := by rw [W5.out]; simp
  rw [← hBo, ← hBs]
  rw [← hBs] at hs5
  rw [← hBo] at ho5
  have K5 : Hid (KeepsOthers w w5) := hid ⟨BW5.out.size, fun j o hj _ => (BW5.out.block j (lt_of_block hj)).trans hj⟩
  have hne : B5 < w5.heap.size ∧ Bs < w5.heap.size ∧ Bo < w5.heap.size ∧ g < B5 ∧ b < B5 ∧ g < Bs ∧ g < Bo ∧ B5 < Bs ∧ B5 < Bo := by omega
  clear b5 W5 hs5' hBs hBo p0 p1 B1 H51 K1 hgB
  obtain ⟨cap, hhd, -⟩ := St5.out.head
  go_wp2_with fail
  refine (wpIn_wide (n := 3)).1 ?_
  refine wpIn_rangeFunc_ownH (F := Fence.wide) rfl (by omega) (gf := 70) (lb := #[.pointer (some ⟨Bo, 0, none⟩), .pointer (some ⟨Bs, 0, none⟩)]) rfl trivial (enters_of Try.func70 (by kernel_rfl) rfl)
    (within_stops _ (by omega) Bo Bs b g d cnt S.cells.length cap cf ct S.from' S.to S.fr HF.out HT.out hif htI hN w5 ho5 hs5 hhd) KeptW.trans ?keptb (Below.refl _ _) (fun _ => rfl)
    (fun pre W => TI w5 b g B5 S (txF S d pre) W)
    (fun _ _ _ => False) ?hI (fun _ _ _ _ _ h _ _ => h) ⟨St5.out, World.grownBy.refl _ _, none, 0, H55.out, World.ownsRow_nil _ _ _ _⟩
    (AtF ?Fr)
    (fun _ _ _ _ _ _ h _ _ => h) ?assign ?body ?done (fun _ _ _ _ _ _ h _ => h.elim)
  case keptb =>
    intro W y o o' hy ho _ _ j hj
    have h2 := lt_of_block ho
    have h1 : j < w5.heap.size := by
      simp only [List.mem_cons, List.not_mem_nil, or_false] at hj
      rcases hj with rfl | rfl | rfl <;> omega
    refine (grownBy_putObj' W y o').block j (by omega) fun e => ?_
    have h3 : j = y := by simpa using e
    omega
  case hI =>
    intro s X Y row h hg hr
    exact h.turned hg hr
  case assign =>
    intro y pre x W K h hK
    unfold encW cellAt
    gi_wp2
    refine hK _ _ (KeepsFrom.refl _ _) (fun _ _ => rfl) h ?ax
    case ax =>
      clear hK
      show _ = _
      with_reducible rfl
  case body =>
    rintro y pre x a' W hy _ hTI hfr hlt'
    obtain rfl : a' = _ := hfr
    have HSN := hid (txF_snoc S d pre x)
    have hLl := txF_len S d pre
    obtain ⟨l, hl⟩ : ∃ l, l = txF S d pre := ⟨_, rfl⟩
    rw [← hl] at hTI HSN hLl
    clear hl
    obtain ⟨j, hj⟩ : ∃ j, j = d + x.val := ⟨_, rfl⟩
    rw [← hj] at HSN
    have hjL : j < S.cells.length := by have := x.isLt; omega
    obtain ⟨ct0, -⟩ := hTI.st.row j hjL
    rw [show S.cells.getD j zeroC = S.cells[j] from by simp [List.getD, List.getElem?_eq_getElem hjL]] at HSN
    generalize S.cells[j].text = tx at ct0 HSN
    obtain ⟨va, vc, hb5, hr5⟩ := hTI.row
    have c5 : W.cell? ⟨B5, 0, none⟩ = some (.slice va l.length vc) := by rw [cell_of_row _ _ _ _ _ _ hb5]; rfl
    have hsW := hTI.grown.size
    have HROW : Hid (∀ q, q < w5.heap.size → some q ≠ (Value.slice va l.length vc).ownBlock) := hid fun q hq e => by have := (hr5.lt q e.symm).1; omega
    have hgw : g < w5.heap.size := by omega
    have hB5w : B5 < w5.heap.size := by omega
    have hgW : g < W.heap.size := by omega
    have hgB5 : g ≠ B5 := by omega
    have hl256 : l.length ≤ 256 := by have := hLl; omega
    have HTI := hid hTI
    have HR := hid hr5
    have HB5 := hid hb5
    clear hTI hr5 hb5 hLl
    simp only
    rw [← hj]
    clear hj
    gi_wp2
    refine region_held_round (S := fun X => X.cell? ⟨g, j * 5, none⟩ = some (.string tx)) y (by rintro ⟨_, _, h⟩; exact h) (by kernel_rfl) (by kernel_rfl) ct0 (fun hHeld => ?_)
    refine wpAnyH_take (i := 1) (v := ?rv1) rfl (by kernel_rfl) (by kernel_rfl) (by kernel_rfl) (fun _ _ _ h => h) (Or.inl ⟨by rfl, ?ry1⟩) (by assumption) ?rr1
    case ry1 => (intro w hSw; (try dsimp only at hSw); go_simp; try with_reducible rfl)
    (try simp only [Act.put, List.setIfInBounds_toArray, List.set_cons_zero, List.set_cons_succ, List.getElem_toArray, List.getElem_cons_succ, List.getElem_cons_zero])
    refine wpAnyH_take (i := 2) (v := ?rv2) rfl (by kernel_rfl) (by kernel_rfl) (by kernel_rfl) (fun _ _ _ h => h) (Or.inl ⟨by rfl, ?ry2⟩) (by assumption) ?rr2
    case ry2 => (intro w hSw; (try dsimp only at hSw); go_simp; try with_reducible rfl)
    (try simp only [Act.put, List.setIfInBounds_toArray, List.set_cons_zero, List.set_cons_succ, List.getElem_toArray, List.getElem_cons_succ, List.getElem_cons_zero])
    refine wpAnyH_take (i := 3) (v := ?rv3) rfl (by kernel_rfl) (by kernel_rfl) (by kernel_rfl) (fun _ _ _ h => h) (Or.inl ⟨by rfl, ?ry3⟩) (by assumption) ?rr3
    case ry3 => (intro w hSw; (try dsimp only at hSw); go_simp; try with_reducible rfl)
    (try simp only [Act.put, List.setIfInBounds_toArray, List.set_cons_zero, List.set_cons_succ, List.getElem_toArray, List.getElem_cons_succ, List.getElem_cons_zero])
    refine wpAnyH_take (i := 4) (v := ?rv4) rfl (by kernel_rfl) (by kernel_rfl) (by kernel_rfl) (fun _ _ _ h => h) (Or.inl ⟨by rfl, ?ry4⟩) (by assumption) ?rr4
    case ry4 => (intro w hSw; (try dsimp only at hSw); go_simp; try with_reducible rfl)
    (try simp only [Act.put, List.setIfInBounds_toArray, List.set_cons_zero, List.set_cons_succ, List.getElem_toArray, List.getElem_cons_succ, List.getElem_cons_zero])
    refine wpAnyH_ready (rs := [0, 5]) (by kernel_rfl) (by simp) ?_
    refine AllReadyH.cons rfl (fun K hK => ?_) (AllReadyH.cons rfl (fun K hK => ?_) AllReadyH.nil)
    · rw [if_pos (by rfl)]
      go_simp
      refine hK.out _ _ hHeld (fun hHeld => ?_)
      clear hK K
      (try simp only [Act.put, List.setIfInBounds_toArray, List.set_cons_zero, List.set_cons_succ, List.getElem_toArray, List.getElem_cons_succ, List.getElem_cons_zero])
      refine wpAnyH_ready (rs := [5]) (by kernel_rfl) (by simp) ?_
      refine AllReadyH.cons rfl (fun K hK => ?_) AllReadyH.nil
      rw [if_pos (by rfl)]
      go_simp
      refine hK.out _ _ (cell_later ((Below.refl _ _).alloc (Nat.le_refl _) _) hHeld) (fun hHeld => ?_)
      clear hK K
      (try simp only [Act.put, List.setIfInBounds_toArray, List.set_cons_zero, List.set_cons_succ, List.getElem_toArray, List.getElem_cons_succ, List.getElem_cons_zero])
      refine wpAnyH_ready (rs := [6]) (by kernel_rfl) (by simp) ?_
      refine AllReadyH.cons rfl (fun K hK => ?_) AllReadyH.nil
      rw [if_pos (by rfl)]
      refine wp_app rowStr _ _ rfl w5.heap.size (.slice va l.length vc) l.length (tvs l) rfl (own_below HR.out (((Below.refl _ _).drew).alloc (Nat.le_refl _) _)) W.heap.size 1 1 [.string tx] rfl rfl ?ys (by simp [Value.oneCell']) (by omega) (by simp; omega) ?_
      case ys =>
        intro j' u hj'
        match j' with
        | 0 => simp at hj'; subst hj'; show (W.alloc _).cell? _ = _; rw [cell_of_row _ _ _ _ _ _ (heap_alloc_new W _)]; rfl
        | j' + 1 => simp at hj'
      intro va' vc' W2 ho2 hg2
      have hgb2 : W2.heap[g]? = W.heap[g]? := (hg2.block g (by simp; omega) (HROW.out g hgw)).trans (Below.heap_alloc _ _ _ hgW)
      refine hK.out _ _ ((World.cell?_of_block (a := ⟨g, j * 5, none⟩) hgb2).trans ct0) (fun hHeld => ?_)
      clear hK K
      (try simp only [Act.put, List.setIfInBounds_toArray, List.set_cons_zero, List.set_cons_succ, List.getElem_toArray, List.getElem_cons_succ, List.getElem_cons_zero])
      have hb52 : W2.heap[B5]? = W.heap[B5]? := (hg2.block B5 (by simp; omega) (HROW.out B5 hB5w)).trans (Below.heap_alloc _ _ _ (by omega))
      have c52 : W2.cell? ⟨B5, 0, none⟩ = some (.slice va l.length vc) := (World.cell?_of_block (a := ⟨B5, 0, none⟩) hb52).trans c5
      have f52 : W2.frozen? ⟨B5, 0, none⟩ = false := by simp [World.frozen?, hb52, HB5.out]
      refine wpAnyH_ready (rs := [7]) (by kernel_rfl) (by simp) ?_
      refine AllReadyH.cons rfl (fun K hK => ?_) AllReadyH.nil
      rw [if_pos (by rfl)]
      go_simp
      refine hK.out _ _ ((World.cell?_of_block (a := ⟨g, j * 5, none⟩) (Below.heap_setCell _ ⟨B5, 0, none⟩ _ g hgB5)).trans hHeld) (fun hHeld => ?_)
      clear hK K
      (try simp only [Act.put, List.setIfInBounds_toArray, List.set_cons_zero, List.set_cons_succ, List.getElem_toArray, List.getElem_cons_succ, List.getElem_cons_zero])
      refine wpAnyH_done (by kernel_rfl) ?_ _
      have hK2 : KeepsOthers W W2 := ((KeepsOthers.drew _).trans (KeepsOthers.alloc _ _)).trans (keeps_grown hg2 (own_cells (own_below HR.out (((Below.refl _ _).drew).alloc (Nat.le_refl _) _))))
      have hg12 : W.grownBy W2 (Value.slice va l.length vc).ownBlock := ⟨hg2.os, hg2.tape, hg2.output, by have := hg2.size; simp at this; omega, fun k hk hne => (hg2.block k (by simp; omega) hne).trans (Below.heap_alloc _ _ _ hk)⟩
      have low2 : ∀ q, q < w5.heap.size → W2.heap[q]? = W.heap[q]? := fun q hq => hg12.block q (by omega) (HROW.out q hq)
      have KK := hid hK2
      have OO := hid ho2
      have LL := hid low2
      have GG := hid hg12
      have BB := hid hb52
      clear hK2 ho2 low2 hg12 hg2 hgb2 hb52 c52 f52
      gi_wp2
      refine ⟨(KK.out.trans (KeepsOthers.setCell _ _ _)).from _, ?_, ?_⟩
      · intro q hq
        have hqb : q ≠ B5 ∧ q < w5.heap.size := by
          simp only [List.mem_cons, List.not_mem_nil, or_false] at hq
          rcases hq with rfl | rfl | rfl <;> omega
        rw [Below.heap_setCell W2 ⟨B5, 0, none⟩ _ q hqb.1, LL.out q hqb.2]
      · show TI w5 b g B5 S (txF S d (pre ++ [x])) _
        rw [HSN.out]
        have hst2 : St (W2.setCell ⟨B5, 0, none⟩ (.slice va' (l.length + 1) vc')) b g S := HTI.out.st.kept ((Below.heap_setCell W2 ⟨B5, 0, none⟩ _ b (show b ≠ B5 by omega)).trans (LL.out b (by omega))) ((Below.heap_setCell W2 ⟨B5, 0, none⟩ _ g (show g ≠ B5 by omega)).trans (LL.out g (by omega)))
        refine ⟨hst2, ⟨GG.out.os.trans HTI.out.grown.os, GG.out.tape.trans HTI.out.grown.tape, GG.out.output.trans HTI.out.grown.output, by rw [show (W2.setCell ⟨B5, 0, none⟩ (.slice va' (l.length + 1) vc')).heap.size = W2.heap.size from by simp]; exact Nat.le_trans HTI.out.grown.size GG.out.size, fun k hk hne => ?_⟩, va', vc', ?_, ?_⟩
        · rw [Below.heap_setCell W2 ⟨B5, 0, none⟩ _ k (fun e => hne (by rw [show k = B5 from e])), LL.out k hk]
          exact HTI.out.grown.block k hk hne
        · have := heap_setCell_same W2 B5 0 #[.slice va l.length vc] 22 (.slice va' (l.length + 1) vc') (BB.out.trans HB5.out)
          rw [this]; simp
        · have e : (l ++ [tx]).length = l.length + 1 := by simp
          rw [e, tvs_snoc]
          refine own_kept OO.out fun q cs hq hh => Below.heap_setCell W2 ⟨B5, 0, none⟩ _ q fun e => ?_
          have := (OO.out.lt q hq).1
          subst e
          omega
    · rw [if_pos (by rfl)]
      go_simp
      refine hK.out _ _ (cell_later ((Below.refl _ _).alloc (Nat.le_refl _) _) hHeld) (fun hHeld => ?_)
      clear hK K
      (try simp only [Act.put, List.setIfInBounds_toArray, List.set_cons_zero, List.set_cons_succ, List.getElem_toArray, List.getElem_cons_succ, List.getElem_cons_zero])
      have c5' : ((W.alloc (.cells #[.string tx] 9)).drew).cell? ⟨B5, 0, none⟩ = some (.slice va l.length vc) := cell_later (((Below.refl _ _).alloc (Nat.le_refl W.heap.size) (.cells #[.string tx] 9)).drew) c5
      refine wpAnyH_ready (rs := [0]) (by kernel_rfl) (by simp) ?_
      refine AllReadyH.cons rfl (fun K hK => ?_) AllReadyH.nil
      rw [if_pos (by rfl)]
      go_simp
      refine hK.out _ _ hHeld (fun hHeld => ?_)
      clear hK K
      (try simp only [Act.put, List.setIfInBounds_toArray, List.set_cons_zero, List.set_cons_succ, List.getElem_toArray, List.getElem_cons_succ, List.getElem_cons_zero])
      clear c5'
      refine wpAnyH_ready (rs := [6]) (by kernel_rfl) (by simp) ?_
      refine AllReadyH.cons rfl (fun K hK => ?_) AllReadyH.nil
      rw [if_pos (by rfl)]
      refine wp_app rowStr _ _ rfl w5.heap.size (.slice va l.length vc) l.length (tvs l) rfl (own_below HR.out (((Below.refl _ _).drew).alloc (Nat.le_refl _) _)) W.heap.size 1 1 [.string tx] rfl rfl ?ys (by simp [Value.oneCell']) (by omega) (by simp; omega) ?_
      case ys =>
        intro j' u hj'
        match j' with
        | 0 => simp at hj'; subst hj'; show (W.alloc _).cell? _ = _; rw [cell_of_row _ _ _ _ _ _ (heap_alloc_new W _)]; rfl
        | j' + 1 => simp at hj'
      intro va' vc' W2 ho2 hg2
      have hgb2 : W2.heap[g]? = W.heap[g]? := (hg2.block g (by simp; omega) (HROW.out g hgw)).trans (Below.heap_alloc _ _ _ hgW)
      refine hK.out _ _ ((World.cell?_of_block (a := ⟨g, j * 5, none⟩) hgb2).trans ct0) (fun hHeld => ?_)
      clear hK K
      (try simp only [Act.put, List.setIfInBounds_toArray, List.set_cons_zero, List.set_cons_succ, List.getElem_toArray, List.getElem_cons_succ, List.getElem_cons_zero])
      have hb52 : W2.heap[B5]? = W.heap[B5]? := (hg2.block B5 (by simp; omega) (HROW.out B5 hB5w)).trans (Below.heap_alloc _ _ _ (by omega))
      have c52 : W2.cell? ⟨B5, 0, none⟩ = some (.slice va l.length vc) := (World.cell?_of_block (a := ⟨B5, 0, none⟩) hb52).trans c5
      have f52 : W2.frozen? ⟨B5, 0, none⟩ = false := by simp [World.frozen?, hb52, HB5.out]
      refine wpAnyH_ready (rs := [7]) (by kernel_rfl) (by simp) ?_
      refine AllReadyH.cons rfl (fun K hK => ?_) AllReadyH.nil
      rw [if_pos (by rfl)]
      go_simp
      refine hK.out _ _ ((World.cell?_of_block (a := ⟨g, j * 5, none⟩) (Below.heap_setCell _ ⟨B5, 0, none⟩ _ g hgB5)).trans hHeld) (fun hHeld => ?_)
      clear hK K
      (try simp only [Act.put, List.setIfInBounds_toArray, List.set_cons_zero, List.set_cons_succ, List.getElem_toArray, List.getElem_cons_succ, List.getElem_cons_zero])
      refine wpAnyH_done (by kernel_rfl) ?_ _
      have hK2 : KeepsOthers W W2 := ((KeepsOthers.drew _).trans (KeepsOthers.alloc _ _)).trans (keeps_grown hg2 (own_cells (own_below HR.out (((Below.refl _ _).drew).alloc (Nat.le_refl _) _))))
      have hg12 : W.grownBy W2 (Value.slice va l.length vc).ownBlock := ⟨hg2.os, hg2.tape, hg2.output, by have := hg2.size; simp at this; omega, fun k hk hne => (hg2.block k (by simp; omega) hne).trans (Below.heap_alloc _ _ _ hk)⟩
      have low2 : ∀ q, q < w5.heap.size → W2.heap[q]? = W.heap[q]? := fun q hq => hg12.block q (by omega) (HROW.out q hq)
      have KK := hid hK2
      have OO := hid ho2
      have LL := hid low2
      have GG := hid hg12
      have BB := hid hb52
      clear hK2 ho2 low2 hg12 hg2 hgb2 hb52 c52 f52
      gi_wp2
      refine ⟨(KK.out.trans (KeepsOthers.setCell _ _ _)).from _, ?_, ?_⟩
      · intro q hq
        have hqb : q ≠ B5 ∧ q < w5.heap.size := by
          simp only [List.mem_cons, List.not_mem_nil, or_false] at hq
          rcases hq with rfl | rfl | rfl <;> omega
        rw [Below.heap_setCell W2 ⟨B5, 0, none⟩ _ q hqb.1, LL.out q hqb.2]
      · show TI w5 b g B5 S (txF S d (pre ++ [x])) _
        rw [HSN.out]
        have hst2 : St (W2.setCell ⟨B5, 0, none⟩ (.slice va' (l.length + 1) vc')) b g S := HTI.out.st.kept ((Below.heap_setCell W2 ⟨B5, 0, none⟩ _ b (show b ≠ B5 by omega)).trans (LL.out b (by omega))) ((Below.heap_setCell W2 ⟨B5, 0, none⟩ _ g (show g ≠ B5 by omega)).trans (LL.out g (by omega)))
        refine ⟨hst2, ⟨GG.out.os.trans HTI.out.grown.os, GG.out.tape.trans HTI.out.grown.tape, GG.out.output.trans HTI.out.grown.output, by rw [show (W2.setCell ⟨B5, 0, none⟩ (.slice va' (l.length + 1) vc')).heap.size = W2.heap.size from by simp]; exact Nat.le_trans HTI.out.grown.size GG.out.size, fun k hk hne => ?_⟩, va', vc', ?_, ?_⟩
        · rw [Below.heap_setCell W2 ⟨B5, 0, none⟩ _ k (fun e => hne (by rw [show k = B5 from e])), LL.out k hk]
          exact HTI.out.grown.block k hk hne
        · have := heap_setCell_same W2 B5 0 #[.slice va l.length vc] 22 (.slice va' (l.length + 1) vc') (BB.out.trans HB5.out)
          rw [this]; simp
        · have e : (l ++ [tx]).length = l.length + 1 := by simp
          rw [e, tvs_snoc]
          refine own_kept OO.out fun q cs hq hh => Below.heap_setCell W2 ⟨B5, 0, none⟩ _ q fun e => ?_
          have := (OO.out.lt q hq).1
          subst e
          omega
  intro D ys W hD hys hTI hK
  rw [hys] at hTI
  have hDl := lt_of_block hK
  have HC := hid hTI
  have HK := hid hK
  clear hys hTI hK
  obtain ⟨va, vc, hb5, hr5⟩ := HC.out.row
  have c5 : W.cell? ⟨B5, 0, none⟩ = some (.slice va (txF S d (List.finRange cnt)).length vc) := by rw [cell_of_row _ _ _ _ _ _ hb5]; rfl
  have hlen : (txF S d (List.finRange cnt)).length = cnt := by rw [txF_len]; simp
  rw [hlen] at c5 hr5
  clear hb5 hlen
  have HR := hid hr5
  clear hr5
  go_wp2_with fail
  have gp := grownBy_putObj' W D (.deferred none)
  have rp : ∀ r, some D = some r → w5.heap.size ≤ r ∧ ∃ o : Obj, W.heap[r]? = some o ∧ o.isCells = false := fun r e => by cases e; exact ⟨hD, _, HK.out, rfl⟩
  have C9 := HC.out.turned gp rp
  have R9 := own_kept HR.out (w' := _) fun q cs _ hh => cells_turned hh gp fun r e => (rp r e).2
  refine ⟨by simp, .inl ⟨_, _, rfl, run_takeDeferred HK.out, _, results_tmp rfl _ _ _, va, vc, rfl, own_lower R9 BW5.out.size, ?_, ?_⟩⟩
  · exact ⟨C9.grown.os.trans BW5.out.os, C9.grown.tape.trans BW5.out.tape, C9.grown.output.trans BW5.out.output, Nat.le_trans BW5.out.size C9.grown.size, fun q hq => (C9.grown.block q (Nat.lt_of_lt_of_le hq BW5.out.size) (fun e => by cases e; omega)).trans (BW5.out.block q hq)⟩
  · exact K5.out.trans (keeps_grown C9.grown fun r e => by cases e; exact ⟨_, _, _, H55.out⟩)
end Go.Proofs.Ytabmnelenfghhaa
