/- What Merge of two stores gives. -/
import Derived.Test.YtappdhgabbjoiaaBkMerge
namespace Go.Proofs.Ytappdhgabbjoiaa
open Go.RowKit
attribute [local go_sem] Oper.semAt_some
set_option linter.unusedVariables false
set_option linter.unusedSimpArgs false

/-- What Merge of two stores leaves. -/
def MergeP (S1 S2 : StD) (w : World) (e : Ending) (w' : World) : Prop :=
  (S2.from' = S1.to → ∃ P g', e = .returned (.tuple #[.pointer (some ⟨P, 0, none⟩), .int .i64 0]) ∧ w.heap.size ≤ P ∧ w.heap.size ≤ g' ∧ St w' P g' ⟨S1.from', S2.to, false, S1.cells ++ S2.cells⟩) ∧
  (S2.from' ≠ S1.to → e = .returned (.tuple #[.pointer none, .int .i64 1])) ∧ Below w.heap.size w w'
/-- In the loop over the two: the whole at P so far. -/
structure MI (w : World) (P : Nat) (f t : Int) (l : List CellD) (va : Option Addr) (vc : Nat) (W : World) : Prop where
  head : W.heap[P]? = some (.cells #[.int .i64 f, .int .i64 t, .bool false, .slice va l.length vc] 70 (0, 0))
  row : W.ownsRow w.heap.size 78 5 (.slice va l.length vc) l.length (flat5 l)
  bel : Below w.heap.size w W
theorem MI.later {w X Y : World} {P : Nat} {f t : Int} {l : List CellD} {va : Option Addr} {vc : Nat} (h : MI w P f t l va vc X) (hb : Below X.heap.size X Y) : MI w P f t l va vc Y :=
  ⟨(hb.block P (lt_of_block h.head)).trans h.head, own_below h.row hb, h.bel.trans (hb.mono h.bel.size)⟩
theorem MI.setTo {w X : World} {P : Nat} {f t : Int} {l : List CellD} {va : Option Addr} {vc : Nat} (h : MI w P f t l va vc X) (hP : w.heap.size ≤ P) (t' : Int) : MI w P f t' l va vc (X.setCell ⟨P, 1, none⟩ (.int .i64 t')) := by
  have k : Kt [70] X (X.setCell ⟨P, 1, none⟩ (.int .i64 t')) := (Kt.refl _ _).set P 1 _ h.head (by simp)
  exact ⟨by rw [heap_setCell_same X P 1 _ 70 _ h.head]; simp, own_kt h.row k (by decide), h.bel.setCell (p := ⟨P, 1, none⟩) hP _⟩
theorem MI.setRow {w X : World} {P : Nat} {f t : Int} {l l' : List CellD} {va va' : Option Addr} {vc vc' : Nat} (h : X.heap[P]? = some (.cells #[.int .i64 f, .int .i64 t, .bool false, .slice va l.length vc] 70 (0, 0))) (hb : Below w.heap.size w X) (hP : w.heap.size ≤ P) (hr : X.ownsRow w.heap.size 78 5 (.slice va' l'.length vc') l'.length (flat5 l')) : MI w P f t l' va' vc' (X.setCell ⟨P, 3, none⟩ (.slice va' l'.length vc')) := by
  have k : Kt [70] X (X.setCell ⟨P, 3, none⟩ (.slice va' l'.length vc')) := (Kt.refl _ _).set P 3 _ h (by simp)
  exact ⟨by rw [heap_setCell_same X P 3 _ 70 _ h]; simp, own_kt hr k (by decide), hb.setCell (p := ⟨P, 3, none⟩) hP _⟩
set_option maxRecDepth 100000 in
set_option maxHeartbeats 8000000 in
theorem merge_two (Q b1 g1 b2 g2 : Nat) (S1 S2 : StD) (w : World) (hQ : Two w Q (.pointer (some ⟨b1, 0, none⟩)) (.pointer (some ⟨b2, 0, none⟩))) (h1 : St w b1 g1 S1) (h2 : St w b2 g2 S2) :
    Calls Try.prog 25 #[.slice (some ⟨Q, 0, none⟩) 2 2] w (MergeP S1 S2 w) := by
  have HCn := hid (contains_no Q _ _ w hQ)
  have HST1 := hid h1
  have HST2 := hid h2
  have HC0 : Hid (w.cell? ⟨Q, 0, none⟩ = some (.pointer (some ⟨b1, 0, none⟩))) := hid (by rw [cell_of_row _ _ _ _ _ _ hQ]; rfl)
  have HC1 : Hid (w.cell? ⟨Q, 1, none⟩ = some (.pointer (some ⟨b2, 0, none⟩))) := hid (by rw [cell_of_row _ _ _ _ _ _ hQ]; rfl)
  obtain ⟨s0, -, -, -, -⟩ := h1.cellsAt
  have c0 := HC0.out
  clear h1 h2 hQ
  obtain ⟨w1, hw1⟩ : ∃ w1, w1 = w.alloc (.cells #[.int .i64 S1.from', .int .i64 S1.from', .bool false, .slice none 0 0] 70) := ⟨_, rfl⟩
  have hb1 : Below w.heap.size w w1 := by rw [hw1]; exact (Below.refl _ _).alloc (Nat.le_refl _) _
  have hP1 : w1.heap[w.heap.size]? = some (.cells #[.int .i64 S1.from', .int .i64 S1.from', .bool false, .slice none 0 0] 70 (0, 0)) := by rw [hw1]; exact heap_alloc_new _ _
  have MI0 : Hid (MI w w.heap.size S1.from' S1.from' [] none 0 w1) := hid ⟨hP1, World.ownsRow_nil _ _ _ _, hb1⟩
  have HW1 := hid hw1
  clear hw1 hb1 hP1
  go_enter Try.func25, Try.ntmps25
  go_wp2_with fail
  refine HCn.out.mono ?_
  rintro e w2 ⟨rfl, rfl⟩
  clear HCn
  go_upto_region 5 with fail
  rw [← HW1.out]
  obtain ⟨P, hP⟩ : ∃ P, P = w2.heap.size := ⟨_, rfl⟩
  rw [← hP] at MI0
  rw [← hP]
  have HPw : Hid (w2.heap.size ≤ P) := hid (by omega)
  clear hP HW1 c0 s0
  go_wp2_with fail
  go_loopw [7, 29] (fun _ iv wr => ∃ (i : Nat) (tt : Int) (L : List CellD) (va : Option Addr) (vc : Nat), iv = .int .i64 i ∧ ((i = 0 ∧ tt = S1.from' ∧ L = []) ∨ (i = 1 ∧ tt = S1.to ∧ L = S1.cells) ∨ (i = 2 ∧ tt = S2.to ∧ L = S1.cells ++ S2.cells ∧ S2.from' = S1.to)) ∧ MI w2 P S1.from' tt L va vc wr) (fun _ iv _ => 2 - (intOf iv).toNat)
  case atStart => exact ⟨0, _, _, _, _, rfl, .inl ⟨rfl, rfl, rfl⟩, MI0.out⟩
  case round =>
    obtain ⟨i, tt, L, va, vc, rfl, hcase, hMI⟩ := hrel
    rcases hcase with ⟨rfl, htt, hL⟩ | ⟨rfl, htt, hL⟩ | ⟨rfl, htt, hL, hcon⟩
    · have hll : L.length ≤ 256 := by rw [hL]; simp
      have hdd : (S1.from' != tt) = false := by rw [htt]; simp
      have HTL := hid (And.intro htt hL)
      clear htt hL
      obtain ⟨Sq, hSq⟩ : ∃ Sq, Sq = S1 := ⟨_, rfl⟩
      obtain ⟨bq, hbq⟩ : ∃ bq, bq = b1 := ⟨_, rfl⟩
      obtain ⟨gq, hgq⟩ : ∃ gq, gq = g1 := ⟨_, rfl⟩
      have STQ := HST1
      have CQ := HC0
      rw [← hSq, ← hbq, ← hgq] at STQ
      rw [← hbq] at CQ
      have HBQ : Hid (bq < w2.heap.size) := hid STQ.out.lt.1
      have HSq := hid hSq
      rw [show S1.from' = Sq.from' by rw [hSq]] at hdd
      clear hSq hbq hgq
      have STq := hid (STQ.out.below hMI.bel)
      obtain ⟨s0, s1, s2, capq, s3⟩ := STq.out.cellsAt
      have cq := cell_later hMI.bel CQ.out
      have HMI := hid hMI
      have h0 : wr.cell? ⟨P, 1, none⟩ = some (.int .i64 tt) := by rw [cell_of_row _ _ _ _ _ _ hMI.head]; rfl
      have hqP : bq ≠ P := by have := HBQ.out; have := HPw.out; omega
      have hqlt : bq < w2.heap.size := HBQ.out
      clear hMI s2
      go_upto_region 8 with fail
      clear cq
      go_quiet (fail)
      generalize hW : wr.drewN _ = W
      have hBW : Below wr.heap.size wr W := by rw [← hW]; exact belowN _ _
      have HMI1 := hid (HMI.out.later hBW)
      clear hW hBW s0 s1 s3 h0 HMI STq
      have STq := hid (STQ.out.below HMI1.out.bel)
      obtain ⟨s0, s1, s2, capq, s3⟩ := STq.out.cellsAt
      have h1 : W.cell? ⟨P, 1, none⟩ = some (.int .i64 tt) := by rw [cell_of_row _ _ _ _ _ _ HMI1.out.head]; rfl
      have f1 : W.frozen? ⟨P, 1, none⟩ = false := by simp [World.frozen?, HMI1.out.head]
      obtain ⟨W1, hW1⟩ : ∃ W1, W1 = W.setCell ⟨P, 1, none⟩ (.int .i64 Sq.to) := ⟨_, rfl⟩
      have HMI2 : Hid (MI w2 P S1.from' Sq.to L va vc W1) := hid (by rw [hW1]; exact HMI1.out.setTo HPw.out Sq.to)
      have HW1 := hid hW1
      clear hW1 s0 s2 s3 STq
      go_upto_region 11 with fail
      rw [← HW1.out]
      clear HW1 h1 f1 s1 HMI1
      have STq := hid (STQ.out.below HMI2.out.bel)
      obtain ⟨_, capq', hdq, hrq⟩ := id STq.out
      have s3 : W1.cell? ⟨bq, 3, none⟩ = some (.slice (some ⟨gq, 0, none⟩) Sq.cells.length capq') := by rw [cell_of_row _ _ _ _ _ _ hdq]; rfl
      have c3 : W1.drew.cell? ⟨P, 3, none⟩ = some (.slice va L.length vc) := by show W1.cell? _ = _; rw [cell_of_row _ _ _ _ _ _ HMI2.out.head]; rfl
      have hqn : Sq.cells.length ≤ 256 := by have := STq.out.i.n; have := STq.out.i.f; have := STq.out.i.t; omega
      have hgq : gq < w2.heap.size := STQ.out.lt.2.1
      have HRQ := hid hrq
      have HSL : Hid (∀ Y : World, (∀ q, q < w2.heap.size → Y.heap[q]? = W1.heap[q]?) → Y.cell? ⟨bq, 3, none⟩ = some (.slice (some ⟨gq, 0, none⟩) Sq.cells.length capq')) := hid fun Y hY => (World.cell?_of_block (a := ⟨bq, 3, none⟩) (hY bq hqlt)).trans s3
      clear hdq hrq s3
      refine wp_region_held_drew (S := fun Y => Y.cell? ⟨bq, 3, none⟩ = some (.slice (some ⟨gq, 0, none⟩) Sq.cells.length capq')) (by kernel_rfl) (HSL.out _ (fun _ _ => rfl)) (fun hHeld => ?_)
      refine wpAnyH_take (i := 0) (v := ?axv0) rfl (by kernel_rfl) (by kernel_rfl) (by kernel_rfl) (fun _ _ _ h => h) (Or.inl ⟨by rfl, ?axy0⟩) (by assumption) ?axr0
      case axy0 => (intro w hSw; (try dsimp only at hSw); go_simp; try with_reducible rfl)
      (try simp only [Act.put, List.setIfInBounds_toArray, List.set_cons_zero, List.set_cons_succ, List.getElem_toArray, List.getElem_cons_succ, List.getElem_cons_zero])
      refine wpAnyH_take (i := 1) (v := ?axv1) rfl (by kernel_rfl) (by kernel_rfl) (by kernel_rfl) (fun _ _ _ h => h) (Or.inl ⟨by rfl, ?axy1⟩) (by assumption) ?axr1
      case axy1 => (intro w hSw; (try dsimp only at hSw); go_simp; try with_reducible rfl)
      (try simp only [Act.put, List.setIfInBounds_toArray, List.set_cons_zero, List.set_cons_succ, List.getElem_toArray, List.getElem_cons_succ, List.getElem_cons_zero])
      refine wpAnyH_take (i := 2) (v := ?axv2) rfl (by kernel_rfl) (by kernel_rfl) (by kernel_rfl) (fun _ _ _ h => h) (Or.inl ⟨by rfl, ?axy2⟩) (by assumption) ?axr2
      case axy2 => (intro w hSw; (try dsimp only at hSw); go_simp; try with_reducible rfl)
      (try simp only [Act.put, List.setIfInBounds_toArray, List.set_cons_zero, List.set_cons_succ, List.getElem_toArray, List.getElem_cons_succ, List.getElem_cons_zero])
      refine wpAnyH_take (i := 3) (v := ?axv3) rfl (by kernel_rfl) (by kernel_rfl) (by kernel_rfl) (fun _ _ _ h => h) (Or.inl ⟨by rfl, ?axy3⟩) (by assumption) ?axr3
      case axy3 => (intro w hSw; (try dsimp only at hSw); go_simp; try with_reducible rfl)
      (try simp only [Act.put, List.setIfInBounds_toArray, List.set_cons_zero, List.set_cons_succ, List.getElem_toArray, List.getElem_cons_succ, List.getElem_cons_zero])
      refine wpAnyH_take (i := 5) (v := ?axv5) rfl (by kernel_rfl) (by kernel_rfl) (by kernel_rfl) (fun _ _ _ h => h) (Or.inl ⟨by rfl, ?axy5⟩) (by assumption) ?axr5
      case axy5 => (intro w hSw; (try dsimp only at hSw); go_simp; try with_reducible rfl)
      (try simp only [Act.put, List.setIfInBounds_toArray, List.set_cons_zero, List.set_cons_succ, List.getElem_toArray, List.getElem_cons_succ, List.getElem_cons_zero])
      refine wpAnyH_take (i := 6) (v := ?axv6) rfl (by kernel_rfl) (by kernel_rfl) (by kernel_rfl) (fun _ _ _ h => h) (Or.inl ⟨by rfl, ?axy6⟩) (by assumption) ?axr6
      case axy6 => (intro w hSw; (try dsimp only at hSw); go_simp; try with_reducible rfl)
      (try simp only [Act.put, List.setIfInBounds_toArray, List.set_cons_zero, List.set_cons_succ, List.getElem_toArray, List.getElem_cons_succ, List.getElem_cons_zero])
      refine wpAnyH_take (i := 7) (v := ?axv7) rfl (by kernel_rfl) (by kernel_rfl) (by kernel_rfl) (fun _ _ _ h => h) (Or.inl ⟨by rfl, ?axy7⟩) (by assumption) ?axr7
      case axy7 => (intro w hSw; (try dsimp only at hSw); go_simp; try with_reducible rfl)
      (try simp only [Act.put, List.setIfInBounds_toArray, List.set_cons_zero, List.set_cons_succ, List.getElem_toArray, List.getElem_cons_succ, List.getElem_cons_zero])
      refine wpAnyH_take (i := 8) (v := ?axv8) rfl (by kernel_rfl) (by kernel_rfl) (by kernel_rfl) (fun _ _ _ h => h) (Or.inl ⟨by rfl, ?axy8⟩) (by assumption) ?axr8
      case axy8 => (intro w hSw; (try dsimp only at hSw); go_simp; try with_reducible rfl)
      (try simp only [Act.put, List.setIfInBounds_toArray, List.set_cons_zero, List.set_cons_succ, List.getElem_toArray, List.getElem_cons_succ, List.getElem_cons_zero])
      refine wpAnyH_ready (rs := [4]) (by kernel_rfl) (by simp) ?_
      refine AllReadyH.cons rfl (fun K hK => ?_) AllReadyH.nil
      rw [if_pos (by rfl)]
      go_simp
      refine hK.out _ _ hHeld (fun hHeld => ?_)
      clear hK K c3
      (try simp only [Act.put, List.setIfInBounds_toArray, List.set_cons_zero, List.set_cons_succ, List.getElem_toArray, List.getElem_cons_succ, List.getElem_cons_zero])
      refine wpAnyH_ready (rs := [9]) (by kernel_rfl) (by simp) ?_
      refine AllReadyH.cons rfl (fun K hK => ?_) AllReadyH.nil
      rw [if_pos (by rfl)]
      refine wp_app rowCell _ _ rfl w2.heap.size (.slice va L.length vc) L.length (flat5 L) rfl (own_below HMI2.out.row ((Below.refl _ _).drew)) gq Sq.cells.length capq' (flat5 Sq.cells) rfl (flat5_len _) (fun j u hj => by have := HRQ.out.cells (g := gq) rfl j u hj; rw [Addr.add_lit, Nat.zero_add] at this; exact this) (flat5_one _) (by omega) (by have := HMI2.out.bel.size; exact this) ?_
      intro va' vc' W2 ho2 hg2
      have hb2 : Below w2.heap.size W1 W2 := ((Below.refl _ _).drew).grown hg2 HMI2.out.bel.size (fun k hk => (HMI2.out.row.lt k hk).1)
      refine hK.out _ _ (HSL.out _ (fun q hq => hb2.block q hq)) (fun hHeld => ?_)
      clear hK K
      (try simp only [Act.put, List.setIfInBounds_toArray, List.set_cons_zero, List.set_cons_succ, List.getElem_toArray, List.getElem_cons_succ, List.getElem_cons_zero])
      refine wpAnyH_take (i := 10) (v := ?ayv10) rfl (by kernel_rfl) (by kernel_rfl) (by kernel_rfl) (fun _ _ _ h => h) (Or.inl ⟨by rfl, ?ayy10⟩) (by assumption) ?ayr10
      case ayy10 => (intro w hSw; (try dsimp only at hSw); go_simp; try with_reducible rfl)
      (try simp only [Act.put, List.setIfInBounds_toArray, List.set_cons_zero, List.set_cons_succ, List.getElem_toArray, List.getElem_cons_succ, List.getElem_cons_zero])
      refine wpAnyH_take (i := 11) (v := ?ayv11) rfl (by kernel_rfl) (by kernel_rfl) (by kernel_rfl) (fun _ _ _ h => h) (Or.inl ⟨by rfl, ?ayy11⟩) (by assumption) ?ayr11
      case ayy11 => (intro w hSw; (try dsimp only at hSw); go_simp; try with_reducible rfl)
      (try simp only [Act.put, List.setIfInBounds_toArray, List.set_cons_zero, List.set_cons_succ, List.getElem_toArray, List.getElem_cons_succ, List.getElem_cons_zero])
      have hP2 : W2.heap[P]? = _ := ((hg2.block P (lt_of_block HMI2.out.head) (fun e => by
        obtain ⟨cur, hc⟩ := own_typed HMI2.out.row e.symm
        rw [HMI2.out.head] at hc; cases hc))).trans HMI2.out.head
      have cP2 : W2.cell? ⟨P, 3, none⟩ = some (.slice va L.length vc) := by rw [cell_of_row _ _ _ _ _ _ hP2]; rfl
      have fP2 : W2.frozen? ⟨P, 3, none⟩ = false := by simp [World.frozen?, hP2]
      refine wpAnyH_ready (rs := [12]) (by kernel_rfl) (by simp) ?_
      refine AllReadyH.cons rfl (fun K hK => ?_) AllReadyH.nil
      rw [if_pos (by rfl)]
      go_simp
      refine hK.out _ _ (HSL.out _ (fun q hq => (Below.heap_setCell W2 ⟨P, 3, none⟩ _ q (show q ≠ P by have := HPw.out; omega)).trans (hb2.block q hq))) (fun hHeld => ?_)
      clear hK K
      (try simp only [Act.put, List.setIfInBounds_toArray, List.set_cons_zero, List.set_cons_succ, List.getElem_toArray, List.getElem_cons_succ, List.getElem_cons_zero])
      refine wpAnyH_done (by kernel_rfl) ?_ _
      have hl2 : (L ++ Sq.cells).length = L.length + Sq.cells.length := by simp
      have HMI3 : Hid (MI w2 P S1.from' Sq.to (L ++ Sq.cells) va' vc' (W2.setCell ⟨P, 3, none⟩ (.slice va' (L.length + Sq.cells.length) vc'))) := hid (by
        have := MI.setRow (w := w2) (l' := L ++ Sq.cells) (va' := va') (vc' := vc') hP2 (HMI2.out.bel.trans hb2) HPw.out (by rw [hl2, flat5_append]; exact ho2)
        rwa [hl2] at this)
      clear hP2 cP2 fP2 hb2 ho2 hg2 hl2 hHeld HMI2 HRQ HSL STq
      generalize W2.setCell ⟨P, 3, none⟩ (.slice va' (L.length + Sq.cells.length) vc') = W3 at HMI3 ⊢
      go_wp2_with fail
      go_roundw
      case rel => exact ⟨1, _, _, _, _, by go_num, .inr (.inl ⟨rfl, by rw [HSq.out], by rw [HTL.out.2, HSq.out]; simp⟩), HMI3.out⟩
      case measure => simp [intOf]
    · have hll : L.length ≤ 256 := by rw [hL]; have := HST1.out.i.n; have := HST1.out.i.f; have := HST1.out.i.t; omega
      have HTL := hid (And.intro htt hL)
      obtain ⟨Sq, hSq⟩ : ∃ Sq, Sq = S2 := ⟨_, rfl⟩
      obtain ⟨bq, hbq⟩ : ∃ bq, bq = b2 := ⟨_, rfl⟩
      obtain ⟨gq, hgq⟩ : ∃ gq, gq = g2 := ⟨_, rfl⟩
      have STQ := HST2
      have CQ := HC1
      rw [← hSq, ← hbq, ← hgq] at STQ
      rw [← hbq] at CQ
      have HBQ : Hid (bq < w2.heap.size) := hid STQ.out.lt.1
      have HSq := hid hSq
      by_cases hcon : S2.from' = S1.to
      · have hdd : (Sq.from' != tt) = false := by rw [htt, hSq, hcon]; simp
        have HCON := hid hcon
        clear hSq hbq hgq htt hL hcon
        have STq := hid (STQ.out.below hMI.bel)
        obtain ⟨s0, s1, s2, capq, s3⟩ := STq.out.cellsAt
        have cq := cell_later hMI.bel CQ.out
        have HMI := hid hMI
        have h0 : wr.cell? ⟨P, 1, none⟩ = some (.int .i64 tt) := by rw [cell_of_row _ _ _ _ _ _ hMI.head]; rfl
        have hqP : bq ≠ P := by have := HBQ.out; have := HPw.out; omega
        have hqlt : bq < w2.heap.size := HBQ.out
        clear hMI s2
        go_upto_region 8 with fail
        clear cq
        go_quiet (fail)
        generalize hW : wr.drewN _ = W
        have hBW : Below wr.heap.size wr W := by rw [← hW]; exact belowN _ _
        have HMI1 := hid (HMI.out.later hBW)
        clear hW hBW s0 s1 s3 h0 HMI STq
        have STq := hid (STQ.out.below HMI1.out.bel)
        obtain ⟨s0, s1, s2, capq, s3⟩ := STq.out.cellsAt
        have h1 : W.cell? ⟨P, 1, none⟩ = some (.int .i64 tt) := by rw [cell_of_row _ _ _ _ _ _ HMI1.out.head]; rfl
        have f1 : W.frozen? ⟨P, 1, none⟩ = false := by simp [World.frozen?, HMI1.out.head]
        obtain ⟨W1, hW1⟩ : ∃ W1, W1 = W.setCell ⟨P, 1, none⟩ (.int .i64 Sq.to) := ⟨_, rfl⟩
        have HMI2 : Hid (MI w2 P S1.from' Sq.to L va vc W1) := hid (by rw [hW1]; exact HMI1.out.setTo HPw.out Sq.to)
        have HW1 := hid hW1
        clear hW1 s0 s2 s3 STq
        go_upto_region 11 with fail
        rw [← HW1.out]
        clear HW1 h1 f1 s1 HMI1
        have STq := hid (STQ.out.below HMI2.out.bel)
        obtain ⟨_, capq', hdq, hrq⟩ := id STq.out
        have s3 : W1.cell? ⟨bq, 3, none⟩ = some (.slice (some ⟨gq, 0, none⟩) Sq.cells.length capq') := by rw [cell_of_row _ _ _ _ _ _ hdq]; rfl
        have c3 : W1.drew.cell? ⟨P, 3, none⟩ = some (.slice va L.length vc) := by show W1.cell? _ = _; rw [cell_of_row _ _ _ _ _ _ HMI2.out.head]; rfl
        have hqn : Sq.cells.length ≤ 256 := by have := STq.out.i.n; have := STq.out.i.f; have := STq.out.i.t; omega
        have hgq : gq < w2.heap.size := STQ.out.lt.2.1
        have HRQ := hid hrq
        have HSL : Hid (∀ Y : World, (∀ q, q < w2.heap.size → Y.heap[q]? = W1.heap[q]?) → Y.cell? ⟨bq, 3, none⟩ = some (.slice (some ⟨gq, 0, none⟩) Sq.cells.length capq')) := hid fun Y hY => (World.cell?_of_block (a := ⟨bq, 3, none⟩) (hY bq hqlt)).trans s3
        clear hdq hrq s3
        refine wp_region_held_drew (S := fun Y => Y.cell? ⟨bq, 3, none⟩ = some (.slice (some ⟨gq, 0, none⟩) Sq.cells.length capq')) (by kernel_rfl) (HSL.out _ (fun _ _ => rfl)) (fun hHeld => ?_)
        refine wpAnyH_take (i := 0) (v := ?bxv0) rfl (by kernel_rfl) (by kernel_rfl) (by kernel_rfl) (fun _ _ _ h => h) (Or.inl ⟨by rfl, ?bxy0⟩) (by assumption) ?bxr0
        case bxy0 => (intro w hSw; (try dsimp only at hSw); go_simp; try with_reducible rfl)
        (try simp only [Act.put, List.setIfInBounds_toArray, List.set_cons_zero, List.set_cons_succ, List.getElem_toArray, List.getElem_cons_succ, List.getElem_cons_zero])
        refine wpAnyH_take (i := 1) (v := ?bxv1) rfl (by kernel_rfl) (by kernel_rfl) (by kernel_rfl) (fun _ _ _ h => h) (Or.inl ⟨by rfl, ?bxy1⟩) (by assumption) ?bxr1
        case bxy1 => (intro w hSw; (try dsimp only at hSw); go_simp; try with_reducible rfl)
        (try simp only [Act.put, List.setIfInBounds_toArray, List.set_cons_zero, List.set_cons_succ, List.getElem_toArray, List.getElem_cons_succ, List.getElem_cons_zero])
        refine wpAnyH_take (i := 2) (v := ?bxv2) rfl (by kernel_rfl) (by kernel_rfl) (by kernel_rfl) (fun _ _ _ h => h) (Or.inl ⟨by rfl, ?bxy2⟩) (by assumption) ?bxr2
        case bxy2 => (intro w hSw; (try dsimp only at hSw); go_simp; try with_reducible rfl)
        (try simp only [Act.put, List.setIfInBounds_toArray, List.set_cons_zero, List.set_cons_succ, List.getElem_toArray, List.getElem_cons_succ, List.getElem_cons_zero])
        refine wpAnyH_take (i := 3) (v := ?bxv3) rfl (by kernel_rfl) (by kernel_rfl) (by kernel_rfl) (fun _ _ _ h => h) (Or.inl ⟨by rfl, ?bxy3⟩) (by assumption) ?bxr3
        case bxy3 => (intro w hSw; (try dsimp only at hSw); go_simp; try with_reducible rfl)
        (try simp only [Act.put, List.setIfInBounds_toArray, List.set_cons_zero, List.set_cons_succ, List.getElem_toArray, List.getElem_cons_succ, List.getElem_cons_zero])
        refine wpAnyH_take (i := 5) (v := ?bxv5) rfl (by kernel_rfl) (by kernel_rfl) (by kernel_rfl) (fun _ _ _ h => h) (Or.inl ⟨by rfl, ?bxy5⟩) (by assumption) ?bxr5
        case bxy5 => (intro w hSw; (try dsimp only at hSw); go_simp; try with_reducible rfl)
        (try simp only [Act.put, List.setIfInBounds_toArray, List.set_cons_zero, List.set_cons_succ, List.getElem_toArray, List.getElem_cons_succ, List.getElem_cons_zero])
        refine wpAnyH_take (i := 6) (v := ?bxv6) rfl (by kernel_rfl) (by kernel_rfl) (by kernel_rfl) (fun _ _ _ h => h) (Or.inl ⟨by rfl, ?bxy6⟩) (by assumption) ?bxr6
        case bxy6 => (intro w hSw; (try dsimp only at hSw); go_simp; try with_reducible rfl)
        (try simp only [Act.put, List.setIfInBounds_toArray, List.set_cons_zero, List.set_cons_succ, List.getElem_toArray, List.getElem_cons_succ, List.getElem_cons_zero])
        refine wpAnyH_take (i := 7) (v := ?bxv7) rfl (by kernel_rfl) (by kernel_rfl) (by kernel_rfl) (fun _ _ _ h => h) (Or.inl ⟨by rfl, ?bxy7⟩) (by assumption) ?bxr7
        case bxy7 => (intro w hSw; (try dsimp only at hSw); go_simp; try with_reducible rfl)
        (try simp only [Act.put, List.setIfInBounds_toArray, List.set_cons_zero, List.set_cons_succ, List.getElem_toArray, List.getElem_cons_succ, List.getElem_cons_zero])
        refine wpAnyH_take (i := 8) (v := ?bxv8) rfl (by kernel_rfl) (by kernel_rfl) (by kernel_rfl) (fun _ _ _ h => h) (Or.inl ⟨by rfl, ?bxy8⟩) (by assumption) ?bxr8
        case bxy8 => (intro w hSw; (try dsimp only at hSw); go_simp; try with_reducible rfl)
        (try simp only [Act.put, List.setIfInBounds_toArray, List.set_cons_zero, List.set_cons_succ, List.getElem_toArray, List.getElem_cons_succ, List.getElem_cons_zero])
        refine wpAnyH_ready (rs := [4]) (by kernel_rfl) (by simp) ?_
        refine AllReadyH.cons rfl (fun K hK => ?_) AllReadyH.nil
        rw [if_pos (by rfl)]
        go_simp
        refine hK.out _ _ hHeld (fun hHeld => ?_)
        clear hK K c3
        (try simp only [Act.put, List.setIfInBounds_toArray, List.set_cons_zero, List.set_cons_succ, List.getElem_toArray, List.getElem_cons_succ, List.getElem_cons_zero])
        refine wpAnyH_ready (rs := [9]) (by kernel_rfl) (by simp) ?_
        refine AllReadyH.cons rfl (fun K hK => ?_) AllReadyH.nil
        rw [if_pos (by rfl)]
        refine wp_app rowCell _ _ rfl w2.heap.size (.slice va L.length vc) L.length (flat5 L) rfl (own_below HMI2.out.row ((Below.refl _ _).drew)) gq Sq.cells.length capq' (flat5 Sq.cells) rfl (flat5_len _) (fun j u hj => by have := HRQ.out.cells (g := gq) rfl j u hj; rw [Addr.add_lit, Nat.zero_add] at this; exact this) (flat5_one _) (by omega) (by have := HMI2.out.bel.size; exact this) ?_
        intro va' vc' W2 ho2 hg2
        have hb2 : Below w2.heap.size W1 W2 := ((Below.refl _ _).drew).grown hg2 HMI2.out.bel.size (fun k hk => (HMI2.out.row.lt k hk).1)
        refine hK.out _ _ (HSL.out _ (fun q hq => hb2.block q hq)) (fun hHeld => ?_)
        clear hK K
        (try simp only [Act.put, List.setIfInBounds_toArray, List.set_cons_zero, List.set_cons_succ, List.getElem_toArray, List.getElem_cons_succ, List.getElem_cons_zero])
        refine wpAnyH_take (i := 10) (v := ?byv10) rfl (by kernel_rfl) (by kernel_rfl) (by kernel_rfl) (fun _ _ _ h => h) (Or.inl ⟨by rfl, ?byy10⟩) (by assumption) ?byr10
        case byy10 => (intro w hSw; (try dsimp only at hSw); go_simp; try with_reducible rfl)
        (try simp only [Act.put, List.setIfInBounds_toArray, List.set_cons_zero, List.set_cons_succ, List.getElem_toArray, List.getElem_cons_succ, List.getElem_cons_zero])
        refine wpAnyH_take (i := 11) (v := ?byv11) rfl (by kernel_rfl) (by kernel_rfl) (by kernel_rfl) (fun _ _ _ h => h) (Or.inl ⟨by rfl, ?byy11⟩) (by assumption) ?byr11
        case byy11 => (intro w hSw; (try dsimp only at hSw); go_simp; try with_reducible rfl)
        (try simp only [Act.put, List.setIfInBounds_toArray, List.set_cons_zero, List.set_cons_succ, List.getElem_toArray, List.getElem_cons_succ, List.getElem_cons_zero])
        have hP2 : W2.heap[P]? = _ := ((hg2.block P (lt_of_block HMI2.out.head) (fun e => by
          obtain ⟨cur, hc⟩ := own_typed HMI2.out.row e.symm
          rw [HMI2.out.head] at hc; cases hc))).trans HMI2.out.head
        have cP2 : W2.cell? ⟨P, 3, none⟩ = some (.slice va L.length vc) := by rw [cell_of_row _ _ _ _ _ _ hP2]; rfl
        have fP2 : W2.frozen? ⟨P, 3, none⟩ = false := by simp [World.frozen?, hP2]
        refine wpAnyH_ready (rs := [12]) (by kernel_rfl) (by simp) ?_
        refine AllReadyH.cons rfl (fun K hK => ?_) AllReadyH.nil
        rw [if_pos (by rfl)]
        go_simp
        refine hK.out _ _ (HSL.out _ (fun q hq => (Below.heap_setCell W2 ⟨P, 3, none⟩ _ q (show q ≠ P by have := HPw.out; omega)).trans (hb2.block q hq))) (fun hHeld => ?_)
        clear hK K
        (try simp only [Act.put, List.setIfInBounds_toArray, List.set_cons_zero, List.set_cons_succ, List.getElem_toArray, List.getElem_cons_succ, List.getElem_cons_zero])
        refine wpAnyH_done (by kernel_rfl) ?_ _
        have hl2 : (L ++ Sq.cells).length = L.length + Sq.cells.length := by simp
        have HMI3 : Hid (MI w2 P S1.from' Sq.to (L ++ Sq.cells) va' vc' (W2.setCell ⟨P, 3, none⟩ (.slice va' (L.length + Sq.cells.length) vc'))) := hid (by
          have := MI.setRow (w := w2) (l' := L ++ Sq.cells) (va' := va') (vc' := vc') hP2 (HMI2.out.bel.trans hb2) HPw.out (by rw [hl2, flat5_append]; exact ho2)
          rwa [hl2] at this)
        clear hP2 cP2 fP2 hb2 ho2 hg2 hl2 hHeld HMI2 HRQ HSL STq
        generalize W2.setCell ⟨P, 3, none⟩ (.slice va' (L.length + Sq.cells.length) vc') = W3 at HMI3 ⊢
        go_wp2_with fail
        go_roundw
        case rel => exact ⟨2, _, _, _, _, by go_num, .inr (.inr ⟨rfl, by rw [HSq.out], by rw [HTL.out.2, HSq.out], HCON.out⟩), HMI3.out⟩
        case measure => simp [intOf]
      · have hdd : (Sq.from' != tt) = true := by rw [htt, hSq]; simpa using hcon
        have HCON := hid hcon
        clear hSq hbq hgq htt hL hcon
        have STq := hid (STQ.out.below hMI.bel)
        obtain ⟨s0, s1, s2, capq, s3⟩ := STq.out.cellsAt
        have cq := cell_later hMI.bel CQ.out
        have HMI := hid hMI
        have h0 : wr.cell? ⟨P, 1, none⟩ = some (.int .i64 tt) := by rw [cell_of_row _ _ _ _ _ _ hMI.head]; rfl
        have hqP : bq ≠ P := by have := HBQ.out; have := HPw.out; omega
        have hqlt : bq < w2.heap.size := HBQ.out
        clear hMI s2
        go_upto_region 8 with fail
        clear cq
        go_quiet (fail)
        generalize hW : wr.drewN _ = W
        have hBW : Below wr.heap.size wr W := by rw [← hW]; exact belowN _ _
        have HMI1 := hid (HMI.out.later hBW)
        clear hW hBW s0 s1 s3 h0 HMI STq
        go_wp2_with fail
        go_ret2
        exact ⟨fun h => absurd h HCON.out, fun _ => rfl, HMI1.out.bel⟩
    · have HMI := hid hMI
      have HALL := hid (And.intro htt (And.intro hL hcon))
      clear htt hL hcon hMI
      go_wp2_with fail
      go_ret2
      refine ⟨fun h => ?_, fun h => absurd HALL.out.2.2 h, HMI.out.bel⟩
      have hn1 := HST1.out.i.n
      have hn2 := HST2.out.i.n
      have hf1 := HST1.out.i.ft
      have hf2 := HST2.out.i.ft
      have hr := HMI.out.row
      have hh := HMI.out.head
      rw [HALL.out.2.1] at hr hh
      rw [HALL.out.1] at hh
      obtain ⟨g9, cp9, e9, hg9⟩ := own_some' hr (by simp; omega)
      cases e9
      exact ⟨P, g9, rfl, HPw.out, hg9, ⟨HST1.out.i.f, HST2.out.i.t, by show S1.from' < S2.to; omega, by show ((S1.cells ++ S2.cells).length : Int) = S2.to - S1.from'; simp; omega⟩, _, hh, own_lower hr (Nat.zero_le _)⟩
end Go.Proofs.Ytappdhgabbjoiaa
