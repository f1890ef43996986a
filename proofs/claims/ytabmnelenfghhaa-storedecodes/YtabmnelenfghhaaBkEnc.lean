/- What Encode of a store gives: its bytes. Conditions: the store lies in memory, its cells may be. -/
import Derived.Test.YtabmnelenfghhaaBkTexts
import Derived.Test.YtabmnelenfghhaaBkCOk
import Derived.Test.YtabmnelenfghhaaWk
namespace Go.Proofs.Ytabmnelenfghhaa
open Go.RowKit Go.Shelf
set_option linter.unusedVariables false
set_option linter.unusedSimpArgs false
attribute [local go_sem] Oper.semAt_some

def mkN (c : CellD) : List Int := [c.m 0, c.m 1, c.m 2, c.m 3]
/-- A mark's bytes. -/
def mB (n : Int) : List UInt8 := numB n.toNat
/-- A cell's bytes. -/
def cellB (c : CellD) : List UInt8 := textB c.text ++ (mkN c).flatMap mB
def headB (S : StD) : List UInt8 := numB S.from'.toNat ++ numB S.to.toNat ++ [if S.fr then 1 else 0]
/-- A store's bytes. -/
def codeB (S : StD) : List UInt8 := headB S ++ S.cells.flatMap cellB
theorem COk.size {c : CellD} (h : COk c) : c.text.size ≤ 4096 := by
  have := h.1
  unfold isTextB at this
  simp only [Bool.and_eq_true, decide_eq_true_eq] at this
  exact this.1
theorem mB_len {n : Int} (h : 0 ≤ n ∧ n ≤ 1099511627776) : (mB n).length ≤ 10 := numB_len _ (by omega)
theorem mkN_ok {c : CellD} (h : COk c) : ∀ n ∈ mkN c, 0 ≤ n ∧ n ≤ 1099511627776 := by
  intro n hn
  simp [mkN] at hn
  rcases hn with rfl | rfl | rfl | rfl <;> exact h.2 _
theorem cellB_len {c : CellD} (h : COk c) : (cellB c).length ≤ 5000 := by
  unfold cellB textB
  have h1 := h.size
  have h2 := numB_len c.text.size (by omega)
  have h3 := flat_lenM mB (mkN c) 10 fun n hn => mB_len (mkN_ok h n hn)
  have h4 : (mkN c).length = 4 := rfl
  rw [h4] at h3
  simp only [List.length_append, Array.length_toList, ByteArray.size_data]
  omega
theorem headB_len {S : StD} (h : StI S) : (headB S).length ≤ 21 := by
  unfold headB
  have h1 := h.f
  have h2 := h.t
  have h3 := h.ft
  have a := numB_len S.from'.toNat (by omega)
  have b := numB_len S.to.toNat (by omega)
  simp only [List.length_append, List.length_singleton]
  omega
theorem Wr.turned {X Y : World} {wb : Nat} {l : List UInt8} {row : Option Nat} (h : Wr X wb l) (hg : X.grownBy Y row) (hr : ∀ r, row = some r → ∃ o : Obj, X.heap[r]? = some o ∧ o.isCells = false) : Wr Y wb l := by
  obtain ⟨va, vc, h1, h2⟩ := h
  exact ⟨va, vc, (cells_turned h1 hg hr).trans h1, own_kept h2 fun q cs _ hh => cells_turned hh hg hr⟩
/-- In the loop over cells: the store, the Writer at wb, its pointer in the box P; nothing below wb has turned. -/
structure EI (w : World) (wb P b g : Nat) (S : StD) (l : List UInt8) (W : World) : Prop where
  st : St W b g S
  wr : Wr W wb l
  box : W.heap[P]? = some (.cells #[.pointer (some ⟨wb, 0, none⟩)] 32 (0, 0))
  bel : Below wb w W
theorem EI.next {w : World} {wb P b g : Nat} {S : StD} {l l' : List UInt8} {X Y : World} (h : EI w wb P b g S l X) (hw : Wr Y wb l') (hb : Wb wb X Y) (hl : b < wb ∧ g < wb) : EI w wb P b g S l' Y :=
  ⟨h.st.kept (hb.bel.block b hl.1) (hb.bel.block g hl.2), hw, (hb.kt _ _ _ _ h.box (by decide)).trans h.box, h.bel.trans hb.bel⟩
theorem EI.turned {w5 w X Y : World} {wb P b g : Nat} {S : StD} {l : List UInt8} {row : Option Nat} (h : EI w wb P b g S l X) (hw : wb ≤ w5.heap.size) (hg : X.grownBy Y row) (hr : ∀ r, row = some r → w5.heap.size ≤ r ∧ ∃ o : Obj, X.heap[r]? = some o ∧ o.isCells = false) : EI w wb P b g S l Y := by
  obtain ⟨h1, h2, h3, h4⟩ := h
  have hr2 := fun r e => (hr r e).2
  refine ⟨h1.turned hg hr2, h2.turned hg hr2, (cells_turned h3 hg hr2).trans h3, h4.trans ⟨hg.os, hg.tape, hg.output, hg.size, fun k hk => hg.block k (Nat.lt_trans hk h2.lt) fun e => ?_⟩⟩
  have := (hr k e.symm).1
  omega
theorem EI.cells {w : World} {wb P b g : Nat} {S : StD} {l : List UInt8} {W : World} (h : EI w wb P b g S l W) : W.cell? ⟨P, 0, none⟩ = some (.pointer (some ⟨wb, 0, none⟩)) ∧ W.cell? ⟨b, 0, none⟩ = some (.int .i64 S.from') ∧ W.cell? ⟨b, 1, none⟩ = some (.int .i64 S.to) ∧ W.cell? ⟨b, 2, none⟩ = some (.bool S.fr) := by
  obtain ⟨s0, s1, s2, -⟩ := h.st.cellsAt
  exact ⟨by rw [cell_of_row _ _ _ _ _ _ h.box]; rfl, s0, s1, s2⟩
/-- The bytes of the cells, as far as pre tells. -/
def csF (S : StD) {cnt : Nat} (pre : List (Fin cnt)) : List UInt8 := pre.flatMap fun x => cellB (S.cells.getD x.val zeroC)
theorem csF_snoc (S : StD) {cnt : Nat} (pre : List (Fin cnt)) (x : Fin cnt) : csF S (pre ++ [x]) = csF S pre ++ cellB (S.cells.getD x.val zeroC) := by simp [csF]
theorem csF_len {S : StD} (h : SOk S) {cnt : Nat} (pre : List (Fin cnt)) : (csF S pre).length ≤ 5000 * pre.length := flat_lenM _ pre 5000 fun x _ => cellB_len (getD_ok h _)
theorem csF_all (S : StD) : csF S (List.finRange S.cells.length) = S.cells.flatMap cellB := by
  have h : S.cells = (List.finRange S.cells.length).map fun x => S.cells.getD x.val zeroC := by
    apply List.ext_getElem
    · simp
    · intro i h1 h2
      simp [List.getElem?_eq_getElem h1]
  unfold csF
  conv => rhs; rw [h]
  rw [List.flatMap_map]
/-- The same, and the loop's boxes. -/
structure EJ (w w5 : World) (wb P b g : Nat) (S : StD) (hB : List UInt8) (Bo Bs : Nat) {cnt : Nat} (pre : List (Fin cnt)) (W : World) : Prop where
  ei : EI w wb P b g S (hB ++ csF S pre) W
  bo : W.heap[Bo]? = w5.heap[Bo]?
  bs : W.heap[Bs]? = w5.heap[Bs]?
theorem Try.underlyingMk : Try.prog.underlying 98 = some (.array 4 3) := by kernel_rfl
theorem index_marks (w : World) (ns : List Int) (a0 a1 a2 a3 : Int) (hns : ns = [a0, a1, a2, a3]) (i : Nat) (hi : i < ns.length) :
    (Instr.index 98 (.agg #[.int .i64 a0, .int .i64 a1, .int .i64 a2, .int .i64 a3]) (.int .i64 (i : Int))).run Try.prog w = .ok (.int .i64 ns[i]) w := by
  subst hns
  match i, hi with
  | 0, h => simp [Instr.index, run_underlying Try.underlyingMk, asIntOf, go_sem]
  | 1, h => simp [Instr.index, run_underlying Try.underlyingMk, asIntOf, go_sem]
  | 2, h => simp [Instr.index, run_underlying Try.underlyingMk, asIntOf, go_sem]
  | 3, h => simp [Instr.index, run_underlying Try.underlyingMk, asIntOf, go_sem]
set_option maxRecDepth 100000 in
set_option maxHeartbeats 8000000 in
theorem encode_any (b g : Nat) (S : StD) (w : World) (hS : St w b g S) (hk : SOk S) :
    Calls Try.prog 18 #[.pointer (some ⟨b, 0, none⟩)] w fun e w' => ∃ va vc, e = .returned (.slice va (codeB S).length vc) ∧ Own w' w.heap.size (.slice va (codeB S).length vc) (codeB S) ∧ Below w.heap.size w w' := by
  have HS := hid hS
  have HK := hid hk
  have hi := hS.i
  have hif := hi.f
  have hit := hi.t
  have hin := hi.n
  have hlt := hS.lt
  have hift := hi.ft
  have HI := hid hi
  have HHL := hid (headB_len hi)
  clear hS hi hk
  refine (callsIn_wide (n := 3)).1 ?_
  refine callsIn_of_wp_marks Try.func18 rfl trivial ?_ rfl
  simp only [Try.ntmps18, List.size_toArray, List.length_cons, List.length_nil, Nat.reduceAdd, Nat.reduceSub, Array.replicate_succ, Array.replicate_zero, List.push_toArray, List.append_toArray, List.nil_append, List.cons_append]
  refine wpIn_wide.2 ?_
  go_upto_region 4 with fail
  obtain ⟨w1, hw1⟩ : ∃ w1, w1 = (w.alloc (.cells #[.slice none 0 0] 30)).alloc (.cells #[.pointer (some ⟨w.heap.size, 0, none⟩)] 32) := ⟨_, rfl⟩
  have hb1 : Below w.heap.size w w1 := by rw [hw1]; exact ((Below.refl _ _).alloc (Nat.le_refl _) _).alloc (by simp) _
  have hW1 : w1.heap[w.heap.size]? = some (.cells #[.slice none 0 0] 30 (0, 0)) := by rw [hw1]; exact heap_alloc2_old _ _ _
  have hP1 : w1.heap[w.heap.size + 1]? = some (.cells #[.pointer (some ⟨w.heap.size, 0, none⟩)] 32 (0, 0)) := by rw [hw1]; exact heap_alloc2_new _ _ _
  rw [← hw1]
  clear hw1
  obtain ⟨wb, hwb⟩ : ∃ B, B = w.heap.size := ⟨_, rfl⟩
  obtain ⟨P, hP⟩ : ∃ B, B = w.heap.size + 1 := ⟨_, rfl⟩
  rw [← hwb] at hW1 hb1
  rw [← hP, ← hwb] at hP1
  rw [← hP, ← hwb]
  have E1 : Hid (EI w wb P b g S [] w1) := hid ⟨HS.out.below (by rw [← hwb]; exact hb1), ⟨none, 0, hW1, Own.nil _ _⟩, hP1, hb1⟩
  have hl2 : b < wb ∧ g < wb := by omega
  have HWB := hid hwb
  have hPw : wb < P := by omega
  clear hwb hP hW1 hP1 hb1 HS
  have htf : 0 ≤ S.to := by omega
  have u1 : IntKind.u64.wrap S.from' = S.from' := IntWalk.u64_in _ ⟨by omega, by omega⟩
  have u2 : IntKind.u64.wrap S.to = S.to := IntWalk.u64_in _ ⟨by omega, by omega⟩
  have HN1 := hid (numB_len S.from'.toNat (by omega))
  have HN2 := hid (numB_len S.to.toNat (by omega))
  refine wp_region_noPanic ?_
  refine wp_region_held_drew (S := fun X => X.cell? ⟨P, 0, none⟩ = some (.pointer (some ⟨wb, 0, none⟩)) ∧ X.cell? ⟨b, 0, none⟩ = some (.int .i64 S.from') ∧ X.cell? ⟨b, 1, none⟩ = some (.int .i64 S.to) ∧ X.cell? ⟨b, 2, none⟩ = some (.bool S.fr)) (by kernel_rfl) E1.out.cells (fun hHeld => ?_)
  refine wpAnyH_take (i := 0) (v := ?pv0) rfl (by kernel_rfl) (by kernel_rfl) (by kernel_rfl) (fun _ _ _ h => h) (Or.inl ⟨by rfl, ?py0⟩) (by assumption) ?pr0
  case py0 => (intro w hSw; (try dsimp only at hSw); go_simp; try with_reducible rfl)
  (try simp only [Act.put, List.setIfInBounds_toArray, List.set_cons_zero, List.set_cons_succ, List.getElem_toArray, List.getElem_cons_succ, List.getElem_cons_zero])
  refine wpAnyH_take (i := 1) (v := ?pv1) rfl (by kernel_rfl) (by kernel_rfl) (by kernel_rfl) (fun _ _ _ h => h) (Or.inl ⟨by rfl, ?py1⟩) (by assumption) ?pr1
  case py1 => (intro w hSw; (try dsimp only at hSw); go_simp; try with_reducible rfl)
  (try simp only [Act.put, List.setIfInBounds_toArray, List.set_cons_zero, List.set_cons_succ, List.getElem_toArray, List.getElem_cons_succ, List.getElem_cons_zero])
  refine wpAnyH_take (i := 2) (v := ?pv2) rfl (by kernel_rfl) (by kernel_rfl) (by kernel_rfl) (fun _ _ _ h => h) (Or.inl ⟨by rfl, ?py2⟩) (by assumption) ?pr2
  case py2 => (intro w hSw; (try dsimp only at hSw); go_simp; try with_reducible rfl)
  (try simp only [Act.put, List.setIfInBounds_toArray, List.set_cons_zero, List.set_cons_succ, List.getElem_toArray, List.getElem_cons_succ, List.getElem_cons_zero])
  refine wpAnyH_take (i := 3) (v := ?pv3) rfl (by kernel_rfl) (by kernel_rfl) (by kernel_rfl) (fun _ _ _ h => h) (Or.inl ⟨by rfl, ?py3⟩) (by assumption) ?pr3
  case py3 => (intro w hSw; (try dsimp only at hSw); go_simp; try with_reducible rfl)
  (try simp only [Act.put, List.setIfInBounds_toArray, List.set_cons_zero, List.set_cons_succ, List.getElem_toArray, List.getElem_cons_succ, List.getElem_cons_zero])
  refine wpAnyH_take (i := 4) (v := ?pv4) rfl (by kernel_rfl) (by kernel_rfl) (by kernel_rfl) (fun _ _ _ h => h) (Or.inl ⟨by rfl, ?py4⟩) (by assumption) ?pr4
  case py4 => (intro w hSw; (try dsimp only at hSw); go_simp; try with_reducible rfl)
  (try simp only [Act.put, List.setIfInBounds_toArray, List.set_cons_zero, List.set_cons_succ, List.getElem_toArray, List.getElem_cons_succ, List.getElem_cons_zero])
  refine wpAnyH_take (i := 5) (v := ?pv5) rfl (by kernel_rfl) (by kernel_rfl) (by kernel_rfl) (fun _ _ _ h => h) (Or.inl ⟨by rfl, ?py5⟩) (by assumption) ?pr5
  case py5 => (intro w hSw; (try dsimp only at hSw); go_simp; try with_reducible rfl)
  (try simp only [Act.put, List.setIfInBounds_toArray, List.set_cons_zero, List.set_cons_succ, List.getElem_toArray, List.getElem_cons_succ, List.getElem_cons_zero])
  refine wpAnyH_take (i := 6) (v := ?pv6) rfl (by kernel_rfl) (by kernel_rfl) (by kernel_rfl) (fun _ _ _ h => h) (Or.inl ⟨by rfl, ?py6⟩) (by assumption) ?pr6
  case py6 => (intro w hSw; (try dsimp only at hSw); go_simp; try with_reducible rfl)
  (try simp only [Act.put, List.setIfInBounds_toArray, List.set_cons_zero, List.set_cons_succ, List.getElem_toArray, List.getElem_cons_succ, List.getElem_cons_zero])
  refine wpAnyH_ready (rs := [7]) (by kernel_rfl) (by simp) ?_
  refine AllReadyH.cons rfl (fun K hK => ?_) AllReadyH.nil
  rw [if_pos (by rfl)]
  go_wp2_with fail
  refine (num_kt wb [] _ _ hif (by omega) (E1.out.wr.below ((Below.refl _ _).drew)) (by simp)).mono ?_
  rintro e w2 ⟨rfl, hw2, hb2⟩
  have E2 := hid (E1.out.next hw2 ((Wb.new (b := wb) ((Below.refl _ _).drew) (Nat.le_of_lt E1.out.wr.lt)).trans hb2) hl2)
  clear hw2 hb2
  refine hK.out _ _ E2.out.cells (fun hHeld => ?_)
  try clear hK K
  (try simp only [Act.put, List.setIfInBounds_toArray, List.set_cons_zero, List.set_cons_succ, List.getElem_toArray, List.getElem_cons_succ, List.getElem_cons_zero])
  refine wpAnyH_done (by kernel_rfl) ?_ _
  simp only [NoPanic]
  clear hHeld E1
  go_upto_region 5 with fail
  refine wp_region_noPanic ?_
  refine wp_region_held_drew (S := fun X => X.cell? ⟨P, 0, none⟩ = some (.pointer (some ⟨wb, 0, none⟩)) ∧ X.cell? ⟨b, 0, none⟩ = some (.int .i64 S.from') ∧ X.cell? ⟨b, 1, none⟩ = some (.int .i64 S.to) ∧ X.cell? ⟨b, 2, none⟩ = some (.bool S.fr)) (by kernel_rfl) E2.out.cells (fun hHeld => ?_)
  refine wpAnyH_take (i := 0) (v := ?qv0) rfl (by kernel_rfl) (by kernel_rfl) (by kernel_rfl) (fun _ _ _ h => h) (Or.inl ⟨by rfl, ?qy0⟩) (by assumption) ?qr0
  case qy0 => (intro w hSw; (try dsimp only at hSw); go_simp; try with_reducible rfl)
  (try simp only [Act.put, List.setIfInBounds_toArray, List.set_cons_zero, List.set_cons_succ, List.getElem_toArray, List.getElem_cons_succ, List.getElem_cons_zero])
  refine wpAnyH_take (i := 1) (v := ?qv1) rfl (by kernel_rfl) (by kernel_rfl) (by kernel_rfl) (fun _ _ _ h => h) (Or.inl ⟨by rfl, ?qy1⟩) (by assumption) ?qr1
  case qy1 => (intro w hSw; (try dsimp only at hSw); go_simp; try with_reducible rfl)
  (try simp only [Act.put, List.setIfInBounds_toArray, List.set_cons_zero, List.set_cons_succ, List.getElem_toArray, List.getElem_cons_succ, List.getElem_cons_zero])
  refine wpAnyH_take (i := 2) (v := ?qv2) rfl (by kernel_rfl) (by kernel_rfl) (by kernel_rfl) (fun _ _ _ h => h) (Or.inl ⟨by rfl, ?qy2⟩) (by assumption) ?qr2
  case qy2 => (intro w hSw; (try dsimp only at hSw); go_simp; try with_reducible rfl)
  (try simp only [Act.put, List.setIfInBounds_toArray, List.set_cons_zero, List.set_cons_succ, List.getElem_toArray, List.getElem_cons_succ, List.getElem_cons_zero])
  refine wpAnyH_take (i := 3) (v := ?qv3) rfl (by kernel_rfl) (by kernel_rfl) (by kernel_rfl) (fun _ _ _ h => h) (Or.inl ⟨by rfl, ?qy3⟩) (by assumption) ?qr3
  case qy3 => (intro w hSw; (try dsimp only at hSw); go_simp; try with_reducible rfl)
  (try simp only [Act.put, List.setIfInBounds_toArray, List.set_cons_zero, List.set_cons_succ, List.getElem_toArray, List.getElem_cons_succ, List.getElem_cons_zero])
  refine wpAnyH_take (i := 4) (v := ?qv4) rfl (by kernel_rfl) (by kernel_rfl) (by kernel_rfl) (fun _ _ _ h => h) (Or.inl ⟨by rfl, ?qy4⟩) (by assumption) ?qr4
  case qy4 => (intro w hSw; (try dsimp only at hSw); go_simp; try with_reducible rfl)
  (try simp only [Act.put, List.setIfInBounds_toArray, List.set_cons_zero, List.set_cons_succ, List.getElem_toArray, List.getElem_cons_succ, List.getElem_cons_zero])
  refine wpAnyH_take (i := 5) (v := ?qv5) rfl (by kernel_rfl) (by kernel_rfl) (by kernel_rfl) (fun _ _ _ h => h) (Or.inl ⟨by rfl, ?qy5⟩) (by assumption) ?qr5
  case qy5 => (intro w hSw; (try dsimp only at hSw); go_simp; try with_reducible rfl)
  (try simp only [Act.put, List.setIfInBounds_toArray, List.set_cons_zero, List.set_cons_succ, List.getElem_toArray, List.getElem_cons_succ, List.getElem_cons_zero])
  refine wpAnyH_take (i := 6) (v := ?qv6) rfl (by kernel_rfl) (by kernel_rfl) (by kernel_rfl) (fun _ _ _ h => h) (Or.inl ⟨by rfl, ?qy6⟩) (by assumption) ?qr6
  case qy6 => (intro w hSw; (try dsimp only at hSw); go_simp; try with_reducible rfl)
  (try simp only [Act.put, List.setIfInBounds_toArray, List.set_cons_zero, List.set_cons_succ, List.getElem_toArray, List.getElem_cons_succ, List.getElem_cons_zero])
  refine wpAnyH_ready (rs := [7]) (by kernel_rfl) (by simp) ?_
  refine AllReadyH.cons rfl (fun K hK => ?_) AllReadyH.nil
  rw [if_pos (by rfl)]
  go_wp2_with fail
  refine (num_kt wb _ _ _ htf (by omega) (E2.out.wr.below ((Below.refl _ _).drew)) (by have := HN1.out; simp; omega)).mono ?_
  rintro e w3 ⟨rfl, hw3, hb3⟩
  have E3 := hid (E2.out.next hw3 ((Wb.new (b := wb) ((Below.refl _ _).drew) (Nat.le_of_lt E2.out.wr.lt)).trans hb3) hl2)
  clear hw3 hb3
  refine hK.out _ _ E3.out.cells (fun hHeld => ?_)
  try clear hK K
  (try simp only [Act.put, List.setIfInBounds_toArray, List.set_cons_zero, List.set_cons_succ, List.getElem_toArray, List.getElem_cons_succ, List.getElem_cons_zero])
  refine wpAnyH_done (by kernel_rfl) ?_ _
  simp only [NoPanic]
  clear hHeld E2
  go_upto_region 6 with fail
  refine wp_region_noPanic ?_
  refine wp_region_held_drew (S := fun X => X.cell? ⟨P, 0, none⟩ = some (.pointer (some ⟨wb, 0, none⟩)) ∧ X.cell? ⟨b, 0, none⟩ = some (.int .i64 S.from') ∧ X.cell? ⟨b, 1, none⟩ = some (.int .i64 S.to) ∧ X.cell? ⟨b, 2, none⟩ = some (.bool S.fr)) (by kernel_rfl) E3.out.cells (fun hHeld => ?_)
  refine wpAnyH_take (i := 0) (v := ?rv0) rfl (by kernel_rfl) (by kernel_rfl) (by kernel_rfl) (fun _ _ _ h => h) (Or.inl ⟨by rfl, ?ry0⟩) (by assumption) ?rr0
  case ry0 => (intro w hSw; (try dsimp only at hSw); go_simp; try with_reducible rfl)
  (try simp only [Act.put, List.setIfInBounds_toArray, List.set_cons_zero, List.set_cons_succ, List.getElem_toArray, List.getElem_cons_succ, List.getElem_cons_zero])
  refine wpAnyH_take (i := 1) (v := ?rv1) rfl (by kernel_rfl) (by kernel_rfl) (by kernel_rfl) (fun _ _ _ h => h) (Or.inl ⟨by rfl, ?ry1⟩) (by assumption) ?rr1
  case ry1 => (intro w hSw; (try dsimp only at hSw); go_simp; try with_reducible rfl)
  (try simp only [Act.put, List.setIfInBounds_toArray, List.set_cons_zero, List.set_cons_succ, List.getElem_toArray, List.getElem_cons_succ, List.getElem_cons_zero])
  refine wpAnyH_take (i := 2) (v := ?rv2) rfl (by kernel_rfl) (by kernel_rfl) (by kernel_rfl) (fun _ _ _ h => h) (Or.inl ⟨by rfl, ?ry2⟩) (by assumption) ?rr2
  case ry2 => (intro w hSw; (try dsimp only at hSw); go_simp; try with_reducible rfl)
  (try simp only [Act.put, List.setIfInBounds_toArray, List.set_cons_zero, List.set_cons_succ, List.getElem_toArray, List.getElem_cons_succ, List.getElem_cons_zero])
  refine wpAnyH_take (i := 3) (v := ?rv3) rfl (by kernel_rfl) (by kernel_rfl) (by kernel_rfl) (fun _ _ _ h => h) (Or.inl ⟨by rfl, ?ry3⟩) (by assumption) ?rr3
  case ry3 => (intro w hSw; (try dsimp only at hSw); go_simp; try with_reducible rfl)
  (try simp only [Act.put, List.setIfInBounds_toArray, List.set_cons_zero, List.set_cons_succ, List.getElem_toArray, List.getElem_cons_succ, List.getElem_cons_zero])
  refine wpAnyH_take (i := 4) (v := ?rv4) rfl (by kernel_rfl) (by kernel_rfl) (by kernel_rfl) (fun _ _ _ h => h) (Or.inl ⟨by rfl, ?ry4⟩) (by assumption) ?rr4
  case ry4 => (intro w hSw; (try dsimp only at hSw); go_simp; try with_reducible rfl)
  (try simp only [Act.put, List.setIfInBounds_toArray, List.set_cons_zero, List.set_cons_succ, List.getElem_toArray, List.getElem_cons_succ, List.getElem_cons_zero])
  refine wpAnyH_ready (rs := [5]) (by kernel_rfl) (by simp) ?_
  refine AllReadyH.cons rfl (fun K hK => ?_) AllReadyH.nil
  rw [if_pos (by rfl)]
  go_wp2_with fail
  refine (bool_kt wb _ _ _ (E3.out.wr.below ((Below.refl _ _).drew)) (by have := HN1.out; have := HN2.out; simp; omega)).mono ?_
  rintro e w4 ⟨rfl, hw4, hb4⟩
  have E4 := hid (E3.out.next hw4 ((Wb.new (b := wb) ((Below.refl _ _).drew) (Nat.le_of_lt E3.out.wr.lt)).trans hb4) hl2)
  clear hw4 hb4
  refine hK.out _ _ E4.out.cells (fun hHeld => ?_)
  try clear hK K
  (try simp only [Act.put, List.setIfInBounds_toArray, List.set_cons_zero, List.set_cons_succ, List.getElem_toArray, List.getElem_cons_succ, List.getElem_cons_zero])
  refine wpAnyH_done (by kernel_rfl) ?_ _
  simp only [NoPanic]
  clear hHeld E3
  have HCN := hid (show ((S.cells.length : Nat) : Int) = S.to - S.from' from hin)
  obtain ⟨cnt, hcnt⟩ : ∃ cnt, cnt = S.cells.length := ⟨_, rfl⟩
  have HT : Hid (S.to = S.from' + cnt) := hid (by rw [hcnt]; omega)
  have hcI : cnt ≤ 256 := by omega
  obtain ⟨p0, s0, s1, s2⟩ := E4.out.cells
  clear p0 s2 u1 u2 HN1 HN2
  go_wp2_with (go_at_call 43; refine (within_any b (S.from', S.to) _).mono ?_; rintro e w5 ⟨rfl, hw5⟩; have W5 := hid hw5; clear hw5)
  have b5 : Below w4.heap.size w4 w5 := by rw [W5.out]; exact ((Below.refl _ _).alloc (Nat.le_refl _) _).alloc (by simp) _
  have hs5 : w5.heap[w4.heap.size]? = some (.cells #[.pointer (some ⟨b, 0, none⟩)] 44 (0, 0)) := by rw [W5.out]; exact heap_alloc2_old _ _ _
  have ho5 : w5.heap[w4.heap.size + 1]? = some (.cells #[.int .i64 S.from', .int .i64 S.to] 42 (0, 0)) := by rw [W5.out]; exact heap_alloc2_new _ _ _
  have E5 := hid (E4.out.next (E4.out.wr.below b5) (Wb.new (b := wb) b5 (Nat.le_of_lt E4.out.wr.lt)) hl2)
  have hPl := lt_of_block E4.out.box
  obtain ⟨Bs, hBs⟩ : ∃ A, A = w4.heap.size := ⟨_, rfl⟩
  obtain ⟨Bo, hBo⟩ : ∃ A, A = w4.heap.size + 1 := ⟨_, rfl⟩
  have hs5' : w5.heap.size = w4.heap.size + 2 := by rw [W5.out]; simp
  rw [← hBo, ← hBs]
  rw [← hBs] at hs5
  rw [← hBo] at ho5
  have hne : wb < w5.heap.size ∧ P < w5.heap.size ∧ Bs < w5.heap.size ∧ Bo < w5.heap.size ∧ P < Bs ∧ P < Bo := by omega
  clear b5 W5 hs5' hBs hBo s0 s1 hPl E4
  obtain ⟨cap, hhd, -⟩ := E5.out.st.head
  have hhd' : w5.heap[b]? = some (.cells #[.int .i64 S.from', .int .i64 S.to, .bool S.fr, .slice (some ⟨g, 0, none⟩) cnt cap] 91 (0, 0)) := by rw [hcnt]; exact hhd
  clear hhd
  obtain ⟨hB, hhB⟩ : ∃ hB, hB = headB S := ⟨_, rfl⟩
  have E6 : Hid (EI w wb P b g S (hB ++ csF S ([] : List (Fin cnt))) w5) := hid (by rw [hhB]; have := E5.out; unfold headB csF; simpa using this)
  have HHL' : Hid (hB.length ≤ 21) := hid (by rw [hhB]; exact HHL.out)
  have HHB := hid hhB
  clear hhB E5 HHL
  go_wp2_with fail
  refine (wpIn_wide (n := 3)).1 ?_
  refine wpIn_rangeFunc_ownH (F := Fence.wide) rfl (by omega) (gf := 70) (lb := #[.pointer (some ⟨Bo, 0, none⟩), .pointer (some ⟨Bs, 0, none⟩)]) rfl trivial (enters_of Try.func70 (by kernel_rfl) rfl)
    (within_stops _ (by omega) Bo Bs b g 0 cnt cnt cap S.from' S.to S.from' S.to S.fr (by omega) HT.out hif hit (by omega) w5 ho5 hs5 hhd') KeptW.trans ?keptb (Below.refl _ _) (fun _ => rfl)
    (fun pre W => EJ w w5 wb P b g S hB Bo Bs pre W)
    (fun _ _ _ => False) ?hI (fun _ _ _ _ _ h _ _ => h) ⟨E6.out, rfl, rfl⟩
    (AtF ?Fr)
    (fun _ _ _ _ _ _ h _ _ => h) ?assign ?body ?done (fun _ _ _ _ _ _ h _ => h.elim)
  case keptb =>
    intro W y o o' hy ho _ _ j hj
    have h2 := lt_of_block ho
    have h1 : j < w5.heap.size := by
      simp only [List.mem_cons, List.not_mem_nil, or_false] at hj
      rcases hj with rfl | rfl | rfl <;> omega
    refine (grownBy_putObj' W y o').block j (by omega) fun e => ?_
    have h3 : j = y := by simpa using e
    omega
  case hI =>
    intro s X Y row h hg hr
    have hr2 := fun r e => (hr r e).2
    refine ⟨h.ei.turned (w5 := w5) (by omega) hg hr, ?_, ?_⟩
    · exact (cells_turned (h.bo.trans ho5) hg hr2).trans h.bo
    · exact (cells_turned (h.bs.trans hs5) hg hr2).trans h.bs
  case assign =>
    intro y pre x W K h hK
    unfold encW cellAt
    gi_wp2
    refine hK _ _ (KeepsFrom.refl _ _) (fun _ _ => rfl) h ?ax
    case ax =>
      clear hK
      show _ = _
      with_reducible rfl
  case body =>
    rintro y pre x a' W hy _ hTI hfr hlt'
    obtain rfl : a' = _ := hfr
    obtain ⟨hEI, hKo, hKs⟩ := hTI
    have HSN := hid (show hB ++ csF S (pre ++ [x]) = (hB ++ csF S pre) ++ cellB (S.cells.getD x.val zeroC) by rw [csF_snoc, List.append_assoc])
    have hpl : (hB ++ csF S pre).length ≤ 2000000 := by
      have h1 := csF_len HK.out pre
      have := HHL'.out
      rw [List.length_append]
      omega
    obtain ⟨l, hl⟩ : ∃ l, l = hB ++ csF S pre := ⟨_, rfl⟩
    rw [← hl] at hEI HSN hpl
    clear hl
    obtain ⟨j, hj⟩ : ∃ j, j = x.val := ⟨_, rfl⟩
    rw [← hj] at HSN
    have hjL : j < S.cells.length := by have := x.isLt; omega
    have hCO := HK.out S.cells[j] (List.getElem_mem hjL)
    rw [show S.cells.getD j zeroC = S.cells[j] from by simp [List.getD, List.getElem?_eq_getElem hjL]] at HSN
    have ct0 := (hEI.st.row j hjL).1
    have HTX : Hid (∃ tx, tx = S.cells[j].text) := hid ⟨_, rfl⟩
    clear HTX
    obtain ⟨tx, hTXe⟩ : ∃ tx, tx = S.cells[j].text := ⟨_, rfl⟩
    have HTX : Hid (S.cells[j].text = tx) := hid hTXe.symm
    have htl : tx.size ≤ 4096 := by rw [hTXe]; exact hCO.size
    rw [← hTXe] at ct0
    clear hTXe
    have HMO := hid (mkN_ok hCO)
    have HEI := hid hEI
    have HKO := hid (And.intro hKo hKs)
    have c0 := hEI.cells.1
    clear hEI hKo hKs hCO
    simp only
    rw [← hj]
    clear hj
    gi_wp2
    refine region_held_round (S := fun X => X.cell? ⟨P, 0, none⟩ = some (.pointer (some ⟨wb, 0, none⟩)) ∧ X.cell? ⟨g, j * 5, none⟩ = some (.string tx)) y (by rintro ⟨_, _, h⟩; exact h) (by kernel_rfl) (by kernel_rfl) ⟨c0, ct0⟩ (fun hHeld => ?_)
    refine wpAnyH_take (i := 0) (v := ?bv0) rfl (by kernel_rfl) (by kernel_rfl) (by kernel_rfl) (fun _ _ _ h => h) (Or.inl ⟨by rfl, ?by0⟩) (by assumption) ?br0
    case by0 => (intro w hSw; (try dsimp only at hSw); go_simp; try with_reducible rfl)
    (try simp only [Act.put, List.setIfInBounds_toArray, List.set_cons_zero, List.set_cons_succ, List.getElem_toArray, List.getElem_cons_succ, List.getElem_cons_zero])
    refine wpAnyH_take (i := 1) (v := ?bv1) rfl (by kernel_rfl) (by kernel_rfl) (by kernel_rfl) (fun _ _ _ h => h) (Or.inl ⟨by rfl, ?by1⟩) (by assumption) ?br1
    case by1 => (intro w hSw; (try dsimp only at hSw); go_simp; try with_reducible rfl)
    (try simp only [Act.put, List.setIfInBounds_toArray, List.set_cons_zero, List.set_cons_succ, List.getElem_toArray, List.getElem_cons_succ, List.getElem_cons_zero])
    refine wpAnyH_take (i := 2) (v := ?bv2) rfl (by kernel_rfl) (by kernel_rfl) (by kernel_rfl) (fun _ _ _ h => h) (Or.inl ⟨by rfl, ?by2⟩) (by assumption) ?br2
    case by2 => (intro w hSw; (try dsimp only at hSw); go_simp; try with_reducible rfl)
    (try simp only [Act.put, List.setIfInBounds_toArray, List.set_cons_zero, List.set_cons_succ, List.getElem_toArray, List.getElem_cons_succ, List.getElem_cons_zero])
    refine wpAnyH_take (i := 3) (v := ?bv3) rfl (by kernel_rfl) (by kernel_rfl) (by kernel_rfl) (fun _ _ _ h => h) (Or.inl ⟨by rfl, ?by3⟩) (by assumption) ?br3
    case by3 => (intro w hSw; (try dsimp only at hSw); go_simp; try with_reducible rfl)
    (try simp only [Act.put, List.setIfInBounds_toArray, List.set_cons_zero, List.set_cons_succ, List.getElem_toArray, List.getElem_cons_succ, List.getElem_cons_zero])
    refine wpAnyH_take (i := 4) (v := ?bv4) rfl (by kernel_rfl) (by kernel_rfl) (by kernel_rfl) (fun _ _ _ h => h) (Or.inl ⟨by rfl, ?by4⟩) (by assumption) ?br4
    case by4 => (intro w hSw; (try dsimp only at hSw); go_simp; try with_reducible rfl)
    (try simp only [Act.put, List.setIfInBounds_toArray, List.set_cons_zero, List.set_cons_succ, List.getElem_toArray, List.getElem_cons_succ, List.getElem_cons_zero])
    refine wpAnyH_ready (rs := [5]) (by kernel_rfl) (by simp) ?_
    refine AllReadyH.cons rfl (fun K hK => ?_) AllReadyH.nil
    rw [if_pos (by rfl)]
    go_wp2_with fail
    refine (text_kt wb l tx _ (HEI.out.wr.below ((Below.refl _ _).drew)) (by omega)).mono ?_
    rintro e W2 ⟨rfl, hw2, hb2⟩
    have HB2 := hid ((Wb.new (b := wb) ((Below.refl _ _).drew) (Nat.le_of_lt HEI.out.wr.lt)).trans hb2)
    have HE2 := hid (HEI.out.next hw2 HB2.out hl2)
    clear hw2 hb2
    refine hK.out _ _ ⟨HE2.out.cells.1, (HE2.out.st.row j hjL).1.trans (by rw [HTX.out])⟩ (fun hHeld => ?_)
    try clear hK K
    (try simp only [Act.put, List.setIfInBounds_toArray, List.set_cons_zero, List.set_cons_succ, List.getElem_toArray, List.getElem_cons_succ, List.getElem_cons_zero])
    refine wpAnyH_done (by kernel_rfl) ?_ _
    clear c0 ct0 hHeld
    have hm := (HE2.out.st.row j hjL).2
    have m0 : W2.cell? ⟨g, j * 5 + 1, none⟩ = some (.int .i64 (S.cells[j].m 0)) := hm 0
    have m1 : W2.cell? ⟨g, j * 5 + 2, none⟩ = some (.int .i64 (S.cells[j].m 1)) := hm 1
    have m2 : W2.cell? ⟨g, j * 5 + 3, none⟩ = some (.int .i64 (S.cells[j].m 2)) := hm 2
    have m3 : W2.cell? ⟨g, j * 5 + 4, none⟩ = some (.int .i64 (S.cells[j].m 3)) := hm 3
    clear hm
    have HCB : Hid (cellB S.cells[j] = textB tx ++ (mkN S.cells[j]).flatMap mB) := hid (by rw [← HTX.out]; rfl)
    rw [HCB.out] at HSN
    clear HCB HTX
    obtain ⟨ns, hns⟩ : ∃ ns, ns = mkN S.cells[j] := ⟨_, rfl⟩
    have hns' : ns = [S.cells[j].m 0, S.cells[j].m 1, S.cells[j].m 2, S.cells[j].m 3] := hns
    rw [← hns] at HSN HMO
    clear hns
    generalize S.cells[j].m 0 = y0 at *
    generalize S.cells[j].m 1 = y1 at *
    generalize S.cells[j].m 2 = y2 at *
    generalize S.cells[j].m 3 = y3 at *
    have HNL : Hid (ns.length = 4) := hid (by rw [hns']; rfl)
    have HIX := hid (fun W i hi => index_marks W ns y0 y1 y2 y3 hns' i hi)
    clear hns'
    gi_wp2
    clear m0 m1 m2 m3
    gi_loopw [7, 52] (fun _ iv wr => ∃ i : Nat, iv = .int .i64 i ∧ i ≤ 4 ∧ Wr wr wb (l ++ textB tx ++ (ns.take i).flatMap mB) ∧ Wb wb W2 wr) (fun _ iv _ => 4 - (intOf iv).toNat)
    case atStart => exact ⟨0, rfl, Nat.zero_le _, by simpa using HE2.out.wr, Wb.refl _ _⟩
    case round =>
      obtain ⟨i, rfl, hi, hwr, hbr⟩ := hrel
      have HWR := hid hwr
      have HBR := hid hbr
      clear hwr hbr
      have htb := textB_lenM tx (by omega)
      have hfl := flat_take_lenM mB ns i 10 fun n hn => mB_len (HMO.out n hn)
      have hlen : (l ++ textB tx ++ (ns.take i).flatMap mB).length ≤ 4000000 := by
        rw [HNL.out] at hfl
        rw [List.length_append, List.length_append]; omega
      have HLEN := hid hlen
      clear hfl hlen htb
      by_cases hlt4 : (i : Int) < 4
      · have hil : i < ns.length := by rw [HNL.out]; omega
        have hix := HIX.out wr i hil
        have hn := HMO.out ns[i] (List.getElem_mem hil)
        have HFT := hid (flat_take mB ns i hil)
        have hbx := (HBR.out.kt _ _ _ _ HE2.out.box (by decide)).trans HE2.out.box
        have c0 : wr.cell? ⟨P, 0, none⟩ = some (.pointer (some ⟨wb, 0, none⟩)) := by rw [cell_of_row _ _ _ _ _ _ hbx]; rfl
        clear hbx
        generalize ns[i] = n at hix hn HFT
        obtain ⟨hn0, hn1⟩ := hn
        have hu : IntKind.u64.wrap n = n := IntWalk.u64_in _ ⟨by omega, by omega⟩
        gi_wp2_with (refine ⟨trivial, ?_⟩; gi_at_call 41; refine (CallsIn.inRound y (callsIn_wide.2 (num_kt wb _ n _ hn0 (by omega) HWR.out (by have := HLEN.out; omega)))).mono ?_; rintro e W3 ⟨rfl, hw3, hb3⟩; have W3' := hid hw3; have B3' := hid (HBR.out.trans hb3); clear hw3 hb3)
        go_roundw
        case rel =>
          refine ⟨i + 1, by go_num, by omega, ?_, B3'.out⟩
          rw [HFT.out, ← List.append_assoc]; exact W3'.out
        case measure => simp [intOf]; omega
      · obtain rfl : i = 4 := by omega
        have hB4 := HB2.out.trans HBR.out
        have hE4 := HE2.out.next HWR.out HBR.out hl2
        have H4 := hid hB4
        have H5 := hid hE4
        clear hB4 hE4
        gi_wp2
        have hTk : ns.take 4 = ns := List.take_of_length_le (by rw [HNL.out]; exact Nat.le_refl _)
        refine ⟨H4.out.ko.from _, ?_, ?_⟩
        · intro q hq
          simp only [List.mem_cons, List.not_mem_nil, or_false] at hq
          rcases hq with rfl | rfl | rfl
          · exact H4.out.kt _ _ _ _ (HKO.out.1.trans ho5) (by decide)
          · exact H4.out.kt _ _ _ _ (HKO.out.2.trans hs5) (by decide)
          · exact H4.out.bel.block _ hl2.1
        · refine ⟨?_, ?_, ?_⟩
          · have := H5.out
            rw [hTk] at this
            rw [HSN.out, ← List.append_assoc]; exact this
          · exact (H4.out.kt _ _ _ _ (HKO.out.1.trans ho5) (by decide)).trans HKO.out.1
          · exact (H4.out.kt _ _ _ _ (HKO.out.2.trans hs5) (by decide)).trans HKO.out.2
  intro D ys W hD hys hTI hK
  rw [hys] at hTI
  have hDl := lt_of_block hK
  have HC := hid hTI.ei
  have HD := hid hK
  have hcW := hTI.ei.cells.1
  have hwl := hTI.ei.wr
  have hWl : (hB ++ csF S (List.finRange cnt)).length ≤ 2000000 := by
    have h1 := csF_len HK.out (List.finRange cnt)
    rw [List.length_finRange] at h1
    have := HHL'.out
    rw [List.length_append]
    omega
  clear hys hTI hK
  have HE : Hid (hB ++ csF S (List.finRange cnt) = codeB S) := hid (by rw [hcnt, csF_all, HHB.out]; rfl)
  rw [HE.out] at hwl hWl
  have HWL := hid hwl
  clear hwl
  go_wp2_with (go_at_call 9; refine (bytes_any wb (codeB S) _ HWL.out (by omega)).mono ?_; rintro e w6 ⟨va, vc, rfl, ho6, hb6⟩; have O6 := hid ho6; have B6 := hid hb6; clear ho6 hb6)
  have HD6 := hid ((B6.out.block D hDl).trans HD.out)
  have gp := grownBy_putObj' w6 D (.deferred none)
  have rp : ∀ r, some D = some r → ∃ o : Obj, w6.heap[r]? = some o ∧ o.isCells = false := fun r e => by cases e; exact ⟨_, HD6.out, rfl⟩
  have R9 := own_kept O6.out (w' := _) fun q cs _ hh => cells_turned hh gp rp
  have hwW := HWL.out.lt
  refine ⟨by simp, .inl ⟨_, _, rfl, run_takeDeferred HD6.out, _, results_tmp rfl _ _ _, va, vc, rfl, own_lower R9 (by rw [← HWB.out]; omega), ?_⟩⟩
  rw [← HWB.out]
  refine (HC.out.bel.trans (B6.out.mono (Nat.le_of_lt hwW))).trans ⟨gp.os, gp.tape, gp.output, gp.size, fun q hq => gp.block q (Nat.lt_of_lt_of_le (Nat.lt_trans hq hwW) B6.out.size) (fun e => by cases e; omega)⟩
end Go.Proofs.Ytabmnelenfghhaa
