/- What Apply of a store answers and leaves. -/
import Derived.Test.YtabmnelenfghhaaBkChange
import Derived.Test.YtabmnelenfghhaaBkReply
import Derived.Deep.CutBlock
import Derived.Deep.CutRange
import Derived.Deep.RegionHeld3
namespace Go.Proofs.Ytabmnelenfghhaa
open Go.RowKit Go.Shelf

/-- Has the store all the blocks that it asks for? -/
def inB (S : StD) (c : CmdD) : Bool := decide (S.from' ≤ c.from') && decide (c.to ≤ S.to)
/-- A reply is put into its box. -/
theorem reply_end {w w8 : World} {b g B : Nat} {S : StD} {u0 u1 : Value} (v0 v1 : Value) (h : w8.heap[B]? = some (.cells #[u0, u1] 60 (0, 0))) (hst : St w8 b g S) (hb : B ≠ b ∧ B ≠ g) (hg : w.grownBy w8 (some g)) (hk : KeepsOthers w w8) (hw : w.heap.size ≤ B) :
    ((w8.setCell ⟨B, 0, none⟩ v0).setCell ⟨B, 1, none⟩ v1).heap[B]? = some (.cells #[v0, v1] 60 (0, 0)) ∧ St ((w8.setCell ⟨B, 0, none⟩ v0).setCell ⟨B, 1, none⟩ v1) b g S ∧ w.grownBy ((w8.setCell ⟨B, 0, none⟩ v0).setCell ⟨B, 1, none⟩ v1) (some g) ∧ KeepsOthers w ((w8.setCell ⟨B, 0, none⟩ v0).setCell ⟨B, 1, none⟩ v1) := by
  have low : ∀ q, q ≠ B → ((w8.setCell ⟨B, 0, none⟩ v0).setCell ⟨B, 1, none⟩ v1).heap[q]? = w8.heap[q]? := fun q hq => (Below.heap_setCell _ ⟨B, 1, none⟩ _ q hq).trans (Below.heap_setCell _ ⟨B, 0, none⟩ _ q hq)
  refine ⟨?_, hst.kept (low b (fun e => hb.1 e.symm)) (low g (fun e => hb.2 e.symm)), ⟨hg.os, hg.tape, hg.output, by simpa using hg.size, fun q hq hne => (low q (by omega)).trans (hg.block q hq hne)⟩, hk.trans ((KeepsOthers.setCell _ _ _).trans (KeepsOthers.setCell _ _ _))⟩
  have h1 := heap_setCell_same w8 B 0 #[u0, u1] 60 v0 h
  have h2 := heap_setCell_same (w8.setCell ⟨B, 0, none⟩ v0) B 1 _ 60 v1 h1
  rw [h2]; simp
set_option linter.unusedSimpArgs false in
set_option maxRecDepth 100000 in
set_option maxHeartbeats 1000000 in
theorem apply_write (b g : Nat) (S : StD) (c : CmdD) (k : Fin 4) (d cnt : Nat) (u : Value) (w : World) (hS : St w b g S) (hu : CmdOk w c u) (hm : mayB c = true) (hop : c.op = 2 ∨ c.op = 3) (hfr : S.fr = false) (hk : c.client = (k.val : Int)) (hf : c.from' = S.from' + d) (ht : c.to = c.from' + cnt) (hN : d + cnt ≤ S.cells.length)
    (hdl : c.op = 2 → c.data.length = cnt) (hug : ∀ a n cp, u = .slice (some a) n cp → 0 < n → a.block ≠ g) :
    Calls Try.prog 25 #[.pointer (some ⟨b, 0, none⟩), cmdV c u] w fun e w' => e = .returned (.tuple #[.agg #[.bool true, .slice none 0 0], .int .i64 0]) ∧ St w' b g (S.put (chF c k d cnt S.cells (List.finRange cnt))) ∧ w.grownBy w' (some g) ∧ KeepsOthers w w' := by
  have HCH := hid fun W (h1 : St W b g S) (h2 : Strs W u c.data) => change_any b g S c k d cnt u W h1 h2 hk hf ht hN hdl hug
  have hin : decide (S.from' ≤ c.from') = true ∧ decide (c.to ≤ S.to) = true := by
    have hi := hS.i.n
    exact ⟨decide_eq_true (by omega), decide_eq_true (by omega)⟩
  have hcl : isClB c.op = true := by rcases hop with h | h <;> (rw [h]; rfl)
  have HMB := hid hm
  have HOP := hid hop
  have HIN := hid hin
  have HCL := hid hcl
  have HFR := hid hfr
  clear hug hdl hN hk hf ht hm hop hin hcl hfr
  have HS := hid hS
  have HU := hid hu
  obtain ⟨ua, uc, rfl⟩ := hu.u.shape
  have hlt := hS.lt
  obtain ⟨s0, s1, s2, cap, s3⟩ := hS.cellsAt
  clear hS hu s3
  have hMay := hid fun W (hW : CmdOk W c (.slice ua c.data.length uc)) => may_any c _ W hW
  obtain ⟨op, client, seq, cf, ct, data⟩ := c
  have HSP := hid (fun W => spanOf_any ⟨op, client, seq, cf, ct, data⟩ ua data.length uc W)
  unfold cmdV at HSP hMay ⊢
  simp only at HSP hMay ⊢
  obtain ⟨w0, hw0⟩ : ∃ w0, w0 = (w.alloc (.cells #[.int .i64 op, .int .i64 client, .int .i64 seq, .int .i64 cf, .int .i64 ct, .slice ua data.length uc] 24)).alloc (.cells #[.bool false, .slice none 0 0] 60) := ⟨_, rfl⟩
  have hb0 : Below w.heap.size w w0 := by rw [hw0]; exact ((Below.refl _ _).alloc (Nat.le_refl _) _).alloc (by simp) _
  have h30 : w0.heap[w.heap.size]? = some (.cells #[.int .i64 op, .int .i64 client, .int .i64 seq, .int .i64 cf, .int .i64 ct, .slice ua data.length uc] 24 (0, 0)) := by rw [hw0]; exact heap_alloc2_old _ _ _
  have h40 : w0.heap[w.heap.size + 1]? = some (.cells #[.bool false, .slice none 0 0] 60 (0, 0)) := by rw [hw0]; exact heap_alloc2_new _ _ _
  have K0 : Hid (KeepsOthers w w0) := hid (by rw [hw0]; exact (KeepsOthers.alloc _ _).trans (KeepsOthers.alloc _ _))
  have HW0 := hid hw0
  clear hw0
  go_enter Try.func25, Try.ntmps25
  go_upto_region 3 with fail
  rw [← HW0.out]
  obtain ⟨B3, hB3⟩ : ∃ B, B = w.heap.size := ⟨_, rfl⟩
  obtain ⟨B4, hB4⟩ : ∃ B, B = w.heap.size + 1 := ⟨_, rfl⟩
  rw [← hB3] at h30
  rw [← hB4] at h40
  rw [← hB4, ← hB3]
  have hgB : g < B3 ∧ b < B3 ∧ B3 < B4 ∧ b < B4 ∧ g < B4 := by omega
  have hwB : w.heap.size ≤ B3 ∧ w.heap.size ≤ B4 := by omega
  clear hB3 hB4 HW0
  have q0 : w0.cell? ⟨B3, 0, none⟩ = some (.int .i64 op) := by rw [cell_of_row _ _ _ _ _ _ h30]; rfl
  have q1 : w0.cell? ⟨B3, 1, none⟩ = some (.int .i64 client) := by rw [cell_of_row _ _ _ _ _ _ h30]; rfl
  have q2 : w0.cell? ⟨B3, 2, none⟩ = some (.int .i64 seq) := by rw [cell_of_row _ _ _ _ _ _ h30]; rfl
  have q3 : w0.cell? ⟨B3, 3, none⟩ = some (.int .i64 cf) := by rw [cell_of_row _ _ _ _ _ _ h30]; rfl
  have q4 : w0.cell? ⟨B3, 4, none⟩ = some (.int .i64 ct) := by rw [cell_of_row _ _ _ _ _ _ h30]; rfl
  have q5 : w0.cell? ⟨B3, 5, none⟩ = some (.slice ua data.length uc) := by rw [cell_of_row _ _ _ _ _ _ h30]; rfl
  have H30 := hid h30
  have H40 := hid h40
  have B0 := hid hb0
  clear h30 h40 hb0
  go_wp2_with fail
  refine (hMay.out w0 (HU.out.below B0.out)).mono ?_
  rintro e w1 ⟨rfl, hb1⟩
  have H31 := hid ((hb1.block B3 (lt_of_block H30.out)).trans H30.out)
  have H41 := hid ((hb1.block B4 (lt_of_block H40.out)).trans H40.out)
  have B1 := hid (B0.out.trans (hb1.mono B0.out.size))
  clear hb1 q0 q1 q2 q3 q4 q5 H30 H40 B0 hMay
  have hm := HMB.out
  have hcl := HCL.out
  have hin := HIN.out
  (try simp only at hin); (try simp only at hcl); (try simp only at HCH)
  rw [hm]
  rw [HFR.out] at s2
  clear hm HMB HIN HCL
  have SW : Hid (∀ X, Below w1.heap.size w1 X → X.cell? ⟨B3, 0, none⟩ = some (.int .i64 op) ∧ X.cell? ⟨B3, 1, none⟩ = some (.int .i64 client) ∧ X.cell? ⟨B3, 2, none⟩ = some (.int .i64 seq) ∧ X.cell? ⟨B3, 3, none⟩ = some (.int .i64 cf) ∧ X.cell? ⟨B3, 4, none⟩ = some (.int .i64 ct) ∧ X.cell? ⟨B3, 5, none⟩ = some (.slice ua data.length uc) ∧ X.cell? ⟨b, 0, none⟩ = some (.int .i64 S.from') ∧ X.cell? ⟨b, 1, none⟩ = some (.int .i64 S.to) ∧ X.cell? ⟨b, 2, none⟩ = some (.bool false)) := hid fun X hX => by
    have hb := (hX.block B3 (lt_of_block H31.out)).trans H31.out
    refine ⟨by rw [cell_of_row _ _ _ _ _ _ hb]; rfl, by rw [cell_of_row _ _ _ _ _ _ hb]; rfl, by rw [cell_of_row _ _ _ _ _ _ hb]; rfl, by rw [cell_of_row _ _ _ _ _ _ hb]; rfl, by rw [cell_of_row _ _ _ _ _ _ hb]; rfl, by rw [cell_of_row _ _ _ _ _ _ hb]; rfl, cell_later hX (cell_later B1.out s0), cell_later hX (cell_later B1.out s1), cell_later hX (cell_later B1.out s2)⟩
  clear s0 s1 s2
  go_upto_region 5 with fail
  refine wp_region_held_drew (S := fun X => X.cell? ⟨B3, 0, none⟩ = some (.int .i64 op) ∧ X.cell? ⟨B3, 1, none⟩ = some (.int .i64 client) ∧ X.cell? ⟨B3, 2, none⟩ = some (.int .i64 seq) ∧ X.cell? ⟨B3, 3, none⟩ = some (.int .i64 cf) ∧ X.cell? ⟨B3, 4, none⟩ = some (.int .i64 ct) ∧ X.cell? ⟨B3, 5, none⟩ = some (.slice ua data.length uc) ∧ X.cell? ⟨b, 0, none⟩ = some (.int .i64 S.from') ∧ X.cell? ⟨b, 1, none⟩ = some (.int .i64 S.to) ∧ X.cell? ⟨b, 2, none⟩ = some (.bool false)) (by kernel_rfl) (SW.out _ ((Below.refl _ _).drew)) (fun hHeld => ?_)
  refine wpAnyH_take (i := 0) (v := ?rv0) rfl (by kernel_rfl) (by kernel_rfl) (by kernel_rfl) (fun _ _ _ h => h) (Or.inl ⟨by rfl, ?ry0⟩) (by assumption) ?rr0
  case ry0 => (intro w hSw; (try dsimp only at hSw); go_simp; try with_reducible rfl)
  (try simp only [Act.put, List.setIfInBounds_toArray, List.set_cons_zero, List.set_cons_succ, List.getElem_toArray, List.getElem_cons_succ, List.getElem_cons_zero])
  refine wpAnyH_take (i := 1) (v := ?rv1) rfl (by kernel_rfl) (by kernel_rfl) (by kernel_rfl) (fun _ _ _ h => h) (Or.inl ⟨by rfl, ?ry1⟩) (by assumption) ?rr1
  case ry1 => (intro w hSw; (try dsimp only at hSw); go_simp; try with_reducible rfl)
  (try simp only [Act.put, List.setIfInBounds_toArray, List.set_cons_zero, List.set_cons_succ, List.getElem_toArray, List.getElem_cons_succ, List.getElem_cons_zero])
  refine wpAnyH_ready (rs := [2]) (by kernel_rfl) (by simp) ?_
  refine AllReadyH.cons rfl (fun K hK => ?_) AllReadyH.nil
  rw [if_pos (by rfl)]
  go_wp2_with fail
  refine (isClients_any op _).mono ?_
  rintro e w2 ⟨rfl, hw2⟩
  rw [hcl]
  have B2 : Hid (Below w1.heap.size w1 w2) := hid (by rw [hw2]; exact (Below.refl _ _).drew)
  clear hw2
  refine hK.out _ _ (SW.out _ B2.out) (fun hHeld => ?_)
  try clear hK K
  (try simp only [Act.put, List.setIfInBounds_toArray, List.set_cons_zero, List.set_cons_succ, List.getElem_toArray, List.getElem_cons_succ, List.getElem_cons_zero])
  refine wpAnyH_take (i := 3) (v := ?rv3) rfl (by kernel_rfl) (by kernel_rfl) (by kernel_rfl) (fun _ _ _ h => h) (Or.inl ⟨by rfl, ?ry3⟩) (by assumption) ?rr3
  case ry3 => (intro w hSw; (try dsimp only at hSw); go_simp; try with_reducible rfl)
  (try simp only [Act.put, List.setIfInBounds_toArray, List.set_cons_zero, List.set_cons_succ, List.getElem_toArray, List.getElem_cons_succ, List.getElem_cons_zero])
  refine wpAnyH_take (i := 4) (v := ?rv4) rfl (by kernel_rfl) (by kernel_rfl) (by kernel_rfl) (fun _ _ _ h => h) (Or.inl ⟨by rfl, ?ry4⟩) (by assumption) ?rr4
  case ry4 => (intro w hSw; (try dsimp only at hSw); go_simp; try with_reducible rfl)
  (try simp only [Act.put, List.setIfInBounds_toArray, List.set_cons_zero, List.set_cons_succ, List.getElem_toArray, List.getElem_cons_succ, List.getElem_cons_zero])
  refine wpAnyH_take (i := 5) (v := ?rv5) rfl (by kernel_rfl) (by kernel_rfl) (by kernel_rfl) (fun _ _ _ h => h) (Or.inl ⟨by rfl, ?ry5⟩) (by assumption) ?rr5
  case ry5 => (intro w hSw; (try dsimp only at hSw); go_simp; try with_reducible rfl)
  (try simp only [Act.put, List.setIfInBounds_toArray, List.set_cons_zero, List.set_cons_succ, List.getElem_toArray, List.getElem_cons_succ, List.getElem_cons_zero])
  refine wpAnyH_take (i := 6) (v := ?rv6) rfl (by kernel_rfl) (by kernel_rfl) (by kernel_rfl) (fun _ _ _ h => h) (Or.inl ⟨by rfl, ?ry6⟩) (by assumption) ?rr6
  case ry6 => (intro w hSw; (try dsimp only at hSw); go_simp; try with_reducible rfl)
  (try simp only [Act.put, List.setIfInBounds_toArray, List.set_cons_zero, List.set_cons_succ, List.getElem_toArray, List.getElem_cons_succ, List.getElem_cons_zero])
  refine wpAnyH_take (i := 7) (v := ?rv7) rfl (by kernel_rfl) (by kernel_rfl) (by kernel_rfl) (fun _ _ _ h => h) (Or.inl ⟨by rfl, ?ry7⟩) (by assumption) ?rr7
  case ry7 => (intro w hSw; (try dsimp only at hSw); go_simp; try with_reducible rfl)
  (try simp only [Act.put, List.setIfInBounds_toArray, List.set_cons_zero, List.set_cons_succ, List.getElem_toArray, List.getElem_cons_succ, List.getElem_cons_zero])
  refine wpAnyH_take (i := 8) (v := ?rv8) rfl (by kernel_rfl) (by kernel_rfl) (by kernel_rfl) (fun _ _ _ h => h) (Or.inl ⟨by rfl, ?ry8⟩) (by assumption) ?rr8
  case ry8 => (intro w hSw; (try dsimp only at hSw); go_simp; try with_reducible rfl)
  (try simp only [Act.put, List.setIfInBounds_toArray, List.set_cons_zero, List.set_cons_succ, List.getElem_toArray, List.getElem_cons_succ, List.getElem_cons_zero])
  refine wpAnyH_ready (rs := [9]) (by kernel_rfl) (by simp) ?_
  refine AllReadyH.cons rfl (fun K hK => ?_) AllReadyH.nil
  rw [if_pos (by rfl)]
  go_wp2_with fail
  refine (HSP.out _).mono ?_
  rintro e w5 ⟨rfl, hb5⟩
  have B5 : Hid (Below w1.heap.size w1 w5) := hid (B2.out.trans (hb5.mono B2.out.size))
  clear hb5
  refine hK.out _ _ (SW.out _ B5.out) (fun hHeld => ?_)
  try clear hK K
  (try simp only [Act.put, List.setIfInBounds_toArray, List.set_cons_zero, List.set_cons_succ, List.getElem_toArray, List.getElem_cons_succ, List.getElem_cons_zero])
  refine wpAnyH_ready (rs := [10]) (by kernel_rfl) (by simp) ?_
  refine AllReadyH.cons rfl (fun K hK => ?_) AllReadyH.nil
  rw [if_pos (by rfl)]
  go_wp2_with fail
  refine (holds_any (S.from', S.to) (cf, ct) _).mono ?_
  rintro e w6 ⟨rfl, hb6⟩
  simp only [hin.1, hin.2, Bool.and_self]
  have B6 : Hid (Below w1.heap.size w1 w6) := hid (B5.out.trans (hb6.mono B5.out.size))
  clear hb6
  refine hK.out _ _ (SW.out _ B6.out) (fun hHeld => ?_)
  try clear hK K
  (try simp only [Act.put, List.setIfInBounds_toArray, List.set_cons_zero, List.set_cons_succ, List.getElem_toArray, List.getElem_cons_succ, List.getElem_cons_zero])
  refine wpAnyH_take (i := 11) (v := ?rv11) rfl (by kernel_rfl) (by kernel_rfl) (by kernel_rfl) (fun _ _ _ h => h) (Or.inl ⟨by rfl, ?ry11⟩) (by assumption) ?rr11
  case ry11 => (intro w hSw; (try dsimp only at hSw); go_simp; try with_reducible rfl)
  (try simp only [Act.put, List.setIfInBounds_toArray, List.set_cons_zero, List.set_cons_succ, List.getElem_toArray, List.getElem_cons_succ, List.getElem_cons_zero])
  refine wpAnyH_take (i := 12) (v := ?rv12) rfl (by kernel_rfl) (by kernel_rfl) (by kernel_rfl) (fun _ _ _ h => h) (Or.inl ⟨by rfl, ?ry12⟩) (by assumption) ?rr12
  case ry12 => (intro w hSw; (try dsimp only at hSw); go_simp; try with_reducible rfl)
  (try simp only [Act.put, List.setIfInBounds_toArray, List.set_cons_zero, List.set_cons_succ, List.getElem_toArray, List.getElem_cons_succ, List.getElem_cons_zero])
  refine wpAnyH_done (by kernel_rfl) ?_ _
  have S6 := SW.out w6 B6.out
  obtain ⟨z0, z1, z2, z3, z4, z5, -, -, zf⟩ := S6
  have B16 := hid (B1.out.trans (B6.out.mono B1.out.size))
  have H46 := hid ((B6.out.block B4 (lt_of_block H41.out)).trans H41.out)
  have H36 := hid ((B6.out.block B3 (lt_of_block H31.out)).trans H31.out)
  clear hHeld SW B2 B5 H31 H41
  have hd1 : (op == 1) = false := by rcases HOP.out with h | h <;> (rw [show op = _ from h]; rfl)
  rcases HOP.out with hop2 | hop3
  · have hd2 : (op == 2) = true := by rw [show op = _ from hop2]; rfl
    clear hop2
    obtain ⟨w7, hw7⟩ : ∃ w7, w7 = w6.alloc (.cells #[.bool true, .slice none 0 0] 60) := ⟨_, rfl⟩
    have b7 : Below w6.heap.size w6 w7 := by rw [hw7]; exact (Below.refl _ _).alloc (Nat.le_refl _) _
    have h67 : w7.heap[w6.heap.size]? = some (.cells #[.bool true, .slice none 0 0] 60 (0, 0)) := by rw [hw7]; exact heap_alloc_new _ _
    have H37 := hid ((b7.block B3 (lt_of_block H36.out)).trans H36.out)
    have H47 := hid ((b7.block B4 (lt_of_block H46.out)).trans H46.out)
    have B17 := hid (B16.out.trans (b7.mono B16.out.size))
    have K7 : Hid (KeepsOthers w w7) := hid (keeps_below B17.out)
    have G17 : Hid (w.grownBy w7 (some g)) := hid ⟨B17.out.os, B17.out.tape, B17.out.output, B17.out.size, fun q hq _ => B17.out.block q hq⟩
    have HW7 := hid hw7
    have H67 := hid h67
    have hBl : B4 < w6.heap.size := lt_of_block H46.out
    clear hw7 h67 b7
    go_upto_region 10 with fail
    rw [← HW7.out]
    obtain ⟨B6b, hB6b⟩ : ∃ B, B = w6.heap.size := ⟨_, rfl⟩
    rw [← hB6b] at H67 hBl ⊢
    clear hB6b HW7 z0 z1 z2 z3 z4 z5 zf
    have y0 : w7.cell? ⟨B3, 0, none⟩ = some (.int .i64 op) := by rw [cell_of_row _ _ _ _ _ _ H37.out]; rfl
    have y1 : w7.cell? ⟨B3, 1, none⟩ = some (.int .i64 client) := by rw [cell_of_row _ _ _ _ _ _ H37.out]; rfl
    have y2 : w7.cell? ⟨B3, 2, none⟩ = some (.int .i64 seq) := by rw [cell_of_row _ _ _ _ _ _ H37.out]; rfl
    have y3 : w7.cell? ⟨B3, 3, none⟩ = some (.int .i64 cf) := by rw [cell_of_row _ _ _ _ _ _ H37.out]; rfl
    have y4 : w7.cell? ⟨B3, 4, none⟩ = some (.int .i64 ct) := by rw [cell_of_row _ _ _ _ _ _ H37.out]; rfl
    have y5 : w7.cell? ⟨B3, 5, none⟩ = some (.slice ua data.length uc) := by rw [cell_of_row _ _ _ _ _ _ H37.out]; rfl
    go_wp2_with fail
    refine (HCH.out w7 (HS.out.below B17.out) (HU.out.u.below B17.out)).mono ?_
    rintro e w8 ⟨rfl, hst8, hg8, hk8⟩
    have h48 : w8.heap[B4]? = _ := (hg8.block B4 (lt_of_block H47.out) (fun e => by cases e; omega)).trans H47.out
    have h68 : w8.heap[B6b]? = _ := (hg8.block B6b (lt_of_block H67.out) (fun e => by cases e; omega)).trans H67.out
    have a0 : w8.cell? ⟨B6b, 0, none⟩ = some (.bool true) := by rw [cell_of_row _ _ _ _ _ _ h68]; rfl
    have a1 : w8.cell? ⟨B6b, 1, none⟩ = some (.slice none 0 0) := by rw [cell_of_row _ _ _ _ _ _ h68]; rfl
    have d0 : w8.cell? ⟨B4, 0, none⟩ = some (.bool false) := by rw [cell_of_row _ _ _ _ _ _ h48]; rfl
    have d1 : w8.cell? ⟨B4, 1, none⟩ = some (.slice none 0 0) := by rw [cell_of_row _ _ _ _ _ _ h48]; rfl
    have e0 : w8.frozen? ⟨B4, 0, none⟩ = false := by simp [World.frozen?, h48]
    have e1 : w8.frozen? ⟨B4, 1, none⟩ = false := by simp [World.frozen?, h48]
    have St8 := hid hst8
    have G8 := hid hg8
    have K8 := hid hk8
    have H48 := hid h48
    clear hst8 hg8 hk8 h48 h68 y0 y1 y2 y3 y4 y5
    go_wp2_with fail
    have hE := reply_end (w := w) (.bool true) (.slice none 0 0) H48.out St8.out (by omega) (G17.out.trans G8.out) (K7.out.trans K8.out) (by omega)
    (try simp only [Exit.inBlock, Exit.then])
    refine bodyPost_ret (results_reply rfl _ _ B4 _ _ _ _ rfl hE.1) rfl ?_
    exact ⟨rfl, hE.2⟩
  · have hd2 : (op == 2) = false := by rw [show op = _ from hop3]; rfl
    have hd3 : (op == 3) = true := by rw [show op = _ from hop3]; rfl
    clear hop3
    obtain ⟨w7, hw7⟩ : ∃ w7, w7 = w6.alloc (.cells #[.bool true, .slice none 0 0] 60) := ⟨_, rfl⟩
    have b7 : Below w6.heap.size w6 w7 := by rw [hw7]; exact (Below.refl _ _).alloc (Nat.le_refl _) _
    have h67 : w7.heap[w6.heap.size]? = some (.cells #[.bool true, .slice none 0 0] 60 (0, 0)) := by rw [hw7]; exact heap_alloc_new _ _
    have H37 := hid ((b7.block B3 (lt_of_block H36.out)).trans H36.out)
    have H47 := hid ((b7.block B4 (lt_of_block H46.out)).trans H46.out)
    have B17 := hid (B16.out.trans (b7.mono B16.out.size))
    have K7 : Hid (KeepsOthers w w7) := hid (keeps_below B17.out)
    have G17 : Hid (w.grownBy w7 (some g)) := hid ⟨B17.out.os, B17.out.tape, B17.out.output, B17.out.size, fun q hq _ => B17.out.block q hq⟩
    have HW7 := hid hw7
    have H67 := hid h67
    have hBl : B4 < w6.heap.size := lt_of_block H46.out
    clear hw7 h67 b7
    go_upto_region 10 with fail
    rw [← HW7.out]
    obtain ⟨B6b, hB6b⟩ : ∃ B, B = w6.heap.size := ⟨_, rfl⟩
    rw [← hB6b] at H67 hBl ⊢
    clear hB6b HW7 z0 z1 z2 z3 z4 z5 zf
    have y0 : w7.cell? ⟨B3, 0, none⟩ = some (.int .i64 op) := by rw [cell_of_row _ _ _ _ _ _ H37.out]; rfl
    have y1 : w7.cell? ⟨B3, 1, none⟩ = some (.int .i64 client) := by rw [cell_of_row _ _ _ _ _ _ H37.out]; rfl
    have y2 : w7.cell? ⟨B3, 2, none⟩ = some (.int .i64 seq) := by rw [cell_of_row _ _ _ _ _ _ H37.out]; rfl
    have y3 : w7.cell? ⟨B3, 3, none⟩ = some (.int .i64 cf) := by rw [cell_of_row _ _ _ _ _ _ H37.out]; rfl
    have y4 : w7.cell? ⟨B3, 4, none⟩ = some (.int .i64 ct) := by rw [cell_of_row _ _ _ _ _ _ H37.out]; rfl
    have y5 : w7.cell? ⟨B3, 5, none⟩ = some (.slice ua data.length uc) := by rw [cell_of_row _ _ _ _ _ _ H37.out]; rfl
    go_wp2_with fail
    refine (HCH.out w7 (HS.out.below B17.out) (HU.out.u.below B17.out)).mono ?_
    rintro e w8 ⟨rfl, hst8, hg8, hk8⟩
    have h48 : w8.heap[B4]? = _ := (hg8.block B4 (lt_of_block H47.out) (fun e => by cases e; omega)).trans H47.out
    have h68 : w8.heap[B6b]? = _ := (hg8.block B6b (lt_of_block H67.out) (fun e => by cases e; omega)).trans H67.out
    have a0 : w8.cell? ⟨B6b, 0, none⟩ = some (.bool true) := by rw [cell_of_row _ _ _ _ _ _ h68]; rfl
    have a1 : w8.cell? ⟨B6b, 1, none⟩ = some (.slice none 0 0) := by rw [cell_of_row _ _ _ _ _ _ h68]; rfl
    have d0 : w8.cell? ⟨B4, 0, none⟩ = some (.bool false) := by rw [cell_of_row _ _ _ _ _ _ h48]; rfl
    have d1 : w8.cell? ⟨B4, 1, none⟩ = some (.slice none 0 0) := by rw [cell_of_row _ _ _ _ _ _ h48]; rfl
    have e0 : w8.frozen? ⟨B4, 0, none⟩ = false := by simp [World.frozen?, h48]
    have e1 : w8.frozen? ⟨B4, 1, none⟩ = false := by simp [World.frozen?, h48]
    have St8 := hid hst8
    have G8 := hid hg8
    have K8 := hid hk8
    have H48 := hid h48
    clear hst8 hg8 hk8 h48 h68 y0 y1 y2 y3 y4 y5
    go_wp2_with fail
    have hE := reply_end (w := w) (.bool true) (.slice none 0 0) H48.out St8.out (by omega) (G17.out.trans G8.out) (K7.out.trans K8.out) (by omega)
    (try simp only [Exit.inBlock, Exit.then])
    refine bodyPost_ret (results_reply rfl _ _ B4 _ _ _ _ rfl hE.1) rfl ?_
    exact ⟨rfl, hE.2⟩
end Go.Proofs.Ytabmnelenfghhaa
