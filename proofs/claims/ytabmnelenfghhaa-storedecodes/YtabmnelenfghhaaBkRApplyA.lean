/- What the document's Apply answers where it goes over no blocks. -/
import Derived.Test.YtabmnelenfghhaaBkRef
import Derived.Test.YtabmnelenfghhaaBkRMay
import Derived.Test.YtabmnelenfghhaaBkReply
import Derived.Test.YtabmnelenfghhaaBkTexts
import Derived.Deep.RegionHeld3
namespace Go.Proofs.Ytabmnelenfghhaa
open Go.RowKit
set_option linter.unusedVariables false
set_option linter.unusedSimpArgs false

/-- The blocks that the document's store may write. -/
def RB (X : Nat) (vt : Value) (ks : List Nat) (k : Nat) : Prop := k = X ∨ vt.ownBlock = some k ∨ k ∈ ks
/-- All but the blocks of R is as it was. -/
structure ButR (R : Nat → Prop) (w w' : World) : Prop where
  os : w'.os = w.os
  tape : w'.tape = w.tape
  output : w'.output = w.output
  size : w.heap.size ≤ w'.heap.size
  block : ∀ k, k < w.heap.size → ¬ R k → w'.heap[k]? = w.heap[k]?
theorem ButR.of_below {R : Nat → Prop} {w w' : World} (h : Below w.heap.size w w') : ButR R w w' := ⟨h.os, h.tape, h.output, h.size, fun k hk _ => h.block k hk⟩
theorem ButR.trans {R : Nat → Prop} {w w1 w2 : World} (h : ButR R w w1) (k : ButR R w1 w2) : ButR R w w2 :=
  ⟨k.os.trans h.os, k.tape.trans h.tape, k.output.trans h.output, Nat.le_trans h.size k.size, fun q hq hn => (k.block q (Nat.lt_of_lt_of_le hq h.size) hn).trans (h.block q hq hn)⟩
theorem ButR.setNew {R : Nat → Prop} {w w1 : World} (h : ButR R w w1) {B : Nat} (hB : w.heap.size ≤ B ∨ R B) (i : Nat) (v : Value) : ButR R w (w1.setCell ⟨B, i, none⟩ v) :=
  ⟨h.os, h.tape, h.output, by simpa using h.size, fun q hq hn => (Below.heap_setCell w1 ⟨B, i, none⟩ v q (fun e => by
    have e' : q = B := e
    subst e'
    rcases hB with hB | hB
    · omega
    · exact hn hB)).trans (h.block q hq hn)⟩
/-- What the document's Apply leaves: its reply's texts are l, in new memory. -/
def RApP (base X : Nat) (vt vm : Value) (ks : List Nat) (S' : StD) (ok : Bool) (er : Int) (l : List ByteArray) (w : World) (e : Ending) (w' : World) : Prop :=
  ∃ va vc, e = .returned (.tuple #[.agg #[.bool ok, .slice va l.length vc], .int .i64 er]) ∧ w'.ownsRow w.heap.size 9 1 (.slice va l.length vc) l.length (tvs l) ∧ RSt w' base X vt vm ks S' ∧ ButR (RB X vt ks) w w'
/-- The reply is put into its cell. -/
theorem rreply_end {w w8 : World} {base X B : Nat} {vt vm : Value} {ks : List Nat} {S : StD} {u0 u1 : Value} (v0 v1 : Value) (h : w8.heap[B]? = some (.cells #[u0, u1] 60 (0, 0))) (hr : RSt w8 base X vt vm ks S) (hb : ButR (RB X vt ks) w w8) (hw : w.heap.size ≤ B) :
    ((w8.setCell ⟨B, 0, none⟩ v0).setCell ⟨B, 1, none⟩ v1).heap[B]? = some (.cells #[v0, v1] 60 (0, 0)) ∧ RSt ((w8.setCell ⟨B, 0, none⟩ v0).setCell ⟨B, 1, none⟩ v1) base X vt vm ks S ∧ ButR (RB X vt ks) w ((w8.setCell ⟨B, 0, none⟩ v0).setCell ⟨B, 1, none⟩ v1) ∧ Kt [60] w8 ((w8.setCell ⟨B, 0, none⟩ v0).setCell ⟨B, 1, none⟩ v1) := by
  have h1 := heap_setCell_same w8 B 0 #[u0, u1] 60 v0 h
  have h2 := heap_setCell_same (w8.setCell ⟨B, 0, none⟩ v0) B 1 _ 60 v1 h1
  have k : Kt [60] w8 ((w8.setCell ⟨B, 0, none⟩ v0).setCell ⟨B, 1, none⟩ v1) := ((Kt.refl _ _).set B 0 v0 h (by simp)).set B 1 v1 h1 (by simp)
  exact ⟨by rw [h2]; simp, hr.kt k (by decide), (hb.setNew (.inl hw) 0 v0).setNew (.inl hw) 1 v1, k⟩
set_option linter.unusedSimpArgs false in
set_option maxRecDepth 100000 in
set_option maxHeartbeats 1000000 in
theorem rapply_no (base X : Nat) (vt vm : Value) (ks : List Nat) (S : StD) (c : CmdD) (u : Value) (w : World) (hR : RSt w base X vt vm ks S) (hu : CmdOk w c u) (hm : mayB c = false) :
    Calls Try.prog 39 #[.pointer (some ⟨X, 0, none⟩), cmdV c u] w (RApP base X vt vm ks S false 1 [] w) := by
  have HMB := hid hm
  clear hm
  have HR := hid hR
  have HU := hid hu
  obtain ⟨ua, uc, rfl⟩ := hu.u.shape
  have hXl := lt_of_block hR.head
  clear hR hu
  have hMay := hid fun W (hW : CmdOk W c (.slice ua c.data.length uc)) => rmay_any c _ W hW
  obtain ⟨op, client, seq, cf, ct, data⟩ := c
  unfold cmdV at hMay ⊢
  simp only at hMay ⊢
  obtain ⟨w0, hw0⟩ : ∃ w0, w0 = (w.alloc (.cells #[.int .i64 op, .int .i64 client, .int .i64 seq, .int .i64 cf, .int .i64 ct, .slice ua data.length uc] 24)).alloc (.cells #[.bool false, .slice none 0 0] 60) := ⟨_, rfl⟩
  have hb0 : Below w.heap.size w w0 := by rw [hw0]; exact ((Below.refl _ _).alloc (Nat.le_refl _) _).alloc (by simp) _
  have h30 : w0.heap[w.heap.size]? = some (.cells #[.int .i64 op, .int .i64 client, .int .i64 seq, .int .i64 cf, .int .i64 ct, .slice ua data.length uc] 24 (0, 0)) := by rw [hw0]; exact heap_alloc2_old _ _ _
  have h40 : w0.heap[w.heap.size + 1]? = some (.cells #[.bool false, .slice none 0 0] 60 (0, 0)) := by rw [hw0]; exact heap_alloc2_new _ _ _
  have HW0 := hid hw0
  clear hw0
  go_enter Try.func39, Try.ntmps39
  go_upto_region 1 with fail
  rw [← HW0.out]
  obtain ⟨B3, hB3⟩ : ∃ B, B = w.heap.size := ⟨_, rfl⟩
  obtain ⟨B4, hB4⟩ : ∃ B, B = w.heap.size + 1 := ⟨_, rfl⟩
  rw [← hB3] at h30
  rw [← hB4] at h40
  rw [← hB4, ← hB3]
  have hXB : X < B3 ∧ B3 < B4 := by omega
  have HwB : Hid (w.heap.size = B3) := hid hB3.symm
  clear hB3 hB4 HW0
  have q0 : w0.cell? ⟨B3, 0, none⟩ = some (.int .i64 op) := by rw [cell_of_row _ _ _ _ _ _ h30]; rfl
  have q1 : w0.cell? ⟨B3, 1, none⟩ = some (.int .i64 client) := by rw [cell_of_row _ _ _ _ _ _ h30]; rfl
  have q2 : w0.cell? ⟨B3, 2, none⟩ = some (.int .i64 seq) := by rw [cell_of_row _ _ _ _ _ _ h30]; rfl
  have q3 : w0.cell? ⟨B3, 3, none⟩ = some (.int .i64 cf) := by rw [cell_of_row _ _ _ _ _ _ h30]; rfl
  have q4 : w0.cell? ⟨B3, 4, none⟩ = some (.int .i64 ct) := by rw [cell_of_row _ _ _ _ _ _ h30]; rfl
  have q5 : w0.cell? ⟨B3, 5, none⟩ = some (.slice ua data.length uc) := by rw [cell_of_row _ _ _ _ _ _ h30]; rfl
  have H30 := hid h30
  have H40 := hid h40
  have B0 := hid hb0
  clear h30 h40 hb0
  go_wp2_with fail
  refine (hMay.out w0 (HU.out.below B0.out)).mono ?_
  rintro e w1 ⟨rfl, hb1⟩
  have H31 := hid ((hb1.block B3 (lt_of_block H30.out)).trans H30.out)
  have H41 := hid ((hb1.block B4 (lt_of_block H40.out)).trans H40.out)
  have B1 := hid (B0.out.trans (hb1.mono B0.out.size))
  clear hb1 q0 q1 q2 q3 q4 q5 H30 H40 B0 hMay
  have hm := HMB.out
  rw [hm]
  have d0 : w1.cell? ⟨B4, 0, none⟩ = some (.bool false) := by rw [cell_of_row _ _ _ _ _ _ H41.out]; rfl
  have d1 : w1.cell? ⟨B4, 1, none⟩ = some (.slice none 0 0) := by rw [cell_of_row _ _ _ _ _ _ H41.out]; rfl
  have e0 : w1.frozen? ⟨B4, 0, none⟩ = false := by simp [World.frozen?, H41.out]
  have e1 : w1.frozen? ⟨B4, 1, none⟩ = false := by simp [World.frozen?, H41.out]
  clear hm HMB
  go_wp2_with fail
  have hE := rreply_end (w := w) (.bool false) (.slice none 0 0) H41.out (HR.out.below B1.out) (ButR.of_below B1.out) (by have := HwB.out; omega)
  (try simp only [Exit.inBlock, Exit.then])
  refine bodyPost_ret (results_reply rfl _ _ B4 _ _ _ _ rfl hE.1) rfl ?_
  exact ⟨none, 0, rfl, World.ownsRow_nil _ _ _ _, hE.2.1, hE.2.2.1⟩
/-- The cells of the document's store and of the command's box. -/
def RCells (B3 X : Nat) (op client seq cf ct : Int) (du : Value) (S : StD) (vt vm : Value) (W : World) : Prop :=
  W.cell? ⟨B3, 0, none⟩ = some (.int .i64 op) ∧ W.cell? ⟨B3, 1, none⟩ = some (.int .i64 client) ∧ W.cell? ⟨B3, 2, none⟩ = some (.int .i64 seq) ∧ W.cell? ⟨B3, 3, none⟩ = some (.int .i64 cf) ∧ W.cell? ⟨B3, 4, none⟩ = some (.int .i64 ct) ∧ W.cell? ⟨B3, 5, none⟩ = some du ∧
  W.cell? ⟨X, 0, none⟩ = some (.int .i64 S.from') ∧ W.cell? ⟨X, 1, none⟩ = some (.int .i64 S.to) ∧ W.cell? ⟨X, 2, none⟩ = some (.bool S.fr) ∧ W.cell? ⟨X, 3, none⟩ = some vt ∧ W.cell? ⟨X, 4, none⟩ = some vm
theorem rcells {W : World} {B3 base X : Nat} {op client seq cf ct : Int} {du : Value} {S : StD} {vt vm : Value} {ks : List Nat} (h : W.heap[B3]? = some (.cells #[.int .i64 op, .int .i64 client, .int .i64 seq, .int .i64 cf, .int .i64 ct, du] 24 (0, 0))) (hr : RSt W base X vt vm ks S) : RCells B3 X op client seq cf ct du S vt vm W := by
  have h2 := hr.head
  refine ⟨?_, ?_, ?_, ?_, ?_, ?_, ?_, ?_, ?_, ?_, ?_⟩ <;> first | (rw [cell_of_row _ _ _ _ _ _ h]; rfl) | (rw [cell_of_row _ _ _ _ _ _ h2]; rfl)
set_option linter.unusedSimpArgs false in
set_option maxRecDepth 100000 in
set_option maxHeartbeats 2000000 in
theorem rapply_out (base X : Nat) (vt vm : Value) (ks : List Nat) (S : StD) (c : CmdD) (u : Value) (w : World) (hR : RSt w base X vt vm ks S) (hu : CmdOk w c u) (hm : mayB c = true) (hcl : 1 ≤ c.op ∧ c.op ≤ 4) (hin : ¬ (S.from' ≤ c.from' ∧ c.to ≤ S.to)) :
    Calls Try.prog 39 #[.pointer (some ⟨X, 0, none⟩), cmdV c u] w (RApP base X vt vm ks S false 9 [] w) := by
  have HMB := hid hm
  have HCL := hid hcl
  have HIN := hid hin
  clear hm hcl hin
  have HR := hid hR
  have HU := hid hu
  obtain ⟨ua, uc, rfl⟩ := hu.u.shape
  have hXl := lt_of_block hR.head
  clear hR hu
  have hMay := hid fun W (hW : CmdOk W c (.slice ua c.data.length uc)) => rmay_any c _ W hW
  obtain ⟨op, client, seq, cf, ct, data⟩ := c
  unfold cmdV at hMay ⊢
  simp only at hMay ⊢
  obtain ⟨w0, hw0⟩ : ∃ w0, w0 = (w.alloc (.cells #[.int .i64 op, .int .i64 client, .int .i64 seq, .int .i64 cf, .int .i64 ct, .slice ua data.length uc] 24)).alloc (.cells #[.bool false, .slice none 0 0] 60) := ⟨_, rfl⟩
  have hb0 : Below w.heap.size w w0 := by rw [hw0]; exact ((Below.refl _ _).alloc (Nat.le_refl _) _).alloc (by simp) _
  have h30 : w0.heap[w.heap.size]? = some (.cells #[.int .i64 op, .int .i64 client, .int .i64 seq, .int .i64 cf, .int .i64 ct, .slice ua data.length uc] 24 (0, 0)) := by rw [hw0]; exact heap_alloc2_old _ _ _
  have h40 : w0.heap[w.heap.size + 1]? = some (.cells #[.bool false, .slice none 0 0] 60 (0, 0)) := by rw [hw0]; exact heap_alloc2_new _ _ _
  have HW0 := hid hw0
  clear hw0
  go_enter Try.func39, Try.ntmps39
  go_upto_region 1 with fail
  rw [← HW0.out]
  obtain ⟨B3, hB3⟩ : ∃ B, B = w.heap.size := ⟨_, rfl⟩
  obtain ⟨B4, hB4⟩ : ∃ B, B = w.heap.size + 1 := ⟨_, rfl⟩
  rw [← hB3] at h30
  rw [← hB4] at h40
  rw [← hB4, ← hB3]
  have hXB : X < B3 ∧ B3 < B4 := by omega
  have HwB : Hid (w.heap.size = B3) := hid hB3.symm
  clear hB3 hB4 HW0
  have q0 : w0.cell? ⟨B3, 0, none⟩ = some (.int .i64 op) := by rw [cell_of_row _ _ _ _ _ _ h30]; rfl
  have q1 : w0.cell? ⟨B3, 1, none⟩ = some (.int .i64 client) := by rw [cell_of_row _ _ _ _ _ _ h30]; rfl
  have q2 : w0.cell? ⟨B3, 2, none⟩ = some (.int .i64 seq) := by rw [cell_of_row _ _ _ _ _ _ h30]; rfl
  have q3 : w0.cell? ⟨B3, 3, none⟩ = some (.int .i64 cf) := by rw [cell_of_row _ _ _ _ _ _ h30]; rfl
  have q4 : w0.cell? ⟨B3, 4, none⟩ = some (.int .i64 ct) := by rw [cell_of_row _ _ _ _ _ _ h30]; rfl
  have q5 : w0.cell? ⟨B3, 5, none⟩ = some (.slice ua data.length uc) := by rw [cell_of_row _ _ _ _ _ _ h30]; rfl
  have H30 := hid h30
  have H40 := hid h40
  have B0 := hid hb0
  clear h30 h40 hb0
  go_wp2_with fail
  refine (hMay.out w0 (HU.out.below B0.out)).mono ?_
  rintro e w1 ⟨rfl, hb1⟩
  have H31 := hid ((hb1.block B3 (lt_of_block H30.out)).trans H30.out)
  have H41 := hid ((hb1.block B4 (lt_of_block H40.out)).trans H40.out)
  have B1 := hid (B0.out.trans (hb1.mono B0.out.size))
  clear hb1 q0 q1 q2 q3 q4 q5 H30 H40 B0 hMay
  have hm := HMB.out
  have hcl := HCL.out
  have hin := HIN.out
  (try simp only at hin); (try simp only at hcl)
  rw [hm]
  have R1 := hid (HR.out.below B1.out)
  obtain ⟨x0, x1, x2, x3, x4, x5, y0, y1, y2, y3, y4⟩ := rcells H31.out R1.out
  have d0 : w1.cell? ⟨B4, 0, none⟩ = some (.bool false) := by rw [cell_of_row _ _ _ _ _ _ H41.out]; rfl
  have d1 : w1.cell? ⟨B4, 1, none⟩ = some (.slice none 0 0) := by rw [cell_of_row _ _ _ _ _ _ H41.out]; rfl
  have e0 : w1.frozen? ⟨B4, 0, none⟩ = false := by simp [World.frozen?, H41.out]
  have e1 : w1.frozen? ⟨B4, 1, none⟩ = false := by simp [World.frozen?, H41.out]
  have hc1 : decide (1 ≤ op) = true := decide_eq_true hcl.1
  have hc2 : decide (op ≤ 4) = true := decide_eq_true hcl.2
  clear hm HMB HIN HCL hcl
  by_cases h1 : cf < S.from'
  · have hd1 : decide (cf < S.from') = true := decide_eq_true h1
    clear h1 hin
    go_upto_region 4 with fail
    go_quiet (fail)
    generalize hW : w1.drewN _ = W
    have hBW : Below w1.heap.size w1 W := by rw [← hW]; exact belowN _ _
    have BW := hid (B1.out.trans (hBW.mono B1.out.size))
    have RW := hid (R1.out.below hBW)
    have H3W := hid ((hBW.block B3 (lt_of_block H31.out)).trans H31.out)
    have H4W := hid ((hBW.block B4 (lt_of_block H41.out)).trans H41.out)
    clear hW hBW x0 x1 x2 x3 x4 x5 y0 y1 y2 y3 y4 d0 d1 e0 e1 H31 H41 R1 B1
    obtain ⟨x0, x1, x2, x3, x4, x5, y0, y1, y2, y3, y4⟩ := rcells H3W.out RW.out
    have d0 : W.cell? ⟨B4, 0, none⟩ = some (.bool false) := by rw [cell_of_row _ _ _ _ _ _ H4W.out]; rfl
    have d1 : W.cell? ⟨B4, 1, none⟩ = some (.slice none 0 0) := by rw [cell_of_row _ _ _ _ _ _ H4W.out]; rfl
    have e0 : W.frozen? ⟨B4, 0, none⟩ = false := by simp [World.frozen?, H4W.out]
    have e1 : W.frozen? ⟨B4, 1, none⟩ = false := by simp [World.frozen?, H4W.out]
    go_wp2_with fail
    have hE := rreply_end (w := w) (.bool false) (.slice none 0 0) H4W.out RW.out (ButR.of_below BW.out) (by have := HwB.out; omega)
    (try simp only [Exit.inBlock, Exit.then])
    refine bodyPost_ret (results_reply rfl _ _ B4 _ _ _ _ rfl hE.1) rfl ?_
    exact ⟨none, 0, rfl, World.ownsRow_nil _ _ _ _, hE.2.1, hE.2.2.1⟩
  · have hd1 : decide (cf < S.from') = false := decide_eq_false h1
    have hd2 : decide (S.to < ct) = true := decide_eq_true (by omega)
    clear h1 hin
    go_upto_region 4 with fail
    go_quiet (fail)
    generalize hW : w1.drewN _ = W
    have hBW : Below w1.heap.size w1 W := by rw [← hW]; exact belowN _ _
    have BW := hid (B1.out.trans (hBW.mono B1.out.size))
    have RW := hid (R1.out.below hBW)
    have H3W := hid ((hBW.block B3 (lt_of_block H31.out)).trans H31.out)
    have H4W := hid ((hBW.block B4 (lt_of_block H41.out)).trans H41.out)
    clear hW hBW x0 x1 x2 x3 x4 x5 y0 y1 y2 y3 y4 d0 d1 e0 e1 H31 H41 R1 B1
    obtain ⟨x0, x1, x2, x3, x4, x5, y0, y1, y2, y3, y4⟩ := rcells H3W.out RW.out
    have d0 : W.cell? ⟨B4, 0, none⟩ = some (.bool false) := by rw [cell_of_row _ _ _ _ _ _ H4W.out]; rfl
    have d1 : W.cell? ⟨B4, 1, none⟩ = some (.slice none 0 0) := by rw [cell_of_row _ _ _ _ _ _ H4W.out]; rfl
    have e0 : W.frozen? ⟨B4, 0, none⟩ = false := by simp [World.frozen?, H4W.out]
    have e1 : W.frozen? ⟨B4, 1, none⟩ = false := by simp [World.frozen?, H4W.out]
    go_wp2_with fail
    have hE := rreply_end (w := w) (.bool false) (.slice none 0 0) H4W.out RW.out (ButR.of_below BW.out) (by have := HwB.out; omega)
    (try simp only [Exit.inBlock, Exit.then])
    refine bodyPost_ret (results_reply rfl _ _ B4 _ _ _ _ rfl hE.1) rfl ?_
    exact ⟨none, 0, rfl, World.ownsRow_nil _ _ _ _, hE.2.1, hE.2.2.1⟩
set_option linter.unusedSimpArgs false in
set_option maxRecDepth 100000 in
set_option maxHeartbeats 2000000 in
theorem rapply_frozenC (base X : Nat) (vt vm : Value) (ks : List Nat) (S : StD) (c : CmdD) (u : Value) (w : World) (hR : RSt w base X vt vm ks S) (hu : CmdOk w c u) (hm : mayB c = true) (hcl : 1 ≤ c.op ∧ c.op ≤ 4) (hin : S.from' ≤ c.from' ∧ c.to ≤ S.to) (hfr : S.fr = true) :
    Calls Try.prog 39 #[.pointer (some ⟨X, 0, none⟩), cmdV c u] w (RApP base X vt vm ks S false 0 [] w) := by
  have HMB := hid hm
  have HCL := hid hcl
  have HIN := hid hin
  have HFR := hid hfr
  clear hm hcl hin hfr
  have HR := hid hR
  have HU := hid hu
  obtain ⟨ua, uc, rfl⟩ := hu.u.shape
  have hXl := lt_of_block hR.head
  clear hR hu
  have hMay := hid fun W (hW : CmdOk W c (.slice ua c.data.length uc)) => rmay_any c _ W hW
  obtain ⟨op, client, seq, cf, ct, data⟩ := c
  unfold cmdV at hMay ⊢
  simp only at hMay ⊢
  obtain ⟨w0, hw0⟩ : ∃ w0, w0 = (w.alloc (.cells #[.int .i64 op, .int .i64 client, .int .i64 seq, .int .i64 cf, .int .i64 ct, .slice ua data.length uc] 24)).alloc (.cells #[.bool false, .slice none 0 0] 60) := ⟨_, rfl⟩
  have hb0 : Below w.heap.size w w0 := by rw [hw0]; exact ((Below.refl _ _).alloc (Nat.le_refl _) _).alloc (by simp) _
  have h30 : w0.heap[w.heap.size]? = some (.cells #[.int .i64 op, .int .i64 client, .int .i64 seq, .int .i64 cf, .int .i64 ct, .slice ua data.length uc] 24 (0, 0)) := by rw [hw0]; exact heap_alloc2_old _ _ _
  have h40 : w0.heap[w.heap.size + 1]? = some (.cells #[.bool false, .slice none 0 0] 60 (0, 0)) := by rw [hw0]; exact heap_alloc2_new _ _ _
  have HW0 := hid hw0
  clear hw0
  go_enter Try.func39, Try.ntmps39
  go_upto_region 1 with fail
  rw [← HW0.out]
  obtain ⟨B3, hB3⟩ : ∃ B, B = w.heap.size := ⟨_, rfl⟩
  obtain ⟨B4, hB4⟩ : ∃ B, B = w.heap.size + 1 := ⟨_, rfl⟩
  rw [← hB3] at h30
  rw [← hB4] at h40
  rw [← hB4, ← hB3]
  have hXB : X < B3 ∧ B3 < B4 := by omega
  have HwB : Hid (w.heap.size = B3) := hid hB3.symm
  clear hB3 hB4 HW0
  have q0 : w0.cell? ⟨B3, 0, none⟩ = some (.int .i64 op) := by rw [cell_of_row _ _ _ _ _ _ h30]; rfl
  have q1 : w0.cell? ⟨B3, 1, none⟩ = some (.int .i64 client) := by rw [cell_of_row _ _ _ _ _ _ h30]; rfl
  have q2 : w0.cell? ⟨B3, 2, none⟩ = some (.int .i64 seq) := by rw [cell_of_row _ _ _ _ _ _ h30]; rfl
  have q3 : w0.cell? ⟨B3, 3, none⟩ = some (.int .i64 cf) := by rw [cell_of_row _ _ _ _ _ _ h30]; rfl
  have q4 : w0.cell? ⟨B3, 4, none⟩ = some (.int .i64 ct) := by rw [cell_of_row _ _ _ _ _ _ h30]; rfl
  have q5 : w0.cell? ⟨B3, 5, none⟩ = some (.slice ua data.length uc) := by rw [cell_of_row _ _ _ _ _ _ h30]; rfl
  have H30 := hid h30
  have H40 := hid h40
  have B0 := hid hb0
  clear h30 h40 hb0
  go_wp2_with fail
  refine (hMay.out w0 (HU.out.below B0.out)).mono ?_
  rintro e w1 ⟨rfl, hb1⟩
  have H31 := hid ((hb1.block B3 (lt_of_block H30.out)).trans H30.out)
  have H41 := hid ((hb1.block B4 (lt_of_block H40.out)).trans H40.out)
  have B1 := hid (B0.out.trans (hb1.mono B0.out.size))
  clear hb1 q0 q1 q2 q3 q4 q5 H30 H40 B0 hMay
  have hm := HMB.out
  have hcl := HCL.out
  have hin := HIN.out
  (try simp only at hin); (try simp only at hcl)
  rw [hm]
  have R1 := hid (HR.out.below B1.out)
  obtain ⟨x0, x1, x2, x3, x4, x5, y0, y1, y2, y3, y4⟩ := rcells H31.out R1.out
  have d0 : w1.cell? ⟨B4, 0, none⟩ = some (.bool false) := by rw [cell_of_row _ _ _ _ _ _ H41.out]; rfl
  have d1 : w1.cell? ⟨B4, 1, none⟩ = some (.slice none 0 0) := by rw [cell_of_row _ _ _ _ _ _ H41.out]; rfl
  have e0 : w1.frozen? ⟨B4, 0, none⟩ = false := by simp [World.frozen?, H41.out]
  have e1 : w1.frozen? ⟨B4, 1, none⟩ = false := by simp [World.frozen?, H41.out]
  have hc1 : decide (1 ≤ op) = true := decide_eq_true hcl.1
  have hc2 : decide (op ≤ 4) = true := decide_eq_true hcl.2
  have hd1 : decide (cf < S.from') = false := decide_eq_false (by omega)
  have hd2 : decide (S.to < ct) = false := decide_eq_false (by omega)
  clear hm HMB HIN HCL hcl hin
  go_upto_region 4 with fail
  go_quiet (fail)
  generalize hW : w1.drewN _ = W
  have hBW : Below w1.heap.size w1 W := by rw [← hW]; exact belowN _ _
  have BW := hid (B1.out.trans (hBW.mono B1.out.size))
  have RW := hid (R1.out.below hBW)
  have H3W := hid ((hBW.block B3 (lt_of_block H31.out)).trans H31.out)
  have H4W := hid ((hBW.block B4 (lt_of_block H41.out)).trans H41.out)
  clear hW hBW x0 x1 x2 x3 x4 x5 y0 y1 y2 y3 y4 d0 d1 e0 e1 H31 H41 R1 B1
  obtain ⟨x0, x1, x2, x3, x4, x5, y0, y1, y2, y3, y4⟩ := rcells H3W.out RW.out
  have d0 : W.cell? ⟨B4, 0, none⟩ = some (.bool false) := by rw [cell_of_row _ _ _ _ _ _ H4W.out]; rfl
  have d1 : W.cell? ⟨B4, 1, none⟩ = some (.slice none 0 0) := by rw [cell_of_row _ _ _ _ _ _ H4W.out]; rfl
  have e0 : W.frozen? ⟨B4, 0, none⟩ = false := by simp [World.frozen?, H4W.out]
  have e1 : W.frozen? ⟨B4, 1, none⟩ = false := by simp [World.frozen?, H4W.out]
  rw [HFR.out] at y2
  go_wp2_with fail
  have hE := rreply_end (w := w) (.bool false) (.slice none 0 0) H4W.out RW.out (ButR.of_below BW.out) (by have := HwB.out; omega)
  (try simp only [Exit.inBlock, Exit.then])
  refine bodyPost_ret (results_reply rfl _ _ B4 _ _ _ _ rfl hE.1) rfl ?_
  exact ⟨none, 0, rfl, World.ownsRow_nil _ _ _ _, hE.2.1, hE.2.2.1⟩
set_option linter.unusedSimpArgs false in
set_option maxRecDepth 100000 in
set_option maxHeartbeats 2000000 in
theorem rapply_frozenO (base X : Nat) (vt vm : Value) (ks : List Nat) (S : StD) (c : CmdD) (u : Value) (w : World) (hR : RSt w base X vt vm ks S) (hu : CmdOk w c u) (hm : mayB c = true) (hcl : c.op = 0 ∨ c.op = 5) (hfr : S.fr = true) :
    Calls Try.prog 39 #[.pointer (some ⟨X, 0, none⟩), cmdV c u] w (RApP base X vt vm ks S false 0 [] w) := by
  have HMB := hid hm
  have HCL := hid hcl
  have HFR := hid hfr
  clear hm hcl hfr
  have HR := hid hR
  have HU := hid hu
  obtain ⟨ua, uc, rfl⟩ := hu.u.shape
  have hXl := lt_of_block hR.head
  clear hR hu
  have hMay := hid fun W (hW : CmdOk W c (.slice ua c.data.length uc)) => rmay_any c _ W hW
  obtain ⟨op, client, seq, cf, ct, data⟩ := c
  unfold cmdV at hMay ⊢
  simp only at hMay ⊢
  obtain ⟨w0, hw0⟩ : ∃ w0, w0 = (w.alloc (.cells #[.int .i64 op, .int .i64 client, .int .i64 seq, .int .i64 cf, .int .i64 ct, .slice ua data.length uc] 24)).alloc (.cells #[.bool false, .slice none 0 0] 60) := ⟨_, rfl⟩
  have hb0 : Below w.heap.size w w0 := by rw [hw0]; exact ((Below.refl _ _).alloc (Nat.le_refl _) _).alloc (by simp) _
  have h30 : w0.heap[w.heap.size]? = some (.cells #[.int .i64 op, .int .i64 client, .int .i64 seq, .int .i64 cf, .int .i64 ct, .slice ua data.length uc] 24 (0, 0)) := by rw [hw0]; exact heap_alloc2_old _ _ _
  have h40 : w0.heap[w.heap.size + 1]? = some (.cells #[.bool false, .slice none 0 0] 60 (0, 0)) := by rw [hw0]; exact heap_alloc2_new _ _ _
  have HW0 := hid hw0
  clear hw0
  go_enter Try.func39, Try.ntmps39
  go_upto_region 1 with fail
  rw [← HW0.out]
  obtain ⟨B3, hB3⟩ : ∃ B, B = w.heap.size := ⟨_, rfl⟩
  obtain ⟨B4, hB4⟩ : ∃ B, B = w.heap.size + 1 := ⟨_, rfl⟩
  rw [← hB3] at h30
  rw [← hB4] at h40
  rw [← hB4, ← hB3]
  have hXB : X < B3 ∧ B3 < B4 := by omega
  have HwB : Hid (w.heap.size = B3) := hid hB3.symm
  clear hB3 hB4 HW0
  have q0 : w0.cell? ⟨B3, 0, none⟩ = some (.int .i64 op) := by rw [cell_of_row _ _ _ _ _ _ h30]; rfl
  have q1 : w0.cell? ⟨B3, 1, none⟩ = some (.int .i64 client) := by rw [cell_of_row _ _ _ _ _ _ h30]; rfl
  have q2 : w0.cell? ⟨B3, 2, none⟩ = some (.int .i64 seq) := by rw [cell_of_row _ _ _ _ _ _ h30]; rfl
  have q3 : w0.cell? ⟨B3, 3, none⟩ = some (.int .i64 cf) := by rw [cell_of_row _ _ _ _ _ _ h30]; rfl
  have q4 : w0.cell? ⟨B3, 4, none⟩ = some (.int .i64 ct) := by rw [cell_of_row _ _ _ _ _ _ h30]; rfl
  have q5 : w0.cell? ⟨B3, 5, none⟩ = some (.slice ua data.length uc) := by rw [cell_of_row _ _ _ _ _ _ h30]; rfl
  have H30 := hid h30
  have H40 := hid h40
  have B0 := hid hb0
  clear h30 h40 hb0
  go_wp2_with fail
  refine (hMay.out w0 (HU.out.below B0.out)).mono ?_
  rintro e w1 ⟨rfl, hb1⟩
  have H31 := hid ((hb1.block B3 (lt_of_block H30.out)).trans H30.out)
  have H41 := hid ((hb1.block B4 (lt_of_block H40.out)).trans H40.out)
  have B1 := hid (B0.out.trans (hb1.mono B0.out.size))
  clear hb1 q0 q1 q2 q3 q4 q5 H30 H40 B0 hMay
  have hm := HMB.out
  rw [hm]
  have R1 := hid (HR.out.below B1.out)
  obtain ⟨x0, x1, x2, x3, x4, x5, y0, y1, y2, y3, y4⟩ := rcells H31.out R1.out
  have d0 : w1.cell? ⟨B4, 0, none⟩ = some (.bool false) := by rw [cell_of_row _ _ _ _ _ _ H41.out]; rfl
  have d1 : w1.cell? ⟨B4, 1, none⟩ = some (.slice none 0 0) := by rw [cell_of_row _ _ _ _ _ _ H41.out]; rfl
  have e0 : w1.frozen? ⟨B4, 0, none⟩ = false := by simp [World.frozen?, H41.out]
  have e1 : w1.frozen? ⟨B4, 1, none⟩ = false := by simp [World.frozen?, H41.out]
  clear hm HMB
  rcases HCL.out with h | h
  · (try simp only at h)
    have hc1 : decide (1 ≤ op) = false := by rw [h]; rfl
    clear h HCL
    go_upto_region 4 with fail
    go_quiet (fail)
    generalize hW : w1.drewN _ = W
    have hBW : Below w1.heap.size w1 W := by rw [← hW]; exact belowN _ _
    have BW := hid (B1.out.trans (hBW.mono B1.out.size))
    have RW := hid (R1.out.below hBW)
    have H3W := hid ((hBW.block B3 (lt_of_block H31.out)).trans H31.out)
    have H4W := hid ((hBW.block B4 (lt_of_block H41.out)).trans H41.out)
    clear hW hBW x0 x1 x2 x3 x4 x5 y0 y1 y2 y3 y4 d0 d1 e0 e1 H31 H41 R1 B1
    obtain ⟨x0, x1, x2, x3, x4, x5, y0, y1, y2, y3, y4⟩ := rcells H3W.out RW.out
    have d0 : W.cell? ⟨B4, 0, none⟩ = some (.bool false) := by rw [cell_of_row _ _ _ _ _ _ H4W.out]; rfl
    have d1 : W.cell? ⟨B4, 1, none⟩ = some (.slice none 0 0) := by rw [cell_of_row _ _ _ _ _ _ H4W.out]; rfl
    have e0 : W.frozen? ⟨B4, 0, none⟩ = false := by simp [World.frozen?, H4W.out]
    have e1 : W.frozen? ⟨B4, 1, none⟩ = false := by simp [World.frozen?, H4W.out]
    rw [HFR.out] at y2
    go_wp2_with fail
    have hE := rreply_end (w := w) (.bool false) (.slice none 0 0) H4W.out RW.out (ButR.of_below BW.out) (by have := HwB.out; omega)
    (try simp only [Exit.inBlock, Exit.then])
    refine bodyPost_ret (results_reply rfl _ _ B4 _ _ _ _ rfl hE.1) rfl ?_
    exact ⟨none, 0, rfl, World.ownsRow_nil _ _ _ _, hE.2.1, hE.2.2.1⟩
  · (try simp only at h)
    have hc1 : decide (1 ≤ op) = true := by rw [h]; rfl
    have hc2 : decide (op ≤ 4) = false := by rw [h]; rfl
    clear h HCL
    go_upto_region 4 with fail
    go_quiet (fail)
    generalize hW : w1.drewN _ = W
    have hBW : Below w1.heap.size w1 W := by rw [← hW]; exact belowN _ _
    have BW := hid (B1.out.trans (hBW.mono B1.out.size))
    have RW := hid (R1.out.below hBW)
    have H3W := hid ((hBW.block B3 (lt_of_block H31.out)).trans H31.out)
    have H4W := hid ((hBW.block B4 (lt_of_block H41.out)).trans H41.out)
    clear hW hBW x0 x1 x2 x3 x4 x5 y0 y1 y2 y3 y4 d0 d1 e0 e1 H31 H41 R1 B1
    obtain ⟨x0, x1, x2, x3, x4, x5, y0, y1, y2, y3, y4⟩ := rcells H3W.out RW.out
    have d0 : W.cell? ⟨B4, 0, none⟩ = some (.bool false) := by rw [cell_of_row _ _ _ _ _ _ H4W.out]; rfl
    have d1 : W.cell? ⟨B4, 1, none⟩ = some (.slice none 0 0) := by rw [cell_of_row _ _ _ _ _ _ H4W.out]; rfl
    have e0 : W.frozen? ⟨B4, 0, none⟩ = false := by simp [World.frozen?, H4W.out]
    have e1 : W.frozen? ⟨B4, 1, none⟩ = false := by simp [World.frozen?, H4W.out]
    rw [HFR.out] at y2
    go_wp2_with fail
    have hE := rreply_end (w := w) (.bool false) (.slice none 0 0) H4W.out RW.out (ButR.of_below BW.out) (by have := HwB.out; omega)
    (try simp only [Exit.inBlock, Exit.then])
    refine bodyPost_ret (results_reply rfl _ _ B4 _ _ _ _ rfl hE.1) rfl ?_
    exact ⟨none, 0, rfl, World.ownsRow_nil _ _ _ _, hE.2.1, hE.2.2.1⟩
/-- The document's store, frozen. -/
theorem RSt.freeze {w : World} {base X : Nat} {vt vm : Value} {ks : List Nat} {S : StD} (h : RSt w base X vt vm ks S) : RSt (w.setCell ⟨X, 2, none⟩ (.bool true)) base X vt vm ks { S with fr := true } := by
  have k : Kt [108] w (w.setCell ⟨X, 2, none⟩ (.bool true)) := (Kt.refl _ _).set X 2 _ h.head (by simp)
  refine ⟨?_, own_kt h.texts k (by decide), own_kt h.rows k (by decide), h.n, fun j h1 h2 => ?_, h.nd⟩
  · have := heap_setCell_same w X 2 _ 108 (.bool true) h.head
    rw [this]; simp
  · obtain ⟨a, b⟩ := h.marks j h1 h2
    exact ⟨a, (k _ _ _ _ b (by decide)).trans b⟩
set_option linter.unusedSimpArgs false in
set_option maxRecDepth 100000 in
set_option maxHeartbeats 2000000 in
theorem rapply_freeze (base X : Nat) (vt vm : Value) (ks : List Nat) (S : StD) (c : CmdD) (u : Value) (w : World) (hR : RSt w base X vt vm ks S) (hu : CmdOk w c u) (hm : mayB c = true) (hcl : c.op = 5) (hfr : S.fr = false) :
    Calls Try.prog 39 #[.pointer (some ⟨X, 0, none⟩), cmdV c u] w (RApP base X vt vm ks { S with fr := true } true 0 [] w) := by
  have HMB := hid hm
  have HCL := hid hcl
  have HFR := hid hfr
  clear hm hcl hfr
  have HR := hid hR
  have HU := hid hu
  obtain ⟨ua, uc, rfl⟩ := hu.u.shape
  have hXl := lt_of_block hR.head
  clear hR hu
  have hMay := hid fun W (hW : CmdOk W c (.slice ua c.data.length uc)) => rmay_any c _ W hW
  obtain ⟨op, client, seq, cf, ct, data⟩ := c
  unfold cmdV at hMay ⊢
  simp only at hMay ⊢
  obtain ⟨w0, hw0⟩ : ∃ w0, w0 = (w.alloc (.cells #[.int .i64 op, .int .i64 client, .int .i64 seq, .int .i64 cf, .int .i64 ct, .slice ua data.length uc] 24)).alloc (.cells #[.bool false, .slice none 0 0] 60) := ⟨_, rfl⟩
  have hb0 : Below w.heap.size w w0 := by rw [hw0]; exact ((Below.refl _ _).alloc (Nat.le_refl _) _).alloc (by simp) _
  have h30 : w0.heap[w.heap.size]? = some (.cells #[.int .i64 op, .int .i64 client, .int .i64 seq, .int .i64 cf, .int .i64 ct, .slice ua data.length uc] 24 (0, 0)) := by rw [hw0]; exact heap_alloc2_old _ _ _
  have h40 : w0.heap[w.heap.size + 1]? = some (.cells #[.bool false, .slice none 0 0] 60 (0, 0)) := by rw [hw0]; exact heap_alloc2_new _ _ _
  have HW0 := hid hw0
  clear hw0
  go_enter Try.func39, Try.ntmps39
  go_upto_region 1 with fail
  rw [← HW0.out]
  obtain ⟨B3, hB3⟩ : ∃ B, B = w.heap.size := ⟨_, rfl⟩
  obtain ⟨B4, hB4⟩ : ∃ B, B = w.heap.size + 1 := ⟨_, rfl⟩
  rw [← hB3] at h30
  rw [← hB4] at h40
  rw [← hB4, ← hB3]
  have hXB : X < B3 ∧ B3 < B4 := by omega
  have HwB : Hid (w.heap.size = B3) := hid hB3.symm
  clear hB3 hB4 HW0
  have q0 : w0.cell? ⟨B3, 0, none⟩ = some (.int .i64 op) := by rw [cell_of_row _ _ _ _ _ _ h30]; rfl
  have q1 : w0.cell? ⟨B3, 1, none⟩ = some (.int .i64 client) := by rw [cell_of_row _ _ _ _ _ _ h30]; rfl
  have q2 : w0.cell? ⟨B3, 2, none⟩ = some (.int .i64 seq) := by rw [cell_of_row _ _ _ _ _ _ h30]; rfl
  have q3 : w0.cell? ⟨B3, 3, none⟩ = some (.int .i64 cf) := by rw [cell_of_row _ _ _ _ _ _ h30]; rfl
  have q4 : w0.cell? ⟨B3, 4, none⟩ = some (.int .i64 ct) := by rw [cell_of_row _ _ _ _ _ _ h30]; rfl
  have q5 : w0.cell? ⟨B3, 5, none⟩ = some (.slice ua data.length uc) := by rw [cell_of_row _ _ _ _ _ _ h30]; rfl
  have H30 := hid h30
  have H40 := hid h40
  have B0 := hid hb0
  clear h30 h40 hb0
  go_wp2_with fail
  refine (hMay.out w0 (HU.out.below B0.out)).mono ?_
  rintro e w1 ⟨rfl, hb1⟩
  have H31 := hid ((hb1.block B3 (lt_of_block H30.out)).trans H30.out)
  have H41 := hid ((hb1.block B4 (lt_of_block H40.out)).trans H40.out)
  have B1 := hid (B0.out.trans (hb1.mono B0.out.size))
  clear hb1 q0 q1 q2 q3 q4 q5 H30 H40 B0 hMay
  have hm := HMB.out
  rw [hm]
  have R1 := hid (HR.out.below B1.out)
  obtain ⟨x0, x1, x2, x3, x4, x5, y0, y1, y2, y3, y4⟩ := rcells H31.out R1.out
  have d0 : w1.cell? ⟨B4, 0, none⟩ = some (.bool false) := by rw [cell_of_row _ _ _ _ _ _ H41.out]; rfl
  have d1 : w1.cell? ⟨B4, 1, none⟩ = some (.slice none 0 0) := by rw [cell_of_row _ _ _ _ _ _ H41.out]; rfl
  have e0 : w1.frozen? ⟨B4, 0, none⟩ = false := by simp [World.frozen?, H41.out]
  have e1 : w1.frozen? ⟨B4, 1, none⟩ = false := by simp [World.frozen?, H41.out]
  clear hm HMB
  have h := HCL.out
  (try simp only at h)
  have hc1 : decide (1 ≤ op) = true := by rw [h]; rfl
  have hc2 : decide (op ≤ 4) = false := by rw [h]; rfl
  have hc5 : (op == 5) = true := by rw [h]; rfl
  clear h HCL
  go_upto_region 4 with fail
  go_quiet (fail)
  generalize hW : w1.drewN _ = W
  have hBW : Below w1.heap.size w1 W := by rw [← hW]; exact belowN _ _
  have BW := hid (B1.out.trans (hBW.mono B1.out.size))
  have RW := hid (R1.out.below hBW)
  have H3W := hid ((hBW.block B3 (lt_of_block H31.out)).trans H31.out)
  have H4W := hid ((hBW.block B4 (lt_of_block H41.out)).trans H41.out)
  clear hW hBW x0 x1 x2 x3 x4 x5 y0 y1 y2 y3 y4 d0 d1 e0 e1 H31 H41 R1 B1
  obtain ⟨x0, x1, x2, x3, x4, x5, y0, y1, y2, y3, y4⟩ := rcells H3W.out RW.out
  have d0 : W.cell? ⟨B4, 0, none⟩ = some (.bool false) := by rw [cell_of_row _ _ _ _ _ _ H4W.out]; rfl
  have d1 : W.cell? ⟨B4, 1, none⟩ = some (.slice none 0 0) := by rw [cell_of_row _ _ _ _ _ _ H4W.out]; rfl
  have e0 : W.frozen? ⟨B4, 0, none⟩ = false := by simp [World.frozen?, H4W.out]
  have e1 : W.frozen? ⟨B4, 1, none⟩ = false := by simp [World.frozen?, H4W.out]
  rw [HFR.out] at y2
  obtain ⟨w7, hw7⟩ : ∃ w7, w7 = W.alloc (.cells #[.bool true, .slice none 0 0] 60) := ⟨_, rfl⟩
  have b7 : Below W.heap.size W w7 := by rw [hw7]; exact (Below.refl _ _).alloc (Nat.le_refl _) _
  have h77 : w7.heap[W.heap.size]? = some (.cells #[.bool true, .slice none 0 0] 60 (0, 0)) := by rw [hw7]; exact heap_alloc_new _ _
  have H37 := hid ((b7.block B3 (lt_of_block H3W.out)).trans H3W.out)
  have H47 := hid ((b7.block B4 (lt_of_block H4W.out)).trans H4W.out)
  have B7 := hid (BW.out.trans (b7.mono BW.out.size))
  have R7 := hid (RW.out.below b7)
  have HW7 := hid hw7
  have H77 := hid h77
  have HB47 := hid (lt_of_block H4W.out)
  clear hw7 h77 b7
  go_upto_region 9 with fail
  rw [← HW7.out]
  obtain ⟨Br, hBr⟩ : ∃ B, B = W.heap.size := ⟨_, rfl⟩
  rw [← hBr] at H77 HB47 ⊢
  have HBrw : Hid (w.heap.size ≤ Br) := hid (by have := BW.out.size; omega)
  clear hBr HW7 x0 x1 x2 x3 x4 x5 y0 y1 y2 y3 y4 d0 d1 e0 e1 H3W H4W RW BW
  obtain ⟨x0, x1, x2, x3, x4, x5, y0, y1, y2, y3, y4⟩ := rcells H37.out R7.out
  have f2 : w7.frozen? ⟨X, 2, none⟩ = false := by simp [World.frozen?, R7.out.head]
  obtain ⟨w8, hw8⟩ : ∃ w8, w8 = w7.setCell ⟨X, 2, none⟩ (.bool true) := ⟨_, rfl⟩
  have R8 : Hid (RSt w8 base X vt vm ks { S with fr := true }) := hid (by rw [hw8]; exact R7.out.freeze)
  have hX7 := R7.out.head
  have K8 : Kt [108] w7 w8 := by rw [hw8]; exact (Kt.refl _ _).set X 2 _ hX7 (by simp)
  have h38 := (K8 _ _ _ _ H37.out (by decide)).trans H37.out
  have H48 := hid ((K8 _ _ _ _ H47.out (by decide)).trans H47.out)
  have H78 := hid ((K8 _ _ _ _ H77.out (by decide)).trans H77.out)
  have BR8 : Hid (ButR (RB X vt ks) w w8) := hid (by rw [hw8]; exact (ButR.of_below B7.out).setNew (.inr (.inl rfl)) 2 _)
  have HW8 := hid hw8
  clear hw8 hX7 K8
  go_upto_region 11 with fail
  rw [← HW8.out]
  clear HW8 x0 x1 x2 x3 x4 x5 y0 y1 y2 y3 y4 f2
  go_wp2_with fail
  go_loopw [8, 9] (fun iv _ wr => iv = .int .i64 0 ∧ w8 = wr) (fun _ _ _ => 0)
  case atStart => exact ⟨rfl, rfl⟩
  case round =>
    obtain ⟨rfl, rfl⟩ := hrel
    have a0 : w8.cell? ⟨Br, 0, none⟩ = some (.bool true) := by rw [cell_of_row _ _ _ _ _ _ H78.out]; rfl
    have a1 : w8.cell? ⟨Br, 1, none⟩ = some (.slice none 0 0) := by rw [cell_of_row _ _ _ _ _ _ H78.out]; rfl
    have d0 : w8.cell? ⟨B4, 0, none⟩ = some (.bool false) := by rw [cell_of_row _ _ _ _ _ _ H48.out]; rfl
    have d1 : w8.cell? ⟨B4, 1, none⟩ = some (.slice none 0 0) := by rw [cell_of_row _ _ _ _ _ _ H48.out]; rfl
    have e0 : w8.frozen? ⟨B4, 0, none⟩ = false := by simp [World.frozen?, H48.out]
    have e1 : w8.frozen? ⟨B4, 1, none⟩ = false := by simp [World.frozen?, H48.out]
    go_wp2_with fail
    have hE := rreply_end (w := w) (.bool true) (.slice none 0 0) H48.out R8.out BR8.out (by have := HwB.out; omega)
    (try simp only [Exit.inBlock, Exit.then])
    refine bodyPost_ret (results_reply rfl _ _ B4 _ _ _ _ rfl hE.1) rfl ?_
    exact ⟨none, 0, rfl, World.ownsRow_nil _ _ _ _, hE.2.1, hE.2.2.1⟩
set_option linter.unusedSimpArgs false in
set_option maxRecDepth 100000 in
set_option maxHeartbeats 2000000 in
theorem rapply_none (base X : Nat) (vt vm : Value) (ks : List Nat) (S : StD) (c : CmdD) (u : Value) (w : World) (hR : RSt w base X vt vm ks S) (hu : CmdOk w c u) (hm : mayB c = true) (hcl : c.op = 0) (hfr : S.fr = false) :
    Calls Try.prog 39 #[.pointer (some ⟨X, 0, none⟩), cmdV c u] w (RApP base X vt vm ks S true 0 [] w) := by
  have HMB := hid hm
  have HCL := hid hcl
  have HFR := hid hfr
  clear hm hcl hfr
  have HR := hid hR
  have HU := hid hu
  obtain ⟨ua, uc, rfl⟩ := hu.u.shape
  have hXl := lt_of_block hR.head
  clear hR hu
  have hMay := hid fun W (hW : CmdOk W c (.slice ua c.data.length uc)) => rmay_any c _ W hW
  obtain ⟨op, client, seq, cf, ct, data⟩ := c
  unfold cmdV at hMay ⊢
  simp only at hMay ⊢
  obtain ⟨w0, hw0⟩ : ∃ w0, w0 = (w.alloc (.cells #[.int .i64 op, .int .i64 client, .int .i64 seq, .int .i64 cf, .int .i64 ct, .slice ua data.length uc] 24)).alloc (.cells #[.bool false, .slice none 0 0] 60) := ⟨_, rfl⟩
  have hb0 : Below w.heap.size w w0 := by rw [hw0]; exact ((Below.refl _ _).alloc (Nat.le_refl _) _).alloc (by simp) _
  have h30 : w0.heap[w.heap.size]? = some (.cells #[.int .i64 op, .int .i64 client, .int .i64 seq, .int .i64 cf, .int .i64 ct, .slice ua data.length uc] 24 (0, 0)) := by rw [hw0]; exact heap_alloc2_old _ _ _
  have h40 : w0.heap[w.heap.size + 1]? = some (.cells #[.bool false, .slice none 0 0] 60 (0, 0)) := by rw [hw0]; exact heap_alloc2_new _ _ _
  have HW0 := hid hw0
  clear hw0
  go_enter Try.func39, Try.ntmps39
  go_upto_region 1 with fail
  rw [← HW0.out]
  obtain ⟨B3, hB3⟩ : ∃ B, B = w.heap.size := ⟨_, rfl⟩
  obtain ⟨B4, hB4⟩ : ∃ B, B = w.heap.size + 1 := ⟨_, rfl⟩
  rw [← hB3] at h30
  rw [← hB4] at h40
  rw [← hB4, ← hB3]
  have hXB : X < B3 ∧ B3 < B4 := by omega
  have HwB : Hid (w.heap.size = B3) := hid hB3.symm
  clear hB3 hB4 HW0
  have q0 : w0.cell? ⟨B3, 0, none⟩ = some (.int .i64 op) := by rw [cell_of_row _ _ _ _ _ _ h30]; rfl
  have q1 : w0.cell? ⟨B3, 1, none⟩ = some (.int .i64 client) := by rw [cell_of_row _ _ _ _ _ _ h30]; rfl
  have q2 : w0.cell? ⟨B3, 2, none⟩ = some (.int .i64 seq) := by rw [cell_of_row _ _ _ _ _ _ h30]; rfl
  have q3 : w0.cell? ⟨B3, 3, none⟩ = some (.int .i64 cf) := by rw [cell_of_row _ _ _ _ _ _ h30]; rfl
  have q4 : w0.cell? ⟨B3, 4, none⟩ = some (.int .i64 ct) := by rw [cell_of_row _ _ _ _ _ _ h30]; rfl
  have q5 : w0.cell? ⟨B3, 5, none⟩ = some (.slice ua data.length uc) := by rw [cell_of_row _ _ _ _ _ _ h30]; rfl
  have H30 := hid h30
  have H40 := hid h40
  have B0 := hid hb0
  clear h30 h40 hb0
  go_wp2_with fail
  refine (hMay.out w0 (HU.out.below B0.out)).mono ?_
  rintro e w1 ⟨rfl, hb1⟩
  have H31 := hid ((hb1.block B3 (lt_of_block H30.out)).trans H30.out)
  have H41 := hid ((hb1.block B4 (lt_of_block H40.out)).trans H40.out)
  have B1 := hid (B0.out.trans (hb1.mono B0.out.size))
  clear hb1 q0 q1 q2 q3 q4 q5 H30 H40 B0 hMay
  have hm := HMB.out
  rw [hm]
  have R1 := hid (HR.out.below B1.out)
  obtain ⟨x0, x1, x2, x3, x4, x5, y0, y1, y2, y3, y4⟩ := rcells H31.out R1.out
  have d0 : w1.cell? ⟨B4, 0, none⟩ = some (.bool false) := by rw [cell_of_row _ _ _ _ _ _ H41.out]; rfl
  have d1 : w1.cell? ⟨B4, 1, none⟩ = some (.slice none 0 0) := by rw [cell_of_row _ _ _ _ _ _ H41.out]; rfl
  have e0 : w1.frozen? ⟨B4, 0, none⟩ = false := by simp [World.frozen?, H41.out]
  have e1 : w1.frozen? ⟨B4, 1, none⟩ = false := by simp [World.frozen?, H41.out]
  clear hm HMB
  have h := HCL.out
  (try simp only at h)
  have hc1 : decide (1 ≤ op) = false := by rw [h]; rfl
  have hc5 : (op == 5) = false := by rw [h]; rfl
  clear h HCL
  go_upto_region 4 with fail
  go_quiet (fail)
  generalize hW : w1.drewN _ = W
  have hBW : Below w1.heap.size w1 W := by rw [← hW]; exact belowN _ _
  have BW := hid (B1.out.trans (hBW.mono B1.out.size))
  have RW := hid (R1.out.below hBW)
  have H3W := hid ((hBW.block B3 (lt_of_block H31.out)).trans H31.out)
  have H4W := hid ((hBW.block B4 (lt_of_block H41.out)).trans H41.out)
  clear hW hBW x0 x1 x2 x3 x4 x5 y0 y1 y2 y3 y4 d0 d1 e0 e1 H31 H41 R1 B1
  obtain ⟨x0, x1, x2, x3, x4, x5, y0, y1, y2, y3, y4⟩ := rcells H3W.out RW.out
  have d0 : W.cell? ⟨B4, 0, none⟩ = some (.bool false) := by rw [cell_of_row _ _ _ _ _ _ H4W.out]; rfl
  have d1 : W.cell? ⟨B4, 1, none⟩ = some (.slice none 0 0) := by rw [cell_of_row _ _ _ _ _ _ H4W.out]; rfl
  have e0 : W.frozen? ⟨B4, 0, none⟩ = false := by simp [World.frozen?, H4W.out]
  have e1 : W.frozen? ⟨B4, 1, none⟩ = false := by simp [World.frozen?, H4W.out]
  rw [HFR.out] at y2
  obtain ⟨w7, hw7⟩ : ∃ w7, w7 = W.alloc (.cells #[.bool true, .slice none 0 0] 60) := ⟨_, rfl⟩
  have b7 : Below W.heap.size W w7 := by rw [hw7]; exact (Below.refl _ _).alloc (Nat.le_refl _) _
  have h77 : w7.heap[W.heap.size]? = some (.cells #[.bool true, .slice none 0 0] 60 (0, 0)) := by rw [hw7]; exact heap_alloc_new _ _
  have H37 := hid ((b7.block B3 (lt_of_block H3W.out)).trans H3W.out)
  have H47 := hid ((b7.block B4 (lt_of_block H4W.out)).trans H4W.out)
  have B7 := hid (BW.out.trans (b7.mono BW.out.size))
  have R7 := hid (RW.out.below b7)
  have HW7 := hid hw7
  have H77 := hid h77
  have HB47 := hid (lt_of_block H4W.out)
  clear hw7 h77 b7
  go_upto_region 9 with fail
  rw [← HW7.out]
  obtain ⟨Br, hBr⟩ : ∃ B, B = W.heap.size := ⟨_, rfl⟩
  rw [← hBr] at H77 HB47 ⊢
  have HBrw : Hid (w.heap.size ≤ Br) := hid (by have := BW.out.size; omega)
  clear hBr HW7 x0 x1 x2 x3 x4 x5 y0 y1 y2 y3 y4 d0 d1 e0 e1 H3W H4W RW BW
  obtain ⟨x0, x1, x2, x3, x4, x5, y0, y1, y2, y3, y4⟩ := rcells H37.out R7.out
  have R8 := R7
  have H48 := H47
  have H78 := H77
  have BR8 : Hid (ButR (RB X vt ks) w w7) := hid (ButR.of_below B7.out)
  obtain ⟨w8, hw8⟩ : ∃ w8, w8 = w7 := ⟨_, rfl⟩
  rw [← hw8] at R8 H48 H78 BR8
  go_wp2_with fail
  rw [← hw8]
  clear hw8 x0 x1 x2 x3 x4 x5 y0 y1 y2 y3 y4
  go_loopw [8, 9] (fun iv _ wr => iv = .int .i64 0 ∧ w8 = wr) (fun _ _ _ => 0)
  case atStart => exact ⟨rfl, rfl⟩
  case round =>
    obtain ⟨rfl, rfl⟩ := hrel
    have a0 : w8.cell? ⟨Br, 0, none⟩ = some (.bool true) := by rw [cell_of_row _ _ _ _ _ _ H78.out]; rfl
    have a1 : w8.cell? ⟨Br, 1, none⟩ = some (.slice none 0 0) := by rw [cell_of_row _ _ _ _ _ _ H78.out]; rfl
    have d0 : w8.cell? ⟨B4, 0, none⟩ = some (.bool false) := by rw [cell_of_row _ _ _ _ _ _ H48.out]; rfl
    have d1 : w8.cell? ⟨B4, 1, none⟩ = some (.slice none 0 0) := by rw [cell_of_row _ _ _ _ _ _ H48.out]; rfl
    have e0 : w8.frozen? ⟨B4, 0, none⟩ = false := by simp [World.frozen?, H48.out]
    have e1 : w8.frozen? ⟨B4, 1, none⟩ = false := by simp [World.frozen?, H48.out]
    go_wp2_with fail
    have hE := rreply_end (w := w) (.bool true) (.slice none 0 0) H48.out R8.out BR8.out (by have := HwB.out; omega)
    (try simp only [Exit.inBlock, Exit.then])
    refine bodyPost_ret (results_reply rfl _ _ B4 _ _ _ _ rfl hE.1) rfl ?_
    exact ⟨none, 0, rfl, World.ownsRow_nil _ _ _ _, hE.2.1, hE.2.2.1⟩
end Go.Proofs.Ytabmnelenfghhaa
