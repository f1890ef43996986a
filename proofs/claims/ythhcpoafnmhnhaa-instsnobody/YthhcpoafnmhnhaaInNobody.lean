/- The law InstsNobody: a table that there is not has nothing; a loop goes over what there was when it began. Conditions: the instances lie in memory. -/
import Derived.Test.YthhcpoafnmhnhaaInNil
import Derived.Test.YthhcpoafnmhnhaaInFindL
import Derived.Test.YthhcpoafnmhnhaaInLives
namespace Go.Proofs.Ythhcpoafnmhnhaa
open Go.RowKit Go.Maps Go.Shelf
attribute [local go_sem] Oper.semAt_some
set_option linter.unusedVariables false
set_option linter.unusedSimpArgs false

/-- All cells but those of two boxes are as they were, and these hold a number and a truth value. -/
structure NbK (KB OB : Nat) (A B : World) : Prop where
  size : A.heap.size ≤ B.heap.size
  kept : ∀ (q : Nat) (cs : Array Value) (t : TypeId) (fr : Nat × Nat), q ≠ KB → q ≠ OB → A.heap[q]? = some (.cells cs t fr) → B.heap[q]? = some (.cells cs t fr)
  k : ∀ n : Int, A.heap[KB]? = some (.cells #[.int .i64 n] 3 (0, 0)) → ∃ n' : Int, B.heap[KB]? = some (.cells #[.int .i64 n'] 3 (0, 0))
  o : ∀ b : Bool, A.heap[OB]? = some (.cells #[.bool b] 4 (0, 0)) → ∃ b' : Bool, B.heap[OB]? = some (.cells #[.bool b'] 4 (0, 0))
theorem NbK.trans {KB OB : Nat} {A B C : World} (h : NbK KB OB A B) (k : NbK KB OB B C) : NbK KB OB A C :=
  ⟨Nat.le_trans h.size k.size, fun q cs t fr h1 h2 hq => k.kept q cs t fr h1 h2 (h.kept q cs t fr h1 h2 hq), fun n hn => by obtain ⟨n', h'⟩ := h.k n hn; exact k.k n' h', fun n hn => by obtain ⟨n', h'⟩ := h.o n hn; exact k.o n' h'⟩
theorem NbK.kc {KB OB : Nat} {A B : World} (hs : A.heap.size ≤ B.heap.size) (h : KC A B) : NbK KB OB A B := ⟨hs, fun q cs t fr _ _ hq => h q cs t fr hq, fun n hn => ⟨n, h _ _ _ _ hn⟩, fun n hn => ⟨n, h _ _ _ _ hn⟩⟩
theorem kc_put (W : World) (l : Nat) (o o' : Obj) (h : W.heap[l]? = some o) (hc : o.isCells = false) : KC W (W.putObj l o') := fun q cs t fr hq => by
  refine ((grownBy_putObj' W l o').block q (lt_of_block hq) ?_).trans hq
  intro e
  cases e
  rw [hq] at h; cases h; cases hc
theorem NbK.setK {KB OB : Nat} (W : World) (n n' : Int) (h : W.heap[KB]? = some (.cells #[.int .i64 n] 3 (0, 0))) (hne : OB ≠ KB) : NbK KB OB W (W.setCell ⟨KB, 0, none⟩ (.int .i64 n')) :=
  ⟨by simp, fun q _ _ _ h1 _ hq => (Below.heap_setCell _ _ _ _ h1).trans hq, fun _ _ => ⟨n', heap_setCell_same _ _ _ _ _ _ h⟩, fun b hb => ⟨b, (Below.heap_setCell _ _ _ _ hne).trans hb⟩⟩
theorem NbK.setO {KB OB : Nat} (W : World) (b b' : Bool) (h : W.heap[OB]? = some (.cells #[.bool b] 4 (0, 0))) (hne : KB ≠ OB) : NbK KB OB W (W.setCell ⟨OB, 0, none⟩ (.bool b')) :=
  ⟨by simp, fun q _ _ _ _ h2 hq => (Below.heap_setCell _ _ _ _ h2).trans hq, fun n hn => ⟨n, (Below.heap_setCell _ _ _ _ hne).trans hn⟩, fun _ _ => ⟨b', heap_setCell_same _ _ _ _ _ _ h⟩⟩
theorem NbK.cell {KB OB : Nat} {A B : World} (h : NbK KB OB A B) {a : Addr} {u : Value} (h1 : a.block ≠ KB) (h2 : a.block ≠ OB) (hk : A.cell? a = some u) : B.cell? a = some u := by
  unfold World.cell? at hk ⊢
  split at hk
  · rename_i cs t fr hh
    have := h.kept a.block _ _ _ h1 h2 hh
    rw [this]
    exact hk
  · cases hk
/-- The cell of a box of one cell stands at its beginning. -/
theorem box_off {W : World} {z o : Nat} {c u : Value} {t : TypeId} (h : W.heap[z]? = some (.cells #[c] t (0, 0))) (hc : W.cell? ⟨z, o, none⟩ = some u) : o = 0 ∧ u = c := by
  rw [cell_of_row _ _ _ _ _ _ h] at hc
  cases o with
  | zero => simp at hc; exact ⟨rfl, hc.symm⟩
  | succ o => simp at hc
theorem addr_eq {a : Addr} (h : a.spot = none) : a = ⟨a.block, a.off, none⟩ := by cases a; simp at h; subst h; rfl
theorem Strs.nbk {KB OB : Nat} {A B : World} (h : NbK KB OB A B) {n : Int} {b : Bool} (hk : A.heap[KB]? = some (.cells #[.int .i64 n] 3 (0, 0))) (ho : A.heap[OB]? = some (.cells #[.bool b] 4 (0, 0))) {v : Value} {l : List ByteArray} (hs : Strs A v l) : Strs B v l := by
  obtain ⟨ao, m, cap, rfl, h1, h2, h3, h4, h5⟩ := hs
  refine ⟨ao, m, cap, rfl, h1, h2, h3, h4, fun ad had j hj => ?_⟩
  have hc := h5 ad had j hj
  have he := addr_eq (World.cell?_spot hc)
  refine h.cell (fun e => ?_) (fun e => ?_) hc
  · rw [he, e] at hc
    have := (box_off hk hc).2
    cases this
  · rw [he, e] at hc
    have := (box_off ho hc).2
    cases this
theorem Rfs.nbk {KB OB : Nat} {A B : World} (h : NbK KB OB A B) {n : Int} {b : Bool} (hk : A.heap[KB]? = some (.cells #[.int .i64 n] 3 (0, 0))) (ho : A.heap[OB]? = some (.cells #[.bool b] 4 (0, 0))) {v : Value} {l : List (Int × Int)} (hs : Rfs A v l) : Rfs B v l := by
  obtain ⟨ao, m, cap, rfl, h1, h2, h3, h4, h5⟩ := hs
  refine ⟨ao, m, cap, rfl, h1, h2, h3, h4, fun ad had j hj => ?_⟩
  obtain ⟨hc0, hc1⟩ := h5 ad had j hj
  have he := addr_eq (World.cell?_spot hc1)
  have e1 : (ad.add (j * 2 + 1)).block = ad.block := rfl
  have e0 : (ad.add (j * 2)).block = ad.block := by unfold Addr.add; split <;> rfl
  have e2 : (ad.add (j * 2 + 1)).off = ad.off + (j * 2 + 1) := rfl
  have n1 : ad.block ≠ KB := fun e => by
    rw [he, e1, e] at hc1
    have := (box_off hk hc1).1
    omega
  have n2 : ad.block ≠ OB := fun e => by
    rw [he, e1, e] at hc1
    have := (box_off ho hc1).1
    omega
  exact ⟨h.cell (by rw [e0]; exact n1) (by rw [e0]; exact n2) hc0, h.cell (by rw [e1]; exact n1) (by rw [e1]; exact n2) hc1⟩
/-- The table's instances lie in memory, beside the two boxes. -/
structure NbM (L : List EnI) (KB OB : Nat) (A : World) : Prop where
  ins : ∀ e ∈ L, InM A e.x e.u e.r
  k : ∃ n : Int, A.heap[KB]? = some (.cells #[.int .i64 n] 3 (0, 0))
  o : ∃ b : Bool, A.heap[OB]? = some (.cells #[.bool b] 4 (0, 0))
theorem NbM.kept {L : List EnI} {KB OB : Nat} {A B : World} (h : NbM L KB OB A) (k : NbK KB OB A B) : NbM L KB OB B := by
  obtain ⟨h1, ⟨n, hn⟩, b, hb⟩ := h
  exact ⟨fun e he => ⟨(h1 e he).d.nbk k hn hb, (h1 e he).r.nbk k hn hb⟩, k.k n hn, k.o b hb⟩
theorem nb_mem (L : List EnI) (KB OB hi : Nat) (h1 : KB < hi) (h2 : OB < hi) : KpMem L hi (NbK KB OB) (NbM L KB OB) :=
  ⟨NbK.trans, fun h => NbK.kc h.size (KC.below h), fun W l o o' h hc => NbK.kc (grownBy_putObj' W l o').size (kc_put W l o o' h hc), fun h q cs t fr hq hh => h.kept q cs t fr (by omega) (by omega) hh, NbM.kept, fun h => h.ins⟩
theorem Tb.cell {W : World} {tb mb n : Nat} {D : DataW Value} (h : Tb W tb mb n D) {q : Nat} (hq : tb ≠ q) (v : Value) {cs : Array Value} {t : TypeId} {fr : Nat × Nat} (hc : W.heap[q]? = some (.cells cs t fr)) : Tb (W.setCell ⟨q, 0, none⟩ v) tb mb n D := by
  refine h.kept (grownBy_setCell' W q v) (fun e => hq (Option.some.inj e)) (fun e => ?_)
  obtain ⟨es, clock, hm, -⟩ := h.own
  rw [Option.some.inj e, hc] at hm
  cases hm
/-- In the loop. -/
structure NbI (w w5 : World) (KB OB tb mb d : Nat) (n : Nat) (W : World) : Prop where
  bel : Below w.heap.size w W
  kept : NbK KB OB w5 W
  kbox : W.heap[KB]? = some (.cells #[.int .i64 n] 3 (0, 0))
  obox : W.heap[OB]? = some (.cells #[.bool true] 4 (0, 0))
  tab : ∃ nn D L, Tb W tb mb nn D ∧ TL D L ∧ nn ≤ 60 + n
  dfr : W.heap[d]? = some (.deferred (some []))
  low : d < w5.heap.size
theorem NbI.turned {w w5 X Y : World} {KB OB tb mb d n : Nat} {row : Option Nat} (h : NbI w w5 KB OB tb mb d n X) (hw : w.heap.size ≤ w5.heap.size) (hm : mb < w5.heap.size) (hg : X.grownBy Y row) (hr : ∀ r, row = some r → w5.heap.size ≤ r ∧ ∃ o : Obj, X.heap[r]? = some o ∧ o.isCells = false) : NbI w w5 KB OB tb mb d n Y := by
  have hk : KC X Y := fun q cs t fr hq => by
    refine (hg.block q (lt_of_block hq) ?_).trans hq
    intro e
    obtain ⟨o, ho, hc⟩ := (hr q e.symm).2
    rw [hq] at ho; cases ho; cases hc
  obtain ⟨nn, D, L, hT, hL, hn⟩ := h.tab
  refine ⟨h.bel.grown hg h.bel.size (fun k e => by have := (hr k e).1; omega), h.kept.trans (NbK.kc hg.size hk), hk _ _ _ _ h.kbox, hk _ _ _ _ h.obox, ⟨nn, D, L, hT.kept hg ?_ ?_, hL, hn⟩, (hg.block d (lt_of_block h.dfr) (fun e => by have := (hr d e.symm).1; have := h.low; omega)).trans h.dfr, h.low⟩
  · intro e
    obtain ⟨o, ho, hc⟩ := (hr tb e.symm).2
    rw [hT.box] at ho; cases ho; cases hc
  · intro e
    have := (hr mb e.symm).1
    omega
theorem NbI.below {w w5 X Y : World} {KB OB tb mb d n : Nat} (h : NbI w w5 KB OB tb mb d n X) (hw : w.heap.size ≤ w5.heap.size) (hm : mb < w5.heap.size) (hb : Below X.heap.size X Y) : NbI w w5 KB OB tb mb d n Y := h.turned hw hm (row := none) ⟨hb.os, hb.tape, hb.output, hb.size, fun k hk _ => hb.block k hk⟩ (fun r e => by cases e)
/-- What the assignment leaves: the element in a box of its own. -/
def AtN (B : Nat) (L : List EnI) (Fr : OutE → Nat → Act) (x : OutE) (a : Act) (W : World) : Prop := ∃ q, B ≤ q ∧ a = Fr x q ∧ W.heap[q]? = some (.cells x.c 38 (0, 0)) ∧ x.e ∈ L
/-- What is put in the loop. -/
def nbX (i : Int) : InD := { zeroI with ref := (6, i) }
set_option maxRecDepth 100000 in
set_option maxHeartbeats 8000000 in
theorem instsNobody_any (v : Value) (l : List EnI) (c : CmdD) (u : Value) (w : World) (hv : Ins w v l) (hj : ∀ e ∈ l, InJ e.x) (hu : ∃ ua un uc, u = .slice ua un uc) :
    Calls Try.prog 4 #[v, cmdV c u] w fun e w' => e = .returned (.bool true) ∧ Below w.heap.size w w' := by
  have HV := hid hv
  have HPY := hid (fun W h => play_any v l W h hj)
  have HOR := hid (fun W => iorder_nil c u (0, 0) W hu)
  obtain ⟨xa, xc, rfl⟩ := hv.shape
  obtain ⟨ua, un, uc, rfl⟩ := hu
  obtain ⟨c0, c1, c2, c3, c4, cd⟩ := c
  unfold cmdV at HOR ⊢
  simp only at HOR ⊢
  clear hv hj
  obtain ⟨w1, hw1⟩ : ∃ w1, w1 = w.alloc (.cells #[.int .i64 c0, .int .i64 c1, .int .i64 c2, .int .i64 c3, .int .i64 c4, .slice ua un uc] 35) := ⟨_, rfl⟩
  have b1 : Below w.heap.size w w1 := by rw [hw1]; exact (Below.refl _ _).alloc (Nat.le_refl _) _
  have hA : w1.heap[w.heap.size]? = some (.cells #[.int .i64 c0, .int .i64 c1, .int .i64 c2, .int .i64 c3, .int .i64 c4, .slice ua un uc] 35 (0, 0)) := by rw [hw1]; exact heap_alloc_new _ _
  have HW1 := hid hw1
  have B1 := hid b1
  clear hw1 b1
  refine (callsIn_wide (n := 3)).1 ?_
  refine callsIn_of_wp_marks Try.func4 rfl trivial ?_ rfl
  simp only [Try.ntmps4, List.size_toArray, List.length_cons, List.length_nil, Nat.reduceAdd, Nat.reduceSub, Array.replicate_succ, Array.replicate_zero, List.push_toArray, List.append_toArray, List.nil_append, List.cons_append]
  refine wpIn_wide.2 ?_
  go_upto_region 1 with fail
  rw [← HW1.out]
  obtain ⟨A, hAe⟩ : ∃ A, A = w.heap.size := ⟨_, rfl⟩
  rw [← hAe] at hA
  rw [← hAe]
  have HA1 := hid hA
  clear hAe HW1 hA
  go_wp2_with fail
  refine (iget_nil (0, 1) w1).mono ?_
  rintro e w2 ⟨rfl, hb2⟩
  have B2 := hid (B1.out.trans (hb2.mono B1.out.size))
  have HA2 := hid ((hb2.block A (lt_of_block HA1.out)).trans HA1.out)
  clear hb2 HA1
  have HZV : Hid (instV zeroI (.slice none 0 0) (.slice none 0 0) = .agg (instC zeroI (.slice none 0 0) (.slice none 0 0))) := hid rfl
  rw [HZV.out]
  have hzs : (instC zeroI (.slice none 0 0) (.slice none 0 0)).size = 16 := rfl
  have hzo : (instC zeroI (.slice none 0 0) (.slice none 0 0)).all (·.oneCell') = true := instC_one _ _ _ rfl rfl
  generalize instC zeroI (.slice none 0 0) (.slice none 0 0) = cz at hzs hzo ⊢
  go_upto_region 3 with (refine wpl_storeC rfl _ _ rfl w2.heap.size cz rfl rfl hzs hzo _ zeroI (.slice none 0 0) (.slice none 0 0) (heap_alloc_new _ _) ?_)
  obtain ⟨w3, hw3⟩ : ∃ w3, w3 = (w2.alloc (.cells (instC zeroI (.slice none 0 0) (.slice none 0 0)) 38)).setRow w2.heap.size cz := ⟨_, rfl⟩
  have b3 : Below w2.heap.size w2 w3 := by rw [hw3]; exact below_row ((Below.refl _ _).alloc (Nat.le_refl _) _) (Nat.le_refl _) _
  have HW3 := hid hw3
  clear hw3
  unfold instC zeroI at HW3
  simp only at HW3
  rw [← HW3.out]
  obtain ⟨Z, hZe⟩ : ∃ Z, Z = w2.heap.size := ⟨_, rfl⟩
  rw [← hZe]
  clear hZe HW3
  have B3 := hid (B2.out.trans (b3.mono B2.out.size))
  have hA3 := (b3.block A (lt_of_block HA2.out)).trans HA2.out
  have a0 : w3.cell? ⟨A, 0, none⟩ = some (.int .i64 c0) := by rw [cell_of_row _ _ _ _ _ _ hA3]; rfl
  have a1 : w3.cell? ⟨A, 1, none⟩ = some (.int .i64 c1) := by rw [cell_of_row _ _ _ _ _ _ hA3]; rfl
  have a2 : w3.cell? ⟨A, 2, none⟩ = some (.int .i64 c2) := by rw [cell_of_row _ _ _ _ _ _ hA3]; rfl
  have a3 : w3.cell? ⟨A, 3, none⟩ = some (.int .i64 c3) := by rw [cell_of_row _ _ _ _ _ _ hA3]; rfl
  have a4 : w3.cell? ⟨A, 4, none⟩ = some (.int .i64 c4) := by rw [cell_of_row _ _ _ _ _ _ hA3]; rfl
  have a5 : w3.cell? ⟨A, 5, none⟩ = some (.slice ua un uc) := by rw [cell_of_row _ _ _ _ _ _ hA3]; rfl
  clear b3 hA3 HA2 B2
  go_wp2_with fail
  refine (HOR.out w3).mono ?_
  rintro e w4 ⟨va4, vc4, rfl, hb4⟩
  have B4 := hid (B3.out.trans (hb4.mono B3.out.size))
  clear hb4 a0 a1 a2 a3 a4 a5 HOR B3
  have hnil : ∀ (B : Nat) (W : World), (binOp BinOp.eql 29 (.func (.func 21) #[] #[.pointer (some ⟨B, 0, none⟩)]) .nilFunc).run Try.prog W = .ok (.bool false) W := fun _ _ => by kernel_rfl
  go_wp2_with (go_at_call 6; refine (ieach_any _ _ ⟨_, rfl⟩).mono ?_; rintro e w5 ⟨rfl, hw5⟩; have W5 := hid hw5; clear hw5)
  have hK5 : w5.heap[w4.heap.size]? = some (.cells #[.int .i64 0] 3 (0, 0)) := by rw [W5.out]; exact heap_alloc2_old _ _ _
  have hE5 : Hid (w5.heap[w4.heap.size + 1]? = some (.cells #[.pointer none] 25 (0, 0))) := hid (by rw [W5.out]; exact heap_alloc2_new _ _ _)
  have b5 : Below w4.heap.size w4 w5 := by rw [W5.out]; exact ((Below.refl _ _).alloc (Nat.le_refl _) _).alloc (by simp) _
  obtain ⟨KB, hKe⟩ : ∃ A, A = w4.heap.size := ⟨_, rfl⟩
  obtain ⟨B, hBe⟩ : ∃ A, A = w4.heap.size + 1 := ⟨_, rfl⟩
  rw [← hKe] at hK5
  rw [← hBe] at hE5
  rw [← hBe, ← hKe]
  have HKB : Hid (w.heap.size ≤ KB) := hid (by have := B4.out.size; omega)
  have K5 := hid hK5
  have B5 := hid (B4.out.trans (b5.mono B4.out.size))
  clear hKe hBe hK5 b5 W5 B4
  go_wp2_with fail
  refine (wpIn_wide (n := 3)).1 ?_
  refine wpIn_rangeFunc_ownH (F := Fence.wide) rfl (by omega) (gf := 21) (lb := #[.pointer (some ⟨B, 0, none⟩)]) rfl trivial (enters_of Try.func21 (by kernel_rfl) rfl)
    (eachN_stops _ (by omega) B w5 hE5.out) walksK_t (fun W l o o' h1 h2 h3 h4 => walksK_b (w := w5) W l o o' h1 h2 h3 h4) (Below.refl _ _) (fun x => x.elim)
    (fun pre W => Idle w5 W)
    (fun c pre W => False) ?hI ?hIx ⟨Below.refl _ _⟩
    (fun x a W => False)
    ?hAx ?assign ?body ?done ?stop
  case hI =>
    intro s X Y row h hg hr
    exact h.turned hg hr
  case hIx =>
    intro c s X Y row h hg hr
    exact h
  case hAx => exact fun x => x.elim
  case assign => exact fun _ _ x => x.elim
  case body => exact fun _ _ x => x.elim
  case stop =>
    intro Dd c pre W hD hS hF hdf
    exact hF.elim
  intro D1 xs w6 hD1 hS hM hdf1
  have B56 := hid hM.grown
  have B6 := hid (B5.out.trans (hM.grown.mono B5.out.size))
  have K6 := hid ((hM.grown.block KB (lt_of_block K5.out)).trans K5.out)
  have HD1 := hid hdf1
  have hD1w : w.heap.size ≤ D1 := by have := B5.out.size; omega
  clear hM hdf1 hS B5 K5 hE5 B56
  have k6 : w6.cell? ⟨KB, 0, none⟩ = some (.int .i64 0) := by rw [cell_of_row _ _ _ _ _ _ K6.out]; rfl
  gi_wp2
  go_wp2_with fail
  refine (ilen_nil w6).mono ?_
  rintro e w6' ⟨rfl, hw6'⟩
  subst hw6'
  go_wp2_with fail
  refine (inext_nil 0 _).mono ?_
  rintro e w7 ⟨rfl, hb7⟩
  have B67 := hid hb7
  clear hb7 k6
  go_wp2_with fail
  refine (iclone_nil w7).mono ?_
  rintro e w7' ⟨rfl, hw7'⟩
  subst hw7'
  have hPN := iput_nil { zeroI with ref := (0, 1) } (.slice none 0 0) (.slice none 0 0) w7' ⟨Strs.nil _, Rfs.nil _⟩
  unfold instV instC zeroI at hPN
  simp only at hPN
  have HPN := hid hPN
  clear hPN
  go_wp2_with fail
  refine HPN.out.mono ?_
  rintro e w8 ⟨rfl, hb8⟩
  have B68 := hid (B67.out.trans (hb8.mono B67.out.size))
  have B8 := hid (B6.out.trans (B68.out.mono B6.out.size))
  have K8 := hid ((B68.out.block KB (lt_of_block K6.out)).trans K6.out)
  have HD8 := hid ((B68.out.block D1 (lt_of_block HD1.out)).trans HD1.out)
  clear hb8 HPN B67 B68 B6 K6 HD1
  go_wp2_with fail
  refine (HPY.out w8 (HV.out.below B8.out)).mono ?_
  rintro e w9 ⟨tb, mb, nn, D, L, X, va, vc, rfl, hPL, hL60, hnn, hJX⟩
  have PL9 := hid hPL
  have B9 := hid (B8.out.trans (hPL.bel.mono B8.out.size))
  have K9 := hid ((hPL.bel.block KB (lt_of_block K8.out)).trans K8.out)
  have HD9 := hid ((hPL.bel.block D1 (lt_of_block HD8.out)).trans HD8.out)
  have HMB : Hid (w.heap.size ≤ mb ∧ w.heap.size ≤ tb) := hid ⟨Nat.le_trans B8.out.size hPL.fresh.2, Nat.le_trans B8.out.size hPL.fresh.1⟩
  clear hPL hJX HPY HV B8 K8 HD8
  obtain ⟨wa, hwa⟩ : ∃ wa, wa = ((w9.alloc (.cells #[.pointer (some ⟨tb, 0, none⟩)] 25)).alloc (.cells #[.slice va X.length vc] 22)).alloc (.cells #[.bool true] 4) := ⟨_, rfl⟩
  have hha := heap3 w9 (.cells #[.pointer (some ⟨tb, 0, none⟩)] 25) (.cells #[.slice va X.length vc] 22) (.cells #[.bool true] 4)
  rw [← hwa] at hha
  have ba : Below w9.heap.size w9 wa := by rw [hwa]; exact (((Below.refl _ _).alloc (Nat.le_refl _) _).alloc (by simp) _).alloc (by simp; omega) _
  have HWA := hid hwa
  clear hwa
  go_upto_region 13 with fail
  rw [← HWA.out]
  obtain ⟨TB, hTe⟩ : ∃ A, A = w9.heap.size := ⟨_, rfl⟩
  obtain ⟨XB, hXe⟩ : ∃ A, A = w9.heap.size + 1 := ⟨_, rfl⟩
  obtain ⟨OB, hOe⟩ : ∃ A, A = w9.heap.size + 1 + 1 := ⟨_, rfl⟩
  rw [← hOe, ← hXe, ← hTe] at hha
  rw [← hOe, ← hXe, ← hTe]
  have HTe : Hid (w9.heap.size ≤ TB ∧ w9.heap.size ≤ XB ∧ w9.heap.size ≤ OB ∧ TB ≠ OB ∧ XB ≠ OB) := hid (by omega)
  clear hTe hXe hOe HWA
  have HH := hid hha
  have BA := hid ba
  have c14 : wa.cell? ⟨OB, 0, none⟩ = some (.bool true) := by rw [cell_of_row _ _ _ _ _ _ HH.out.2.2]; rfl
  have c12 : wa.cell? ⟨TB, 0, none⟩ = some (.pointer (some ⟨tb, 0, none⟩)) := by rw [cell_of_row _ _ _ _ _ _ HH.out.1]; rfl
  clear hha ba
  go_wp2_with (go_at_call 6; refine (ieach_any _ _ ⟨_, rfl⟩).mono ?_; rintro e wb ⟨rfl, hwb⟩; have HWB := hid hwb; clear hwb)
  have hEb : wb.heap[wa.heap.size]? = some (.cells #[.pointer (some ⟨tb, 0, none⟩)] 25 (0, 0)) := by rw [HWB.out]; exact heap_alloc_new _ _
  have bb : Below wa.heap.size wa wb := by rw [HWB.out]; exact (Below.refl _ _).alloc (Nat.le_refl _) _
  obtain ⟨EB, hEe⟩ : ∃ A, A = wa.heap.size := ⟨_, rfl⟩
  rw [← hEe] at hEb
  rw [← hEe]
  have HEB := hid hEb
  have Bb := hid (BA.out.trans (bb.mono BA.out.size))
  have hTb := (bb.block TB (lt_of_block HH.out.1)).trans HH.out.1
  have hXb := (bb.block XB (lt_of_block HH.out.2.1)).trans HH.out.2.1
  have hOb := (bb.block OB (lt_of_block HH.out.2.2)).trans HH.out.2.2
  have hKb := (Bb.out.block KB (lt_of_block K9.out)).trans K9.out
  have PLb := hid (PL9.out.below Bb.out)
  have hbl : KB < w9.heap.size ∧ KB < wb.heap.size ∧ OB < wb.heap.size ∧ mb < wb.heap.size ∧ w.heap.size ≤ wb.heap.size := ⟨lt_of_block K9.out, lt_of_block hKb, lt_of_block hOb, PLb.out.tab.own.lt, by have := B9.out.size; have := Bb.out.size; omega⟩
  have N0 : Hid (NbI w wb KB OB tb mb D1 0 wb) := hid ⟨B9.out.trans (Bb.out.mono B9.out.size), NbK.kc (Nat.le_refl _) (fun _ _ _ _ h => h), hKb, hOb, ⟨nn, D, L, PLb.out.tab, PLb.out.tl, by omega⟩, (Bb.out.block D1 (lt_of_block HD9.out)).trans HD9.out, lt_of_block ((Bb.out.block D1 (lt_of_block HD9.out)).trans HD9.out)⟩
  have M0 : Hid (NbM L KB OB wb) := hid ⟨PLb.out.memL, ⟨0, hKb⟩, true, hOb⟩
  have HTb := hid hTb
  have HXb := hid hXb
  have HLT : Hid (∀ e ∈ L, LightI e.x) := hid fun e he => (PL9.out.ok e he).2
  have HXI : Hid (∀ n W, NbI w wb KB OB tb mb D1 n W → Ins W (.slice va X.length vc) X) := hid fun n W h => by
    refine ins_own (own_kept PLb.out.row fun q cs _ hh => (h.kept.kept q cs _ _ (fun e => ?_) (fun e => ?_) hh).trans hh.symm) fun e he => ⟨(PLb.out.memX e he).d.nbk h.kept hKb hOb, (PLb.out.memX e he).r.nbk h.kept hKb hOb⟩
    · rw [e, hKb] at hh; simp at hh
    · rw [e, hOb] at hh; simp at hh
  clear hEe hEb bb hTb hXb hOb hKb HH c14 c12 HWB
  go_wp2_with fail
  refine (wpIn_wide (n := 3)).1 ?_
  refine range_tells (F := Fence.wide) rfl (by omega) (gf := 21) (lb := #[.pointer (some ⟨EB, 0, none⟩)]) rfl trivial (enters_of Try.func21 (by kernel_rfl) rfl)
    (each_tells _ (by omega) EB tb mb nn wb.heap.size D L PLb.out.tl HLT.out (by omega) (NbK KB OB) (NbM L KB OB) (nb_mem L KB OB _ hbl.2.1 hbl.2.2.1) wb (Nat.le_refl _) HEB.out PLb.out.tab M0.out) NbK.trans (fun W l o o' _ h1 h2 _ => NbK.kc (grownBy_putObj' W l o').size (kc_put W l o o' h1 h2)) (Below.refl _ _) (fun _ => rfl)
    (fun pre W => NbI w wb KB OB tb mb D1 pre.length W)
    (fun c pre W => False) ?hI2 ?hIx2 N0.out
    (AtN wb.heap.size L ?Fr)
    ?hAx2 ?assign2 ?body2 ?done2 ?stop2
  case hI2 =>
    intro s X Y row h hg hr
    exact h.turned hbl.2.2.2.2 hbl.2.2.2.1 hg hr
  case hIx2 =>
    intro c s X Y row h hg hr
    exact h
  case stop2 =>
    intro Dd c pre W hD hS hF hdf
    exact hF.elim
  case hAx2 =>
    rintro x a' s X Y row ⟨q, h1, h2, h3, h4⟩ hg hr
    refine ⟨q, h1, h2, (hg.block q (lt_of_block h3) ?_).trans h3, h4⟩
    intro e
    obtain ⟨o, ho, hc⟩ := (hr q e.symm).2
    rw [h3] at ho; cases ho; cases hc
  case assign2 =>
    intro y pre x W K h hM hK
    have hc1 : x.c.size = 16 := rfl
    have hc2 : x.c.all (·.oneCell') = true := instC_one _ _ _ rfl rfl
    have hv : x.v = .agg x.c := rfl
    rw [hv]
    clear hv
    gi_wp2_with (first | (refine wplI_storeC rfl _ _ rfl W.heap.size x.c rfl rfl hc1 hc2 _ zeroI (.slice none 0 0) (.slice none 0 0) (heap_alloc_new _ _) ?_) | gi_in)
    have hb : Below W.heap.size W ((W.alloc (.cells (instC zeroI (.slice none 0 0) (.slice none 0 0)) 38)).setRow W.heap.size x.c) := below_row ((Below.refl _ _).alloc (Nat.le_refl _) _) (Nat.le_refl _) _
    have hrow : ((W.alloc (.cells (instC zeroI (.slice none 0 0) (.slice none 0 0)) 38)).setRow W.heap.size x.c).heap[W.heap.size]? = some (.cells x.c 38 (0, 0)) := setRow_heap _ _ _ _ _ _ (heap_alloc_new _ _)
    refine hK _ _ ((keeps_belowI hb).from _) (NbK.kc hb.size (KC.below hb)) (h.below hbl.2.2.2.2 hbl.2.2.2.1 hb) ⟨W.heap.size, h.kept.size, ?ax, hrow, hM.1⟩
    case ax =>
      clear hK hb hrow
      obtain ⟨q, hq⟩ : ∃ q, q = W.heap.size := ⟨_, rfl⟩
      rw [← hq]
  case body2 =>
    rintro y pre x a' W hy _ hM ⟨q, hq, hfr, hx, hin⟩ hlt'
    obtain rfl : a' = _ := hfr
    have hKO : KB ≠ OB := by have := HTe.out; omega
    have hIW := HXI.out pre.length W hM
    have hTW := hM.kept.kept TB _ _ _ (by have := HTe.out; omega) (by have := HTe.out; omega) HTb.out
    have hXW := hM.kept.kept XB _ _ _ (by have := HTe.out; omega) (by have := HTe.out; omega) HXb.out
    have t0 : W.cell? ⟨TB, 0, none⟩ = some (.pointer (some ⟨tb, 0, none⟩)) := by rw [cell_of_row _ _ _ _ _ _ hTW]; rfl
    have k0 : W.cell? ⟨KB, 0, none⟩ = some (.int .i64 pre.length) := by rw [cell_of_row _ _ _ _ _ _ hM.kbox]; rfl
    obtain ⟨n2, D2, L2, hT2, hL2, hn2⟩ := hM.tab
    obtain ⟨n, hn⟩ : ∃ n, n = pre.length := ⟨_, rfl⟩
    have HN := hid hn
    have HM := hid hM
    have HPL : Hid ((pre ++ [x]).length = n + 1) := hid (by rw [hn]; simp)
    rw [← hn] at k0 hn2 HM
    have hnl : n ≤ 60 := by omega
    have hIX := hIW
    have HI := hid hIW
    have HQ := hid hx
    have HIN := hid hin
    have HXW := hid hXW
    have HT2 := hid hT2
    have HNN : Hid (n2 ≤ 60 + n) := hid hn2
    have hPU := iputL_any tb mb n2 D2 L2 (nbX (1073741824 - n)) (.slice none 0 0) (.slice none 0 0) W hT2 hL2 (by unfold maxLen; omega) ⟨Strs.nil _, Rfs.nil _⟩ ⟨Strs.nil _, by simp [nbX, zeroI], by simp [nbX, zeroI]⟩ (by unfold nbX I64; simp) (by unfold nbX I64; simp; omega) (by simp [nbX, zeroI])
    have HPU := hid hPU
    have HPV : Hid (instV (nbX (1073741824 - n)) (.slice none 0 0) (.slice none 0 0) = .agg #[.int .i64 6, .int .i64 (1073741824 - n), .int .i64 0, .int .i64 0, .int .i64 0, .int .i64 0, .int .i64 0, .bool false, .int .i64 0, .int .i64 0, .int .i64 0, .int .i64 0, .int .i64 0, .slice none 0 0, .int .i64 0, .slice none 0 0]) := hid rfl
    rw [HPV.out] at HPU
    clear hIW hIX hTW hXW hT2 hL2 hn2 hn hM hPU hx hin HPV
    gi_upto_region 21 with (refine ⟨trivial, ?_⟩; gi_at_call 16; refine (CallsIn.inRound y (callsIn_wide.2 HPU.out)).mono ?_; rintro e W2 ⟨rfl, hp⟩)
    obtain ⟨hkc, hs2, hbel2, htab2, hkf, hdd⟩ : KC W W2 ∧ W.heap.size ≤ W2.heap.size ∧ Below w.heap.size w W2 ∧ (∃ nn D L, Tb W2 tb mb nn D ∧ TL D L ∧ nn ≤ 60 + (n + 1)) ∧ KeepsFrom wb.heap.size W W2 ∧ W2.heap[D1]? = some (.deferred (some [])) := by
      rcases hp with ⟨-, hb⟩ | ⟨-, e1, Dn, -, -, -, hT1, hL1, -, -, hg⟩
      · obtain ⟨n3, D3, L3, h3, h4, h5⟩ := HM.out.tab
        exact ⟨KC.below hb, hb.size, HM.out.bel.trans (hb.mono HM.out.bel.size), ⟨n3, D3, L3, h3.below hb, h4, by omega⟩, (keeps_belowI hb).from _, (hb.block D1 (lt_of_block HM.out.dfr)).trans HM.out.dfr⟩
      · exact ⟨KC.grown HT2.out hg, hg.size, HM.out.bel.grown hg HM.out.bel.size (fun k e => by cases e; exact HMB.out.1), ⟨n2 + 1, Dn, _, hT1, hL1, by have := HNN.out; omega⟩, KeepsFrom.of_grownBy hg (fun j e => by cases e; exact hbl.2.2.2.1), (hg.block D1 (lt_of_block HM.out.dfr) (fun e => by obtain ⟨es, clock, hm, -⟩ := HT2.out.own; cases e; rw [HM.out.dfr] at hm; cases hm)).trans HM.out.dfr⟩
    have HKC := hid hkc
    have HB2 := hid hbel2
    have HTA := hid htab2
    have HKF := hid hkf
    have HS2 := hid hs2
    have HDD := hid hdd
    have HI2 := hid (HI.out.kc hkc)
    have hO2 := hkc _ _ _ _ HM.out.obox
    have hK2 := hkc _ _ _ _ HM.out.kbox
    have hX2 := hkc _ _ _ _ HXW.out
    have hQ2 := hkc _ _ _ _ HQ.out
    have o2 : W2.cell? ⟨OB, 0, none⟩ = some (.bool true) := by rw [cell_of_row _ _ _ _ _ _ hO2]; rfl
    have x2 : W2.cell? ⟨XB, 0, none⟩ = some (.slice va X.length vc) := by rw [cell_of_row _ _ _ _ _ _ hX2]; rfl
    have q0 : W2.cell? ⟨q, 0, none⟩ = some (.int .i64 x.e.x.ref.1) := by rw [cell_of_row _ _ _ _ _ _ hQ2]; rfl
    have q1 : W2.cell? ⟨q, 1, none⟩ = some (.int .i64 x.e.x.ref.2) := by rw [cell_of_row _ _ _ _ _ _ hQ2]; rfl
    have HO2 := hid hO2
    have HK2 := hid hK2
    clear hp hkc hbel2 htab2 hkf hs2 hdd hO2 hK2 hX2 hQ2 HPU t0 k0 HT2 HNN
    have HFN := hid (rfind_any (.slice va X.length vc) X x.e.x.ref W2 HI2.out)
    gi_upto_region 22 with (refine ⟨trivial, ?_⟩; gi_at_call 7; refine (CallsIn.inRound y (callsIn_wide.2 HFN.out)).mono ?_; rintro e W3 ⟨i, rfl, hfi, hb3⟩; obtain ⟨kk, hkk, rfl, -⟩ := PL9.out.find HIN.out hfi; have o3 : W3.cell? ⟨OB, 0, none⟩ = some (.bool true) := cell_later hb3 o2; have f3 : W3.frozen? ⟨OB, 0, none⟩ = false := frozen_of_row _ _ _ _ _ ((hb3.block OB (lt_of_block HO2.out)).trans HO2.out); have hk0 : decide ((0 : Int) ≤ (kk : Int)) = true := decide_eq_true (by omega); have B3 := hid hb3; clear hb3 hfi)
    have hO3 := (B3.out.block OB (lt_of_block HO2.out)).trans HO2.out
    have hK3 := (B3.out.block KB (lt_of_block HK2.out)).trans HK2.out
    have hK4 : (W3.setCell ⟨OB, 0, none⟩ (.bool true)).heap[KB]? = some (.cells #[.int .i64 n] 3 (0, 0)) := (Below.heap_setCell _ _ _ _ hKO).trans hK3
    obtain ⟨W4, hW4⟩ : ∃ W4, W4 = W3.setCell ⟨OB, 0, none⟩ (.bool true) := ⟨_, rfl⟩
    have hO4 : W4.heap[OB]? = some (.cells #[.bool true] 4 (0, 0)) := by rw [hW4]; exact heap_setCell_same _ _ _ _ _ _ hO3
    have hKf : KeepsFrom wb.heap.size W W4 := by rw [hW4]; exact HKF.out.trans (((keeps_belowI B3.out).trans (KeepsOthers.setCell _ _ _)).from _)
    have hNk : NbK KB OB W W4 := by rw [hW4]; exact (NbK.kc HS2.out HKC.out).trans ((NbK.kc B3.out.size (KC.below B3.out)).trans (NbK.setO _ _ _ hO3 hKO))
    have hBl : Below w.heap.size w W4 := by rw [hW4]; exact (HB2.out.trans (B3.out.mono HB2.out.size)).setCell (p := ⟨OB, 0, none⟩) (by show _ ≤ OB; have := HTe.out; have := B9.out.size; omega) _
    have hTA4 : ∃ nn D L, Tb W4 tb mb nn D ∧ TL D L ∧ nn ≤ 60 + (n + 1) := by
      obtain ⟨n3, D3, L3, h3, h4, h5⟩ := HTA.out
      refine ⟨n3, D3, L3, ?_, h4, h5⟩
      rw [hW4]
      exact (h3.below B3.out).cell (by intro e; have h6 := (h3.below B3.out).box; rw [e, hO3] at h6; simp at h6) _ hO3
    have hD4 : W4.heap[D1]? = some (.deferred (some [])) := by rw [hW4]; exact (Below.heap_setCell _ _ _ _ (by intro e; have h6 := HDD.out; have h7 := HO2.out; rw [show D1 = OB from e, h7] at h6; cases h6)).trans ((B3.out.block D1 (lt_of_block HDD.out)).trans HDD.out)
    rw [← hW4] at hK4
    rw [← hW4]
    have k4 : W4.cell? ⟨KB, 0, none⟩ = some (.int .i64 n) := by rw [cell_of_row _ _ _ _ _ _ hK4]; rfl
    have f4 : W4.frozen? ⟨KB, 0, none⟩ = false := frozen_of_row _ _ _ _ _ hK4
    have HK4 := hid hK4
    have HO4 := hid hO4
    have HKf := hid hKf
    have HNk := hid hNk
    have HBl := hid hBl
    have HTA4 := hid hTA4
    have HD4 := hid hD4
    have hOK : OB ≠ KB := Ne.symm hKO
    clear hW4 hK4 hO4 hKf hNk hBl hTA4 hD4 hO3 hK3 o2 x2 q0 q1 o3 f3 hk0 B3 HTA HB2 HKC HS2 HO2 HK2 HDD HFN
    gi_wp2
    refine ⟨HKf.out.trans ((KeepsOthers.setCell _ _ _).from _), HNk.out.trans (NbK.setK _ _ _ HK4.out hOK), ?_⟩
    show NbI w wb KB OB tb mb D1 (pre ++ [x]).length _
    rw [HPL.out]
    obtain ⟨n3, D3, L3, h3, h4, h5⟩ := HTA4.out
    refine ⟨HBl.out.setCell (p := ⟨KB, 0, none⟩) HKB.out _, HM.out.kept.trans (HNk.out.trans (NbK.setK _ _ _ HK4.out hOK)), heap_setCell_same _ _ _ _ _ _ HK4.out, (Below.heap_setCell _ _ _ _ hOK).trans HO4.out, ⟨n3, D3, L3, h3.cell ?_ _ HK4.out, h4, h5⟩, (Below.heap_setCell _ _ _ _ ?_).trans HD4.out, HM.out.low⟩
    · intro e
      have h6 := h3.box
      rw [e, HK4.out] at h6; simp at h6
    · intro e
      have h6 := HD4.out
      rw [show D1 = KB from e, HK4.out] at h6; cases h6
  case done2 =>
    intro Dd ss W hD hS hM hdf
    have hsl : ss.length = X.length := by have := hS.len PLb.out.tl; simp at this; rw [this]; exact PLb.out.len.symm
    have hXW := hM.kept.kept XB _ _ _ (by have := HTe.out; omega) (by have := HTe.out; omega) HXb.out
    have o0 : W.cell? ⟨OB, 0, none⟩ = some (.bool true) := by rw [cell_of_row _ _ _ _ _ _ hM.obox]; rfl
    have k0 : W.cell? ⟨KB, 0, none⟩ = some (.int .i64 X.length) := by rw [cell_of_row _ _ _ _ _ _ hM.kbox, hsl]; rfl
    have x0 : W.cell? ⟨XB, 0, none⟩ = some (.slice va X.length vc) := by rw [cell_of_row _ _ _ _ _ _ hXW]; rfl
    have HBW := hid hM.bel
    have HDW := hid hM.dfr
    have HDF := hid hdf
    have hDD : D1 ≠ Dd := by have := hM.low; omega
    have hDw : w.heap.size ≤ Dd := by omega
    clear hM hS hdf hsl hXW
    gi_wp2
    go_wp2_with fail
    refine (lives_any _).mono ?_
    rintro e wf ⟨rfl, hbf⟩
    have HBF := hid hbf
    clear hbf o0 k0 x0
    go_wp2_with fail
    have hd2 : wf.heap[Dd]? = some (.deferred (some [])) := (HBF.out.block Dd (lt_of_block HDF.out)).trans HDF.out
    have hd1 : (wf.putObj Dd (.deferred none)).heap[D1]? = some (.deferred (some [])) := (World.putObj_heap_other hDD).trans ((HBF.out.block D1 (lt_of_block HDW.out)).trans HDW.out)
    refine ⟨by simp, .inl ⟨_, _, rfl, run_takeDeferred hd2, by simp, .inl ⟨_, _, rfl, run_takeDeferred hd1, _, results_tmp rfl _ _ _, rfl, ?_⟩⟩⟩
    exact ((HBW.out.trans (HBF.out.mono HBW.out.size)).trans (belowK_b (w := w) (Nat.le_refl _) wf Dd _ _ hDw hd2 rfl rfl)).trans (belowK_b (w := w) (Nat.le_refl _) _ D1 _ _ hD1w hd1 rfl rfl)
end Go.Proofs.Ythhcpoafnmhnhaa
