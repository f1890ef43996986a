/- The law InstsPuts: a table under any puts has of each Ref the last one that may be; a loop goes over them, rising. Conditions: the instances lie in memory. -/
import Derived.Test.YthhcpoafnmhnhaaInEach
import Derived.Test.YthhcpoafnmhnhaaInFind
import Derived.Test.YthhcpoafnmhnhaaInLives
import Derived.Test.YthhcpoafnmhnhaaRnd2
namespace Go.Proofs.Ythhcpoafnmhnhaa
open Go.RowKit Go.Maps Go.Shelf
attribute [local go_sem] Oper.semAt_some
set_option linter.unusedVariables false
set_option linter.unusedSimpArgs false

theorem results_boolcell {fn : Func} {p : Tmp} (h : fn.results = #[.cell p 4]) (tmps : Array Value) (w : World) (g : Nat) (v : Value)
    (hp : tmps.getD p undef = .pointer (some ⟨g, 0, none⟩)) (hg : w.cell? ⟨g, 0, none⟩ = some v) : (results fn tmps).run Try.prog w = .ok v w := by
  have hp' : tmps[p]?.getD undef = .pointer (some ⟨g, 0, none⟩) := by simpa using hp
  have hagg : (isAgg 4).run Try.prog w = .ok false w := by kernel_rfl
  simp [results, h, hp', asAddr, loadVar, Sem.run_bind, hagg, go_sem, hg]
theorem cells_turnedP {X Y : World} {row : Option Nat} {k : Nat} {cs : Array Value} {t : TypeId} {fr : Nat × Nat} (h : X.heap[k]? = some (.cells cs t fr)) (hg : X.grownBy Y row) (hr : ∀ r, row = some r → ∃ o : Obj, X.heap[r]? = some o ∧ o.isCells = false) : Y.heap[k]? = some (.cells cs t fr) := by
  rw [hg.block k (lt_of_block h) (fun e => by obtain ⟨o, ho, hc⟩ := hr k e.symm; rw [h] at ho; cases ho; cases hc)]
  exact h
def lastR (pre : List OutE) : Int × Int := match pre.getLast? with | some o => o.e.x.ref | none => (-1, 0)
theorem lastR_snoc (pre : List OutE) (x : OutE) : lastR (pre ++ [x]) = x.e.x.ref := by simp [lastR]
/-- In the loop. -/
structure PtI (w0 : World) (hi xb kb lb : Nat) (vx : Value) (pre : List OutE) (W : World) : Prop where
  blw : Below w0.heap.size w0 W
  size : hi ≤ W.heap.size
  xbox : W.heap[xb]? = some (.cells #[vx] 22 (0, 0))
  kbox : W.heap[kb]? = some (.cells #[.int .i64 pre.length] 3 (0, 0))
  lbox : W.heap[lb]? = some (.cells #[.int .i64 (lastR pre).1, .int .i64 (lastR pre).2] 24 (0, 0))
  rise : (pre.map (·.e)).Pairwise fun a b => refLt a.x.ref b.x.ref = true
theorem PtI.turned {w0 X Y : World} {hi xb kb lb : Nat} {vx : Value} {pre : List OutE} {row : Option Nat} (h : PtI w0 hi xb kb lb vx pre X) (hw : w0.heap.size ≤ hi) (hg : X.grownBy Y row) (hr : ∀ r, row = some r → hi ≤ r ∧ ∃ o : Obj, X.heap[r]? = some o ∧ o.isCells = false) : PtI w0 hi xb kb lb vx pre Y := by
  have key : ∀ {q : Nat} {cs : Array Value} {t : TypeId} {fr : Nat × Nat}, X.heap[q]? = some (.cells cs t fr) → Y.heap[q]? = some (.cells cs t fr) := by
    intro q cs t fr hq
    refine (hg.block q (lt_of_block hq) ?_).trans hq
    intro e
    obtain ⟨o, ho, hc⟩ := (hr q e.symm).2
    rw [hq] at ho; cases ho; cases hc
  exact ⟨h.blw.grown hg h.blw.size (fun k e => by have := (hr k e).1; omega), Nat.le_trans h.size hg.size, key h.xbox, key h.kbox, key h.lbox, h.rise⟩
theorem PtI.below {w0 X Y : World} {hi xb kb lb : Nat} {vx : Value} {pre : List OutE} (h : PtI w0 hi xb kb lb vx pre X) (hw : w0.heap.size ≤ hi) (hb : Below X.heap.size X Y) : PtI w0 hi xb kb lb vx pre Y := h.turned hw (row := none) ⟨hb.os, hb.tape, hb.output, hb.size, fun k hk _ => hb.block k hk⟩ (fun r e => by cases e)
/-- The world behind a round. -/
def stepW (kb lb : Nat) (n : Nat) (r0 r1 : Int) (W : World) : World := ((W.setCell ⟨lb, 0, none⟩ (.int .i64 r0)).setCell ⟨lb, 1, none⟩ (.int .i64 r1)).setCell ⟨kb, 0, none⟩ (.int .i64 (n + 1))
theorem PtI.step {w0 W : World} {hi xb kb lb : Nat} {vx : Value} {pre : List OutE} {x : OutE} {r0 r1 : Int} (h : PtI w0 hi xb kb lb vx pre W) (hr : ((pre ++ [x]).map (·.e)).Pairwise fun a b => refLt a.x.ref b.x.ref = true) (hx : x.e.x.ref = (r0, r1)) {n : Nat} (hn : n = pre.length)
    (h1 : w0.heap.size ≤ kb) (h2 : w0.heap.size ≤ lb) (h3 : kb ≠ lb) (h4 : xb ≠ kb) (h5 : xb ≠ lb) (h6 : kb < hi) (h7 : lb < hi) : PtI w0 hi xb kb lb vx (pre ++ [x]) (stepW kb lb n r0 r1 W) ∧ KCZ w0.heap.size hi W (stepW kb lb n r0 r1 W) ∧ KeepsOthers W (stepW kb lb n r0 r1 W) := by
  subst hn
  have hk : KCZ w0.heap.size hi W (stepW kb lb pre.length r0 r1 W) := (KCZ.cell W lb 0 _ h2 h7).trans ((KCZ.cell _ lb 1 _ h2 h7).trans (KCZ.cell _ kb 0 _ h1 h6))
  have b1 := heap_setCell_same W lb 0 _ _ (.int .i64 r0) h.lbox
  have b2 := heap_setCell_same (W.setCell ⟨lb, 0, none⟩ (.int .i64 r0)) lb 1 _ _ (.int .i64 r1) b1
  refine ⟨⟨?_, Nat.le_trans h.size hk.1, ?_, ?_, ?_, hr⟩, hk, ?_⟩
  · exact ((h.blw.setCell (p := ⟨lb, 0, none⟩) (by show _ ≤ lb; omega) _).setCell (p := ⟨lb, 1, none⟩) (by show _ ≤ lb; omega) _).setCell (p := ⟨kb, 0, none⟩) (by show _ ≤ kb; omega) _
  · exact (Below.heap_setCell _ _ _ _ (by show xb ≠ kb; omega)).trans ((Below.heap_setCell _ _ _ _ (by show xb ≠ lb; omega)).trans ((Below.heap_setCell _ _ _ _ (by show xb ≠ lb; omega)).trans h.xbox))
  · have := heap_setCell_same ((W.setCell ⟨lb, 0, none⟩ (.int .i64 r0)).setCell ⟨lb, 1, none⟩ (.int .i64 r1)) kb 0 _ _ (.int .i64 (pre.length + 1)) ((Below.heap_setCell _ _ _ _ (by show kb ≠ lb; omega)).trans ((Below.heap_setCell _ _ _ _ (by show kb ≠ lb; omega)).trans h.kbox))
    rw [List.length_append]
    exact this
  · rw [lastR_snoc, hx]
    exact (Below.heap_setCell _ _ _ _ (by show lb ≠ kb; omega)).trans b2
  · exact (KeepsOthers.setCell _ _ _).trans ((KeepsOthers.setCell _ _ _).trans (KeepsOthers.setCell _ _ _))
theorem PlI.find {w W : World} {tb mb nn : Nat} {D : DataW Value} {L X : List EnI} {v : Value} (h : PlI w W tb mb nn D L X v) {e : EnI} (he : e ∈ L) {i : Int} (hf : FindR X e.x.ref i) : ∃ k, ∃ hk : k < X.length, i = k ∧ X[k].x = e.x := by
  rcases hf with ⟨k, hk, h1, h2⟩ | ⟨-, h1⟩
  · refine ⟨k, hk, h2, ?_⟩
    have : X[k].x ∈ L.map (fun y => y.x) := by rw [← h.same]; exact List.mem_map.2 ⟨_, List.getElem_mem hk, rfl⟩
    obtain ⟨e', he', h3⟩ := List.mem_map.1 this
    rw [← h3, once_eqR h.tl.once he' he (by rw [h3, h1])]
  · have : e.x ∈ X.map (fun y => y.x) := by rw [h.same]; exact List.mem_map.2 ⟨_, he, rfl⟩
    obtain ⟨e', he', h3⟩ := List.mem_map.1 this
    exact absurd (by rw [h3]) (h1 e' he')
theorem instEq_self (x : InD) : instEqB x x = true := by
  unfold instEqB cmdEqB
  simp [eqB_of]
theorem rise_snoc {pre : List OutE} {x : OutE} (h : (pre.map (·.e)).Pairwise fun a b => refLt a.x.ref b.x.ref = true) (hx : pre = [] ∨ refLt (lastR pre) x.e.x.ref = true) : ((pre ++ [x]).map (·.e)).Pairwise fun a b => refLt a.x.ref b.x.ref = true := by
  rw [List.map_append, List.pairwise_append]
  refine ⟨h, by simp, ?_⟩
  intro a ha b hb
  simp only [List.map_cons, List.map_nil, List.mem_singleton] at hb
  subst hb
  rcases hx with rfl | hx
  · simp at ha
  · obtain ⟨o, ho, rfl⟩ := List.mem_map.1 ha
    rcases List.eq_nil_or_concat pre with rfl | ⟨p, z, rfl⟩
    · simp at ho
    · rw [List.concat_eq_append] at ho h hx
      rw [lastR_snoc] at hx
      rcases List.mem_append.1 ho with h1 | h1
      · rw [List.map_append, List.pairwise_append] at h
        exact refLt_trans (h.2.2 o.e (List.mem_map.2 ⟨o, h1, rfl⟩) z.e (by simp)) hx
      · simp at h1; subst h1; exact hx
theorem rise_not {pre : List OutE} {x : OutE} (hp : pre ≠ []) (hx : refLt (lastR pre) x.e.x.ref = false) : ¬ ((pre ++ [x]).map (·.e)).Pairwise fun a b => refLt a.x.ref b.x.ref = true := by
  intro h
  rcases List.eq_nil_or_concat pre with rfl | ⟨p, z, rfl⟩
  · exact hp rfl
  · rw [List.concat_eq_append] at h hx
    rw [lastR_snoc] at hx
    rw [List.map_append, List.pairwise_append] at h
    have := h.2.2 z.e (by simp) x.e (by simp)
    rw [this] at hx
    cases hx
theorem exec_loadE {f : Operand → Value} {o : Oper} {w : World} {x : Operand} (hop : o.op = .load 38 x) {b k : Nat} (hx : f x = .pointer (some ⟨b, k, none⟩)) (cs : Array Value) (hs : cs.size = 16) (hg : w.rangeAt b k cs.toList) :
    (execOp f o).run Try.prog w = .ok (.value (.agg cs)) w := by
  obtain ⟨d, hd1, hd2⟩ := Try.rowInst
  have := run_loadAt_mid (P := Try.prog) w b k 38 cs.toList d hg hd1 hd2 (by rw [Array.length_toList, hs]; exact Try.sizeInst)
  unfold execOp
  simp only [hop, hx, this, Sem.run_bind, Sem.run_pure, Result.andThen_ok]
theorem exec_loadB {f : Operand → Value} {o : Oper} {w : World} {x : Operand} (hop : o.op = .load 38 x) {g : Nat} (hx : f x = .pointer (some ⟨g, 0, none⟩)) {t : TypeId} (cs : Array Value) (hs : cs.size = 16) {fr : Nat × Nat} (hg : w.heap[g]? = some (.cells cs t fr)) :
    (execOp f o).run Try.prog w = .ok (.value (.agg cs)) w := by
  obtain ⟨d, hd1, hd2⟩ := Try.structInst
  have := run_loadVar_row (P := Try.prog) w g t 38 _ fr d hg hd1 (by cases d <;> first | rfl | (simp at hd2)) (by rw [hs]; exact Try.sizeInst)
  unfold execOp
  simp only [hop, hx, Instr.loadAt, Instr.sureAddr, Sem.run_bind, Sem.run_pure, Result.andThen_ok, this]
/-- What the assignment leaves: the element in a box of its own. -/
def AtO (B : Nat) (L : List EnI) (Fr : OutE → Nat → Act) (x : OutE) (a : Act) (W : World) : Prop := ∃ q, B ≤ q ∧ a = Fr x q ∧ W.heap[q]? = some (.cells x.c 38 (0, 0)) ∧ OutM L x W
set_option maxRecDepth 100000 in
set_option maxHeartbeats 8000000 in
theorem instsPuts_any (v : Value) (l : List EnI) (r : Int × Int) (w : World) (hv : Ins w v l) (hj : ∀ e ∈ l, InJ e.x) (jr : RefI r) :
    Calls Try.prog 3 #[v, .agg #[.int .i64 r.1, .int .i64 r.2]] w fun e w' => e = .returned (.bool true) ∧ Below w.heap.size w w' := by
  have HV := hid hv
  have HPY := hid (fun W h => play_any v l W h hj)
  obtain ⟨xa, xc, rfl⟩ := hv.shape
  have JR := hid jr
  clear hv hj jr
  obtain ⟨r0, r1⟩ := r
  simp only
  obtain ⟨w1, hw1⟩ : ∃ w1, w1 = (w.alloc (.cells #[.int .i64 r0, .int .i64 r1] 24)).alloc (.cells #[.bool false] 4) := ⟨_, rfl⟩
  have b1 : Below w.heap.size w w1 := by rw [hw1]; exact ((Below.refl _ _).alloc (Nat.le_refl _) _).alloc (by simp) _
  have hA : w1.heap[w.heap.size]? = some (.cells #[.int .i64 r0, .int .i64 r1] 24 (0, 0)) := by rw [hw1]; exact heap_alloc2_old _ _ _
  have hR : w1.heap[w.heap.size + 1]? = some (.cells #[.bool false] 4 (0, 0)) := by rw [hw1]; exact heap_alloc2_new _ _ _
  have HW1 := hid hw1
  have B1 := hid b1
  clear hw1 b1
  refine (callsIn_wide (n := 3)).1 ?_
  refine callsIn_of_wp_marks Try.func3 rfl trivial ?_ rfl
  simp only [Try.ntmps3, List.size_toArray, List.length_cons, List.length_nil, Nat.reduceAdd, Nat.reduceSub, Array.replicate_succ, Array.replicate_zero, List.push_toArray, List.append_toArray, List.nil_append, List.cons_append]
  refine wpIn_wide.2 ?_
  go_upto_region 1 with fail
  rw [← HW1.out]
  obtain ⟨A, hAe⟩ : ∃ A, A = w.heap.size := ⟨_, rfl⟩
  obtain ⟨R0, hRe⟩ : ∃ A, A = w.heap.size + 1 := ⟨_, rfl⟩
  rw [← hAe] at hA
  rw [← hRe] at hR
  rw [← hRe, ← hAe]
  have HAe : Hid (A = w.heap.size ∧ R0 = w.heap.size + 1) := hid ⟨hAe, hRe⟩
  have HA1 := hid hA
  have HR1 := hid hR
  clear hAe hRe HW1 hA hR
  go_wp2_with fail
  refine (HPY.out w1 (HV.out.below B1.out)).mono ?_
  rintro e w3 ⟨tb, mb, nn, D, L, X, va, vc, rfl, hPL, hL60, hnn, hJX⟩
  have PL3 := hid hPL
  have HA3 := hid ((hPL.bel.block A (lt_of_block HA1.out)).trans HA1.out)
  have HR3 := hid ((hPL.bel.block R0 (lt_of_block HR1.out)).trans HR1.out)
  have B3 := hid (B1.out.trans (hPL.bel.mono B1.out.size))
  clear hPL hJX HPY HV HA1 HR1
  have hnil : ∀ (B : Nat) (W : World), (binOp BinOp.eql 29 (.func (.func 21) #[] #[.pointer (some ⟨B, 0, none⟩)]) .nilFunc).run Try.prog W = .ok (.bool false) W := fun _ _ => by kernel_rfl
  go_wp2_with (go_at_call 6; refine (ieach_any _ _ ⟨_, rfl⟩).mono ?_; rintro e w5 ⟨rfl, hw5⟩; have W5 := hid hw5; clear hw5)
  have hh := heap4 w3 (.cells #[.slice va X.length vc] 22) (.cells #[.int .i64 0] 3) (.cells #[.int .i64 (-1), .int .i64 0] 24) (.cells #[.pointer (some ⟨tb, 0, none⟩)] 25)
  have hs5 := congrArg (fun W : World => W.heap.size) W5.out
  simp only [World.size_alloc] at hs5
  rw [← W5.out] at hh
  obtain ⟨hX5, hK5, hL5, hE5, hb5⟩ := hh
  obtain ⟨XB, hXe⟩ : ∃ A, A = w3.heap.size := ⟨_, rfl⟩
  obtain ⟨KB, hKe⟩ : ∃ A, A = w3.heap.size + 1 := ⟨_, rfl⟩
  obtain ⟨LB, hLe⟩ : ∃ A, A = w3.heap.size + 1 + 1 := ⟨_, rfl⟩
  obtain ⟨EB, hEe⟩ : ∃ A, A = w3.heap.size + 1 + 1 + 1 := ⟨_, rfl⟩
  rw [← hEe, ← hLe, ← hKe, ← hXe]
  rw [← hEe] at hE5
  rw [← hLe] at hL5
  rw [← hKe] at hK5
  rw [← hXe] at hX5
  have hsz : w.heap.size ≤ w3.heap.size := B3.out.size
  have T5 := hid (PL3.out.tab.below hb5)
  have HLT : Hid (∀ e ∈ L, LightI e.x) := hid fun e he => (PL3.out.ok e he).2
  have P5 : Hid (PtI w3 w5.heap.size XB KB LB (.slice va X.length vc) [] w5) := hid ⟨hb5, Nat.le_refl _, hX5, hK5, hL5, List.Pairwise.nil⟩
  have hbl : w3.heap.size ≤ KB ∧ w3.heap.size ≤ LB ∧ KB ≠ LB ∧ XB ≠ KB ∧ XB ≠ LB ∧ KB < w5.heap.size ∧ LB < w5.heap.size ∧ w3.heap.size ≤ w5.heap.size := by omega
  clear hXe hKe hLe hEe hs5 W5 hX5 hK5 hL5 hb5 hsz
  have HE5 := hid hE5
  clear hE5
  go_wp2_with fail
  refine (wpIn_wide (n := 3)).1 ?_
  refine range_tells (F := Fence.wide) rfl (by omega) (gf := 21) (lb := #[.pointer (some ⟨EB, 0, none⟩)]) rfl trivial (enters_of Try.func21 (by kernel_rfl) rfl)
    (each_tells _ (by omega) EB tb mb nn w3.heap.size w5.heap.size D L PL3.out.tl HLT.out (by omega) w3 w5 (Nat.le_refl _) (Nat.le_refl _) PL3.out.memL HE5.out T5.out (KC.below P5.out.blw)) KCZ.trans (fun W l o o' _ h1 h2 _ => KCZ.put W l o o' h1 h2) (Below.refl _ _) (fun _ => rfl)
    (fun pre W => PtI w3 w5.heap.size XB KB LB (.slice va X.length vc) pre W)
    (fun c pre W => ¬ (pre.map (·.e)).Pairwise fun a b => refLt a.x.ref b.x.ref = true) ?hI ?hIx P5.out
    (AtO w5.heap.size L ?Fr)
    ?hAx ?assign ?body ?done ?stop
  case hI =>
    intro s X Y row h hg hr
    exact h.turned hbl.2.2.2.2.2.2.2 hg hr
  case hIx =>
    intro c s X Y row h hg hr
    exact h
  case hAx =>
    rintro x a' s X Y row ⟨q, h1, h2, h3, h4⟩ hg hr
    have key : ∀ {q : Nat} {cs : Array Value} {t : TypeId} {fr : Nat × Nat}, X.heap[q]? = some (.cells cs t fr) → Y.heap[q]? = some (.cells cs t fr) := by
      intro q cs t fr hq
      refine (hg.block q (lt_of_block hq) ?_).trans hq
      intro e
      obtain ⟨o, ho, hc⟩ := (hr q e.symm).2
      rw [hq] at ho; cases ho; cases hc
    exact ⟨q, h1, h2, key h3, h4.1, h4.2.kc fun q cs t fr hq => key hq⟩
  case assign =>
    intro y pre x W K h hM hK
    have hc1 : x.c.size = 16 := rfl
    have hc2 : x.c.all (·.oneCell') = true := instC_one _ _ _ rfl rfl
    have hv : x.v = .agg x.c := rfl
    rw [hv]
    clear hv
    gi_wp2_with (first | (refine wplI_storeC rfl _ _ rfl W.heap.size x.c rfl rfl hc1 hc2 _ zeroI (.slice none 0 0) (.slice none 0 0) (heap_alloc_new _ _) ?_) | gi_in)
    have hb : Below W.heap.size W ((W.alloc (.cells (instC zeroI (.slice none 0 0) (.slice none 0 0)) 38)).setRow W.heap.size x.c) := below_row ((Below.refl _ _).alloc (Nat.le_refl _) _) (Nat.le_refl _) _
    have hrow : ((W.alloc (.cells (instC zeroI (.slice none 0 0) (.slice none 0 0)) 38)).setRow W.heap.size x.c).heap[W.heap.size]? = some (.cells x.c 38 (0, 0)) := setRow_heap _ _ _ _ _ _ (heap_alloc_new _ _)
    refine hK _ _ ((keeps_belowI hb).from _) (KCZ.below hb) (h.below hbl.2.2.2.2.2.2.2 hb) ⟨W.heap.size, h.size, ?ax, hrow, hM.1, hM.2.below hb⟩
    case ax =>
      clear hK hb hrow
      obtain ⟨q, hq⟩ : ∃ q, q = W.heap.size := ⟨_, rfl⟩
      rw [← hq]
  case body =>
    rintro y pre x a' W hy _ hM ⟨q, hq, hfr, hx, hin, hmx⟩ hlt'
    obtain rfl : a' = _ := hfr
    have HIX : Hid (Ins W (.slice va X.length vc) X) := hid ((ins_own PL3.out.row PL3.out.memX).below hM.blw)
    have cx : W.cell? ⟨XB, 0, none⟩ = some (.slice va X.length vc) := by rw [cell_of_row _ _ _ _ _ _ hM.xbox]; rfl
    have q0 : W.cell? ⟨q, 0, none⟩ = some (.int .i64 x.e.x.ref.1) := by rw [cell_of_row _ _ _ _ _ _ hx]; rfl
    have q1 : W.cell? ⟨q, 1, none⟩ = some (.int .i64 x.e.x.ref.2) := by rw [cell_of_row _ _ _ _ _ _ hx]; rfl
    have HM := hid hM
    have HX := hid hx
    have HMX := hid hmx
    have HIN := hid hin
    clear hM hx hmx hin
    gi_upto_region 12 with (refine ⟨trivial, ?_⟩; gi_at_call 7; refine (CallsIn.inRound y (callsIn_wide.2 (rfind_any (.slice va X.length vc) X x.e.x.ref _ HIX.out))).mono ?_; rintro e W2 ⟨i, rfl, hfi, hb2⟩)
    obtain ⟨k, hk, rfl, hkx⟩ := PL3.out.find HIN.out hfi
    have B2 := hid hb2
    have hI2 := HIX.out.below hb2
    obtain ⟨gb, go', hva⟩ := hI2.addr (by omega)
    subst hva
    have HRG := hid (hI2.range k hk)
    have HMY := hid (hI2.lit k hk).2
    have HMX2 := hid (HMX.out.below hb2)
    have HKX := hid hkx
    have hkl : (X.length : Int) ≤ 9223372036854775807 := hI2.len
    clear hkx hfi hI2
    generalize X[k] = z at HRG HMY HKX
    have HSM : Hid (∀ V, Below W2.heap.size W2 V → Calls Try.prog 8 #[.agg z.c, .agg x.c] V fun e w' => e = .returned (.bool true) ∧ Below V.heap.size V w') := hid fun V hV => by
      have h := rsame_any z.x x.e.x z.u z.r x.u x.r V (HMY.out.below hV) (HMX2.out.below hV)
      rw [HKX.out, instEq_self] at h
      have e1 : Value.agg z.c = instV z.x z.u z.r := rfl
      rw [e1, HKX.out]
      exact h
    have HLS : Hid (∀ V, Calls Try.prog 9 #[.agg #[.int .i64 (lastR pre).1, .int .i64 (lastR pre).2], .agg #[.int .i64 x.e.x.ref.1, .int .i64 x.e.x.ref.2]] V fun e w' => e = .returned (.bool (refLt (lastR pre) x.e.x.ref)) ∧ Below V.heap.size V w') := hid fun V => r6less_any (lastR pre) x.e.x.ref V
    have hQ2 := (hb2.block q (lt_of_block HX.out)).trans HX.out
    have hM2 := HM.out.below hbl.2.2.2.2.2.2.2 hb2
    have SW : Hid (∀ Y, Below W2.heap.size W2 Y → Y.cell? ⟨XB, 0, none⟩ = some (.slice (some ⟨gb, go', none⟩) X.length vc) ∧ Y.heap[q]? = some (.cells x.c 38 (0, 0)) ∧ Y.rangeAt gb (go' + k * 16) z.c.toList ∧ Y.cell? ⟨KB, 0, none⟩ = some (.int .i64 pre.length) ∧ Y.cell? ⟨LB, 0, none⟩ = some (.int .i64 (lastR pre).1) ∧ Y.cell? ⟨LB, 1, none⟩ = some (.int .i64 (lastR pre).2) ∧ Y.cell? ⟨q, 0, none⟩ = some (.int .i64 x.e.x.ref.1) ∧ Y.cell? ⟨q, 1, none⟩ = some (.int .i64 x.e.x.ref.2)) := hid fun Y hY => by
      have h1 := (hY.block q (lt_of_block hQ2)).trans hQ2
      have h2 := hM2.below hbl.2.2.2.2.2.2.2 hY
      refine ⟨?_, h1, fun j u hj => cell_later hY (HRG.out j u hj), ?_, ?_, ?_, ?_, ?_⟩
      · rw [cell_of_row _ _ _ _ _ _ h2.xbox]; rfl
      · rw [cell_of_row _ _ _ _ _ _ h2.kbox]; rfl
      · rw [cell_of_row _ _ _ _ _ _ h2.lbox]; rfl
      · rw [cell_of_row _ _ _ _ _ _ h2.lbox]; rfl
      · rw [cell_of_row _ _ _ _ _ _ h1]; rfl
      · rw [cell_of_row _ _ _ _ _ _ h1]; rfl
    have HM2 := hid hM2
    have HRS : Hid (refLt (lastR pre) x.e.x.ref = true → ((pre ++ [x]).map (·.e)).Pairwise fun a b => refLt a.x.ref b.x.ref = true) := hid fun h => rise_snoc HM.out.rise (.inr h)
    have HRN : Hid (pre ≠ [] → refLt (lastR pre) x.e.x.ref = false → ¬ ((pre ++ [x]).map (·.e)).Pairwise fun a b => refLt a.x.ref b.x.ref = true) := hid fun hp h => rise_not hp h
    have HLX := hid (lastR_snoc pre x)
    have HPL : Hid ((pre ++ [x]).length = pre.length + 1) := hid (by simp)
    have hpl : pre.length ≤ 5000 := by omega
    have hcy : z.c.size = 16 := rfl
    have hcx : x.c.size = 16 := rfl
    have HR0 : Hid (∀ V, Below W2.heap.size W2 V → V.heap[R0]? = some (.cells #[.bool false] 4 (0, 0))) := hid fun V hV => ((hM2.below hbl.2.2.2.2.2.2.2 hV).blw.block R0 (lt_of_block HR3.out)).trans HR3.out
    clear hQ2 hM2 hb2 cx q0 q1 HMY HRG HMX2 HKX HIX
    generalize hyc : z.c = yc at *
    generalize hxc : x.c = xc at *
    obtain ⟨l0, hl0⟩ : ∃ s, s = (lastR pre).1 := ⟨_, rfl⟩
    obtain ⟨l1, hl1⟩ : ∃ s, s = (lastR pre).2 := ⟨_, rfl⟩
    obtain ⟨x0, hx0⟩ : ∃ s, s = x.e.x.ref.1 := ⟨_, rfl⟩
    obtain ⟨x1, hx1⟩ : ∃ s, s = x.e.x.ref.2 := ⟨_, rfl⟩
    obtain ⟨lt, hlt⟩ : ∃ s, s = refLt (lastR pre) x.e.x.ref := ⟨_, rfl⟩
    obtain ⟨n, hn⟩ : ∃ s, s = pre.length := ⟨_, rfl⟩
    rw [← hl0, ← hl1, ← hx0, ← hx1, ← hlt] at HLS
    rw [← hl0, ← hl1, ← hx0, ← hx1, ← hn] at SW
    rw [← hlt] at HRS HRN
    rw [← hn] at HPL hpl
    rw [← hx0, ← hx1]
    have HN := hid hn
    have HX01 : Hid (x.e.x.ref = (x0, x1)) := hid (by rw [hx0, hx1])
    clear hyc hxc hl0 hl1 hx0 hx1 hlt hn
    have hKL : KB ≠ LB := hbl.2.2.1
    have hLK : LB ≠ KB := Ne.symm hKL
    have hk0 : decide ((k : Int) < 0) = false := decide_eq_false (by omega)
    have hkI : (k : Int) < (X.length : Int) := by omega
    have hk0I : (0 : Int) ≤ (k : Int) := by omega
    rcases Nat.eq_zero_or_pos n with hn0 | hn0
    · subst hn0
      have e0 : ((0 : Nat) : Int) = 0 := rfl
      rw [e0] at SW
      refine region_held_round (S := fun Y => Y.cell? ⟨XB, 0, none⟩ = some (.slice (some ⟨gb, go', none⟩) X.length vc) ∧ Y.heap[q]? = some (.cells xc 38 (0, 0)) ∧ Y.rangeAt gb (go' + k * 16) yc.toList ∧ Y.cell? ⟨KB, 0, none⟩ = some (.int .i64 0) ∧ Y.cell? ⟨LB, 0, none⟩ = some (.int .i64 l0) ∧ Y.cell? ⟨LB, 1, none⟩ = some (.int .i64 l1) ∧ Y.cell? ⟨q, 0, none⟩ = some (.int .i64 x0) ∧ Y.cell? ⟨q, 1, none⟩ = some (.int .i64 x1)) y (by rintro ⟨_, _, h⟩; exact h) (by kernel_rfl) (by kernel_rfl) (SW.out _ ((Below.refl _ _).drew)) (fun hHeld => ?_)
      refine wpAnyH_take (i := 0) (v := ?bv0) rfl (by kernel_rfl) (by kernel_rfl) (by kernel_rfl) (fun _ _ _ h => h) (Or.inl ⟨by rfl, ?by0⟩) (by assumption) ?br0
      case by0 => (intro w hSw; (try dsimp only at hSw); go_simp; try with_reducible rfl)
      (try simp only [Act.put, List.setIfInBounds_toArray, List.set_cons_zero, List.set_cons_succ, List.getElem_toArray, List.getElem_cons_succ, List.getElem_cons_zero])
      refine wpAnyH_take (i := 1) (v := ?bv1) rfl (by kernel_rfl) (by kernel_rfl) (by kernel_rfl) (fun _ _ _ h => h) (Or.inl ⟨by rfl, ?by1⟩) (by assumption) ?br1
      case by1 => (intro w hSw; (try dsimp only at hSw); go_simp; try with_reducible rfl)
      (try simp only [Act.put, List.setIfInBounds_toArray, List.set_cons_zero, List.set_cons_succ, List.getElem_toArray, List.getElem_cons_succ, List.getElem_cons_zero])
      refine wpAnyH_take (i := 2) (v := ?bv2) rfl (by kernel_rfl) (by kernel_rfl) (by kernel_rfl) (fun _ _ _ h => h) (Or.inl ⟨by rfl, ?by2⟩) (by assumption) ?br2
      case by2 => (intro w hSw; (try dsimp only at hSw); go_simp; try with_reducible rfl)
      (try simp only [Act.put, List.setIfInBounds_toArray, List.set_cons_zero, List.set_cons_succ, List.getElem_toArray, List.getElem_cons_succ, List.getElem_cons_zero])
      refine wpAnyH_take (i := 3) (v := ?bv3) rfl (by kernel_rfl) (by kernel_rfl) (by kernel_rfl) (fun _ _ _ h => h) (Or.inl ⟨by rfl, ?by3⟩) (by assumption) ?br3
      case by3 => (intro w hSw; (try dsimp only at hSw); go_simp; try with_reducible rfl)
      (try simp only [Act.put, List.setIfInBounds_toArray, List.set_cons_zero, List.set_cons_succ, List.getElem_toArray, List.getElem_cons_succ, List.getElem_cons_zero])
      refine wpAnyH_take (i := 4) (v := ?bv4) rfl (by kernel_rfl) (by kernel_rfl) (by kernel_rfl) (fun _ _ _ h => h) (Or.inl ⟨by rfl, ?by4⟩) (by assumption) ?br4
      case by4 => (intro w hSw; (try dsimp only at hSw); go_simp; try with_reducible rfl)
      (try simp only [Act.put, List.setIfInBounds_toArray, List.set_cons_zero, List.set_cons_succ, List.getElem_toArray, List.getElem_cons_succ, List.getElem_cons_zero])
      refine wpAnyH_take (i := 5) (v := ?bv5) rfl (by kernel_rfl) (by kernel_rfl) (by kernel_rfl) (fun _ _ _ h => h) (Or.inl ⟨by rfl, ?by5⟩) (by assumption) ?br5
      case by5 => (intro w hSw; (try dsimp only at hSw); go_simp; try with_reducible rfl)
      (try simp only [Act.put, List.setIfInBounds_toArray, List.set_cons_zero, List.set_cons_succ, List.getElem_toArray, List.getElem_cons_succ, List.getElem_cons_zero])
      refine wpAnyH_take (i := 6) (v := .agg yc) rfl (by kernel_rfl) (by kernel_rfl) (by kernel_rfl) (fun _ _ _ h => h) (Or.inl ⟨by rfl, ?by6⟩) (by assumption) ?br6
      case by6 =>
        intro w hSw
        exact exec_loadE rfl rfl yc hcy hSw.2.2.1
      (try simp only [Act.put, List.setIfInBounds_toArray, List.set_cons_zero, List.set_cons_succ, List.getElem_toArray, List.getElem_cons_succ, List.getElem_cons_zero])
      refine wpAnyH_take (i := 7) (v := .agg xc) rfl (by kernel_rfl) (by kernel_rfl) (by kernel_rfl) (fun _ _ _ h => h) (Or.inl ⟨by rfl, ?by7⟩) (by assumption) ?br7
      case by7 =>
        intro w hSw
        exact exec_loadB rfl rfl xc hcx hSw.2.1
      (try simp only [Act.put, List.setIfInBounds_toArray, List.set_cons_zero, List.set_cons_succ, List.getElem_toArray, List.getElem_cons_succ, List.getElem_cons_zero])
      refine wpAnyH_ready (rs := [8]) (by kernel_rfl) (by simp) ?_
      refine AllReadyH.cons rfl (fun K hK => ?_) AllReadyH.nil
      rw [if_pos (by rfl)]
      go_wp2_with fail
      refine (HSM.out _ ((Below.refl _ _).drew)).mono ?_
      rintro e w6 ⟨rfl, hb6⟩
      have B6 : Hid (Below W2.heap.size W2 w6) := hid (((Below.refl _ _).drew).trans hb6)
      clear hb6
      refine hK.out _ _ (SW.out _ B6.out) (fun hHeld => ?_)
      try clear hK K
      (try simp only [Act.put, List.setIfInBounds_toArray, List.set_cons_zero, List.set_cons_succ, List.getElem_toArray, List.getElem_cons_succ, List.getElem_cons_zero])
      refine wpAnyH_take (i := 9) (v := ?bv9) rfl (by kernel_rfl) (by kernel_rfl) (by kernel_rfl) (fun _ _ _ h => h) (Or.inl ⟨by rfl, ?by9⟩) (by assumption) ?br9
      case by9 => (intro w hSw; (try dsimp only at hSw); go_simp; try with_reducible rfl)
      (try simp only [Act.put, List.setIfInBounds_toArray, List.set_cons_zero, List.set_cons_succ, List.getElem_toArray, List.getElem_cons_succ, List.getElem_cons_zero])
      refine wpAnyH_take (i := 10) (v := ?bv10) rfl (by kernel_rfl) (by kernel_rfl) (by kernel_rfl) (fun _ _ _ h => h) (Or.inl ⟨by rfl, ?by10⟩) (by assumption) ?br10
      case by10 => (intro w hSw; (try dsimp only at hSw); go_simp; try with_reducible rfl)
      (try simp only [Act.put, List.setIfInBounds_toArray, List.set_cons_zero, List.set_cons_succ, List.getElem_toArray, List.getElem_cons_succ, List.getElem_cons_zero])
      refine wpAnyH_take (i := 11) (v := ?bv11) rfl (by kernel_rfl) (by kernel_rfl) (by kernel_rfl) (fun _ _ _ h => h) (Or.inl ⟨by rfl, ?by11⟩) (by assumption) ?br11
      case by11 => (intro w hSw; (try dsimp only at hSw); go_simp; try with_reducible rfl)
      (try simp only [Act.put, List.setIfInBounds_toArray, List.set_cons_zero, List.set_cons_succ, List.getElem_toArray, List.getElem_cons_succ, List.getElem_cons_zero])
      refine wpAnyH_take (i := 12) (v := ?bv12) rfl (by kernel_rfl) (by kernel_rfl) (by kernel_rfl) (fun _ _ _ h => h) (Or.inl ⟨by rfl, ?by12⟩) (by assumption) ?br12
      case by12 => (intro w hSw; (try dsimp only at hSw); go_simp; try with_reducible rfl)
      (try simp only [Act.put, List.setIfInBounds_toArray, List.set_cons_zero, List.set_cons_succ, List.getElem_toArray, List.getElem_cons_succ, List.getElem_cons_zero])
      refine wpAnyH_take (i := 13) (v := ?bv13) rfl (by kernel_rfl) (by kernel_rfl) (by kernel_rfl) (fun _ _ _ h => h) (Or.inl ⟨by rfl, ?by13⟩) (by assumption) ?br13
      case by13 => (intro w hSw; (try dsimp only at hSw); go_simp; try with_reducible rfl)
      (try simp only [Act.put, List.setIfInBounds_toArray, List.set_cons_zero, List.set_cons_succ, List.getElem_toArray, List.getElem_cons_succ, List.getElem_cons_zero])
      refine wpAnyH_take (i := 14) (v := ?bv14) rfl (by kernel_rfl) (by kernel_rfl) (by kernel_rfl) (fun _ _ _ h => h) (Or.inl ⟨by rfl, ?by14⟩) (by assumption) ?br14
      case by14 => (intro w hSw; (try dsimp only at hSw); go_simp; try with_reducible rfl)
      (try simp only [Act.put, List.setIfInBounds_toArray, List.set_cons_zero, List.set_cons_succ, List.getElem_toArray, List.getElem_cons_succ, List.getElem_cons_zero])
      refine wpAnyH_take (i := 15) (v := undef) rfl (by kernel_rfl) (by kernel_rfl) (by kernel_rfl) (fun _ _ _ h => h) (Or.inr ⟨by rfl, rfl⟩) (by assumption) ?_
      (try simp only [Act.put, List.setIfInBounds_toArray, List.set_cons_zero, List.set_cons_succ, List.getElem_toArray, List.getElem_cons_succ, List.getElem_cons_zero])
      refine wpAnyH_take (i := 16) (v := undef) rfl (by kernel_rfl) (by kernel_rfl) (by kernel_rfl) (fun _ _ _ h => h) (Or.inr ⟨by rfl, rfl⟩) (by assumption) ?_
      (try simp only [Act.put, List.setIfInBounds_toArray, List.set_cons_zero, List.set_cons_succ, List.getElem_toArray, List.getElem_cons_succ, List.getElem_cons_zero])
      refine wpAnyH_take (i := 17) (v := undef) rfl (by kernel_rfl) (by kernel_rfl) (by kernel_rfl) (fun _ _ _ h => h) (Or.inr ⟨by rfl, rfl⟩) (by assumption) ?_
      (try simp only [Act.put, List.setIfInBounds_toArray, List.set_cons_zero, List.set_cons_succ, List.getElem_toArray, List.getElem_cons_succ, List.getElem_cons_zero])
      refine wpAnyH_take (i := 18) (v := undef) rfl (by kernel_rfl) (by kernel_rfl) (by kernel_rfl) (fun _ _ _ h => h) (Or.inr ⟨by rfl, rfl⟩) (by assumption) ?_
      (try simp only [Act.put, List.setIfInBounds_toArray, List.set_cons_zero, List.set_cons_succ, List.getElem_toArray, List.getElem_cons_succ, List.getElem_cons_zero])
      refine wpAnyH_take (i := 19) (v := undef) rfl (by kernel_rfl) (by kernel_rfl) (by kernel_rfl) (fun _ _ _ h => h) (Or.inr ⟨by rfl, rfl⟩) (by assumption) ?_
      (try simp only [Act.put, List.setIfInBounds_toArray, List.set_cons_zero, List.set_cons_succ, List.getElem_toArray, List.getElem_cons_succ, List.getElem_cons_zero])
      refine wpAnyH_take (i := 20) (v := ?bv20) rfl (by kernel_rfl) (by kernel_rfl) (by kernel_rfl) (fun _ _ _ h => h) (Or.inl ⟨by rfl, ?by20⟩) (by assumption) ?br20
      case by20 => (intro w hSw; (try dsimp only at hSw); go_simp; try with_reducible rfl)
      (try simp only [Act.put, List.setIfInBounds_toArray, List.set_cons_zero, List.set_cons_succ, List.getElem_toArray, List.getElem_cons_succ, List.getElem_cons_zero])
      refine wpAnyH_take (i := 21) (v := ?bv21) rfl (by kernel_rfl) (by kernel_rfl) (by kernel_rfl) (fun _ _ _ h => h) (Or.inl ⟨by rfl, ?by21⟩) (by assumption) ?br21
      case by21 => (intro w hSw; (try dsimp only at hSw); go_simp; try with_reducible rfl)
      (try simp only [Act.put, List.setIfInBounds_toArray, List.set_cons_zero, List.set_cons_succ, List.getElem_toArray, List.getElem_cons_succ, List.getElem_cons_zero])
      refine wpAnyH_done (by kernel_rfl) ?_ _
      have BZ := B6
      obtain ⟨wz, hwz⟩ : ∃ wz, wz = w6 := ⟨_, rfl⟩
      rw [← hwz] at BZ hHeld
      rw [← hwz]
      clear hwz
      have HRI : Hid (((pre ++ [x]).map (·.e)).Pairwise fun a b => refLt a.x.ref b.x.ref = true) := hid (rise_snoc HM.out.rise (.inl (List.length_eq_zero_iff.1 HN.out.symm)))
      have HZM := hid (HM2.out.below hbl.2.2.2.2.2.2.2 BZ.out)
      have hST := hid (HZM.out.step HRI.out HX01.out HN.out hbl.1 hbl.2.1 hbl.2.2.1 hbl.2.2.2.1 hbl.2.2.2.2.1 hbl.2.2.2.2.2.1 hbl.2.2.2.2.2.2.1)
      obtain ⟨-, -, -, k9, l0', l1', q0', q1'⟩ := hHeld
      have kf : wz.frozen? ⟨KB, 0, none⟩ = false := frozen_of_row _ _ _ _ _ HZM.out.kbox
      have lf0 : wz.frozen? ⟨LB, 0, none⟩ = false := frozen_of_row _ _ _ _ _ HZM.out.lbox
      have lf1 : wz.frozen? ⟨LB, 1, none⟩ = false := frozen_of_row _ _ _ _ _ HZM.out.lbox
      gi_wp2
      refine ⟨(((keeps_belowI (B2.out.trans (BZ.out.mono B2.out.size))).trans hST.out.2.2).from _), (KCZ.below (B2.out.trans (BZ.out.mono B2.out.size))).trans hST.out.2.1, hST.out.1⟩
    · have hn1 : (0 : Int) < (n : Int) := by omega
      refine region_held_round (S := fun Y => Y.cell? ⟨XB, 0, none⟩ = some (.slice (some ⟨gb, go', none⟩) X.length vc) ∧ Y.heap[q]? = some (.cells xc 38 (0, 0)) ∧ Y.rangeAt gb (go' + k * 16) yc.toList ∧ Y.cell? ⟨KB, 0, none⟩ = some (.int .i64 n) ∧ Y.cell? ⟨LB, 0, none⟩ = some (.int .i64 l0) ∧ Y.cell? ⟨LB, 1, none⟩ = some (.int .i64 l1) ∧ Y.cell? ⟨q, 0, none⟩ = some (.int .i64 x0) ∧ Y.cell? ⟨q, 1, none⟩ = some (.int .i64 x1)) y (by rintro ⟨_, _, h⟩; exact h) (by kernel_rfl) (by kernel_rfl) (SW.out _ ((Below.refl _ _).drew)) (fun hHeld => ?_)
      refine wpAnyH_take (i := 0) (v := ?av0) rfl (by kernel_rfl) (by kernel_rfl) (by kernel_rfl) (fun _ _ _ h => h) (Or.inl ⟨by rfl, ?ay0⟩) (by assumption) ?ar0
      case ay0 => (intro w hSw; (try dsimp only at hSw); go_simp; try with_reducible rfl)
      (try simp only [Act.put, List.setIfInBounds_toArray, List.set_cons_zero, List.set_cons_succ, List.getElem_toArray, List.getElem_cons_succ, List.getElem_cons_zero])
      refine wpAnyH_take (i := 1) (v := ?av1) rfl (by kernel_rfl) (by kernel_rfl) (by kernel_rfl) (fun _ _ _ h => h) (Or.inl ⟨by rfl, ?ay1⟩) (by assumption) ?ar1
      case ay1 => (intro w hSw; (try dsimp only at hSw); go_simp; try with_reducible rfl)
      (try simp only [Act.put, List.setIfInBounds_toArray, List.set_cons_zero, List.set_cons_succ, List.getElem_toArray, List.getElem_cons_succ, List.getElem_cons_zero])
      refine wpAnyH_take (i := 2) (v := ?av2) rfl (by kernel_rfl) (by kernel_rfl) (by kernel_rfl) (fun _ _ _ h => h) (Or.inl ⟨by rfl, ?ay2⟩) (by assumption) ?ar2
      case ay2 => (intro w hSw; (try dsimp only at hSw); go_simp; try with_reducible rfl)
      (try simp only [Act.put, List.setIfInBounds_toArray, List.set_cons_zero, List.set_cons_succ, List.getElem_toArray, List.getElem_cons_succ, List.getElem_cons_zero])
      refine wpAnyH_take (i := 3) (v := ?av3) rfl (by kernel_rfl) (by kernel_rfl) (by kernel_rfl) (fun _ _ _ h => h) (Or.inl ⟨by rfl, ?ay3⟩) (by assumption) ?ar3
      case ay3 => (intro w hSw; (try dsimp only at hSw); go_simp; try with_reducible rfl)
      (try simp only [Act.put, List.setIfInBounds_toArray, List.set_cons_zero, List.set_cons_succ, List.getElem_toArray, List.getElem_cons_succ, List.getElem_cons_zero])
      refine wpAnyH_take (i := 4) (v := ?av4) rfl (by kernel_rfl) (by kernel_rfl) (by kernel_rfl) (fun _ _ _ h => h) (Or.inl ⟨by rfl, ?ay4⟩) (by assumption) ?ar4
      case ay4 => (intro w hSw; (try dsimp only at hSw); go_simp; try with_reducible rfl)
      (try simp only [Act.put, List.setIfInBounds_toArray, List.set_cons_zero, List.set_cons_succ, List.getElem_toArray, List.getElem_cons_succ, List.getElem_cons_zero])
      refine wpAnyH_take (i := 5) (v := ?av5) rfl (by kernel_rfl) (by kernel_rfl) (by kernel_rfl) (fun _ _ _ h => h) (Or.inl ⟨by rfl, ?ay5⟩) (by assumption) ?ar5
      case ay5 => (intro w hSw; (try dsimp only at hSw); go_simp; try with_reducible rfl)
      (try simp only [Act.put, List.setIfInBounds_toArray, List.set_cons_zero, List.set_cons_succ, List.getElem_toArray, List.getElem_cons_succ, List.getElem_cons_zero])
      refine wpAnyH_take (i := 6) (v := .agg yc) rfl (by kernel_rfl) (by kernel_rfl) (by kernel_rfl) (fun _ _ _ h => h) (Or.inl ⟨by rfl, ?ay6⟩) (by assumption) ?ar6
      case ay6 =>
        intro w hSw
        exact exec_loadE rfl rfl yc hcy hSw.2.2.1
      (try simp only [Act.put, List.setIfInBounds_toArray, List.set_cons_zero, List.set_cons_succ, List.getElem_toArray, List.getElem_cons_succ, List.getElem_cons_zero])
      refine wpAnyH_take (i := 7) (v := .agg xc) rfl (by kernel_rfl) (by kernel_rfl) (by kernel_rfl) (fun _ _ _ h => h) (Or.inl ⟨by rfl, ?ay7⟩) (by assumption) ?ar7
      case ay7 =>
        intro w hSw
        exact exec_loadB rfl rfl xc hcx hSw.2.1
      (try simp only [Act.put, List.setIfInBounds_toArray, List.set_cons_zero, List.set_cons_succ, List.getElem_toArray, List.getElem_cons_succ, List.getElem_cons_zero])
      refine wpAnyH_ready (rs := [8]) (by kernel_rfl) (by simp) ?_
      refine AllReadyH.cons rfl (fun K hK => ?_) AllReadyH.nil
      rw [if_pos (by rfl)]
      go_wp2_with fail
      refine (HSM.out _ ((Below.refl _ _).drew)).mono ?_
      rintro e w6 ⟨rfl, hb6⟩
      have B6 : Hid (Below W2.heap.size W2 w6) := hid (((Below.refl _ _).drew).trans hb6)
      clear hb6
      refine hK.out _ _ (SW.out _ B6.out) (fun hHeld => ?_)
      try clear hK K
      (try simp only [Act.put, List.setIfInBounds_toArray, List.set_cons_zero, List.set_cons_succ, List.getElem_toArray, List.getElem_cons_succ, List.getElem_cons_zero])
      refine wpAnyH_take (i := 9) (v := ?av9) rfl (by kernel_rfl) (by kernel_rfl) (by kernel_rfl) (fun _ _ _ h => h) (Or.inl ⟨by rfl, ?ay9⟩) (by assumption) ?ar9
      case ay9 => (intro w hSw; (try dsimp only at hSw); go_simp; try with_reducible rfl)
      (try simp only [Act.put, List.setIfInBounds_toArray, List.set_cons_zero, List.set_cons_succ, List.getElem_toArray, List.getElem_cons_succ, List.getElem_cons_zero])
      refine wpAnyH_take (i := 10) (v := ?av10) rfl (by kernel_rfl) (by kernel_rfl) (by kernel_rfl) (fun _ _ _ h => h) (Or.inl ⟨by rfl, ?ay10⟩) (by assumption) ?ar10
      case ay10 => (intro w hSw; (try dsimp only at hSw); go_simp; try with_reducible rfl)
      (try simp only [Act.put, List.setIfInBounds_toArray, List.set_cons_zero, List.set_cons_succ, List.getElem_toArray, List.getElem_cons_succ, List.getElem_cons_zero])
      refine wpAnyH_take (i := 11) (v := ?av11) rfl (by kernel_rfl) (by kernel_rfl) (by kernel_rfl) (fun _ _ _ h => h) (Or.inl ⟨by rfl, ?ay11⟩) (by assumption) ?ar11
      case ay11 => (intro w hSw; (try dsimp only at hSw); go_simp; try with_reducible rfl)
      (try simp only [Act.put, List.setIfInBounds_toArray, List.set_cons_zero, List.set_cons_succ, List.getElem_toArray, List.getElem_cons_succ, List.getElem_cons_zero])
      refine wpAnyH_take (i := 12) (v := ?av12) rfl (by kernel_rfl) (by kernel_rfl) (by kernel_rfl) (fun _ _ _ h => h) (Or.inl ⟨by rfl, ?ay12⟩) (by assumption) ?ar12
      case ay12 => (intro w hSw; (try dsimp only at hSw); go_simp; try with_reducible rfl)
      (try simp only [Act.put, List.setIfInBounds_toArray, List.set_cons_zero, List.set_cons_succ, List.getElem_toArray, List.getElem_cons_succ, List.getElem_cons_zero])
      refine wpAnyH_take (i := 13) (v := ?av13) rfl (by kernel_rfl) (by kernel_rfl) (by kernel_rfl) (fun _ _ _ h => h) (Or.inl ⟨by rfl, ?ay13⟩) (by assumption) ?ar13
      case ay13 => (intro w hSw; (try dsimp only at hSw); go_simp; try with_reducible rfl)
      (try simp only [Act.put, List.setIfInBounds_toArray, List.set_cons_zero, List.set_cons_succ, List.getElem_toArray, List.getElem_cons_succ, List.getElem_cons_zero])
      refine wpAnyH_take (i := 14) (v := ?av14) rfl (by kernel_rfl) (by kernel_rfl) (by kernel_rfl) (fun _ _ _ h => h) (Or.inl ⟨by rfl, ?ay14⟩) (by assumption) ?ar14
      case ay14 => (intro w hSw; (try dsimp only at hSw); go_simp; try with_reducible rfl)
      (try simp only [Act.put, List.setIfInBounds_toArray, List.set_cons_zero, List.set_cons_succ, List.getElem_toArray, List.getElem_cons_succ, List.getElem_cons_zero])
      refine wpAnyH_take (i := 15) (v := ?av15) rfl (by kernel_rfl) (by kernel_rfl) (by kernel_rfl) (fun _ _ _ h => h) (Or.inl ⟨by rfl, ?ay15⟩) (by assumption) ?ar15
      case ay15 => (intro w hSw; (try dsimp only at hSw); go_simp; try with_reducible rfl)
      (try simp only [Act.put, List.setIfInBounds_toArray, List.set_cons_zero, List.set_cons_succ, List.getElem_toArray, List.getElem_cons_succ, List.getElem_cons_zero])
      refine wpAnyH_take (i := 16) (v := ?av16) rfl (by kernel_rfl) (by kernel_rfl) (by kernel_rfl) (fun _ _ _ h => h) (Or.inl ⟨by rfl, ?ay16⟩) (by assumption) ?ar16
      case ay16 => (intro w hSw; (try dsimp only at hSw); go_simp; try with_reducible rfl)
      (try simp only [Act.put, List.setIfInBounds_toArray, List.set_cons_zero, List.set_cons_succ, List.getElem_toArray, List.getElem_cons_succ, List.getElem_cons_zero])
      refine wpAnyH_take (i := 17) (v := ?av17) rfl (by kernel_rfl) (by kernel_rfl) (by kernel_rfl) (fun _ _ _ h => h) (Or.inl ⟨by rfl, ?ay17⟩) (by assumption) ?ar17
      case ay17 => (intro w hSw; (try dsimp only at hSw); go_simp; try with_reducible rfl)
      (try simp only [Act.put, List.setIfInBounds_toArray, List.set_cons_zero, List.set_cons_succ, List.getElem_toArray, List.getElem_cons_succ, List.getElem_cons_zero])
      refine wpAnyH_ready (rs := [18]) (by kernel_rfl) (by simp) ?_
      refine AllReadyH.cons rfl (fun K hK => ?_) AllReadyH.nil
      rw [if_pos (by rfl)]
      go_wp2_with fail
      refine (HLS.out _).mono ?_
      rintro e w7 ⟨rfl, hb7⟩
      have B7 : Hid (Below W2.heap.size W2 w7) := hid (B6.out.trans (hb7.mono B6.out.size))
      clear hb7
      refine hK.out _ _ (SW.out _ B7.out) (fun hHeld => ?_)
      try clear hK K
      (try simp only [Act.put, List.setIfInBounds_toArray, List.set_cons_zero, List.set_cons_succ, List.getElem_toArray, List.getElem_cons_succ, List.getElem_cons_zero])
      refine wpAnyH_take (i := 19) (v := ?av19) rfl (by kernel_rfl) (by kernel_rfl) (by kernel_rfl) (fun _ _ _ h => h) (Or.inl ⟨by rfl, ?ay19⟩) (by assumption) ?ar19
      case ay19 => (intro w hSw; (try dsimp only at hSw); go_simp; try with_reducible rfl)
      (try simp only [Act.put, List.setIfInBounds_toArray, List.set_cons_zero, List.set_cons_succ, List.getElem_toArray, List.getElem_cons_succ, List.getElem_cons_zero])
      refine wpAnyH_take (i := 20) (v := ?av20) rfl (by kernel_rfl) (by kernel_rfl) (by kernel_rfl) (fun _ _ _ h => h) (Or.inl ⟨by rfl, ?ay20⟩) (by assumption) ?ar20
      case ay20 => (intro w hSw; (try dsimp only at hSw); go_simp; try with_reducible rfl)
      (try simp only [Act.put, List.setIfInBounds_toArray, List.set_cons_zero, List.set_cons_succ, List.getElem_toArray, List.getElem_cons_succ, List.getElem_cons_zero])
      refine wpAnyH_take (i := 21) (v := ?av21) rfl (by kernel_rfl) (by kernel_rfl) (by kernel_rfl) (fun _ _ _ h => h) (Or.inl ⟨by rfl, ?ay21⟩) (by assumption) ?ar21
      case ay21 => (intro w hSw; (try dsimp only at hSw); go_simp; try with_reducible rfl)
      (try simp only [Act.put, List.setIfInBounds_toArray, List.set_cons_zero, List.set_cons_succ, List.getElem_toArray, List.getElem_cons_succ, List.getElem_cons_zero])
      refine wpAnyH_done (by kernel_rfl) ?_ _
      cases lt with
      | true =>
        have BZ := B7
        obtain ⟨wz, hwz⟩ : ∃ wz, wz = w7 := ⟨_, rfl⟩
        rw [← hwz] at BZ hHeld
        rw [← hwz]
        clear hwz
        have HRI := hid (HRS.out (by trivial))
        have HZM := hid (HM2.out.below hbl.2.2.2.2.2.2.2 BZ.out)
        have hST := hid (HZM.out.step HRI.out HX01.out HN.out hbl.1 hbl.2.1 hbl.2.2.1 hbl.2.2.2.1 hbl.2.2.2.2.1 hbl.2.2.2.2.2.1 hbl.2.2.2.2.2.2.1)
        obtain ⟨-, -, -, k9, l0', l1', q0', q1'⟩ := hHeld
        have kf : wz.frozen? ⟨KB, 0, none⟩ = false := frozen_of_row _ _ _ _ _ HZM.out.kbox
        have lf0 : wz.frozen? ⟨LB, 0, none⟩ = false := frozen_of_row _ _ _ _ _ HZM.out.lbox
        have lf1 : wz.frozen? ⟨LB, 1, none⟩ = false := frozen_of_row _ _ _ _ _ HZM.out.lbox
        gi_wp2
        refine ⟨(((keeps_belowI (B2.out.trans (BZ.out.mono B2.out.size))).trans hST.out.2.2).from _), (KCZ.below (B2.out.trans (BZ.out.mono B2.out.size))).trans hST.out.2.1, hST.out.1⟩
      | false =>
        have hR := HR0.out _ B7.out
        have c0 : w7.cell? ⟨R0, 0, none⟩ = some (.bool false) := by rw [cell_of_row _ _ _ _ _ _ hR]; rfl
        have f0 : w7.frozen? ⟨R0, 0, none⟩ = false := frozen_of_row _ _ _ _ _ hR
        have HNN := hid (HRN.out (fun e => by have := HN.out; rw [e] at this; simp at this; omega) (by trivial))
        have BZ7 := hid (B2.out.trans (B7.out.mono B2.out.size))
        clear hHeld
        gi_wp2
        exact ⟨((keeps_belowI BZ7.out).trans (KeepsOthers.setCell _ _ _)).from _, HNN.out⟩
  case done =>
    intro Dd xs W hD hS hM hdf
    have hxl : xs.length = X.length := by have := hS.len PL3.out.tl; simp at this; rw [this]; exact PL3.out.len.symm
    have hAW := (hM.blw.block A (lt_of_block HA3.out)).trans HA3.out
    have hRW := (hM.blw.block R0 (lt_of_block HR3.out)).trans HR3.out
    have a0 : W.cell? ⟨A, 0, none⟩ = some (.int .i64 r0) := by rw [cell_of_row _ _ _ _ _ _ hAW]; rfl
    have a1 : W.cell? ⟨A, 1, none⟩ = some (.int .i64 r1) := by rw [cell_of_row _ _ _ _ _ _ hAW]; rfl
    have PLW := hid (PL3.out.below hM.blw)
    have BW := hid (B3.out.trans (hM.blw.mono B3.out.size))
    have HAW := hid hAW
    have HRW := hid hRW
    have HXW := hid hM.xbox
    have HKW := hid hM.kbox
    have HDF := hid hdf
    have HXL := hid hxl
    clear hM hAW hRW hdf hxl hS HA3 HR3 B3 P5 T5 HE5
    go_wp2_with fail
    refine (iget_any tb mb nn D L (r0, r1) W PLW.out.tab PLW.out.tl PLW.out.memL (fun e he => (PLW.out.ok e he).2) JR.out).mono ?_
    rintro e wb ⟨z, bz, zu, zv, hgot, rfl, hzu, hzv, hbz⟩
    obtain ⟨zua, zuc, rfl⟩ := own_shape hzu
    obtain ⟨zva, zvc, rfl⟩ := own_shape hzv
    have HMZ : Hid (InM wb z (.slice zua z.cmd.data.length zuc) (.slice zva z.deps.length zvc)) := hid ⟨strs_svs hzu, rfs_rvs hzv⟩
    have HBZ := hid hbz
    have HGOT := hid hgot
    clear hzu hzv hbz hgot
    simp only [instV]
    have hoz : (instC z (.slice zua z.cmd.data.length zuc) (.slice zva z.deps.length zvc)).all (·.oneCell') = true := instC_one _ _ _ rfl rfl
    have hsz : (instC z (.slice zua z.cmd.data.length zuc) (.slice zva z.deps.length zvc)).size = 16 := rfl
    generalize hcz : instC z (.slice zua z.cmd.data.length zuc) (.slice zva z.deps.length zvc) = cz at hoz hsz ⊢
    have HCZ := hid hcz
    clear hcz
    go_upto_region 17 with (refine wpl_storeC rfl _ _ rfl wb.heap.size cz rfl rfl hsz hoz _ zeroI (.slice none 0 0) (.slice none 0 0) (heap_alloc_new _ _) ?_)
    obtain ⟨wc, hwc⟩ : ∃ wc, wc = (wb.alloc (.cells (instC zeroI (.slice none 0 0) (.slice none 0 0)) 38)).setRow wb.heap.size cz := ⟨_, rfl⟩
    have bc : Below wb.heap.size wb wc := by rw [hwc]; exact below_row ((Below.refl _ _).alloc (Nat.le_refl _) _) (Nat.le_refl _) _
    have hZb : wc.heap[wb.heap.size]? = some (.cells cz 38 (0, 0)) := by rw [hwc]; exact setRow_heap _ _ _ _ _ _ (heap_alloc_new _ _)
    have HWC := hid hwc
    clear hwc
    unfold instC zeroI at HWC
    simp only at HWC
    rw [← HWC.out]
    obtain ⟨Z, hZe⟩ : ∃ Z, Z = wb.heap.size := ⟨_, rfl⟩
    rw [← hZe] at hZb
    rw [← hZe]
    clear hZe HWC
    have BC := hid (HBZ.out.trans (bc.mono HBZ.out.size))
    have HMZ2 := hid (HMZ.out.below bc)
    have HZb := hid hZb
    have hIc := (ins_own PLW.out.row PLW.out.memX).below BC.out
    have HIc := hid hIc
    have hxc := (BC.out.block XB (lt_of_block HXW.out)).trans HXW.out
    have hac := (BC.out.block A (lt_of_block HAW.out)).trans HAW.out
    have x0 : wc.cell? ⟨XB, 0, none⟩ = some (.slice va X.length vc) := by rw [cell_of_row _ _ _ _ _ _ hxc]; rfl
    have a0' : wc.cell? ⟨A, 0, none⟩ = some (.int .i64 r0) := by rw [cell_of_row _ _ _ _ _ _ hac]; rfl
    have a1' : wc.cell? ⟨A, 1, none⟩ = some (.int .i64 r1) := by rw [cell_of_row _ _ _ _ _ _ hac]; rfl
    clear bc hZb hIc hxc hac a0 a1 HBZ HMZ
    go_upto_region 18 with (go_at_call 7; refine (rfind_any (.slice va X.length vc) X (r0, r1) _ HIc.out).mono ?_; rintro e wd ⟨i, rfl, hfi, hbd⟩)
    have HBd := hid (BC.out.trans (hbd.mono BC.out.size))
    have BWd := hid (BW.out.trans (HBd.out.mono BW.out.size))
    have HKd : Hid (wd.heap[KB]? = some (.cells #[.int .i64 X.length] 3 (0, 0))) := hid (by rw [(HBd.out.block KB (lt_of_block HKW.out)), HKW.out, HXL.out])
    have HXd := hid ((HBd.out.block XB (lt_of_block HXW.out)).trans HXW.out)
    have HZd := hid ((hbd.block Z (lt_of_block HZb.out)).trans HZb.out)
    have HId := hid (HIc.out.below hbd)
    have HMZd := hid (HMZ2.out.below hbd)
    have C4 : Hid (∀ V, Below wd.heap.size wd V → V.heap[R0]? = some (.cells #[.bool false] 4 (0, 0))) := hid fun V hV => (hV.block R0 (lt_of_block ((HBd.out.block R0 (lt_of_block HRW.out)).trans HRW.out))).trans ((HBd.out.block R0 (lt_of_block HRW.out)).trans HRW.out)
    have KD : Hid (∀ V, Below wd.heap.size wd V → V.heap[Dd]? = some (.deferred (some []))) := hid fun V hV => (hV.block Dd (lt_of_block ((HBd.out.block Dd (lt_of_block HDF.out)).trans HDF.out))).trans ((HBd.out.block Dd (lt_of_block HDF.out)).trans HDF.out)
    have hRD : R0 ≠ Dd := fun e => by have := HDF.out; rw [← e, HRW.out] at this; cases this
    have hDw : w.heap.size ≤ Dd := Nat.le_trans (Nat.le_trans (Nat.le_trans B1.out.size PL3.out.bel.size) hbl.2.2.2.2.2.2.2) hD
    have hRn : XB ≠ R0 ∧ KB ≠ R0 ∧ Z ≠ R0 := by
      refine ⟨fun e => ?_, fun e => ?_, fun e => ?_⟩
      · have := HXW.out; rw [e, HRW.out] at this; simp at this
      · have := HKW.out; rw [e, HRW.out] at this; simp at this
      · have h1 := HZd.out; rw [e, C4.out _ (Below.refl _ _)] at h1; simp at h1
    have hdl : (X.length : Int) ≤ 9223372036854775807 := HId.out.len
    have HFI := hid hfi
    clear hbd hfi x0 a0' a1' HIc HMZ2 HZb BC HKW HXW HAW HRW HDF
    cases bz with
    | false =>
      have hzz : z = zeroI ∧ i = -1 := by
        rcases HGOT.out with ⟨h, -⟩ | ⟨-, h1, h2⟩
        · cases h
        · refine ⟨h1, ?_⟩
          rcases HFI.out with ⟨k, hk, h3, h4⟩ | ⟨h3, -⟩
          · exfalso
            have : X[k].x ∈ L.map (fun y => y.x) := by rw [← PLW.out.same]; exact List.mem_map.2 ⟨_, List.getElem_mem hk, rfl⟩
            obtain ⟨e', he', h5⟩ := List.mem_map.1 this
            exact h2 e' he' (by rw [h5, h3])
          · exact h3
      obtain ⟨hz0, rfl⟩ := hzz
      have HSZ : Hid (∀ V, Below wd.heap.size wd V → Calls Try.prog 8 #[.agg cz, .agg #[.int .i64 0, .int .i64 0, .int .i64 0, .int .i64 0, .int .i64 0, .int .i64 0, .int .i64 0, .bool false, .int .i64 0, .int .i64 0, .int .i64 0, .int .i64 0, .int .i64 0, .slice none 0 0, .int .i64 0, .slice none 0 0]] V fun e w' => e = .returned (.bool true) ∧ Below V.heap.size V w') := hid fun V hV => by
        have h := rsame_any z zeroI (.slice zua z.cmd.data.length zuc) (.slice zva z.deps.length zvc) (.slice none 0 0) (.slice none 0 0) V (HMZd.out.below hV) ⟨Strs.nil V, Rfs.nil V⟩
        have he : instEqB z zeroI = true := by rw [hz0]; exact instEq_self _
        rw [he] at h
        have e1 : Value.agg #[.int .i64 0, .int .i64 0, .int .i64 0, .int .i64 0, .int .i64 0, .int .i64 0, .int .i64 0, .bool false, .int .i64 0, .int .i64 0, .int .i64 0, .int .i64 0, .int .i64 0, .slice none 0 0, .int .i64 0, .slice none 0 0] = instV zeroI (.slice none 0 0) (.slice none 0 0) := rfl
        have e2 : Value.agg cz = instV z (.slice zua z.cmd.data.length zuc) (.slice zva z.deps.length zvc) := by rw [← HCZ.out]; rfl
        rw [e1, e2]
        exact h
      have SW : Hid (∀ Y, Below wd.heap.size wd Y → Y.cell? ⟨KB, 0, none⟩ = some (.int .i64 X.length) ∧ Y.cell? ⟨XB, 0, none⟩ = some (.slice va X.length vc) ∧ Y.heap[Z]? = some (.cells cz 38 (0, 0))) := hid fun Y hY => by
        have h1 := (hY.block KB (lt_of_block HKd.out)).trans HKd.out
        have h2 := (hY.block XB (lt_of_block HXd.out)).trans HXd.out
        refine ⟨?_, ?_, (hY.block Z (lt_of_block HZd.out)).trans HZd.out⟩
        · rw [cell_of_row _ _ _ _ _ _ h1]; rfl
        · rw [cell_of_row _ _ _ _ _ _ h2]; rfl
      have SS : Hid (∀ Y, Below wd.heap.size wd Y → (Y.setCell ⟨R0, 0, none⟩ (.bool true)).cell? ⟨KB, 0, none⟩ = some (.int .i64 X.length) ∧ (Y.setCell ⟨R0, 0, none⟩ (.bool true)).cell? ⟨XB, 0, none⟩ = some (.slice va X.length vc) ∧ (Y.setCell ⟨R0, 0, none⟩ (.bool true)).heap[Z]? = some (.cells cz 38 (0, 0))) := hid fun Y hY => by
        have hs := SW.out Y hY
        refine ⟨(World.cell?_of_block (a := ⟨KB, 0, none⟩) (Below.heap_setCell Y ⟨R0, 0, none⟩ _ KB hRn.2.1)).trans hs.1, (World.cell?_of_block (a := ⟨XB, 0, none⟩) (Below.heap_setCell Y ⟨R0, 0, none⟩ _ XB hRn.1)).trans hs.2.1, (Below.heap_setCell Y ⟨R0, 0, none⟩ _ Z hRn.2.2).trans hs.2.2⟩
      refine wp_region_noPanic ?_
      refine wp_region_held_drew (S := fun Y => Y.cell? ⟨KB, 0, none⟩ = some (.int .i64 X.length) ∧ Y.cell? ⟨XB, 0, none⟩ = some (.slice va X.length vc) ∧ Y.heap[Z]? = some (.cells cz 38 (0, 0))) (by kernel_rfl) (SW.out _ ((Below.refl _ _).drew)) (fun hHeld => ?_)
      refine wpAnyH_take (i := 0) (v := ?cv0) rfl (by kernel_rfl) (by kernel_rfl) (by kernel_rfl) (fun _ _ _ h => h) (Or.inl ⟨by rfl, ?cy0⟩) (by assumption) ?cr0
      case cy0 => (intro w hSw; (try dsimp only at hSw); go_simp; try with_reducible rfl)
      (try simp only [Act.put, List.setIfInBounds_toArray, List.set_cons_zero, List.set_cons_succ, List.getElem_toArray, List.getElem_cons_succ, List.getElem_cons_zero])
      refine wpAnyH_take (i := 1) (v := ?cv1) rfl (by kernel_rfl) (by kernel_rfl) (by kernel_rfl) (fun _ _ _ h => h) (Or.inl ⟨by rfl, ?cy1⟩) (by assumption) ?cr1
      case cy1 => (intro w hSw; (try dsimp only at hSw); go_simp; try with_reducible rfl)
      (try simp only [Act.put, List.setIfInBounds_toArray, List.set_cons_zero, List.set_cons_succ, List.getElem_toArray, List.getElem_cons_succ, List.getElem_cons_zero])
      refine wpAnyH_take (i := 2) (v := ?cv2) rfl (by kernel_rfl) (by kernel_rfl) (by kernel_rfl) (fun _ _ _ h => h) (Or.inl ⟨by rfl, ?cy2⟩) (by assumption) ?cr2
      case cy2 => (intro w hSw; (try dsimp only at hSw); go_simp; try with_reducible rfl)
      (try simp only [Act.put, List.setIfInBounds_toArray, List.set_cons_zero, List.set_cons_succ, List.getElem_toArray, List.getElem_cons_succ, List.getElem_cons_zero])
      refine wpAnyH_take (i := 3) (v := ?cv3) rfl (by kernel_rfl) (by kernel_rfl) (by kernel_rfl) (fun _ _ _ h => h) (Or.inl ⟨by rfl, ?cy3⟩) (by assumption) ?cr3
      case cy3 => (intro w hSw; (try dsimp only at hSw); go_simp; try with_reducible rfl)
      (try simp only [Act.put, List.setIfInBounds_toArray, List.set_cons_zero, List.set_cons_succ, List.getElem_toArray, List.getElem_cons_succ, List.getElem_cons_zero])
      refine wpAnyH_take (i := 4) (v := ?cv4) rfl (by kernel_rfl) (by kernel_rfl) (by kernel_rfl) (fun _ _ _ h => h) (Or.inl ⟨by rfl, ?cy4⟩) (by assumption) ?cr4
      case cy4 => (intro w hSw; (try dsimp only at hSw); go_simp; try with_reducible rfl)
      (try simp only [Act.put, List.setIfInBounds_toArray, List.set_cons_zero, List.set_cons_succ, List.getElem_toArray, List.getElem_cons_succ, List.getElem_cons_zero])
      refine wpAnyH_take (i := 5) (v := ?cv5) rfl (by kernel_rfl) (by kernel_rfl) (by kernel_rfl) (fun _ _ _ h => h) (Or.inl ⟨by rfl, ?cy5⟩) (by assumption) ?cr5
      case cy5 => (intro w hSw; (try dsimp only at hSw); go_simp; try with_reducible rfl)
      (try simp only [Act.put, List.setIfInBounds_toArray, List.set_cons_zero, List.set_cons_succ, List.getElem_toArray, List.getElem_cons_succ, List.getElem_cons_zero])
      refine wpAnyH_take (i := 6) (v := ?cv6) rfl (by kernel_rfl) (by kernel_rfl) (by kernel_rfl) (fun _ _ _ h => h) (Or.inl ⟨by rfl, ?cy6⟩) (by assumption) ?cr6
      case cy6 => (intro w hSw; (try dsimp only at hSw); go_simp; try with_reducible rfl)
      (try simp only [Act.put, List.setIfInBounds_toArray, List.set_cons_zero, List.set_cons_succ, List.getElem_toArray, List.getElem_cons_succ, List.getElem_cons_zero])
      refine wpAnyH_take (i := 7) (v := ?cv7) rfl (by kernel_rfl) (by kernel_rfl) (by kernel_rfl) (fun _ _ _ h => h) (Or.inl ⟨by rfl, ?cy7⟩) (by assumption) ?cr7
      case cy7 => (intro w hSw; (try dsimp only at hSw); go_simp; try with_reducible rfl)
      (try simp only [Act.put, List.setIfInBounds_toArray, List.set_cons_zero, List.set_cons_succ, List.getElem_toArray, List.getElem_cons_succ, List.getElem_cons_zero])
      refine wpAnyH_take (i := 8) (v := ?cv8) rfl (by kernel_rfl) (by kernel_rfl) (by kernel_rfl) (fun _ _ _ h => h) (Or.inl ⟨by rfl, ?cy8⟩) (by assumption) ?cr8
      case cy8 => (intro w hSw; (try dsimp only at hSw); go_simp; try with_reducible rfl)
      (try simp only [Act.put, List.setIfInBounds_toArray, List.set_cons_zero, List.set_cons_succ, List.getElem_toArray, List.getElem_cons_succ, List.getElem_cons_zero])
      refine wpAnyH_take (i := 9) (v := ?cv9) rfl (by kernel_rfl) (by kernel_rfl) (by kernel_rfl) (fun _ _ _ h => h) (Or.inl ⟨by rfl, ?cy9⟩) (by assumption) ?cr9
      case cy9 => (intro w hSw; (try dsimp only at hSw); go_simp; try with_reducible rfl)
      (try simp only [Act.put, List.setIfInBounds_toArray, List.set_cons_zero, List.set_cons_succ, List.getElem_toArray, List.getElem_cons_succ, List.getElem_cons_zero])
      refine wpAnyH_take (i := 10) (v := ?cv10) rfl (by kernel_rfl) (by kernel_rfl) (by kernel_rfl) (fun _ _ _ h => h) (Or.inl ⟨by rfl, ?cy10⟩) (by assumption) ?cr10
      case cy10 => (intro w hSw; (try dsimp only at hSw); go_simp; try with_reducible rfl)
      (try simp only [Act.put, List.setIfInBounds_toArray, List.set_cons_zero, List.set_cons_succ, List.getElem_toArray, List.getElem_cons_succ, List.getElem_cons_zero])
      refine wpAnyH_take (i := 11) (v := ?cv11) rfl (by kernel_rfl) (by kernel_rfl) (by kernel_rfl) (fun _ _ _ h => h) (Or.inl ⟨by rfl, ?cy11⟩) (by assumption) ?cr11
      case cy11 => (intro w hSw; (try dsimp only at hSw); go_simp; try with_reducible rfl)
      (try simp only [Act.put, List.setIfInBounds_toArray, List.set_cons_zero, List.set_cons_succ, List.getElem_toArray, List.getElem_cons_succ, List.getElem_cons_zero])
      refine wpAnyH_take (i := 12) (v := ?cv12) rfl (by kernel_rfl) (by kernel_rfl) (by kernel_rfl) (fun _ _ _ h => h) (Or.inl ⟨by rfl, ?cy12⟩) (by assumption) ?cr12
      case cy12 => (intro w hSw; (try dsimp only at hSw); go_simp; try with_reducible rfl)
      (try simp only [Act.put, List.setIfInBounds_toArray, List.set_cons_zero, List.set_cons_succ, List.getElem_toArray, List.getElem_cons_succ, List.getElem_cons_zero])
      refine wpAnyH_take (i := 13) (v := ?cv13) rfl (by kernel_rfl) (by kernel_rfl) (by kernel_rfl) (fun _ _ _ h => h) (Or.inl ⟨by rfl, ?cy13⟩) (by assumption) ?cr13
      case cy13 => (intro w hSw; (try dsimp only at hSw); go_simp; try with_reducible rfl)
      (try simp only [Act.put, List.setIfInBounds_toArray, List.set_cons_zero, List.set_cons_succ, List.getElem_toArray, List.getElem_cons_succ, List.getElem_cons_zero])
      refine wpAnyH_take (i := 14) (v := .agg cz) rfl (by kernel_rfl) (by kernel_rfl) (by kernel_rfl) (fun _ _ _ h => h) (Or.inl ⟨by rfl, ?cy14⟩) (by assumption) ?cr14
      case cy14 =>
        intro w hSw
        exact exec_loadB rfl rfl cz hsz hSw.2.2
      (try simp only [Act.put, List.setIfInBounds_toArray, List.set_cons_zero, List.set_cons_succ, List.getElem_toArray, List.getElem_cons_succ, List.getElem_cons_zero])
      refine wpAnyH_take (i := 15) (v := ?cv15) rfl (by kernel_rfl) (by kernel_rfl) (by kernel_rfl) (fun _ _ _ h => h) (Or.inl ⟨by rfl, ?cy15⟩) (by assumption) ?cr15
      case cy15 => (intro w hSw; (try dsimp only at hSw); go_simp; try with_reducible rfl)
      (try simp only [Act.put, List.setIfInBounds_toArray, List.set_cons_zero, List.set_cons_succ, List.getElem_toArray, List.getElem_cons_succ, List.getElem_cons_zero])
      refine wpAnyH_ready (rs := [16]) (by kernel_rfl) (by simp) ?_
      refine AllReadyH.cons rfl (fun K hK => ?_) AllReadyH.nil
      rw [if_pos (by rfl)]
      go_wp2_with fail
      refine (HSZ.out _ ((Below.refl _ _).drew)).mono ?_
      rintro e w6 ⟨rfl, hb6⟩
      have B6 : Hid (Below wd.heap.size wd w6) := hid (((Below.refl _ _).drew).trans hb6)
      clear hb6
      refine hK.out _ _ (SW.out _ B6.out) (fun hHeld => ?_)
      try clear hK K
      (try simp only [Act.put, List.setIfInBounds_toArray, List.set_cons_zero, List.set_cons_succ, List.getElem_toArray, List.getElem_cons_succ, List.getElem_cons_zero])
      refine wpAnyH_take (i := 17) (v := ?cv17) rfl (by kernel_rfl) (by kernel_rfl) (by kernel_rfl) (fun _ _ _ h => h) (Or.inl ⟨by rfl, ?cy17⟩) (by assumption) ?cr17
      case cy17 => (intro w hSw; (try dsimp only at hSw); go_simp; try with_reducible rfl)
      (try simp only [Act.put, List.setIfInBounds_toArray, List.set_cons_zero, List.set_cons_succ, List.getElem_toArray, List.getElem_cons_succ, List.getElem_cons_zero])
      refine wpAnyH_take (i := 18) (v := ?cv18) rfl (by kernel_rfl) (by kernel_rfl) (by kernel_rfl) (fun _ _ _ h => h) (Or.inl ⟨by rfl, ?cy18⟩) (by assumption) ?cr18
      case cy18 => (intro w hSw; (try dsimp only at hSw); go_simp; try with_reducible rfl)
      (try simp only [Act.put, List.setIfInBounds_toArray, List.set_cons_zero, List.set_cons_succ, List.getElem_toArray, List.getElem_cons_succ, List.getElem_cons_zero])
      refine wpAnyH_take (i := 19) (v := undef) rfl (by kernel_rfl) (by kernel_rfl) (by kernel_rfl) (fun _ _ _ h => h) (Or.inr ⟨by rfl, rfl⟩) (by assumption) ?_
      (try simp only [Act.put, List.setIfInBounds_toArray, List.set_cons_zero, List.set_cons_succ, List.getElem_toArray, List.getElem_cons_succ, List.getElem_cons_zero])
      refine wpAnyH_take (i := 20) (v := undef) rfl (by kernel_rfl) (by kernel_rfl) (by kernel_rfl) (fun _ _ _ h => h) (Or.inr ⟨by rfl, rfl⟩) (by assumption) ?_
      (try simp only [Act.put, List.setIfInBounds_toArray, List.set_cons_zero, List.set_cons_succ, List.getElem_toArray, List.getElem_cons_succ, List.getElem_cons_zero])
      refine wpAnyH_take (i := 21) (v := undef) rfl (by kernel_rfl) (by kernel_rfl) (by kernel_rfl) (fun _ _ _ h => h) (Or.inr ⟨by rfl, rfl⟩) (by assumption) ?_
      (try simp only [Act.put, List.setIfInBounds_toArray, List.set_cons_zero, List.set_cons_succ, List.getElem_toArray, List.getElem_cons_succ, List.getElem_cons_zero])
      refine wpAnyH_take (i := 22) (v := undef) rfl (by kernel_rfl) (by kernel_rfl) (by kernel_rfl) (fun _ _ _ h => h) (Or.inr ⟨by rfl, rfl⟩) (by assumption) ?_
      (try simp only [Act.put, List.setIfInBounds_toArray, List.set_cons_zero, List.set_cons_succ, List.getElem_toArray, List.getElem_cons_succ, List.getElem_cons_zero])
      refine wpAnyH_take (i := 23) (v := undef) rfl (by kernel_rfl) (by kernel_rfl) (by kernel_rfl) (fun _ _ _ h => h) (Or.inr ⟨by rfl, rfl⟩) (by assumption) ?_
      (try simp only [Act.put, List.setIfInBounds_toArray, List.set_cons_zero, List.set_cons_succ, List.getElem_toArray, List.getElem_cons_succ, List.getElem_cons_zero])
      refine wpAnyH_take (i := 24) (v := undef) rfl (by kernel_rfl) (by kernel_rfl) (by kernel_rfl) (fun _ _ _ h => h) (Or.inr ⟨by rfl, rfl⟩) (by assumption) ?_
      (try simp only [Act.put, List.setIfInBounds_toArray, List.set_cons_zero, List.set_cons_succ, List.getElem_toArray, List.getElem_cons_succ, List.getElem_cons_zero])
      refine wpAnyH_take (i := 25) (v := undef) rfl (by kernel_rfl) (by kernel_rfl) (by kernel_rfl) (fun _ _ _ h => h) (Or.inr ⟨by rfl, rfl⟩) (by assumption) ?_
      (try simp only [Act.put, List.setIfInBounds_toArray, List.set_cons_zero, List.set_cons_succ, List.getElem_toArray, List.getElem_cons_succ, List.getElem_cons_zero])
      refine wpAnyH_take (i := 26) (v := undef) rfl (by kernel_rfl) (by kernel_rfl) (by kernel_rfl) (fun _ _ _ h => h) (Or.inr ⟨by rfl, rfl⟩) (by assumption) ?_
      (try simp only [Act.put, List.setIfInBounds_toArray, List.set_cons_zero, List.set_cons_succ, List.getElem_toArray, List.getElem_cons_succ, List.getElem_cons_zero])
      refine wpAnyH_take (i := 27) (v := undef) rfl (by kernel_rfl) (by kernel_rfl) (by kernel_rfl) (fun _ _ _ h => h) (Or.inr ⟨by rfl, rfl⟩) (by assumption) ?_
      (try simp only [Act.put, List.setIfInBounds_toArray, List.set_cons_zero, List.set_cons_succ, List.getElem_toArray, List.getElem_cons_succ, List.getElem_cons_zero])
      refine wpAnyH_take (i := 28) (v := ?cv28) rfl (by kernel_rfl) (by kernel_rfl) (by kernel_rfl) (fun _ _ _ h => h) (Or.inl ⟨by rfl, ?cy28⟩) (by assumption) ?cr28
      case cy28 => (intro w hSw; (try dsimp only at hSw); go_simp; try with_reducible rfl)
      (try simp only [Act.put, List.setIfInBounds_toArray, List.set_cons_zero, List.set_cons_succ, List.getElem_toArray, List.getElem_cons_succ, List.getElem_cons_zero])
      refine wpAnyH_take (i := 29) (v := ?cv29) rfl (by kernel_rfl) (by kernel_rfl) (by kernel_rfl) (fun _ _ _ h => h) (Or.inl ⟨by rfl, ?cy29⟩) (by assumption) ?cr29
      case cy29 => (intro w hSw; (try dsimp only at hSw); go_simp; try with_reducible rfl)
      (try simp only [Act.put, List.setIfInBounds_toArray, List.set_cons_zero, List.set_cons_succ, List.getElem_toArray, List.getElem_cons_succ, List.getElem_cons_zero])
      refine wpAnyH_take (i := 30) (v := ?cv30) rfl (by kernel_rfl) (by kernel_rfl) (by kernel_rfl) (fun _ _ _ h => h) (Or.inl ⟨by rfl, ?cy30⟩) (by assumption) ?cr30
      case cy30 => (intro w hSw; (try dsimp only at hSw); go_simp; try with_reducible rfl)
      (try simp only [Act.put, List.setIfInBounds_toArray, List.set_cons_zero, List.set_cons_succ, List.getElem_toArray, List.getElem_cons_succ, List.getElem_cons_zero])
      refine wpAnyH_ready (rs := [31]) (by kernel_rfl) (by simp) ?_
      refine AllReadyH.cons rfl (fun K hK => ?_) AllReadyH.nil
      rw [if_pos (by rfl)]
      go_wp2_with fail
      refine (lives_any _).mono ?_
      rintro e w7 ⟨rfl, hb7⟩
      have B7 : Hid (Below wd.heap.size wd w7) := hid (B6.out.trans (hb7.mono B6.out.size))
      have c7 := C4.out _ B7.out
      have cc7 : w7.cell? ⟨R0, 0, none⟩ = some (.bool false) := by rw [cell_of_row _ _ _ _ _ _ c7]; rfl
      have cf7 : w7.frozen? ⟨R0, 0, none⟩ = false := frozen_of_row _ _ _ _ _ c7
      have C7 := hid c7
      clear hb7 c7
      refine hK.out _ _ (SW.out _ B7.out) (fun hHeld => ?_)
      try clear hK K
      (try simp only [Act.put, List.setIfInBounds_toArray, List.set_cons_zero, List.set_cons_succ, List.getElem_toArray, List.getElem_cons_succ, List.getElem_cons_zero])
      refine wpAnyH_take (i := 32) (v := ?cv32) rfl (by kernel_rfl) (by kernel_rfl) (by kernel_rfl) (fun _ _ _ h => h) (Or.inl ⟨by rfl, ?cy32⟩) (by assumption) ?cr32
      case cy32 => (intro w hSw; (try dsimp only at hSw); go_simp; try with_reducible rfl)
      (try simp only [Act.put, List.setIfInBounds_toArray, List.set_cons_zero, List.set_cons_succ, List.getElem_toArray, List.getElem_cons_succ, List.getElem_cons_zero])
      refine wpAnyH_ready (rs := [33]) (by kernel_rfl) (by simp) ?_
      refine AllReadyH.cons rfl (fun K hK => ?_) AllReadyH.nil
      rw [if_pos (by rfl)]
      go_wp2_with fail
      refine hK.out _ _ (SS.out _ B7.out) (fun hHeld => ?_)
      try clear hK K
      (try simp only [Act.put, List.setIfInBounds_toArray, List.set_cons_zero, List.set_cons_succ, List.getElem_toArray, List.getElem_cons_succ, List.getElem_cons_zero])
      refine wpAnyH_done (by kernel_rfl) ?_ _
      (try simp only [NoPanic])
      go_wp2_with fail
      have hK9 : (w7.setCell ⟨R0, 0, none⟩ (.bool true)).heap[Dd]? = some (.deferred (some [])) := (Below.heap_setCell w7 ⟨R0, 0, none⟩ _ Dd (fun e => hRD e.symm)).trans (KD.out _ B7.out)
      have hR9 : (w7.setCell ⟨R0, 0, none⟩ (.bool true)).heap[R0]? = some (.cells #[.bool true] 4 (0, 0)) := heap_setCell_same w7 R0 0 _ _ _ C7.out
      have bS : Below w.heap.size w (w7.setCell ⟨R0, 0, none⟩ (.bool true)) := (BWd.out.trans (B7.out.mono BWd.out.size)).setCell (p := ⟨R0, 0, none⟩) (by show _ ≤ R0; have := HAe.out; omega) _
      refine ⟨by simp, .inl ⟨_, _, rfl, run_takeDeferred hK9, ?_⟩⟩
      refine ⟨_, results_boolcell rfl _ _ R0 (.bool true) rfl ?_, rfl, ?_⟩
      · rw [cell_of_row _ _ _ _ _ _ (cells_turnedP hR9 (grownBy_putObj' _ Dd (.deferred none)) fun r e => by cases e; exact ⟨_, hK9, rfl⟩)]; rfl
      · exact bS.trans (belowK_b (w := w) (Nat.le_refl _) _ Dd _ _ hDw hK9 rfl rfl)
    | true =>
      obtain ⟨k, hk, rfl, hkx⟩ : ∃ k, ∃ hk : k < X.length, i = k ∧ X[k].x = z := by
        rcases HGOT.out with ⟨-, e, he, h1, h2⟩ | ⟨h, -⟩
        · obtain ⟨k, hk, h3, h4⟩ := PLW.out.find he (by rw [h1, h2]; exact HFI.out)
          exact ⟨k, hk, h3, h4.trans h1⟩
        · cases h
      obtain ⟨gb, go', hva⟩ := HId.out.addr (by omega)
      subst hva
      have HRG := hid (HId.out.range k hk)
      have HMY := hid (HId.out.lit k hk).2
      have HKX := hid hkx
      clear hkx
      generalize X[k] = y at HRG HMY HKX
      have hcy : y.c.size = 16 := rfl
      have HSZ : Hid (∀ V, Below wd.heap.size wd V → Calls Try.prog 8 #[.agg cz, .agg y.c] V fun e w' => e = .returned (.bool true) ∧ Below V.heap.size V w') := hid fun V hV => by
        have h := rsame_any z y.x (.slice zua z.cmd.data.length zuc) (.slice zva z.deps.length zvc) y.u y.r V (HMZd.out.below hV) (HMY.out.below hV)
        have he : instEqB z y.x = true := by rw [HKX.out]; exact instEq_self _
        rw [he] at h
        have e1 : Value.agg y.c = instV y.x y.u y.r := rfl
        have e2 : Value.agg cz = instV z (.slice zua z.cmd.data.length zuc) (.slice zva z.deps.length zvc) := by rw [← HCZ.out]; rfl
        rw [e1, e2]
        exact h
      generalize y.c = yc at HSZ HRG hcy
      have SW : Hid (∀ Y, Below wd.heap.size wd Y → Y.cell? ⟨KB, 0, none⟩ = some (.int .i64 X.length) ∧ Y.cell? ⟨XB, 0, none⟩ = some (.slice (some ⟨gb, go', none⟩) X.length vc) ∧ Y.heap[Z]? = some (.cells cz 38 (0, 0)) ∧ Y.rangeAt gb (go' + k * 16) yc.toList) := hid fun Y hY => by
        have h1 := (hY.block KB (lt_of_block HKd.out)).trans HKd.out
        have h2 := (hY.block XB (lt_of_block HXd.out)).trans HXd.out
        refine ⟨?_, ?_, (hY.block Z (lt_of_block HZd.out)).trans HZd.out, fun j u hj => cell_later hY (HRG.out j u hj)⟩
        · rw [cell_of_row _ _ _ _ _ _ h1]; rfl
        · rw [cell_of_row _ _ _ _ _ _ h2]; rfl
      have hgR : gb ≠ R0 := by
        intro e
        have h1 := HRG.out 1 (yc.toList[1]'(by simp [hcy])) (List.getElem?_eq_getElem _)
        rw [e, cell_of_row _ _ _ _ _ _ (C4.out _ (Below.refl _ _))] at h1
        simp at h1
      have SS : Hid (∀ Y, Below wd.heap.size wd Y → (Y.setCell ⟨R0, 0, none⟩ (.bool true)).cell? ⟨KB, 0, none⟩ = some (.int .i64 X.length) ∧ (Y.setCell ⟨R0, 0, none⟩ (.bool true)).cell? ⟨XB, 0, none⟩ = some (.slice (some ⟨gb, go', none⟩) X.length vc) ∧ (Y.setCell ⟨R0, 0, none⟩ (.bool true)).heap[Z]? = some (.cells cz 38 (0, 0)) ∧ (Y.setCell ⟨R0, 0, none⟩ (.bool true)).rangeAt gb (go' + k * 16) yc.toList) := hid fun Y hY => by
        have hs := SW.out Y hY
        refine ⟨(World.cell?_of_block (a := ⟨KB, 0, none⟩) (Below.heap_setCell Y ⟨R0, 0, none⟩ _ KB hRn.2.1)).trans hs.1, (World.cell?_of_block (a := ⟨XB, 0, none⟩) (Below.heap_setCell Y ⟨R0, 0, none⟩ _ XB hRn.1)).trans hs.2.1, (Below.heap_setCell Y ⟨R0, 0, none⟩ _ Z hRn.2.2).trans hs.2.2.1, fun j u hj => (World.cell?_of_block (a := ⟨gb, _, none⟩) (Below.heap_setCell Y ⟨R0, 0, none⟩ _ gb hgR)).trans (hs.2.2.2 j u hj)⟩
      have hkI : (k : Int) < (X.length : Int) := by omega
      have hk0I : (0 : Int) ≤ (k : Int) := by omega
      refine wp_region_noPanic ?_
      refine wp_region_held_drew (S := fun Y => Y.cell? ⟨KB, 0, none⟩ = some (.int .i64 X.length) ∧ Y.cell? ⟨XB, 0, none⟩ = some (.slice (some ⟨gb, go', none⟩) X.length vc) ∧ Y.heap[Z]? = some (.cells cz 38 (0, 0)) ∧ Y.rangeAt gb (go' + k * 16) yc.toList) (by kernel_rfl) (SW.out _ ((Below.refl _ _).drew)) (fun hHeld => ?_)
      refine wpAnyH_take (i := 0) (v := ?dv0) rfl (by kernel_rfl) (by kernel_rfl) (by kernel_rfl) (fun _ _ _ h => h) (Or.inl ⟨by rfl, ?dy0⟩) (by assumption) ?dr0
      case dy0 => (intro w hSw; (try dsimp only at hSw); go_simp; try with_reducible rfl)
      (try simp only [Act.put, List.setIfInBounds_toArray, List.set_cons_zero, List.set_cons_succ, List.getElem_toArray, List.getElem_cons_succ, List.getElem_cons_zero])
      refine wpAnyH_take (i := 1) (v := ?dv1) rfl (by kernel_rfl) (by kernel_rfl) (by kernel_rfl) (fun _ _ _ h => h) (Or.inl ⟨by rfl, ?dy1⟩) (by assumption) ?dr1
      case dy1 => (intro w hSw; (try dsimp only at hSw); go_simp; try with_reducible rfl)
      (try simp only [Act.put, List.setIfInBounds_toArray, List.set_cons_zero, List.set_cons_succ, List.getElem_toArray, List.getElem_cons_succ, List.getElem_cons_zero])
      refine wpAnyH_take (i := 2) (v := ?dv2) rfl (by kernel_rfl) (by kernel_rfl) (by kernel_rfl) (fun _ _ _ h => h) (Or.inl ⟨by rfl, ?dy2⟩) (by assumption) ?dr2
      case dy2 => (intro w hSw; (try dsimp only at hSw); go_simp; try with_reducible rfl)
      (try simp only [Act.put, List.setIfInBounds_toArray, List.set_cons_zero, List.set_cons_succ, List.getElem_toArray, List.getElem_cons_succ, List.getElem_cons_zero])
      refine wpAnyH_take (i := 3) (v := ?dv3) rfl (by kernel_rfl) (by kernel_rfl) (by kernel_rfl) (fun _ _ _ h => h) (Or.inl ⟨by rfl, ?dy3⟩) (by assumption) ?dr3
      case dy3 => (intro w hSw; (try dsimp only at hSw); go_simp; try with_reducible rfl)
      (try simp only [Act.put, List.setIfInBounds_toArray, List.set_cons_zero, List.set_cons_succ, List.getElem_toArray, List.getElem_cons_succ, List.getElem_cons_zero])
      refine wpAnyH_take (i := 4) (v := ?dv4) rfl (by kernel_rfl) (by kernel_rfl) (by kernel_rfl) (fun _ _ _ h => h) (Or.inl ⟨by rfl, ?dy4⟩) (by assumption) ?dr4
      case dy4 => (intro w hSw; (try dsimp only at hSw); go_simp; try with_reducible rfl)
      (try simp only [Act.put, List.setIfInBounds_toArray, List.set_cons_zero, List.set_cons_succ, List.getElem_toArray, List.getElem_cons_succ, List.getElem_cons_zero])
      refine wpAnyH_take (i := 5) (v := ?dv5) rfl (by kernel_rfl) (by kernel_rfl) (by kernel_rfl) (fun _ _ _ h => h) (Or.inl ⟨by rfl, ?dy5⟩) (by assumption) ?dr5
      case dy5 => (intro w hSw; (try dsimp only at hSw); go_simp; try with_reducible rfl)
      (try simp only [Act.put, List.setIfInBounds_toArray, List.set_cons_zero, List.set_cons_succ, List.getElem_toArray, List.getElem_cons_succ, List.getElem_cons_zero])
      refine wpAnyH_take (i := 6) (v := ?dv6) rfl (by kernel_rfl) (by kernel_rfl) (by kernel_rfl) (fun _ _ _ h => h) (Or.inl ⟨by rfl, ?dy6⟩) (by assumption) ?dr6
      case dy6 => (intro w hSw; (try dsimp only at hSw); go_simp; try with_reducible rfl)
      (try simp only [Act.put, List.setIfInBounds_toArray, List.set_cons_zero, List.set_cons_succ, List.getElem_toArray, List.getElem_cons_succ, List.getElem_cons_zero])
      refine wpAnyH_take (i := 7) (v := ?dv7) rfl (by kernel_rfl) (by kernel_rfl) (by kernel_rfl) (fun _ _ _ h => h) (Or.inl ⟨by rfl, ?dy7⟩) (by assumption) ?dr7
      case dy7 => (intro w hSw; (try dsimp only at hSw); go_simp; try with_reducible rfl)
      (try simp only [Act.put, List.setIfInBounds_toArray, List.set_cons_zero, List.set_cons_succ, List.getElem_toArray, List.getElem_cons_succ, List.getElem_cons_zero])
      refine wpAnyH_take (i := 8) (v := ?dv8) rfl (by kernel_rfl) (by kernel_rfl) (by kernel_rfl) (fun _ _ _ h => h) (Or.inl ⟨by rfl, ?dy8⟩) (by assumption) ?dr8
      case dy8 => (intro w hSw; (try dsimp only at hSw); go_simp; try with_reducible rfl)
      (try simp only [Act.put, List.setIfInBounds_toArray, List.set_cons_zero, List.set_cons_succ, List.getElem_toArray, List.getElem_cons_succ, List.getElem_cons_zero])
      refine wpAnyH_take (i := 9) (v := ?dv9) rfl (by kernel_rfl) (by kernel_rfl) (by kernel_rfl) (fun _ _ _ h => h) (Or.inl ⟨by rfl, ?dy9⟩) (by assumption) ?dr9
      case dy9 => (intro w hSw; (try dsimp only at hSw); go_simp; try with_reducible rfl)
      (try simp only [Act.put, List.setIfInBounds_toArray, List.set_cons_zero, List.set_cons_succ, List.getElem_toArray, List.getElem_cons_succ, List.getElem_cons_zero])
      refine wpAnyH_take (i := 10) (v := ?dv10) rfl (by kernel_rfl) (by kernel_rfl) (by kernel_rfl) (fun _ _ _ h => h) (Or.inl ⟨by rfl, ?dy10⟩) (by assumption) ?dr10
      case dy10 => (intro w hSw; (try dsimp only at hSw); go_simp; try with_reducible rfl)
      (try simp only [Act.put, List.setIfInBounds_toArray, List.set_cons_zero, List.set_cons_succ, List.getElem_toArray, List.getElem_cons_succ, List.getElem_cons_zero])
      refine wpAnyH_take (i := 11) (v := ?dv11) rfl (by kernel_rfl) (by kernel_rfl) (by kernel_rfl) (fun _ _ _ h => h) (Or.inl ⟨by rfl, ?dy11⟩) (by assumption) ?dr11
      case dy11 => (intro w hSw; (try dsimp only at hSw); go_simp; try with_reducible rfl)
      (try simp only [Act.put, List.setIfInBounds_toArray, List.set_cons_zero, List.set_cons_succ, List.getElem_toArray, List.getElem_cons_succ, List.getElem_cons_zero])
      refine wpAnyH_take (i := 12) (v := ?dv12) rfl (by kernel_rfl) (by kernel_rfl) (by kernel_rfl) (fun _ _ _ h => h) (Or.inl ⟨by rfl, ?dy12⟩) (by assumption) ?dr12
      case dy12 => (intro w hSw; (try dsimp only at hSw); go_simp; try with_reducible rfl)
      (try simp only [Act.put, List.setIfInBounds_toArray, List.set_cons_zero, List.set_cons_succ, List.getElem_toArray, List.getElem_cons_succ, List.getElem_cons_zero])
      refine wpAnyH_take (i := 13) (v := ?dv13) rfl (by kernel_rfl) (by kernel_rfl) (by kernel_rfl) (fun _ _ _ h => h) (Or.inl ⟨by rfl, ?dy13⟩) (by assumption) ?dr13
      case dy13 => (intro w hSw; (try dsimp only at hSw); go_simp; try with_reducible rfl)
      (try simp only [Act.put, List.setIfInBounds_toArray, List.set_cons_zero, List.set_cons_succ, List.getElem_toArray, List.getElem_cons_succ, List.getElem_cons_zero])
      refine wpAnyH_take (i := 14) (v := undef) rfl (by kernel_rfl) (by kernel_rfl) (by kernel_rfl) (fun _ _ _ h => h) (Or.inr ⟨by rfl, rfl⟩) (by assumption) ?_
      (try simp only [Act.put, List.setIfInBounds_toArray, List.set_cons_zero, List.set_cons_succ, List.getElem_toArray, List.getElem_cons_succ, List.getElem_cons_zero])
      refine wpAnyH_take (i := 15) (v := undef) rfl (by kernel_rfl) (by kernel_rfl) (by kernel_rfl) (fun _ _ _ h => h) (Or.inr ⟨by rfl, rfl⟩) (by assumption) ?_
      (try simp only [Act.put, List.setIfInBounds_toArray, List.set_cons_zero, List.set_cons_succ, List.getElem_toArray, List.getElem_cons_succ, List.getElem_cons_zero])
      refine wpAnyH_take (i := 16) (v := undef) rfl (by kernel_rfl) (by kernel_rfl) (by kernel_rfl) (fun _ _ _ h => h) (Or.inr ⟨by rfl, rfl⟩) (by assumption) ?_
      (try simp only [Act.put, List.setIfInBounds_toArray, List.set_cons_zero, List.set_cons_succ, List.getElem_toArray, List.getElem_cons_succ, List.getElem_cons_zero])
      refine wpAnyH_take (i := 17) (v := ?dv17) rfl (by kernel_rfl) (by kernel_rfl) (by kernel_rfl) (fun _ _ _ h => h) (Or.inl ⟨by rfl, ?dy17⟩) (by assumption) ?dr17
      case dy17 => (intro w hSw; (try dsimp only at hSw); go_simp; try with_reducible rfl)
      (try simp only [Act.put, List.setIfInBounds_toArray, List.set_cons_zero, List.set_cons_succ, List.getElem_toArray, List.getElem_cons_succ, List.getElem_cons_zero])
      refine wpAnyH_take (i := 18) (v := ?dv18) rfl (by kernel_rfl) (by kernel_rfl) (by kernel_rfl) (fun _ _ _ h => h) (Or.inl ⟨by rfl, ?dy18⟩) (by assumption) ?dr18
      case dy18 => (intro w hSw; (try dsimp only at hSw); go_simp; try with_reducible rfl)
      (try simp only [Act.put, List.setIfInBounds_toArray, List.set_cons_zero, List.set_cons_succ, List.getElem_toArray, List.getElem_cons_succ, List.getElem_cons_zero])
      refine wpAnyH_take (i := 19) (v := ?dv19) rfl (by kernel_rfl) (by kernel_rfl) (by kernel_rfl) (fun _ _ _ h => h) (Or.inl ⟨by rfl, ?dy19⟩) (by assumption) ?dr19
      case dy19 => (intro w hSw; (try dsimp only at hSw); go_simp; try with_reducible rfl)
      (try simp only [Act.put, List.setIfInBounds_toArray, List.set_cons_zero, List.set_cons_succ, List.getElem_toArray, List.getElem_cons_succ, List.getElem_cons_zero])
      refine wpAnyH_take (i := 20) (v := ?dv20) rfl (by kernel_rfl) (by kernel_rfl) (by kernel_rfl) (fun _ _ _ h => h) (Or.inl ⟨by rfl, ?dy20⟩) (by assumption) ?dr20
      case dy20 => (intro w hSw; (try dsimp only at hSw); go_simp; try with_reducible rfl)
      (try simp only [Act.put, List.setIfInBounds_toArray, List.set_cons_zero, List.set_cons_succ, List.getElem_toArray, List.getElem_cons_succ, List.getElem_cons_zero])
      refine wpAnyH_take (i := 21) (v := .agg cz) rfl (by kernel_rfl) (by kernel_rfl) (by kernel_rfl) (fun _ _ _ h => h) (Or.inl ⟨by rfl, ?dy21⟩) (by assumption) ?dr21
      case dy21 =>
        intro w hSw
        exact exec_loadB rfl rfl cz hsz hSw.2.2.1
      (try simp only [Act.put, List.setIfInBounds_toArray, List.set_cons_zero, List.set_cons_succ, List.getElem_toArray, List.getElem_cons_succ, List.getElem_cons_zero])
      refine wpAnyH_take (i := 22) (v := ?dv22) rfl (by kernel_rfl) (by kernel_rfl) (by kernel_rfl) (fun _ _ _ h => h) (Or.inl ⟨by rfl, ?dy22⟩) (by assumption) ?dr22
      case dy22 => (intro w hSw; (try dsimp only at hSw); go_simp; try with_reducible rfl)
      (try simp only [Act.put, List.setIfInBounds_toArray, List.set_cons_zero, List.set_cons_succ, List.getElem_toArray, List.getElem_cons_succ, List.getElem_cons_zero])
      refine wpAnyH_take (i := 23) (v := ?dv23) rfl (by kernel_rfl) (by kernel_rfl) (by kernel_rfl) (fun _ _ _ h => h) (Or.inl ⟨by rfl, ?dy23⟩) (by assumption) ?dr23
      case dy23 => (intro w hSw; (try dsimp only at hSw); go_simp; try with_reducible rfl)
      (try simp only [Act.put, List.setIfInBounds_toArray, List.set_cons_zero, List.set_cons_succ, List.getElem_toArray, List.getElem_cons_succ, List.getElem_cons_zero])
      refine wpAnyH_take (i := 24) (v := ?dv24) rfl (by kernel_rfl) (by kernel_rfl) (by kernel_rfl) (fun _ _ _ h => h) (Or.inl ⟨by rfl, ?dy24⟩) (by assumption) ?dr24
      case dy24 => (intro w hSw; (try dsimp only at hSw); go_simp; try with_reducible rfl)
      (try simp only [Act.put, List.setIfInBounds_toArray, List.set_cons_zero, List.set_cons_succ, List.getElem_toArray, List.getElem_cons_succ, List.getElem_cons_zero])
      refine wpAnyH_take (i := 25) (v := .agg yc) rfl (by kernel_rfl) (by kernel_rfl) (by kernel_rfl) (fun _ _ _ h => h) (Or.inl ⟨by rfl, ?dy25⟩) (by assumption) ?dr25
      case dy25 =>
        intro w hSw
        exact exec_loadE rfl rfl yc hcy hSw.2.2.2
      (try simp only [Act.put, List.setIfInBounds_toArray, List.set_cons_zero, List.set_cons_succ, List.getElem_toArray, List.getElem_cons_succ, List.getElem_cons_zero])
      refine wpAnyH_ready (rs := [26]) (by kernel_rfl) (by simp) ?_
      refine AllReadyH.cons rfl (fun K hK => ?_) AllReadyH.nil
      rw [if_pos (by rfl)]
      go_wp2_with fail
      refine (HSZ.out _ ((Below.refl _ _).drew)).mono ?_
      rintro e w6 ⟨rfl, hb6⟩
      have B6 : Hid (Below wd.heap.size wd w6) := hid (((Below.refl _ _).drew).trans hb6)
      clear hb6
      refine hK.out _ _ (SW.out _ B6.out) (fun hHeld => ?_)
      try clear hK K
      (try simp only [Act.put, List.setIfInBounds_toArray, List.set_cons_zero, List.set_cons_succ, List.getElem_toArray, List.getElem_cons_succ, List.getElem_cons_zero])
      refine wpAnyH_take (i := 27) (v := ?dv27) rfl (by kernel_rfl) (by kernel_rfl) (by kernel_rfl) (fun _ _ _ h => h) (Or.inl ⟨by rfl, ?dy27⟩) (by assumption) ?dr27
      case dy27 => (intro w hSw; (try dsimp only at hSw); go_simp; try with_reducible rfl)
      (try simp only [Act.put, List.setIfInBounds_toArray, List.set_cons_zero, List.set_cons_succ, List.getElem_toArray, List.getElem_cons_succ, List.getElem_cons_zero])
      refine wpAnyH_take (i := 28) (v := ?dv28) rfl (by kernel_rfl) (by kernel_rfl) (by kernel_rfl) (fun _ _ _ h => h) (Or.inl ⟨by rfl, ?dy28⟩) (by assumption) ?dr28
      case dy28 => (intro w hSw; (try dsimp only at hSw); go_simp; try with_reducible rfl)
      (try simp only [Act.put, List.setIfInBounds_toArray, List.set_cons_zero, List.set_cons_succ, List.getElem_toArray, List.getElem_cons_succ, List.getElem_cons_zero])
      refine wpAnyH_take (i := 29) (v := ?dv29) rfl (by kernel_rfl) (by kernel_rfl) (by kernel_rfl) (fun _ _ _ h => h) (Or.inl ⟨by rfl, ?dy29⟩) (by assumption) ?dr29
      case dy29 => (intro w hSw; (try dsimp only at hSw); go_simp; try with_reducible rfl)
      (try simp only [Act.put, List.setIfInBounds_toArray, List.set_cons_zero, List.set_cons_succ, List.getElem_toArray, List.getElem_cons_succ, List.getElem_cons_zero])
      refine wpAnyH_take (i := 30) (v := ?dv30) rfl (by kernel_rfl) (by kernel_rfl) (by kernel_rfl) (fun _ _ _ h => h) (Or.inl ⟨by rfl, ?dy30⟩) (by assumption) ?dr30
      case dy30 => (intro w hSw; (try dsimp only at hSw); go_simp; try with_reducible rfl)
      (try simp only [Act.put, List.setIfInBounds_toArray, List.set_cons_zero, List.set_cons_succ, List.getElem_toArray, List.getElem_cons_succ, List.getElem_cons_zero])
      refine wpAnyH_ready (rs := [31]) (by kernel_rfl) (by simp) ?_
      refine AllReadyH.cons rfl (fun K hK => ?_) AllReadyH.nil
      rw [if_pos (by rfl)]
      go_wp2_with fail
      refine (lives_any _).mono ?_
      rintro e w7 ⟨rfl, hb7⟩
      have B7 : Hid (Below wd.heap.size wd w7) := hid (B6.out.trans (hb7.mono B6.out.size))
      have c7 := C4.out _ B7.out
      have cc7 : w7.cell? ⟨R0, 0, none⟩ = some (.bool false) := by rw [cell_of_row _ _ _ _ _ _ c7]; rfl
      have cf7 : w7.frozen? ⟨R0, 0, none⟩ = false := frozen_of_row _ _ _ _ _ c7
      have C7 := hid c7
      clear hb7 c7
      refine hK.out _ _ (SW.out _ B7.out) (fun hHeld => ?_)
      try clear hK K
      (try simp only [Act.put, List.setIfInBounds_toArray, List.set_cons_zero, List.set_cons_succ, List.getElem_toArray, List.getElem_cons_succ, List.getElem_cons_zero])
      refine wpAnyH_take (i := 32) (v := ?dv32) rfl (by kernel_rfl) (by kernel_rfl) (by kernel_rfl) (fun _ _ _ h => h) (Or.inl ⟨by rfl, ?dy32⟩) (by assumption) ?dr32
      case dy32 => (intro w hSw; (try dsimp only at hSw); go_simp; try with_reducible rfl)
      (try simp only [Act.put, List.setIfInBounds_toArray, List.set_cons_zero, List.set_cons_succ, List.getElem_toArray, List.getElem_cons_succ, List.getElem_cons_zero])
      refine wpAnyH_ready (rs := [33]) (by kernel_rfl) (by simp) ?_
      refine AllReadyH.cons rfl (fun K hK => ?_) AllReadyH.nil
      rw [if_pos (by rfl)]
      go_wp2_with fail
      refine hK.out _ _ (SS.out _ B7.out) (fun hHeld => ?_)
      try clear hK K
      (try simp only [Act.put, List.setIfInBounds_toArray, List.set_cons_zero, List.set_cons_succ, List.getElem_toArray, List.getElem_cons_succ, List.getElem_cons_zero])
      refine wpAnyH_done (by kernel_rfl) ?_ _
      (try simp only [NoPanic])
      go_wp2_with fail
      have hK9 : (w7.setCell ⟨R0, 0, none⟩ (.bool true)).heap[Dd]? = some (.deferred (some [])) := (Below.heap_setCell w7 ⟨R0, 0, none⟩ _ Dd (fun e => hRD e.symm)).trans (KD.out _ B7.out)
      have hR9 : (w7.setCell ⟨R0, 0, none⟩ (.bool true)).heap[R0]? = some (.cells #[.bool true] 4 (0, 0)) := heap_setCell_same w7 R0 0 _ _ _ C7.out
      have bS : Below w.heap.size w (w7.setCell ⟨R0, 0, none⟩ (.bool true)) := (BWd.out.trans (B7.out.mono BWd.out.size)).setCell (p := ⟨R0, 0, none⟩) (by show _ ≤ R0; have := HAe.out; omega) _
      refine ⟨by simp, .inl ⟨_, _, rfl, run_takeDeferred hK9, ?_⟩⟩
      refine ⟨_, results_boolcell rfl _ _ R0 (.bool true) rfl ?_, rfl, ?_⟩
      · rw [cell_of_row _ _ _ _ _ _ (cells_turnedP hR9 (grownBy_putObj' _ Dd (.deferred none)) fun r e => by cases e; exact ⟨_, hK9, rfl⟩)]; rfl
      · exact bS.trans (belowK_b (w := w) (Nat.le_refl _) _ Dd _ _ hDw hK9 rfl rfl)
  case stop =>
    intro Dd c pre W hD hS hF hdf
    exact absurd hS hF
end Go.Proofs.Ythhcpoafnmhnhaa
