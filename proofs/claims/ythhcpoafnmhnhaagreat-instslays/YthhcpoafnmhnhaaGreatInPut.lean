/- What Put of a table answers, and the table behind it. Conditions: table and instance lie in memory. -/
import Derived.Test.YthhcpoafnmhnhaaGreatInTab
import Derived.Test.YthhcpoafnmhnhaaGreatInMayI
import Derived.Test.YthhcpoafnmhnhaaGreatInCloneI
import Derived.Deep.RegionHeld3
import Derived.Maps.AppendAt
import Derived.Deep.CutBlock
import Derived.Deep.CutRange
namespace Go.Proofs.YthhcpoafnmhnhaaGreat
open Go.RowKit Go.Maps
set_option linter.unusedVariables false
set_option linter.unusedSimpArgs false

theorem wpl_storeC {ops : Array Oper} {rest : List Oper} {o : Oper} {a : Act} {w : World} {Q : Exit → Act → World → Prop} (hgd : o.guard = none) (x y : Operand) (ho : o.op = .store 31 x y)
    (g : Nat) (cs : Array Value) (hx : a.eval x = .pointer (some ⟨g, 0, none⟩)) (hy : a.eval y = .agg cs) (hs : cs.size = 16) (h1 : cs.all (·.oneCell') = true)
    (t : TypeId) (X0 : InD) (u0 v0 : Value) (hg : w.heap[g]? = some (.cells (instC X0 u0 v0) t (0, 0)))
    (h : wpList Tryz.prog ops Q rest (a.put o.dst undef) (w.setRow g cs)) : wpList Tryz.prog ops Q (o :: rest) a w :=
  wpList_store_row hgd _ x y ho g _ hx hy t _ hg (by rw [hs]; exact Tryz.sizeInst) (by rw [hs]; rfl) h1 h
theorem exec_look {f : Operand → Value} {o : Oper} {w : World} {t : TypeId} {m x : Operand} (hop : o.op = .lookup t m x true) {mv key r : Value} (hm : f m = mv) (hx : f x = key)
    (hrun : (Instr.lookup t mv key true).run Tryz.prog w = .ok r w) : (execOp f o).run Tryz.prog w = .ok (.value r) w := by
  simp [execOp, hop, hm, hx, hrun, Result.andThen]
theorem exec_loadI {f : Operand → Value} {o : Oper} {w : World} {x : Operand} (hop : o.op = .load 31 x) {g : Nat} (hx : f x = .pointer (some ⟨g, 0, none⟩)) {t : TypeId} {X : InD} {u v : Value} {fr : Nat × Nat} (hg : w.heap[g]? = some (.cells (instC X u v) t fr)) :
    (execOp f o).run Tryz.prog w = .ok (.value (instV X u v)) w := by
  obtain ⟨d, hd1, hd2⟩ := Tryz.structInst
  have := run_loadVar_row (P := Tryz.prog) w g t 31 _ fr d hg hd1 (by cases d <;> first | rfl | (simp at hd2)) Tryz.sizeInst
  unfold execOp
  simp only [hop, hx, Instr.loadAt, Instr.sureAddr, Sem.run_bind, Sem.run_pure, Result.andThen_ok, this]
  rfl
theorem wp_upd {o : Oper} {a : Act} {w w' : World} {K : Act → World → Prop} {Q : Exit → Act → World → Prop} {t : TypeId} (m x v : Operand) (hop : o.op = .mapUpdate t m x v) {mv key val : Value} (hm : a.eval m = mv) (hx : a.eval x = key) (hv : a.eval v = val)
    (hrun : (Instr.mapUpdate t mv key val).run Tryz.prog w = .ok () w') (h : K (a.put o.dst undef) w') : o.wp Tryz.prog a w K Q := by
  unfold Oper.wp
  simp [execOp, hop, hm, hx, hv, hrun, Result.andThen]
  exact h
theorem wp_look {o : Oper} {a : Act} {w : World} {K : Act → World → Prop} {Q : Exit → Act → World → Prop} {t : TypeId} (m x : Operand) (hop : o.op = .lookup t m x true) (mv key r : Value) (hm : a.eval m = mv) (hx : a.eval x = key)
    (hrun : (Instr.lookup t mv key true).run Tryz.prog w = .ok r w) (h : K (a.put o.dst r) w) : o.wp Tryz.prog a w K Q := by
  unfold Oper.wp
  simp [execOp, hop, hm, hx, hrun, Result.andThen]
  exact h
theorem Tryz.infoInst : (Tryz.prog.info? 31).map (fun i => i.zero) = some (some (instV zeroI (.slice none 0 0) (.slice none 0 0))) := by kernel_rfl
theorem Tryz.zeroInst (w : World) : (zeroValue 31).run Tryz.prog w = .ok (instV zeroI (.slice none 0 0) (.slice none 0 0)) w := by
  have hz := Tryz.infoInst
  cases hi : Tryz.prog.info? 31 with
  | none => rw [hi] at hz; cases hz
  | some i =>
    rw [hi] at hz
    have h2 : i.zero = some (instV zeroI (.slice none 0 0) (.slice none 0 0)) := by simpa using hz
    simp [zeroValue, typeInfo, hi, h2]
theorem zeroSh : InSh (instV zeroI (.slice none 0 0) (.slice none 0 0)) := ⟨_, _, _, _, _, _, _, rfl⟩
noncomputable def putE (D : DataW Value) (x : InD) : Int := if instB x = true then (if Maps.has D (refK x.ref) = true ∨ Maps.size D < 4096 then 0 else 2) else 1
/-- Behind Put. -/
def PutP (w w' : World) (tb mb n : Nat) (D : DataW Value) (x : InD) : Prop :=
  (putE D x ≠ 0 ∧ Below w.heap.size w w') ∨ (putE D x = 0 ∧ ∃ u' v', Tb w' tb mb (n + 1) (D.put (refK x.ref) (.held (instV x u' v'))) ∧ w'.ownsRow w.heap.size 9 1 u' x.cmd.data.length (svs x.cmd.data) ∧ w'.ownsRow w.heap.size 23 2 v' x.deps.length (rvs x.deps) ∧ w.grownBy w' (some mb))
set_option maxRecDepth 100000 in
set_option maxHeartbeats 4000000 in
theorem iput_nil (x : InD) (u v : Value) (w : World) (hx : InM w x u v) :
    Calls Tryz.prog 15 #[.pointer none, instV x u v] w fun e w' => e = .returned (.int .i64 8) ∧ Below w.heap.size w w' := by
  obtain ⟨xua, xuc, rfl⟩ := hx.d.shape
  obtain ⟨xva, xvc, rfl⟩ := hx.r.shape
  clear hx
  unfold instV instC
  go_enter Tryz.func15, Tryz.ntmps15
  go_wp2_with fail
  go_ret
  exact ⟨rfl, (Below.refl _ _).alloc (Nat.le_refl _) _⟩
set_option maxRecDepth 100000 in
set_option maxHeartbeats 4000000 in
theorem iput_any (tb mb n : Nat) (D : DataW Value) (x : InD) (u v : Value) (w : World) (hT : Tb w tb mb n D) (hn : n < maxLen) (hx : InM w x u v) (hc : CmdOk w x.cmd u) (hr1 : I64 x.ref.1) (hr2 : I64 x.ref.2) (hl1 : x.cmd.data.length ≤ 1000000000) (hl2 : x.deps.length ≤ 1000000000) :
    Calls Tryz.prog 15 #[.pointer (some ⟨tb, 0, none⟩), instV x u v] w fun e w' => e = .returned (.int .i64 (putE D x)) ∧ PutP w w' tb mb n D x := by
  have HM := hid (fun W h1 h2 h3 => imay_any x u v W h1 h2 h3)
  obtain ⟨xua, xuc, rfl⟩ := hx.d.shape
  obtain ⟨xva, xvc, rfl⟩ := hx.r.shape
  have HX := hid hx
  have HC := hid hc
  have HT := hid hT
  clear hx hc hT
  obtain ⟨w1, hw1⟩ : ∃ w1, w1 = (w.alloc (.cells (instC x (.slice xua x.cmd.data.length xuc) (.slice xva x.deps.length xvc)) 31)) := ⟨_, rfl⟩
  have B1 : Hid (Below w.heap.size w w1) := hid (by rw [hw1]; exact (Below.refl _ _).alloc (Nat.le_refl _) _)
  have hA : Hid (w1.heap[w.heap.size]? = some (.cells (instC x (.slice xua x.cmd.data.length xuc) (.slice xva x.deps.length xvc)) 31 (0, 0))) := hid (by rw [hw1]; exact heap_alloc_new _ _)
  have HW1 := hid hw1
  clear hw1
  unfold instV
  unfold instC at HW1
  unfold instC
  go_enter Tryz.func15, Tryz.ntmps15
  go_upto_region 1 with fail
  rw [← HW1.out]
  obtain ⟨A, hAe⟩ : ∃ A, A = w.heap.size := ⟨_, rfl⟩
  have HAe := hid hAe
  rw [← hAe] at hA
  rw [← hAe]
  clear hAe HW1
  go_wp2_with (refine wpl_loadI rfl _ rfl A rfl _ x _ _ _ hA.out ?_)
  refine (HM.out w1 (HX.out.below B1.out) (HC.out.below B1.out) (fun W hW => (HC.out.below B1.out).below hW)).mono ?_
  rintro e w2 ⟨rfl, hb2⟩
  have A2 := hid ((hb2.block A (lt_of_block hA.out)).trans hA.out)
  have B2 := hid (B1.out.trans (hb2.mono B1.out.size))
  have T2 := hid (HT.out.below B2.out)
  clear hb2 hA B1
  have HE : Hid (putE D x = if instB x = true then (if Maps.has D (refK x.ref) = true ∨ Maps.size D < 4096 then 0 else 2) else 1) := hid rfl
  generalize hI : instB x = I at *
  cases I with
  | false =>
    have HE1 : Hid (putE D x = 1) := hid (by rw [HE.out]; rfl)
    clear HE
    go_wp2_with fail
    go_ret
    exact ⟨by rw [HE1.out]; rfl, .inl ⟨by rw [HE1.out]; decide, B2.out⟩⟩
  | true =>
    have HE1 : Hid (putE D x = if Maps.has D (refK x.ref) = true ∨ Maps.size D < 4096 then 0 else 2) := hid (by rw [HE.out]; rfl)
    clear HE
    obtain ⟨lv, ps, hrun, hv⟩ := World.ownsMap.look_ok (w := w2) T2.out.own refLaw Tryz.underlyingTab (Tryz.zeroInst _) (RH_mk zeroSh) (keyOf_ref x.ref hr1 hr2)
    obtain ⟨hsh, hd1, -⟩ := RH_inv hv
    obtain ⟨cs, rfl, hcs, hc1⟩ := hsh.cells
    have HD := hid hd1
    clear hrun hv hd1 hsh
    have SW : Hid (∀ X, Below w2.heap.size w2 X → X.cell? ⟨tb, 0, none⟩ = some (.map (some mb)) ∧ X.cell? ⟨A, 0, none⟩ = some (.int .i64 x.ref.1) ∧ X.cell? ⟨A, 1, none⟩ = some (.int .i64 x.ref.2) ∧ (Instr.lookup 77 (.map (some mb)) (.agg #[.int .i64 x.ref.1, .int .i64 x.ref.2]) true).run Tryz.prog X = .ok (.tuple #[.agg cs, .bool (Maps.has D (refK x.ref))]) X) := hid fun X hX => by
      have h1 := (hX.block A (lt_of_block A2.out)).trans A2.out
      have h2 := (hX.block tb (lt_of_block T2.out.box)).trans T2.out.box
      refine ⟨?_, ?_, ?_, ?_⟩
      · rw [cell_of_row _ _ _ _ _ _ h2]; rfl
      · rw [cell_of_row _ _ _ _ _ _ h1]; rfl
      · rw [cell_of_row _ _ _ _ _ _ h1]; rfl
      · obtain ⟨lv, ps, hrun, hv⟩ := World.ownsMap.look_ok (w := X) (T2.out.below hX).own refLaw Tryz.underlyingTab (Tryz.zeroInst _) (RH_mk zeroSh) (keyOf_ref x.ref hr1 hr2)
        obtain ⟨-, hd2, -⟩ := RH_inv hv
        have he := HD.out.symm.trans hd2
        simp only [DataW.held.injEq] at he
        rw [he]
        exact hrun
    generalize Maps.has D (refK x.ref) = hs at *
    go_upto_region 5 with fail
    refine wp_region_held_drew (S := fun X => X.cell? ⟨tb, 0, none⟩ = some (.map (some mb)) ∧ X.cell? ⟨A, 0, none⟩ = some (.int .i64 x.ref.1) ∧ X.cell? ⟨A, 1, none⟩ = some (.int .i64 x.ref.2) ∧ (Instr.lookup 77 (.map (some mb)) (.agg #[.int .i64 x.ref.1, .int .i64 x.ref.2]) true).run Tryz.prog X = .ok (.tuple #[.agg cs, .bool hs]) X) (by kernel_rfl) (SW.out _ ((Below.refl _ _).drew)) (fun hHeld => ?_)
    refine wpAnyH_take (i := 0) (v := ?av0) rfl (by kernel_rfl) (by kernel_rfl) (by kernel_rfl) (fun _ _ _ h => h) (Or.inl ⟨by rfl, ?ay0⟩) (by assumption) ?ar0
    case ay0 => (intro w hSw; (try dsimp only at hSw); go_simp; try with_reducible rfl)
    (try simp only [Act.put, List.setIfInBounds_toArray, List.set_cons_zero, List.set_cons_succ, List.getElem_toArray, List.getElem_cons_succ, List.getElem_cons_zero])
    refine wpAnyH_take (i := 1) (v := ?av1) rfl (by kernel_rfl) (by kernel_rfl) (by kernel_rfl) (fun _ _ _ h => h) (Or.inl ⟨by rfl, ?ay1⟩) (by assumption) ?ar1
    case ay1 => (intro w hSw; (try dsimp only at hSw); go_simp; try with_reducible rfl)
    (try simp only [Act.put, List.setIfInBounds_toArray, List.set_cons_zero, List.set_cons_succ, List.getElem_toArray, List.getElem_cons_succ, List.getElem_cons_zero])
    refine wpAnyH_take (i := 2) (v := ?av2) rfl (by kernel_rfl) (by kernel_rfl) (by kernel_rfl) (fun _ _ _ h => h) (Or.inl ⟨by rfl, ?ay2⟩) (by assumption) ?ar2
    case ay2 => (intro w hSw; (try dsimp only at hSw); go_simp; try with_reducible rfl)
    (try simp only [Act.put, List.setIfInBounds_toArray, List.set_cons_zero, List.set_cons_succ, List.getElem_toArray, List.getElem_cons_succ, List.getElem_cons_zero])
    refine wpAnyH_take (i := 3) (v := ?av3) rfl (by kernel_rfl) (by kernel_rfl) (by kernel_rfl) (fun _ _ _ h => h) (Or.inl ⟨by rfl, ?ay3⟩) (by assumption) ?ar3
    case ay3 => (intro w hSw; (try dsimp only at hSw); go_simp; try with_reducible rfl)
    (try simp only [Act.put, List.setIfInBounds_toArray, List.set_cons_zero, List.set_cons_succ, List.getElem_toArray, List.getElem_cons_succ, List.getElem_cons_zero])
    refine wpAnyH_take (i := 4) (v := ?av4) rfl (by kernel_rfl) (by kernel_rfl) (by kernel_rfl) (fun _ _ _ h => h) (Or.inl ⟨by rfl, ?ay4⟩) (by assumption) ?ar4
    case ay4 => (intro w hSw; (try dsimp only at hSw); go_simp; try with_reducible rfl)
    (try simp only [Act.put, List.setIfInBounds_toArray, List.set_cons_zero, List.set_cons_succ, List.getElem_toArray, List.getElem_cons_succ, List.getElem_cons_zero])
    refine wpAnyH_take (i := 5) (v := ?av5) rfl (by kernel_rfl) (by kernel_rfl) (by kernel_rfl) (fun _ _ _ h => h) (Or.inl ⟨by rfl, ?ay5⟩) (by assumption) ?ar5
    case ay5 => (intro w hSw; (try dsimp only at hSw); go_simp; try with_reducible rfl)
    (try simp only [Act.put, List.setIfInBounds_toArray, List.set_cons_zero, List.set_cons_succ, List.getElem_toArray, List.getElem_cons_succ, List.getElem_cons_zero])
    refine wpAnyH_take (i := 6) (v := .tuple #[.agg cs, .bool hs]) rfl (by kernel_rfl) (by kernel_rfl) (by kernel_rfl) (fun _ _ _ h => h) (Or.inl ⟨by rfl, ?ay6⟩) (by assumption) ?ar6
    case ay6 =>
      intro w hSw
      exact exec_look rfl rfl rfl hSw.2.2.2
    (try simp only [Act.put, List.setIfInBounds_toArray, List.set_cons_zero, List.set_cons_succ, List.getElem_toArray, List.getElem_cons_succ, List.getElem_cons_zero])
    refine wpAnyH_take (i := 7) (v := ?av7) rfl (by kernel_rfl) (by kernel_rfl) (by kernel_rfl) (fun _ _ _ h => h) (Or.inl ⟨by rfl, ?ay7⟩) (by assumption) ?ar7
    case ay7 => (intro w hSw; (try dsimp only at hSw); go_simp; try with_reducible rfl)
    (try simp only [Act.put, List.setIfInBounds_toArray, List.set_cons_zero, List.set_cons_succ, List.getElem_toArray, List.getElem_cons_succ, List.getElem_cons_zero])
    refine wpAnyH_take (i := 8) (v := ?av8) rfl (by kernel_rfl) (by kernel_rfl) (by kernel_rfl) (fun _ _ _ h => h) (Or.inl ⟨by rfl, ?ay8⟩) (by assumption) ?ar8
    case ay8 => (intro w hSw; (try dsimp only at hSw); go_simp; try with_reducible rfl)
    (try simp only [Act.put, List.setIfInBounds_toArray, List.set_cons_zero, List.set_cons_succ, List.getElem_toArray, List.getElem_cons_succ, List.getElem_cons_zero])
    refine wpAnyH_take (i := 9) (v := ?av9) rfl (by kernel_rfl) (by kernel_rfl) (by kernel_rfl) (fun _ _ _ h => h) (Or.inl ⟨by rfl, ?ay9⟩) (by assumption) ?ar9
    case ay9 => (intro w hSw; (try dsimp only at hSw); go_simp; try with_reducible rfl)
    (try simp only [Act.put, List.setIfInBounds_toArray, List.set_cons_zero, List.set_cons_succ, List.getElem_toArray, List.getElem_cons_succ, List.getElem_cons_zero])
    refine wpAnyH_ready (rs := [10]) (by kernel_rfl) (by simp) ?_
    refine AllReadyH.cons rfl (fun K hK => ?_) AllReadyH.nil
    rw [if_pos (by rfl)]
    go_wp2_with fail
    refine hK.out _ _ (SW.out _ (((Below.refl _ _).drew).alloc (Nat.le_refl _) _)) (fun hHeld => ?_)
    try clear hK K
    (try simp only [Act.put, List.setIfInBounds_toArray, List.set_cons_zero, List.set_cons_succ, List.getElem_toArray, List.getElem_cons_succ, List.getElem_cons_zero])
    refine wpAnyH_ready (rs := [11]) (by kernel_rfl) (by simp) ?_
    refine AllReadyH.cons rfl (fun K hK => ?_) AllReadyH.nil
    rw [if_pos (by rfl)]
    refine wp_store_row _ _ _ rfl w2.heap.size cs rfl rfl _ _ (heap_alloc_new _ _) (by rw [hcs]; exact Tryz.sizeInst) (by rw [hcs]; rfl) hc1 ?_
    refine hK.out _ _ (SW.out _ (below_row (((Below.refl _ _).drew).alloc (Nat.le_refl _) _) (Nat.le_refl _) _)) (fun hHeld => ?_)
    try clear hK K
    (try simp only [Act.put, List.setIfInBounds_toArray, List.set_cons_zero, List.set_cons_succ, List.getElem_toArray, List.getElem_cons_succ, List.getElem_cons_zero])
    refine wpAnyH_take (i := 12) (v := ?av12) rfl (by kernel_rfl) (by kernel_rfl) (by kernel_rfl) (fun _ _ _ h => h) (Or.inl ⟨by rfl, ?ay12⟩) (by assumption) ?ar12
    case ay12 => (intro w hSw; (try dsimp only at hSw); go_simp; try with_reducible rfl)
    (try simp only [Act.put, List.setIfInBounds_toArray, List.set_cons_zero, List.set_cons_succ, List.getElem_toArray, List.getElem_cons_succ, List.getElem_cons_zero])
    refine wpAnyH_done (by kernel_rfl) ?_ _
    obtain ⟨w3, hw3⟩ : ∃ w3, w3 = ((w2.alloc (.cells (instC zeroI (.slice none 0 0) (.slice none 0 0)) 31)).drew.setRow w2.heap.size cs) := ⟨_, rfl⟩
    have hb3 : Below w2.heap.size w2 w3 := by rw [hw3]; exact below_row (((Below.refl _ _).alloc (Nat.le_refl _) _).drew) (Nat.le_refl _) _
    have A3 := hid ((hb3.block A (lt_of_block A2.out)).trans A2.out)
    have B3 := hid (B2.out.trans (hb3.mono B2.out.size))
    have T3 := hid (T2.out.below hb3)
    have HW3 := hid hw3
    clear hw3 hb3 A2 B2 T2 SW hHeld
    unfold instC zeroI at HW3
    simp only at HW3
    rw [← HW3.out]
    clear HW3
    have hlen : ∀ ty, (Builtin.len_ #[77] ty #[.map (some mb)]).run Tryz.prog w3 = .ok (.int .i64 (Maps.size D)) w3 := fun ty => T3.out.own.len Tryz.underlyingTab ty
    have hbox : w3.cell? ⟨tb, 0, none⟩ = some (.map (some mb)) := by rw [cell_of_row _ _ _ _ _ _ T3.out.box]; rfl
    cases hs with
    | true =>
      have HE2 : Hid (putE D x = 0) := hid (by rw [HE1.out]; simp)
      go_upto_region 8 with fail
      have SW : Hid (∀ X, w3.grownBy X (some mb) → X.cell? ⟨tb, 0, none⟩ = some (.map (some mb)) ∧ X.cell? ⟨A, 0, none⟩ = some (.int .i64 x.ref.1) ∧ X.cell? ⟨A, 1, none⟩ = some (.int .i64 x.ref.2) ∧ X.heap[A]? = some (.cells (instC x (.slice xua x.cmd.data.length xuc) (.slice xva x.deps.length xvc)) 31 (0, 0)) ∧ X.heap[tb]? = some (.cells #[.map (some mb)] 79 (0, 0))) := hid fun X hX => by
        have hm := T3.out.own
        obtain ⟨es, clock, hm, -⟩ := hm
        have h1 := (hX.block A (lt_of_block A3.out) (by intro e; cases e; rw [A3.out] at hm; cases hm)).trans A3.out
        have h2 := (hX.block tb (lt_of_block T3.out.box) (by intro e; cases e; rw [T3.out.box] at hm; cases hm)).trans T3.out.box
        refine ⟨?_, ?_, ?_, h1, h2⟩
        · rw [cell_of_row _ _ _ _ _ _ h2]; rfl
        · rw [cell_of_row _ _ _ _ _ _ h1]; rfl
        · rw [cell_of_row _ _ _ _ _ _ h1]; rfl
      clear hbox hlen
      refine wp_region_held_drew (S := fun X => X.cell? ⟨tb, 0, none⟩ = some (.map (some mb)) ∧ X.cell? ⟨A, 0, none⟩ = some (.int .i64 x.ref.1) ∧ X.cell? ⟨A, 1, none⟩ = some (.int .i64 x.ref.2) ∧ X.heap[A]? = some (.cells (instC x (.slice xua x.cmd.data.length xuc) (.slice xva x.deps.length xvc)) 31 (0, 0)) ∧ X.heap[tb]? = some (.cells #[.map (some mb)] 79 (0, 0))) (by kernel_rfl) (SW.out _ ⟨rfl, rfl, rfl, Nat.le_refl _, fun _ _ _ => rfl⟩) (fun hHeld => ?_)
      refine wpAnyH_take (i := 0) (v := ?bv0) rfl (by kernel_rfl) (by kernel_rfl) (by kernel_rfl) (fun _ _ _ h => h) (Or.inl ⟨by rfl, ?by0⟩) (by assumption) ?br0
      case by0 => (intro w hSw; (try dsimp only at hSw); go_simp; try with_reducible rfl)
      (try simp only [Act.put, List.setIfInBounds_toArray, List.set_cons_zero, List.set_cons_succ, List.getElem_toArray, List.getElem_cons_succ, List.getElem_cons_zero])
      refine wpAnyH_take (i := 1) (v := ?bv1) rfl (by kernel_rfl) (by kernel_rfl) (by kernel_rfl) (fun _ _ _ h => h) (Or.inl ⟨by rfl, ?by1⟩) (by assumption) ?br1
      case by1 => (intro w hSw; (try dsimp only at hSw); go_simp; try with_reducible rfl)
      (try simp only [Act.put, List.setIfInBounds_toArray, List.set_cons_zero, List.set_cons_succ, List.getElem_toArray, List.getElem_cons_succ, List.getElem_cons_zero])
      refine wpAnyH_take (i := 2) (v := ?bv2) rfl (by kernel_rfl) (by kernel_rfl) (by kernel_rfl) (fun _ _ _ h => h) (Or.inl ⟨by rfl, ?by2⟩) (by assumption) ?br2
      case by2 => (intro w hSw; (try dsimp only at hSw); go_simp; try with_reducible rfl)
      (try simp only [Act.put, List.setIfInBounds_toArray, List.set_cons_zero, List.set_cons_succ, List.getElem_toArray, List.getElem_cons_succ, List.getElem_cons_zero])
      refine wpAnyH_take (i := 3) (v := ?bv3) rfl (by kernel_rfl) (by kernel_rfl) (by kernel_rfl) (fun _ _ _ h => h) (Or.inl ⟨by rfl, ?by3⟩) (by assumption) ?br3
      case by3 => (intro w hSw; (try dsimp only at hSw); go_simp; try with_reducible rfl)
      (try simp only [Act.put, List.setIfInBounds_toArray, List.set_cons_zero, List.set_cons_succ, List.getElem_toArray, List.getElem_cons_succ, List.getElem_cons_zero])
      refine wpAnyH_take (i := 4) (v := ?bv4) rfl (by kernel_rfl) (by kernel_rfl) (by kernel_rfl) (fun _ _ _ h => h) (Or.inl ⟨by rfl, ?by4⟩) (by assumption) ?br4
      case by4 => (intro w hSw; (try dsimp only at hSw); go_simp; try with_reducible rfl)
      (try simp only [Act.put, List.setIfInBounds_toArray, List.set_cons_zero, List.set_cons_succ, List.getElem_toArray, List.getElem_cons_succ, List.getElem_cons_zero])
      refine wpAnyH_take (i := 5) (v := ?bv5) rfl (by kernel_rfl) (by kernel_rfl) (by kernel_rfl) (fun _ _ _ h => h) (Or.inl ⟨by rfl, ?by5⟩) (by assumption) ?br5
      case by5 => (intro w hSw; (try dsimp only at hSw); go_simp; try with_reducible rfl)
      (try simp only [Act.put, List.setIfInBounds_toArray, List.set_cons_zero, List.set_cons_succ, List.getElem_toArray, List.getElem_cons_succ, List.getElem_cons_zero])
      refine wpAnyH_take (i := 6) (v := instV x (.slice xua x.cmd.data.length xuc) (.slice xva x.deps.length xvc)) rfl (by kernel_rfl) (by kernel_rfl) (by kernel_rfl) (fun _ _ _ h => h) (Or.inl ⟨by rfl, ?by6⟩) (by assumption) ?br6
      case by6 =>
        intro w hSw
        exact exec_loadI rfl rfl hSw.2.2.2.1
      (try simp only [Act.put, List.setIfInBounds_toArray, List.set_cons_zero, List.set_cons_succ, List.getElem_toArray, List.getElem_cons_succ, List.getElem_cons_zero])
      refine wpAnyH_ready (rs := [7]) (by kernel_rfl) (by simp) ?_
      refine AllReadyH.cons rfl (fun K hK => ?_) AllReadyH.nil
      rw [if_pos (by rfl)]
      go_wp2_with fail
      refine (iclone_any x _ _ _ ((HX.out.below B3.out).below ((Below.refl _ _).drew)) hl1 hl2).mono ?_
      rintro e w4 ⟨u', v', rfl, hu4, hv4, hb4⟩
      have B4 : Hid (Below w3.heap.size w3 w4) := hid (((Below.refl _ _).drew).trans hb4)
      have U4 : Hid (w4.ownsRow w3.heap.size 9 1 u' x.cmd.data.length (svs x.cmd.data)) := hid hu4
      have V4 : Hid (w4.ownsRow w3.heap.size 23 2 v' x.deps.length (rvs x.deps)) := hid hv4
      clear hu4 hv4 hb4
      have hsh4 : InSh (instV x u' v') := by obtain ⟨_, _, rfl⟩ := own_shape U4.out; obtain ⟨_, _, rfl⟩ := own_shape V4.out; exact ⟨_, _, _, _, _, _, _, rfl⟩
      refine hK.out _ _ (SW.out _ ⟨B4.out.os, B4.out.tape, B4.out.output, B4.out.size, fun k hk _ => B4.out.block k hk⟩) (fun hHeld => ?_)
      try clear hK K
      (try simp only [Act.put, List.setIfInBounds_toArray, List.set_cons_zero, List.set_cons_succ, List.getElem_toArray, List.getElem_cons_succ, List.getElem_cons_zero])
      refine wpAnyH_ready (rs := [8]) (by kernel_rfl) (by simp) ?_
      refine AllReadyH.cons rfl (fun K hK => ?_) AllReadyH.nil
      rw [if_pos (by rfl)]
      obtain ⟨w5, hrun, ho5, hg5⟩ := (T3.out.below B4.out).own.update refLaw Tryz.underlyingTab hn (keyOf_ref x.ref hr1 hr2) (RH_mk hsh4)
      refine wp_upd _ _ _ rfl rfl rfl rfl hrun ?_
      have G5 : Hid (w3.grownBy w5 (some mb)) := hid ((World.grownBy.mk B4.out.os B4.out.tape B4.out.output B4.out.size fun k hk _ => B4.out.block k hk : w3.grownBy w4 (some mb)).trans hg5)
      have O5 := hid ho5
      have U5 : Hid (w5.ownsRow w3.heap.size 9 1 u' x.cmd.data.length (svs x.cmd.data)) := hid (own_kept U4.out fun q cs hq hh => hg5.block q (lt_of_block hh) (by have := (World.ownsRow.lt U4.out q hq).1; have := T3.out.own.lt; simp; omega))
      have V5 : Hid (w5.ownsRow w3.heap.size 23 2 v' x.deps.length (rvs x.deps)) := hid (own_kept V4.out fun q cs hq hh => hg5.block q (lt_of_block hh) (by have := (World.ownsRow.lt V4.out q hq).1; have := T3.out.own.lt; simp; omega))
      clear hrun ho5 hg5 U4 V4
      refine hK.out _ _ (SW.out _ G5.out) (fun hHeld => ?_)
      try clear hK K
      (try simp only [Act.put, List.setIfInBounds_toArray, List.set_cons_zero, List.set_cons_succ, List.getElem_toArray, List.getElem_cons_succ, List.getElem_cons_zero])
      refine wpAnyH_done (by kernel_rfl) ?_ _
      go_wp2_with fail
      go_ret
      refine ⟨by rw [HE2.out]; rfl, .inr ⟨HE2.out, u', v', ⟨hHeld.2.2.2.2, O5.out⟩, own_lower U5.out B3.out.size, own_lower V5.out B3.out.size, ?_⟩⟩
      exact (World.grownBy.mk B3.out.os B3.out.tape B3.out.output B3.out.size fun k hk _ => B3.out.block k hk : w.grownBy w3 (some mb)).trans G5.out
    | false =>
      generalize hz : Maps.size D = z at *
      cases hc : decide (4096 ≤ (z : Int)) with
      | true =>
        have HE2 : Hid (putE D x = 2) := hid (by rw [HE1.out, if_neg]; simp at hc ⊢; omega)
        go_wp2_with fail
        go_ret
        exact ⟨by rw [HE2.out]; rfl, .inl ⟨by rw [HE2.out]; decide, B3.out⟩⟩
      | false =>
        have HE2 : Hid (putE D x = 0) := hid (by rw [HE1.out, if_pos]; simp at hc ⊢; omega)
        go_upto_region 8 with fail
        have SW : Hid (∀ X, w3.grownBy X (some mb) → X.cell? ⟨tb, 0, none⟩ = some (.map (some mb)) ∧ X.cell? ⟨A, 0, none⟩ = some (.int .i64 x.ref.1) ∧ X.cell? ⟨A, 1, none⟩ = some (.int .i64 x.ref.2) ∧ X.heap[A]? = some (.cells (instC x (.slice xua x.cmd.data.length xuc) (.slice xva x.deps.length xvc)) 31 (0, 0)) ∧ X.heap[tb]? = some (.cells #[.map (some mb)] 79 (0, 0))) := hid fun X hX => by
          have hm := T3.out.own
          obtain ⟨es, clock, hm, -⟩ := hm
          have h1 := (hX.block A (lt_of_block A3.out) (by intro e; cases e; rw [A3.out] at hm; cases hm)).trans A3.out
          have h2 := (hX.block tb (lt_of_block T3.out.box) (by intro e; cases e; rw [T3.out.box] at hm; cases hm)).trans T3.out.box
          refine ⟨?_, ?_, ?_, h1, h2⟩
          · rw [cell_of_row _ _ _ _ _ _ h2]; rfl
          · rw [cell_of_row _ _ _ _ _ _ h1]; rfl
          · rw [cell_of_row _ _ _ _ _ _ h1]; rfl
        clear hbox hlen
        refine wp_region_held_drew (S := fun X => X.cell? ⟨tb, 0, none⟩ = some (.map (some mb)) ∧ X.cell? ⟨A, 0, none⟩ = some (.int .i64 x.ref.1) ∧ X.cell? ⟨A, 1, none⟩ = some (.int .i64 x.ref.2) ∧ X.heap[A]? = some (.cells (instC x (.slice xua x.cmd.data.length xuc) (.slice xva x.deps.length xvc)) 31 (0, 0)) ∧ X.heap[tb]? = some (.cells #[.map (some mb)] 79 (0, 0))) (by kernel_rfl) (SW.out _ ⟨rfl, rfl, rfl, Nat.le_refl _, fun _ _ _ => rfl⟩) (fun hHeld => ?_)
        refine wpAnyH_take (i := 0) (v := ?dv0) rfl (by kernel_rfl) (by kernel_rfl) (by kernel_rfl) (fun _ _ _ h => h) (Or.inl ⟨by rfl, ?dy0⟩) (by assumption) ?dr0
        case dy0 => (intro w hSw; (try dsimp only at hSw); go_simp; try with_reducible rfl)
        (try simp only [Act.put, List.setIfInBounds_toArray, List.set_cons_zero, List.set_cons_succ, List.getElem_toArray, List.getElem_cons_succ, List.getElem_cons_zero])
        refine wpAnyH_take (i := 1) (v := ?dv1) rfl (by kernel_rfl) (by kernel_rfl) (by kernel_rfl) (fun _ _ _ h => h) (Or.inl ⟨by rfl, ?dy1⟩) (by assumption) ?dr1
        case dy1 => (intro w hSw; (try dsimp only at hSw); go_simp; try with_reducible rfl)
        (try simp only [Act.put, List.setIfInBounds_toArray, List.set_cons_zero, List.set_cons_succ, List.getElem_toArray, List.getElem_cons_succ, List.getElem_cons_zero])
        refine wpAnyH_take (i := 2) (v := ?dv2) rfl (by kernel_rfl) (by kernel_rfl) (by kernel_rfl) (fun _ _ _ h => h) (Or.inl ⟨by rfl, ?dy2⟩) (by assumption) ?dr2
        case dy2 => (intro w hSw; (try dsimp only at hSw); go_simp; try with_reducible rfl)
        (try simp only [Act.put, List.setIfInBounds_toArray, List.set_cons_zero, List.set_cons_succ, List.getElem_toArray, List.getElem_cons_succ, List.getElem_cons_zero])
        refine wpAnyH_take (i := 3) (v := ?dv3) rfl (by kernel_rfl) (by kernel_rfl) (by kernel_rfl) (fun _ _ _ h => h) (Or.inl ⟨by rfl, ?dy3⟩) (by assumption) ?dr3
        case dy3 => (intro w hSw; (try dsimp only at hSw); go_simp; try with_reducible rfl)
        (try simp only [Act.put, List.setIfInBounds_toArray, List.set_cons_zero, List.set_cons_succ, List.getElem_toArray, List.getElem_cons_succ, List.getElem_cons_zero])
        refine wpAnyH_take (i := 4) (v := ?dv4) rfl (by kernel_rfl) (by kernel_rfl) (by kernel_rfl) (fun _ _ _ h => h) (Or.inl ⟨by rfl, ?dy4⟩) (by assumption) ?dr4
        case dy4 => (intro w hSw; (try dsimp only at hSw); go_simp; try with_reducible rfl)
        (try simp only [Act.put, List.setIfInBounds_toArray, List.set_cons_zero, List.set_cons_succ, List.getElem_toArray, List.getElem_cons_succ, List.getElem_cons_zero])
        refine wpAnyH_take (i := 5) (v := ?dv5) rfl (by kernel_rfl) (by kernel_rfl) (by kernel_rfl) (fun _ _ _ h => h) (Or.inl ⟨by rfl, ?dy5⟩) (by assumption) ?dr5
        case dy5 => (intro w hSw; (try dsimp only at hSw); go_simp; try with_reducible rfl)
        (try simp only [Act.put, List.setIfInBounds_toArray, List.set_cons_zero, List.set_cons_succ, List.getElem_toArray, List.getElem_cons_succ, List.getElem_cons_zero])
        refine wpAnyH_take (i := 6) (v := instV x (.slice xua x.cmd.data.length xuc) (.slice xva x.deps.length xvc)) rfl (by kernel_rfl) (by kernel_rfl) (by kernel_rfl) (fun _ _ _ h => h) (Or.inl ⟨by rfl, ?dy6⟩) (by assumption) ?dr6
        case dy6 =>
          intro w hSw
          exact exec_loadI rfl rfl hSw.2.2.2.1
        (try simp only [Act.put, List.setIfInBounds_toArray, List.set_cons_zero, List.set_cons_succ, List.getElem_toArray, List.getElem_cons_succ, List.getElem_cons_zero])
        refine wpAnyH_ready (rs := [7]) (by kernel_rfl) (by simp) ?_
        refine AllReadyH.cons rfl (fun K hK => ?_) AllReadyH.nil
        rw [if_pos (by rfl)]
        go_wp2_with fail
        refine (iclone_any x _ _ _ ((HX.out.below B3.out).below ((Below.refl _ _).drew)) hl1 hl2).mono ?_
        rintro e w4 ⟨u', v', rfl, hu4, hv4, hb4⟩
        have B4 : Hid (Below w3.heap.size w3 w4) := hid (((Below.refl _ _).drew).trans hb4)
        have U4 : Hid (w4.ownsRow w3.heap.size 9 1 u' x.cmd.data.length (svs x.cmd.data)) := hid hu4
        have V4 : Hid (w4.ownsRow w3.heap.size 23 2 v' x.deps.length (rvs x.deps)) := hid hv4
        clear hu4 hv4 hb4
        have hsh4 : InSh (instV x u' v') := by obtain ⟨_, _, rfl⟩ := own_shape U4.out; obtain ⟨_, _, rfl⟩ := own_shape V4.out; exact ⟨_, _, _, _, _, _, _, rfl⟩
        refine hK.out _ _ (SW.out _ ⟨B4.out.os, B4.out.tape, B4.out.output, B4.out.size, fun k hk _ => B4.out.block k hk⟩) (fun hHeld => ?_)
        try clear hK K
        (try simp only [Act.put, List.setIfInBounds_toArray, List.set_cons_zero, List.set_cons_succ, List.getElem_toArray, List.getElem_cons_succ, List.getElem_cons_zero])
        refine wpAnyH_ready (rs := [8]) (by kernel_rfl) (by simp) ?_
        refine AllReadyH.cons rfl (fun K hK => ?_) AllReadyH.nil
        rw [if_pos (by rfl)]
        obtain ⟨w5, hrun, ho5, hg5⟩ := (T3.out.below B4.out).own.update refLaw Tryz.underlyingTab hn (keyOf_ref x.ref hr1 hr2) (RH_mk hsh4)
        refine wp_upd _ _ _ rfl rfl rfl rfl hrun ?_
        have G5 : Hid (w3.grownBy w5 (some mb)) := hid ((World.grownBy.mk B4.out.os B4.out.tape B4.out.output B4.out.size fun k hk _ => B4.out.block k hk : w3.grownBy w4 (some mb)).trans hg5)
        have O5 := hid ho5
        have U5 : Hid (w5.ownsRow w3.heap.size 9 1 u' x.cmd.data.length (svs x.cmd.data)) := hid (own_kept U4.out fun q cs hq hh => hg5.block q (lt_of_block hh) (by have := (World.ownsRow.lt U4.out q hq).1; have := T3.out.own.lt; simp; omega))
        have V5 : Hid (w5.ownsRow w3.heap.size 23 2 v' x.deps.length (rvs x.deps)) := hid (own_kept V4.out fun q cs hq hh => hg5.block q (lt_of_block hh) (by have := (World.ownsRow.lt V4.out q hq).1; have := T3.out.own.lt; simp; omega))
        clear hrun ho5 hg5 U4 V4
        refine hK.out _ _ (SW.out _ G5.out) (fun hHeld => ?_)
        try clear hK K
        (try simp only [Act.put, List.setIfInBounds_toArray, List.set_cons_zero, List.set_cons_succ, List.getElem_toArray, List.getElem_cons_succ, List.getElem_cons_zero])
        refine wpAnyH_done (by kernel_rfl) ?_ _
        go_wp2_with fail
        go_ret
        refine ⟨by rw [HE2.out]; rfl, .inr ⟨HE2.out, u', v', ⟨hHeld.2.2.2.2, O5.out⟩, own_lower U5.out B3.out.size, own_lower V5.out B3.out.size, ?_⟩⟩
        exact (World.grownBy.mk B3.out.os B3.out.tape B3.out.output B3.out.size fun k hk _ => B3.out.block k hk : w.grownBy w3 (some mb)).trans G5.out
end Go.Proofs.YthhcpoafnmhnhaaGreat
