/- What Get of a table answers, by the list of its entries. Conditions: the table and its instances lie in memory, and are light. -/
import Derived.Test.YthhcpoafnmhnhaaInPlay
namespace Go.Proofs.Ythhcpoafnmhnhaa
open Go.RowKit Go.Maps Go.Shelf
set_option linter.unusedVariables false
set_option linter.unusedSimpArgs false

def isAggI (d : TypeDesc) : Bool := match d with | .struct _ | .array _ _ => true | _ => false
/-- Two results, the first one an instance that lies in a block. -/
theorem results_instB {fn : Func} {p q : Tmp} (h : fn.results = #[.cell p 38, .tmp q]) (tmps : Array Value) (w : World) (g : Nat) (t : TypeId) (cs : Array Value) (fr : Nat × Nat)
    (hp : tmps.getD p undef = .pointer (some ⟨g, 0, none⟩)) (hg : w.heap[g]? = some (.cells cs t fr)) (hs : cs.size = 16) : (results fn tmps).run Try.prog w = .ok (.tuple #[.agg cs, tmps.getD q undef]) w := by
  obtain ⟨d, hd1, hd2⟩ := Try.structInst
  have hp' : tmps[p]?.getD undef = .pointer (some ⟨g, 0, none⟩) := by simpa using hp
  have hl := run_loadVar_row w g t 38 cs fr d hg hd1 (by cases d <;> first | rfl | (simp at hd2)) (by rw [hs]; exact Try.sizeInst)
  simp [results, h, hp', asAddr, hl]
/-- What a table has of a Ref. -/
def GotI (L : List EnI) (r : Int × Int) (x : InD) (b : Bool) : Prop := (b = true ∧ ∃ e ∈ L, e.x = x ∧ x.ref = r) ∨ (b = false ∧ x = zeroI ∧ ∀ e ∈ L, e.x.ref ≠ r)
/-- What Get leaves. -/
def GetP (L : List EnI) (r : Int × Int) (w : World) (e : Ending) (w' : World) : Prop := ∃ x b u v, GotI L r x b ∧ e = .returned (.tuple #[instV x u v, .bool b]) ∧ w'.ownsRow w.heap.size 9 1 u x.cmd.data.length (svs x.cmd.data) ∧ w'.ownsRow w.heap.size 24 2 v x.deps.length (rvs x.deps) ∧ Below w.heap.size w w'
set_option maxRecDepth 100000 in
set_option maxHeartbeats 4000000 in
theorem iget_any (tb mb n : Nat) (D : DataW Value) (L : List EnI) (r : Int × Int) (w : World) (hT : Tb w tb mb n D) (hL : TL D L) (hM : ∀ e ∈ L, InM w e.x e.u e.r) (hl : ∀ e ∈ L, LightI e.x) (hr : RefI r) :
    Calls Try.prog 10 #[.pointer (some ⟨tb, 0, none⟩), .agg #[.int .i64 r.1, .int .i64 r.2]] w (GetP L r w) := by
  have HT := hid hT
  have HM := hid hM
  obtain ⟨x, u, v, hxe, hsh, hmem, hgot⟩ : ∃ (x : InD) (u v : Value), (∀ X, Below w.heap.size w X → (Instr.lookup 60 (.map (some mb)) (.agg #[.int .i64 r.1, .int .i64 r.2]) true).run Try.prog X = .ok (.tuple #[instV x u v, .bool (Maps.has D (refK r))]) X) ∧ (u.oneCell' = true ∧ v.oneCell' = true) ∧ (InM w x u v ∧ LightI x) ∧ GotI L r x (Maps.has D (refK r)) := by
    cases hh : Maps.has D (refK r) with
    | true =>
      obtain ⟨e, he, hk⟩ := hL.all _ hh
      have hre : r = e.x.ref := refK_inj hr (hL.refs e he) hk
      refine ⟨e.x, e.u, e.r, ?_, ⟨rfl, rfl⟩, ⟨hM e he, hl e he⟩, .inl ⟨rfl, e, he, rfl, hre.symm⟩⟩
      intro X hX
      obtain ⟨lv, ps, hrun, hv⟩ := World.ownsMap.look_ok (w := X) (hT.below hX).own refLaw Try.underlyingTab (Try.zeroInst _) (RH_mk zeroSh) (keyOf_ref r hr.1 hr.2)
      obtain ⟨-, hd2, -⟩ := RH_inv hv
      have h3 := hL.each e he (.held (instV zeroI (.slice none 0 0) (.slice none 0 0)))
      rw [← hre] at h3
      rw [h3] at hd2
      rw [hrun, ← DataW.held.inj hd2, hh]
      rfl
    | false =>
      refine ⟨zeroI, .slice none 0 0, .slice none 0 0, ?_, ⟨rfl, rfl⟩, ⟨⟨Strs.nil _, Rfs.nil _⟩, ⟨by decide, by simp [zeroI], by decide⟩⟩, .inr ⟨rfl, rfl, ?_⟩⟩
      · intro X hX
        obtain ⟨lv, ps, hrun, hv⟩ := World.ownsMap.look_ok (w := X) (hT.below hX).own refLaw Try.underlyingTab (Try.zeroInst _) (RH_mk zeroSh) (keyOf_ref r hr.1 hr.2)
        obtain ⟨-, hd2, -⟩ := RH_inv hv
        rw [atKey_of_not_has hh] at hd2
        rw [hrun, ← DataW.held.inj hd2, hh]
      · intro e he hre
        have := has_true_of_atKey (hL.each e he)
        rw [hre, hh] at this
        cases this
  generalize Maps.has D (refK r) = hb at *
  have HGOT := hid hgot
  have HLK := hid hxe
  have HMX := hid hmem.1
  have HLX := hid hmem.2
  clear hT hL hM hl hgot hxe hmem
  obtain ⟨cs, hcs'⟩ : ∃ cs, cs = instC x u v := ⟨_, rfl⟩
  have hcs : cs.size = 16 := by rw [hcs']; rfl
  have hc1 : cs.all (·.oneCell') = true := by rw [hcs']; exact instC_one _ _ _ hsh.1 hsh.2
  have hcv : instV x u v = .agg cs := by rw [hcs']; rfl
  rw [hcv] at HLK
  have HCS := hid hcs'
  clear hcs' hcv
  obtain ⟨r0, r1⟩ := r
  simp only at HLK ⊢
  obtain ⟨w1, hw1⟩ : ∃ w1, w1 = (w.alloc (.cells #[.int .i64 r0, .int .i64 r1] 24)).alloc (.cells (instC zeroI (.slice none 0 0) (.slice none 0 0)) 38) := ⟨_, rfl⟩
  have hb1 : Below w.heap.size w w1 := by rw [hw1]; exact ((Below.refl _ _).alloc (Nat.le_refl _) _).alloc (by simp) _
  have hA : w1.heap[w.heap.size]? = some (.cells #[.int .i64 r0, .int .i64 r1] 24 (0, 0)) := by rw [hw1]; exact heap_alloc2_old _ _ _
  have hB : w1.heap[w.heap.size + 1]? = some (.cells (instC zeroI (.slice none 0 0) (.slice none 0 0)) 38 (0, 0)) := by rw [hw1]; exact heap_alloc2_new _ _ _
  have HW1 := hid hw1
  have B1 := hid hb1
  clear hw1 hb1
  unfold instC zeroI at HW1
  simp only at HW1
  go_enter Try.func10, Try.ntmps10
  go_upto_region 1 with fail
  rw [← HW1.out]
  obtain ⟨A, hAe⟩ : ∃ A, A = w.heap.size := ⟨_, rfl⟩
  obtain ⟨B, hBe⟩ : ∃ B, B = w.heap.size + 1 := ⟨_, rfl⟩
  rw [← hAe] at hA
  rw [← hBe] at hB
  rw [← hBe, ← hAe]
  have HBe : Hid (w.heap.size ≤ B ∧ A ≠ B) := hid (by omega)
  clear hAe hBe HW1
  have SW : Hid (∀ X, Below w1.heap.size w1 X → X.cell? ⟨tb, 0, none⟩ = some (.map (some mb)) ∧ X.cell? ⟨A, 0, none⟩ = some (.int .i64 r0) ∧ X.cell? ⟨A, 1, none⟩ = some (.int .i64 r1) ∧ (Instr.lookup 60 (.map (some mb)) (.agg #[.int .i64 r0, .int .i64 r1]) true).run Try.prog X = .ok (.tuple #[.agg cs, .bool hb]) X) := hid fun X hX => by
    have h1 := (hX.block A (lt_of_block hA)).trans hA
    have h0 := B1.out.trans (hX.mono B1.out.size)
    have h2 := (h0.block tb (lt_of_block HT.out.box)).trans HT.out.box
    refine ⟨?_, ?_, ?_, HLK.out X h0⟩
    · rw [cell_of_row _ _ _ _ _ _ h2]; rfl
    · rw [cell_of_row _ _ _ _ _ _ h1]; rfl
    · rw [cell_of_row _ _ _ _ _ _ h1]; rfl
  have HB := hid hB
  clear hA hB
  go_upto_region 3 with fail
  refine wp_region_held_drew (S := fun X => X.cell? ⟨tb, 0, none⟩ = some (.map (some mb)) ∧ X.cell? ⟨A, 0, none⟩ = some (.int .i64 r0) ∧ X.cell? ⟨A, 1, none⟩ = some (.int .i64 r1) ∧ (Instr.lookup 60 (.map (some mb)) (.agg #[.int .i64 r0, .int .i64 r1]) true).run Try.prog X = .ok (.tuple #[.agg cs, .bool hb]) X) (by kernel_rfl) (SW.out _ ((Below.refl _ _).drew)) (fun hHeld => ?_)
  refine wpAnyH_take (i := 0) (v := ?av0) rfl (by kernel_rfl) (by kernel_rfl) (by kernel_rfl) (fun _ _ _ h => h) (Or.inl ⟨by rfl, ?ay0⟩) (by assumption) ?ar0
  case ay0 => (intro w hSw; (try dsimp only at hSw); go_simp; try with_reducible rfl)
  (try simp only [Act.put, List.setIfInBounds_toArray, List.set_cons_zero, List.set_cons_succ, List.getElem_toArray, List.getElem_cons_succ, List.getElem_cons_zero])
  refine wpAnyH_take (i := 1) (v := ?av1) rfl (by kernel_rfl) (by kernel_rfl) (by kernel_rfl) (fun _ _ _ h => h) (Or.inl ⟨by rfl, ?ay1⟩) (by assumption) ?ar1
  case ay1 => (intro w hSw; (try dsimp only at hSw); go_simp; try with_reducible rfl)
  (try simp only [Act.put, List.setIfInBounds_toArray, List.set_cons_zero, List.set_cons_succ, List.getElem_toArray, List.getElem_cons_succ, List.getElem_cons_zero])
  refine wpAnyH_take (i := 2) (v := ?av2) rfl (by kernel_rfl) (by kernel_rfl) (by kernel_rfl) (fun _ _ _ h => h) (Or.inl ⟨by rfl, ?ay2⟩) (by assumption) ?ar2
  case ay2 => (intro w hSw; (try dsimp only at hSw); go_simp; try with_reducible rfl)
  (try simp only [Act.put, List.setIfInBounds_toArray, List.set_cons_zero, List.set_cons_succ, List.getElem_toArray, List.getElem_cons_succ, List.getElem_cons_zero])
  refine wpAnyH_take (i := 3) (v := ?av3) rfl (by kernel_rfl) (by kernel_rfl) (by kernel_rfl) (fun _ _ _ h => h) (Or.inl ⟨by rfl, ?ay3⟩) (by assumption) ?ar3
  case ay3 => (intro w hSw; (try dsimp only at hSw); go_simp; try with_reducible rfl)
  (try simp only [Act.put, List.setIfInBounds_toArray, List.set_cons_zero, List.set_cons_succ, List.getElem_toArray, List.getElem_cons_succ, List.getElem_cons_zero])
  refine wpAnyH_take (i := 4) (v := ?av4) rfl (by kernel_rfl) (by kernel_rfl) (by kernel_rfl) (fun _ _ _ h => h) (Or.inl ⟨by rfl, ?ay4⟩) (by assumption) ?ar4
  case ay4 => (intro w hSw; (try dsimp only at hSw); go_simp; try with_reducible rfl)
  (try simp only [Act.put, List.setIfInBounds_toArray, List.set_cons_zero, List.set_cons_succ, List.getElem_toArray, List.getElem_cons_succ, List.getElem_cons_zero])
  refine wpAnyH_take (i := 5) (v := .tuple #[.agg cs, .bool hb]) rfl (by kernel_rfl) (by kernel_rfl) (by kernel_rfl) (fun _ _ _ h => h) (Or.inl ⟨by rfl, ?ay5⟩) (by assumption) ?ar5
  case ay5 =>
    intro w hSw
    exact exec_look rfl rfl rfl hSw.2.2.2
  (try simp only [Act.put, List.setIfInBounds_toArray, List.set_cons_zero, List.set_cons_succ, List.getElem_toArray, List.getElem_cons_succ, List.getElem_cons_zero])
  refine wpAnyH_take (i := 6) (v := ?av6) rfl (by kernel_rfl) (by kernel_rfl) (by kernel_rfl) (fun _ _ _ h => h) (Or.inl ⟨by rfl, ?ay6⟩) (by assumption) ?ar6
  case ay6 => (intro w hSw; (try dsimp only at hSw); go_simp; try with_reducible rfl)
  (try simp only [Act.put, List.setIfInBounds_toArray, List.set_cons_zero, List.set_cons_succ, List.getElem_toArray, List.getElem_cons_succ, List.getElem_cons_zero])
  refine wpAnyH_take (i := 7) (v := ?av7) rfl (by kernel_rfl) (by kernel_rfl) (by kernel_rfl) (fun _ _ _ h => h) (Or.inl ⟨by rfl, ?ay7⟩) (by assumption) ?ar7
  case ay7 => (intro w hSw; (try dsimp only at hSw); go_simp; try with_reducible rfl)
  (try simp only [Act.put, List.setIfInBounds_toArray, List.set_cons_zero, List.set_cons_succ, List.getElem_toArray, List.getElem_cons_succ, List.getElem_cons_zero])
  refine wpAnyH_take (i := 8) (v := ?av8) rfl (by kernel_rfl) (by kernel_rfl) (by kernel_rfl) (fun _ _ _ h => h) (Or.inl ⟨by rfl, ?ay8⟩) (by assumption) ?ar8
  case ay8 => (intro w hSw; (try dsimp only at hSw); go_simp; try with_reducible rfl)
  (try simp only [Act.put, List.setIfInBounds_toArray, List.set_cons_zero, List.set_cons_succ, List.getElem_toArray, List.getElem_cons_succ, List.getElem_cons_zero])
  refine wpAnyH_ready (rs := [9]) (by kernel_rfl) (by simp) ?_
  refine AllReadyH.cons rfl (fun K hK => ?_) AllReadyH.nil
  rw [if_pos (by rfl)]
  go_wp2_with fail
  refine hK.out _ _ (SW.out _ (((Below.refl _ _).drew).alloc (Nat.le_refl _) _)) (fun hHeld => ?_)
  try clear hK K
  (try simp only [Act.put, List.setIfInBounds_toArray, List.set_cons_zero, List.set_cons_succ, List.getElem_toArray, List.getElem_cons_succ, List.getElem_cons_zero])
  refine wpAnyH_ready (rs := [10]) (by kernel_rfl) (by simp) ?_
  refine AllReadyH.cons rfl (fun K hK => ?_) AllReadyH.nil
  rw [if_pos (by rfl)]
  refine wp_store_row _ _ _ rfl w1.heap.size cs rfl rfl _ _ (heap_alloc_new _ _) (by rw [hcs]; exact Try.sizeInst) (by rw [hcs]; rfl) hc1 ?_
  refine hK.out _ _ (SW.out _ (below_row (((Below.refl _ _).drew).alloc (Nat.le_refl _) _) (Nat.le_refl _) _)) (fun hHeld => ?_)
  try clear hK K
  (try simp only [Act.put, List.setIfInBounds_toArray, List.set_cons_zero, List.set_cons_succ, List.getElem_toArray, List.getElem_cons_succ, List.getElem_cons_zero])
  refine wpAnyH_take (i := 11) (v := ?av11) rfl (by kernel_rfl) (by kernel_rfl) (by kernel_rfl) (fun _ _ _ h => h) (Or.inl ⟨by rfl, ?ay11⟩) (by assumption) ?ar11
  case ay11 => (intro w hSw; (try dsimp only at hSw); go_simp; try with_reducible rfl)
  (try simp only [Act.put, List.setIfInBounds_toArray, List.set_cons_zero, List.set_cons_succ, List.getElem_toArray, List.getElem_cons_succ, List.getElem_cons_zero])
  refine wpAnyH_done (by kernel_rfl) ?_ _
  obtain ⟨w3, hw3⟩ : ∃ w3, w3 = ((w1.alloc (.cells (instC zeroI (.slice none 0 0) (.slice none 0 0)) 38)).drew.setRow w1.heap.size cs) := ⟨_, rfl⟩
  have hb3 : Below w1.heap.size w1 w3 := by rw [hw3]; exact below_row (((Below.refl _ _).alloc (Nat.le_refl _) _).drew) (Nat.le_refl _) _
  have hC : w3.heap[w1.heap.size]? = some (.cells cs 38 (0, 0)) := by rw [hw3]; exact setRow_heap _ _ _ _ _ _ (heap_alloc_new w1 _)
  have B3 := hid (B1.out.trans (hb3.mono B1.out.size))
  have HB3 := hid ((hb3.block B (lt_of_block HB.out)).trans HB.out)
  have HW3 := hid hw3
  clear hw3 hb3 SW hHeld HB
  unfold instC zeroI at HW3
  simp only at HW3
  rw [← HW3.out]
  obtain ⟨C, hCe⟩ : ∃ C, C = w1.heap.size := ⟨_, rfl⟩
  rw [← hCe] at hC
  rw [← hCe]
  clear HW3 hCe
  go_wp2_with (refine wpl_loadC rfl _ rfl C rfl cs hcs _ _ hC ?_)
  rw [HCS.out]
  refine (iclone_any x u v w3 (HMX.out.below B3.out) (by have := HLX.out.1; omega) (by have := HLX.out.2.2; omega)).mono ?_
  rintro e w4 ⟨u4, v4, rfl, hu4, hv4, hb4⟩
  have hB4 := (hb4.block B (lt_of_block HB3.out)).trans HB3.out
  have hlB : B < w3.heap.size := lt_of_block HB3.out
  have O1 : u4.oneCell' = true := by obtain ⟨_, _, rfl⟩ := own_shape hu4; rfl
  have O2 : v4.oneCell' = true := by obtain ⟨_, _, rfl⟩ := own_shape hv4; rfl
  have HU4 := hid hu4
  have HV4 := hid hv4
  have B4 := hid (B3.out.trans (hb4.mono B3.out.size))
  clear hu4 hv4 hb4 HB3 hC
  go_wp2_with (refine wpl_storeI rfl _ _ rfl B x u4 v4 rfl rfl O1 O2 _ _ _ _ hB4 ?_)
  (try simp only [Exit.inBlock, Exit.then])
  refine bodyPost_ret (results_instB rfl _ _ B _ (instC x u4 v4) _ rfl (setRow_heap _ _ _ _ _ _ hB4) rfl) rfl ?_
  refine ⟨x, hb, u4, v4, HGOT.out, rfl, ?_, ?_, below_row B4.out HBe.out.1 _⟩
  · exact own_lower (own_lt HU4.out hlB fun q hq => setRow_other _ _ _ _ hq) B3.out.size
  · exact own_lower (own_lt HV4.out hlB fun q hq => setRow_other _ _ _ _ hq) B3.out.size
end Go.Proofs.Ythhcpoafnmhnhaa
