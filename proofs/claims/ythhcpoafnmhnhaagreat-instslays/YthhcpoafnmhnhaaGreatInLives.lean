/- The document's example lives. -/
import Derived.Test.YthhcpoafnmhnhaaGreatInOrdL
namespace Go.Proofs.YthhcpoafnmhnhaaGreat
open Go.RowKit Go.Maps Go.Shelf
set_option linter.unusedVariables false
set_option linter.unusedSimpArgs false

theorem wrap2 : wrap64 ((1 : Int) + 1) = 2 := by unfold wrap64; omega
theorem wrap1 : wrap64 ((0 : Int) + 1) = 1 := by unfold wrap64; omega
def tX : ByteArray := ⟨#[120]⟩
def exI : InD := ⟨(0, 1), (0, 0), (0, 0), 1, false, ⟨2, 0, 1, 1, 2, [tX]⟩, 1, []⟩
def exC1 : CmdD := ⟨1, 1, 1, 0, 2, []⟩
def exC2 : CmdD := ⟨1, 1, 1, 2, 3, []⟩
theorem exI_ok : instB exI = true := by
  have h1 : refB exI.ref = true := by kernel_rfl
  have h2 : balB exI.bal = true := by kernel_rfl
  have h3 : balB exI.vote = true := by kernel_rfl
  have h4 : mayB exI.cmd = true := by kernel_rfl
  have h5 : depsB exI.deps = true := by kernel_rfl
  have h6 : decide (cmp2 exI.bal exI.vote < 0) = false := by kernel_rfl
  unfold instB
  rw [h1, h2, h3, h4, h5, h6]
  rfl
theorem strs_one {W : World} {P : Nat} {t : TypeId} {s : ByteArray} (h : W.heap[P]? = some (.cells #[.string s] t (0, 0))) : Strs W (.slice (some ⟨P, 0, none⟩) 1 1) [s] := by
  refine ⟨_, _, _, rfl, rfl, Nat.le_refl _, by omega, (fun h => by cases h), ?_⟩
  intro ad had j hj
  obtain rfl := Option.some.inj had
  obtain rfl : j = 0 := by simpa using hj
  rw [Addr.add_lit, cell_of_row W P _ _ _ _ h]; rfl
theorem ex_or1 (e : EnI) (h : e.x = exI) : orF exC1 (1, 1) [e] = (1, [(0, 1)]) := by
  have : hitB exC1 (1, 1) exI = true := by kernel_rfl
  simp only [orF, List.foldl_cons, List.foldl_nil, orS, h, this, if_true]
  rfl
theorem ex_or2 (e : EnI) (h : e.x = exI) : orF exC2 (1, 1) [e] = (0, []) := by
  have : hitB exC2 (1, 1) exI = false := by kernel_rfl
  simp only [orF, List.foldl_cons, List.foldl_nil, orS, h, this]
  rfl
theorem ex_nx (e : EnI) (h : e.x = exI) : nxF 0 [e] = 1 := by
  simp only [nxF, List.foldl_cons, List.foldl_nil, nxS, h]
  rfl
theorem rise_one {m : List (Int × Int)} {x : Int × Int} (hr : RiseR m) (h : ∀ r, r ∈ m ↔ r ∈ [x]) : m = [x] := rise_unique hr (List.pairwise_singleton _ _) h
theorem rise_nil {m : List (Int × Int)} (h : ∀ r, r ∈ m ↔ r ∈ ([] : List (Int × Int))) : m = [] := List.eq_nil_iff_forall_not_mem.2 fun r hr => by have := (h r).1 hr; simp at this
set_option maxRecDepth 100000 in
set_option maxHeartbeats 4000000 in
theorem lives_any (w : World) : Calls Tryz.prog 5 #[] w fun e w' => e = .returned (.bool true) ∧ Below w.heap.size w w' := by
  go_enter Tryz.func5, Tryz.ntmps5
  go_wp2_with fail
  refine (inew_any w).mono ?_
  rintro e w1 ⟨rfl, hT, hb⟩
  obtain ⟨tb, htb⟩ : ∃ tb, tb = w.heap.size + 1 := ⟨_, rfl⟩
  obtain ⟨mb, hmb⟩ : ∃ mb, mb = w.heap.size := ⟨_, rfl⟩
  rw [← htb, ← hmb] at hT
  rw [← htb]
  have T1 := hid hT
  have B1 := hid hb
  have HTB := hid htb
  have HMB := hid hmb
  clear hT hb htb hmb
  go_upto_region 3 with fail
  obtain ⟨w2, hw2⟩ : ∃ w2, w2 = w1.alloc (.cells #[.int .i64 0, .int .i64 1] 23) := ⟨_, rfl⟩
  have b2 : Below w1.heap.size w1 w2 := by rw [hw2]; exact (Below.refl _ _).alloc (Nat.le_refl _) _
  have r2 : w2.heap[w1.heap.size]? = some (.cells #[.int .i64 0, .int .i64 1] 23 (0, 0)) := by rw [hw2]; exact heap_alloc_new _ _
  rw [← hw2]
  clear hw2
  obtain ⟨P, hP⟩ : ∃ P, P = w1.heap.size := ⟨_, rfl⟩
  rw [← hP] at r2
  rw [← hP]
  have T2 := hid (T1.out.below b2)
  have B2 := hid (B1.out.trans (b2.mono B1.out.size))
  have R2 := hid r2
  have HP : Hid (w.heap.size ≤ P ∧ P ≠ mb) := hid (by have := B1.out.size; have := T1.out.own.lt; omega)
  have z0 : w2.cell? ⟨P, 0, none⟩ = some (.int .i64 0) := by rw [cell_of_row _ _ _ _ _ _ r2]; rfl
  have z1 : w2.cell? ⟨P, 1, none⟩ = some (.int .i64 1) := by rw [cell_of_row _ _ _ _ _ _ r2]; rfl
  clear b2 r2 T1 B1 hP
  obtain ⟨w3, hw3⟩ : ∃ w3, w3 = w2.alloc (.cells #[.string tX] 9) := ⟨_, rfl⟩
  have b3 : Below w2.heap.size w2 w3 := by rw [hw3]; exact (Below.refl _ _).alloc (Nat.le_refl _) _
  have r3 : Hid (w3.heap[w2.heap.size]? = some (.cells #[.string tX] 9 (0, 0))) := hid (by rw [hw3]; exact heap_alloc_new _ _)
  have HW3 := hid hw3
  have T3 := hid (T2.out.below b3)
  have B3 := hid (B2.out.trans (b3.mono B2.out.size))
  have R3 := hid ((b3.block P (lt_of_block R2.out)).trans R2.out)
  unfold tX at HW3
  clear hw3 b3 T2 B2 R2
  go_wp2_with fail
  rw [← HW3.out]
  have hsO := strs_one r3.out
  refine (iput_any tb mb 0 (.map []) exI (.slice (some ⟨w2.heap.size, 0, none⟩) 1 1) (.slice none 0 0) w3 T3.out (by unfold maxLen; omega) ⟨hsO, Rfs.nil _⟩ ⟨hsO, by decide, by decide⟩ (by unfold I64; decide) (by unfold I64; decide) (by decide) (by decide)).mono ?_
  rintro e w4 ⟨rfl, hp⟩
  have hE : putE (.map []) exI = 0 := by
    unfold putE
    rw [exI_ok, if_pos rfl, if_pos (.inr (by decide))]
  rw [hE]
  rcases hp with ⟨h, -⟩ | ⟨-, u', v', hT4, hu4, hv4, hg4⟩
  · exact absurd hE h
  obtain ⟨ua, uc, rfl⟩ := own_shape hu4
  obtain ⟨va, vc, rfl⟩ := own_shape hv4
  obtain ⟨e0, he0⟩ : ∃ e0 : EnI, e0 = ⟨.bool true, exI, ua, exI.cmd.data.length, uc, va, exI.deps.length, vc⟩ := ⟨_, rfl⟩
  have hx0 : Hid (e0.x = exI) := hid (by rw [he0])
  have HL : Hid (TL ((DataW.map []).put (refK exI.ref) (.held e0.v)) [e0]) := hid (by
    have := TL.nil.put e0 (by rw [hx0.out]; exact ⟨by unfold I64; decide, by unfold I64; decide⟩)
    rw [hx0.out] at this
    exact this)
  have T4 : Hid (Tb w4 tb mb 1 ((DataW.map []).put (refK exI.ref) (.held e0.v))) := hid (by rw [he0]; exact hT4)
  have B4 : Hid (Below w.heap.size w w4) := hid (B3.out.grown hg4 B3.out.size (fun k e => by cases e; have := HMB.out; omega))
  have R4 := hid ((hg4.block P (lt_of_block R3.out) (fun e => HP.out.2 (Option.some.inj e))).trans R3.out)
  clear hT4 hu4 hv4 hg4 he0 hE T3 B3 R3 r3 HW3 z0 z1 hsO
  generalize (DataW.map []).put (refK exI.ref) (.held e0.v) = D at *
  go_wp2_with fail
  refine (iorderL_any tb mb 1 D [e0] exC1 none 0 0 (1, 1) w4 T4.out HL.out (by simp)).mono ?_
  rintro e w5 ⟨m5, va5, vc5, rfl, hm5, hr5, ho5, hb5⟩
  rw [ex_or1 e0 hx0.out] at hm5
  rw [ex_or1 e0 hx0.out, show wrap64 (((1 : Int), [((0 : Int), (1 : Int))]).1 + 1) = 2 from wrap2]
  obtain rfl := rise_one hr5 hm5
  have T5 := hid (T4.out.below hb5)
  have B5 := hid (B4.out.trans (hb5.mono B4.out.size))
  have R5 := hid ((hb5.block P (lt_of_block R4.out)).trans R4.out)
  have hf5 := rfs_rvs ho5
  obtain ⟨g5, o5, rfl⟩ := hf5.addr (by simp)
  have F5 := hid hf5
  clear hm5 hr5 ho5 hb5 hf5 T4 B4 R4
  simp only [List.length_singleton] at F5
  rw [List.length_singleton]
  go_wp2_with fail
  refine (iorderL_any tb mb 1 D [e0] exC2 none 0 0 (1, 1) w5 T5.out HL.out (by simp)).mono ?_
  rintro e w6 ⟨m6, va6, vc6, rfl, hm6, hr6, ho6, hb6⟩
  rw [ex_or2 e0 hx0.out] at hm6
  rw [ex_or2 e0 hx0.out, show wrap64 (((0 : Int), ([] : List (Int × Int))).1 + 1) = 1 from wrap1]
  obtain rfl := rise_nil hm6
  have T6 := hid (T5.out.below hb6)
  have B6 := hid (B5.out.trans (hb6.mono B5.out.size))
  have R6 := hid ((hb6.block P (lt_of_block R5.out)).trans R5.out)
  have F6 := hid (F5.out.below hb6)
  clear hm6 hr6 ho6 hb6 T5 B5 R5 F5
  rw [List.length_nil]
  have SW : Hid (∀ X, Below w6.heap.size w6 X → X.cell? ⟨P, 0, none⟩ = some (.int .i64 0) ∧ X.cell? ⟨P, 1, none⟩ = some (.int .i64 1) ∧ X.cell? ⟨g5, o5, none⟩ = some (.int .i64 0) ∧ X.cell? ⟨g5, o5 + 1, none⟩ = some (.int .i64 1)) := hid fun X hX => by
    have h1 := (hX.block P (lt_of_block R6.out)).trans R6.out
    have h2 := Rfs.lit (l := [(0, 1)]) (F6.out.below hX) 0 (by simp)
    refine ⟨?_, ?_, ?_, ?_⟩
    · rw [cell_of_row _ _ _ _ _ _ h1]; rfl
    · rw [cell_of_row _ _ _ _ _ _ h1]; rfl
    · exact h2.1
    · exact h2.2
  go_upto_region 6 with fail
  refine wp_region_held_drew (S := fun X => X.cell? ⟨P, 0, none⟩ = some (.int .i64 0) ∧ X.cell? ⟨P, 1, none⟩ = some (.int .i64 1) ∧ X.cell? ⟨g5, o5, none⟩ = some (.int .i64 0) ∧ X.cell? ⟨g5, o5 + 1, none⟩ = some (.int .i64 1)) (by kernel_rfl) (SW.out _ ((Below.refl _ _).drew)) (fun hHeld => ?_)
  refine wpAnyH_take (i := 0) (v := ?av0) rfl (by kernel_rfl) (by kernel_rfl) (by kernel_rfl) (fun _ _ _ h => h) (Or.inl ⟨by rfl, ?ay0⟩) (by assumption) ?ar0
  case ay0 => (intro w hSw; (try dsimp only at hSw); go_simp; try with_reducible rfl)
  (try simp only [Act.put, List.setIfInBounds_toArray, List.set_cons_zero, List.set_cons_succ, List.getElem_toArray, List.getElem_cons_succ, List.getElem_cons_zero])
  refine wpAnyH_take (i := 1) (v := ?av1) rfl (by kernel_rfl) (by kernel_rfl) (by kernel_rfl) (fun _ _ _ h => h) (Or.inl ⟨by rfl, ?ay1⟩) (by assumption) ?ar1
  case ay1 => (intro w hSw; (try dsimp only at hSw); go_simp; try with_reducible rfl)
  (try simp only [Act.put, List.setIfInBounds_toArray, List.set_cons_zero, List.set_cons_succ, List.getElem_toArray, List.getElem_cons_succ, List.getElem_cons_zero])
  refine wpAnyH_take (i := 2) (v := ?av2) rfl (by kernel_rfl) (by kernel_rfl) (by kernel_rfl) (fun _ _ _ h => h) (Or.inl ⟨by rfl, ?ay2⟩) (by assumption) ?ar2
  case ay2 => (intro w hSw; (try dsimp only at hSw); go_simp; try with_reducible rfl)
  (try simp only [Act.put, List.setIfInBounds_toArray, List.set_cons_zero, List.set_cons_succ, List.getElem_toArray, List.getElem_cons_succ, List.getElem_cons_zero])
  refine wpAnyH_take (i := 3) (v := ?av3) rfl (by kernel_rfl) (by kernel_rfl) (by kernel_rfl) (fun _ _ _ h => h) (Or.inl ⟨by rfl, ?ay3⟩) (by assumption) ?ar3
  case ay3 => (intro w hSw; (try dsimp only at hSw); go_simp; try with_reducible rfl)
  (try simp only [Act.put, List.setIfInBounds_toArray, List.set_cons_zero, List.set_cons_succ, List.getElem_toArray, List.getElem_cons_succ, List.getElem_cons_zero])
  refine wpAnyH_take (i := 4) (v := ?av4) rfl (by kernel_rfl) (by kernel_rfl) (by kernel_rfl) (fun _ _ _ h => h) (Or.inl ⟨by rfl, ?ay4⟩) (by assumption) ?ar4
  case ay4 => (intro w hSw; (try dsimp only at hSw); go_simp; try with_reducible rfl)
  (try simp only [Act.put, List.setIfInBounds_toArray, List.set_cons_zero, List.set_cons_succ, List.getElem_toArray, List.getElem_cons_succ, List.getElem_cons_zero])
  refine wpAnyH_take (i := 5) (v := ?av5) rfl (by kernel_rfl) (by kernel_rfl) (by kernel_rfl) (fun _ _ _ h => h) (Or.inl ⟨by rfl, ?ay5⟩) (by assumption) ?ar5
  case ay5 => (intro w hSw; (try dsimp only at hSw); go_simp; try with_reducible rfl)
  (try simp only [Act.put, List.setIfInBounds_toArray, List.set_cons_zero, List.set_cons_succ, List.getElem_toArray, List.getElem_cons_succ, List.getElem_cons_zero])
  refine wpAnyH_take (i := 6) (v := ?av6) rfl (by kernel_rfl) (by kernel_rfl) (by kernel_rfl) (fun _ _ _ h => h) (Or.inl ⟨by rfl, ?ay6⟩) (by assumption) ?ar6
  case ay6 => (intro w hSw; (try dsimp only at hSw); go_simp; try with_reducible rfl)
  (try simp only [Act.put, List.setIfInBounds_toArray, List.set_cons_zero, List.set_cons_succ, List.getElem_toArray, List.getElem_cons_succ, List.getElem_cons_zero])
  refine wpAnyH_take (i := 7) (v := ?av7) rfl (by kernel_rfl) (by kernel_rfl) (by kernel_rfl) (fun _ _ _ h => h) (Or.inl ⟨by rfl, ?ay7⟩) (by assumption) ?ar7
  case ay7 => (intro w hSw; (try dsimp only at hSw); go_simp; try with_reducible rfl)
  (try simp only [Act.put, List.setIfInBounds_toArray, List.set_cons_zero, List.set_cons_succ, List.getElem_toArray, List.getElem_cons_succ, List.getElem_cons_zero])
  refine wpAnyH_take (i := 8) (v := ?av8) rfl (by kernel_rfl) (by kernel_rfl) (by kernel_rfl) (fun _ _ _ h => h) (Or.inl ⟨by rfl, ?ay8⟩) (by assumption) ?ar8
  case ay8 => (intro w hSw; (try dsimp only at hSw); go_simp; try with_reducible rfl)
  (try simp only [Act.put, List.setIfInBounds_toArray, List.set_cons_zero, List.set_cons_succ, List.getElem_toArray, List.getElem_cons_succ, List.getElem_cons_zero])
  refine wpAnyH_take (i := 9) (v := ?av9) rfl (by kernel_rfl) (by kernel_rfl) (by kernel_rfl) (fun _ _ _ h => h) (Or.inl ⟨by rfl, ?ay9⟩) (by assumption) ?ar9
  case ay9 => (intro w hSw; (try dsimp only at hSw); go_simp; try with_reducible rfl)
  (try simp only [Act.put, List.setIfInBounds_toArray, List.set_cons_zero, List.set_cons_succ, List.getElem_toArray, List.getElem_cons_succ, List.getElem_cons_zero])
  refine wpAnyH_take (i := 10) (v := ?av10) rfl (by kernel_rfl) (by kernel_rfl) (by kernel_rfl) (fun _ _ _ h => h) (Or.inl ⟨by rfl, ?ay10⟩) (by assumption) ?ar10
  case ay10 => (intro w hSw; (try dsimp only at hSw); go_simp; try with_reducible rfl)
  (try simp only [Act.put, List.setIfInBounds_toArray, List.set_cons_zero, List.set_cons_succ, List.getElem_toArray, List.getElem_cons_succ, List.getElem_cons_zero])
  refine wpAnyH_take (i := 11) (v := ?av11) rfl (by kernel_rfl) (by kernel_rfl) (by kernel_rfl) (fun _ _ _ h => h) (Or.inl ⟨by rfl, ?ay11⟩) (by assumption) ?ar11
  case ay11 => (intro w hSw; (try dsimp only at hSw); go_simp; try with_reducible rfl)
  (try simp only [Act.put, List.setIfInBounds_toArray, List.set_cons_zero, List.set_cons_succ, List.getElem_toArray, List.getElem_cons_succ, List.getElem_cons_zero])
  refine wpAnyH_take (i := 12) (v := ?av12) rfl (by kernel_rfl) (by kernel_rfl) (by kernel_rfl) (fun _ _ _ h => h) (Or.inl ⟨by rfl, ?ay12⟩) (by assumption) ?ar12
  case ay12 => (intro w hSw; (try dsimp only at hSw); go_simp; try with_reducible rfl)
  (try simp only [Act.put, List.setIfInBounds_toArray, List.set_cons_zero, List.set_cons_succ, List.getElem_toArray, List.getElem_cons_succ, List.getElem_cons_zero])
  refine wpAnyH_take (i := 13) (v := ?av13) rfl (by kernel_rfl) (by kernel_rfl) (by kernel_rfl) (fun _ _ _ h => h) (Or.inl ⟨by rfl, ?ay13⟩) (by assumption) ?ar13
  case ay13 => (intro w hSw; (try dsimp only at hSw); go_simp; try with_reducible rfl)
  (try simp only [Act.put, List.setIfInBounds_toArray, List.set_cons_zero, List.set_cons_succ, List.getElem_toArray, List.getElem_cons_succ, List.getElem_cons_zero])
  refine wpAnyH_take (i := 14) (v := ?av14) rfl (by kernel_rfl) (by kernel_rfl) (by kernel_rfl) (fun _ _ _ h => h) (Or.inl ⟨by rfl, ?ay14⟩) (by assumption) ?ar14
  case ay14 => (intro w hSw; (try dsimp only at hSw); go_simp; try with_reducible rfl)
  (try simp only [Act.put, List.setIfInBounds_toArray, List.set_cons_zero, List.set_cons_succ, List.getElem_toArray, List.getElem_cons_succ, List.getElem_cons_zero])
  refine wpAnyH_take (i := 15) (v := ?av15) rfl (by kernel_rfl) (by kernel_rfl) (by kernel_rfl) (fun _ _ _ h => h) (Or.inl ⟨by rfl, ?ay15⟩) (by assumption) ?ar15
  case ay15 => (intro w hSw; (try dsimp only at hSw); go_simp; try with_reducible rfl)
  (try simp only [Act.put, List.setIfInBounds_toArray, List.set_cons_zero, List.set_cons_succ, List.getElem_toArray, List.getElem_cons_succ, List.getElem_cons_zero])
  refine wpAnyH_take (i := 16) (v := ?av16) rfl (by kernel_rfl) (by kernel_rfl) (by kernel_rfl) (fun _ _ _ h => h) (Or.inl ⟨by rfl, ?ay16⟩) (by assumption) ?ar16
  case ay16 => (intro w hSw; (try dsimp only at hSw); go_simp; try with_reducible rfl)
  (try simp only [Act.put, List.setIfInBounds_toArray, List.set_cons_zero, List.set_cons_succ, List.getElem_toArray, List.getElem_cons_succ, List.getElem_cons_zero])
  refine wpAnyH_take (i := 17) (v := ?av17) rfl (by kernel_rfl) (by kernel_rfl) (by kernel_rfl) (fun _ _ _ h => h) (Or.inl ⟨by rfl, ?ay17⟩) (by assumption) ?ar17
  case ay17 => (intro w hSw; (try dsimp only at hSw); go_simp; try with_reducible rfl)
  (try simp only [Act.put, List.setIfInBounds_toArray, List.set_cons_zero, List.set_cons_succ, List.getElem_toArray, List.getElem_cons_succ, List.getElem_cons_zero])
  refine wpAnyH_take (i := 18) (v := ?av18) rfl (by kernel_rfl) (by kernel_rfl) (by kernel_rfl) (fun _ _ _ h => h) (Or.inl ⟨by rfl, ?ay18⟩) (by assumption) ?ar18
  case ay18 => (intro w hSw; (try dsimp only at hSw); go_simp; try with_reducible rfl)
  (try simp only [Act.put, List.setIfInBounds_toArray, List.set_cons_zero, List.set_cons_succ, List.getElem_toArray, List.getElem_cons_succ, List.getElem_cons_zero])
  refine wpAnyH_take (i := 19) (v := ?av19) rfl (by kernel_rfl) (by kernel_rfl) (by kernel_rfl) (fun _ _ _ h => h) (Or.inl ⟨by rfl, ?ay19⟩) (by assumption) ?ar19
  case ay19 => (intro w hSw; (try dsimp only at hSw); go_simp; try with_reducible rfl)
  (try simp only [Act.put, List.setIfInBounds_toArray, List.set_cons_zero, List.set_cons_succ, List.getElem_toArray, List.getElem_cons_succ, List.getElem_cons_zero])
  refine wpAnyH_take (i := 20) (v := ?av20) rfl (by kernel_rfl) (by kernel_rfl) (by kernel_rfl) (fun _ _ _ h => h) (Or.inl ⟨by rfl, ?ay20⟩) (by assumption) ?ar20
  case ay20 => (intro w hSw; (try dsimp only at hSw); go_simp; try with_reducible rfl)
  (try simp only [Act.put, List.setIfInBounds_toArray, List.set_cons_zero, List.set_cons_succ, List.getElem_toArray, List.getElem_cons_succ, List.getElem_cons_zero])
  refine wpAnyH_take (i := 21) (v := ?av21) rfl (by kernel_rfl) (by kernel_rfl) (by kernel_rfl) (fun _ _ _ h => h) (Or.inl ⟨by rfl, ?ay21⟩) (by assumption) ?ar21
  case ay21 => (intro w hSw; (try dsimp only at hSw); go_simp; try with_reducible rfl)
  (try simp only [Act.put, List.setIfInBounds_toArray, List.set_cons_zero, List.set_cons_succ, List.getElem_toArray, List.getElem_cons_succ, List.getElem_cons_zero])
  refine wpAnyH_take (i := 22) (v := ?av22) rfl (by kernel_rfl) (by kernel_rfl) (by kernel_rfl) (fun _ _ _ h => h) (Or.inl ⟨by rfl, ?ay22⟩) (by assumption) ?ar22
  case ay22 => (intro w hSw; (try dsimp only at hSw); go_simp; try with_reducible rfl)
  (try simp only [Act.put, List.setIfInBounds_toArray, List.set_cons_zero, List.set_cons_succ, List.getElem_toArray, List.getElem_cons_succ, List.getElem_cons_zero])
  refine wpAnyH_take (i := 23) (v := ?av23) rfl (by kernel_rfl) (by kernel_rfl) (by kernel_rfl) (fun _ _ _ h => h) (Or.inl ⟨by rfl, ?ay23⟩) (by assumption) ?ar23
  case ay23 => (intro w hSw; (try dsimp only at hSw); go_simp; try with_reducible rfl)
  (try simp only [Act.put, List.setIfInBounds_toArray, List.set_cons_zero, List.set_cons_succ, List.getElem_toArray, List.getElem_cons_succ, List.getElem_cons_zero])
  refine wpAnyH_take (i := 24) (v := ?av24) rfl (by kernel_rfl) (by kernel_rfl) (by kernel_rfl) (fun _ _ _ h => h) (Or.inl ⟨by rfl, ?ay24⟩) (by assumption) ?ar24
  case ay24 => (intro w hSw; (try dsimp only at hSw); go_simp; try with_reducible rfl)
  (try simp only [Act.put, List.setIfInBounds_toArray, List.set_cons_zero, List.set_cons_succ, List.getElem_toArray, List.getElem_cons_succ, List.getElem_cons_zero])
  refine wpAnyH_take (i := 25) (v := ?av25) rfl (by kernel_rfl) (by kernel_rfl) (by kernel_rfl) (fun _ _ _ h => h) (Or.inl ⟨by rfl, ?ay25⟩) (by assumption) ?ar25
  case ay25 => (intro w hSw; (try dsimp only at hSw); go_simp; try with_reducible rfl)
  (try simp only [Act.put, List.setIfInBounds_toArray, List.set_cons_zero, List.set_cons_succ, List.getElem_toArray, List.getElem_cons_succ, List.getElem_cons_zero])
  refine wpAnyH_take (i := 26) (v := ?av26) rfl (by kernel_rfl) (by kernel_rfl) (by kernel_rfl) (fun _ _ _ h => h) (Or.inl ⟨by rfl, ?ay26⟩) (by assumption) ?ar26
  case ay26 => (intro w hSw; (try dsimp only at hSw); go_simp; try with_reducible rfl)
  (try simp only [Act.put, List.setIfInBounds_toArray, List.set_cons_zero, List.set_cons_succ, List.getElem_toArray, List.getElem_cons_succ, List.getElem_cons_zero])
  refine wpAnyH_take (i := 27) (v := ?av27) rfl (by kernel_rfl) (by kernel_rfl) (by kernel_rfl) (fun _ _ _ h => h) (Or.inl ⟨by rfl, ?ay27⟩) (by assumption) ?ar27
  case ay27 => (intro w hSw; (try dsimp only at hSw); go_simp; try with_reducible rfl)
  (try simp only [Act.put, List.setIfInBounds_toArray, List.set_cons_zero, List.set_cons_succ, List.getElem_toArray, List.getElem_cons_succ, List.getElem_cons_zero])
  refine wpAnyH_take (i := 28) (v := ?av28) rfl (by kernel_rfl) (by kernel_rfl) (by kernel_rfl) (fun _ _ _ h => h) (Or.inl ⟨by rfl, ?ay28⟩) (by assumption) ?ar28
  case ay28 => (intro w hSw; (try dsimp only at hSw); go_simp; try with_reducible rfl)
  (try simp only [Act.put, List.setIfInBounds_toArray, List.set_cons_zero, List.set_cons_succ, List.getElem_toArray, List.getElem_cons_succ, List.getElem_cons_zero])
  refine wpAnyH_ready (rs := [29]) (by kernel_rfl) (by simp) ?_
  refine AllReadyH.cons rfl (fun K hK => ?_) AllReadyH.nil
  rw [if_pos (by rfl)]
  go_wp2_with fail
  refine (inextL_any tb mb 1 D [e0] 0 _ (T6.out.below ((Below.refl _ _).drew)) HL.out).mono ?_
  rintro e w7 ⟨rfl, hb7⟩
  rw [ex_nx e0 hx0.out, wrap2]
  have B7 : Hid (Below w6.heap.size w6 w7) := hid (((Below.refl _ _).drew).trans hb7)
  clear hb7
  refine hK.out _ _ (SW.out _ B7.out) (fun hHeld => ?_)
  try clear hK K
  (try simp only [Act.put, List.setIfInBounds_toArray, List.set_cons_zero, List.set_cons_succ, List.getElem_toArray, List.getElem_cons_succ, List.getElem_cons_zero])
  refine wpAnyH_take (i := 30) (v := ?av30) rfl (by kernel_rfl) (by kernel_rfl) (by kernel_rfl) (fun _ _ _ h => h) (Or.inl ⟨by rfl, ?ay30⟩) (by assumption) ?ar30
  case ay30 => (intro w hSw; (try dsimp only at hSw); go_simp; try with_reducible rfl)
  (try simp only [Act.put, List.setIfInBounds_toArray, List.set_cons_zero, List.set_cons_succ, List.getElem_toArray, List.getElem_cons_succ, List.getElem_cons_zero])
  refine wpAnyH_take (i := 31) (v := ?av31) rfl (by kernel_rfl) (by kernel_rfl) (by kernel_rfl) (fun _ _ _ h => h) (Or.inl ⟨by rfl, ?ay31⟩) (by assumption) ?ar31
  case ay31 => (intro w hSw; (try dsimp only at hSw); go_simp; try with_reducible rfl)
  (try simp only [Act.put, List.setIfInBounds_toArray, List.set_cons_zero, List.set_cons_succ, List.getElem_toArray, List.getElem_cons_succ, List.getElem_cons_zero])
  refine wpAnyH_take (i := 32) (v := ?av32) rfl (by kernel_rfl) (by kernel_rfl) (by kernel_rfl) (fun _ _ _ h => h) (Or.inl ⟨by rfl, ?ay32⟩) (by assumption) ?ar32
  case ay32 => (intro w hSw; (try dsimp only at hSw); go_simp; try with_reducible rfl)
  (try simp only [Act.put, List.setIfInBounds_toArray, List.set_cons_zero, List.set_cons_succ, List.getElem_toArray, List.getElem_cons_succ, List.getElem_cons_zero])
  refine wpAnyH_done (by kernel_rfl) ?_ _
  go_wp2_with fail
  go_ret
  exact ⟨rfl, B6.out.trans (B7.out.mono B6.out.size)⟩
end Go.Proofs.YthhcpoafnmhnhaaGreat
