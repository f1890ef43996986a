/- For any span and any commands (the first 30): a store's bytes are the document's, and are read as the same. -/
import Derived.Test.YtabmnelenfghhaaBkPlay
import Derived.Test.YtabmnelenfghhaaBkAlike
import Derived.Test.YtabmnelenfghhaaBkSmall
import Derived.Test.YtabmnelenfghhaaBkSameS
import Derived.Test.YtabmnelenfghhaaBkDecF
import Derived.Test.YtabmnelenfghhaaBkRCode
namespace Go.Proofs.Ytabmnelenfghhaa
open Go.RowKit
set_option linter.unusedVariables false
set_option linter.unusedSimpArgs false

set_option maxRecDepth 100000 in
set_option maxHeartbeats 3200000 in
theorem codes_any (x : Sp) (v : Value) (l : List (CmdD × Value)) (w : World) (hl : Cmds w v l) (hz : ∀ y ∈ l, CmdJ y.1) :
    Calls Try.prog 4 #[.agg #[.int .i64 x.1, .int .i64 x.2], v] w fun e w' => e = .returned (.bool true) ∧ Below w.heap.size w w' := by
  obtain ⟨va, vc, rfl⟩ := hl.shape
  obtain ⟨f, t⟩ := x
  have HC := hid hl
  have HZ := hid hz
  clear hl hz
  obtain ⟨w1, hw1⟩ : ∃ w1, w1 = w.alloc (.cells #[.int .i64 f, .int .i64 t] 42) := ⟨_, rfl⟩
  have hb1 : Below w.heap.size w w1 := by rw [hw1]; exact (Below.refl _ _).alloc (Nat.le_refl _) _
  have hA : w1.heap[w.heap.size]? = some (.cells #[.int .i64 f, .int .i64 t] 42 (0, 0)) := by rw [hw1]; exact heap_alloc_new _ _
  have HW1 := hid hw1
  have B1 := hid hb1
  clear hw1 hb1
  go_enter Try.func4, Try.ntmps4
  go_upto_region 1 with fail
  rw [← HW1.out]
  obtain ⟨A, hAe⟩ : ∃ A, A = w.heap.size := ⟨_, rfl⟩
  rw [← hAe] at hA
  rw [← hAe]
  clear hAe HW1
  have x0 : w1.cell? ⟨A, 0, none⟩ = some (.int .i64 f) := by rw [cell_of_row _ _ _ _ _ _ hA]; rfl
  have x1 : w1.cell? ⟨A, 1, none⟩ = some (.int .i64 t) := by rw [cell_of_row _ _ _ _ _ _ hA]; rfl
  clear hA
  go_wp2_with fail
  refine (small_any (f, t) _).mono ?_
  rintro e w2 ⟨⟨p, q⟩, rfl, hm, hb2⟩
  have B2 := hid (B1.out.trans (hb2.mono B1.out.size))
  have HM := hid hm
  clear hb2 hm x0 x1
  go_wp2_with fail
  refine (play_any (p, q) _ l 30 w2 HM.out (HC.out.below B2.out) HZ.out).mono ?_
  rintro e w3 ⟨b, g, base, X, vt, vm, ks, S, rfl, -, -, -, -, -, -, hps⟩
  have PS3 := hid hps
  have B3 := hid (B2.out.trans (hps.bel.mono B2.out.size))
  clear hps
  go_wp2_with fail
  refine (encode_any b g S w3 PS3.out.st PS3.out.ok).mono ?_
  rintro e w4 ⟨va4, vc4, rfl, ho4, hb4⟩
  have O4 := hid ho4.bts
  have P4 := hid (PS3.out.later hb4)
  have B4 := hid (B3.out.trans (hb4.mono B3.out.size))
  clear hb4 ho4
  have HDE := hid (dec_enc S PS3.out.st.i PS3.out.ok)
  have hLl : (codeB S).length ≤ 2000000 := by
    have h1 := flat_lenM cellB S.cells 5000 fun c hc => cellB_len (PS3.out.ok c hc)
    have h2 := headB_len PS3.out.st.i
    have h3 := PS3.out.st.i.n
    have h4 := PS3.out.st.i.f
    have h5 := PS3.out.st.i.t
    unfold codeB
    rw [List.length_append]
    omega
  clear PS3
  obtain ⟨L, hL⟩ : ∃ L, L = codeB S := ⟨_, rfl⟩
  rw [← hL] at O4 HDE hLl ⊢
  have HL := hid hL
  clear hL
  go_wp2_with fail
  refine (decode_any _ L _ O4.out (by omega)).mono ?_
  rintro e w5 (⟨h0, -⟩ | ⟨-, b', g', rfl, -, -, hst5, hb5⟩)
  · rw [HDE.out.1] at h0; cases h0
  rw [HDE.out.2] at hst5
  have T5 := hid hst5
  have O5 := hid (O4.out.below hb5)
  have P5 := hid (P4.out.later hb5)
  have B5 := hid (B4.out.trans (hb5.mono B4.out.size))
  clear hst5 hb5 O4 P4 B4
  go_upto_region 6 with fail
  have SW : Hid (∀ Y, Below w5.heap.size w5 Y → (convert 25 9 (.slice va4 L.length vc4)).run Try.prog Y = .ok (.string ⟨L.toArray⟩) Y) := hid fun Y hY => conv_string _ _ _ (O5.out.below hY)
  refine wp_region_held_drew (S := fun Y => (convert 25 9 (.slice va4 L.length vc4)).run Try.prog Y = .ok (.string ⟨L.toArray⟩) Y) (by kernel_rfl) (SW.out _ ((Below.refl _ _).drew)) (fun hHeld => ?_)
  refine wpAnyH_take (i := 0) (v := ?pv0) rfl (by kernel_rfl) (by kernel_rfl) (by kernel_rfl) (fun _ _ _ h => h) (Or.inl ⟨by rfl, ?py0⟩) (by assumption) ?pr0
  case py0 => (intro w hSw; (try dsimp only at hSw); go_simp; try with_reducible rfl)
  (try simp only [Act.put, List.setIfInBounds_toArray, List.set_cons_zero, List.set_cons_succ, List.getElem_toArray, List.getElem_cons_succ, List.getElem_cons_zero])
  refine wpAnyH_take (i := 1) (v := ?pv1) rfl (by kernel_rfl) (by kernel_rfl) (by kernel_rfl) (fun _ _ _ h => h) (Or.inl ⟨by rfl, ?py1⟩) (by assumption) ?pr1
  case py1 => (intro w hSw; (try dsimp only at hSw); go_simp; try with_reducible rfl)
  (try simp only [Act.put, List.setIfInBounds_toArray, List.set_cons_zero, List.set_cons_succ, List.getElem_toArray, List.getElem_cons_succ, List.getElem_cons_zero])
  refine wpAnyH_take (i := 2) (v := ?pv2) rfl (by kernel_rfl) (by kernel_rfl) (by kernel_rfl) (fun _ _ _ h => h) (Or.inl ⟨by rfl, ?py2⟩) (by assumption) ?pr2
  case py2 => (intro w hSw; (try dsimp only at hSw); go_simp; try with_reducible rfl)
  (try simp only [Act.put, List.setIfInBounds_toArray, List.set_cons_zero, List.set_cons_succ, List.getElem_toArray, List.getElem_cons_succ, List.getElem_cons_zero])
  refine wpAnyH_ready (rs := [3]) (by kernel_rfl) (by simp) ?_
  refine AllReadyH.cons rfl (fun K hK => ?_) AllReadyH.nil
  rw [if_pos (by rfl)]
  go_wp2_with fail
  refine (rcode_any base X vt vm ks S _ (P5.out.rst.below ((Below.refl _ _).drew)) P5.out.st.i P5.out.ok).mono ?_
  rintro e w6 ⟨va6, vc6, rfl, ho6, hb6⟩
  have B56 := hid (((Below.refl w5.heap.size w5).drew).trans hb6)
  have c6 := conv_string _ _ _ ho6.bts
  rw [← HL.out] at c6 ⊢
  have C6 := hid c6
  clear ho6 hb6 c6
  refine hK.out _ _ (SW.out _ B56.out) (fun hHeld => ?_)
  try clear hK K
  (try simp only [Act.put, List.setIfInBounds_toArray, List.set_cons_zero, List.set_cons_succ, List.getElem_toArray, List.getElem_cons_succ, List.getElem_cons_zero])
  refine wpAnyH_ready (rs := [4]) (by kernel_rfl) (by simp) ?_
  refine AllReadyH.cons rfl (fun K hK => ?_) AllReadyH.nil
  rw [if_pos (by rfl)]
  have c6 := C6.out
  go_simp
  refine hK.out _ _ (SW.out _ B56.out) (fun hHeld => ?_)
  try clear hK K
  (try simp only [Act.put, List.setIfInBounds_toArray, List.set_cons_zero, List.set_cons_succ, List.getElem_toArray, List.getElem_cons_succ, List.getElem_cons_zero])
  refine wpAnyH_take (i := 5) (v := ?pv5) rfl (by kernel_rfl) (by kernel_rfl) (by kernel_rfl) (fun _ _ _ h => h) (Or.inl ⟨by rfl, ?py5⟩) (by assumption) ?pr5
  case py5 => (intro w hSw; (try dsimp only at hSw); go_simp; try with_reducible rfl)
  (try simp only [Act.put, List.setIfInBounds_toArray, List.set_cons_zero, List.set_cons_succ, List.getElem_toArray, List.getElem_cons_succ, List.getElem_cons_zero])
  refine wpAnyH_take (i := 6) (v := ?pv6) rfl (by kernel_rfl) (by kernel_rfl) (by kernel_rfl) (fun _ _ _ h => h) (Or.inl ⟨by rfl, ?py6⟩) (by assumption) ?pr6
  case py6 => (intro w hSw; (try dsimp only at hSw); go_simp; try with_reducible rfl)
  (try simp only [Act.put, List.setIfInBounds_toArray, List.set_cons_zero, List.set_cons_succ, List.getElem_toArray, List.getElem_cons_succ, List.getElem_cons_zero])
  refine wpAnyH_take (i := 7) (v := ?pv7) rfl (by kernel_rfl) (by kernel_rfl) (by kernel_rfl) (fun _ _ _ h => h) (Or.inl ⟨by rfl, ?py7⟩) (by assumption) ?pr7
  case py7 => (intro w hSw; (try dsimp only at hSw); go_simp; try with_reducible rfl)
  (try simp only [Act.put, List.setIfInBounds_toArray, List.set_cons_zero, List.set_cons_succ, List.getElem_toArray, List.getElem_cons_succ, List.getElem_cons_zero])
  refine wpAnyH_take (i := 8) (v := ?pv8) rfl (by kernel_rfl) (by kernel_rfl) (by kernel_rfl) (fun _ _ _ h => h) (Or.inl ⟨by rfl, ?py8⟩) (by assumption) ?pr8
  case py8 => (intro w hSw; (try dsimp only at hSw); go_simp; try with_reducible rfl)
  (try simp only [Act.put, List.setIfInBounds_toArray, List.set_cons_zero, List.set_cons_succ, List.getElem_toArray, List.getElem_cons_succ, List.getElem_cons_zero])
  refine wpAnyH_take (i := 9) (v := ?pv9) rfl (by kernel_rfl) (by kernel_rfl) (by kernel_rfl) (fun _ _ _ h => h) (Or.inl ⟨by rfl, ?py9⟩) (by assumption) ?pr9
  case py9 => (intro w hSw; (try dsimp only at hSw); go_simp; try with_reducible rfl)
  (try simp only [Act.put, List.setIfInBounds_toArray, List.set_cons_zero, List.set_cons_succ, List.getElem_toArray, List.getElem_cons_succ, List.getElem_cons_zero])
  refine wpAnyH_take (i := 10) (v := ?pv10) rfl (by kernel_rfl) (by kernel_rfl) (by kernel_rfl) (fun _ _ _ h => h) (Or.inl ⟨by rfl, ?py10⟩) (by assumption) ?pr10
  case py10 => (intro w hSw; (try dsimp only at hSw); go_simp; try with_reducible rfl)
  (try simp only [Act.put, List.setIfInBounds_toArray, List.set_cons_zero, List.set_cons_succ, List.getElem_toArray, List.getElem_cons_succ, List.getElem_cons_zero])
  refine wpAnyH_take (i := 11) (v := ?pv11) rfl (by kernel_rfl) (by kernel_rfl) (by kernel_rfl) (fun _ _ _ h => h) (Or.inl ⟨by rfl, ?py11⟩) (by assumption) ?pr11
  case py11 => (intro w hSw; (try dsimp only at hSw); go_simp; try with_reducible rfl)
  (try simp only [Act.put, List.setIfInBounds_toArray, List.set_cons_zero, List.set_cons_succ, List.getElem_toArray, List.getElem_cons_succ, List.getElem_cons_zero])
  refine wpAnyH_take (i := 12) (v := ?pv12) rfl (by kernel_rfl) (by kernel_rfl) (by kernel_rfl) (fun _ _ _ h => h) (Or.inl ⟨by rfl, ?py12⟩) (by assumption) ?pr12
  case py12 => (intro w hSw; (try dsimp only at hSw); go_simp; try with_reducible rfl)
  (try simp only [Act.put, List.setIfInBounds_toArray, List.set_cons_zero, List.set_cons_succ, List.getElem_toArray, List.getElem_cons_succ, List.getElem_cons_zero])
  refine wpAnyH_ready (rs := [13]) (by kernel_rfl) (by simp) ?_
  refine AllReadyH.cons rfl (fun K hK => ?_) AllReadyH.nil
  rw [if_pos (by rfl)]
  go_wp2_with fail
  refine (same_eq b g b' g' S _ (P5.out.st.below B56.out) (T5.out.below B56.out)).mono ?_
  rintro e w7 ⟨rfl, hb7⟩
  have B57 := hid (B56.out.trans (hb7.mono B56.out.size))
  clear hb7
  refine hK.out _ _ (SW.out _ B57.out) (fun hHeld => ?_)
  try clear hK K
  (try simp only [Act.put, List.setIfInBounds_toArray, List.set_cons_zero, List.set_cons_succ, List.getElem_toArray, List.getElem_cons_succ, List.getElem_cons_zero])
  refine wpAnyH_take (i := 14) (v := ?pv14) rfl (by kernel_rfl) (by kernel_rfl) (by kernel_rfl) (fun _ _ _ h => h) (Or.inl ⟨by rfl, ?py14⟩) (by assumption) ?pr14
  case py14 => (intro w hSw; (try dsimp only at hSw); go_simp; try with_reducible rfl)
  (try simp only [Act.put, List.setIfInBounds_toArray, List.set_cons_zero, List.set_cons_succ, List.getElem_toArray, List.getElem_cons_succ, List.getElem_cons_zero])
  refine wpAnyH_take (i := 15) (v := ?pv15) rfl (by kernel_rfl) (by kernel_rfl) (by kernel_rfl) (fun _ _ _ h => h) (Or.inl ⟨by rfl, ?py15⟩) (by assumption) ?pr15
  case py15 => (intro w hSw; (try dsimp only at hSw); go_simp; try with_reducible rfl)
  (try simp only [Act.put, List.setIfInBounds_toArray, List.set_cons_zero, List.set_cons_succ, List.getElem_toArray, List.getElem_cons_succ, List.getElem_cons_zero])
  refine wpAnyH_take (i := 16) (v := ?pv16) rfl (by kernel_rfl) (by kernel_rfl) (by kernel_rfl) (fun _ _ _ h => h) (Or.inl ⟨by rfl, ?py16⟩) (by assumption) ?pr16
  case py16 => (intro w hSw; (try dsimp only at hSw); go_simp; try with_reducible rfl)
  (try simp only [Act.put, List.setIfInBounds_toArray, List.set_cons_zero, List.set_cons_succ, List.getElem_toArray, List.getElem_cons_succ, List.getElem_cons_zero])
  refine wpAnyH_take (i := 17) (v := ?pv17) rfl (by kernel_rfl) (by kernel_rfl) (by kernel_rfl) (fun _ _ _ h => h) (Or.inl ⟨by rfl, ?py17⟩) (by assumption) ?pr17
  case py17 => (intro w hSw; (try dsimp only at hSw); go_simp; try with_reducible rfl)
  (try simp only [Act.put, List.setIfInBounds_toArray, List.set_cons_zero, List.set_cons_succ, List.getElem_toArray, List.getElem_cons_succ, List.getElem_cons_zero])
  refine wpAnyH_ready (rs := [18]) (by kernel_rfl) (by simp) ?_
  refine AllReadyH.cons rfl (fun K hK => ?_) AllReadyH.nil
  rw [if_pos (by rfl)]
  go_wp2_with fail
  refine (alike_any b' g' base X vt vm ks S _ (T5.out.below B57.out) (P5.out.rst.below B57.out)).mono ?_
  rintro e w8 ⟨rfl, hb8⟩
  have B58 := hid (B57.out.trans (hb8.mono B57.out.size))
  clear hb8
  refine hK.out _ _ (SW.out _ B58.out) (fun hHeld => ?_)
  try clear hK K
  (try simp only [Act.put, List.setIfInBounds_toArray, List.set_cons_zero, List.set_cons_succ, List.getElem_toArray, List.getElem_cons_succ, List.getElem_cons_zero])
  refine wpAnyH_take (i := 19) (v := ?pv19) rfl (by kernel_rfl) (by kernel_rfl) (by kernel_rfl) (fun _ _ _ h => h) (Or.inl ⟨by rfl, ?py19⟩) (by assumption) ?pr19
  case py19 => (intro w hSw; (try dsimp only at hSw); go_simp; try with_reducible rfl)
  (try simp only [Act.put, List.setIfInBounds_toArray, List.set_cons_zero, List.set_cons_succ, List.getElem_toArray, List.getElem_cons_succ, List.getElem_cons_zero])
  refine wpAnyH_take (i := 20) (v := ?pv20) rfl (by kernel_rfl) (by kernel_rfl) (by kernel_rfl) (fun _ _ _ h => h) (Or.inl ⟨by rfl, ?py20⟩) (by assumption) ?pr20
  case py20 => (intro w hSw; (try dsimp only at hSw); go_simp; try with_reducible rfl)
  (try simp only [Act.put, List.setIfInBounds_toArray, List.set_cons_zero, List.set_cons_succ, List.getElem_toArray, List.getElem_cons_succ, List.getElem_cons_zero])
  refine wpAnyH_ready (rs := [21]) (by kernel_rfl) (by simp) ?_
  refine AllReadyH.cons rfl (fun K hK => ?_) AllReadyH.nil
  rw [if_pos (by rfl)]
  go_wp2_with fail
  refine (lives_any _).mono ?_
  rintro e w9 ⟨rfl, hb9⟩
  have B59 := hid (B58.out.trans (hb9.mono B58.out.size))
  clear hb9
  refine hK.out _ _ (SW.out _ B59.out) (fun hHeld => ?_)
  try clear hK K
  (try simp only [Act.put, List.setIfInBounds_toArray, List.set_cons_zero, List.set_cons_succ, List.getElem_toArray, List.getElem_cons_succ, List.getElem_cons_zero])
  refine wpAnyH_take (i := 22) (v := ?pv22) rfl (by kernel_rfl) (by kernel_rfl) (by kernel_rfl) (fun _ _ _ h => h) (Or.inl ⟨by rfl, ?py22⟩) (by assumption) ?pr22
  case py22 => (intro w hSw; (try dsimp only at hSw); go_simp; try with_reducible rfl)
  (try simp only [Act.put, List.setIfInBounds_toArray, List.set_cons_zero, List.set_cons_succ, List.getElem_toArray, List.getElem_cons_succ, List.getElem_cons_zero])
  refine wpAnyH_take (i := 23) (v := ?pv23) rfl (by kernel_rfl) (by kernel_rfl) (by kernel_rfl) (fun _ _ _ h => h) (Or.inl ⟨by rfl, ?py23⟩) (by assumption) ?pr23
  case py23 => (intro w hSw; (try dsimp only at hSw); go_simp; try with_reducible rfl)
  (try simp only [Act.put, List.setIfInBounds_toArray, List.set_cons_zero, List.set_cons_succ, List.getElem_toArray, List.getElem_cons_succ, List.getElem_cons_zero])
  refine wpAnyH_done (by kernel_rfl) ?_ _
  go_wp2_with fail
  go_ret
  exact ⟨rfl, B5.out.trans (B59.out.mono B5.out.size)⟩
end Go.Proofs.Ytabmnelenfghhaa
