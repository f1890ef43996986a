/- AtApplyR AtRApp AtStep AtDo AtOf: joined. No condition. -/
import Derived.Test.YtnkjkaofgninnaaAtApply
import Derived.Test.YtnkjkaofgninnaaAtRepl
import Derived.Test.YtnkjkaofgninnaaAtAt
import Derived.Test.YtnkjkaofgninnaaAtRefuse
import Derived.Test.YtnkjkaofgninnaaAtRRef
import Derived.Test.YtnkjkaofgninnaaAtRTailS
import Derived.Test.YtnkjkaofgninnaaAtRTailM
import Derived.Test.YtnkjkaofgninnaaAtRTailR
import Derived.Test.YtnkjkaofgninnaaAtChJ
namespace Go.Proofs.Ytnkjkaofgninnaa
open Go.RowKit Go.Maps Go.Shelf
set_option linter.unusedVariables false
set_option linter.unusedSimpArgs false

set_option maxRecDepth 100000 in
set_option maxHeartbeats 8000000 in
theorem apply_rep (b wb mb n : Nat) (ov : Value) (D : DataW Value) (N : AtN) (X P Q G : List SX) (S : ShD) (mv pv : Value) (c : ChD) (w : World) (h : At w b wb mb n ov D N X) (hk : akB c.k = true) (hnm : namD c = c) (hk3 : c.k = 3) (ho : N.op = []) (hGe : G = [⟨S, mv, pv⟩]) (hGX : ∀ z ∈ G, z ∈ X) (hxi : S.id = c.sh) (hd : ∀ y ∈ X, y.s.id = S.id → y = ⟨S, mv, pv⟩) (ml : List Int) (hml : ml = swD S.mem c.out c.in') (hmm : memB S.mem = true) (hfit : swB S.mem c.out c.in' = true)
    (hXI : ∀ x ∈ X, I64 x.s.id) (hn : n ≤ 100000) (hnx : 0 ≤ N.nx ∧ N.nx ≤ 1073741824) (hep : 0 ≤ N.ep ∧ N.ep ≤ 1073741824) (hlt : ∀ x ∈ X, x.s.id < N.nx) (hxl : X.length ≤ 100000) (hsi : ∀ s ∈ spD c S.fr S.to, -9223372036854775808 ≤ s.1 ∧ s.2 ≤ 9223372036854775807) (hsI : I64 c.sh) (hoI : I64 c.ot) (hmb : S.mem.length ≤ 1000000)
    (hcan : ∀ mv' pv' W', Can W' → Chs (X.map SX.pc) ((nwX N.nx ml (G.map fun x => x.or.o) mv' pv' (spD c S.fr S.to)).map SX.pc) W' → W' = (P ++ nwX N.nx ml (G.map fun x => x.or.o) mv' pv' (spD c S.fr S.to) ++ Q).map SX.pc) (hout : ∀ z, z ∈ outX X (G.map (·.s.id)) ↔ z ∈ P ++ Q) :
    Calls Try.prog 7 #[.pointer (some ⟨b, 0, none⟩), chV c] w (ApK b wb mb n N P G Q (spD c S.fr S.to) ml w) := by
  have hk2 : c.k ≠ 2 := by omega
  have hk5 : c.k ≠ 5 := by omega
  have HO := hid ho
  have HGX : Hid (∀ z ∈ G, z ∈ X) := hid hGX
  have HG2 : Hid (G.length ≤ 2) := hid (by rw [hGe]; simp)
  have HXI := hid hXI
  have HN9 := hid hn
  have HNX := hid hnx
  have HEP := hid hep
  have HLT := hid hlt
  have HXL := hid hxl
  have HSI := hid hsi
  have HCAN := hid hcan
  have HOUT := hid hout
  have HSH := hid hsI
  have HOT := hid hoI
  have HMB := hid hmb
  have g5 : (c.k == 5) = false := by simpa using hk5
  obtain ⟨⟨ma, mc, rfl⟩, ⟨pa, pc, rfl⟩⟩ := (show ShM w S mv pv from h.m.mem ⟨S, mv, pv⟩ (hGX _ (by rw [hGe]; simp))).shape
  have HGN := hid (fun W (hW : AtM W b wb mb n ov D N (X.map SX.pc) X) => gone_one b wb mb n ov D N (X.map SX.pc) X c ⟨S, .slice ma S.mem.length mc, .slice pa S.past.length pc⟩ W hW ho hsI hoI hk2 (hGX _ (by rw [hGe]; simp)) hxi hd)
  have HFT := hid (fun W v (hW : ShR W v G) => (fits_rep c S _ _ v W hk3 (by rw [hGe] at hW; exact hW)).mono (fun e w' ⟨he, hb⟩ => show e = Ending.returned (.bool true) ∧ Below W.heap.size W w' from ⟨by rw [he, hfit], hb⟩))
  have HSPN := hid (fun W v (hW : ShR W v G) => spans_one c S _ _ v W (by rw [hGe] at hW; exact hW))
  have HMEM := hid (fun W v (hW : ShR W v G) => (members_rep c S _ _ W hk3 (show ShM W S (.slice ma S.mem.length mc) (.slice pa S.past.length pc) from hW.m ⟨S, .slice ma S.mem.length mc, .slice pa S.past.length pc⟩ (by rw [hGe]; simp)) hmm hfit).mono (fun e w' => by rw [← hml]; exact id))
  have HSP1 : Hid (1 ≤ (spD c S.fr S.to).length) := hid (by unfold spD; split <;> simp)
  have HSP2 : Hid ((spD c S.fr S.to).length ≤ 2) := hid (by unfold spD; split <;> simp)
  have HGE := hid hGe
  generalize spD c S.fr S.to = sp at *
  have HRG : Hid (∀ W g n vc, ShR W (.slice (some ⟨g, 0, none⟩) n vc) G → W.rangeAt g 0 [.int .i64 S.id, .int .i64 S.fr, .int .i64 S.to, .slice ma S.mem.length mc, .slice pa S.past.length pc]) := hid (by rw [hGe]; intro W g n vc hW; exact hW.range 0 (by simp))
  clear ho hGX hXI hn hnx hep hlt hxl hsi hcan hout hk3 hk2 hk5 hsI hoI hmb hfit hd hxi hGe hml hmm
  obtain ⟨va, vc, rfl⟩ := h.m.shape
  obtain ⟨dC, hdC1, hdC2⟩ := Try.rowCh
  obtain ⟨w1, hw1⟩ : ∃ w1, w1 = w.alloc (.cells (chC c) 24) := ⟨_, rfl⟩
  have HB1 : Hid (Below w.heap.size w w1) := hid (by rw [hw1]; exact (Below.refl _ _).alloc (Nat.le_refl _) _)
  have HC1 : Hid (w1.heap[w.heap.size]? = some (.cells (chC c) 24 (0, 0))) := hid (by rw [hw1]; exact heap_alloc_new _ _)
  have H := hid h
  have HAK := hid hk
  have HNM := hid hnm
  have HW1 := hid hw1
  clear h hk hnm hw1
  unfold chC at HW1
  unfold chV
  go_enter Try.func7, Try.ntmps7
  go_upto_region 1 with fail
  rw [← HW1.out]
  clear HW1
  obtain ⟨C, hCe⟩ : ∃ C, C = w.heap.size := ⟨_, rfl⟩
  rw [← hCe]
  rw [← hCe] at HC1
  have HCE : Hid (w.heap.size ≤ C) := hid (by omega)
  clear hCe
  go_upto_region 3 with fail
  have SW : Hid (∀ Y, Below w1.heap.size w1 Y → Y.cell? ⟨C, 0, none⟩ = some (.int .i64 c.k) ∧ Y.rangeAt C 0 (chC c).toList) := hid fun Y hY => by
    have h1 := (hY.block C (lt_of_block HC1.out)).trans HC1.out
    exact ⟨by rw [cell_of_row _ _ _ _ _ _ h1]; rfl, range_of_row h1 0 _ fun j v hv => by rw [Nat.zero_add]; simpa using hv⟩
  refine wp_region_held_drew (S := fun Y => Y.cell? ⟨C, 0, none⟩ = some (.int .i64 c.k) ∧ Y.rangeAt C 0 (chC c).toList) (by kernel_rfl) (SW.out _ ((Below.refl _ _).drew)) (fun hHeld => ?_)
  refine wpAnyH_take (i := 0) (v := ?av0) rfl (by kernel_rfl) (by kernel_rfl) (by kernel_rfl) (fun _ _ _ h => h) (Or.inl ⟨by rfl, ?ay0⟩) (by assumption) ?ar0
  case ay0 => (intro w hSw; (try dsimp only at hSw); go_simp; try with_reducible rfl)
  (try simp only [Act.put, putS])
  refine wpAnyH_take (i := 1) (v := ?av1) rfl (by kernel_rfl) (by kernel_rfl) (by kernel_rfl) (fun _ _ _ h => h) (Or.inl ⟨by rfl, ?ay1⟩) (by assumption) ?ar1
  case ay1 => (intro w hSw; (try dsimp only at hSw); go_simp; try with_reducible rfl)
  (try simp only [Act.put, putS])
  refine wpAnyH_ready (rs := [2]) (by kernel_rfl) (by simp) ?_
  refine AllReadyH.cons rfl (fun K hK => ?_) AllReadyH.nil
  rw [if_pos (by rfl)]
  go_wp2_with fail
  refine (isKind_any c.k _).mono ?_
  rw [HAK.out]
  rintro e wx ⟨rfl, hx⟩
  replace hx := hx.symm
  subst hx
  refine hK.out _ _ (SW.out _ ((Below.refl _ _).drew)) (fun hHeld => ?_)
  try clear hK K
  (try simp only [Act.put, putS])
  refine wpAnyH_take (i := 3) (v := ?av3) rfl (by kernel_rfl) (by kernel_rfl) (by kernel_rfl) (fun _ _ _ h => h) (Or.inl ⟨by rfl, ?ay3⟩) (by assumption) ?ar3
  case ay3 => (intro w hSw; (try dsimp only at hSw); go_simp; try with_reducible rfl)
  (try simp only [Act.put, putS])
  refine wpAnyH_take (i := 4) (v := ?av4) rfl (by kernel_rfl) (by kernel_rfl) (by kernel_rfl) (fun _ _ _ h => h) (Or.inl ⟨by rfl, ?ay4⟩) (by assumption) ?ar4
  case ay4 => (intro w hSw; (try dsimp only at hSw); go_simp; try with_reducible rfl)
  (try simp only [Act.put, putS])
  refine wpAnyH_take (i := 5) (v := .agg (chC c).toList.toArray) rfl (by kernel_rfl) (by kernel_rfl) (by kernel_rfl) (fun _ _ _ h => h) (yieldsIf_load_mid rfl _ _ rfl C 0 rfl (chC c).toList dC (fun Y hY => hY.2) hdC1 hdC2 Try.sizeCh) (by assumption) ?_
  (try simp only [Act.put, putS])
  refine wpAnyH_take (i := 6) (v := .agg (chC c).toList.toArray) rfl (by kernel_rfl) (by kernel_rfl) (by kernel_rfl) (fun _ _ _ h => h) (yieldsIf_load_mid rfl _ _ rfl C 0 rfl (chC c).toList dC (fun Y hY => hY.2) hdC1 hdC2 Try.sizeCh) (by assumption) ?_
  (try simp only [Act.put, putS])
  refine wpAnyH_ready (rs := [7]) (by kernel_rfl) (by simp) ?_
  refine AllReadyH.cons rfl (fun K hK => ?_) AllReadyH.nil
  rw [if_pos (by rfl)]
  go_wp2_with fail
  refine (named_any c _).mono ?_
  rw [HNM.out]
  rintro e w2 ⟨rfl, hb2⟩
  have B12 := hid (((Below.refl w1.heap.size w1).drew).trans hb2)
  clear hb2
  refine hK.out _ _ (SW.out _ B12.out) (fun hHeld => ?_)
  try clear hK K
  (try simp only [Act.put, putS])
  refine wpAnyH_take (i := 8) (v := .bool false) rfl (by kernel_rfl) (by kernel_rfl) (by kernel_rfl) (fun _ _ _ h => h) (Or.inl ⟨by rfl, ?ne8⟩) (by assumption) ?nr8
  case ne8 =>
    intro Y hY
    exact exec_bin rfl rfl rfl (run_eqGuard_agg _ _ _ _ _ _ _ Try.eqgCh) ((run_neq_ch c.k c.sh c.ot c.at' c.out c.in' c.k c.sh c.ot c.at' c.out c.in' Y).trans (by simp))
  (try simp only [Act.put, putS])
  refine wpAnyH_take (i := 9) (v := ?dv9) rfl (by kernel_rfl) (by kernel_rfl) (by kernel_rfl) (fun _ _ _ h => h) (Or.inl ⟨by rfl, ?dy9⟩) (by assumption) ?dr9
  case dy9 => (intro w hSw; (try dsimp only at hSw); go_simp; try with_reducible rfl)
  (try simp only [Act.put, putS])
  refine wpAnyH_done (by kernel_rfl) ?_ _
  have H2 := hid (H.out.below (HB1.out.trans (B12.out.mono HB1.out.size)))
  have B2 := hid (HB1.out.trans (B12.out.mono HB1.out.size))
  have hC2 := (B12.out.block C (lt_of_block HC1.out)).trans HC1.out
  clear H SW hHeld B12 HC1 HB1 HAK
  have a0 : w2.cell? ⟨C, 0, none⟩ = some (.int .i64 c.k) := by rw [cell_of_row _ _ _ _ _ _ hC2]; rfl
  have HC2 := hid hC2
  unfold chC at hC2
  go_upto_region 12 with (first | (go_at_call 27; refine (HGN.out _ H2.out.m).mono ?_; rintro e w3 ⟨va3, vc3, rfl, hr3, hb3⟩; have R3 := hid hr3; have A3 := hid (H2.out.below hb3); have B3 := hid (B2.out.trans (hb3.mono B2.out.size)); have HC3 := hid ((hb3.block C (lt_of_block HC2.out)).trans HC2.out); have hC3 := (hb3.block C (lt_of_block hC2)).trans hC2; clear hr3 hb3 hC2) | (go_at_call 28; refine (HFT.out _ _ (by rw [HGE.out]; exact R3.out)).mono ?_; rintro e w4 ⟨rfl, hb4⟩; have R4 : Hid (ShR w4 (.slice va3 1 vc3) G) := hid (by rw [HGE.out]; exact R3.out.below hb4); have A4 := hid (A3.out.below hb4); have B4 := hid (B3.out.trans (hb4.mono B3.out.size)); have HC4 := hid ((hb4.block C (lt_of_block HC3.out)).trans HC3.out); clear hb4) | (refine wpl_loadK rfl _ rfl C rfl _ _ _ rfl hC2 ?_) | (refine wpl_loadK rfl _ rfl C rfl _ _ _ rfl hC3 ?_))
  obtain ⟨g, rfl⟩ : ∃ g, va3 = some ⟨g, 0, none⟩ := own_some R4.out.o (by rw [HGE.out]; simp)
  clear R3 A3 B3 HC3 hC3 HC2 H2 B2 HGN HFT
  have c2 : w4.cell? ⟨b, 2, none⟩ = some (.int .i64 N.nx) := A4.out.m.cell 2
  have c1 : w4.cell? ⟨b, 1, none⟩ = some (.int .i64 N.ep) := A4.out.m.cell 1
  have hn1 : ¬ 1073741824 < N.nx := by have := HNX.out; omega
  have hn2 : ¬ 1073741824 < N.ep := by have := HEP.out; omega
  go_upto_region 14 with fail
  clear c1 c2 hn1 hn2
  have SW4 : Hid (∀ Y, Below w4.heap.size w4 Y → Y.rangeAt C 0 (chC c).toList ∧ Y.rangeAt g 0 [.int .i64 S.id, .int .i64 S.fr, .int .i64 S.to, .slice ma S.mem.length mc, .slice pa S.past.length pc]) := hid fun Y hY => by
    have h1 := (hY.block C (lt_of_block HC4.out)).trans HC4.out
    exact ⟨range_of_row h1 0 _ fun j v hv => by rw [Nat.zero_add]; simpa using hv, HRG.out _ _ _ _ (R4.out.below hY)⟩
  have SX7 : Hid (∀ Y, Tr (AtR b wb mb) w4 Y → Y.rangeAt C 0 (chC c).toList ∧ Y.rangeAt g 0 [.int .i64 S.id, .int .i64 S.fr, .int .i64 S.to, .slice ma S.mem.length mc, .slice pa S.past.length pc]) := hid fun Y hY => by
    have h1 := (hY.block C (lt_of_block HC4.out) (A4.out.m.nob HC4.out (by decide) (by decide))).trans HC4.out
    exact ⟨range_of_row h1 0 _ fun j v hv => by rw [Nat.zero_add]; simpa using hv, HRG.out _ _ _ _ (ShR.tr A4.out.m hY R4.out)⟩
  obtain ⟨dS, hdS1, hdS2⟩ := Try.rowSh
  refine wp_region_held_drew (S := fun Y => Y.rangeAt C 0 (chC c).toList ∧ Y.rangeAt g 0 [.int .i64 S.id, .int .i64 S.fr, .int .i64 S.to, .slice ma S.mem.length mc, .slice pa S.past.length pc]) (by kernel_rfl) (SW4.out _ ((Below.refl _ _).drew)) (fun hHeld => ?_)
  refine wpAnyH_take (i := 0) (v := ?gv0) rfl (by kernel_rfl) (by kernel_rfl) (by kernel_rfl) (fun _ _ _ h => h) (Or.inl ⟨by rfl, ?gy0⟩) (by assumption) ?gr0
  case gy0 => (intro w hSw; (try dsimp only at hSw); go_simp; try with_reducible rfl)
  (try simp only [Act.put, putS])
  refine wpAnyH_take (i := 1) (v := ?gv1) rfl (by kernel_rfl) (by kernel_rfl) (by kernel_rfl) (fun _ _ _ h => h) (Or.inl ⟨by rfl, ?gy1⟩) (by assumption) ?gr1
  case gy1 => (intro w hSw; (try dsimp only at hSw); go_simp; try with_reducible rfl)
  (try simp only [Act.put, putS])
  refine wpAnyH_take (i := 2) (v := .agg (chC c).toList.toArray) rfl (by kernel_rfl) (by kernel_rfl) (by kernel_rfl) (fun _ _ _ h => h) (yieldsIf_load_mid rfl _ _ rfl C 0 rfl (chC c).toList dC (fun Y hY => hY.1) hdC1 hdC2 Try.sizeCh) (by assumption) ?_
  (try simp only [Act.put, putS])
  refine wpAnyH_take (i := 3) (v := ?hv3) rfl (by kernel_rfl) (by kernel_rfl) (by kernel_rfl) (fun _ _ _ h => h) (Or.inl ⟨by rfl, ?hy3⟩) (by assumption) ?hr3
  case hy3 => (intro w hSw; (try dsimp only at hSw); go_simp; try with_reducible rfl)
  (try simp only [Act.put, putS])
  refine wpAnyH_take (i := 5) (v := .agg (chC c).toList.toArray) rfl (by kernel_rfl) (by kernel_rfl) (by kernel_rfl) (fun _ _ _ h => h) (yieldsIf_load_mid rfl _ _ rfl C 0 rfl (chC c).toList dC (fun Y hY => hY.1) hdC1 hdC2 Try.sizeCh) (by assumption) ?_
  (try simp only [Act.put, putS])
  refine wpAnyH_take (i := 6) (v := ?iv6) rfl (by kernel_rfl) (by kernel_rfl) (by kernel_rfl) (fun _ _ _ h => h) (Or.inl ⟨by rfl, ?iy6⟩) (by assumption) ?ir6
  case iy6 => (intro w hSw; (try dsimp only at hSw); go_simp; try with_reducible rfl)
  (try simp only [Act.put, putS])
  refine wpAnyH_take (i := 7) (v := ?iv7) rfl (by kernel_rfl) (by kernel_rfl) (by kernel_rfl) (fun _ _ _ h => h) (Or.inl ⟨by rfl, ?iy7⟩) (by assumption) ?ir7
  case iy7 => (intro w hSw; (try dsimp only at hSw); go_simp; try with_reducible rfl)
  (try simp only [Act.put, putS])
  refine wpAnyH_take (i := 8) (v := .agg #[.int .i64 S.id, .int .i64 S.fr, .int .i64 S.to, .slice ma S.mem.length mc, .slice pa S.past.length pc]) rfl (by kernel_rfl) (by kernel_rfl) (by kernel_rfl) (fun _ _ _ h => h) (yieldsIf_load_mid rfl _ _ rfl g 0 (by go_simp) [.int .i64 S.id, .int .i64 S.fr, .int .i64 S.to, .slice ma S.mem.length mc, .slice pa S.past.length pc] dS (fun Y hY => hY.2) hdS1 hdS2 Try.sizeSh) (by assumption) ?_
  (try simp only [Act.put, putS])
  refine wpAnyH_ready (rs := [4]) (by kernel_rfl) (by simp) ?_
  refine AllReadyH.cons rfl (fun K hK => ?_) AllReadyH.nil
  rw [if_pos (by rfl)]
  go_wp2_with fail
  refine (HSPN.out _ _ (R4.out.below ((Below.refl _ _).drew))).mono ?_
  rintro e w5 ⟨va5, vc5, rfl, ho5, hb5⟩
  have B5 := hid (((Below.refl w4.heap.size w4).drew).trans hb5)
  have O5 := hid (show OwnS w5 0 _ sp from own_lower ho5 (Nat.zero_le _))
  clear ho5 hb5
  refine hK.out _ _ (SW4.out _ B5.out) (fun hHeld => ?_)
  try clear hK K
  (try simp only [Act.put, putS])
  refine wpAnyH_ready (rs := [9]) (by kernel_rfl) (by simp) ?_
  refine AllReadyH.cons rfl (fun K hK => ?_) AllReadyH.nil
  rw [if_pos (by rfl)]
  go_wp2_with fail
  refine (HMEM.out _ _ (R4.out.below B5.out)).mono ?_
  rintro e w6 ⟨va6, vc6, rfl, ho6, hb6⟩
  have B6 := hid (B5.out.trans (hb6.mono B5.out.size))
  have O6 := hid (own_lower ho6 (Nat.zero_le _))
  have O56 := hid (show OwnS w6 0 _ sp from own_below O5.out hb6)
  clear ho6 hb6
  refine hK.out _ _ (SW4.out _ B6.out) (fun hHeld => ?_)
  try clear hK K
  (try simp only [Act.put, putS])
  refine wpAnyH_ready (rs := [10]) (by kernel_rfl) (by simp) ?_
  refine AllReadyH.cons rfl (fun K hK => ?_) AllReadyH.nil
  rw [if_pos (by rfl)]
  go_wp2_with fail
  refine (exchange_any b wb mb n _ D N (X.map SX.pc) X G sp ml _ _ _ _ (A4.out.m.below B6.out) (R4.out.below B6.out) HGX.out HG2.out HXI.out O56.out O6.out HO.out (A4.out.nil HO.out) HN9.out HSP2.out HNX.out HEP.out HLT.out (by rw [List.length_map]; exact HXL.out) HSI.out).mono ?_
  rintro e w7 ⟨ov7, D7, W7, pvo, rfl, ha7, hc7, ht7⟩
  have A7 := hid ha7
  have C7 := hid hc7
  have T7 : Hid (Tr (AtR b wb mb) w4 w7) := hid ((Tr.below B6.out).trans ht7)
  have S7 := hid (SX7.out _ T7.out)
  clear ha7 hc7 ht7
  refine hK.out _ _ S7.out (fun hHeld => ?_)
  try clear hK K
  (try simp only [Act.put, putS])
  refine wpAnyH_done (by kernel_rfl) ?_ _
  have HF : Hid (At w7 b wb mb (n + sp.length) ov7 D7 ⟨N.bl, N.ep + 1, N.nx + sp.length, opD N.nx sp.length⟩ (P ++ nwX N.nx ml (G.map fun x => x.or.o) (.slice va6 ml.length vc6) pvo sp ++ Q)) := hid (by
    have hw := HCAN.out _ pvo W7 A7.out.whr.can C7.out
    refine ⟨?_, fun h0 => ?_⟩
    · rw [← hw]
      refine A7.out.congr fun z => ?_
      have := HOUT.out z
      simp only [List.mem_append] at this ⊢
      rw [this]
      constructor
      · rintro ((h | h) | h)
        · exact .inr (.inl h)
        · exact .inl h
        · exact .inr (.inr h)
      · rintro (h | h | h)
        · exact .inl (.inr h)
        · exact .inl (.inl h)
        · exact .inr h
    · have : (opD N.nx sp.length).length = 0 := by rw [show opD N.nx sp.length = [] from h0]; rfl
      rw [opD_len] at this
      have := HSP1.out
      omega)
  go_wp2_with fail
  go_ret
  exact ⟨ov7, D7, _, pvo, rfl, HF.out, (Tr.below B4.out).trans T7.out⟩
end Go.Proofs.Ytnkjkaofgninnaa
namespace Go.Proofs.Ytnkjkaofgninnaa
open Go.RowKit Go.Maps Go.Shelf
set_option linter.unusedVariables false
set_option linter.unusedSimpArgs false

set_option maxRecDepth 100000 in
set_option maxHeartbeats 8000000 in
theorem rapp_bad (b : Nat) (c : ChD) (w : World) (h : akB c.k = false ∨ namD c ≠ c) :
    Calls Try.prog 20 #[.pointer (some ⟨b, 0, none⟩), chV c] w fun e w' => e = .returned (.int .i64 1) ∧ Below w.heap.size w w' := by
  obtain ⟨k, sh, ot, at', out, in'⟩ := c
  obtain ⟨w1, hw1⟩ : ∃ w1, w1 = w.alloc (.cells #[.int .i64 k, .int .i64 sh, .int .i64 ot, .int .i64 at', .int .i64 out, .int .i64 in'] 24) := ⟨_, rfl⟩
  have HB1 : Hid (Below w.heap.size w w1) := hid (by rw [hw1]; exact (Below.refl _ _).alloc (Nat.le_refl _) _)
  have HC1 : Hid (w1.heap[w.heap.size]? = some (.cells #[.int .i64 k, .int .i64 sh, .int .i64 ot, .int .i64 at', .int .i64 out, .int .i64 in'] 24 (0, 0))) := hid (by rw [hw1]; exact heap_alloc_new _ _)
  have HW1 := hid hw1
  clear hw1
  by_cases h1 : k < 1
  · have g1 : ¬ 1 ≤ k := by omega
    clear h
    unfold chV
    go_enter Try.func20, Try.ntmps20
    go_upto_region 1 with fail
    rw [← HW1.out]
    clear HW1
    obtain ⟨C, hCe⟩ : ∃ C, C = w.heap.size := ⟨_, rfl⟩
    rw [← hCe]
    rw [← hCe] at HC1
    have HCE : Hid (w.heap.size ≤ C) := hid (by omega)
    clear hCe
    have a0 : w1.cell? ⟨C, 0, none⟩ = some (.int .i64 _) := (cell_of_row _ _ _ _ _ _ HC1.out).trans rfl
    have a1 : w1.cell? ⟨C, 1, none⟩ = some (.int .i64 _) := (cell_of_row _ _ _ _ _ _ HC1.out).trans rfl
    have a2 : w1.cell? ⟨C, 2, none⟩ = some (.int .i64 _) := (cell_of_row _ _ _ _ _ _ HC1.out).trans rfl
    have a3 : w1.cell? ⟨C, 3, none⟩ = some (.int .i64 _) := (cell_of_row _ _ _ _ _ _ HC1.out).trans rfl
    have a4 : w1.cell? ⟨C, 4, none⟩ = some (.int .i64 _) := (cell_of_row _ _ _ _ _ _ HC1.out).trans rfl
    have a5 : w1.cell? ⟨C, 5, none⟩ = some (.int .i64 _) := (cell_of_row _ _ _ _ _ _ HC1.out).trans rfl
    go_wp2_with fail
    go_ret
    exact ⟨rfl, HB1.out⟩
  by_cases h5 : 5 < k
  · have g1 : 1 ≤ k := by omega
    have g5 : ¬ k ≤ 5 := by omega
    clear h h1
    unfold chV
    go_enter Try.func20, Try.ntmps20
    go_upto_region 1 with fail
    rw [← HW1.out]
    clear HW1
    obtain ⟨C, hCe⟩ : ∃ C, C = w.heap.size := ⟨_, rfl⟩
    rw [← hCe]
    rw [← hCe] at HC1
    have HCE : Hid (w.heap.size ≤ C) := hid (by omega)
    clear hCe
    have a0 : w1.cell? ⟨C, 0, none⟩ = some (.int .i64 _) := (cell_of_row _ _ _ _ _ _ HC1.out).trans rfl
    have a1 : w1.cell? ⟨C, 1, none⟩ = some (.int .i64 _) := (cell_of_row _ _ _ _ _ _ HC1.out).trans rfl
    have a2 : w1.cell? ⟨C, 2, none⟩ = some (.int .i64 _) := (cell_of_row _ _ _ _ _ _ HC1.out).trans rfl
    have a3 : w1.cell? ⟨C, 3, none⟩ = some (.int .i64 _) := (cell_of_row _ _ _ _ _ _ HC1.out).trans rfl
    have a4 : w1.cell? ⟨C, 4, none⟩ = some (.int .i64 _) := (cell_of_row _ _ _ _ _ _ HC1.out).trans rfl
    have a5 : w1.cell? ⟨C, 5, none⟩ = some (.int .i64 _) := (cell_of_row _ _ _ _ _ _ HC1.out).trans rfl
    go_wp2_with fail
    go_ret
    exact ⟨rfl, HB1.out⟩
  have hk : akB k = true := by unfold akB; simp; omega
  have hn : namD ⟨k, sh, ot, at', out, in'⟩ ≠ ⟨k, sh, ot, at', out, in'⟩ := h.resolve_left (by simp [hk])
  clear h hk
  have g1 : 1 ≤ k := by omega
  have g5 : k ≤ 5 := by omega
  clear h1 h5
  have hd : k = 1 ∨ k = 2 ∨ k = 3 ∨ k = 4 ∨ k = 5 := by omega
  have z1 : ∀ x : Int, (x == 0) = false ∨ x = 0 := fun x => by by_cases h : x = 0 <;> simp [h]
  clear g1 g5
  rcases hd with rfl | rfl | rfl | rfl | rfl
  · rcases z1 ot with h | rfl
    · clear hn z1
      unfold chV
      go_enter Try.func20, Try.ntmps20
      go_upto_region 1 with fail
      rw [← HW1.out]
      clear HW1
      obtain ⟨C, hCe⟩ : ∃ C, C = w.heap.size := ⟨_, rfl⟩
      rw [← hCe]
      rw [← hCe] at HC1
      have HCE : Hid (w.heap.size ≤ C) := hid (by omega)
      clear hCe
      have a0 : w1.cell? ⟨C, 0, none⟩ = some (.int .i64 _) := (cell_of_row _ _ _ _ _ _ HC1.out).trans rfl
      have a1 : w1.cell? ⟨C, 1, none⟩ = some (.int .i64 _) := (cell_of_row _ _ _ _ _ _ HC1.out).trans rfl
      have a2 : w1.cell? ⟨C, 2, none⟩ = some (.int .i64 _) := (cell_of_row _ _ _ _ _ _ HC1.out).trans rfl
      have a3 : w1.cell? ⟨C, 3, none⟩ = some (.int .i64 _) := (cell_of_row _ _ _ _ _ _ HC1.out).trans rfl
      have a4 : w1.cell? ⟨C, 4, none⟩ = some (.int .i64 _) := (cell_of_row _ _ _ _ _ _ HC1.out).trans rfl
      have a5 : w1.cell? ⟨C, 5, none⟩ = some (.int .i64 _) := (cell_of_row _ _ _ _ _ _ HC1.out).trans rfl
      go_wp2_with fail
      go_ret
      exact ⟨rfl, HB1.out⟩
    rcases z1 out with h | rfl
    · clear hn z1
      unfold chV
      go_enter Try.func20, Try.ntmps20
      go_upto_region 1 with fail
      rw [← HW1.out]
      clear HW1
      obtain ⟨C, hCe⟩ : ∃ C, C = w.heap.size := ⟨_, rfl⟩
      rw [← hCe]
      rw [← hCe] at HC1
      have HCE : Hid (w.heap.size ≤ C) := hid (by omega)
      clear hCe
      have a0 : w1.cell? ⟨C, 0, none⟩ = some (.int .i64 _) := (cell_of_row _ _ _ _ _ _ HC1.out).trans rfl
      have a1 : w1.cell? ⟨C, 1, none⟩ = some (.int .i64 _) := (cell_of_row _ _ _ _ _ _ HC1.out).trans rfl
      have a2 : w1.cell? ⟨C, 2, none⟩ = some (.int .i64 _) := (cell_of_row _ _ _ _ _ _ HC1.out).trans rfl
      have a3 : w1.cell? ⟨C, 3, none⟩ = some (.int .i64 _) := (cell_of_row _ _ _ _ _ _ HC1.out).trans rfl
      have a4 : w1.cell? ⟨C, 4, none⟩ = some (.int .i64 _) := (cell_of_row _ _ _ _ _ _ HC1.out).trans rfl
      have a5 : w1.cell? ⟨C, 5, none⟩ = some (.int .i64 _) := (cell_of_row _ _ _ _ _ _ HC1.out).trans rfl
      go_wp2_with fail
      go_ret
      exact ⟨rfl, HB1.out⟩
    rcases z1 in' with h | rfl
    · clear hn z1
      unfold chV
      go_enter Try.func20, Try.ntmps20
      go_upto_region 1 with fail
      rw [← HW1.out]
      clear HW1
      obtain ⟨C, hCe⟩ : ∃ C, C = w.heap.size := ⟨_, rfl⟩
      rw [← hCe]
      rw [← hCe] at HC1
      have HCE : Hid (w.heap.size ≤ C) := hid (by omega)
      clear hCe
      have a0 : w1.cell? ⟨C, 0, none⟩ = some (.int .i64 _) := (cell_of_row _ _ _ _ _ _ HC1.out).trans rfl
      have a1 : w1.cell? ⟨C, 1, none⟩ = some (.int .i64 _) := (cell_of_row _ _ _ _ _ _ HC1.out).trans rfl
      have a2 : w1.cell? ⟨C, 2, none⟩ = some (.int .i64 _) := (cell_of_row _ _ _ _ _ _ HC1.out).trans rfl
      have a3 : w1.cell? ⟨C, 3, none⟩ = some (.int .i64 _) := (cell_of_row _ _ _ _ _ _ HC1.out).trans rfl
      have a4 : w1.cell? ⟨C, 4, none⟩ = some (.int .i64 _) := (cell_of_row _ _ _ _ _ _ HC1.out).trans rfl
      have a5 : w1.cell? ⟨C, 5, none⟩ = some (.int .i64 _) := (cell_of_row _ _ _ _ _ _ HC1.out).trans rfl
      go_wp2_with fail
      go_ret
      exact ⟨rfl, HB1.out⟩
    exact absurd rfl hn
  · rcases z1 at' with h | rfl
    · clear hn z1
      unfold chV
      go_enter Try.func20, Try.ntmps20
      go_upto_region 1 with fail
      rw [← HW1.out]
      clear HW1
      obtain ⟨C, hCe⟩ : ∃ C, C = w.heap.size := ⟨_, rfl⟩
      rw [← hCe]
      rw [← hCe] at HC1
      have HCE : Hid (w.heap.size ≤ C) := hid (by omega)
      clear hCe
      have a0 : w1.cell? ⟨C, 0, none⟩ = some (.int .i64 _) := (cell_of_row _ _ _ _ _ _ HC1.out).trans rfl
      have a1 : w1.cell? ⟨C, 1, none⟩ = some (.int .i64 _) := (cell_of_row _ _ _ _ _ _ HC1.out).trans rfl
      have a2 : w1.cell? ⟨C, 2, none⟩ = some (.int .i64 _) := (cell_of_row _ _ _ _ _ _ HC1.out).trans rfl
      have a3 : w1.cell? ⟨C, 3, none⟩ = some (.int .i64 _) := (cell_of_row _ _ _ _ _ _ HC1.out).trans rfl
      have a4 : w1.cell? ⟨C, 4, none⟩ = some (.int .i64 _) := (cell_of_row _ _ _ _ _ _ HC1.out).trans rfl
      have a5 : w1.cell? ⟨C, 5, none⟩ = some (.int .i64 _) := (cell_of_row _ _ _ _ _ _ HC1.out).trans rfl
      go_wp2_with fail
      go_ret
      exact ⟨rfl, HB1.out⟩
    rcases z1 out with h | rfl
    · clear hn z1
      unfold chV
      go_enter Try.func20, Try.ntmps20
      go_upto_region 1 with fail
      rw [← HW1.out]
      clear HW1
      obtain ⟨C, hCe⟩ : ∃ C, C = w.heap.size := ⟨_, rfl⟩
      rw [← hCe]
      rw [← hCe] at HC1
      have HCE : Hid (w.heap.size ≤ C) := hid (by omega)
      clear hCe
      have a0 : w1.cell? ⟨C, 0, none⟩ = some (.int .i64 _) := (cell_of_row _ _ _ _ _ _ HC1.out).trans rfl
      have a1 : w1.cell? ⟨C, 1, none⟩ = some (.int .i64 _) := (cell_of_row _ _ _ _ _ _ HC1.out).trans rfl
      have a2 : w1.cell? ⟨C, 2, none⟩ = some (.int .i64 _) := (cell_of_row _ _ _ _ _ _ HC1.out).trans rfl
      have a3 : w1.cell? ⟨C, 3, none⟩ = some (.int .i64 _) := (cell_of_row _ _ _ _ _ _ HC1.out).trans rfl
      have a4 : w1.cell? ⟨C, 4, none⟩ = some (.int .i64 _) := (cell_of_row _ _ _ _ _ _ HC1.out).trans rfl
      have a5 : w1.cell? ⟨C, 5, none⟩ = some (.int .i64 _) := (cell_of_row _ _ _ _ _ _ HC1.out).trans rfl
      go_wp2_with fail
      go_ret
      exact ⟨rfl, HB1.out⟩
    rcases z1 in' with h | rfl
    · clear hn z1
      unfold chV
      go_enter Try.func20, Try.ntmps20
      go_upto_region 1 with fail
      rw [← HW1.out]
      clear HW1
      obtain ⟨C, hCe⟩ : ∃ C, C = w.heap.size := ⟨_, rfl⟩
      rw [← hCe]
      rw [← hCe] at HC1
      have HCE : Hid (w.heap.size ≤ C) := hid (by omega)
      clear hCe
      have a0 : w1.cell? ⟨C, 0, none⟩ = some (.int .i64 _) := (cell_of_row _ _ _ _ _ _ HC1.out).trans rfl
      have a1 : w1.cell? ⟨C, 1, none⟩ = some (.int .i64 _) := (cell_of_row _ _ _ _ _ _ HC1.out).trans rfl
      have a2 : w1.cell? ⟨C, 2, none⟩ = some (.int .i64 _) := (cell_of_row _ _ _ _ _ _ HC1.out).trans rfl
      have a3 : w1.cell? ⟨C, 3, none⟩ = some (.int .i64 _) := (cell_of_row _ _ _ _ _ _ HC1.out).trans rfl
      have a4 : w1.cell? ⟨C, 4, none⟩ = some (.int .i64 _) := (cell_of_row _ _ _ _ _ _ HC1.out).trans rfl
      have a5 : w1.cell? ⟨C, 5, none⟩ = some (.int .i64 _) := (cell_of_row _ _ _ _ _ _ HC1.out).trans rfl
      go_wp2_with fail
      go_ret
      exact ⟨rfl, HB1.out⟩
    exact absurd rfl hn
  · rcases z1 at' with h | rfl
    · clear hn z1
      unfold chV
      go_enter Try.func20, Try.ntmps20
      go_upto_region 1 with fail
      rw [← HW1.out]
      clear HW1
      obtain ⟨C, hCe⟩ : ∃ C, C = w.heap.size := ⟨_, rfl⟩
      rw [← hCe]
      rw [← hCe] at HC1
      have HCE : Hid (w.heap.size ≤ C) := hid (by omega)
      clear hCe
      have a0 : w1.cell? ⟨C, 0, none⟩ = some (.int .i64 _) := (cell_of_row _ _ _ _ _ _ HC1.out).trans rfl
      have a1 : w1.cell? ⟨C, 1, none⟩ = some (.int .i64 _) := (cell_of_row _ _ _ _ _ _ HC1.out).trans rfl
      have a2 : w1.cell? ⟨C, 2, none⟩ = some (.int .i64 _) := (cell_of_row _ _ _ _ _ _ HC1.out).trans rfl
      have a3 : w1.cell? ⟨C, 3, none⟩ = some (.int .i64 _) := (cell_of_row _ _ _ _ _ _ HC1.out).trans rfl
      have a4 : w1.cell? ⟨C, 4, none⟩ = some (.int .i64 _) := (cell_of_row _ _ _ _ _ _ HC1.out).trans rfl
      have a5 : w1.cell? ⟨C, 5, none⟩ = some (.int .i64 _) := (cell_of_row _ _ _ _ _ _ HC1.out).trans rfl
      go_wp2_with fail
      go_ret
      exact ⟨rfl, HB1.out⟩
    rcases z1 ot with h | rfl
    · clear hn z1
      unfold chV
      go_enter Try.func20, Try.ntmps20
      go_upto_region 1 with fail
      rw [← HW1.out]
      clear HW1
      obtain ⟨C, hCe⟩ : ∃ C, C = w.heap.size := ⟨_, rfl⟩
      rw [← hCe]
      rw [← hCe] at HC1
      have HCE : Hid (w.heap.size ≤ C) := hid (by omega)
      clear hCe
      have a0 : w1.cell? ⟨C, 0, none⟩ = some (.int .i64 _) := (cell_of_row _ _ _ _ _ _ HC1.out).trans rfl
      have a1 : w1.cell? ⟨C, 1, none⟩ = some (.int .i64 _) := (cell_of_row _ _ _ _ _ _ HC1.out).trans rfl
      have a2 : w1.cell? ⟨C, 2, none⟩ = some (.int .i64 _) := (cell_of_row _ _ _ _ _ _ HC1.out).trans rfl
      have a3 : w1.cell? ⟨C, 3, none⟩ = some (.int .i64 _) := (cell_of_row _ _ _ _ _ _ HC1.out).trans rfl
      have a4 : w1.cell? ⟨C, 4, none⟩ = some (.int .i64 _) := (cell_of_row _ _ _ _ _ _ HC1.out).trans rfl
      have a5 : w1.cell? ⟨C, 5, none⟩ = some (.int .i64 _) := (cell_of_row _ _ _ _ _ _ HC1.out).trans rfl
      go_wp2_with fail
      go_ret
      exact ⟨rfl, HB1.out⟩
    exact absurd rfl hn
  · rcases z1 at' with h | rfl
    · clear hn z1
      unfold chV
      go_enter Try.func20, Try.ntmps20
      go_upto_region 1 with fail
      rw [← HW1.out]
      clear HW1
      obtain ⟨C, hCe⟩ : ∃ C, C = w.heap.size := ⟨_, rfl⟩
      rw [← hCe]
      rw [← hCe] at HC1
      have HCE : Hid (w.heap.size ≤ C) := hid (by omega)
      clear hCe
      have a0 : w1.cell? ⟨C, 0, none⟩ = some (.int .i64 _) := (cell_of_row _ _ _ _ _ _ HC1.out).trans rfl
      have a1 : w1.cell? ⟨C, 1, none⟩ = some (.int .i64 _) := (cell_of_row _ _ _ _ _ _ HC1.out).trans rfl
      have a2 : w1.cell? ⟨C, 2, none⟩ = some (.int .i64 _) := (cell_of_row _ _ _ _ _ _ HC1.out).trans rfl
      have a3 : w1.cell? ⟨C, 3, none⟩ = some (.int .i64 _) := (cell_of_row _ _ _ _ _ _ HC1.out).trans rfl
      have a4 : w1.cell? ⟨C, 4, none⟩ = some (.int .i64 _) := (cell_of_row _ _ _ _ _ _ HC1.out).trans rfl
      have a5 : w1.cell? ⟨C, 5, none⟩ = some (.int .i64 _) := (cell_of_row _ _ _ _ _ _ HC1.out).trans rfl
      go_wp2_with fail
      go_ret
      exact ⟨rfl, HB1.out⟩
    rcases z1 ot with h | rfl
    · clear hn z1
      unfold chV
      go_enter Try.func20, Try.ntmps20
      go_upto_region 1 with fail
      rw [← HW1.out]
      clear HW1
      obtain ⟨C, hCe⟩ : ∃ C, C = w.heap.size := ⟨_, rfl⟩
      rw [← hCe]
      rw [← hCe] at HC1
      have HCE : Hid (w.heap.size ≤ C) := hid (by omega)
      clear hCe
      have a0 : w1.cell? ⟨C, 0, none⟩ = some (.int .i64 _) := (cell_of_row _ _ _ _ _ _ HC1.out).trans rfl
      have a1 : w1.cell? ⟨C, 1, none⟩ = some (.int .i64 _) := (cell_of_row _ _ _ _ _ _ HC1.out).trans rfl
      have a2 : w1.cell? ⟨C, 2, none⟩ = some (.int .i64 _) := (cell_of_row _ _ _ _ _ _ HC1.out).trans rfl
      have a3 : w1.cell? ⟨C, 3, none⟩ = some (.int .i64 _) := (cell_of_row _ _ _ _ _ _ HC1.out).trans rfl
      have a4 : w1.cell? ⟨C, 4, none⟩ = some (.int .i64 _) := (cell_of_row _ _ _ _ _ _ HC1.out).trans rfl
      have a5 : w1.cell? ⟨C, 5, none⟩ = some (.int .i64 _) := (cell_of_row _ _ _ _ _ _ HC1.out).trans rfl
      go_wp2_with fail
      go_ret
      exact ⟨rfl, HB1.out⟩
    rcases z1 out with h | rfl
    · clear hn z1
      unfold chV
      go_enter Try.func20, Try.ntmps20
      go_upto_region 1 with fail
      rw [← HW1.out]
      clear HW1
      obtain ⟨C, hCe⟩ : ∃ C, C = w.heap.size := ⟨_, rfl⟩
      rw [← hCe]
      rw [← hCe] at HC1
      have HCE : Hid (w.heap.size ≤ C) := hid (by omega)
      clear hCe
      have a0 : w1.cell? ⟨C, 0, none⟩ = some (.int .i64 _) := (cell_of_row _ _ _ _ _ _ HC1.out).trans rfl
      have a1 : w1.cell? ⟨C, 1, none⟩ = some (.int .i64 _) := (cell_of_row _ _ _ _ _ _ HC1.out).trans rfl
      have a2 : w1.cell? ⟨C, 2, none⟩ = some (.int .i64 _) := (cell_of_row _ _ _ _ _ _ HC1.out).trans rfl
      have a3 : w1.cell? ⟨C, 3, none⟩ = some (.int .i64 _) := (cell_of_row _ _ _ _ _ _ HC1.out).trans rfl
      have a4 : w1.cell? ⟨C, 4, none⟩ = some (.int .i64 _) := (cell_of_row _ _ _ _ _ _ HC1.out).trans rfl
      have a5 : w1.cell? ⟨C, 5, none⟩ = some (.int .i64 _) := (cell_of_row _ _ _ _ _ _ HC1.out).trans rfl
      go_wp2_with fail
      go_ret
      exact ⟨rfl, HB1.out⟩
    rcases z1 in' with h | rfl
    · clear hn z1
      unfold chV
      go_enter Try.func20, Try.ntmps20
      go_upto_region 1 with fail
      rw [← HW1.out]
      clear HW1
      obtain ⟨C, hCe⟩ : ∃ C, C = w.heap.size := ⟨_, rfl⟩
      rw [← hCe]
      rw [← hCe] at HC1
      have HCE : Hid (w.heap.size ≤ C) := hid (by omega)
      clear hCe
      have a0 : w1.cell? ⟨C, 0, none⟩ = some (.int .i64 _) := (cell_of_row _ _ _ _ _ _ HC1.out).trans rfl
      have a1 : w1.cell? ⟨C, 1, none⟩ = some (.int .i64 _) := (cell_of_row _ _ _ _ _ _ HC1.out).trans rfl
      have a2 : w1.cell? ⟨C, 2, none⟩ = some (.int .i64 _) := (cell_of_row _ _ _ _ _ _ HC1.out).trans rfl
      have a3 : w1.cell? ⟨C, 3, none⟩ = some (.int .i64 _) := (cell_of_row _ _ _ _ _ _ HC1.out).trans rfl
      have a4 : w1.cell? ⟨C, 4, none⟩ = some (.int .i64 _) := (cell_of_row _ _ _ _ _ _ HC1.out).trans rfl
      have a5 : w1.cell? ⟨C, 5, none⟩ = some (.int .i64 _) := (cell_of_row _ _ _ _ _ _ HC1.out).trans rfl
      go_wp2_with fail
      go_ret
      exact ⟨rfl, HB1.out⟩
    exact absurd rfl hn
  · rcases z1 at' with h | rfl
    · clear hn z1
      unfold chV
      go_enter Try.func20, Try.ntmps20
      go_upto_region 1 with fail
      rw [← HW1.out]
      clear HW1
      obtain ⟨C, hCe⟩ : ∃ C, C = w.heap.size := ⟨_, rfl⟩
      rw [← hCe]
      rw [← hCe] at HC1
      have HCE : Hid (w.heap.size ≤ C) := hid (by omega)
      clear hCe
      have a0 : w1.cell? ⟨C, 0, none⟩ = some (.int .i64 _) := (cell_of_row _ _ _ _ _ _ HC1.out).trans rfl
      have a1 : w1.cell? ⟨C, 1, none⟩ = some (.int .i64 _) := (cell_of_row _ _ _ _ _ _ HC1.out).trans rfl
      have a2 : w1.cell? ⟨C, 2, none⟩ = some (.int .i64 _) := (cell_of_row _ _ _ _ _ _ HC1.out).trans rfl
      have a3 : w1.cell? ⟨C, 3, none⟩ = some (.int .i64 _) := (cell_of_row _ _ _ _ _ _ HC1.out).trans rfl
      have a4 : w1.cell? ⟨C, 4, none⟩ = some (.int .i64 _) := (cell_of_row _ _ _ _ _ _ HC1.out).trans rfl
      have a5 : w1.cell? ⟨C, 5, none⟩ = some (.int .i64 _) := (cell_of_row _ _ _ _ _ _ HC1.out).trans rfl
      go_wp2_with fail
      go_ret
      exact ⟨rfl, HB1.out⟩
    rcases z1 ot with h | rfl
    · clear hn z1
      unfold chV
      go_enter Try.func20, Try.ntmps20
      go_upto_region 1 with fail
      rw [← HW1.out]
      clear HW1
      obtain ⟨C, hCe⟩ : ∃ C, C = w.heap.size := ⟨_, rfl⟩
      rw [← hCe]
      rw [← hCe] at HC1
      have HCE : Hid (w.heap.size ≤ C) := hid (by omega)
      clear hCe
      have a0 : w1.cell? ⟨C, 0, none⟩ = some (.int .i64 _) := (cell_of_row _ _ _ _ _ _ HC1.out).trans rfl
      have a1 : w1.cell? ⟨C, 1, none⟩ = some (.int .i64 _) := (cell_of_row _ _ _ _ _ _ HC1.out).trans rfl
      have a2 : w1.cell? ⟨C, 2, none⟩ = some (.int .i64 _) := (cell_of_row _ _ _ _ _ _ HC1.out).trans rfl
      have a3 : w1.cell? ⟨C, 3, none⟩ = some (.int .i64 _) := (cell_of_row _ _ _ _ _ _ HC1.out).trans rfl
      have a4 : w1.cell? ⟨C, 4, none⟩ = some (.int .i64 _) := (cell_of_row _ _ _ _ _ _ HC1.out).trans rfl
      have a5 : w1.cell? ⟨C, 5, none⟩ = some (.int .i64 _) := (cell_of_row _ _ _ _ _ _ HC1.out).trans rfl
      go_wp2_with fail
      go_ret
      exact ⟨rfl, HB1.out⟩
    rcases z1 out with h | rfl
    · clear hn z1
      unfold chV
      go_enter Try.func20, Try.ntmps20
      go_upto_region 1 with fail
      rw [← HW1.out]
      clear HW1
      obtain ⟨C, hCe⟩ : ∃ C, C = w.heap.size := ⟨_, rfl⟩
      rw [← hCe]
      rw [← hCe] at HC1
      have HCE : Hid (w.heap.size ≤ C) := hid (by omega)
      clear hCe
      have a0 : w1.cell? ⟨C, 0, none⟩ = some (.int .i64 _) := (cell_of_row _ _ _ _ _ _ HC1.out).trans rfl
      have a1 : w1.cell? ⟨C, 1, none⟩ = some (.int .i64 _) := (cell_of_row _ _ _ _ _ _ HC1.out).trans rfl
      have a2 : w1.cell? ⟨C, 2, none⟩ = some (.int .i64 _) := (cell_of_row _ _ _ _ _ _ HC1.out).trans rfl
      have a3 : w1.cell? ⟨C, 3, none⟩ = some (.int .i64 _) := (cell_of_row _ _ _ _ _ _ HC1.out).trans rfl
      have a4 : w1.cell? ⟨C, 4, none⟩ = some (.int .i64 _) := (cell_of_row _ _ _ _ _ _ HC1.out).trans rfl
      have a5 : w1.cell? ⟨C, 5, none⟩ = some (.int .i64 _) := (cell_of_row _ _ _ _ _ _ HC1.out).trans rfl
      go_wp2_with fail
      go_ret
      exact ⟨rfl, HB1.out⟩
    rcases z1 in' with h | rfl
    · clear hn z1
      unfold chV
      go_enter Try.func20, Try.ntmps20
      go_upto_region 1 with fail
      rw [← HW1.out]
      clear HW1
      obtain ⟨C, hCe⟩ : ∃ C, C = w.heap.size := ⟨_, rfl⟩
      rw [← hCe]
      rw [← hCe] at HC1
      have HCE : Hid (w.heap.size ≤ C) := hid (by omega)
      clear hCe
      have a0 : w1.cell? ⟨C, 0, none⟩ = some (.int .i64 _) := (cell_of_row _ _ _ _ _ _ HC1.out).trans rfl
      have a1 : w1.cell? ⟨C, 1, none⟩ = some (.int .i64 _) := (cell_of_row _ _ _ _ _ _ HC1.out).trans rfl
      have a2 : w1.cell? ⟨C, 2, none⟩ = some (.int .i64 _) := (cell_of_row _ _ _ _ _ _ HC1.out).trans rfl
      have a3 : w1.cell? ⟨C, 3, none⟩ = some (.int .i64 _) := (cell_of_row _ _ _ _ _ _ HC1.out).trans rfl
      have a4 : w1.cell? ⟨C, 4, none⟩ = some (.int .i64 _) := (cell_of_row _ _ _ _ _ _ HC1.out).trans rfl
      have a5 : w1.cell? ⟨C, 5, none⟩ = some (.int .i64 _) := (cell_of_row _ _ _ _ _ _ HC1.out).trans rfl
      go_wp2_with fail
      go_ret
      exact ⟨rfl, HB1.out⟩
    rcases z1 sh with h | rfl
    · clear hn z1
      unfold chV
      go_enter Try.func20, Try.ntmps20
      go_upto_region 1 with fail
      rw [← HW1.out]
      clear HW1
      obtain ⟨C, hCe⟩ : ∃ C, C = w.heap.size := ⟨_, rfl⟩
      rw [← hCe]
      rw [← hCe] at HC1
      have HCE : Hid (w.heap.size ≤ C) := hid (by omega)
      clear hCe
      have a0 : w1.cell? ⟨C, 0, none⟩ = some (.int .i64 _) := (cell_of_row _ _ _ _ _ _ HC1.out).trans rfl
      have a1 : w1.cell? ⟨C, 1, none⟩ = some (.int .i64 _) := (cell_of_row _ _ _ _ _ _ HC1.out).trans rfl
      have a2 : w1.cell? ⟨C, 2, none⟩ = some (.int .i64 _) := (cell_of_row _ _ _ _ _ _ HC1.out).trans rfl
      have a3 : w1.cell? ⟨C, 3, none⟩ = some (.int .i64 _) := (cell_of_row _ _ _ _ _ _ HC1.out).trans rfl
      have a4 : w1.cell? ⟨C, 4, none⟩ = some (.int .i64 _) := (cell_of_row _ _ _ _ _ _ HC1.out).trans rfl
      have a5 : w1.cell? ⟨C, 5, none⟩ = some (.int .i64 _) := (cell_of_row _ _ _ _ _ _ HC1.out).trans rfl
      go_wp2_with fail
      go_ret
      exact ⟨rfl, HB1.out⟩
    exact absurd rfl hn
end Go.Proofs.Ytnkjkaofgninnaa
namespace Go.Proofs.Ytnkjkaofgninnaa
open Go.RowKit Go.Maps Go.Shelf
set_option linter.unusedVariables false
set_option linter.unusedSimpArgs false

def ShD.or (S : ShD) : OrD := ⟨S.id, S.fr, S.to, S.mem⟩
/-- The new shards, as what they are. -/
def nwD (nx : Int) (ml : List Int) (ps : List OrD) : List Sp → List ShD
  | [] => []
  | s :: l => ⟨nx, s.1, s.2, ml, ps⟩ :: nwD (nx + 1) ml ps l
theorem nwX_s (ml : List Int) (ps : List OrD) (mv pv : Value) : ∀ (l : List Sp) (nx : Int), (nwX nx ml ps mv pv l).map (·.s) = nwD nx ml ps l
  | [], nx => rfl
  | s :: l, nx => by rw [nwX, nwD, List.map_cons, nwX_s ml ps mv pv l (nx + 1)]
/-- The members behind a change; does it fit one shard? -/
def mlD (c : ChD) (S : ShD) : List Int := if c.k = 3 then swD S.mem c.out c.in' else S.mem
def fit1 (c : ChD) (S : ShD) : Bool := if c.k = 1 then decide (S.fr < c.at') && decide (c.at' < S.to) else if c.k = 3 then swB S.mem c.out c.in' else true
def afD (N : AtN) (sp : List Sp) : AtN := ⟨N.bl, N.ep + 1, N.nx + sp.length, opD N.nx sp.length⟩
/-- A change of a map: its error, and the map behind it. -/
inductive StepR (N : AtN) (Z : List ShD) (c : ChD) : Int → AtN → List ShD → Prop
  | bad (h : akB c.k = false ∨ namD c ≠ c) : StepR N Z c 1 N Z
  | calm (hk : akB c.k = true) (hn : namD c = c) (h5 : c.k = 5) (ho : N.op = []) : StepR N Z c 8 N Z
  | settle (hk : akB c.k = true) (hn : namD c = c) (h5 : c.k = 5) (ho : N.op ≠ []) : StepR N Z c 0 { N with op := [] } Z
  | down (hk : akB c.k = true) (hn : namD c = c) (h5 : c.k ≠ 5) (ho : N.op ≠ []) : StepR N Z c 7 N Z
  | miss (hk : akB c.k = true) (hn : namD c = c) (h5 : c.k ≠ 5) (ho : N.op = []) (h : ∀ z ∈ Z, z.id ≠ c.sh) : StepR N Z c 8 N Z
  | miss2 (hk : akB c.k = true) (hn : namD c = c) (h2 : c.k = 2) (ho : N.op = []) (P Q : List ShD) (S : ShD) (hZ : Z = P ++ S :: Q) (hi : S.id = c.sh) (h : ∀ z ∈ Z, z.id ≠ c.ot) : StepR N Z c 8 N Z
  | unfit (hk : akB c.k = true) (hn : namD c = c) (h5 : c.k ≠ 5) (h2 : c.k ≠ 2) (ho : N.op = []) (P Q : List ShD) (S : ShD) (hZ : Z = P ++ S :: Q) (hi : S.id = c.sh) (h : fit1 c S = false) : StepR N Z c 1 N Z
  | unfit2 (hk : akB c.k = true) (hn : namD c = c) (h2 : c.k = 2) (ho : N.op = []) (P Q P' Q' : List ShD) (S U : ShD) (hZ : Z = P ++ S :: Q) (hi : S.id = c.sh) (hZ' : Z = P' ++ U :: Q') (hj : U.id = c.ot) (h : P'.length ≠ P.length + 1) : StepR N Z c 1 N Z
  | one (hk : akB c.k = true) (hn : namD c = c) (h5 : c.k ≠ 5) (h2 : c.k ≠ 2) (ho : N.op = []) (P Q : List ShD) (S : ShD) (hZ : Z = P ++ S :: Q) (hi : S.id = c.sh) (h : fit1 c S = true) : StepR N Z c 0 (afD N (spD c S.fr S.to)) (P ++ nwD N.nx (mlD c S) [S.or] (spD c S.fr S.to) ++ Q)
  | two (hk : akB c.k = true) (hn : namD c = c) (h2 : c.k = 2) (ho : N.op = []) (P Q : List ShD) (S U : ShD) (hZ : Z = P ++ S :: U :: Q) (hi : S.id = c.sh) (hj : U.id = c.ot) : StepR N Z c 0 (afD N [(S.fr, U.to)]) (P ++ nwD N.nx S.mem [S.or, U.or] [(S.fr, U.to)] ++ Q)
theorem mid_of {α : Type} (l : List α) (x : α) (h : x ∈ l) : ∃ P Q, l = P ++ x :: Q := List.append_of_mem h
/-- There is always one. -/
theorem step_ex (N : AtN) (Z : List ShD) (c : ChD) (hd : Z.Pairwise fun x y => x.id ≠ y.id) : ∃ r N' Z', StepR N Z c r N' Z' := by
  by_cases hb : akB c.k = false ∨ namD c ≠ c
  · exact ⟨_, _, _, .bad hb⟩
  have hk : akB c.k = true := by
    cases h : akB c.k with
    | true => rfl
    | false => exact absurd (.inl h) hb
  have hn : namD c = c := Classical.byContradiction fun h => hb (.inr h)
  by_cases h5 : c.k = 5
  · by_cases ho : N.op = []
    · exact ⟨_, _, _, .calm hk hn h5 ho⟩
    · exact ⟨_, _, _, .settle hk hn h5 ho⟩
  by_cases ho : N.op = []
  · by_cases hs : ∃ S ∈ Z, S.id = c.sh
    · obtain ⟨S, hS, hi⟩ := hs
      obtain ⟨P, Q, hZ⟩ := mid_of Z S hS
      by_cases h2 : c.k = 2
      · by_cases ht : ∃ U ∈ Z, U.id = c.ot
        · obtain ⟨U, hU, hj⟩ := ht
          obtain ⟨P', Q', hZ'⟩ := mid_of Z U hU
          by_cases hp : P'.length = P.length + 1
          · have e : Q = U :: Q' := by
              have h1 : Z[P.length + 1]? = some U := by rw [hZ', ← hp]; simp
              have h2 : Z.drop (P.length + 2) = Q' := by rw [hZ', show P.length + 2 = P'.length + 1 by omega]; simp
              have h3 : Z.drop (P.length + 1) = Q := by rw [hZ]; simp
              have h4 : P.length + 1 < Z.length := (List.getElem?_eq_some_iff.1 h1).1
              rw [List.drop_eq_getElem_cons h4, (List.getElem?_eq_some_iff.1 h1).2, h2] at h3
              exact h3.symm
            exact ⟨_, _, _, .two hk hn h2 ho P Q' S U (by rw [hZ, e]) hi hj⟩
          · exact ⟨_, _, _, .unfit2 hk hn h2 ho P Q P' Q' S U hZ hi hZ' hj hp⟩
        · exact ⟨_, _, _, .miss2 hk hn h2 ho P Q S hZ hi fun z hz e => ht ⟨z, hz, e⟩⟩
      · cases hf : fit1 c S with
        | true => exact ⟨_, _, _, .one hk hn h5 h2 ho P Q S hZ hi hf⟩
        | false => exact ⟨_, _, _, .unfit hk hn h5 h2 ho P Q S hZ hi hf⟩
    · exact ⟨_, _, _, .miss hk hn h5 ho fun z hz e => hs ⟨z, hz, e⟩⟩
  · exact ⟨_, _, _, .down hk hn h5 ho⟩
/-- One behind the other. -/
def ChnD : Int → List ShD → Int → Prop
  | a, [], b => a = b
  | a, x :: l, b => x.fr = a ∧ x.fr < x.to ∧ ChnD x.to l b
theorem chn_d : ∀ (X : List SX) (a b : Int), Chn a X b ↔ ChnD a (X.map (·.s)) b
  | [], a, b => Iff.rfl
  | x :: l, a, b => by rw [List.map_cons, Chn, ChnD, chn_d l x.s.to b]
theorem ChnD.append : ∀ (P Q : List ShD) (a b : Int), ChnD a (P ++ Q) b ↔ ∃ m, ChnD a P m ∧ ChnD m Q b
  | [], Q, a, b => ⟨fun h => ⟨a, rfl, h⟩, fun ⟨m, h1, h2⟩ => by have e : a = m := h1; subst e; exact h2⟩
  | x :: P, Q, a, b => by
    constructor
    · rintro ⟨h1, h2, h3⟩
      obtain ⟨m, h4, h5⟩ := (ChnD.append P Q _ b).1 h3
      exact ⟨m, ⟨h1, h2, h4⟩, h5⟩
    · rintro ⟨m, ⟨h1, h2, h4⟩, h5⟩
      exact ⟨h1, h2, (ChnD.append P Q _ b).2 ⟨m, h4, h5⟩⟩
theorem ChnD.le : ∀ (X : List ShD) (a b : Int), ChnD a X b → a ≤ b
  | [], a, b, h => by have e : a = b := h; omega
  | x :: l, a, b, ⟨h1, h2, h3⟩ => by have := ChnD.le l _ b h3; omega
theorem ChnD.mem : ∀ (X : List ShD) (a b : Int), ChnD a X b → ∀ x ∈ X, a ≤ x.fr ∧ x.fr < x.to ∧ x.to ≤ b
  | [], a, b, _, x, hx => by cases hx
  | y :: l, a, b, ⟨h1, h2, h3⟩, x, hx => by
    have hl := ChnD.le l _ b h3
    rcases List.mem_cons.1 hx with rfl | hx
    · exact ⟨by omega, h2, hl⟩
    · have := ChnD.mem l _ b h3 x hx
      exact ⟨by omega, this.2.1, this.2.2⟩
/-- What holds of each map of shards that comes of a new one by some changes. -/
structure Gd (B : Nat) (N : AtN) (Z : List ShD) : Prop where
  ch : ChnD 0 Z N.bl
  mb : ∀ S ∈ Z, memB S.mem = true
  pa : ∀ S ∈ Z, S.past.length ≤ 2 ∧ ∀ o ∈ S.past, memB o.mem = true
  id : ∀ S ∈ Z, 1 ≤ S.id ∧ S.id < N.nx
  ne : Z.Pairwise fun x y => x.id ≠ y.id
  nx : 2 ≤ N.nx ∧ N.nx ≤ B
  ep : 1 ≤ N.ep ∧ N.ep ≤ B
  len : Z.length ≤ B
  opl : N.op.length ≤ 2
  bl : 1 ≤ N.bl ∧ N.bl ≤ 256
theorem Gd.mono {B B' : Nat} {N : AtN} {Z : List ShD} (h : Gd B N Z) (hb : B ≤ B') : Gd B' N Z := ⟨h.ch, h.mb, h.pa, h.id, h.ne, ⟨h.nx.1, by have := h.nx.2; omega⟩, ⟨h.ep.1, by have := h.ep.2; omega⟩, by have := h.len; omega, h.opl, h.bl⟩
theorem nwD_len (ml : List Int) (ps : List OrD) : ∀ (l : List Sp) (nx : Int), (nwD nx ml ps l).length = l.length
  | [], nx => rfl
  | t :: l, nx => by rw [nwD, List.length_cons, List.length_cons, nwD_len ml ps l (nx + 1)]
theorem nwD_mem (ml : List Int) (ps : List OrD) : ∀ (l : List Sp) (nx : Int), ∀ x ∈ nwD nx ml ps l, x.mem = ml ∧ x.past = ps ∧ nx ≤ x.id ∧ x.id < nx + l.length
  | [], nx, x, hx => by cases hx
  | t :: l, nx, x, hx => by
    rw [List.length_cons]
    rcases List.mem_cons.1 hx with rfl | hx
    · exact ⟨rfl, rfl, by show nx ≤ nx; omega, by show nx < _; omega⟩
    · have := nwD_mem ml ps l (nx + 1) x hx
      exact ⟨this.1, this.2.1, by omega, by omega⟩
theorem nwD_ne (ml : List Int) (ps : List OrD) : ∀ (l : List Sp) (nx : Int), (nwD nx ml ps l).Pairwise fun x y => x.id ≠ y.id
  | [], nx => List.Pairwise.nil
  | t :: l, nx => List.pairwise_cons.2 ⟨fun y hy => by have := nwD_mem ml ps l (nx + 1) y hy; show nx ≠ y.id; omega, nwD_ne ml ps l (nx + 1)⟩
theorem memB_swD (l : List Int) (out in' : Int) (h : memB l = true) (hs : swB l out in' = true) : memB (swD l out in') = true := by
  obtain ⟨hr, hn, ho⟩ := mem_rise h
  have hs3 : out ∈ l ∧ in' ∉ l ∧ (0 ≤ in' ∧ in' < 7) := by simpa [swB, nodeB] using hs
  obtain ⟨k, hk, hke⟩ := List.mem_iff_getElem.1 hs3.1
  refine mem_of_rise (swD_rise _ _ _) (fun x hx => ?_) (by rw [swD_len l out in' k hk hke hr hn hs3.2.2 hs3.2.1]; exact ho)
  rcases (mem_swD l out in' x hs3.2.2 hn).1 hx with h | rfl
  · exact hn x h.1
  · exact hs3.2.2
/-- The middle is put anew. -/
theorem Gd.put {B : Nat} {N : AtN} {P G Q : List ShD} {ml : List Int} {sp : List Sp} (h : Gd B N (P ++ G ++ Q)) (hG : 1 ≤ G.length ∧ G.length ≤ 2) (hs : sp.length ≤ 2) (hm : memB ml = true) (hc : ∀ a t, ChnD a G t → ChnD a (nwD N.nx ml (G.map ShD.or) sp) t) : Gd (B + 2) (afD N sp) (P ++ nwD N.nx ml (G.map ShD.or) sp ++ Q) := by
  obtain ⟨t, h12, hq⟩ := (ChnD.append _ _ _ _).1 h.ch
  obtain ⟨f, hp, hg⟩ := (ChnD.append _ _ _ _).1 h12
  have hPm : ∀ S ∈ P, S ∈ P ++ G ++ Q := fun S hS => by simp [hS]
  have hGm : ∀ S ∈ G, S ∈ P ++ G ++ Q := fun S hS => by simp [hS]
  have hQm : ∀ S ∈ Q, S ∈ P ++ G ++ Q := fun S hS => by simp [hS]
  have hpg : ∀ o ∈ G.map ShD.or, memB o.mem = true := fun o ho => by
    obtain ⟨S, hS, rfl⟩ := List.mem_map.1 ho
    exact h.mb S (hGm S hS)
  have hcase : ∀ S ∈ P ++ nwD N.nx ml (G.map ShD.or) sp ++ Q, S ∈ P ++ G ++ Q ∨ S ∈ nwD N.nx ml (G.map ShD.or) sp := fun S hS => by
    rcases List.mem_append.1 hS with hS | hS
    · rcases List.mem_append.1 hS with hS | hS
      · exact .inl (hPm S hS)
      · exact .inr hS
    · exact .inl (hQm S hS)
  obtain ⟨hn12, hnq, hnx⟩ := List.pairwise_append.1 h.ne
  obtain ⟨hnp, hng, hnpg⟩ := List.pairwise_append.1 hn12
  refine ⟨(ChnD.append _ _ _ _).2 ⟨t, (ChnD.append _ _ _ _).2 ⟨f, hp, hc f t hg⟩, hq⟩, fun S hS => ?_, fun S hS => ?_, fun S hS => ?_, ?_, ⟨?_, ?_⟩, ⟨?_, ?_⟩, ?_, ?_, h.bl⟩
  · rcases hcase S hS with h1 | h1
    · exact h.mb S h1
    · rw [(nwD_mem _ _ _ _ S h1).1]; exact hm
  · rcases hcase S hS with h1 | h1
    · exact h.pa S h1
    · rw [(nwD_mem _ _ _ _ S h1).2.1, List.length_map]; exact ⟨hG.2, hpg⟩
  · show 1 ≤ S.id ∧ S.id < N.nx + sp.length
    rcases hcase S hS with h1 | h1
    · have := h.id S h1; omega
    · have := nwD_mem _ _ _ _ S h1; have := h.nx; omega
  · refine List.pairwise_append.2 ⟨List.pairwise_append.2 ⟨hnp, nwD_ne _ _ _ _, fun x hx y hy => ?_⟩, hnq, fun x hx y hy => ?_⟩
    · have := h.id x (hPm x hx); have := nwD_mem _ _ _ _ y hy; omega
    · rcases List.mem_append.1 hx with hx | hx
      · exact hnx x (by simp [hx]) y hy
      · have := h.id y (hQm y hy); have := nwD_mem _ _ _ _ x hx; omega
  · show 2 ≤ N.nx + sp.length; have := h.nx; omega
  · show N.nx + sp.length ≤ ((B + 2 : Nat) : Int); have := h.nx; omega
  · show 1 ≤ N.ep + 1; have := h.ep; omega
  · show N.ep + 1 ≤ ((B + 2 : Nat) : Int); have := h.ep; omega
  · have := h.len
    simp only [List.length_append, nwD_len] at this ⊢
    omega
  · show (opD N.nx sp.length).length ≤ 2; rw [opD_len]; exact hs
theorem spD_len (c : ChD) (fr tt : Int) : (spD c fr tt).length ≤ 2 ∧ 1 ≤ (spD c fr tt).length := by unfold spD; split <;> simp
theorem one_ch (c : ChD) (S : ShD) (ml : List Int) (ps : List OrD) (nx : Int) (hf : fit1 c S = true) (a t : Int) (h : ChnD a [S] t) : ChnD a (nwD nx ml ps (spD c S.fr S.to)) t := by
  obtain ⟨h1, h2, h3⟩ := h
  have h4 : S.to = t := h3
  unfold spD
  by_cases hk : c.k = 1
  · rw [if_pos hk]
    unfold fit1 at hf
    rw [if_pos hk] at hf
    simp at hf
    exact ⟨h1, hf.1, rfl, hf.2, h4⟩
  · rw [if_neg hk]
    exact ⟨h1, h2, h4⟩
theorem mlD_mb (c : ChD) (S : ShD) (h : memB S.mem = true) (hf : fit1 c S = true) : memB (mlD c S) = true := by
  unfold mlD
  split
  · rename_i hk
    unfold fit1 at hf
    rw [if_neg (by omega), if_pos hk] at hf
    exact memB_swD _ _ _ h hf
  · exact h
theorem gd_step {B : Nat} {N N' : AtN} {Z Z' : List ShD} {c : ChD} {r : Int} (h : Gd B N Z) (hs : StepR N Z c r N' Z') : Gd (B + 2) N' Z' := by
  cases hs with
  | bad _ => exact h.mono (by omega)
  | calm _ _ _ _ => exact h.mono (by omega)
  | settle _ _ _ _ =>
    have := h.mono (B' := B + 2) (by omega)
    exact ⟨this.ch, this.mb, this.pa, this.id, this.ne, this.nx, this.ep, this.len, by show (0 : Nat) ≤ 2; omega, this.bl⟩
  | down _ _ _ _ => exact h.mono (by omega)
  | miss _ _ _ _ _ => exact h.mono (by omega)
  | miss2 _ _ _ _ _ _ _ _ _ _ => exact h.mono (by omega)
  | unfit _ _ _ _ _ _ _ _ _ _ _ => exact h.mono (by omega)
  | unfit2 _ _ _ _ _ _ _ _ _ _ _ _ _ _ _ => exact h.mono (by omega)
  | one hk hn h5 h2 ho P Q S hZ hi hf =>
    have h' : Gd B N (P ++ [S] ++ Q) := by rw [hZ] at h; simpa using h
    exact h'.put ⟨by simp, by simp⟩ (spD_len c _ _).1 (mlD_mb c S (h'.mb S (by simp)) hf) fun a t ht => one_ch c S _ _ _ hf a t ht
  | two hk hn h2 ho P Q S U hZ hi hj =>
    have h' : Gd B N (P ++ [S, U] ++ Q) := by rw [hZ] at h; simpa using h
    refine h'.put ⟨by simp, by simp⟩ (by simp) (h'.mb S (by simp)) fun a t ht => ?_
    obtain ⟨h1, h2, h3, h4, h5⟩ := ht
    exact ⟨h1, by show S.fr < U.to; omega, h5⟩
end Go.Proofs.Ytnkjkaofgninnaa
namespace Go.Proofs.Ytnkjkaofgninnaa
open Go.RowKit Go.Maps Go.Shelf
set_option linter.unusedVariables false
set_option linter.unusedSimpArgs false

theorem map_mid {X : List SX} {P Q : List ShD} {S : ShD} (h : X.map (·.s) = P ++ S :: Q) : ∃ PX x QX, X = PX ++ x :: QX ∧ PX.map (·.s) = P ∧ x.s = S ∧ QX.map (·.s) = Q := by
  obtain ⟨PX, R, rfl, h1, h2⟩ := List.map_eq_append_iff.1 h
  obtain ⟨x, QX, rfl, h3, h4⟩ := List.map_eq_cons_iff.1 h2
  exact ⟨PX, x, QX, rfl, h1, h3, h4⟩
theorem ne_map {X : List SX} (h : (X.map (·.s)).Pairwise fun x y => x.id ≠ y.id) : X.Pairwise fun x y => x.s.id ≠ y.s.id := (List.pairwise_map (f := fun x : SX => x.s) (R := fun x y : ShD => x.id ≠ y.id)).1 h
theorem one_of {X : List SX} (h : X.Pairwise fun x y => x.s.id ≠ y.s.id) : ∀ x ∈ X, ∀ y ∈ X, y.s.id = x.s.id → y = x := fun x hx y hy e => by
  obtain ⟨i, hi, rfl⟩ := List.mem_iff_getElem.1 hx
  obtain ⟨j, hj, rfl⟩ := List.mem_iff_getElem.1 hy
  rcases Nat.lt_trichotomy i j with h1 | h1 | h1
  · exact absurd e.symm (List.pairwise_iff_getElem.1 h i j hi hj h1)
  · subst h1; rfl
  · exact absurd e (List.pairwise_iff_getElem.1 h j i hj hi h1)
theorem ChnD.rise : ∀ (X : List ShD) (a b : Int), ChnD a X b → X.Pairwise fun x y => x.to ≤ y.fr
  | [], _, _, _ => List.Pairwise.nil
  | y :: l, a, b, ⟨h1, h2, h3⟩ => List.pairwise_cons.2 ⟨fun x hx => (ChnD.mem l _ b h3 x hx).1, ChnD.rise l _ b h3⟩
/-- The one that begins where another ends is the next. -/
theorem chn_next {a b : Int} {Z P Q P' Q' : List ShD} {S U : ShD} (h : ChnD a Z b) (hZ : Z = P ++ S :: Q) (hZ' : Z = P' ++ U :: Q') (he : U.fr = S.to) : P'.length = P.length + 1 := by
  have hr := List.pairwise_iff_getElem.1 (ChnD.rise Z a b h)
  have hm := ChnD.mem Z a b h
  have hi : P.length < Z.length := by rw [hZ]; simp
  have hj : P'.length < Z.length := by rw [hZ']; simp
  have hS : Z[P.length] = S := by subst hZ; simp
  have hU : Z[P'.length] = U := by subst hZ'; simp
  have hS2 := hm S (by rw [hZ]; simp)
  have hU2 := hm U (by rw [hZ']; simp)
  rcases Nat.lt_trichotomy P'.length P.length with h1 | h1 | h1
  · have := hr _ _ hj hi h1
    rw [hS, hU] at this; omega
  · have : S = U := by rw [← hS, ← hU]; simp [h1]
    subst this; omega
  · by_cases h2 : P'.length = P.length + 1
    · exact h2
    · have hk : P.length + 1 < Z.length := by omega
      have e1 := hr _ _ hi hk (by omega)
      have e2 := hr _ _ hk hj (by omega)
      have := hm _ (List.getElem_mem hk)
      rw [hS] at e1
      rw [hU] at e2
      omega
/-- What Apply leaves. -/
def ApP (b wb mb n : Nat) (N' : AtN) (Z' : List ShD) (r : Int) (w : World) (e : Ending) (w' : World) : Prop :=
  ∃ n' ov' D' X', e = .returned (.int .i64 r) ∧ At w' b wb mb n' ov' D' N' X' ∧ X'.map (·.s) = Z' ∧ n' ≤ n + 2 ∧ Tr (AtR b wb mb) w w'
def RaP (xb : Nat) (N' : AtN) (Z' : List ShD) (r : Int) (w : World) (e : Ending) (w' : World) : Prop :=
  ∃ rv' sv' Y', e = .returned (.int .i64 r) ∧ RB w' xb N' rv' sv' Y' ∧ Y'.map (·.s) = Z' ∧ Tr (fun q => q = xb) w w'
theorem ap_same {b wb mb n : Nat} {ov : Value} {D : DataW Value} {N : AtN} {X : List SX} {w : World} {r : Int} (h : At w b wb mb n ov D N X) (e : Ending) (w' : World) (he : e = .returned (.int .i64 r) ∧ Below w.heap.size w w') : ApP b wb mb n N (X.map (·.s)) r w e w' :=
  ⟨n, ov, D, X, he.1, h.below he.2, rfl, by omega, Tr.below he.2⟩
theorem ra_same {xb : Nat} {rv sv : Value} {N : AtN} {Y : List SX} {w : World} {r : Int} (h : RB w xb N rv sv Y) (e : Ending) (w' : World) (he : e = .returned (.int .i64 r) ∧ Below w.heap.size w w') : RaP xb N (Y.map (·.s)) r w e w' :=
  ⟨rv, sv, Y, he.1, h.below he.2, rfl, Tr.below he.2⟩
theorem fit1_B {c : ChD} {S : ShD} (h3 : c.k ≠ 3) (h2 : c.k ≠ 2) : fitB c S S = fit1 c S := by
  unfold fitB fit1
  rw [if_neg h2, if_neg h3]
theorem sp_in {c : ChD} {S : ShD} {fr tt : Int} (h1 : 0 ≤ fr ∧ tt ≤ 256) (h2 : c.k = 1 → fr < c.at' ∧ c.at' < tt) (h3 : fr < tt) : ∀ s ∈ spD c fr tt, -9223372036854775808 ≤ s.1 ∧ s.2 ≤ 9223372036854775807 := by
  unfold spD
  split
  · rename_i hk
    have := h2 hk
    intro s hs
    simp at hs
    rcases hs with rfl | rfl <;> constructor <;> simp only <;> omega
  · intro s hs
    simp at hs
    subst hs
    constructor <;> simp only <;> omega
theorem mem7 {l : List Int} (h : memB l = true) : l.length ≤ 7 := by
  obtain ⟨hr, hn, -⟩ := mem_rise h
  have := rise_len l 0 hr hn; omega
set_option maxHeartbeats 1000000 in
theorem aapply_any (b wb mb n B : Nat) (ov : Value) (D : DataW Value) (N N' : AtN) (X : List SX) (Z' : List ShD) (c : ChD) (r : Int) (w : World) (h : At w b wb mb n ov D N X) (g : Gd B N (X.map (·.s))) (hs : StepR N (X.map (·.s)) c r N' Z') (hc : ChJ c) (hB : B ≤ 1000) (hn : n ≤ 1000) :
    Calls Try.prog 7 #[.pointer (some ⟨b, 0, none⟩), chV c] w (ApP b wb mb n N' Z' r w) := by
  have hsh : I64 c.sh := hc c.sh (by simp [numC])
  have hot : I64 c.ot := hc c.ot (by simp [numC])
  have hneX := ne_map g.ne
  have honX := one_of hneX
  have gS := gd_step g hs
  have hXI : ∀ x ∈ X, I64 x.s.id := fun x hx => by have := g.id x.s (List.mem_map.2 ⟨x, hx, rfl⟩); have := g.nx; constructor <;> omega
  have hlt : ∀ x ∈ X, x.s.id < N.nx := fun x hx => (g.id x.s (List.mem_map.2 ⟨x, hx, rfl⟩)).2
  have hxl : X.length ≤ 100000 := by have := g.len; rw [List.length_map] at this; omega
  cases hs with
  | bad hb =>
    cases hk : akB c.k with
    | false => exact (apply_kind b c w hk).mono (ap_same h)
    | true => exact (apply_field b c w hk (hb.resolve_left (by simp [hk]))).mono (ap_same h)
  | calm hk hnm h5 ho => exact (apply_calm b wb mb n ov D N X c w h hk hnm h5 ho).mono (ap_same h)
  | settle hk hnm h5 ho =>
    refine (apply_settle b wb mb n ov D N X c w h hk hnm h5 ho).mono ?_
    rintro e w' ⟨rfl, ha, ht⟩
    exact ⟨n, _, D, X, rfl, ha, rfl, by omega, ht⟩
  | down hk hnm h5 ho => exact (apply_down b wb mb n ov D N X c w h hk hnm h5 ho).mono (ap_same h)
  | miss hk hnm h5 ho hno => exact (apply_miss b wb mb n ov D N X c w h hk hnm h5 ho hsh hot ⟨c.sh, by unfold idsD; split <;> simp, fun x hx => hno x.s (List.mem_map.2 ⟨x, hx, rfl⟩)⟩).mono (ap_same h)
  | miss2 hk hnm h2 ho P Q S hZ hi hno => exact (apply_miss b wb mb n ov D N X c w h hk hnm (by omega) ho hsh hot ⟨c.ot, by unfold idsD; rw [if_pos h2]; simp, fun x hx => hno x.s (List.mem_map.2 ⟨x, hx, rfl⟩)⟩).mono (ap_same h)
  | unfit hk hnm h5 h2 ho P Q S hZ hi hf =>
    obtain ⟨PX, x, QX, hX, rfl, rfl, rfl⟩ := map_mid hZ
    have hx : x ∈ X := by rw [hX]; simp
    refine (apply_unfit b wb mb n 1 ov D N X [x] c w h hk hnm h5 (fun W hW => gone_one b wb mb n ov D N _ X c x W hW ho hsh hot h2 hx hi fun y hy e => honX x hx y hy e) (fun W v hv => ?_)).mono (ap_same h)
    by_cases h3 : c.k = 3
    · refine (fits_rep c x.s x.mv x.pv v W h3 hv).mono fun e w' he => ⟨?_, he.2⟩
      unfold fit1 at hf
      rw [if_neg (by omega), if_pos h3] at hf
      rw [he.1, hf]
    · refine (fits_one c x.s x.mv x.pv v W h3 h2 hv).mono fun e w' he => ⟨?_, he.2⟩
      rw [he.1, fit1_B h3 h2, hf]
  | unfit2 hk hnm h2 ho P Q P' Q' S U hZ hi hZ' hj hne =>
    have hfr : ¬ U.fr = S.to := fun e => hne (chn_next g.ch hZ hZ' e)
    obtain ⟨PX, x, QX, hX, -, rfl, -⟩ := map_mid hZ
    obtain ⟨PY, y, QY, hY, -, rfl, -⟩ := map_mid hZ'
    have hx : x ∈ X := by rw [hX]; simp
    have hy : y ∈ X := by rw [hY]; simp
    refine (apply_unfit b wb mb n 2 ov D N X [x, y] c w h hk hnm (by omega) (fun W hW => gone_two b wb mb n ov D N _ X c x y W hW ho hsh hot h2 hx hi (fun z hz e => honX x hx z hz e) hy hj (fun z hz e => honX y hy z hz e)) (fun W v hv => ?_)).mono (ap_same h)
    refine (fits_two c x.s y.s x.mv x.pv y.mv y.pv v W h2 hv).mono fun e w' he => ⟨?_, he.2⟩
    rw [he.1]
    unfold fitB
    rw [if_neg (by omega), if_pos h2, decide_eq_false hfr]
  | one hk hnm h5 h2 ho P Q S hZ hi hf =>
    obtain ⟨PX, x, QX, hX, rfl, rfl, rfl⟩ := map_mid hZ
    have hx : x ∈ X := by rw [hX]; simp
    have hch := (chn_d X 0 N.bl).2 g.ch
    have hX' : X = PX ++ [x] ++ QX := by rw [hX]; simp
    have hmem := Chn.mem X 0 N.bl hch x hx
    rw [hX'] at hch
    obtain ⟨t, h12, hq⟩ := (Chn.append _ _ _ _).1 hch
    obtain ⟨f, hp, hg⟩ := (Chn.append _ _ _ _).1 h12
    have hbl := g.bl
    have hfit : c.k = 1 → x.s.fr < c.at' ∧ c.at' < x.s.to := fun hk1 => by unfold fit1 at hf; rw [if_pos hk1] at hf; simpa using hf
    have hsi := sp_in (c := c) (S := x.s) (fr := x.s.fr) (tt := x.s.to) ⟨hmem.1, by omega⟩ hfit hmem.2.1
    have hcan : ∀ mv' pv' W', Can W' → Chs (X.map SX.pc) ((nwX N.nx (mlD c x.s) ([x].map fun x => x.or.o) mv' pv' (spD c x.s.fr x.s.to)).map SX.pc) W' → W' = (PX ++ nwX N.nx (mlD c x.s) ([x].map fun x => x.or.o) mv' pv' (spD c x.s.fr x.s.to) ++ QX).map SX.pc := fun mv' pv' W' hW hc' => by
      refine chn_put PX [x] QX _ 0 f t N.bl hp hg hq ?_ ?_ W' hW (by rw [← hX']; exact hc')
      · rw [chn_d, nwX_s]
        exact one_ch c x.s _ _ _ hf f t ((chn_d [x] f t).1 hg)
      · refine ne_map ?_
        rw [List.map_append, List.map_append, nwX_s]
        exact gS.ne
    have hout := outX_mid PX [x] QX (by rw [← hX']; exact hneX)
    rw [← hX'] at hout
    have fin : ∀ e w', ApK b wb mb n N PX [x] QX (spD c x.s.fr x.s.to) (mlD c x.s) w e w' → ApP b wb mb n (afD N (spD c x.s.fr x.s.to)) (PX.map (·.s) ++ nwD N.nx (mlD c x.s) [x.s.or] (spD c x.s.fr x.s.to) ++ QX.map (·.s)) 0 w e w' := by
      rintro e w' ⟨ov', D', mv, pvo, he, ha, ht⟩
      exact ⟨_, ov', D', _, he, ha, by rw [List.map_append, List.map_append, nwX_s]; rfl, by have := (spD_len c x.s.fr x.s.to).1; omega, ht⟩
    by_cases h3 : c.k = 3
    · have hml : mlD c x.s = swD x.s.mem c.out c.in' := by unfold mlD; rw [if_pos h3]
      refine (apply_rep b wb mb n ov D N X PX QX [x] x.s x.mv x.pv c w h hk hnm h3 ho rfl (by simpa using hx) hi (fun y hy e => honX x hx y hy e) (mlD c x.s) hml (g.mb x.s (List.mem_map.2 ⟨x, hx, rfl⟩)) (by unfold fit1 at hf; rw [if_neg (by omega), if_pos h3] at hf; exact hf) hXI (by omega) (by have := g.nx; omega) (by have := g.ep; omega) hlt hxl hsi hsh hot (by have := mem7 (g.mb x.s (List.mem_map.2 ⟨x, hx, rfl⟩)); omega) hcan hout).mono fin
    · have hml : mlD c x.s = x.s.mem := by unfold mlD; rw [if_neg h3]
      rw [hml] at hcan fin ⊢
      exact (apply_one b wb mb n ov D N X PX QX [x] x.s x.mv x.pv c w h hk hnm h2 h3 h5 ho rfl (by simpa using hx) hi (fun y hy e => honX x hx y hy e) (by rw [fit1_B h3 h2]; exact hf) hXI (by omega) (by have := g.nx; omega) (by have := g.ep; omega) hlt hxl hsi hsh hot (by have := mem7 (g.mb x.s (List.mem_map.2 ⟨x, hx, rfl⟩)); omega) hcan hout).mono fin
  | two hk hnm h2 ho P Q S U hZ hi hj =>
    obtain ⟨PX, x, RX, hX, rfl, rfl, hR⟩ := map_mid hZ
    obtain ⟨y, QX, rfl, rfl, rfl⟩ := List.map_eq_cons_iff.1 hR
    have hx : x ∈ X := by rw [hX]; simp
    have hy : y ∈ X := by rw [hX]; simp
    have hch := (chn_d X 0 N.bl).2 g.ch
    have hX' : X = PX ++ [x, y] ++ QX := by rw [hX]; simp
    have hmx := Chn.mem X 0 N.bl hch x hx
    have hmy := Chn.mem X 0 N.bl hch y hy
    rw [hX'] at hch
    obtain ⟨t, h12, hq⟩ := (Chn.append _ _ _ _).1 hch
    obtain ⟨f, hp, hg⟩ := (Chn.append _ _ _ _).1 h12
    obtain ⟨q1, q2, q3, q4, q5⟩ := hg
    have hbl := g.bl
    have hsp : spD c x.s.fr y.s.to = [(x.s.fr, y.s.to)] := by unfold spD; rw [if_neg (by omega)]
    have hsi := sp_in (c := c) (S := x.s) (fr := x.s.fr) (tt := y.s.to) ⟨hmx.1, by omega⟩ (fun hk1 => by omega) (by omega)
    have hcan : ∀ mv' pv' W', Can W' → Chs (X.map SX.pc) ((nwX N.nx x.s.mem ([x, y].map fun x => x.or.o) mv' pv' (spD c x.s.fr y.s.to)).map SX.pc) W' → W' = (PX ++ nwX N.nx x.s.mem ([x, y].map fun x => x.or.o) mv' pv' (spD c x.s.fr y.s.to) ++ QX).map SX.pc := fun mv' pv' W' hW hc' => by
      refine chn_put PX [x, y] QX _ 0 f t N.bl hp ⟨q1, q2, q3, q4, q5⟩ hq ?_ ?_ W' hW (by rw [← hX']; exact hc')
      · rw [hsp]
        exact ⟨q1, by show x.s.fr < y.s.to; omega, q5⟩
      · refine ne_map ?_
        rw [List.map_append, List.map_append, nwX_s, hsp]
        exact gS.ne
    have hout := outX_mid PX [x, y] QX (by rw [← hX']; exact hneX)
    rw [← hX'] at hout
    refine (apply_two b wb mb n ov D N X PX QX [x, y] x.s y.s x.mv x.pv y.mv y.pv c w h hk hnm h2 ho rfl (by simp [hx, hy]) hi (fun z hz e => honX x hx z hz e) hj (fun z hz e => honX y hy z hz e) (by unfold fitB; rw [if_neg (by omega), if_pos h2, decide_eq_true (by omega)]) hXI (by omega) (by have := g.nx; omega) (by have := g.ep; omega) hlt hxl hsi hsh hot (by have := mem7 (g.mb x.s (List.mem_map.2 ⟨x, hx, rfl⟩)); omega) hcan hout).mono ?_
    rintro e w' ⟨ov', D', mv, pvo, he, ha, ht⟩
    rw [hsp] at ha
    exact ⟨_, ov', D', _, he, ha, by rw [List.map_append, List.map_append, nwX_s]; rfl, by simp, ht⟩
theorem rapply_any (xb B : Nat) (rv sv : Value) (N N' : AtN) (Y : List SX) (Z' : List ShD) (c : ChD) (r : Int) (w : World) (h : RB w xb N rv sv Y) (g : Gd B N (Y.map (·.s))) (hs : StepR N (Y.map (·.s)) c r N' Z') (hB : B ≤ 1000) :
    Calls Try.prog 20 #[.pointer (some ⟨xb, 0, none⟩), chV c] w (RaP xb N' Z' r w) := by
  have hneY := ne_map g.ne
  have hnx : 0 ≤ N.nx ∧ N.nx ≤ 1073741824 := by have := g.nx; omega
  have hep : 0 ≤ N.ep ∧ N.ep ≤ 1073741824 := by have := g.ep; omega
  have hl : Y.length ≤ 100000 := by have := g.len; rw [List.length_map] at this; omega
  have hno : ∀ {i : Int}, (∀ z ∈ Y.map (·.s), z.id ≠ i) → ∀ z ∈ Y, z.s.id ≠ i := fun hh z hz => hh z.s (List.mem_map.2 ⟨z, hz, rfl⟩)
  have fin : ∀ (P G Q : List SX) (sp : List Sp) (ml : List Int) (e : Ending) (w' : World), RaK xb N P G Q sp ml w e w' → RaP xb (afD N sp) (P.map (·.s) ++ nwD N.nx ml (G.map fun x => x.or.o) sp ++ Q.map (·.s)) 0 w e w' := by
    rintro P G Q sp ml e w' ⟨ov', sv', mv, pv, he, hr, ht⟩
    exact ⟨ov', sv', _, he, hr, by rw [List.map_append, List.map_append, nwX_s], ht⟩
  cases hs with
  | bad hb => exact (rapp_bad xb c w hb).mono (ra_same h)
  | calm hk hnm h5 ho =>
    have hf : c = ⟨5, 0, 0, 0, 0, 0⟩ := by
      rcases ch_form c hk hnm with e | e | e | e | e
      · rw [e] at h5; simp at h5
      · rw [e] at h5; simp at h5
      · rw [e] at h5; simp at h5
      · rw [e] at h5; simp at h5
      · exact e
    rw [hf]
    exact (rapp_calm xb N rv sv Y w h ho).mono (ra_same h)
  | settle hk hnm h5 ho =>
    have hf : c = ⟨5, 0, 0, 0, 0, 0⟩ := by
      rcases ch_form c hk hnm with e | e | e | e | e
      · rw [e] at h5; simp at h5
      · rw [e] at h5; simp at h5
      · rw [e] at h5; simp at h5
      · rw [e] at h5; simp at h5
      · exact e
    rw [hf]
    exact (rapp_settle xb N rv sv Y w h ho).mono fun e w' he => ⟨_, sv, Y, he.1, he.2.1, rfl, he.2.2⟩
  | down hk hnm h5 ho => exact (rapp_down xb N rv sv Y c w h hk hnm h5 ho).mono (ra_same h)
  | miss hk hnm h5 ho hn => exact (rapp_miss xb N rv sv Y c w h hk hnm h5 ho hl (hno hn)).mono (ra_same h)
  | miss2 hk hnm h2 ho P Q S hZ hi hn =>
    obtain ⟨PX, x, QX, hX, rfl, rfl, rfl⟩ := map_mid hZ
    have hf : c = ⟨2, c.sh, c.ot, 0, 0, 0⟩ := by
      rcases ch_form c hk hnm with e | e | e | e | e
      · rw [e] at h2; simp at h2
      · exact e
      · rw [e] at h2; simp at h2
      · rw [e] at h2; simp at h2
      · rw [e] at h2; simp at h2
    rw [hf]
    exact (rapp_miss2 xb N rv sv Y PX QX x c.sh c.ot w h hX hi hneY ho hnx hep hl (hno hn)).mono (ra_same h)
  | unfit hk hnm h5 h2 ho P Q S hZ hi hf =>
    obtain ⟨PX, x, QX, hX, rfl, rfl, rfl⟩ := map_mid hZ
    unfold fit1 at hf
    rcases ch_form c hk hnm with e | e | e | e | e
    · have hk1 : c.k = 1 := by rw [e]
      rw [if_pos hk1] at hf
      rw [e]
      exact (rapp_unfit1 xb N rv sv Y PX QX x c.sh c.at' w h hX hi hneY ho hnx hep hl (by simpa using hf)).mono (ra_same h)
    · exact absurd (by rw [e]) h2
    · have hk3 : c.k = 3 := by rw [e]
      rw [if_neg (by omega), if_pos hk3] at hf
      rw [e]
      exact (rapp_unfit3 xb N rv sv Y PX QX x c.sh c.out c.in' w h hX hi hneY ho hnx hep hl (g.mb x.s (List.mem_map.2 ⟨x, by rw [hX]; simp, rfl⟩)) hf).mono (ra_same h)
    · have hk4 : c.k = 4 := by rw [e]
      rw [if_neg (by omega), if_neg (by omega)] at hf
      cases hf
    · exact absurd (by rw [e]) h5
  | unfit2 hk hnm h2 ho P Q P' Q' S U hZ hi hZ' hj hne =>
    obtain ⟨PX, x, QX, hX, rfl, rfl, rfl⟩ := map_mid hZ
    obtain ⟨PY, y, QY, hY, rfl, rfl, rfl⟩ := map_mid hZ'
    have hf : c = ⟨2, c.sh, c.ot, 0, 0, 0⟩ := by
      rcases ch_form c hk hnm with e | e | e | e | e
      · rw [e] at h2; simp at h2
      · exact e
      · rw [e] at h2; simp at h2
      · rw [e] at h2; simp at h2
      · rw [e] at h2; simp at h2
    rw [hf]
    exact (rapp_unfit2 xb N rv sv Y PX QX PY QY x y c.sh c.ot w h hX hi hneY ho hnx hep hl hY hj (by simpa using hne)).mono (ra_same h)
  | one hk hnm h5 h2 ho P Q S hZ hi hf =>
    obtain ⟨PX, x, QX, hX, rfl, rfl, rfl⟩ := map_mid hZ
    have hm := g.mb x.s (List.mem_map.2 ⟨x, by rw [hX]; simp, rfl⟩)
    have fin' := fin PX [x] QX
    unfold fit1 at hf
    rcases ch_form c hk hnm with e | e | e | e | e
    · have hk1 : c.k = 1 := by rw [e]
      rw [if_pos hk1] at hf
      have hsp : spD c x.s.fr x.s.to = [(x.s.fr, c.at'), (c.at', x.s.to)] := by unfold spD; rw [if_pos hk1]
      have hml : mlD c x.s = x.s.mem := by unfold mlD; rw [if_neg (by omega)]
      have hf2 : x.s.fr < c.at' ∧ c.at' < x.s.to := by simpa using hf
      rw [hsp, hml]
      rw [show chV c = chV ⟨1, c.sh, 0, c.at', 0, 0⟩ from congrArg chV e]
      exact (rapp_split xb N rv sv Y PX QX x c.sh c.at' w h hX hi hneY ho hnx hep hl hf2.1 hf2.2).mono (fin' _ _)
    · exact absurd (by rw [e]) h2
    · have hk3 : c.k = 3 := by rw [e]
      rw [if_neg (by omega), if_pos hk3] at hf
      have hsp : spD c x.s.fr x.s.to = [(x.s.fr, x.s.to)] := by unfold spD; rw [if_neg (by omega)]
      have hml : mlD c x.s = swD x.s.mem c.out c.in' := by unfold mlD; rw [if_pos hk3]
      rw [hsp, hml]
      rw [show chV c = chV ⟨3, c.sh, 0, 0, c.out, c.in'⟩ from congrArg chV e]
      exact (rapp_rep xb N rv sv Y PX QX x c.sh c.out c.in' w h hX hi hneY ho hnx hep hl hm hf).mono (fin' _ _)
    · have hk4 : c.k = 4 := by rw [e]
      have hsp : spD c x.s.fr x.s.to = [(x.s.fr, x.s.to)] := by unfold spD; rw [if_neg (by omega)]
      have hml : mlD c x.s = x.s.mem := by unfold mlD; rw [if_neg (by omega)]
      rw [hsp, hml]
      rw [show chV c = chV ⟨4, c.sh, 0, 0, 0, 0⟩ from congrArg chV e]
      exact (rapp_renew xb N rv sv Y PX QX x c.sh w h hX hi hneY ho hnx hep hl).mono (fin' _ _)
    · exact absurd (by rw [e]) h5
  | two hk hnm h2 ho P Q S U hZ hi hj =>
    obtain ⟨PX, x, RX, hX, rfl, rfl, hR⟩ := map_mid hZ
    obtain ⟨y, QX, rfl, rfl, rfl⟩ := List.map_eq_cons_iff.1 hR
    have hf : c = ⟨2, c.sh, c.ot, 0, 0, 0⟩ := by
      rcases ch_form c hk hnm with e | e | e | e | e
      · rw [e] at h2; simp at h2
      · exact e
      · rw [e] at h2; simp at h2
      · rw [e] at h2; simp at h2
      · rw [e] at h2; simp at h2
    rw [hf]
    exact (rapp_merge xb N rv sv Y PX QX x y c.sh c.ot w h hX hi hj hneY ho hnx hep hl).mono (fin PX [x, y] QX _ _)
end Go.Proofs.Ytnkjkaofgninnaa
namespace Go.Proofs.Ytnkjkaofgninnaa
open Go.RowKit Go.Maps Go.Shelf
set_option linter.unusedVariables false
set_option linter.unusedSimpArgs false

theorem u64_mod (n : Int) : IntKind.u64.wrap n = n % 18446744073709551616 := by simp [IntKind.wrap, IntKind.bits, IntKind.signed]
theorem rest_in2 (t m : Int) (h0 : 1 ≤ m) (h1 : m ≤ 1000000000) : 0 ≤ IntKind.i64.wrap ((IntKind.u64.wrap t).tmod m) ∧ IntKind.i64.wrap ((IntKind.u64.wrap t).tmod m) < m := by
  rw [u64_mod, Int.tmod_eq_emod_of_nonneg (by omega)]
  have a := Int.emod_nonneg (t % 18446744073709551616) (b := m) (by omega)
  have b := Int.emod_lt_of_pos (t % 18446744073709551616) (b := m) (by omega)
  rw [IntWalk.i64_in _ ⟨by omega, by omega⟩]
  exact ⟨a, b⟩
def stV (c : ChD) (nr : Bool) : Value := .agg #[.int .i64 c.k, .int .i64 c.sh, .int .i64 c.ot, .int .i64 c.at', .int .i64 c.out, .int .i64 c.in', .bool nr]
/-- What Of answers. -/
def OfP (w : World) (e : Ending) (w' : World) : Prop := ∃ c : ChD, e = .returned (chV c) ∧ ChJ c ∧ Below w.heap.size w w'
theorem heap_three (w : World) (A B C : Obj) : (((w.alloc A).alloc B).alloc C).heap[w.heap.size]? = some A ∧ (((w.alloc A).alloc B).alloc C).heap[w.heap.size + 1]? = some B ∧ (((w.alloc A).alloc B).alloc C).heap[w.heap.size + 2]? = some C := by
  obtain ⟨h1, h2⟩ := heap_two w A B
  refine ⟨?_, ?_, ?_⟩
  · rw [Below.heap_alloc _ _ _ (by simp; omega)]; exact h1
  · rw [Below.heap_alloc _ _ _ (by simp)]; exact h2
  · have := heap_alloc_new ((w.alloc A).alloc B) C
    simpa using this
set_option maxRecDepth 100000 in
set_option maxHeartbeats 8000000 in
theorem of_any (c : ChD) (nr : Bool) (xb B : Nat) (rv sv : Value) (N : AtN) (Y : List SX) (w : World) (hc : ChJ c) (h : RB w xb N rv sv Y) (g : Gd B N (Y.map (·.s))) (hB : B ≤ 1000) :
    Calls Try.prog 6 #[stV c nr, .pointer (some ⟨xb, 0, none⟩)] w (OfP w) := by
  obtain ⟨k, sh, ot, at', out, in'⟩ := c
  cases nr with
  | false =>
    obtain ⟨nr, hnr⟩ : ∃ nr, nr = false := ⟨_, rfl⟩
    rw [← hnr]
    have HNR := hid hnr
    have HJ := hid hc
    clear hnr h g hc
    obtain ⟨w1, hw1⟩ : ∃ w1, w1 = ((w.alloc (.cells #[.int .i64 k, .int .i64 sh, .int .i64 ot, .int .i64 at', .int .i64 out, .int .i64 in', .bool nr] 26)).alloc (.cells z6 24)).alloc (.cells #[.int .i64 k, .int .i64 sh, .int .i64 ot, .int .i64 at', .int .i64 out, .int .i64 in'] 24) := ⟨_, rfl⟩
    obtain ⟨hC1, hR1, hA1⟩ := heap_three w (.cells #[.int .i64 k, .int .i64 sh, .int .i64 ot, .int .i64 at', .int .i64 out, .int .i64 in', .bool nr] 26) (.cells z6 24) (.cells #[.int .i64 k, .int .i64 sh, .int .i64 ot, .int .i64 at', .int .i64 out, .int .i64 in'] 24)
    rw [← hw1] at hC1 hR1 hA1
    have HB1 : Hid (Below w.heap.size w w1) := hid (by rw [hw1]; exact (((Below.refl _ _).alloc (Nat.le_refl _) _).alloc (by simp) _).alloc (by simp; omega) _)
    have HW1 := hid hw1
    have HC1 := hid hC1
    have HR1 := hid hR1
    have HA1 := hid hA1
    obtain ⟨w0, hw0⟩ : ∃ w0, w0 = (w.alloc (.cells #[.int .i64 k, .int .i64 sh, .int .i64 ot, .int .i64 at', .int .i64 out, .int .i64 in', .bool nr] 26)).alloc (.cells z6 24) := ⟨_, rfl⟩
    have hrg : w0.rangeAt w.heap.size 0 [.int .i64 k, .int .i64 sh, .int .i64 ot, .int .i64 at', .int .i64 out, .int .i64 in'] := by
      rw [hw0]
      refine range_of_row (heap_two w _ _).1 0 _ fun j v hv => ?_
      match j, hv with
      | 0, hv => exact hv
      | 1, hv => exact hv
      | 2, hv => exact hv
      | 3, hv => exact hv
      | 4, hv => exact hv
      | 5, hv => exact hv
    have HW0 := hid hw0
    have HS0 : Hid (w0.heap.size = w.heap.size + 2) := hid (by rw [hw0]; simp)
    rw [← hw0] at HW1
    clear hw1 hw0 hC1 hR1 hA1
    unfold z6 at HW0
    obtain ⟨dC, hdC1, hdC2⟩ := Try.rowCh
    unfold stV
    go_enter Try.func6, Try.ntmps6
    go_upto_region 1 with fail
    rw [← HW0.out]
    clear HW0
    go_upto_region 2 with (refine wpList_load_mid rfl _ _ rfl w.heap.size 0 (by go_simp) [.int .i64 k, .int .i64 sh, .int .i64 ot, .int .i64 at', .int .i64 out, .int .i64 in'] dC hrg hdC1 hdC2 Try.sizeCh ?_)
    rw [← HW1.out]
    rw [HS0.out]
    clear HW1 hrg HS0
    obtain ⟨C, hC⟩ : ∃ C, C = w.heap.size := ⟨_, rfl⟩
    rw [← hC] at HC1 HR1 HA1
    rw [← hC]
    have HCE : Hid (w.heap.size ≤ C) := hid (by omega)
    clear hC
    have c6 : w1.cell? ⟨C, 6, none⟩ = some (.bool nr) := (cell_of_row _ _ _ _ _ _ HC1.out).trans rfl
    obtain rfl := HNR.out
    have hA9 := HA1.out
    have hR9 := HR1.out
    have HB9 := HB1
    unfold z6 at hR9
    clear HA1 HR1
    go_wp2_with (first | (refine wpl_loadK rfl _ rfl (C + 2) rfl _ _ _ rfl hA9 ?_) | (refine wpl_storeK rfl _ _ rfl (C + 1) _ _ _ _ _ _ rfl rfl rfl rfl rfl rfl rfl rfl _ _ rfl hR9 ?_))
    (try simp only [Exit.inBlock, Exit.then])
    refine bodyPost_ret (results_ch rfl _ _ (C + 1) _ _ _ rfl rfl (setRow_heap _ _ _ _ _ _ hR9)) rfl ?_
    exact ⟨⟨_, _, _, _, _, _⟩, rfl, HJ.out, below_row HB9.out (by have := HCE.out; omega) _⟩
  | true =>
    obtain ⟨nr, hnr⟩ : ∃ nr, nr = true := ⟨_, rfl⟩
    rw [← hnr]
    have HNR := hid hnr
    have HJ := hid hc
    have H := hid h
    have G := hid g
    obtain ⟨-, sva, svc, rfl⟩ := h.shapes
    have HYL : Hid (0 < Y.length) := hid (by
      cases Y with
      | nil => have := g.bl; have h0 : (0 : Int) = N.bl := g.ch; omega
      | cons y l => simp)
    clear hnr h g hc
    obtain ⟨w1, hw1⟩ : ∃ w1, w1 = ((w.alloc (.cells #[.int .i64 k, .int .i64 sh, .int .i64 ot, .int .i64 at', .int .i64 out, .int .i64 in', .bool nr] 26)).alloc (.cells z6 24)).alloc (.cells #[.int .i64 k, .int .i64 sh, .int .i64 ot, .int .i64 at', .int .i64 out, .int .i64 in'] 24) := ⟨_, rfl⟩
    obtain ⟨hC1, hR1, hA1⟩ := heap_three w (.cells #[.int .i64 k, .int .i64 sh, .int .i64 ot, .int .i64 at', .int .i64 out, .int .i64 in', .bool nr] 26) (.cells z6 24) (.cells #[.int .i64 k, .int .i64 sh, .int .i64 ot, .int .i64 at', .int .i64 out, .int .i64 in'] 24)
    rw [← hw1] at hC1 hR1 hA1
    have HB1 : Hid (Below w.heap.size w w1) := hid (by rw [hw1]; exact (((Below.refl _ _).alloc (Nat.le_refl _) _).alloc (by simp) _).alloc (by simp; omega) _)
    have HW1 := hid hw1
    have HC1 := hid hC1
    have HR1 := hid hR1
    have HA1 := hid hA1
    obtain ⟨w0, hw0⟩ : ∃ w0, w0 = (w.alloc (.cells #[.int .i64 k, .int .i64 sh, .int .i64 ot, .int .i64 at', .int .i64 out, .int .i64 in', .bool nr] 26)).alloc (.cells z6 24) := ⟨_, rfl⟩
    have hrg : w0.rangeAt w.heap.size 0 [.int .i64 k, .int .i64 sh, .int .i64 ot, .int .i64 at', .int .i64 out, .int .i64 in'] := by
      rw [hw0]
      refine range_of_row (heap_two w _ _).1 0 _ fun j v hv => ?_
      match j, hv with
      | 0, hv => exact hv
      | 1, hv => exact hv
      | 2, hv => exact hv
      | 3, hv => exact hv
      | 4, hv => exact hv
      | 5, hv => exact hv
    have HW0 := hid hw0
    have HS0 : Hid (w0.heap.size = w.heap.size + 2) := hid (by rw [hw0]; simp)
    rw [← hw0] at HW1
    clear hw1 hw0 hC1 hR1 hA1
    unfold z6 at HW0
    obtain ⟨dC, hdC1, hdC2⟩ := Try.rowCh
    unfold stV
    go_enter Try.func6, Try.ntmps6
    go_upto_region 1 with fail
    rw [← HW0.out]
    clear HW0
    go_upto_region 2 with (refine wpList_load_mid rfl _ _ rfl w.heap.size 0 (by go_simp) [.int .i64 k, .int .i64 sh, .int .i64 ot, .int .i64 at', .int .i64 out, .int .i64 in'] dC hrg hdC1 hdC2 Try.sizeCh ?_)
    rw [← HW1.out]
    rw [HS0.out]
    clear HW1 hrg HS0
    obtain ⟨C, hC⟩ : ∃ C, C = w.heap.size := ⟨_, rfl⟩
    rw [← hC] at HC1 HR1 HA1
    rw [← hC]
    have HCE : Hid (w.heap.size ≤ C) := hid (by omega)
    clear hC
    have c6 : w1.cell? ⟨C, 6, none⟩ = some (.bool nr) := (cell_of_row _ _ _ _ _ _ HC1.out).trans rfl
    obtain rfl := HNR.out
    have a1 : w1.cell? ⟨C + 2, 1, none⟩ = some (.int .i64 sh) := (cell_of_row _ _ _ _ _ _ HA1.out).trans rfl
    have H1 := hid (H.out.below HB1.out)
    have x4 : w1.cell? ⟨xb, 4, none⟩ = some (.slice sva Y.length svc) := H1.out.cell 4
    go_upto_region 4 with fail
    refine wp_region_held_drew (S := fun Z => Z.cell? ⟨C + 2, 1, none⟩ = some (.int .i64 sh) ∧ Z.cell? ⟨xb, 4, none⟩ = some (.slice sva Y.length svc)) (by kernel_rfl) ⟨a1, x4⟩ (fun hHeld => ?_)
    have hwl : IntKind.u64.wrap (Y.length : Int) = (Y.length : Int) := IntWalk.u64_in _ ⟨by omega, by have := G.out.len; rw [List.length_map] at this; omega⟩
    have hwl0 : ¬ (Y.length : Int) = 0 := by have := HYL.out; omega
    have hyn : ¬ Y = [] := fun e => by have := HYL.out; rw [e] at this; simp at this
    refine wpAnyH_take (i := 0) (v := ?av0) rfl (by kernel_rfl) (by kernel_rfl) (by kernel_rfl) (fun _ _ _ h => h) (Or.inl ⟨by rfl, ?ay0⟩) (by assumption) ?ar0
    case ay0 => (intro w hSw; (try dsimp only at hSw); go_simp; try with_reducible rfl)
    (try simp only [Act.put, putS])
    refine wpAnyH_take (i := 1) (v := ?av1) rfl (by kernel_rfl) (by kernel_rfl) (by kernel_rfl) (fun _ _ _ h => h) (Or.inl ⟨by rfl, ?ay1⟩) (by assumption) ?ar1
    case ay1 => (intro w hSw; (try dsimp only at hSw); go_simp; try with_reducible rfl)
    (try simp only [Act.put, putS])
    refine wpAnyH_take (i := 2) (v := ?av2) rfl (by kernel_rfl) (by kernel_rfl) (by kernel_rfl) (fun _ _ _ h => h) (Or.inl ⟨by rfl, ?ay2⟩) (by assumption) ?ar2
    case ay2 => (intro w hSw; (try dsimp only at hSw); go_simp; try with_reducible rfl)
    (try simp only [Act.put, putS])
    refine wpAnyH_take (i := 3) (v := ?av3) rfl (by kernel_rfl) (by kernel_rfl) (by kernel_rfl) (fun _ _ _ h => h) (Or.inl ⟨by rfl, ?ay3⟩) (by assumption) ?ar3
    case ay3 => (intro w hSw; (try dsimp only at hSw); go_simp; try with_reducible rfl)
    (try simp only [Act.put, putS])
    refine wpAnyH_take (i := 4) (v := ?av4) rfl (by kernel_rfl) (by kernel_rfl) (by kernel_rfl) (fun _ _ _ h => h) (Or.inl ⟨by rfl, ?ay4⟩) (by assumption) ?ar4
    case ay4 => (intro w hSw; (try dsimp only at hSw); go_simp; try with_reducible rfl)
    (try simp only [Act.put, putS])
    refine wpAnyH_take (i := 5) (v := ?av5) rfl (by kernel_rfl) (by kernel_rfl) (by kernel_rfl) (fun _ _ _ h => h) (Or.inl ⟨by rfl, ?ay5⟩) (by assumption) ?ar5
    case ay5 => (intro w hSw; (try dsimp only at hSw); go_simp; try with_reducible rfl)
    (try simp only [Act.put, putS])
    refine wpAnyH_take (i := 6) (v := ?av6) rfl (by kernel_rfl) (by kernel_rfl) (by kernel_rfl) (fun _ _ _ h => h) (Or.inl ⟨by rfl, ?ay6⟩) (by assumption) ?ar6
    case ay6 => (intro w hSw; (try dsimp only at hSw); go_simp; try with_reducible rfl)
    (try simp only [Act.put, putS])
    refine wpAnyH_take (i := 7) (v := ?av7) rfl (by kernel_rfl) (by kernel_rfl) (by kernel_rfl) (fun _ _ _ h => h) (Or.inl ⟨by rfl, ?ay7⟩) (by assumption) ?ar7
    case ay7 => (intro w hSw; (try dsimp only at hSw); go_simp; try with_reducible rfl)
    (try simp only [Act.put, putS])
    refine wpAnyH_take (i := 8) (v := ?av8) rfl (by kernel_rfl) (by kernel_rfl) (by kernel_rfl) (fun _ _ _ h => h) (Or.inl ⟨by rfl, ?ay8⟩) (by assumption) ?ar8
    case ay8 => (intro w hSw; (try dsimp only at hSw); go_simp; try with_reducible rfl)
    (try simp only [Act.put, putS])
    refine wpAnyH_take (i := 9) (v := ?av9) rfl (by kernel_rfl) (by kernel_rfl) (by kernel_rfl) (fun _ _ _ h => h) (Or.inl ⟨by rfl, ?ay9⟩) (by assumption) ?ar9
    case ay9 => (intro w hSw; (try dsimp only at hSw); go_simp; try with_reducible rfl)
    (try simp only [Act.put, putS])
    refine wpAnyH_take (i := 10) (v := ?av10) rfl (by kernel_rfl) (by kernel_rfl) (by kernel_rfl) (fun _ _ _ h => h) (Or.inl ⟨by rfl, ?ay10⟩) (by assumption) ?ar10
    case ay10 => (intro w hSw; (try dsimp only at hSw); go_simp; try with_reducible rfl)
    (try simp only [Act.put, putS])
    refine wpAnyH_take (i := 11) (v := ?av11) rfl (by kernel_rfl) (by kernel_rfl) (by kernel_rfl) (fun _ _ _ h => h) (Or.inl ⟨by rfl, ?ay11⟩) (by assumption) ?ar11
    case ay11 => (intro w hSw; (try dsimp only at hSw); go_simp; try with_reducible rfl)
    (try simp only [Act.put, putS])
    refine wpAnyH_done (by kernel_rfl) ?_ _
    have hrr := rest_in2 sh (Y.length : Int) (by have := HYL.out; omega) (by have := G.out.len; rw [List.length_map] at this; omega)
    obtain ⟨i, hie⟩ : ∃ i : Nat, IntKind.i64.wrap ((IntKind.u64.wrap sh).tmod (Y.length : Int)) = (i : Int) := ⟨(IntKind.i64.wrap ((IntKind.u64.wrap sh).tmod (Y.length : Int))).toNat, by rw [Int.toNat_of_nonneg hrr.1]⟩
    have hil : (i : Int) < (Y.length : Int) := by rw [← hie]; exact hrr.2
    rw [hie]
    clear hrr hie hHeld hwl hwl0 hyn
    have HIL : Hid (i < Y.length) := hid (by omega)
    have H2 := hid (H1.out.below ((Below.refl w1.heap.size w1).drew))
    have HA2 : Hid (w1.drew.heap[C + 2]? = _) := hid HA1.out
    have HR2 : Hid (w1.drew.heap[C + 1]? = _) := hid HR1.out
    have HB2 : Hid (Below w.heap.size w w1.drew) := hid (HB1.out.drew)
    clear H1 HA1 HR1 HB1 HC1 a1 x4 c6
    generalize w1.drew = w2 at *
    obtain ⟨g, rfl⟩ : ∃ g, sva = some ⟨g, 0, none⟩ := own_some H.out.row HYL.out
    have x4 : w2.cell? ⟨xb, 4, none⟩ = some (.slice (some ⟨g, 0, none⟩) Y.length svc) := H2.out.cell 4
    have y0 : w2.cell? ⟨g, i * 5, none⟩ = some (.int .i64 Y[i].s.id) := own_cell H2.out.row (shvs_part Y i HIL.out 0 _ rfl)
    have a1 : w2.cell? ⟨C + 2, 1, none⟩ = some (.int .i64 sh) := (cell_of_row _ _ _ _ _ _ HA2.out).trans rfl
    have f1 : w2.frozen? ⟨C + 2, 1, none⟩ = false := frozen_of_row _ _ _ _ _ HA2.out
    have HID : Hid (1 ≤ Y[i].s.id ∧ I64 Y[i].s.id) := hid (by
      have := G.out.id Y[i].s (List.mem_map.2 ⟨Y[i], List.getElem_mem _, rfl⟩)
      have := G.out.nx
      exact ⟨by omega, by constructor <;> omega⟩)
    have HFT : Hid (0 ≤ Y[i].s.fr ∧ Y[i].s.fr < Y[i].s.to ∧ Y[i].s.to ≤ 256) := hid (by
      have := ChnD.mem _ _ _ G.out.ch Y[i].s (List.mem_map.2 ⟨Y[i], List.getElem_mem _, rfl⟩)
      have := G.out.bl
      omega)
    have HFC : Hid (∀ W : World, RB W xb N rv (.slice (some ⟨g, 0, none⟩) Y.length svc) Y → W.cell? ⟨g, i * 5 + 1, none⟩ = some (.int .i64 Y[i].s.fr) ∧ W.cell? ⟨g, i * 5 + 1 + 1, none⟩ = some (.int .i64 Y[i].s.to)) := hid fun W hW => ⟨own_cell hW.row (shvs_part Y i HIL.out 1 _ rfl), own_cell hW.row (shvs_part Y i HIL.out 2 _ rfl)⟩
    generalize Y[i].s.id = id at *
    generalize Y[i].s.fr = fr at *
    generalize Y[i].s.to = tt at *
    go_upto_region 6 with fail
    clear x4 y0 a1 f1
    have HA3 : Hid ((w2.setCell ⟨C + 2, 1, none⟩ (.int .i64 id)).heap[C + 2]? = some (.cells #[.int .i64 k, .int .i64 id, .int .i64 ot, .int .i64 at', .int .i64 out, .int .i64 in'] 24 (0, 0))) := hid (heap_setCell_same _ _ _ _ _ _ HA2.out)
    have HR3 : Hid ((w2.setCell ⟨C + 2, 1, none⟩ (.int .i64 id)).heap[C + 1]? = some (.cells z6 24 (0, 0))) := hid ((Below.heap_setCell _ _ _ _ (by show C + 1 ≠ C + 2; omega)).trans HR2.out)
    have HB3 : Hid (Below w.heap.size w (w2.setCell ⟨C + 2, 1, none⟩ (.int .i64 id))) := hid (below_set HB2.out (by have := HCE.out; omega))
    clear HA2 HR2 HB2 H2
    generalize w2.setCell ⟨C + 2, 1, none⟩ (.int .i64 id) = w3 at *
    have H3 := hid (H.out.below HB3.out)
    have x4 : w3.cell? ⟨xb, 4, none⟩ = some (.slice (some ⟨g, 0, none⟩) Y.length svc) := H3.out.cell 4
    have a0 : w3.cell? ⟨C + 2, 0, none⟩ = some (.int .i64 k) := (cell_of_row _ _ _ _ _ _ HA3.out).trans rfl
    have hwi : IntKind.i64.wrap ((i : Int) + 1) = (i : Int) + 1 := IntWalk.i64_in _ ⟨by omega, by have := G.out.len; rw [List.length_map] at this; omega⟩
    have hi0 : (0 : Int) ≤ (i : Int) + 1 := by omega
    by_cases h2 : k = 2
    · subst h2
      by_cases hlt : (i : Int) + 1 < (Y.length : Int)
      · have hi1 : i + 1 < Y.length := by omega
        have y1 : w3.cell? ⟨g, (i + 1) * 5, none⟩ = some (.int .i64 Y[i + 1].s.id) := own_cell H3.out.row (shvs_part Y (i + 1) hi1 0 _ rfl)
        have a2 : w3.cell? ⟨C + 2, 2, none⟩ = some (.int .i64 ot) := (cell_of_row _ _ _ _ _ _ HA3.out).trans rfl
        have f2 : w3.frozen? ⟨C + 2, 2, none⟩ = false := frozen_of_row _ _ _ _ _ HA3.out
        have HID2 : Hid (I64 Y[i + 1].s.id) := hid (by
          have := G.out.id Y[i + 1].s (List.mem_map.2 ⟨Y[i + 1], List.getElem_mem _, rfl⟩)
          have := G.out.nx
          constructor <;> omega)
        generalize Y[i + 1].s.id = id2 at *
        clear hi1
        go_upto_region 8 with fail
        clear x4 y1 a2 f2 a0
        have HA4 : Hid ((w3.setCell ⟨C + 2, 2, none⟩ (.int .i64 id2)).heap[C + 2]? = some (.cells #[.int .i64 2, .int .i64 id, .int .i64 id2, .int .i64 at', .int .i64 out, .int .i64 in'] 24 (0, 0))) := hid (heap_setCell_same _ _ _ _ _ _ HA3.out)
        have hR9 : (w3.setCell ⟨C + 2, 2, none⟩ (.int .i64 id2)).heap[C + 1]? = some (.cells z6 24 (0, 0)) := (Below.heap_setCell _ _ _ _ (by show C + 1 ≠ C + 2; omega)).trans HR3.out
        have HB9 : Hid (Below w.heap.size w (w3.setCell ⟨C + 2, 2, none⟩ (.int .i64 id2))) := hid (below_set HB3.out (by have := HCE.out; omega))
        clear HA3 HR3 HB3 H3
        generalize w3.setCell ⟨C + 2, 2, none⟩ (.int .i64 id2) = w4 at *
        have hA9 := HA4.out
        have a0 : w4.cell? ⟨C + 2, 0, none⟩ = some (.int .i64 2) := (cell_of_row _ _ _ _ _ _ HA4.out).trans rfl
        replace HJ : Hid (ChJ ⟨2, id, id2, at', out, in'⟩) := hid (by
          have hj := HJ.out
          intro x hx
          simp [numC] at hx
          rcases hx with rfl | rfl | rfl | rfl | rfl | rfl
          · exact hj _ (by simp [numC])
          · exact HID.out.2
          · exact HID2.out
          all_goals exact hj _ (by simp [numC]))
        clear HA4
        unfold z6 at hR9
        go_wp2_with (first | (refine wpl_loadK rfl _ rfl (C + 2) rfl _ _ _ rfl hA9 ?_) | (refine wpl_storeK rfl _ _ rfl (C + 1) _ _ _ _ _ _ rfl rfl rfl rfl rfl rfl rfl rfl _ _ rfl hR9 ?_))
        (try simp only [Exit.inBlock, Exit.then])
        refine bodyPost_ret (results_ch rfl _ _ (C + 1) _ _ _ rfl rfl (setRow_heap _ _ _ _ _ _ hR9)) rfl ?_
        exact ⟨⟨_, _, _, _, _, _⟩, rfl, HJ.out, below_row HB9.out (by have := HCE.out; omega) _⟩
      · have hA9 := HA3.out
        have hR9 := HR3.out
        have HB9 := HB3
        replace HJ : Hid (ChJ ⟨2, id, ot, at', out, in'⟩) := hid (by
          have hj := HJ.out
          intro x hx
          simp [numC] at hx
          rcases hx with rfl | rfl | rfl | rfl | rfl | rfl
          · exact hj _ (by simp [numC])
          · exact HID.out.2
          all_goals exact hj _ (by simp [numC]))
        unfold z6 at hR9
        go_wp2_with (first | (refine wpl_loadK rfl _ rfl (C + 2) rfl _ _ _ rfl hA9 ?_) | (refine wpl_storeK rfl _ _ rfl (C + 1) _ _ _ _ _ _ rfl rfl rfl rfl rfl rfl rfl rfl _ _ rfl hR9 ?_))
        (try simp only [Exit.inBlock, Exit.then])
        refine bodyPost_ret (results_ch rfl _ _ (C + 1) _ _ _ rfl rfl (setRow_heap _ _ _ _ _ _ hR9)) rfl ?_
        exact ⟨⟨_, _, _, _, _, _⟩, rfl, HJ.out, below_row HB9.out (by have := HCE.out; omega) _⟩
    replace HJ : Hid (ChJ ⟨k, id, ot, at', out, in'⟩) := hid (by
      have hj := HJ.out
      intro x hx
      simp [numC] at hx
      rcases hx with rfl | rfl | rfl | rfl | rfl | rfl
      · exact hj _ (by simp [numC])
      · exact HID.out.2
      all_goals exact hj _ (by simp [numC]))
    have g2 : (k == 2) = false := by simpa using h2
    by_cases h1 : k = 1
    · subst h1
      clear h2
      obtain ⟨y1, y2⟩ := HFC.out w3 H3.out
      have a3 : w3.cell? ⟨C + 2, 3, none⟩ = some (.int .i64 at') := (cell_of_row _ _ _ _ _ _ HA3.out).trans rfl
      have f3 : w3.frozen? ⟨C + 2, 3, none⟩ = false := frozen_of_row _ _ _ _ _ HA3.out
      have hs1 : IntKind.i64.wrap (tt - fr) = tt - fr := IntWalk.i64_in _ ⟨by have := HFT.out; omega, by have := HFT.out; omega⟩
      have hs2 : IntKind.i64.wrap (tt - fr + 1) = tt - fr + 1 := IntWalk.i64_in _ ⟨by have := HFT.out; omega, by have := HFT.out; omega⟩
      have hs3 : IntKind.u64.wrap (tt - fr + 1) = tt - fr + 1 := IntWalk.u64_in _ ⟨by have := HFT.out; omega, by have := HFT.out; omega⟩
      have hs4 : ¬ tt - fr + 1 = 0 := by have := HFT.out; omega
      have HRR := hid (rest_in2 at' (tt - fr + 1) (by have := HFT.out; omega) (by have := HFT.out; omega))
      have HSV : Hid (∀ v : Int, (w3.setCell ⟨C + 2, 3, none⟩ (.int .i64 v)).drew.cell? ⟨g, i * 5 + 1, none⟩ = some (.int .i64 fr) ∧ (w3.setCell ⟨C + 2, 3, none⟩ (.int .i64 v)).drew.cell? ⟨g, i * 5 + 1 + 1, none⟩ = some (.int .i64 tt) ∧ (w3.setCell ⟨C + 2, 3, none⟩ (.int .i64 v)).drew.cell? ⟨xb, 4, none⟩ = some (.slice (some ⟨g, 0, none⟩) Y.length svc)) := hid fun v => by
        have h4 := H.out.below ((below_set HB3.out (i := 3) (v := .int .i64 v) (show w.heap.size ≤ C + 2 by have := HCE.out; omega)).drew)
        exact ⟨(HFC.out _ h4).1, (HFC.out _ h4).2, h4.cell 4⟩
      go_upto_region 9 with fail
      refine wp_region_held_drew (S := fun Z => Z.cell? ⟨g, i * 5 + 1, none⟩ = some (.int .i64 fr) ∧ Z.cell? ⟨g, i * 5 + 1 + 1, none⟩ = some (.int .i64 tt) ∧ Z.cell? ⟨xb, 4, none⟩ = some (.slice (some ⟨g, 0, none⟩) Y.length svc)) (by kernel_rfl) ⟨y1, y2, x4⟩ (fun hHeld => ?_)
      refine wpAnyH_take (i := 0) (v := ?bv0) rfl (by kernel_rfl) (by kernel_rfl) (by kernel_rfl) (fun _ _ _ h => h) (Or.inl ⟨by rfl, ?by0⟩) (by assumption) ?br0
      case by0 => (intro w hSw; (try dsimp only at hSw); go_simp; try with_reducible rfl)
      (try simp only [Act.put, putS])
      refine wpAnyH_take (i := 1) (v := ?bv1) rfl (by kernel_rfl) (by kernel_rfl) (by kernel_rfl) (fun _ _ _ h => h) (Or.inl ⟨by rfl, ?by1⟩) (by assumption) ?br1
      case by1 => (intro w hSw; (try dsimp only at hSw); go_simp; try with_reducible rfl)
      (try simp only [Act.put, putS])
      refine wpAnyH_take (i := 2) (v := ?bv2) rfl (by kernel_rfl) (by kernel_rfl) (by kernel_rfl) (fun _ _ _ h => h) (Or.inl ⟨by rfl, ?by2⟩) (by assumption) ?br2
      case by2 => (intro w hSw; (try dsimp only at hSw); go_simp; try with_reducible rfl)
      (try simp only [Act.put, putS])
      refine wpAnyH_take (i := 3) (v := ?bv3) rfl (by kernel_rfl) (by kernel_rfl) (by kernel_rfl) (fun _ _ _ h => h) (Or.inl ⟨by rfl, ?by3⟩) (by assumption) ?br3
      case by3 => (intro w hSw; (try dsimp only at hSw); go_simp; try with_reducible rfl)
      (try simp only [Act.put, putS])
      refine wpAnyH_take (i := 4) (v := ?bv4) rfl (by kernel_rfl) (by kernel_rfl) (by kernel_rfl) (fun _ _ _ h => h) (Or.inl ⟨by rfl, ?by4⟩) (by assumption) ?br4
      case by4 => (intro w hSw; (try dsimp only at hSw); go_simp; try with_reducible rfl)
      (try simp only [Act.put, putS])
      refine wpAnyH_take (i := 5) (v := ?bv5) rfl (by kernel_rfl) (by kernel_rfl) (by kernel_rfl) (fun _ _ _ h => h) (Or.inl ⟨by rfl, ?by5⟩) (by assumption) ?br5
      case by5 => (intro w hSw; (try dsimp only at hSw); go_simp; try with_reducible rfl)
      (try simp only [Act.put, putS])
      refine wpAnyH_take (i := 6) (v := ?bv6) rfl (by kernel_rfl) (by kernel_rfl) (by kernel_rfl) (fun _ _ _ h => h) (Or.inl ⟨by rfl, ?by6⟩) (by assumption) ?br6
      case by6 => (intro w hSw; (try dsimp only at hSw); go_simp; try with_reducible rfl)
      (try simp only [Act.put, putS])
      refine wpAnyH_take (i := 7) (v := ?bv7) rfl (by kernel_rfl) (by kernel_rfl) (by kernel_rfl) (fun _ _ _ h => h) (Or.inl ⟨by rfl, ?by7⟩) (by assumption) ?br7
      case by7 => (intro w hSw; (try dsimp only at hSw); go_simp; try with_reducible rfl)
      (try simp only [Act.put, putS])
      refine wpAnyH_take (i := 8) (v := ?bv8) rfl (by kernel_rfl) (by kernel_rfl) (by kernel_rfl) (fun _ _ _ h => h) (Or.inl ⟨by rfl, ?by8⟩) (by assumption) ?br8
      case by8 => (intro w hSw; (try dsimp only at hSw); go_simp; try with_reducible rfl)
      (try simp only [Act.put, putS])
      refine wpAnyH_take (i := 9) (v := ?bv9) rfl (by kernel_rfl) (by kernel_rfl) (by kernel_rfl) (fun _ _ _ h => h) (Or.inl ⟨by rfl, ?by9⟩) (by assumption) ?br9
      case by9 => (intro w hSw; (try dsimp only at hSw); go_simp; try with_reducible rfl)
      (try simp only [Act.put, putS])
      refine wpAnyH_take (i := 12) (v := ?bv12) rfl (by kernel_rfl) (by kernel_rfl) (by kernel_rfl) (fun _ _ _ h => h) (Or.inl ⟨by rfl, ?by12⟩) (by assumption) ?br12
      case by12 => (intro w hSw; (try dsimp only at hSw); go_simp; try with_reducible rfl)
      (try simp only [Act.put, putS])
      refine wpAnyH_take (i := 13) (v := ?bv13) rfl (by kernel_rfl) (by kernel_rfl) (by kernel_rfl) (fun _ _ _ h => h) (Or.inl ⟨by rfl, ?by13⟩) (by assumption) ?br13
      case by13 => (intro w hSw; (try dsimp only at hSw); go_simp; try with_reducible rfl)
      (try simp only [Act.put, putS])
      refine wpAnyH_take (i := 14) (v := ?bv14) rfl (by kernel_rfl) (by kernel_rfl) (by kernel_rfl) (fun _ _ _ h => h) (Or.inl ⟨by rfl, ?by14⟩) (by assumption) ?br14
      case by14 => (intro w hSw; (try dsimp only at hSw); go_simp; try with_reducible rfl)
      (try simp only [Act.put, putS])
      refine wpAnyH_take (i := 15) (v := ?bv15) rfl (by kernel_rfl) (by kernel_rfl) (by kernel_rfl) (fun _ _ _ h => h) (Or.inl ⟨by rfl, ?by15⟩) (by assumption) ?br15
      case by15 => (intro w hSw; (try dsimp only at hSw); go_simp; try with_reducible rfl)
      (try simp only [Act.put, putS])
      refine wpAnyH_take (i := 16) (v := ?bv16) rfl (by kernel_rfl) (by kernel_rfl) (by kernel_rfl) (fun _ _ _ h => h) (Or.inl ⟨by rfl, ?by16⟩) (by assumption) ?br16
      case by16 => (intro w hSw; (try dsimp only at hSw); go_simp; try with_reducible rfl)
      (try simp only [Act.put, putS])
      refine wpAnyH_take (i := 17) (v := ?bv17) rfl (by kernel_rfl) (by kernel_rfl) (by kernel_rfl) (fun _ _ _ h => h) (Or.inl ⟨by rfl, ?by17⟩) (by assumption) ?br17
      case by17 => (intro w hSw; (try dsimp only at hSw); go_simp; try with_reducible rfl)
      (try simp only [Act.put, putS])
      refine wpAnyH_take (i := 18) (v := ?bv18) rfl (by kernel_rfl) (by kernel_rfl) (by kernel_rfl) (fun _ _ _ h => h) (Or.inl ⟨by rfl, ?by18⟩) (by assumption) ?br18
      case by18 => (intro w hSw; (try dsimp only at hSw); go_simp; try with_reducible rfl)
      (try simp only [Act.put, putS])
      refine wpAnyH_take (i := 19) (v := ?bv19) rfl (by kernel_rfl) (by kernel_rfl) (by kernel_rfl) (fun _ _ _ h => h) (Or.inl ⟨by rfl, ?by19⟩) (by assumption) ?br19
      case by19 => (intro w hSw; (try dsimp only at hSw); go_simp; try with_reducible rfl)
      (try simp only [Act.put, putS])
      refine wpAnyH_take (i := 20) (v := ?bv20) rfl (by kernel_rfl) (by kernel_rfl) (by kernel_rfl) (fun _ _ _ h => h) (Or.inl ⟨by rfl, ?by20⟩) (by assumption) ?br20
      case by20 => (intro w hSw; (try dsimp only at hSw); go_simp; try with_reducible rfl)
      (try simp only [Act.put, putS])
      refine wpAnyH_take (i := 21) (v := ?bv21) rfl (by kernel_rfl) (by kernel_rfl) (by kernel_rfl) (fun _ _ _ h => h) (Or.inl ⟨by rfl, ?by21⟩) (by assumption) ?br21
      case by21 => (intro w hSw; (try dsimp only at hSw); go_simp; try with_reducible rfl)
      (try simp only [Act.put, putS])
      refine wpAnyH_take (i := 22) (v := ?bv22) rfl (by kernel_rfl) (by kernel_rfl) (by kernel_rfl) (fun _ _ _ h => h) (Or.inl ⟨by rfl, ?by22⟩) (by assumption) ?br22
      case by22 => (intro w hSw; (try dsimp only at hSw); go_simp; try with_reducible rfl)
      (try simp only [Act.put, putS])
      refine wpAnyH_take (i := 23) (v := ?bv23) rfl (by kernel_rfl) (by kernel_rfl) (by kernel_rfl) (fun _ _ _ h => h) (Or.inl ⟨by rfl, ?by23⟩) (by assumption) ?br23
      case by23 => (intro w hSw; (try dsimp only at hSw); go_simp; try with_reducible rfl)
      (try simp only [Act.put, putS])
      refine wpAnyH_take (i := 24) (v := ?bv24) rfl (by kernel_rfl) (by kernel_rfl) (by kernel_rfl) (fun _ _ _ h => h) (Or.inl ⟨by rfl, ?by24⟩) (by assumption) ?br24
      case by24 => (intro w hSw; (try dsimp only at hSw); go_simp; try with_reducible rfl)
      (try simp only [Act.put, putS])
      refine wpAnyH_take (i := 25) (v := ?bv25) rfl (by kernel_rfl) (by kernel_rfl) (by kernel_rfl) (fun _ _ _ h => h) (Or.inl ⟨by rfl, ?by25⟩) (by assumption) ?br25
      case by25 => (intro w hSw; (try dsimp only at hSw); go_simp; try with_reducible rfl)
      (try simp only [Act.put, putS])
      refine wpAnyH_take (i := 26) (v := ?bv26) rfl (by kernel_rfl) (by kernel_rfl) (by kernel_rfl) (fun _ _ _ h => h) (Or.inl ⟨by rfl, ?by26⟩) (by assumption) ?br26
      case by26 => (intro w hSw; (try dsimp only at hSw); go_simp; try with_reducible rfl)
      (try simp only [Act.put, putS])
      refine wpAnyH_take (i := 27) (v := ?bv27) rfl (by kernel_rfl) (by kernel_rfl) (by kernel_rfl) (fun _ _ _ h => h) (Or.inl ⟨by rfl, ?by27⟩) (by assumption) ?br27
      case by27 => (intro w hSw; (try dsimp only at hSw); go_simp; try with_reducible rfl)
      (try simp only [Act.put, putS])
      refine wpAnyH_take (i := 28) (v := ?bv28) rfl (by kernel_rfl) (by kernel_rfl) (by kernel_rfl) (fun _ _ _ h => h) (Or.inl ⟨by rfl, ?by28⟩) (by assumption) ?br28
      case by28 => (intro w hSw; (try dsimp only at hSw); go_simp; try with_reducible rfl)
      (try simp only [Act.put, putS])
      refine wpAnyH_take (i := 29) (v := ?bv29) rfl (by kernel_rfl) (by kernel_rfl) (by kernel_rfl) (fun _ _ _ h => h) (Or.inl ⟨by rfl, ?by29⟩) (by assumption) ?br29
      case by29 => (intro w hSw; (try dsimp only at hSw); go_simp; try with_reducible rfl)
      (try simp only [Act.put, putS])
      refine wpAnyH_take (i := 30) (v := ?bv30) rfl (by kernel_rfl) (by kernel_rfl) (by kernel_rfl) (fun _ _ _ h => h) (Or.inl ⟨by rfl, ?by30⟩) (by assumption) ?br30
      case by30 => (intro w hSw; (try dsimp only at hSw); go_simp; try with_reducible rfl)
      (try simp only [Act.put, putS])
      refine wpAnyH_take (i := 31) (v := ?bv31) rfl (by kernel_rfl) (by kernel_rfl) (by kernel_rfl) (fun _ _ _ h => h) (Or.inl ⟨by rfl, ?by31⟩) (by assumption) ?br31
      case by31 => (intro w hSw; (try dsimp only at hSw); go_simp; try with_reducible rfl)
      (try simp only [Act.put, putS])
      refine wpAnyH_take (i := 32) (v := ?bv32) rfl (by kernel_rfl) (by kernel_rfl) (by kernel_rfl) (fun _ _ _ h => h) (Or.inl ⟨by rfl, ?by32⟩) (by assumption) ?br32
      case by32 => (intro w hSw; (try dsimp only at hSw); go_simp; try with_reducible rfl)
      (try simp only [Act.put, putS])
      refine wpAnyH_ready (rs := [10]) (by kernel_rfl) (by simp) ?_
      refine AllReadyH.cons rfl (fun K hK => ?_) AllReadyH.nil
      rw [if_pos (by rfl)]
      go_simp
      refine hK.out _ _ hHeld (fun hHeld => ?_)
      try clear hK K
      (try simp only [Act.put, putS])
      refine wpAnyH_take (i := 11) (v := ?bv11) rfl (by kernel_rfl) (by kernel_rfl) (by kernel_rfl) (fun _ _ _ h => h) (Or.inl ⟨by rfl, ?by11⟩) (by assumption) ?br11
      case by11 => (intro w hSw; (try dsimp only at hSw); go_simp; try with_reducible rfl)
      (try simp only [Act.put, putS])
      refine wpAnyH_take (i := 33) (v := ?bv33) rfl (by kernel_rfl) (by kernel_rfl) (by kernel_rfl) (fun _ _ _ h => h) (Or.inl ⟨by rfl, ?by33⟩) (by assumption) ?br33
      case by33 => (intro w hSw; (try dsimp only at hSw); go_simp; try with_reducible rfl)
      (try simp only [Act.put, putS])
      refine wpAnyH_take (i := 34) (v := ?bv34) rfl (by kernel_rfl) (by kernel_rfl) (by kernel_rfl) (fun _ _ _ h => h) (Or.inl ⟨by rfl, ?by34⟩) (by assumption) ?br34
      case by34 => (intro w hSw; (try dsimp only at hSw); go_simp; try with_reducible rfl)
      (try simp only [Act.put, putS])
      refine wpAnyH_take (i := 35) (v := ?bv35) rfl (by kernel_rfl) (by kernel_rfl) (by kernel_rfl) (fun _ _ _ h => h) (Or.inl ⟨by rfl, ?by35⟩) (by assumption) ?br35
      case by35 => (intro w hSw; (try dsimp only at hSw); go_simp; try with_reducible rfl)
      (try simp only [Act.put, putS])
      refine wpAnyH_take (i := 36) (v := ?bv36) rfl (by kernel_rfl) (by kernel_rfl) (by kernel_rfl) (fun _ _ _ h => h) (Or.inl ⟨by rfl, ?by36⟩) (by assumption) ?br36
      case by36 => (intro w hSw; (try dsimp only at hSw); go_simp; try with_reducible rfl)
      (try simp only [Act.put, putS])
      refine wpAnyH_ready (rs := [37]) (by kernel_rfl) (by simp) ?_
      refine AllReadyH.cons rfl (fun K hK => ?_) AllReadyH.nil
      rw [if_pos (by rfl)]
      go_simp
      refine hK.out _ _ (HSV.out _) (fun hHeld => ?_)
      try clear hK K
      (try simp only [Act.put, putS])
      refine wpAnyH_done (by kernel_rfl) ?_ _
      obtain ⟨v, hv⟩ : ∃ v, v = IntKind.i64.wrap (fr + IntKind.i64.wrap ((IntKind.u64.wrap at').tmod (tt - fr + 1))) := ⟨_, rfl⟩
      have HV : Hid (I64 v) := hid (by
        have h1 := HRR.out
        have h2 := HFT.out
        rw [hv, IntWalk.i64_in _ ⟨by omega, by omega⟩]
        constructor <;> omega)
      rw [← hv]
      clear hv hHeld y1 y2 a3 f3 hs1 hs2 hs3 hs4 x4 a0
      have HA4 : Hid ((w3.setCell ⟨C + 2, 3, none⟩ (.int .i64 v)).drew.heap[C + 2]? = some (.cells #[.int .i64 1, .int .i64 id, .int .i64 ot, .int .i64 v, .int .i64 out, .int .i64 in'] 24 (0, 0))) := hid (heap_setCell_same _ _ _ _ _ _ HA3.out)
      have hR9 : (w3.setCell ⟨C + 2, 3, none⟩ (.int .i64 v)).drew.heap[C + 1]? = some (.cells z6 24 (0, 0)) := (Below.heap_setCell _ _ _ _ (by show C + 1 ≠ C + 2; omega)).trans HR3.out
      have HB9 : Hid (Below w.heap.size w (w3.setCell ⟨C + 2, 3, none⟩ (.int .i64 v)).drew) := hid (below_set HB3.out (by have := HCE.out; omega)).drew
      clear HA3 HR3 HB3 H3
      generalize (w3.setCell ⟨C + 2, 3, none⟩ (.int .i64 v)).drew = w4 at *
      have hA9 := HA4.out
      have a0 : w4.cell? ⟨C + 2, 0, none⟩ = some (.int .i64 1) := (cell_of_row _ _ _ _ _ _ HA4.out).trans rfl
      replace HJ : Hid (ChJ ⟨1, id, ot, v, out, in'⟩) := hid (by
        have hj := HJ.out
        intro x hx
        simp [numC] at hx
        rcases hx with rfl | rfl | rfl | rfl | rfl | rfl
        · exact hj _ (by simp [numC])
        · exact HID.out.2
        · exact hj _ (by simp [numC])
        · exact HV.out
        all_goals exact hj _ (by simp [numC]))
      clear HA4
      unfold z6 at hR9
      go_wp2_with (first | (refine wpl_loadK rfl _ rfl (C + 2) rfl _ _ _ rfl hA9 ?_) | (refine wpl_storeK rfl _ _ rfl (C + 1) _ _ _ _ _ _ rfl rfl rfl rfl rfl rfl rfl rfl _ _ rfl hR9 ?_))
      (try simp only [Exit.inBlock, Exit.then])
      refine bodyPost_ret (results_ch rfl _ _ (C + 1) _ _ _ rfl rfl (setRow_heap _ _ _ _ _ _ hR9)) rfl ?_
      exact ⟨⟨_, _, _, _, _, _⟩, rfl, HJ.out, below_row HB9.out (by have := HCE.out; omega) _⟩
    have g1 : (k == 1) = false := by simpa using h1
    by_cases h5 : k = 5
    · subst h5
      have hA3 := HA3.out
      go_upto_region 12 with (refine wpl_storeK rfl _ _ rfl (C + 2) _ _ _ _ _ _ rfl rfl rfl rfl rfl rfl rfl rfl _ _ rfl hA3 ?_)
      clear hA3 x4 a0
      have HA4 : Hid ((w3.setRow (C + 2) #[.int .i64 5, .int .i64 0, .int .i64 0, .int .i64 0, .int .i64 0, .int .i64 0]).heap[C + 2]? = some (.cells #[.int .i64 5, .int .i64 0, .int .i64 0, .int .i64 0, .int .i64 0, .int .i64 0] 24 (0, 0))) := hid (setRow_heap _ _ _ _ _ _ HA3.out)
      have hR9 : (w3.setRow (C + 2) #[.int .i64 5, .int .i64 0, .int .i64 0, .int .i64 0, .int .i64 0, .int .i64 0]).heap[C + 1]? = some (.cells z6 24 (0, 0)) := (setRow_other _ _ _ _ (by omega)).trans HR3.out
      have HB9 : Hid (Below w.heap.size w (w3.setRow (C + 2) #[.int .i64 5, .int .i64 0, .int .i64 0, .int .i64 0, .int .i64 0, .int .i64 0])) := hid (below_row HB3.out (by have := HCE.out; omega) _)
      clear HA3 HR3 HB3 H3
      generalize w3.setRow (C + 2) #[.int .i64 5, .int .i64 0, .int .i64 0, .int .i64 0, .int .i64 0, .int .i64 0] = w4 at *
      have hA9 := HA4.out
      replace HJ : Hid (ChJ ⟨5, 0, 0, 0, 0, 0⟩) := hid (by
        intro x hx
        simp [numC] at hx
        rcases hx with rfl | rfl <;> constructor <;> omega)
      clear HA4
      unfold z6 at hR9
      go_wp2_with (first | (refine wpl_loadK rfl _ rfl (C + 2) rfl _ _ _ rfl hA9 ?_) | (refine wpl_storeK rfl _ _ rfl (C + 1) _ _ _ _ _ _ rfl rfl rfl rfl rfl rfl rfl rfl _ _ rfl hR9 ?_))
      (try simp only [Exit.inBlock, Exit.then])
      refine bodyPost_ret (results_ch rfl _ _ (C + 1) _ _ _ rfl rfl (setRow_heap _ _ _ _ _ _ hR9)) rfl ?_
      exact ⟨⟨_, _, _, _, _, _⟩, rfl, HJ.out, below_row HB9.out (by have := HCE.out; omega) _⟩
    · have g5 : (k == 5) = false := by simpa using h5
      have hA9 := HA3.out
      have hR9 := HR3.out
      have HB9 := HB3
      unfold z6 at hR9
      go_wp2_with (first | (refine wpl_loadK rfl _ rfl (C + 2) rfl _ _ _ rfl hA9 ?_) | (refine wpl_storeK rfl _ _ rfl (C + 1) _ _ _ _ _ _ rfl rfl rfl rfl rfl rfl rfl rfl _ _ rfl hR9 ?_))
      (try simp only [Exit.inBlock, Exit.then])
      refine bodyPost_ret (results_ch rfl _ _ (C + 1) _ _ _ rfl rfl (setRow_heap _ _ _ _ _ _ hR9)) rfl ?_
      exact ⟨⟨_, _, _, _, _, _⟩, rfl, HJ.out, below_row HB9.out (by have := HCE.out; omega) _⟩
end Go.Proofs.Ytnkjkaofgninnaa
