/- A store that has what the document's has is alike to it. -/
import Derived.Test.YtabmnelenfghhaaBkRApplyB
import Derived.Test.YtabmnelenfghhaaBkMark
import Derived.Test.YtabmnelenfghhaaBkNil
import Derived.Test.YtabmnelenfghhaaBkLight
import Derived.Laws.StructEq
namespace Go.Proofs.Ytabmnelenfghhaa
open Go.RowKit
set_option linter.unusedVariables false
set_option linter.unusedSimpArgs false

theorem block_at {S : StD} (hI : StI S) (i : Nat) (hi : i < S.cells.length) : blockT S (S.from' + i) = S.cells[i].text ∧ blockE S (S.from' + i) = 0 := by
  have := hI.n
  have h : ¬ (S.from' + (i : Int) < S.from' ∨ S.to ≤ S.from' + (i : Int)) := by omega
  unfold blockT blockE
  rw [if_neg h, if_neg h, show (S.from' + (i : Int) - S.from').toNat = i by omega]
  simp [List.getD, List.getElem?_eq_getElem hi]
theorem mark_at' {S : StD} (hI : StI S) (i : Nat) (hi : i < S.cells.length) (k : Fin 4) : markN S (S.from' + i) k.val = S.cells[i].m k ∧ markE S (S.from' + i) k.val = 0 := by
  have := hI.n
  have h : ¬ (S.from' + (i : Int) < S.from' ∨ S.to ≤ S.from' + (i : Int)) := by omega
  have hk : 0 ≤ (k.val : Int) ∧ (k.val : Int) < 4 := by have := k.isLt; omega
  unfold markN markE
  rw [if_neg h, if_neg h, dif_pos hk, if_pos hk, show (S.from' + (i : Int) - S.from').toNat = i by omega]
  simp [List.getD, List.getElem?_eq_getElem hi]
set_option maxRecDepth 100000 in
set_option maxHeartbeats 8000000 in
theorem alike_any (b g base X : Nat) (vt vm : Value) (ks : List Nat) (S : StD) (w : World) (hS : St w b g S) (hR : RSt w base X vt vm ks S) :
    Calls Try.prog 22 #[.pointer (some ⟨b, 0, none⟩), .pointer (some ⟨X, 0, none⟩)] w fun e w' => e = .returned (.bool true) ∧ Below w.heap.size w w' := by
  have HI := hid hS.i
  have hSp : 0 < S.cells.length := by have := hS.i.n; have := hS.i.ft; omega
  have hSl : S.cells.length ≤ 256 := by have := hS.i.n; have := hS.i.f; have := hS.i.t; omega
  have hSf : 0 ≤ S.from' ∧ S.from' ≤ 256 := by have := hS.i.ft; have := hS.i.f; have := hS.i.t; omega
  have hvs : ∃ gt cpt gm cpm, vt = .slice (some ⟨gt, 0, none⟩) S.cells.length cpt ∧ vm = .slice (some ⟨gm, 0, none⟩) S.cells.length cpm := by
    obtain ⟨gt, cpt, e1, -⟩ := own_some hR.texts hSp
    obtain ⟨gm, cpm, e2, -⟩ := own_some hR.rows hSp
    exact ⟨gt, cpt, gm, cpm, e1, e2⟩
  obtain ⟨gt, cpt, gm, cpm, rfl, rfl⟩ := hvs
  have HS := hid hS
  have HR := hid hR
  clear hS hR
  have SW : Hid (∀ Y, Below w.heap.size w Y → Y.cell? ⟨X, 0, none⟩ = some (.int .i64 S.from') ∧ Y.cell? ⟨X, 1, none⟩ = some (.int .i64 S.to) ∧ Y.cell? ⟨X, 2, none⟩ = some (.bool S.fr)) := hid fun Y hY => by
    have h := (hY.block X (lt_of_block HR.out.head)).trans HR.out.head
    refine ⟨?_, ?_, ?_⟩ <;> (rw [cell_of_row _ _ _ _ _ _ h]; rfl)
  have SX : Hid (∀ Y, Below w.heap.size w Y → Y.cell? ⟨X, 0, none⟩ = some (.int .i64 S.from') ∧ Y.cell? ⟨X, 3, none⟩ = some (.slice (some ⟨gt, 0, none⟩) S.cells.length cpt) ∧ Y.cell? ⟨X, 4, none⟩ = some (.slice (some ⟨gm, 0, none⟩) S.cells.length cpm)) := hid fun Y hY => by
    have h := (hY.block X (lt_of_block HR.out.head)).trans HR.out.head
    refine ⟨?_, ?_, ?_⟩ <;> (rw [cell_of_row _ _ _ _ _ _ h]; rfl)
  have hfr : (S.fr == S.fr) = true := by cases S.fr <;> rfl
  go_enter Try.func22, Try.ntmps22
  go_upto_region 1 with fail
  refine wp_region_held_drew (S := fun Y => Y.cell? ⟨X, 0, none⟩ = some (.int .i64 S.from') ∧ Y.cell? ⟨X, 1, none⟩ = some (.int .i64 S.to) ∧ Y.cell? ⟨X, 2, none⟩ = some (.bool S.fr)) (by kernel_rfl) (SW.out _ ((Below.refl _ _).drew)) (fun hHeld => ?_)
  refine wpAnyH_take (i := 0) (v := ?rv0) rfl (by kernel_rfl) (by kernel_rfl) (by kernel_rfl) (fun _ _ _ h => h) (Or.inl ⟨by rfl, ?ry0⟩) (by assumption) ?rr0
  case ry0 => (intro w hSw; (try dsimp only at hSw); go_simp; try with_reducible rfl)
  (try simp only [Act.put, List.setIfInBounds_toArray, List.set_cons_zero, List.set_cons_succ, List.getElem_toArray, List.getElem_cons_succ, List.getElem_cons_zero])
  refine wpAnyH_take (i := 1) (v := ?rv1) rfl (by kernel_rfl) (by kernel_rfl) (by kernel_rfl) (fun _ _ _ h => h) (Or.inl ⟨by rfl, ?ry1⟩) (by assumption) ?rr1
  case ry1 => (intro w hSw; (try dsimp only at hSw); go_simp; try with_reducible rfl)
  (try simp only [Act.put, List.setIfInBounds_toArray, List.set_cons_zero, List.set_cons_succ, List.getElem_toArray, List.getElem_cons_succ, List.getElem_cons_zero])
  refine wpAnyH_take (i := 2) (v := ?rv2) rfl (by kernel_rfl) (by kernel_rfl) (by kernel_rfl) (fun _ _ _ h => h) (Or.inl ⟨by rfl, ?ry2⟩) (by assumption) ?rr2
  case ry2 => (intro w hSw; (try dsimp only at hSw); go_simp; try with_reducible rfl)
  (try simp only [Act.put, List.setIfInBounds_toArray, List.set_cons_zero, List.set_cons_succ, List.getElem_toArray, List.getElem_cons_succ, List.getElem_cons_zero])
  refine wpAnyH_take (i := 3) (v := ?rv3) rfl (by kernel_rfl) (by kernel_rfl) (by kernel_rfl) (fun _ _ _ h => h) (Or.inl ⟨by rfl, ?ry3⟩) (by assumption) ?rr3
  case ry3 => (intro w hSw; (try dsimp only at hSw); go_simp; try with_reducible rfl)
  (try simp only [Act.put, List.setIfInBounds_toArray, List.set_cons_zero, List.set_cons_succ, List.getElem_toArray, List.getElem_cons_succ, List.getElem_cons_zero])
  refine wpAnyH_take (i := 5) (v := ?rv5) rfl (by kernel_rfl) (by kernel_rfl) (by kernel_rfl) (fun _ _ _ h => h) (Or.inl ⟨by rfl, ?ry5⟩) (by assumption) ?rr5
  case ry5 => (intro w hSw; (try dsimp only at hSw); go_simp; try with_reducible rfl)
  (try simp only [Act.put, List.setIfInBounds_toArray, List.set_cons_zero, List.set_cons_succ, List.getElem_toArray, List.getElem_cons_succ, List.getElem_cons_zero])
  refine wpAnyH_take (i := 6) (v := ?rv6) rfl (by kernel_rfl) (by kernel_rfl) (by kernel_rfl) (fun _ _ _ h => h) (Or.inl ⟨by rfl, ?ry6⟩) (by assumption) ?rr6
  case ry6 => (intro w hSw; (try dsimp only at hSw); go_simp; try with_reducible rfl)
  (try simp only [Act.put, List.setIfInBounds_toArray, List.set_cons_zero, List.set_cons_succ, List.getElem_toArray, List.getElem_cons_succ, List.getElem_cons_zero])
  refine wpAnyH_take (i := 7) (v := ?rv7) rfl (by kernel_rfl) (by kernel_rfl) (by kernel_rfl) (fun _ _ _ h => h) (Or.inl ⟨by rfl, ?ry7⟩) (by assumption) ?rr7
  case ry7 => (intro w hSw; (try dsimp only at hSw); go_simp; try with_reducible rfl)
  (try simp only [Act.put, List.setIfInBounds_toArray, List.set_cons_zero, List.set_cons_succ, List.getElem_toArray, List.getElem_cons_succ, List.getElem_cons_zero])
  refine wpAnyH_take (i := 8) (v := ?rv8) rfl (by kernel_rfl) (by kernel_rfl) (by kernel_rfl) (fun _ _ _ h => h) (Or.inl ⟨by rfl, ?ry8⟩) (by assumption) ?rr8
  case ry8 => (intro w hSw; (try dsimp only at hSw); go_simp; try with_reducible rfl)
  (try simp only [Act.put, List.setIfInBounds_toArray, List.set_cons_zero, List.set_cons_succ, List.getElem_toArray, List.getElem_cons_succ, List.getElem_cons_zero])
  refine wpAnyH_ready (rs := [4]) (by kernel_rfl) (by simp) ?_
  refine AllReadyH.cons rfl (fun K hK => ?_) AllReadyH.nil
  rw [if_pos (by rfl)]
  go_wp2_with fail
  refine (bspan_any b g S _ (HS.out.below ((Below.refl _ _).drew))).mono ?_
  rintro e w2 ⟨rfl, hb2⟩
  have B2 : Hid (Below w.heap.size w w2) := hid (((Below.refl _ _).drew).trans hb2)
  clear hb2
  refine hK.out _ _ (SW.out _ B2.out) (fun hHeld => ?_)
  try clear hK K
  (try simp only [Act.put, List.setIfInBounds_toArray, List.set_cons_zero, List.set_cons_succ, List.getElem_toArray, List.getElem_cons_succ, List.getElem_cons_zero])
  refine wpAnyH_take (i := 9) (v := ?rv9) rfl (by kernel_rfl) (by kernel_rfl) (by kernel_rfl) (fun _ _ _ h => h) (Or.inl ⟨by rfl, ?ry9⟩) (by assumption) ?rr9
  case ry9 => (intro w hSw; (try dsimp only at hSw); go_simp; try with_reducible rfl)
  (try simp only [Act.put, List.setIfInBounds_toArray, List.set_cons_zero, List.set_cons_succ, List.getElem_toArray, List.getElem_cons_succ, List.getElem_cons_zero])
  refine wpAnyH_take (i := 10) (v := ?rv10) rfl (by kernel_rfl) (by kernel_rfl) (by kernel_rfl) (fun _ _ _ h => h) (Or.inl ⟨by rfl, ?ry10⟩) (by assumption) ?rr10
  case ry10 => (intro w hSw; (try dsimp only at hSw); go_simp; try with_reducible rfl)
  (try simp only [Act.put, List.setIfInBounds_toArray, List.set_cons_zero, List.set_cons_succ, List.getElem_toArray, List.getElem_cons_succ, List.getElem_cons_zero])
  refine wpAnyH_take (i := 11) (v := ?rv11) rfl (by kernel_rfl) (by kernel_rfl) (by kernel_rfl) (fun _ _ _ h => h) (Or.inl ⟨by rfl, ?ry11⟩) (by assumption) ?rr11
  case ry11 => (intro w hSw; (try dsimp only at hSw); go_simp; try with_reducible rfl)
  (try simp only [Act.put, List.setIfInBounds_toArray, List.set_cons_zero, List.set_cons_succ, List.getElem_toArray, List.getElem_cons_succ, List.getElem_cons_zero])
  refine wpAnyH_take (i := 12) (v := ?rv12) rfl (by kernel_rfl) (by kernel_rfl) (by kernel_rfl) (fun _ _ _ h => h) (Or.inl ⟨by rfl, ?ry12⟩) (by assumption) ?rr12
  case ry12 => (intro w hSw; (try dsimp only at hSw); go_simp; try with_reducible rfl)
  (try simp only [Act.put, List.setIfInBounds_toArray, List.set_cons_zero, List.set_cons_succ, List.getElem_toArray, List.getElem_cons_succ, List.getElem_cons_zero])
  refine wpAnyH_take (i := 14) (v := ?rv14) rfl (by kernel_rfl) (by kernel_rfl) (by kernel_rfl) (fun _ _ _ h => h) (Or.inl ⟨by rfl, ?ry14⟩) (by assumption) ?rr14
  case ry14 => (intro w hSw; (try dsimp only at hSw); go_simp; try with_reducible rfl)
  (try simp only [Act.put, List.setIfInBounds_toArray, List.set_cons_zero, List.set_cons_succ, List.getElem_toArray, List.getElem_cons_succ, List.getElem_cons_zero])
  refine wpAnyH_take (i := 15) (v := ?rv15) rfl (by kernel_rfl) (by kernel_rfl) (by kernel_rfl) (fun _ _ _ h => h) (Or.inl ⟨by rfl, ?ry15⟩) (by assumption) ?rr15
  case ry15 => (intro w hSw; (try dsimp only at hSw); go_simp; try with_reducible rfl)
  (try simp only [Act.put, List.setIfInBounds_toArray, List.set_cons_zero, List.set_cons_succ, List.getElem_toArray, List.getElem_cons_succ, List.getElem_cons_zero])
  refine wpAnyH_take (i := 16) (v := ?rv16) rfl (by kernel_rfl) (by kernel_rfl) (by kernel_rfl) (fun _ _ _ h => h) (Or.inl ⟨by rfl, ?ry16⟩) (by assumption) ?rr16
  case ry16 => (intro w hSw; (try dsimp only at hSw); go_simp; try with_reducible rfl)
  (try simp only [Act.put, List.setIfInBounds_toArray, List.set_cons_zero, List.set_cons_succ, List.getElem_toArray, List.getElem_cons_succ, List.getElem_cons_zero])
  refine wpAnyH_take (i := 17) (v := ?rv17) rfl (by kernel_rfl) (by kernel_rfl) (by kernel_rfl) (fun _ _ _ h => h) (Or.inl ⟨by rfl, ?ry17⟩) (by assumption) ?rr17
  case ry17 => (intro w hSw; (try dsimp only at hSw); go_simp; try with_reducible rfl)
  (try simp only [Act.put, List.setIfInBounds_toArray, List.set_cons_zero, List.set_cons_succ, List.getElem_toArray, List.getElem_cons_succ, List.getElem_cons_zero])
  refine wpAnyH_ready (rs := [13]) (by kernel_rfl) (by simp) ?_
  refine AllReadyH.cons rfl (fun K hK => ?_) AllReadyH.nil
  rw [if_pos (by rfl)]
  go_wp2_with fail
  refine (frozen_any b g S _ (HS.out.below B2.out)).mono ?_
  rintro e w3 ⟨rfl, hb3⟩
  have B3 : Hid (Below w.heap.size w w3) := hid (B2.out.trans (hb3.mono B2.out.size))
  clear hb3
  refine hK.out _ _ (SW.out _ B3.out) (fun hHeld => ?_)
  try clear hK K
  (try simp only [Act.put, List.setIfInBounds_toArray, List.set_cons_zero, List.set_cons_succ, List.getElem_toArray, List.getElem_cons_succ, List.getElem_cons_zero])
  refine wpAnyH_take (i := 18) (v := ?rv18) rfl (by kernel_rfl) (by kernel_rfl) (by kernel_rfl) (fun _ _ _ h => h) (Or.inl ⟨by rfl, ?ry18⟩) (by assumption) ?rr18
  case ry18 => (intro w hSw; (try dsimp only at hSw); go_simp; try with_reducible rfl)
  (try simp only [Act.put, List.setIfInBounds_toArray, List.set_cons_zero, List.set_cons_succ, List.getElem_toArray, List.getElem_cons_succ, List.getElem_cons_zero])
  refine wpAnyH_take (i := 19) (v := ?rv19) rfl (by kernel_rfl) (by kernel_rfl) (by kernel_rfl) (fun _ _ _ h => h) (Or.inl ⟨by rfl, ?ry19⟩) (by assumption) ?rr19
  case ry19 => (intro w hSw; (try dsimp only at hSw); go_simp; try with_reducible rfl)
  (try simp only [Act.put, List.setIfInBounds_toArray, List.set_cons_zero, List.set_cons_succ, List.getElem_toArray, List.getElem_cons_succ, List.getElem_cons_zero])
  refine wpAnyH_done (by kernel_rfl) ?_ _
  clear SW hHeld B2 hfr
  obtain ⟨x0, x3, x4⟩ := SX.out w3 B3.out
  go_wp2_with fail
  go_loopw [5, 6, 7, 8, 9, 10, 11, 37, 66] (fun _ _ _ _ _ _ _ iv _ wr => ∃ i : Nat, iv = .int .i64 i ∧ i ≤ S.cells.length ∧ Below w.heap.size w wr) (fun _ _ _ _ _ _ _ iv _ _ => S.cells.length - (intOf iv).toNat)
  case atStart => exact ⟨0, rfl, Nat.zero_le _, B3.out⟩
  case round =>
    obtain ⟨i, rfl, hi, hb⟩ := hrel
    have HB := hid hb
    clear x0 x3 x4 hb
    by_cases hlt : i < S.cells.length
    · have hltI : (i : Int) < (S.cells.length : Int) := by omega
      have hix : 0 ≤ (i : Int) ∧ (i : Int) < (S.cells.length : Int) := by omega
      have hwr : IntKind.i64.wrap (S.from' + (i : Int)) = S.from' + (i : Int) := IntWalk.i64_in _ ⟨by omega, by omega⟩
      obtain ⟨x0, -, -⟩ := SX.out wr HB.out
      have HBL := hid (fun W hW => block_any b g S (S.from' + i) W hW)
      obtain ⟨e1, e2⟩ := block_at HI.out i hlt
      rw [e1, e2] at HBL
      have HMK : Hid (∀ (k : Fin 4) W, St W b g S → Calls Try.prog 55 #[.pointer (some ⟨b, 0, none⟩), .int .i64 (S.from' + (i : Int)), .int .i64 (k.val : Nat)] W fun e w' => e = .returned (.tuple #[.int .i64 (S.cells[i].m k), .int .i64 0]) ∧ Below W.heap.size W w') := hid fun k W hW => by
        have h := mark_any b g S (S.from' + i) k.val W hW
        obtain ⟨e3, e4⟩ := mark_at' HI.out i hlt k
        rw [e3, e4] at h; exact h
      have hik : i < ks.length := by have := HR.out.n; omega
      have HTX := hid (HR.out.textAt i hlt)
      have HRW := hid (HR.out.rowAt i hik)
      have HMA := hid (fun k => HR.out.markAt i hik hlt k)
      generalize S.cells[i] = cel at HBL HMK HTX HMA
      generalize ks[i] = K1 at HRW HMA
      clear e1 e2
      go_upto_region 7 with fail
      go_wp2_with fail
      refine (HBL.out wr (HS.out.below HB.out)).mono ?_
      rintro e w4 ⟨rfl, hb4⟩
      have B4 := hid (HB.out.trans (hb4.mono HB.out.size))
      clear x0 hb4 HBL
      obtain ⟨x0, x3, x4⟩ := SX.out w4 B4.out
      have tx := cell_later B4.out HTX.out
      go_wp2_with fail
      clear x0 x3 x4 tx
      go_loopw [9, 10, 11, 66] (fun _ _ _ kv wq => ∃ k : Nat, kv = .int .i64 k ∧ k ≤ 4 ∧ Below w.heap.size w wq) (fun _ _ _ kv _ => 4 - (intOf kv).toNat)
      case atStart => exact ⟨0, rfl, by omega, B4.out⟩
      case round =>
        obtain ⟨k, rfl, hk, hbq⟩ := hrel
        have HBQ := hid hbq
        clear hbq
        by_cases hk4 : k < 4
        · have hkI : (k : Int) < 4 := by omega
          have hkx : 0 ≤ (k : Int) ∧ (k : Int) < 4 := by omega
          have HM1 := hid (fun W hW => HMK.out ⟨k, hk4⟩ W hW)
          have ma := HMA.out ⟨k, hk4⟩
          simp only at HM1 ma
          have HMAk := hid ma
          clear ma
          generalize cel.m ⟨k, hk4⟩ = mv at HM1 HMAk
          go_wp2_with fail
          refine (HM1.out _ (HS.out.below HBQ.out)).mono ?_
          rintro e w5 ⟨rfl, hb5⟩
          have B5 := hid (HBQ.out.trans (hb5.mono HBQ.out.size))
          clear hb5 HM1
          obtain ⟨x0, x3, x4⟩ := SX.out w5 B5.out
          have rw5 := cell_later B5.out HRW.out
          have ma5 := cell_later B5.out HMAk.out
          go_wp2_with fail
          go_roundw
          case rel => exact ⟨k + 1, by go_num, by omega, B5.out⟩
          case measure => simp [intOf]; omega
        · have hkI : ¬ (k : Int) < 4 := by omega
          go_wp2_with fail
          go_roundw
          case rel => exact ⟨i + 1, by go_num, by omega, HBQ.out⟩
          case measure => simp [intOf]; omega
    · have hltI : ¬ (i : Int) < (S.cells.length : Int) := by omega
      go_wp2_with fail
      go_ret
      exact ⟨rfl, HB.out⟩
end Go.Proofs.Ytabmnelenfghhaa
