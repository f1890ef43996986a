/- Find of a map of shards; the document's IsMembers and SameInts. Conditions: they lie in memory. -/
import Derived.Test.YtnkjkaofgninnaaGreatAtGet
import Derived.Test.YtnkjkaofgninnaaGreatSpGet
namespace Go.Proofs.YtnkjkaofgninnaaGreat
open Go.RowKit Go.Maps Go.Shelf
set_option linter.unusedVariables false
set_option linter.unusedSimpArgs false

set_option maxRecDepth 100000 in
set_option maxHeartbeats 4000000 in
theorem sameInts_eq (l : List Int) (v u : Value) (w : World) (hv : Nums w v l) (hu : Nums w u l) :
    Calls Tryz.prog 38 #[v, u] w fun e w' => e = .returned (.bool true) ∧ Below w.heap.size w w' := by
  have hL := hv.len
  obtain ⟨va, vc, rfl⟩ := hv.shape
  obtain ⟨ua, uc, rfl⟩ := hu.shape
  have HV := hid hv
  have HU := hid hu
  clear hv hu
  go_enter Tryz.func38, Tryz.ntmps38
  go_wp2_with fail
  go_loopw [5, 13] (fun _ iv wr => ∃ i : Nat, iv = .int .i64 i ∧ i ≤ l.length ∧ Below w.heap.size w wr) (fun _ iv _ => l.length - (intOf iv).toNat)
  case atStart => exact ⟨0, rfl, Nat.zero_le _, Below.refl _ _⟩
  case round =>
    obtain ⟨i, rfl, hi, hb⟩ := hrel
    have BR := hid hb
    have HVR := hid (HV.out.below hb)
    have HUR := hid (HU.out.below hb)
    clear hb
    by_cases hlt : (i : Int) < (l.length : Int)
    · have hil : i < l.length := by omega
      obtain ⟨gd, od, rfl⟩ := HV.out.addr (by omega)
      obtain ⟨ge, oe, rfl⟩ := HU.out.addr (by omega)
      have c0 := HVR.out.lit i hil
      have c1 := HUR.out.lit i hil
      generalize l[i] = x at c0 c1
      go_upto_region 6 with fail
      refine wp_region_held_drew (S := fun Y => Y.cell? ⟨gd, od + i, none⟩ = some (.int .i64 x) ∧ Y.cell? ⟨ge, oe + i, none⟩ = some (.int .i64 x)) (by kernel_rfl) ⟨c0, c1⟩ (fun hHeld => ?_)
      refine wpAnyH_take (i := 0) (v := ?pv0) rfl (by kernel_rfl) (by kernel_rfl) (by kernel_rfl) (fun _ _ _ h => h) (Or.inl ⟨by rfl, ?py0⟩) (by assumption) ?pr0
      case py0 => (intro w hSw; (try dsimp only at hSw); go_simp; try with_reducible rfl)
      (try simp only [Act.put, putS])
      refine wpAnyH_take (i := 1) (v := ?pv1) rfl (by kernel_rfl) (by kernel_rfl) (by kernel_rfl) (fun _ _ _ h => h) (Or.inl ⟨by rfl, ?py1⟩) (by assumption) ?pr1
      case py1 => (intro w hSw; (try dsimp only at hSw); go_simp; try with_reducible rfl)
      (try simp only [Act.put, putS])
      refine wpAnyH_take (i := 2) (v := ?pv2) rfl (by kernel_rfl) (by kernel_rfl) (by kernel_rfl) (fun _ _ _ h => h) (Or.inl ⟨by rfl, ?py2⟩) (by assumption) ?pr2
      case py2 => (intro w hSw; (try dsimp only at hSw); go_simp; try with_reducible rfl)
      (try simp only [Act.put, putS])
      refine wpAnyH_take (i := 3) (v := ?pv3) rfl (by kernel_rfl) (by kernel_rfl) (by kernel_rfl) (fun _ _ _ h => h) (Or.inl ⟨by rfl, ?py3⟩) (by assumption) ?pr3
      case py3 => (intro w hSw; (try dsimp only at hSw); go_simp; try with_reducible rfl)
      (try simp only [Act.put, putS])
      refine wpAnyH_take (i := 4) (v := ?pv4) rfl (by kernel_rfl) (by kernel_rfl) (by kernel_rfl) (fun _ _ _ h => h) (Or.inl ⟨by rfl, ?py4⟩) (by assumption) ?pr4
      case py4 => (intro w hSw; (try dsimp only at hSw); go_simp; try with_reducible rfl)
      (try simp only [Act.put, putS])
      refine wpAnyH_take (i := 5) (v := ?pv5) rfl (by kernel_rfl) (by kernel_rfl) (by kernel_rfl) (fun _ _ _ h => h) (Or.inl ⟨by rfl, ?py5⟩) (by assumption) ?pr5
      case py5 => (intro w hSw; (try dsimp only at hSw); go_simp; try with_reducible rfl)
      (try simp only [Act.put, putS])
      refine wpAnyH_take (i := 6) (v := ?pv6) rfl (by kernel_rfl) (by kernel_rfl) (by kernel_rfl) (fun _ _ _ h => h) (Or.inl ⟨by rfl, ?py6⟩) (by assumption) ?pr6
      case py6 => (intro w hSw; (try dsimp only at hSw); go_simp; try with_reducible rfl)
      (try simp only [Act.put, putS])
      refine wpAnyH_take (i := 7) (v := ?pv7) rfl (by kernel_rfl) (by kernel_rfl) (by kernel_rfl) (fun _ _ _ h => h) (Or.inl ⟨by rfl, ?py7⟩) (by assumption) ?pr7
      case py7 => (intro w hSw; (try dsimp only at hSw); go_simp; try with_reducible rfl)
      (try simp only [Act.put, putS])
      refine wpAnyH_take (i := 8) (v := ?pv8) rfl (by kernel_rfl) (by kernel_rfl) (by kernel_rfl) (fun _ _ _ h => h) (Or.inl ⟨by rfl, ?py8⟩) (by assumption) ?pr8
      case py8 => (intro w hSw; (try dsimp only at hSw); go_simp; try with_reducible rfl)
      (try simp only [Act.put, putS])
      refine wpAnyH_done (by kernel_rfl) ?_ _
      go_wp2_with fail
      go_roundw
      case rel => exact ⟨i + 1, by go_num, by omega, BR.out.trans (((Below.refl _ _).drew).mono BR.out.size)⟩
      case measure => simp [intOf]; omega
    · go_wp2_with fail
      go_ret
      exact ⟨rfl, BR.out⟩
set_option maxRecDepth 100000 in
set_option maxHeartbeats 4000000 in
theorem find_at (b wb mb n : Nat) (ov : Value) (D : DataW Value) (N : AtN) (W : List Pc) (X : List SX) (k i : Int) (S : ShD) (mv pv : Value) (ok : Bool) (w : World) (h : AtM w b wb mb n ov D N W X) (hs : ShM w S mv pv) (hb : ShB S)
    (hg : ∀ Y, Below w.heap.size w Y → Calls Tryz.prog 70 #[.pointer (some ⟨wb, 0, none⟩), .int .i64 k] Y fun e w' => e = .returned (.tuple #[.int .i64 i, .bool ok]) ∧ Below Y.heap.size Y w') (hl : ∀ Y, Below w.heap.size w Y → (Instr.lookup 52 (.map (some mb)) (.int .i64 i) false).run Tryz.prog Y = .ok (shV S mv pv) Y) :
    Calls Tryz.prog 41 #[.pointer (some ⟨b, 0, none⟩), .int .i64 k] w (GtS S ok w) := by
  obtain ⟨⟨ma, mc, rfl⟩, ⟨pa, pc, rfl⟩⟩ := hs.shape
  obtain ⟨w1, hw1⟩ : ∃ w1, w1 = w.alloc (.cells z5 61) := ⟨_, rfl⟩
  have B1 : Below w.heap.size w w1 := by rw [hw1]; exact (Below.refl _ _).alloc (Nat.le_refl _) _
  have hR1 : w1.heap[w.heap.size]? = some (.cells z5 61 (0, 0)) := by rw [hw1]; exact heap_alloc_new _ _
  have H := hid h
  have HR1 := hid hR1
  have HB1 := hid B1
  have HW1 := hid hw1
  have HLK := hid hl
  have HGT := hid (hg w1 B1)
  have c4 : w1.cell? ⟨b, 4, none⟩ = some (.pointer (some ⟨wb, 0, none⟩)) := (h.below B1).cell 4
  have HC := hid (fun Y (hY : Below w.heap.size w Y) => copyShard_any S _ _ Y (hs.below hY) hb.m hb.p hb.q)
  clear h hs hb hg hl hw1 B1 hR1
  unfold z5 at HW1
  go_enter Tryz.func41, Tryz.ntmps41
  go_upto_region 1 with fail
  rw [← HW1.out]
  clear HW1
  obtain ⟨R, hRe⟩ : ∃ R, R = w.heap.size := ⟨_, rfl⟩
  rw [← hRe] at HR1
  rw [← hRe]
  have HRW : Hid (w.heap.size ≤ R) := hid (by omega)
  clear hRe
  go_upto_region 4 with (go_at_call 70; refine HGT.out.mono ?_; rintro e w2 ⟨rfl, hb2⟩; have B2 := hid (HB1.out.trans (hb2.mono HB1.out.size)); have HR2 := hid ((hb2.block R (lt_of_block HR1.out)).trans HR1.out); clear hb2)
  have c5 : w2.cell? ⟨b, 5, none⟩ = some (.map (some mb)) := (H.out.below B2.out).cell 5
  have hlk := HLK.out _ B2.out
  unfold shV at hlk
  clear c4 HGT
  go_wp2_with (first | (go_at_call 58; refine (HC.out _ B2.out).mono ?_; rintro e w3 ⟨mv3, pv3, rfl, hs3, hb3⟩; obtain ⟨⟨ma3, mc3, rfl⟩, ⟨pa3, pc3, rfl⟩⟩ := hs3.shape; have S3 := hid hs3; have B3 := hid (B2.out.trans (hb3.mono B2.out.size)); have hR3 := (hb3.block R (lt_of_block HR2.out)).trans HR2.out; clear hs3 hb3) | (refine wpl_storeH rfl _ _ rfl R _ _ _ _ _ rfl rfl rfl rfl rfl rfl rfl _ _ rfl hR3 ?_))
  (try simp only [Exit.inBlock, Exit.then])
  refine bodyPost_ret (results_shB rfl _ _ R _ _ _ rfl rfl (setRow_heap _ _ _ _ _ _ hR3)) rfl ?_
  refine ⟨_, _, rfl, ?_, below_row B3.out HRW.out _⟩
  have hk : Kt [61] w3 (w3.setRow R #[.int .i64 S.id, .int .i64 S.fr, .int .i64 S.to, .slice ma3 S.mem.length mc3, .slice pa3 S.past.length pc3]) := fun q cs t fr hq ht => setRow_other _ _ _ _ fun e => by
    rw [e, hR3] at hq; cases hq; exact ht (by simp)
  exact S3.out.kt hk (by decide) (by decide)
end Go.Proofs.YtnkjkaofgninnaaGreat
