/- What a map of shards tells: its numbers, what is open, the shard of a number. Conditions: it lies in memory. -/
import Derived.Test.YtnkjkaofgninnaaAtNew
namespace Go.Proofs.Ytnkjkaofgninnaa
open Go.RowKit Go.Maps Go.Shelf
set_option linter.unusedVariables false
set_option linter.unusedSimpArgs false

set_option maxHeartbeats 1600000 in
theorem aepoch_any (b wb mb n : Nat) (ov : Value) (D : DataW Value) (N : AtN) (W : List Pc) (X : List SX) (w : World) (h : AtM w b wb mb n ov D N W X) :
    Calls Try.prog 10 #[.pointer (some ⟨b, 0, none⟩)] w fun e w' => e = .returned (.int .i64 N.ep) ∧ w' = w := by
  have c1 : w.cell? ⟨b, 1, none⟩ = some (.int .i64 N.ep) := h.cell 1
  clear h
  go_enter Try.func10, Try.ntmps10
  go_wp2_with fail
  go_ret
  exact ⟨rfl, rfl⟩
set_option maxHeartbeats 1600000 in
theorem anext_any (b wb mb n : Nat) (ov : Value) (D : DataW Value) (N : AtN) (W : List Pc) (X : List SX) (w : World) (h : AtM w b wb mb n ov D N W X) :
    Calls Try.prog 12 #[.pointer (some ⟨b, 0, none⟩)] w fun e w' => e = .returned (.int .i64 N.nx) ∧ w' = w := by
  have c1 : w.cell? ⟨b, 2, none⟩ = some (.int .i64 N.nx) := h.cell 2
  clear h
  go_enter Try.func12, Try.ntmps12
  go_wp2_with fail
  go_ret
  exact ⟨rfl, rfl⟩
set_option maxHeartbeats 1600000 in
theorem aopen_any (b wb mb n : Nat) (ov : Value) (D : DataW Value) (N : AtN) (W : List Pc) (X : List SX) (w : World) (h : AtM w b wb mb n ov D N W X) (hl : N.op.length ≤ 1000000) :
    Calls Try.prog 11 #[.pointer (some ⟨b, 0, none⟩)] w fun e w' => ∃ va vc, e = .returned (.slice va N.op.length vc) ∧ w'.ownsRow w.heap.size 3 1 (.slice va N.op.length vc) N.op.length (nvs N.op) ∧ Below w.heap.size w w' := by
  obtain ⟨va, vc, rfl⟩ := h.shape
  have c1 : w.cell? ⟨b, 3, none⟩ = some (.slice va N.op.length vc) := h.cell 3
  have HO := hid (nums_own h.opn rfl)
  clear h
  go_enter Try.func11, Try.ntmps11
  go_wp2_with (go_at_call 21; refine (cloneN_any _ _ _ HO.out (by omega)).mono ?_; rintro e w2 ⟨va2, vc2, rfl, ho2, hb2⟩; have O2 := hid ho2; have B2 := hid hb2; clear ho2 hb2)
  go_ret
  exact ⟨va2, vc2, rfl, O2.out, B2.out⟩
/-- A shard that is not too great to be copied. -/
structure ShB (S : ShD) : Prop where
  m : S.mem.length ≤ 1000000
  p : S.past.length ≤ 1000000
  q : ∀ o ∈ S.past, o.mem.length ≤ 1000000
theorem zS_b : ShB zS := ⟨by simp [zS], by simp [zS], by simp [zS]⟩
theorem zS_m (w : World) : ShM w zS (.slice none 0 0) (.slice none 0 0) := ⟨World.ownsRow_nil _ _ _ _, [], rfl, World.ownsRow_nil _ _ _ _, fun x hx => by cases hx⟩
/-- What a lookup of a number finds. -/
theorem AtM.look {w : World} {b wb mb n : Nat} {ov : Value} {D : DataW Value} {N : AtN} {W : List Pc} {X : List SX} (h : AtM w b wb mb n ov D N W X) (i : Int) (hi : I64 i) :
    (∃ x ∈ X, x.s.id = i ∧ (∀ Y, Below w.heap.size w Y → (Instr.lookup 62 (.map (some mb)) (.int .i64 i) true).run Try.prog Y = .ok (.tuple #[x.v, .bool true]) Y) ∧ (∀ Y, Below w.heap.size w Y → (Instr.lookup 62 (.map (some mb)) (.int .i64 i) false).run Try.prog Y = .ok x.v Y)) ∨
    ((∀ x ∈ X, x.s.id ≠ i) ∧ (∀ Y, Below w.heap.size w Y → (Instr.lookup 62 (.map (some mb)) (.int .i64 i) true).run Try.prog Y = .ok (.tuple #[zV, .bool false]) Y) ∧ (∀ Y, Below w.heap.size w Y → (Instr.lookup 62 (.map (some mb)) (.int .i64 i) false).run Try.prog Y = .ok zV Y)) := by
  by_cases hx : ∃ x ∈ X, x.s.id = i
  · obtain ⟨x, hx, rfl⟩ := hx
    left
    obtain ⟨h1, h2⟩ := h.sm.yes x hx
    refine ⟨x, hx, rfl, fun Y hY => ?_, fun Y hY => ?_⟩
    · obtain ⟨v, ps, hrun, hv⟩ := World.ownsMap.look_ok (w := Y) (h.below hY).own intK Try.underlyingMs (Try.zeroSh _) (RHs_mk zShS) (key_of x.s.id hi)
      obtain ⟨-, hd, -⟩ := RHs_inv hv
      rw [h2] at hd
      cases hd
      rw [hrun, h1]
    · obtain ⟨v, ps, hrun, hv⟩ := World.ownsMap.lookup (w := Y) (h.below hY).own intK Try.underlyingMs (Try.zeroSh _) (RHs_mk zShS) (key_of x.s.id hi)
      obtain ⟨-, hd, -⟩ := RHs_inv hv
      rw [h2] at hd
      cases hd
      rw [hrun]
  · have hno : ∀ x ∈ X, x.s.id ≠ i := fun x hx' e => hx ⟨x, hx', e⟩
    right
    have h1 := h.sm.no i hno
    refine ⟨hno, fun Y hY => ?_, fun Y hY => ?_⟩
    · obtain ⟨v, ps, hrun, hv⟩ := World.ownsMap.look_ok (w := Y) (h.below hY).own intK Try.underlyingMs (Try.zeroSh _) (RHs_mk zShS) (key_of i hi)
      obtain ⟨-, hd, -⟩ := RHs_inv hv
      rw [atKey_of_not_has h1] at hd
      cases hd
      rw [hrun, h1]
    · obtain ⟨v, ps, hrun, hv⟩ := World.ownsMap.lookup (w := Y) (h.below hY).own intK Try.underlyingMs (Try.zeroSh _) (RHs_mk zShS) (key_of i hi)
      obtain ⟨-, hd, -⟩ := RHs_inv hv
      rw [atKey_of_not_has h1] at hd
      cases hd
      rw [hrun]
/-- What Get and Find answer: the shard, copied. -/
def GtS (S : ShD) (ok : Bool) (w : World) (e : Ending) (w' : World) : Prop := ∃ mv pv, e = .returned (.tuple #[shV S mv pv, .bool ok]) ∧ ShM w' S mv pv ∧ Below w.heap.size w w'
set_option maxRecDepth 100000 in
set_option maxHeartbeats 4000000 in
theorem get_at (b wb mb n : Nat) (ov : Value) (D : DataW Value) (N : AtN) (W : List Pc) (X : List SX) (i : Int) (S : ShD) (mv pv : Value) (ok : Bool) (w : World) (h : AtM w b wb mb n ov D N W X) (hs : ShM w S mv pv) (hb : ShB S) (hl : ∀ Y, Below w.heap.size w Y → (Instr.lookup 62 (.map (some mb)) (.int .i64 i) true).run Try.prog Y = .ok (.tuple #[shV S mv pv, .bool ok]) Y) :
    Calls Try.prog 14 #[.pointer (some ⟨b, 0, none⟩), .int .i64 i] w (GtS S ok w) := by
  obtain ⟨⟨ma, mc, rfl⟩, ⟨pa, pc, rfl⟩⟩ := hs.shape
  have H := hid h
  have HS := hid hs
  have HSB := hid hb
  have HLK := hid hl
  clear h hs hb hl
  obtain ⟨w1, hw1⟩ : ∃ w1, w1 = w.alloc (.cells z5 46) := ⟨_, rfl⟩
  have B1 : Below w.heap.size w w1 := by rw [hw1]; exact (Below.refl _ _).alloc (Nat.le_refl _) _
  have hR1 : w1.heap[w.heap.size]? = some (.cells z5 46 (0, 0)) := by rw [hw1]; exact heap_alloc_new _ _
  have hlk := HLK.out _ B1
  have c5 : w1.cell? ⟨b, 5, none⟩ = some (.map (some mb)) := (H.out.below B1).cell 5
  have hb2 : Below w1.heap.size w1 (w1.alloc (.cells (shC S (.slice ma S.mem.length mc) (.slice pa S.past.length pc)) 46)) := (Below.refl _ _).alloc (Nat.le_refl _) _
  have hg2 : (w1.alloc (.cells (shC S (.slice ma S.mem.length mc) (.slice pa S.past.length pc)) 46)).heap[w1.heap.size]? = some (.cells (shC S (.slice ma S.mem.length mc) (.slice pa S.past.length pc)) 46 (0, 0)) := heap_alloc_new _ _
  have HB2 := hid hb2
  have HG2 := hid hg2
  have HR1 := hid hR1
  have HB1 := hid B1
  have HW1 := hid hw1
  have HC := hid (fun Y (hY : Below w.heap.size w Y) => copyShard_any S _ _ Y (HS.out.below hY) HSB.out.m HSB.out.p HSB.out.q)
  clear hb2 hg2 hR1 B1 hw1
  unfold z5 at HW1
  unfold shV at hlk
  unfold shC at HB2 HG2
  go_enter Try.func14, Try.ntmps14
  go_upto_region 1 with fail
  rw [← HW1.out]
  clear HW1
  have HRW0 : w.heap.size ≤ w.heap.size := Nat.le_refl _
  obtain ⟨R, hRe⟩ : ∃ R, R = w.heap.size := ⟨_, rfl⟩
  rw [← hRe] at HR1
  rw [← hRe]
  replace HRW0 : w.heap.size ≤ R := by omega
  clear hRe
  go_upto_region 4 with fail
  have hR2 := (HB2.out.block R (lt_of_block HR1.out)).trans HR1.out
  have B2 := hid (HB1.out.trans (HB2.out.mono HB1.out.size))
  have hg2 := HG2.out
  clear HB2 HG2
  generalize w1.alloc (.cells #[.int .i64 S.id, .int .i64 S.fr, .int .i64 S.to, .slice ma S.mem.length mc, .slice pa S.past.length pc] 46) = w2 at *
  generalize w1.heap.size = G at *
  have HR2 := hid hR2
  have HRW : Hid (w.heap.size ≤ R) := hid HRW0
  clear hlk c5 hR2 HRW0
  go_wp2_with (first | (refine wpl_loadH rfl _ rfl G rfl _ _ _ rfl hg2 ?_) | (go_at_call 35; refine (HC.out _ B2.out).mono ?_; rintro e w3 ⟨mv3, pv3, rfl, hs3, hb3⟩; obtain ⟨⟨ma3, mc3, rfl⟩, ⟨pa3, pc3, rfl⟩⟩ := hs3.shape; have S3 := hid hs3; have B3 := hid (B2.out.trans (hb3.mono B2.out.size)); have hR3 := (hb3.block R (lt_of_block HR2.out)).trans HR2.out; clear hs3 hb3) | (refine wpl_storeH rfl _ _ rfl R _ _ _ _ _ rfl rfl rfl rfl rfl rfl rfl _ _ rfl hR3 ?_))
  (try simp only [Exit.inBlock, Exit.then])
  refine bodyPost_ret (results_shB rfl _ _ R _ _ _ rfl rfl (setRow_heap _ _ _ _ _ _ hR3)) rfl ?_
  refine ⟨_, _, rfl, ?_, below_row B3.out HRW.out _⟩
  have hk : Kt [46] w3 (w3.setRow R #[.int .i64 S.id, .int .i64 S.fr, .int .i64 S.to, .slice ma3 S.mem.length mc3, .slice pa3 S.past.length pc3]) := fun q cs t fr hq ht => setRow_other _ _ _ _ fun e => by
    rw [e, hR3] at hq; cases hq; exact ht (by simp)
  exact S3.out.kt hk (by decide) (by decide)
/-- Get, of any number. -/
def GtP (X : List SX) (i : Int) (w : World) (e : Ending) (w' : World) : Prop := (∃ x ∈ X, x.s.id = i ∧ GtS x.s true w e w') ∨ ((∀ x ∈ X, x.s.id ≠ i) ∧ GtS zS false w e w')
theorem aget_any (b wb mb n : Nat) (ov : Value) (D : DataW Value) (N : AtN) (W : List Pc) (X : List SX) (i : Int) (w : World) (h : AtM w b wb mb n ov D N W X) (hi : I64 i) (hX : ∀ x ∈ X, ShB x.s) :
    Calls Try.prog 14 #[.pointer (some ⟨b, 0, none⟩), .int .i64 i] w (GtP X i w) := by
  rcases h.look i hi with ⟨x, hx, rfl, hl, -⟩ | ⟨hno, hl, -⟩
  · exact (get_at b wb mb n ov D N W X x.s.id x.s x.mv x.pv true w h (h.mem x hx) (hX x hx) hl).mono fun e w' hg => .inl ⟨x, hx, rfl, hg⟩
  · exact (get_at b wb mb n ov D N W X i zS _ _ false w h (zS_m w) zS_b hl).mono fun e w' hg => .inr ⟨hno, hg⟩
end Go.Proofs.Ytnkjkaofgninnaa
