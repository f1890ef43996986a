/- spans: the blocks of the shards that a change makes. Conditions: shards and change lie in memory. -/
import Derived.Test.YtnkjkaofgninnaaAtSpans
namespace Go.Proofs.Ytnkjkaofgninnaa
open Go.RowKit Go.Maps Go.Shelf
set_option linter.unusedVariables false
set_option linter.unusedSimpArgs false

def spD (c : ChD) (fr tt : Int) : List Sp := if c.k = 1 then [(fr, c.at'), (c.at', tt)] else [(fr, tt)]
def z2 : Array Value := #[.int .i64 0, .int .i64 0]
/-- A row that was built. -/
theorem own_many (w : World) (E : TypeId) (cs : Array Value) (sz n : Nat) {B : Nat} (hB : B ≤ w.heap.size) (hs : cs.size = n * sz) (hn : n ≤ 1000000) : (w.alloc (.cells cs E)).ownsRow B E sz (.slice (some ⟨w.heap.size, 0, none⟩) n n) n cs.toList :=
  ⟨by simpa using hs, .inr ⟨w.heap.size, n, cs, rfl, hB, heap_alloc_new _ _, Nat.le_refl _, by unfold maxLen; omega, hs, by rw [← hs, ← Array.length_toList, List.take_length]⟩⟩
/-- What spans leaves. -/
def SpP (l : List Sp) (w : World) (e : Ending) (w' : World) : Prop := ∃ va vc, e = .returned (.slice va l.length vc) ∧ OwnS w' w.heap.size (.slice va l.length vc) l ∧ Below w.heap.size w w'
set_option maxRecDepth 100000 in
set_option maxHeartbeats 4000000 in
theorem spans_one (c : ChD) (S : ShD) (mv pv v : Value) (w : World) (hG : ShR w v [⟨S, mv, pv⟩]) :
    Calls Try.prog 30 #[chV c, v] w (SpP (spD c S.fr S.to) w) := by
  obtain ⟨g, vc, rfl⟩ := hG.shape (by simp)
  obtain ⟨k, sh, ot, at', out, in'⟩ := c
  obtain ⟨w1, hw1⟩ : ∃ w1, w1 = w.alloc (.cells #[.int .i64 k, .int .i64 sh, .int .i64 ot, .int .i64 at', .int .i64 out, .int .i64 in'] 24) := ⟨_, rfl⟩
  have B1 : Below w.heap.size w w1 := by rw [hw1]; exact (Below.refl _ _).alloc (Nat.le_refl _) _
  have hA1 : w1.heap[w.heap.size]? = some (.cells #[.int .i64 k, .int .i64 sh, .int .i64 ot, .int .i64 at', .int .i64 out, .int .i64 in'] 24 (0, 0)) := by rw [hw1]; exact heap_alloc_new _ _
  have HW1 := hid hw1
  have HB1 := hid B1
  have HG1 := hid (hG.below B1)
  clear hw1
  clear hG B1
  simp only [List.length_cons, List.length_nil, Nat.zero_add] at HG1
  simp only [List.length_cons, List.length_nil, Nat.zero_add]
  obtain ⟨fr, hfr⟩ : ∃ fr, fr = S.fr := ⟨_, rfl⟩
  obtain ⟨tt, hto⟩ : ∃ tt, tt = S.to := ⟨_, rfl⟩
  rw [← hfr, ← hto]
  have SW : Hid (∀ Y, Below w1.heap.size w1 Y → Y.cell? ⟨g, 1, none⟩ = some (.int .i64 fr) ∧ Y.cell? ⟨g, 2, none⟩ = some (.int .i64 tt)) := hid fun Y hY =>
    ⟨(HG1.out.below hY).at 0 (by simp) 1 _ (by rw [hfr]; rfl), (HG1.out.below hY).at 0 (by simp) 2 _ (by rw [hto]; rfl)⟩
  clear hfr hto HG1
  unfold chV
  go_enter Try.func30, Try.ntmps30
  go_upto_region 1 with fail
  rw [← HW1.out]
  clear HW1
  obtain ⟨C, hCe⟩ : ∃ C, C = w.heap.size := ⟨_, rfl⟩
  rw [← hCe]
  rw [← hCe] at hA1
  clear hCe
  have HA1 := hid hA1
  clear hA1
  have hwa : IntKind.i64.wrap 0 = 0 := by decide
  have hwb : IntKind.i64.wrap 1 = 1 := by decide
  refine wp_region_held_drew (S := fun Y => Y.cell? ⟨g, 1, none⟩ = some (.int .i64 fr) ∧ Y.cell? ⟨g, 2, none⟩ = some (.int .i64 tt)) (by kernel_rfl) (SW.out _ ((Below.refl _ _).drew)) (fun hHeld => ?_)
  refine wpAnyH_take (i := 0) (v := ?pv0) rfl (by kernel_rfl) (by kernel_rfl) (by kernel_rfl) (fun _ _ _ h => h) (Or.inl ⟨by rfl, ?py0⟩) (by assumption) ?pr0
  case py0 => (intro w hSw; (try dsimp only at hSw); go_simp; try with_reducible rfl)
  (try simp only [Act.put, putS])
  refine wpAnyH_take (i := 1) (v := ?pv1) rfl (by kernel_rfl) (by kernel_rfl) (by kernel_rfl) (fun _ _ _ h => h) (Or.inl ⟨by rfl, ?py1⟩) (by assumption) ?pr1
  case py1 => (intro w hSw; (try dsimp only at hSw); go_simp; try with_reducible rfl)
  (try simp only [Act.put, putS])
  refine wpAnyH_take (i := 2) (v := ?pv2) rfl (by kernel_rfl) (by kernel_rfl) (by kernel_rfl) (fun _ _ _ h => h) (Or.inl ⟨by rfl, ?py2⟩) (by assumption) ?pr2
  case py2 => (intro w hSw; (try dsimp only at hSw); go_simp; try with_reducible rfl)
  (try simp only [Act.put, putS])
  refine wpAnyH_take (i := 3) (v := ?pv3) rfl (by kernel_rfl) (by kernel_rfl) (by kernel_rfl) (fun _ _ _ h => h) (Or.inl ⟨by rfl, ?py3⟩) (by assumption) ?pr3
  case py3 => (intro w hSw; (try dsimp only at hSw); go_simp; try with_reducible rfl)
  (try simp only [Act.put, putS])
  refine wpAnyH_take (i := 4) (v := ?pv4) rfl (by kernel_rfl) (by kernel_rfl) (by kernel_rfl) (fun _ _ _ h => h) (Or.inl ⟨by rfl, ?py4⟩) (by assumption) ?pr4
  case py4 => (intro w hSw; (try dsimp only at hSw); go_simp; try with_reducible rfl)
  (try simp only [Act.put, putS])
  refine wpAnyH_take (i := 5) (v := ?pv5) rfl (by kernel_rfl) (by kernel_rfl) (by kernel_rfl) (fun _ _ _ h => h) (Or.inl ⟨by rfl, ?py5⟩) (by assumption) ?pr5
  case py5 => (intro w hSw; (try dsimp only at hSw); go_simp; try with_reducible rfl)
  (try simp only [Act.put, putS])
  refine wpAnyH_take (i := 6) (v := ?pv6) rfl (by kernel_rfl) (by kernel_rfl) (by kernel_rfl) (fun _ _ _ h => h) (Or.inl ⟨by rfl, ?py6⟩) (by assumption) ?pr6
  case py6 => (intro w hSw; (try dsimp only at hSw); go_simp; try with_reducible rfl)
  (try simp only [Act.put, putS])
  refine wpAnyH_take (i := 7) (v := ?pv7) rfl (by kernel_rfl) (by kernel_rfl) (by kernel_rfl) (fun _ _ _ h => h) (Or.inl ⟨by rfl, ?py7⟩) (by assumption) ?pr7
  case py7 => (intro w hSw; (try dsimp only at hSw); go_simp; try with_reducible rfl)
  (try simp only [Act.put, putS])
  refine wpAnyH_take (i := 8) (v := ?pv8) rfl (by kernel_rfl) (by kernel_rfl) (by kernel_rfl) (fun _ _ _ h => h) (Or.inl ⟨by rfl, ?py8⟩) (by assumption) ?pr8
  case py8 => (intro w hSw; (try dsimp only at hSw); go_simp; try with_reducible rfl)
  (try simp only [Act.put, putS])
  refine wpAnyH_take (i := 9) (v := ?pv9) rfl (by kernel_rfl) (by kernel_rfl) (by kernel_rfl) (fun _ _ _ h => h) (Or.inl ⟨by rfl, ?py9⟩) (by assumption) ?pr9
  case py9 => (intro w hSw; (try dsimp only at hSw); go_simp; try with_reducible rfl)
  (try simp only [Act.put, putS])
  refine wpAnyH_take (i := 10) (v := ?pv10) rfl (by kernel_rfl) (by kernel_rfl) (by kernel_rfl) (fun _ _ _ h => h) (Or.inl ⟨by rfl, ?py10⟩) (by assumption) ?pr10
  case py10 => (intro w hSw; (try dsimp only at hSw); go_simp; try with_reducible rfl)
  (try simp only [Act.put, putS])
  refine wpAnyH_take (i := 11) (v := ?pv11) rfl (by kernel_rfl) (by kernel_rfl) (by kernel_rfl) (fun _ _ _ h => h) (Or.inl ⟨by rfl, ?py11⟩) (by assumption) ?pr11
  case py11 => (intro w hSw; (try dsimp only at hSw); go_simp; try with_reducible rfl)
  (try simp only [Act.put, putS])
  refine wpAnyH_take (i := 12) (v := ?pv12) rfl (by kernel_rfl) (by kernel_rfl) (by kernel_rfl) (fun _ _ _ h => h) (Or.inl ⟨by rfl, ?py12⟩) (by assumption) ?pr12
  case py12 => (intro w hSw; (try dsimp only at hSw); go_simp; try with_reducible rfl)
  (try simp only [Act.put, putS])
  refine wpAnyH_take (i := 13) (v := ?pv13) rfl (by kernel_rfl) (by kernel_rfl) (by kernel_rfl) (fun _ _ _ h => h) (Or.inl ⟨by rfl, ?py13⟩) (by assumption) ?pr13
  case py13 => (intro w hSw; (try dsimp only at hSw); go_simp; try with_reducible rfl)
  (try simp only [Act.put, putS])
  refine wpAnyH_ready (rs := [14]) (by kernel_rfl) (by simp) ?_
  refine AllReadyH.cons rfl (fun K hK => ?_) AllReadyH.nil
  rw [if_pos (by rfl)]
  go_simp
  refine hK.out _ _ (SW.out _ (((Below.refl _ _).drew).alloc (Nat.le_refl _) _)) (fun hHeld => ?_)
  try clear hK K
  (try simp only [Act.put, putS])
  refine wpAnyH_ready (rs := [15]) (by kernel_rfl) (by simp) ?_
  refine AllReadyH.cons rfl (fun K hK => ?_) AllReadyH.nil
  rw [if_pos (by rfl)]
  refine wp_store_row _ _ _ rfl w1.heap.size #[.int .i64 fr, .int .i64 tt] rfl rfl _ _ (heap_alloc_new _ _) Try.sizeSp rfl (by simp [Value.oneCell']) ?_
  refine hK.out _ _ (SW.out _ (below_row (((Below.refl _ _).drew).alloc (Nat.le_refl _) _) (Nat.le_refl _) _)) (fun hHeld => ?_)
  try clear hK K
  (try simp only [Act.put, putS])
  refine wpAnyH_done (by kernel_rfl) ?_ _
  obtain ⟨w2, hw2⟩ : ∃ w2, w2 = ((w1.alloc (.cells #[.int .i64 0, .int .i64 0] 43)).drew.setRow w1.heap.size #[.int .i64 fr, .int .i64 tt]) := ⟨_, rfl⟩
  have hb2 : Below w1.heap.size w1 w2 := by rw [hw2]; exact below_row (((Below.refl _ _).alloc (Nat.le_refl _) _).drew) (Nat.le_refl _) _
  have hg2 : w2.heap[w1.heap.size]? = some (.cells #[.int .i64 fr, .int .i64 tt] 43 (0, 0)) := by rw [hw2]; exact setRow_heap _ _ _ _ _ _ (heap_alloc_new w1 _)
  rw [← hw2]
  have hA2 := (hb2.block C (lt_of_block HA1.out)).trans HA1.out
  have a0 : w2.cell? ⟨C, 0, none⟩ = some (.int .i64 k) := by rw [cell_of_row _ _ _ _ _ _ hA2]; rfl
  have a3 : w2.cell? ⟨C, 3, none⟩ = some (.int .i64 at') := by rw [cell_of_row _ _ _ _ _ _ hA2]; rfl
  have B2 := hid (HB1.out.trans (hb2.mono HB1.out.size))
  clear hw2 SW hHeld hA2 hb2
  generalize w1.heap.size = P at hg2 ⊢
  have q0 : w2.cell? ⟨P, 0, none⟩ = some (.int .i64 fr) := by rw [cell_of_row _ _ _ _ _ _ hg2]; rfl
  have q1 : w2.cell? ⟨P, 1, none⟩ = some (.int .i64 tt) := by rw [cell_of_row _ _ _ _ _ _ hg2]; rfl
  have hrg : w2.rangeAt P 0 [.int .i64 fr, .int .i64 tt] := range_of_row hg2 0 _ fun j v hv => by rw [Nat.zero_add]; simpa using hv
  obtain ⟨dP, hdP1, hdP2⟩ := Try.rowSp
  clear hg2
  by_cases h1 : k = 1
  · have HSP : Hid (spD ⟨k, sh, ot, at', out, in'⟩ fr tt = [(fr, at'), (at', tt)]) := hid (by unfold spD; rw [if_pos h1])
    have g1 : (k == 1) = true := by simpa using h1
    clear h1
    go_wp2_with fail
    go_ret
    refine ⟨some ⟨w2.heap.size, 0, none⟩, 2, by rw [HSP.out]; rfl, ?_, B2.out.alloc B2.out.size _⟩
    rw [HSP.out]
    exact own_many w2 43 #[.int .i64 fr, .int .i64 at', .int .i64 at', .int .i64 tt] 2 2 B2.out.size rfl (by omega)
  · have HSP : Hid (spD ⟨k, sh, ot, at', out, in'⟩ fr tt = [(fr, tt)]) := hid (by unfold spD; rw [if_neg h1])
    have g1 : (k == 1) = false := by simpa using h1
    go_wp2_with (refine wpList_load_mid rfl _ _ rfl P 0 rfl [.int .i64 fr, .int .i64 tt] dP hrg hdP1 hdP2 Try.sizeSp ?_)
    go_ret
    refine ⟨some ⟨w2.heap.size, 0, none⟩, 1, by rw [HSP.out]; rfl, ?_, B2.out.alloc B2.out.size _⟩
    rw [HSP.out]
    exact own_many w2 43 #[.int .i64 fr, .int .i64 tt] 2 1 B2.out.size rfl (by omega)
set_option maxRecDepth 100000 in
set_option maxHeartbeats 4000000 in
theorem spans_two (c : ChD) (S T : ShD) (mv pv mw pw v : Value) (w : World) (h1 : c.k ≠ 1) (hG : ShR w v [⟨S, mv, pv⟩, ⟨T, mw, pw⟩]) :
    Calls Try.prog 30 #[chV c, v] w (SpP (spD c S.fr T.to) w) := by
  obtain ⟨g, vc, rfl⟩ := hG.shape (by simp)
  obtain ⟨k, sh, ot, at', out, in'⟩ := c
  simp only at h1
  obtain ⟨w1, hw1⟩ : ∃ w1, w1 = w.alloc (.cells #[.int .i64 k, .int .i64 sh, .int .i64 ot, .int .i64 at', .int .i64 out, .int .i64 in'] 24) := ⟨_, rfl⟩
  have B1 : Below w.heap.size w w1 := by rw [hw1]; exact (Below.refl _ _).alloc (Nat.le_refl _) _
  have hA1 : w1.heap[w.heap.size]? = some (.cells #[.int .i64 k, .int .i64 sh, .int .i64 ot, .int .i64 at', .int .i64 out, .int .i64 in'] 24 (0, 0)) := by rw [hw1]; exact heap_alloc_new _ _
  have HW1 := hid hw1
  have HB1 := hid B1
  have HG1 := hid (hG.below B1)
  clear hw1
  clear hG B1
  simp only [List.length_cons, List.length_nil, Nat.zero_add, Nat.reduceAdd] at HG1
  simp only [List.length_cons, List.length_nil, Nat.zero_add, Nat.reduceAdd]
  obtain ⟨fr, hfr⟩ : ∃ fr, fr = S.fr := ⟨_, rfl⟩
  obtain ⟨tt, hto⟩ : ∃ tt, tt = T.to := ⟨_, rfl⟩
  rw [← hfr, ← hto]
  have SW : Hid (∀ Y, Below w1.heap.size w1 Y → Y.cell? ⟨g, 1, none⟩ = some (.int .i64 fr) ∧ Y.cell? ⟨g, 7, none⟩ = some (.int .i64 tt)) := hid fun Y hY =>
    ⟨(HG1.out.below hY).at 0 (by simp) 1 _ (by rw [hfr]; rfl), (HG1.out.below hY).at 1 (by simp) 2 _ (by rw [hto]; rfl)⟩
  clear hfr hto HG1
  unfold chV
  go_enter Try.func30, Try.ntmps30
  go_upto_region 1 with fail
  rw [← HW1.out]
  clear HW1
  obtain ⟨C, hCe⟩ : ∃ C, C = w.heap.size := ⟨_, rfl⟩
  rw [← hCe]
  rw [← hCe] at hA1
  clear hCe
  have HA1 := hid hA1
  clear hA1
  have hwa : IntKind.i64.wrap 0 = 0 := by decide
  have hwb : IntKind.i64.wrap 1 = 1 := by decide
  refine wp_region_held_drew (S := fun Y => Y.cell? ⟨g, 1, none⟩ = some (.int .i64 fr) ∧ Y.cell? ⟨g, 7, none⟩ = some (.int .i64 tt)) (by kernel_rfl) (SW.out _ ((Below.refl _ _).drew)) (fun hHeld => ?_)
  refine wpAnyH_take (i := 0) (v := ?pv0) rfl (by kernel_rfl) (by kernel_rfl) (by kernel_rfl) (fun _ _ _ h => h) (Or.inl ⟨by rfl, ?py0⟩) (by assumption) ?pr0
  case py0 => (intro w hSw; (try dsimp only at hSw); go_simp; try with_reducible rfl)
  (try simp only [Act.put, putS])
  refine wpAnyH_take (i := 1) (v := ?pv1) rfl (by kernel_rfl) (by kernel_rfl) (by kernel_rfl) (fun _ _ _ h => h) (Or.inl ⟨by rfl, ?py1⟩) (by assumption) ?pr1
  case py1 => (intro w hSw; (try dsimp only at hSw); go_simp; try with_reducible rfl)
  (try simp only [Act.put, putS])
  refine wpAnyH_take (i := 2) (v := ?pv2) rfl (by kernel_rfl) (by kernel_rfl) (by kernel_rfl) (fun _ _ _ h => h) (Or.inl ⟨by rfl, ?py2⟩) (by assumption) ?pr2
  case py2 => (intro w hSw; (try dsimp only at hSw); go_simp; try with_reducible rfl)
  (try simp only [Act.put, putS])
  refine wpAnyH_take (i := 3) (v := ?pv3) rfl (by kernel_rfl) (by kernel_rfl) (by kernel_rfl) (fun _ _ _ h => h) (Or.inl ⟨by rfl, ?py3⟩) (by assumption) ?pr3
  case py3 => (intro w hSw; (try dsimp only at hSw); go_simp; try with_reducible rfl)
  (try simp only [Act.put, putS])
  refine wpAnyH_take (i := 4) (v := ?pv4) rfl (by kernel_rfl) (by kernel_rfl) (by kernel_rfl) (fun _ _ _ h => h) (Or.inl ⟨by rfl, ?py4⟩) (by assumption) ?pr4
  case py4 => (intro w hSw; (try dsimp only at hSw); go_simp; try with_reducible rfl)
  (try simp only [Act.put, putS])
  refine wpAnyH_take (i := 5) (v := ?pv5) rfl (by kernel_rfl) (by kernel_rfl) (by kernel_rfl) (fun _ _ _ h => h) (Or.inl ⟨by rfl, ?py5⟩) (by assumption) ?pr5
  case py5 => (intro w hSw; (try dsimp only at hSw); go_simp; try with_reducible rfl)
  (try simp only [Act.put, putS])
  refine wpAnyH_take (i := 6) (v := ?pv6) rfl (by kernel_rfl) (by kernel_rfl) (by kernel_rfl) (fun _ _ _ h => h) (Or.inl ⟨by rfl, ?py6⟩) (by assumption) ?pr6
  case py6 => (intro w hSw; (try dsimp only at hSw); go_simp; try with_reducible rfl)
  (try simp only [Act.put, putS])
  refine wpAnyH_take (i := 7) (v := ?pv7) rfl (by kernel_rfl) (by kernel_rfl) (by kernel_rfl) (fun _ _ _ h => h) (Or.inl ⟨by rfl, ?py7⟩) (by assumption) ?pr7
  case py7 => (intro w hSw; (try dsimp only at hSw); go_simp; try with_reducible rfl)
  (try simp only [Act.put, putS])
  refine wpAnyH_take (i := 8) (v := ?pv8) rfl (by kernel_rfl) (by kernel_rfl) (by kernel_rfl) (fun _ _ _ h => h) (Or.inl ⟨by rfl, ?py8⟩) (by assumption) ?pr8
  case py8 => (intro w hSw; (try dsimp only at hSw); go_simp; try with_reducible rfl)
  (try simp only [Act.put, putS])
  refine wpAnyH_take (i := 9) (v := ?pv9) rfl (by kernel_rfl) (by kernel_rfl) (by kernel_rfl) (fun _ _ _ h => h) (Or.inl ⟨by rfl, ?py9⟩) (by assumption) ?pr9
  case py9 => (intro w hSw; (try dsimp only at hSw); go_simp; try with_reducible rfl)
  (try simp only [Act.put, putS])
  refine wpAnyH_take (i := 10) (v := ?pv10) rfl (by kernel_rfl) (by kernel_rfl) (by kernel_rfl) (fun _ _ _ h => h) (Or.inl ⟨by rfl, ?py10⟩) (by assumption) ?pr10
  case py10 => (intro w hSw; (try dsimp only at hSw); go_simp; try with_reducible rfl)
  (try simp only [Act.put, putS])
  refine wpAnyH_take (i := 11) (v := ?pv11) rfl (by kernel_rfl) (by kernel_rfl) (by kernel_rfl) (fun _ _ _ h => h) (Or.inl ⟨by rfl, ?py11⟩) (by assumption) ?pr11
  case py11 => (intro w hSw; (try dsimp only at hSw); go_simp; try with_reducible rfl)
  (try simp only [Act.put, putS])
  refine wpAnyH_take (i := 12) (v := ?pv12) rfl (by kernel_rfl) (by kernel_rfl) (by kernel_rfl) (fun _ _ _ h => h) (Or.inl ⟨by rfl, ?py12⟩) (by assumption) ?pr12
  case py12 => (intro w hSw; (try dsimp only at hSw); go_simp; try with_reducible rfl)
  (try simp only [Act.put, putS])
  refine wpAnyH_take (i := 13) (v := ?pv13) rfl (by kernel_rfl) (by kernel_rfl) (by kernel_rfl) (fun _ _ _ h => h) (Or.inl ⟨by rfl, ?py13⟩) (by assumption) ?pr13
  case py13 => (intro w hSw; (try dsimp only at hSw); go_simp; try with_reducible rfl)
  (try simp only [Act.put, putS])
  refine wpAnyH_ready (rs := [14]) (by kernel_rfl) (by simp) ?_
  refine AllReadyH.cons rfl (fun K hK => ?_) AllReadyH.nil
  rw [if_pos (by rfl)]
  go_simp
  refine hK.out _ _ (SW.out _ (((Below.refl _ _).drew).alloc (Nat.le_refl _) _)) (fun hHeld => ?_)
  try clear hK K
  (try simp only [Act.put, putS])
  refine wpAnyH_ready (rs := [15]) (by kernel_rfl) (by simp) ?_
  refine AllReadyH.cons rfl (fun K hK => ?_) AllReadyH.nil
  rw [if_pos (by rfl)]
  refine wp_store_row _ _ _ rfl w1.heap.size #[.int .i64 fr, .int .i64 tt] rfl rfl _ _ (heap_alloc_new _ _) Try.sizeSp rfl (by simp [Value.oneCell']) ?_
  refine hK.out _ _ (SW.out _ (below_row (((Below.refl _ _).drew).alloc (Nat.le_refl _) _) (Nat.le_refl _) _)) (fun hHeld => ?_)
  try clear hK K
  (try simp only [Act.put, putS])
  refine wpAnyH_done (by kernel_rfl) ?_ _
  obtain ⟨w2, hw2⟩ : ∃ w2, w2 = ((w1.alloc (.cells #[.int .i64 0, .int .i64 0] 43)).drew.setRow w1.heap.size #[.int .i64 fr, .int .i64 tt]) := ⟨_, rfl⟩
  have hb2 : Below w1.heap.size w1 w2 := by rw [hw2]; exact below_row (((Below.refl _ _).alloc (Nat.le_refl _) _).drew) (Nat.le_refl _) _
  have hg2 : w2.heap[w1.heap.size]? = some (.cells #[.int .i64 fr, .int .i64 tt] 43 (0, 0)) := by rw [hw2]; exact setRow_heap _ _ _ _ _ _ (heap_alloc_new w1 _)
  rw [← hw2]
  have hA2 := (hb2.block C (lt_of_block HA1.out)).trans HA1.out
  have a0 : w2.cell? ⟨C, 0, none⟩ = some (.int .i64 k) := by rw [cell_of_row _ _ _ _ _ _ hA2]; rfl
  have a3 : w2.cell? ⟨C, 3, none⟩ = some (.int .i64 at') := by rw [cell_of_row _ _ _ _ _ _ hA2]; rfl
  have B2 := hid (HB1.out.trans (hb2.mono HB1.out.size))
  clear hw2 SW hHeld hA2 hb2
  generalize w1.heap.size = P at hg2 ⊢
  have q0 : w2.cell? ⟨P, 0, none⟩ = some (.int .i64 fr) := by rw [cell_of_row _ _ _ _ _ _ hg2]; rfl
  have q1 : w2.cell? ⟨P, 1, none⟩ = some (.int .i64 tt) := by rw [cell_of_row _ _ _ _ _ _ hg2]; rfl
  have hrg : w2.rangeAt P 0 [.int .i64 fr, .int .i64 tt] := range_of_row hg2 0 _ fun j v hv => by rw [Nat.zero_add]; simpa using hv
  obtain ⟨dP, hdP1, hdP2⟩ := Try.rowSp
  clear hg2
  have HSP : Hid (spD ⟨k, sh, ot, at', out, in'⟩ fr tt = [(fr, tt)]) := hid (by unfold spD; rw [if_neg h1])
  have g1 : (k == 1) = false := by simpa using h1
  go_wp2_with (refine wpList_load_mid rfl _ _ rfl P 0 rfl [.int .i64 fr, .int .i64 tt] dP hrg hdP1 hdP2 Try.sizeSp ?_)
  go_ret
  refine ⟨some ⟨w2.heap.size, 0, none⟩, 1, by rw [HSP.out]; rfl, ?_, B2.out.alloc B2.out.size _⟩
  rw [HSP.out]
  exact own_many w2 43 #[.int .i64 fr, .int .i64 tt] 2 1 B2.out.size rfl (by omega)
end Go.Proofs.Ytnkjkaofgninnaa
