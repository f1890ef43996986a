/- The document's store in memory; what its New gives. -/
import Derived.Test.YtabmnelenfghhaaBkRow
import Derived.Deep.CutBlock
import Derived.Deep.CutRange
namespace Go.Proofs.Ytabmnelenfghhaa
open Go.RowKit
set_option linter.unusedVariables false
set_option linter.unusedSimpArgs false

/-- The slices of the marks' rows. -/
def kvs (ks : List Nat) : List Value := ks.map fun k => .slice (some ⟨k, 0, none⟩) 4 4
theorem kvs_len (ks : List Nat) : (kvs ks).length = ks.length := by simp [kvs]
def m4 (c : CellD) : Array Value := #[.int .i64 (c.m 0), .int .i64 (c.m 1), .int .i64 (c.m 2), .int .i64 (c.m 3)]
/-- The document's store lies at block X: its texts are vt, its marks vm, each row of marks at a block of ks; all but X lie from base on. -/
structure RSt (w : World) (base X : Nat) (vt vm : Value) (ks : List Nat) (S : StD) : Prop where
  head : w.heap[X]? = some (.cells #[.int .i64 S.from', .int .i64 S.to, .bool S.fr, vt, vm] 108 (0, 0))
  texts : w.ownsRow base 9 1 vt S.cells.length (tvs (S.cells.map (·.text)))
  rows : w.ownsRow base 66 1 vm S.cells.length (kvs ks)
  n : ks.length = S.cells.length
  marks : ∀ j (h : j < ks.length) (h' : j < S.cells.length), base ≤ ks[j] ∧ w.heap[ks[j]]? = some (.cells (m4 S.cells[j]) 3 (0, 0))
  nd : ks.Nodup
theorem RSt.kt {w w' : World} {base X : Nat} {vt vm : Value} {ks : List Nat} {S : StD} {ts : List TypeId} (h : RSt w base X vt vm ks S) (hk : Kt ts w w')
    (ht : 108 ∉ ts ∧ 9 ∉ ts ∧ 66 ∉ ts ∧ 3 ∉ ts) : RSt w' base X vt vm ks S := by
  refine ⟨(hk X _ _ _ h.head ht.1).trans h.head, own_kt h.texts hk ht.2.1, own_kt h.rows hk ht.2.2.1, h.n, fun j h1 h2 => ?_, h.nd⟩
  obtain ⟨a, b⟩ := h.marks j h1 h2
  exact ⟨a, (hk _ _ _ _ b ht.2.2.2).trans b⟩
theorem RSt.below {w w' : World} {base X : Nat} {vt vm : Value} {ks : List Nat} {S : StD} (h : RSt w base X vt vm ks S) (hb : Below w.heap.size w w') : RSt w' base X vt vm ks S :=
  h.kt (Kt.below [] hb) (by simp)
theorem Kt.st {w w' : World} {b g : Nat} {S : StD} {ts : List TypeId} (hk : Kt ts w w') (h : St w b g S) (ht : 91 ∉ ts ∧ 100 ∉ ts) : St w' b g S := by
  obtain ⟨_, cap, h1, h2⟩ := id h
  obtain ⟨cur, hc⟩ := own_typed h2 (q := g) rfl
  exact h.kept (hk b _ _ _ h1 ht.1) (hk g _ _ _ hc ht.2)
/-- One block more: the document's store behind a round of its New. -/
theorem RSt.more {wr w2 w4 : World} {A X i : Nat} {vt vm vt' vm' : Value} {ks : List Nat} {f t : Int} (h : RSt wr A X vt vm ks ⟨f, t, false, List.replicate i zeroC⟩)
    (hg2 : (wr.alloc (.cells #[.string ⟨#[]⟩] 9)).grownBy w2 vt.ownBlock) (ho2 : w2.ownsRow A 9 1 vt' (i + 1) (tvs ((List.replicate i zeroC).map (·.text)) ++ [.string ⟨#[]⟩]))
    (hg4 : (((w2.setCell ⟨X, 3, none⟩ vt').alloc (.cells #[.int .i64 0, .int .i64 0, .int .i64 0, .int .i64 0] 3)).alloc (.cells #[.slice (some ⟨w2.heap.size, 0, none⟩) 4 4] 66)).grownBy w4 vm.ownBlock)
    (ho4 : w4.ownsRow A 66 1 vm' (i + 1) (kvs ks ++ [.slice (some ⟨w2.heap.size, 0, none⟩) 4 4])) (hA : A ≤ wr.heap.size) :
    RSt (w4.setCell ⟨X, 4, none⟩ vm') A X vt' vm' (ks ++ [w2.heap.size]) ⟨f, t, false, List.replicate (i + 1) zeroC⟩ := by
  have k1 : Kt [9] wr w2 := ((Kt.refl _ _).alloc _).grown (own_below h.texts ((Below.refl _ _).alloc (Nat.le_refl _) _)) hg2 (by simp)
  have hX2 := (k1 X _ _ _ h.head (by decide)).trans h.head
  have k2 : Kt [108] w2 (((w2.setCell ⟨X, 3, none⟩ vt').alloc (.cells #[.int .i64 0, .int .i64 0, .int .i64 0, .int .i64 0] 3)).alloc (.cells #[.slice (some ⟨w2.heap.size, 0, none⟩) 4 4] 66)) := ((((Kt.refl _ _).set X 3 _ hX2 (by simp)).alloc _).alloc _)
  have ow3 := own_kt (own_kt h.rows k1 (by decide)) k2 (by decide)
  have k3 : Kt [66] (((w2.setCell ⟨X, 3, none⟩ vt').alloc (.cells #[.int .i64 0, .int .i64 0, .int .i64 0, .int .i64 0] 3)).alloc (.cells #[.slice (some ⟨w2.heap.size, 0, none⟩) 4 4] 66)) w4 := (Kt.refl _ _).grown ow3 hg4 (by simp)
  have hX3 : (w2.setCell ⟨X, 3, none⟩ vt').heap[X]? = some (.cells #[.int .i64 f, .int .i64 t, .bool false, vt', vm] 108 (0, 0)) := by
    have := heap_setCell_same w2 X 3 _ 108 vt' hX2
    rw [this]; simp
  have hs3 : (w2.setCell ⟨X, 3, none⟩ vt').heap.size = w2.heap.size := by simp
  have hX3b : (((w2.setCell ⟨X, 3, none⟩ vt').alloc (.cells #[.int .i64 0, .int .i64 0, .int .i64 0, .int .i64 0] 3)).alloc (.cells #[.slice (some ⟨w2.heap.size, 0, none⟩) 4 4] 66)).heap[X]? = _ := (Below.heap_alloc _ _ _ (by have := lt_of_block hX3; simp; omega)).trans ((Below.heap_alloc _ _ _ (lt_of_block hX3)).trans hX3)
  have hX4 := (k3 X _ _ _ hX3b (by decide)).trans hX3b
  have k5 : Kt [108] w4 (w4.setCell ⟨X, 4, none⟩ vm') := (Kt.refl _ _).set X 4 _ hX4 (by simp)
  have hK3 : (((w2.setCell ⟨X, 3, none⟩ vt').alloc (.cells #[.int .i64 0, .int .i64 0, .int .i64 0, .int .i64 0] 3)).alloc (.cells #[.slice (some ⟨w2.heap.size, 0, none⟩) 4 4] 66)).heap[w2.heap.size]? = some (.cells #[.int .i64 0, .int .i64 0, .int .i64 0, .int .i64 0] 3 (0, 0)) := by
    have := heap_alloc2_old (w2.setCell ⟨X, 3, none⟩ vt') (.cells #[.int .i64 0, .int .i64 0, .int .i64 0, .int .i64 0] 3) (.cells #[.slice (some ⟨w2.heap.size, 0, none⟩) 4 4] 66)
    rwa [hs3] at this
  have hsz2 : wr.heap.size ≤ w2.heap.size := by have := hg2.size; simp at this; omega
  have hkl : ks.length = i := by have := h.n; simpa using this
  refine ⟨?_, ?_, ?_, by simp [hkl], ?_, ?_⟩
  · have := heap_setCell_same w4 X 4 _ 108 vm' hX4
    rw [this]; simp
  · have e := own_kt (own_kt (own_kt ho2 k2 (by decide)) k3 (by decide)) k5 (by decide)
    have e2 : tvs ((List.replicate (i + 1) zeroC).map (·.text)) = tvs ((List.replicate i zeroC).map (·.text)) ++ [.string ⟨#[]⟩] := by
      rw [List.replicate_succ']; simp [tvs, zeroC]
    simp only [List.length_replicate]
    rw [e2]; exact e
  · have e := own_kt ho4 k5 (by decide)
    have e2 : kvs (ks ++ [w2.heap.size]) = kvs ks ++ [.slice (some ⟨w2.heap.size, 0, none⟩) 4 4] := by simp [kvs]
    simp only [List.length_replicate]
    rw [e2]; exact e
  · intro j h1 h2
    have hz : (⟨f, t, false, List.replicate (i + 1) zeroC⟩ : StD).cells[j] = zeroC := by simp
    rw [hz]
    by_cases hj : j < ks.length
    · obtain ⟨a, b⟩ := h.marks j hj (by rw [← h.n]; exact hj)
      have hz' : (⟨f, t, false, List.replicate i zeroC⟩ : StD).cells[j]'(by rw [← h.n]; exact hj) = zeroC := by simp
      rw [hz'] at b
      rw [List.getElem_append_left hj]
      have b1 := (k1 _ _ _ _ b (by decide)).trans b
      have b2 := (k2 _ _ _ _ b1 (by decide)).trans b1
      have b3 := (k3 _ _ _ _ b2 (by decide)).trans b2
      exact ⟨a, (k5 _ _ _ _ b3 (by decide)).trans b3⟩
    · have hj2 : j = ks.length := by simp at h1; omega
      subst hj2
      have e : (ks ++ [w2.heap.size])[ks.length] = w2.heap.size := by simp
      rw [e]
      have b3 := (k3 _ _ _ _ hK3 (by decide)).trans hK3
      exact ⟨by omega, (k5 _ _ _ _ b3 (by decide)).trans b3⟩
  · refine List.nodup_append.2 ⟨h.nd, by simp, fun a ha b hb e => ?_⟩
    obtain rfl : b = w2.heap.size := by simpa using hb
    obtain ⟨j, hj, rfl⟩ := List.mem_iff_getElem.1 ha
    have := lt_of_block (h.marks j hj (by rw [← h.n]; exact hj)).2
    omega
theorem RSt.moreLow {wr w2 w4 : World} {A X i : Nat} {vt vm vt' vm' : Value} {ks : List Nat} {f t : Int} (h : RSt wr A X vt vm ks ⟨f, t, false, List.replicate i zeroC⟩)
    (hg2 : (wr.alloc (.cells #[.string ⟨#[]⟩] 9)).grownBy w2 vt.ownBlock) (ho2 : w2.ownsRow A 9 1 vt' (i + 1) (tvs ((List.replicate i zeroC).map (·.text)) ++ [.string ⟨#[]⟩]))
    (hg4 : (((w2.setCell ⟨X, 3, none⟩ vt').alloc (.cells #[.int .i64 0, .int .i64 0, .int .i64 0, .int .i64 0] 3)).alloc (.cells #[.slice (some ⟨w2.heap.size, 0, none⟩) 4 4] 66)).grownBy w4 vm.ownBlock)
    (ho4 : w4.ownsRow A 66 1 vm' (i + 1) (kvs ks ++ [.slice (some ⟨w2.heap.size, 0, none⟩) 4 4])) (hA : A ≤ wr.heap.size) (hAX : A ≤ X) :
    Below A wr (w4.setCell ⟨X, 4, none⟩ vm') ∧ Kt [9, 108, 66] wr (w4.setCell ⟨X, 4, none⟩ vm') := by
  have k1 : Kt [9] wr w2 := ((Kt.refl _ _).alloc _).grown (own_below h.texts ((Below.refl _ _).alloc (Nat.le_refl _) _)) hg2 (by simp)
  have hX2 := (k1 X _ _ _ h.head (by decide)).trans h.head
  have k2 : Kt [108] w2 (((w2.setCell ⟨X, 3, none⟩ vt').alloc (.cells #[.int .i64 0, .int .i64 0, .int .i64 0, .int .i64 0] 3)).alloc (.cells #[.slice (some ⟨w2.heap.size, 0, none⟩) 4 4] 66)) := ((((Kt.refl _ _).set X 3 _ hX2 (by simp)).alloc _).alloc _)
  have ow3 := own_kt (own_kt h.rows k1 (by decide)) k2 (by decide)
  have k3 : Kt [66] (((w2.setCell ⟨X, 3, none⟩ vt').alloc (.cells #[.int .i64 0, .int .i64 0, .int .i64 0, .int .i64 0] 3)).alloc (.cells #[.slice (some ⟨w2.heap.size, 0, none⟩) 4 4] 66)) w4 := (Kt.refl _ _).grown ow3 hg4 (by simp)
  have hX3 : (w2.setCell ⟨X, 3, none⟩ vt').heap[X]? = some (.cells #[.int .i64 f, .int .i64 t, .bool false, vt', vm] 108 (0, 0)) := by
    have := heap_setCell_same w2 X 3 _ 108 vt' hX2
    rw [this]; simp
  have hs3 : (w2.setCell ⟨X, 3, none⟩ vt').heap.size = w2.heap.size := by simp
  have hX3b : (((w2.setCell ⟨X, 3, none⟩ vt').alloc (.cells #[.int .i64 0, .int .i64 0, .int .i64 0, .int .i64 0] 3)).alloc (.cells #[.slice (some ⟨w2.heap.size, 0, none⟩) 4 4] 66)).heap[X]? = _ := (Below.heap_alloc _ _ _ (by have := lt_of_block hX3; simp; omega)).trans ((Below.heap_alloc _ _ _ (lt_of_block hX3)).trans hX3)
  have hX4 := (k3 X _ _ _ hX3b (by decide)).trans hX3b
  have k5 : Kt [108] w4 (w4.setCell ⟨X, 4, none⟩ vm') := (Kt.refl _ _).set X 4 _ hX4 (by simp)
  have b2 : Below A wr w2 := ((Below.refl _ _).alloc hA _).grown hg2 (by simp; omega) fun k hk => (h.texts.lt k hk).1
  have hsz2 : wr.heap.size ≤ w2.heap.size := by have := hg2.size; simp at this; omega
  have b3 : Below A wr (((w2.setCell ⟨X, 3, none⟩ vt').alloc (.cells #[.int .i64 0, .int .i64 0, .int .i64 0, .int .i64 0] 3)).alloc (.cells #[.slice (some ⟨w2.heap.size, 0, none⟩) 4 4] 66)) := ((b2.setCell (p := ⟨X, 3, none⟩) hAX _).alloc (by simp; omega) _).alloc (by simp; omega) _
  have b4 : Below A wr w4 := b3.grown hg4 (by simp; omega) fun k hk => (ow3.lt k hk).1
  exact ⟨b4.setCell (p := ⟨X, 4, none⟩) hAX _, ((((k1.trans k2).trans k3).trans k5)).sub (by simp)⟩
/-- What New of the document gives. -/
def RNewP (x : Sp) (w : World) (e : Ending) (w' : World) : Prop := ∃ X vt vm ks, e = .returned (.pointer (some ⟨X, 0, none⟩)) ∧ w.heap.size ≤ X ∧ RSt w' w.heap.size X vt vm ks ⟨x.1, x.2, false, List.replicate (x.2 - x.1).toNat zeroC⟩ ∧ Below w.heap.size w w'
set_option maxRecDepth 100000 in
set_option maxHeartbeats 4000000 in
theorem rnew_any (x : Sp) (w : World) (hm : mayBeB x = true) :
    Calls Try.prog 38 #[.agg #[.int .i64 x.1, .int .i64 x.2]] w (RNewP x w) := by
  obtain ⟨f, t⟩ := x
  have hb3 : 0 ≤ f ∧ t ≤ 256 ∧ f < t := by unfold mayBeB at hm; simp at hm; omega
  obtain ⟨n, hn⟩ : ∃ n : Nat, t - f = n := ⟨(t - f).toNat, by omega⟩
  have hnn : (t - f).toNat = n := by omega
  simp only
  have HNN := hid hnn
  obtain ⟨w1, hw1⟩ : ∃ w1, w1 = (w.alloc (.cells #[.int .i64 f, .int .i64 t] 42)).alloc (.cells #[.int .i64 f, .int .i64 t, .bool false, .slice none 0 0, .slice none 0 0] 108) := ⟨_, rfl⟩
  have hb1 : Below w.heap.size w w1 := by rw [hw1]; exact ((Below.refl _ _).alloc (Nat.le_refl _) _).alloc (by simp) _
  have h31 : w1.heap[w.heap.size]? = some (.cells #[.int .i64 f, .int .i64 t] 42 (0, 0)) := by rw [hw1]; exact heap_alloc2_old _ _ _
  have hX1 : w1.heap[w.heap.size + 1]? = some (.cells #[.int .i64 f, .int .i64 t, .bool false, .slice none 0 0, .slice none 0 0] 108 (0, 0)) := by rw [hw1]; exact heap_alloc2_new _ _ _
  have hs1 : w1.heap.size = w.heap.size + 2 := by rw [hw1]; simp
  have HW1 := hid hw1
  clear hw1 hm
  go_enter Try.func38, Try.ntmps38
  go_upto_region 2 with fail
  rw [← HW1.out]
  obtain ⟨A, hA⟩ : ∃ A, A = w.heap.size := ⟨_, rfl⟩
  obtain ⟨X, hX⟩ : ∃ X, X = w.heap.size + 1 := ⟨_, rfl⟩
  rw [← hA] at h31
  rw [← hX] at hX1
  rw [← hX, ← hA]
  have hAX : A < X ∧ X < w1.heap.size := by omega
  have HWA : Hid (w.heap.size = A) := hid (by omega)
  have s0 : w1.cell? ⟨A, 0, none⟩ = some (.int .i64 f) := by rw [cell_of_row _ _ _ _ _ _ h31]; rfl
  have HA := hid h31
  have HXX := hid hX1
  have HB1 := hid hb1
  rw [HWA.out] at HB1
  clear HW1 hA hX hs1 h31 hX1 hb1 hnn
  go_wp2_with fail
  go_loopw [4] (fun bv wr => ∃ (i : Nat) (vt vm : Value) (ks : List Nat), bv = .int .i64 (f + i) ∧ i ≤ n ∧ wr.heap[A]? = some (.cells #[.int .i64 f, .int .i64 t] 42 (0, 0)) ∧ RSt wr A X vt vm ks ⟨f, t, false, List.replicate i zeroC⟩ ∧ Below A w wr) (fun bv _ => n - ((intOf bv) - f).toNat)
  case atStart =>
    exact ⟨0, _, _, [], by simp, Nat.zero_le _, HA.out, ⟨HXX.out, World.ownsRow_nil _ _ _ _, World.ownsRow_nil _ _ _ _, rfl, (fun j h _ => by cases h), List.nodup_nil⟩, HB1.out⟩
  case round =>
    obtain ⟨i, vt, vm, ks, rfl, hi, hAw, hR, hB⟩ := hrel
    clear s0
    have s1 : wr.cell? ⟨A, 1, none⟩ = some (.int .i64 t) := by rw [cell_of_row _ _ _ _ _ _ hAw]; rfl
    have HR := hid hR
    have HB := hid hB
    have HAw := hid hAw
    have hAr : A ≤ wr.heap.size := Nat.le_of_lt (lt_of_block hAw)
    have hXr : X < wr.heap.size := lt_of_block hR.head
    clear hR hB hAw
    by_cases hlt : i < n
    · have hltI : f + (i : Int) < t := by omega
      have hwr : IntKind.i64.wrap (f + (i : Int) + 1) = f + (i : Int) + 1 := IntWalk.i64_in _ ⟨by omega, by omega⟩
      have c3 : wr.cell? ⟨X, 3, none⟩ = some vt := by rw [cell_of_row _ _ _ _ _ _ HR.out.head]; rfl
      have HT := hid (own_below HR.out.texts ((Below.refl _ _).alloc (Nat.le_refl _) (.cells #[.string ⟨#[]⟩] 9)))
      simp only [List.length_replicate] at HT
      have HY : Hid (∀ j u, [Value.string ⟨#[]⟩][j]? = some u → (wr.alloc (.cells #[.string ⟨#[]⟩] 9)).cell? ⟨wr.heap.size, j, none⟩ = some u) := hid (by
        intro j u hj
        match j with
        | 0 => simp at hj; subst hj; rw [cell_of_row _ _ _ _ _ _ (heap_alloc_new _ _)]; rfl
        | j + 1 => simp at hj)
      have HK1 : Hid (∀ w2, (wr.alloc (.cells #[.string ⟨#[]⟩] 9)).grownBy w2 vt.ownBlock → Kt [9] wr w2) := hid fun w2 hg => ((Kt.refl _ _).alloc _).grown HT.out hg (by simp)
      have hC4 : Hid (∀ w2 : World, w2.heap[X]? = some (.cells #[.int .i64 f, .int .i64 t, .bool false, vt, vm] 108 (0, 0)) → ∀ u, (w2.setCell ⟨X, 3, none⟩ u).cell? ⟨X, 4, none⟩ = some vm) := hid fun w2 h u => by
        have := heap_setCell_same w2 X 3 _ 108 u h
        rw [cell_of_row _ _ _ _ _ _ this]; rfl
      have hF : Hid (∀ w2 : World, w2.heap[X]? = some (.cells #[.int .i64 f, .int .i64 t, .bool false, vt, vm] 108 (0, 0)) → w2.frozen? ⟨X, 3, none⟩ = false ∧ w2.cell? ⟨X, 3, none⟩ = some vt) := hid fun w2 h => ⟨by simp [World.frozen?, h], by rw [cell_of_row _ _ _ _ _ _ h]; rfl⟩
      have HM : Hid (∀ (w2 : World) (u : Value), Kt [9] wr w2 → w2.heap[X]? = some (.cells #[.int .i64 f, .int .i64 t, .bool false, vt, vm] 108 (0, 0)) → (((w2.setCell ⟨X, 3, none⟩ u).alloc (.cells #[.int .i64 0, .int .i64 0, .int .i64 0, .int .i64 0] 3)).alloc (.cells #[.slice (some ⟨w2.heap.size, 0, none⟩) 4 4] 66)).ownsRow A 66 1 vm i (kvs ks)) := hid fun w2 u k1 h => by
        have := HR.out.rows
        simp only [List.length_replicate] at this
        exact own_kt (own_kt this k1 (by decide)) (ts := [108]) ((((Kt.refl _ _).set X 3 _ h (by simp)).alloc _).alloc _) (by decide)
      have HX4 : Hid (∀ (w2 w4 : World) (u : Value), Kt [9] wr w2 → w2.heap[X]? = some (.cells #[.int .i64 f, .int .i64 t, .bool false, vt, vm] 108 (0, 0)) → (((w2.setCell ⟨X, 3, none⟩ u).alloc (.cells #[.int .i64 0, .int .i64 0, .int .i64 0, .int .i64 0] 3)).alloc (.cells #[.slice (some ⟨w2.heap.size, 0, none⟩) 4 4] 66)).grownBy w4 vm.ownBlock → w4.cell? ⟨X, 4, none⟩ = some vm ∧ w4.frozen? ⟨X, 4, none⟩ = false) := hid fun w2 w4 u k1 h hg => by
        have k3 : Kt [66] _ w4 := (Kt.refl _ _).grown (HM.out w2 u k1 h) hg (by simp)
        have hX3 := heap_setCell_same w2 X 3 _ 108 u h
        have hX3b : (((w2.setCell ⟨X, 3, none⟩ u).alloc (.cells #[.int .i64 0, .int .i64 0, .int .i64 0, .int .i64 0] 3)).alloc (.cells #[.slice (some ⟨w2.heap.size, 0, none⟩) 4 4] 66)).heap[X]? = _ := (Below.heap_alloc _ _ _ (by have := lt_of_block hX3; simp at this ⊢; omega)).trans ((Below.heap_alloc _ _ _ (lt_of_block hX3)).trans hX3)
        have hX4 := (k3 X _ _ _ hX3b (by decide)).trans hX3b
        exact ⟨by rw [cell_of_row _ _ _ _ _ _ hX4]; rfl, by simp [World.frozen?, hX4]⟩
      have HY2 : Hid (∀ (w2 : World) (u : Value) (o : Obj), ∀ j u', [Value.slice (some ⟨w2.heap.size, 0, none⟩) 4 4][j]? = some u' → (((w2.setCell ⟨X, 3, none⟩ u).alloc o).alloc (.cells #[.slice (some ⟨w2.heap.size, 0, none⟩) 4 4] 66)).cell? ⟨w2.heap.size + 1, j, none⟩ = some u') := hid (by
        intro w2 u o j u' hj
        have := heap_alloc2_new (w2.setCell ⟨X, 3, none⟩ u) o (.cells #[.slice (some ⟨w2.heap.size, 0, none⟩) 4 4] 66)
        rw [show (w2.setCell ⟨X, 3, none⟩ u).heap.size = w2.heap.size from by simp] at this
        match j with
        | 0 => simp at hj; subst hj; rw [cell_of_row _ _ _ _ _ _ this]; rfl
        | j + 1 => simp at hj)
      go_wp2_with (first
        | (at_builtin; refine wpl_app rowStr rfl _ _ rfl A vt i (tvs ((List.replicate i zeroC).map (·.text))) rfl HT.out wr.heap.size 1 1 [.string ⟨#[]⟩] rfl rfl HY.out (by simp [Value.oneCell']) (by omega) (by simp; omega) ?_; intro va vc w2 ho2 hg2; have OT := hid ho2; have GT := hid hg2; have K1 := hid (HK1.out w2 hg2); have hX2 := (K1.out X _ _ _ HR.out.head (by decide)).trans HR.out.head; have e4 := hC4.out w2 hX2; have f3 := (hF.out w2 hX2).1; have g3 := (hF.out w2 hX2).2; have hs2 : A ≤ w2.heap.size := Nat.le_trans hAr (by have := hg2.size; simp at this; omega); have HX2 := hid hX2; clear ho2 hg2 hX2)
        | (at_builtin; refine wpl_app rowInts rfl _ _ rfl A vm i (kvs ks) rfl (HM.out w2 _ K1.out HX2.out) (w2.heap.size + 1) 1 1 [.slice (some ⟨w2.heap.size, 0, none⟩) 4 4] rfl rfl (HY2.out _ _ _) (by simp [Value.oneCell']) (by omega) (by simp; omega) ?_; intro va2 vc2 w4 ho4 hg4; have R5 := hid (RSt.more HR.out GT.out OT.out hg4 ho4 hAr); have L5 := hid (RSt.moreLow HR.out GT.out OT.out hg4 ho4 hAr (by omega)); have hX4 := HX4.out w2 w4 _ K1.out HX2.out hg4; have g4 := hX4.1; have f4 := hX4.2; clear hX4)
        )
      go_roundw
      case rel => exact ⟨i + 1, _, _, _, by go_num, by omega, (L5.out.2 A _ _ _ HAw.out (by decide)).trans HAw.out, R5.out, HB.out.trans L5.out.1⟩
      case measure => simp [intOf]; omega
    · have hltI : ¬ f + (i : Int) < t := by omega
      obtain rfl : i = n := by omega
      have HE := HR.out
      rw [← HWA.out] at HE
      have hBE := HB.out
      rw [← HWA.out] at hBE
      have HE' := hid HE
      have HB' := hid hBE
      clear HE hBE
      go_wp2_with fail
      go_ret
      refine ⟨X, vt, vm, ks, rfl, ?_, ?_, HB'.out⟩
      · rw [HWA.out]; omega
      · simp only; rw [HNN.out]; exact HE'.out
end Go.Proofs.Ytabmnelenfghhaa
