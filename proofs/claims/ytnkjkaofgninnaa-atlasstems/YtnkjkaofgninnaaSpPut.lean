/- What Put of a Map of numbers leaves. Conditions: the Map's pieces rise. -/
import Derived.Test.YtnkjkaofgninnaaSpChange
namespace Go.Proofs.Ytnkjkaofgninnaa
open Go.RowKit Go.Shelf

/-- A Map of numbers lies at block b, its pieces are l. -/
def MapAt (w : World) (b : Nat) (l : List Pc) : Prop := ∃ va vc, w.heap[b]? = some (.cells #[.slice va l.length vc] 99 (0, 0)) ∧ RowP w (.slice va l.length vc) l
theorem MapAt.kept {w w' : World} {b : Nat} {l : List Pc} (h : MapAt w b l) (hb : Below w.heap.size w w') : MapAt w' b l := by
  obtain ⟨va, vc, h1, h2⟩ := h
  exact ⟨va, vc, by rw [hb.block b (lt_of_block h1)]; exact h1, h2.kept fun k hk => hb.block k (h2.lt k hk)⟩
theorem MapAt.mp {w : World} {b : Nat} {l : List Pc} (h : MapAt w b l) : ∃ v, Mp w b v l := by
  obtain ⟨va, vc, h1, h2⟩ := h
  exact ⟨_, h1, OwnP.pcs h2⟩
/-- What near finds for s. -/
structure NearL (l : List Pc) (s : Sp) (i j : Nat) : Prop where
  ij : i ≤ j
  jl : j ≤ l.length
  f1 : ∀ k, (h : k < l.length) → k < i → l[k].2.1 < s.1
  f2 : ∀ k, (h : k < l.length) → i ≤ k → s.1 ≤ l[k].2.1
  f3 : ∀ k, (h : k < l.length) → k < j → l[k].1 ≤ s.2
  f4 : ∀ k, (h : k < l.length) → j ≤ k → s.2 < l[k].1
set_option maxHeartbeats 1600000 in
theorem put_any (b : Nat) (l : List Pc) (s : Sp) (x : Int) (w : World) (hm : MapAt w b l) (hl : l.length ≤ 1000000) (hR : Rise3 l) (hne : ∀ x ∈ l, x.1 < x.2.1) (hs : s.1 < s.2) :
    Calls Try.prog 59 #[.pointer (some ⟨b, 0, none⟩), .agg #[.int .i64 s.1, .int .i64 s.2], .int .i64 x] w fun e w' => e = .returned (.tuple #[]) ∧ ∃ i j, NearL l s i j ∧ MapAt w' b (chL l [(s.1, s.2, x)] s i j) ∧ w.grownBy w' (some b) ∧ KeepsOthers w w' := by
  obtain ⟨va, vc, h1, h2⟩ := hm
  have HR := hid hR
  have HNE := hid hne
  obtain ⟨s1, s2⟩ := s
  have HS := hid hs
  have hlt := lt_of_block h1
  clear hR hne hs
  simp only at HS ⊢
  obtain ⟨W, hW⟩ : ∃ W, W = (w.alloc (.cells #[.int .i64 s1, .int .i64 s2] 43)).alloc (.cells #[.int .i64 s1, .int .i64 s2, .int .i64 x] 102) := ⟨_, rfl⟩
  have bW : Below w.heap.size w W := by rw [hW]; exact ((Below.refl _ _).alloc (Nat.le_refl _) _).alloc (by simp) _
  have kW : KeepsOthers w W := by rw [hW]; exact (KeepsOthers.alloc _ _).trans (KeepsOthers.alloc _ _)
  have nb : W.heap[w.heap.size + 1]? = some (.cells #[.int .i64 s1, .int .i64 s2, .int .i64 x] 102 (0, 0)) := by rw [hW]; exact heap_alloc2_new w _ _
  have hp : HeldP W (.slice (some ⟨w.heap.size + 1, 0, none⟩) 1 1) [(s1, s2, x)] := by
    refine .inr ⟨w.heap.size + 1, 0, 1, _, rfl, nb, ?_⟩
    intro j hj
    obtain rfl : j = 0 := by simpa using hj
    exact ⟨by rw [cell_of_row W _ _ _ _ _ nb]; rfl, by rw [cell_of_row W _ _ _ _ _ nb]; rfl, by rw [cell_of_row W _ _ _ _ _ nb]; rfl⟩
  have HC := hid (change_walk b va vc _ l [(s1, s2, x)] (s1, s2) W (by rw [bW.block b hlt]; exact h1) (h2.kept fun k hk => bW.block k (h2.lt k hk)) hp hl (by simp) HR.out HNE.out HS.out)
  rw [hW] at HC
  have BW := hid bW
  have KW := hid kW
  rw [hW] at BW KW
  clear hp nb bW kW hW h1 h2
  go_enter Try.func59, Try.ntmps59
  go_wp2_with (go_at_call 65; refine HC.out.mono ?_; rintro e w2 ⟨rfl, i, j, v', a1, a2, a3, a4, a5, a6, a7, a8, a9, a10⟩; have NL := hid (show NearL l (s1, s2) i j from ⟨a1, a2, a3, a4, a5, a6⟩); have A7 := hid a7; have A8 := hid a8; have A9 := hid a9; have A10 := hid a10; clear a1 a2 a3 a4 a5 a6 a7 a8 a9 a10)
  go_end0
  obtain ⟨va', vc', rfl⟩ := A8.out.shape
  refine ⟨rfl, i, j, NL.out, ⟨va', vc', A7.out, A8.out.lower (Nat.zero_le _)⟩, ?_, KW.out.trans A10.out⟩
  have h9 := A9.out
  exact (grown_of_below BW.out _).andThen h9 fun k e => .inr e
end Go.Proofs.Ytnkjkaofgninnaa
