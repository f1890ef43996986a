/- What Norm answers, as a set; that the document's examples of layer 2 live. No condition but that the row lies in memory. -/
import Derived.Test.YtbfmanhbbancmaaSpNorm
import Derived.Test.YtbfmanhbbancmaaSpSets
import Derived.Test.YtbfmanhbbancmaaSpRefs
import Derived.Test.YtbfmanhbbancmaaSpPut
namespace Go.Proofs.Ytbfmanhbbancmaa
open Go.RowKit Go.Shelf

/-- r is the plain row of l's blocks. -/
structure NormOf (l r : List Sp) : Prop where
  plain : PlainL r
  mem : ∀ k, InL r k ↔ InL l k
  len : r.length ≤ l.length
theorem norm_any (v : Value) (l : List Sp) (w : World) (hv : Sps w v l) (hl : l.length ≤ 1000000000) :
    Calls Try.prog 25 #[v] w fun e w' => ∃ r va vc, NormOf l r ∧ e = .returned (.slice va r.length vc) ∧ OwnS w' w.heap.size (.slice va r.length vc) r ∧ Below w.heap.size w w' := by
  refine (norm_walk v l w hv hl).mono ?_
  rintro e w' ⟨l', va, vc, hp, hr, rfl, ho, hb⟩
  have hf : ∀ x ∈ l', x.1 < x.2 := fun x hx => by
    have := hp.mem_iff.1 hx
    unfold full at this
    simp only [List.mem_filter, Bool.not_eq_eq_eq_not, Bool.not_true, decide_eq_false_iff_not] at this
    omega
  have h := norm_plain l' hf hr
  refine ⟨_, va, vc, ⟨h.1, fun k => ?_, ?_⟩, rfl, ho, hb⟩
  · rw [h.2 k, InL_perm hp k]
    exact InL_filter l _ (fun x hx => by simpa using hx) k
  · have h1 := growF_len l' []
    have h2 := hp.length_eq
    have h3 : (full l).length ≤ l.length := List.length_filter_le _ _
    simp at h1
    omega
/-- A block of spans, as a slice. -/
theorem sps_block {W : World} {k : Nat} {cs : Array Value} {t : TypeId} {fr : Nat × Nat} (l : List Sp) (h : W.heap[k]? = some (.cells cs t fr)) (hc : ∀ j, (hj : j < l.length) → cs[j * 2]? = some (.int .i64 l[j].1) ∧ cs[j * 2 + 1]? = some (.int .i64 l[j].2)) (hl : l.length ≤ 1000) : Sps W (.slice (some ⟨k, 0, none⟩) l.length l.length) l := by
  refine ⟨_, _, _, rfl, rfl, Nat.le_refl _, by omega, (fun h => by cases h), ?_⟩
  intro ad had j hj
  obtain rfl := Option.some.inj had
  rw [Addr.add_lit, Addr.add_lit, Nat.zero_add, Nat.zero_add, cell_of_row W k _ _ _ _ h, cell_of_row W k _ _ _ _ h]
  exact hc j hj
theorem near_0 {s : Sp} {i j : Nat} (h : NearL [] s i j) : i = 0 ∧ j = 0 := by have h1 := h.ij; have h2 := h.jl; simp at h2; omega
theorem near_1 {i j : Nat} (h : NearL [(0, 9, 1)] (3, 5) i j) : i = 0 ∧ j = 1 := by
  have h1 := h.ij
  have h2 := h.jl
  simp at h2
  have a1 : ¬ 0 < i := fun hh => by have := h.f1 0 (by simp) hh; simp at this
  have a4 : ¬ j ≤ 0 := fun hh => by have := h.f4 0 (by simp) hh; simp at this
  omega
theorem near_3 {i j : Nat} (h : NearL [(0, 3, 1), (3, 5, 2), (5, 9, 1)] (3, 5) i j) : i = 0 ∧ j = 3 := by
  have h1 := h.ij
  have h2 := h.jl
  simp at h2
  have a1 : ¬ 0 < i := fun hh => by have := h.f1 0 (by simp) hh; simp at this
  have a4 : ¬ j ≤ 2 := fun hh => by have := h.f4 2 (by simp) hh; simp at this
  omega
theorem ch_0 : chL [] [(0, 9, 1)] (0, 9) 0 0 = [(0, 9, 1)] := by decide
theorem ch_1 : chL [(0, 9, 1)] [(3, 5, 2)] (3, 5) 0 1 = [(0, 3, 1), (3, 5, 2), (5, 9, 1)] := by decide
theorem ch_3 : chL [(0, 3, 1), (3, 5, 2), (5, 9, 1)] [(3, 5, 1)] (3, 5) 0 3 = [(0, 9, 1)] := by decide
theorem rise_1 : Rise3 [(0, 9, 1)] := by intro i j h hj; simp at hj; omega
theorem rise_3 : Rise3 [(0, 3, 1), (3, 5, 2), (5, 9, 1)] := by
  intro i j h hj
  simp at hj
  have : (i = 0 ∧ j = 1) ∨ (i = 0 ∧ j = 2) ∨ (i = 1 ∧ j = 2) := by omega
  rcases this with ⟨rfl, rfl⟩ | ⟨rfl, rfl⟩ | ⟨rfl, rfl⟩ <;> simp
theorem norm_ex {r : List Sp} (h : NormOf [(5, 8), (1, 3), (3, 4), (7, 9)] r) : r = [(1, 4), (5, 9)] := by
  refine plain_unique h.plain ?_ fun k => ?_
  · refine ⟨?_, ?_⟩
    · intro x hx; simp at hx; rcases hx with rfl | rfl <;> decide
    · simp
  · rw [h.mem k]
    simp [InL]
    omega
set_option maxHeartbeats 3200000 in
theorem lives_any (w : World) : Calls Try.prog 14 #[] w fun e w' => e = .returned (.bool true) ∧ Below w.heap.size w w' := by
  go_enter Try.func14, Try.ntmps14
  go_wp2_with fail
  refine (norm_any _ [(5, 8), (1, 3), (3, 4), (7, 9)] _ (sps_block _ (heap_alloc_new _ _) ?_ (by simp)) (by simp)).mono ?_
  · intro j hj
    simp at hj
    have : j = 0 ∨ j = 1 ∨ j = 2 ∨ j = 3 := by omega
    rcases this with rfl | rfl | rfl | rfl <;> exact ⟨rfl, rfl⟩
  rintro e w1 ⟨r, va, vc, hn, rfl, ho, hb⟩
  have hr := norm_ex hn
  subst hr
  have B1 := hid (((Below.refl _ _).alloc (Nat.le_refl _) _).trans (hb.mono (by simp)) : Below w.heap.size w w1)
  have O1 := hid ho.sps
  clear hn ho hb
  simp only [List.length_cons, List.length_nil, Nat.zero_add, Nat.reduceAdd] at O1 ⊢
  go_wp2_with fail
  obtain ⟨b, hbb⟩ : ∃ b, b = w1.heap.size := ⟨_, rfl⟩
  obtain ⟨w2, hw2⟩ : ∃ w2, w2 = w1.alloc (.cells #[.slice none 0 0] 26) := ⟨_, rfl⟩
  have B2 : Hid (Below w1.heap.size w1 w2) := hid (by rw [hw2]; exact (Below.refl _ _).alloc (Nat.le_refl _) _)
  have M2 : Hid (MapAt w2 b []) := hid ⟨none, 0, by rw [hw2, hbb]; exact heap_alloc_new _ _, OwnP.nil _ _⟩
  rw [← hw2, ← hbb]
  have hwb : w.heap.size ≤ b := by rw [hbb]; exact B1.out.size
  have hb2 : ∀ W, w2.grownBy W (some b) → Below w1.heap.size w1 W := fun W hW => (B2.out).grown hW B2.out.size fun k e => by cases e; omega
  have HB2 := hid hb2
  clear hw2 hbb hb2
  refine (put_any b [] (0, 9) 1 w2 M2.out (by simp) (by intro i j _ hj; simp at hj) (by simp) (by decide)).mono ?_
  rintro e w3 ⟨rfl, i, j, hn, hm, hg, -⟩
  obtain ⟨rfl, rfl⟩ := near_0 hn
  rw [ch_0] at hm
  have M3 := hid hm
  have G3 := hid hg
  clear hn hm hg
  go_wp2_with fail
  refine (put_any b [(0, 9, 1)] (3, 5) 2 w3 M3.out (by simp) rise_1 (by intro x hx; simp at hx; subst hx; decide) (by decide)).mono ?_
  rintro e w4 ⟨rfl, i, j, hn, hm, hg, -⟩
  obtain ⟨rfl, rfl⟩ := near_1 hn
  rw [ch_1] at hm
  have M4 := hid hm
  have G4 := hid (G3.out.trans hg)
  clear hn hm hg
  go_wp2_with fail
  obtain ⟨v4, m4⟩ := M4.out.mp
  refine (len_any b v4 _ w4 m4).mono ?_
  rintro e w5 ⟨rfl, q5, rfl⟩
  have M5 := hid (M4.out.kept (belowN w4 q5))
  have G5 := hid (G4.out.trans (grown_of_below (belowN w4 q5) _))
  clear m4
  simp only [List.length_cons, List.length_nil, Nat.zero_add, Nat.reduceAdd]
  go_wp2_with fail
  refine (put_any b [(0, 3, 1), (3, 5, 2), (5, 9, 1)] (3, 5) 1 _ M5.out (by simp) rise_3 (by intro x hx; simp at hx; rcases hx with rfl | rfl | rfl <;> decide) (by decide)).mono ?_
  rintro e w6 ⟨rfl, i, j, hn, hm, hg, -⟩
  obtain ⟨rfl, rfl⟩ := near_3 hn
  rw [ch_3] at hm
  have M6 := hid hm
  have G6 := hid (G5.out.trans hg)
  clear hn hm hg
  go_wp2_with fail
  have B6 := hid (HB2.out w6 G6.out)
  have ba : Below w6.heap.size w6 (w6.alloc (.cells #[.int .i64 1, .int .i64 4, .int .i64 5, .int .i64 9] 33)) := (Below.refl _ _).alloc (Nat.le_refl _) _
  refine (rsame_any _ _ [(1, 4), (5, 9)] [(1, 4), (5, 9)] _ ((O1.out.below B6.out).below ba) (sps_block [(1, 4), (5, 9)] (heap_alloc_new _ _) ?_ (by simp)) (by simp)).mono ?_
  · intro j hj
    simp at hj
    have : j = 0 ∨ j = 1 := by omega
    rcases this with rfl | rfl <;> exact ⟨rfl, rfl⟩
  rintro e w7 ⟨rfl, hb7⟩
  have M7 := hid ((M6.out.kept ba).kept hb7)
  have B7 := hid ((B1.out.trans (B6.out.mono B1.out.size)).trans ((ba.trans (hb7.mono ba.size)).mono (Nat.le_trans B1.out.size B6.out.size)))
  rw [decide_eq_true (rfl : [((1 : Int), (4 : Int)), (5, 9)] = [(1, 4), (5, 9)])]
  clear ba hb7
  go_wp2_with fail
  obtain ⟨v7, m7⟩ := M7.out.mp
  refine (len_any b v7 _ w7 m7).mono ?_
  rintro e w8 ⟨rfl, q8, rfl⟩
  clear m7
  simp only [List.length_cons, List.length_nil, Nat.zero_add]
  go_wp2_with fail
  go_ret
  exact ⟨rfl, below_drewN B7.out q8⟩
end Go.Proofs.Ytbfmanhbbancmaa
