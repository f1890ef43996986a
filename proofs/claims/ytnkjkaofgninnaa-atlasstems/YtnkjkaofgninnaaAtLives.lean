/- The document's example of a map of shards. No condition. -/
import Derived.Test.YtnkjkaofgninnaaAtApply
namespace Go.Proofs.Ytnkjkaofgninnaa
open Go.RowKit Go.Maps Go.Shelf
set_option linter.unusedVariables false
set_option linter.unusedSimpArgs false

theorem chs_has : ∀ (ps W W' : List Pc), ps.Pairwise (fun a b => a.2.1 ≤ b.1) → Chs W ps W' → ∀ k v, ((∃ p ∈ ps, p.1 ≤ k ∧ k < p.2.1) → (HasP W' k v ↔ HasP ps k v)) ∧ ((¬ ∃ p ∈ ps, p.1 ≤ k ∧ k < p.2.1) → (HasP W' k v ↔ HasP W k v))
  | [], W, W', _, h, k, v => by
    have e : W' = W := h
    subst e
    exact ⟨fun ⟨p, hp, _⟩ => (by cases hp), fun _ => Iff.rfl⟩
  | p :: l, W, W', hp, ⟨W1, h0, h1, h2⟩, k, v => by
    obtain ⟨hp1, hp2⟩ := List.pairwise_cons.1 hp
    obtain ⟨i1, i2⟩ := chs_has l W1 W' hp2 h2 k v
    have h3 := h1.2 k v
    by_cases hl : ∃ q ∈ l, q.1 ≤ k ∧ k < q.2.1
    · refine ⟨fun _ => ?_, fun hn => ?_⟩
      · rw [i1 hl, HasP_cons]
        obtain ⟨q, hq, hq1, hq2⟩ := hl
        have := hp1 q hq
        constructor
        · exact .inr
        · rintro (h | h)
          · omega
          · exact h
      · obtain ⟨q, hq, hq1, hq2⟩ := hl
        exact absurd ⟨q, List.mem_cons_of_mem _ hq, hq1, hq2⟩ hn
    · have hno : ¬ HasP l k v := fun ⟨x, hx, h4, h5, _⟩ => hl ⟨x, hx, h4, h5⟩
      by_cases hk : p.1 ≤ k ∧ k < p.2.1
      · rw [if_pos hk, HasP_one] at h3
        refine ⟨fun _ => ?_, fun hn => absurd ⟨p, by simp, hk⟩ hn⟩
        rw [i2 hl, h3, HasP_cons]
        constructor
        · exact .inl
        · rintro (h | h)
          · exact h
          · exact absurd h hno
      · rw [if_neg hk] at h3
        refine ⟨fun ⟨q, hq, hq1⟩ => ?_, fun _ => by rw [i2 hl, h3]⟩
        rcases List.mem_cons.1 hq with rfl | hq
        · exact absurd hq1 hk
        · exact absurd ⟨q, hq, hq1⟩ hl
/-- Pieces that cover all that there was. -/
theorem chs_cover (ps W W' : List Pc) (hc : Can W') (hp : Can ps) (hch : Chs W ps W') (hcov : ∀ x ∈ W, ∀ k, x.1 ≤ k → k < x.2.1 → ∃ p ∈ ps, p.1 ≤ k ∧ k < p.2.1) : W' = ps := by
  refine can_unique _ _ hc hp fun k v => ?_
  obtain ⟨h1, h2⟩ := chs_has ps W W' hp.rise hch k v
  by_cases hi : ∃ p ∈ ps, p.1 ≤ k ∧ k < p.2.1
  · exact h1 hi
  · rw [h2 hi]
    constructor
    · rintro ⟨x, hx, h3, h4, _⟩; exact absurd (hcov x hx k h3 h4) hi
    · rintro ⟨x, hx, h3, h4, _⟩; exact absurd ⟨x, hx, h3, h4⟩ hi
def x1 (mv pv : Value) : SX := ⟨⟨1, 0, 10, [0, 1, 2], []⟩, mv, pv⟩
def o1 : OrD := ⟨1, 0, 10, [0, 1, 2]⟩
def x2 (mv pv : Value) : SX := ⟨⟨2, 0, 4, [0, 1, 2], [o1]⟩, mv, pv⟩
def x3 (mv pv : Value) : SX := ⟨⟨3, 4, 10, [0, 1, 2], [o1]⟩, mv, pv⟩
def x4 (mv pv : Value) : SX := ⟨⟨4, 0, 10, [0, 1, 2], [⟨2, 0, 4, [0, 1, 2]⟩, ⟨3, 4, 10, [0, 1, 2]⟩]⟩, mv, pv⟩
/-- What the split leaves; what the merge leaves. -/
def L1 (b wb mb : Nat) (w : World) (e : Ending) (w' : World) : Prop := ∃ ov D mv pv, e = .returned (.int .i64 0) ∧ At w' b wb mb 3 ov D ⟨10, 2, 4, [2, 3]⟩ [x2 mv pv, x3 mv pv] ∧ Tr (AtR b wb mb) w w'
def L4 (b wb mb : Nat) (w : World) (e : Ending) (w' : World) : Prop := ∃ ov D mv pv, e = .returned (.int .i64 0) ∧ At w' b wb mb 4 ov D ⟨10, 3, 5, [4]⟩ [x4 mv pv] ∧ Tr (AtR b wb mb) w w'
theorem can2 : Can [((0 : Int), (4 : Int), (2 : Int)), (4, 10, 3)] := ⟨by simp, List.pairwise_cons.2 ⟨by intro y hy; simp at hy; subst hy; exact .inr ⟨rfl, by decide⟩, List.pairwise_singleton _ _⟩⟩
theorem live_split (b wb mb : Nat) (D : DataW Value) (mv pv : Value) (w : World) (h : At w b wb mb 1 (.slice none 0 0) D ⟨10, 1, 2, []⟩ [x1 mv pv]) :
    Calls Try.prog 7 #[.pointer (some ⟨b, 0, none⟩), chV ⟨1, 1, 0, 4, 0, 0⟩] w (L1 b wb mb w) := by
  refine (apply_one b wb mb 1 _ D ⟨10, 1, 2, []⟩ [x1 mv pv] [] [] [x1 mv pv] ⟨1, 0, 10, [0, 1, 2], []⟩ mv pv ⟨1, 1, 0, 4, 0, 0⟩ w h (by decide) rfl (by decide) (by decide) (by decide) rfl rfl (fun z hz => hz) rfl (fun y hy _ => List.mem_singleton.1 hy) (by decide) (by intro x hx; rw [List.mem_singleton.1 hx]; exact (⟨by decide, by decide⟩ : I64 1)) (by decide) ⟨by decide, by decide⟩ ⟨by decide, by decide⟩ (by intro x hx; rw [List.mem_singleton.1 hx]; exact (show (1 : Int) < 2 by decide)) (by simp) (by decide) ⟨by decide, by decide⟩ ⟨by decide, by decide⟩ (by decide) ?_ ?_).mono ?_
  · intro mv' pv' W' hc hch
    exact chs_cover [(0, 4, 2), (4, 10, 3)] [(0, 10, 1)] W' hc can2 hch (fun x hx k h1 h2 => by
      rw [List.mem_singleton.1 hx] at h1 h2
      by_cases hk : k < 4
      · exact ⟨(0, 4, 2), by simp, h1, hk⟩
      · exact ⟨(4, 10, 3), by simp, by simp only; omega, h2⟩)
  · intro z
    simp only [mem_outX, List.append_nil, List.not_mem_nil, iff_false]
    rintro ⟨hz, hn⟩
    exact hn (by rw [List.mem_singleton.1 hz]; simp)
  · rintro e w' ⟨ov, D', mv', pv', he, ha, ht⟩
    exact ⟨ov, D', mv', pv', he, ha, ht⟩
theorem live_merge (b wb mb : Nat) (D : DataW Value) (mv pv : Value) (w : World) (h : At w b wb mb 3 (.slice none 0 0) D ⟨10, 2, 4, []⟩ [x2 mv pv, x3 mv pv]) :
    Calls Try.prog 7 #[.pointer (some ⟨b, 0, none⟩), chV ⟨2, 2, 3, 0, 0, 0⟩] w (L4 b wb mb w) := by
  refine (apply_two b wb mb 3 _ D ⟨10, 2, 4, []⟩ [x2 mv pv, x3 mv pv] [] [] [x2 mv pv, x3 mv pv] ⟨2, 0, 4, [0, 1, 2], [o1]⟩ ⟨3, 4, 10, [0, 1, 2], [o1]⟩ mv pv mv pv ⟨2, 2, 3, 0, 0, 0⟩ w h (by decide) rfl (by decide) rfl rfl (fun z hz => hz) rfl ?_ rfl ?_ (by decide) ?_ (by decide) ⟨by decide, by decide⟩ ⟨by decide, by decide⟩ ?_ (by simp) (by decide) ⟨by decide, by decide⟩ ⟨by decide, by decide⟩ (by decide) ?_ ?_).mono ?_
  · intro y hy he
    simp at hy
    rcases hy with rfl | rfl
    · rfl
    · exact absurd (show (3 : Int) = 2 from he) (by decide)
  · intro y hy he
    simp at hy
    rcases hy with rfl | rfl
    · exact absurd (show (2 : Int) = 3 from he) (by decide)
    · rfl
  · intro y hy
    simp at hy
    rcases hy with rfl | rfl
    · exact (⟨by decide, by decide⟩ : I64 2)
    · exact (⟨by decide, by decide⟩ : I64 3)
  · intro y hy
    simp at hy
    rcases hy with rfl | rfl
    · exact (show (2 : Int) < 4 by decide)
    · exact (show (3 : Int) < 4 by decide)
  · intro mv' pv' W' hc hch
    exact chs_cover [(0, 10, 4)] [(0, 4, 2), (4, 10, 3)] W' hc (can_one _ (by decide)) hch (fun x hx k h1 h2 => by
      refine ⟨(0, 10, 4), by simp, ?_⟩
      simp at hx
      rcases hx with rfl | rfl <;> simp only at h1 h2 ⊢ <;> omega)
  · intro z
    simp only [mem_outX, List.append_nil, List.not_mem_nil, iff_false]
    rintro ⟨hz, hn⟩
    simp at hz
    rcases hz with rfl | rfl <;> exact hn (by simp)
  · rintro e w' ⟨ov, D', mv', pv', he, ha, ht⟩
    exact ⟨ov, D', mv', pv', he, ha, ht⟩
def L5 (w : World) (e : Ending) (w' : World) : Prop := ∃ ma mc pa pc, e = .returned (.tuple #[.agg #[.int .i64 4, .int .i64 0, .int .i64 10, .slice ma 3 mc, .slice pa 2 pc], .bool true]) ∧ Below w.heap.size w w'
theorem live_get (b wb mb n : Nat) (ov : Value) (D : DataW Value) (mv pv : Value) (N : AtN) (w : World) (h : At w b wb mb n ov D N [x4 mv pv]) :
    Calls Try.prog 14 #[.pointer (some ⟨b, 0, none⟩), .int .i64 4] w (L5 w) := by
  refine (aget_any b wb mb n ov D N _ [x4 mv pv] 4 w h.m ⟨by decide, by decide⟩ ?_).mono ?_
  · intro x hx
    rw [List.mem_singleton.1 hx]
    refine ⟨show 3 ≤ 1000000 by omega, show 2 ≤ 1000000 by omega, ?_⟩
    intro o ho
    have ho' : o ∈ [(⟨2, 0, 4, [0, 1, 2]⟩ : OrD), ⟨3, 4, 10, [0, 1, 2]⟩] := ho
    simp at ho'
    rcases ho' with rfl | rfl <;> simp
  · rintro e w' (⟨x, hx, -, mv', pv', rfl, hs, hb⟩ | ⟨hno, -⟩)
    · have e := List.mem_singleton.1 hx
      subst e
      obtain ⟨⟨ma, mc, rfl⟩, ⟨pa, pc, rfl⟩⟩ := hs.shape
      exact ⟨ma, mc, pa, pc, rfl, hb⟩
    · exact absurd rfl (hno (x4 mv pv) (by simp))
set_option maxRecDepth 100000 in
set_option maxHeartbeats 4000000 in
theorem lives_any (w : World) : Calls Try.prog 9 #[] w fun e w' => e = .returned (.bool true) ∧ Below w.heap.size w w' := by
  have hN : Nums (w.alloc (.cells #[.int .i64 0, .int .i64 1, .int .i64 2] 3)) (.slice (some ⟨w.heap.size, 0, none⟩) 3 3) [0, 1, 2] := by
    refine ⟨_, _, _, rfl, rfl, Nat.le_refl _, by omega, (fun h => by cases h), ?_⟩
    intro ad had j hj
    cases had
    rw [Addr.add_lit, cell_of_row _ _ _ _ _ _ (heap_alloc_new _ _), Nat.zero_add]
    match j, hj with
    | 0, _ => rfl
    | 1, _ => rfl
    | 2, _ => rfl
  have HNW := hid (anew_yes 10 [0, 1, 2] _ _ hN (by simp) (by decide))
  have B1 : Hid (Below w.heap.size w (w.alloc (.cells #[.int .i64 0, .int .i64 1, .int .i64 2] 3))) := hid ((Below.refl _ _).alloc (Nat.le_refl _) _)
  clear hN
  go_enter Try.func9, Try.ntmps9
  go_upto_region 4 with (go_at_call 18; refine HNW.out.mono ?_; rintro e w2 ⟨b, wb, mb, D, mv, pv, rfl, ha2, hb2, hr2⟩; have A2 := hid ha2; have B2 := hid (B1.out.trans (hb2.mono B1.out.size)); have R2 : Hid (∀ q, AtR b wb mb q → w.heap.size ≤ q) := hid (fun q hq => Nat.le_trans B1.out.size (hr2 q hq)); clear ha2 hb2 hr2)
  clear HNW B1
  go_upto_region 5 with (go_at_call 7; refine (live_split b wb mb D mv pv _ A2.out).mono ?_; rintro e w3 ⟨ov3, D3, mv3, pv3, rfl, ha3, ht3⟩; have A3 := hid ha3; have B3 := hid (B2.out.trans (ht3.to R2.out B2.out.size)); clear ha3 ht3)
  go_upto_region 6 with (go_at_call 7; refine (apply_down b wb mb 3 ov3 D3 ⟨10, 2, 4, [2, 3]⟩ _ ⟨1, 2, 0, 1, 0, 0⟩ _ A3.out (by decide) rfl (by decide) (by simp)).mono ?_; rintro e w4 ⟨rfl, hb4⟩; have A4 := hid (A3.out.below hb4); have B4 := hid (B3.out.trans (hb4.mono B3.out.size)); clear hb4)
  go_upto_region 7 with (go_at_call 7; refine (apply_settle b wb mb 3 ov3 D3 ⟨10, 2, 4, [2, 3]⟩ _ ⟨5, 0, 0, 0, 0, 0⟩ _ A4.out (by decide) rfl (by decide) (by simp)).mono ?_; rintro e w5 ⟨rfl, ha5, ht5⟩; have A5 := hid ha5; have B5 := hid (B4.out.trans (ht5.to R2.out B4.out.size)); clear ha5 ht5)
  go_upto_region 8 with (go_at_call 7; refine (live_merge b wb mb D3 mv3 pv3 _ A5.out).mono ?_; rintro e w6 ⟨ov6, D6, mv6, pv6, rfl, ha6, ht6⟩; have A6 := hid ha6; have B6 := hid (B5.out.trans (ht6.to R2.out B5.out.size)); clear ha6 ht6)
  go_upto_region 9 with (go_at_call 14; refine (live_get b wb mb 4 ov6 D6 mv6 pv6 _ _ A6.out).mono ?_; rintro e w7 ⟨ma, mc, pa, pc, rfl, hb7⟩; have A7 := hid (A6.out.below hb7); have B7 := hid (B6.out.trans (hb7.mono B6.out.size)); clear hb7)
  have hb8 : Below w7.heap.size w7 (w7.alloc (.cells #[.int .i64 4, .int .i64 0, .int .i64 10, .slice ma 3 mc, .slice pa 2 pc] 46)) := (Below.refl _ _).alloc (Nat.le_refl _) _
  have hg8 := heap_alloc_new w7 (.cells #[.int .i64 4, .int .i64 0, .int .i64 10, .slice ma 3 mc, .slice pa 2 pc] 46)
  have A8 := hid (A7.out.below hb8)
  have B8 := hid (B7.out.trans (hb8.mono B7.out.size))
  clear hb8 A2 A3 A4 A5 A6 A7
  generalize w7.alloc (.cells #[.int .i64 4, .int .i64 0, .int .i64 10, .slice ma 3 mc, .slice pa 2 pc] 46) = w8 at *
  generalize w7.heap.size = Z at *
  have q1 : w8.cell? ⟨Z, 1, none⟩ = some (.int .i64 0) := by rw [cell_of_row _ _ _ _ _ _ hg8]; rfl
  have q2 : w8.cell? ⟨Z, 2, none⟩ = some (.int .i64 10) := by rw [cell_of_row _ _ _ _ _ _ hg8]; rfl
  have q4 : w8.cell? ⟨Z, 4, none⟩ = some (.slice pa 2 pc) := by rw [cell_of_row _ _ _ _ _ _ hg8]; rfl
  clear hg8
  go_wp2_with (go_at_call 10; refine (aepoch_any b wb mb 4 ov6 D6 _ _ _ _ A8.out.m).mono ?_; rintro e w9 ⟨rfl, hw9⟩; replace hw9 := hw9.symm; subst hw9)
  go_ret
  exact ⟨rfl, B8.out⟩
end Go.Proofs.Ytnkjkaofgninnaa
