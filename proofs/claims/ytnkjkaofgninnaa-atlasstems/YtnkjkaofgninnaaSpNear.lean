/- What sort.Search answers for a test that is false and then true; what near answers. Conditions: the test's function answers so in whatever world the call has made. -/
import Derived.Test.YtnkjkaofgninnaaSpLay
namespace Go.Proofs.Ytnkjkaofgninnaa
open Go.RowKit

/-- Function f is one that is entered. -/
def Ent (f : FuncId) : Prop := ∀ (args : Array Value) (w : World), (callFunc f args).run Try.prog w = .ok (.enter f args) w
set_option maxHeartbeats 1600000 in
theorem search_any (F : FuncId) (caps : Array Value) (n : Nat) (p : Nat → Bool) (w : World) (hef : Ent F) (hm : ∀ i j, i ≤ j → p i = true → p j = true) (hn : n ≤ 1000000000)
    (hf : ∀ k, k < n → ∀ wr, Below w.heap.size w wr → Calls Try.prog F (#[.int .i64 k] ++ caps) wr fun e w' => e = .returned (.bool (p k)) ∧ Below wr.heap.size wr w') :
    Calls Try.prog 90 #[.int .i64 n, .func (.func F) #[] caps] w fun e w' => ∃ i : Nat, e = .returned (.int .i64 i) ∧ i ≤ n ∧ (∀ k, k < i → p k = false) ∧ (∀ k, i ≤ k → k < n → p k = true) ∧ Below w.heap.size w w' := by
  have HF := hid hf
  have HM := hid hm
  clear hf hm
  have hef' : ∀ (args : Array Value) (w : World), (callFunc F args).run Try.prog w = .ok (.enter F args) w := hef
  clear hef
  go_enter Try.func90, Try.ntmps90
  go_wp2_with fail
  go_loopw [5, 6] (fun iv jv wr => ∃ i j : Nat, iv = .int .i64 i ∧ jv = .int .i64 j ∧ i ≤ j ∧ j ≤ n ∧ (∀ k, k < i → p k = false) ∧ (∀ k, j ≤ k → k < n → p k = true) ∧ Below w.heap.size w wr) (fun iv jv _ => (intOf jv - intOf iv).toNat)
  case atStart => exact ⟨0, n, rfl, rfl, Nat.zero_le _, Nat.le_refl _, fun k hk => by omega, fun k h1 h2 => by omega, Below.refl _ _⟩
  case round =>
    obtain ⟨i, j, rfl, rfl, hij, hjn, hlo, hhi, hbe⟩ := hrel
    have LO := hid hlo
    have HI := hid hhi
    have BE := hid hbe
    clear hlo hhi hbe
    by_cases hlt : (i : Int) < (j : Int)
    · obtain ⟨h, hh⟩ : ∃ h : Nat, h = (i + j) / 2 := ⟨_, rfl⟩
      have e1 : ((i : Int) + (j : Int)) / 2 = (h : Int) := by omega
      have hh1 : i ≤ h := by omega
      have hh2 : h < j := by omega
      clear hh
      go_wp2_with fail
      refine (HF.out h (by omega) wr BE.out).mono ?_
      rintro e w2 ⟨rfl, hb2⟩
      have B2 := hid (BE.out.trans (hb2.mono BE.out.size))
      clear hb2
      cases hp : p h with
      | true =>
        have T1 := hid (show ∀ k, h ≤ k → k < n → p k = true from fun k h1 _ => HM.out h k h1 hp)
        clear hp
        go_wp2_with fail
        go_roundw
        case rel => exact ⟨i, h, rfl, rfl, hh1, by omega, LO.out, T1.out, B2.out⟩
        case measure => simp [intOf]; omega
      | false =>
        have T1 := hid (show ∀ k, k < h + 1 → p k = false from fun k h1 => by
          cases hk : p k with
          | false => rfl
          | true => have := HM.out k h (by omega) hk; rw [hp] at this; cases this)
        clear hp
        go_wp2_with fail
        go_roundw
        case rel => exact ⟨h + 1, j, by go_num, rfl, by omega, hjn, T1.out, HI.out, B2.out⟩
        case measure => simp [intOf]; omega
    · obtain rfl : i = j := by omega
      go_wp2_with fail
      go_ret
      exact ⟨i, rfl, hjn, LO.out, HI.out, BE.out⟩
/-- A Map of numbers lies at block b; its row of pieces is v. -/
def Mp (w : World) (b : Nat) (v : Value) (l : List Pc) : Prop := w.heap[b]? = some (.cells #[v] 99 (0, 0)) ∧ Pcs w v l
theorem Mp.below {w w' : World} {b : Nat} {v : Value} {l : List Pc} (h : Mp w b v l) (hb : Below w.heap.size w w') : Mp w' b v l := ⟨by rw [hb.block b (lt_of_block h.1)]; exact h.1, h.2.below hb⟩
theorem add_more (ad : Addr) (k j : Nat) (hj : 0 < j) : ad.add (k + j) = ⟨(ad.add k).block, (ad.add k).off + j, none⟩ := by
  unfold Addr.add
  rw [if_neg (by omega)]
  by_cases h : k = 0
  · subst h; simp
  · rw [if_neg h]; simp [Nat.add_assoc]
set_option maxHeartbeats 1600000 in
theorem near1_any (x y b : Nat) (v : Value) (l : List Pc) (s : Sp) (k : Nat) (w : World) (hk : k < l.length) (hx : w.cell? ⟨x, 0, none⟩ = some (.int .i64 s.1)) (hy : w.cell? ⟨y, 0, none⟩ = some (.pointer (some ⟨b, 0, none⟩))) (hm : Mp w b v l) :
    Calls Try.prog 91 #[.int .i64 k, .pointer (some ⟨x, 0, none⟩), .pointer (some ⟨y, 0, none⟩)] w fun e w' => e = .returned (.bool (decide (s.1 ≤ l[k].2.1))) ∧ ∃ q, w' = w.drewN q := by
  obtain ⟨h1, ao, n, cap, rfl, rfl, g1, g2, g3, g4⟩ := hm
  have hao : ∃ ad, ao = some ad := by cases ao with | none => exact absurd (g3 rfl) (by omega) | some ad => exact ⟨ad, rfl⟩
  obtain ⟨ad, rfl⟩ := hao
  obtain ⟨c0, c1, c2⟩ := g4 ad rfl k hk
  rw [add_more _ _ _ (by omega)] at c1
  have cb : w.cell? ⟨b, 0, none⟩ = some (.slice (some ad) l.length cap) := by rw [cell_of_row _ _ _ _ _ _ h1]; rfl
  have n2 : (0 : Int) ≤ (k : Int) ∧ (k : Int) < (l.length : Int) := by omega
  have n3 : (k : Int) < (l.length : Int) := by omega
  clear h1 g4 g3 c0 c2
  go_enter Try.func91, Try.ntmps91
  go_wp2_with fail
  go_quiet (fail)
  go_wp2
  go_ret
  exact ⟨rfl, _, rfl⟩
set_option maxHeartbeats 1600000 in
theorem near2_any (x y b : Nat) (v : Value) (l : List Pc) (s : Sp) (k : Nat) (w : World) (hk : k < l.length) (hx : w.cell? ⟨x, 1, none⟩ = some (.int .i64 s.2)) (hy : w.cell? ⟨y, 0, none⟩ = some (.pointer (some ⟨b, 0, none⟩))) (hm : Mp w b v l) :
    Calls Try.prog 92 #[.int .i64 k, .pointer (some ⟨x, 0, none⟩), .pointer (some ⟨y, 0, none⟩)] w fun e w' => e = .returned (.bool (decide (s.2 < l[k].1))) ∧ ∃ q, w' = w.drewN q := by
  obtain ⟨h1, ao, n, cap, rfl, rfl, g1, g2, g3, g4⟩ := hm
  have hao : ∃ ad, ao = some ad := by cases ao with | none => exact absurd (g3 rfl) (by omega) | some ad => exact ⟨ad, rfl⟩
  obtain ⟨ad, rfl⟩ := hao
  obtain ⟨c0, c1, c2⟩ := g4 ad rfl k hk
  have cb : w.cell? ⟨b, 0, none⟩ = some (.slice (some ad) l.length cap) := by rw [cell_of_row _ _ _ _ _ _ h1]; rfl
  have n2 : (0 : Int) ≤ (k : Int) ∧ (k : Int) < (l.length : Int) := by omega
  have n3 : (k : Int) < (l.length : Int) := by omega
  clear h1 g4 g3 c1 c2
  go_enter Try.func92, Try.ntmps92
  go_wp2_with fail
  go_quiet (fail)
  go_wp2
  go_ret
  exact ⟨rfl, _, rfl⟩
theorem ent_near1 : Ent 91 := fun args w => by simp [go_sem]
theorem ent_near2 : Ent 92 := fun args w => by simp [go_sem]
theorem belowN (w : World) (q : Nat) : Below w.heap.size w (w.drewN q) := ⟨rfl, rfl, rfl, Nat.le_refl _, fun _ _ => rfl⟩
/-- Later pieces lie behind. -/
def Rise3 (l : List Pc) : Prop := ∀ i j, (h : i < j) → (hj : j < l.length) → l[i].2.1 ≤ l[j].1 ∧ l[j].1 ≤ l[j].2.1 ∧ l[i].1 ≤ l[i].2.1
set_option maxHeartbeats 1600000 in
theorem near_any (b : Nat) (v : Value) (l : List Pc) (s : Sp) (w : World) (hm : Mp w b v l) (hl : l.length ≤ 1000000000) (hr : Rise3 l) :
    Calls Try.prog 80 #[.pointer (some ⟨b, 0, none⟩), .agg #[.int .i64 s.1, .int .i64 s.2]] w fun e w' => ∃ i j : Nat, e = .returned (.tuple #[.int .i64 i, .int .i64 j]) ∧ i ≤ l.length ∧ j ≤ l.length ∧
      (∀ k, (h : k < l.length) → k < i → l[k].2.1 < s.1) ∧ (∀ k, (h : k < l.length) → i ≤ k → s.1 ≤ l[k].2.1) ∧ (∀ k, (h : k < l.length) → k < j → l[k].1 ≤ s.2) ∧ (∀ k, (h : k < l.length) → j ≤ k → s.2 < l[k].1) ∧ Below w.heap.size w w' := by
  have hmf : ∀ (fn : Fn) (first cap : Array Value) (w : World), (Instr.makeFunc fn first cap).run Try.prog w = .ok (.func fn first cap) w := fun _ _ _ _ => rfl
  have HM := hid hm
  have HR := hid hr
  obtain ⟨a, c⟩ := s
  simp only
  obtain ⟨va, vc, rfl⟩ : ∃ va vc, v = .slice va l.length vc := by obtain ⟨_, ao, n, cap, rfl, rfl, _⟩ := hm; exact ⟨_, _, rfl⟩
  have cb : w.cell? ⟨b, 0, none⟩ = some (.slice va l.length vc) := by rw [cell_of_row _ _ _ _ _ _ hm.1]; rfl
  have hlt := lt_of_block hm.1
  clear hm hr
  go_enter Try.func80, Try.ntmps80
  go_wp2_with fail
  obtain ⟨W, hW⟩ : ∃ W, W = (w.alloc (.cells #[.pointer (some ⟨b, 0, none⟩)] 61)).alloc (.cells #[.int .i64 a, .int .i64 c] 43) := ⟨_, rfl⟩
  rw [← hW]
  have bW : Below w.heap.size w W := by rw [hW]; exact ((Below.refl _ _).alloc (Nat.le_refl _) _).alloc (by simp) _
  have e0 : W.cell? ⟨w.heap.size, 0, none⟩ = some (.pointer (some ⟨b, 0, none⟩)) := by
    rw [hW, World.cell?_alloc_past _ _ _ (by simp), World.cell?_alloc_at _ _ _ _ rfl]; rfl
  have hH := heap_alloc2_new w (.cells #[.pointer (some ⟨b, 0, none⟩)] 61) (.cells #[.int .i64 a, .int .i64 c] 43)
  rw [← hW] at hH
  have e1 : W.cell? ⟨w.heap.size + 1, 0, none⟩ = some (.int .i64 a) := by rw [cell_of_row _ _ _ _ _ _ hH]; rfl
  have e2 : W.cell? ⟨w.heap.size + 1, 1, none⟩ = some (.int .i64 c) := by rw [cell_of_row _ _ _ _ _ _ hH]; rfl
  have BW := hid bW
  have E0 := hid e0
  have E1 := hid e1
  have E2 := hid e2
  clear hW bW hH e0 e1 e2
  refine (search_any 91 #[.pointer (some ⟨w.heap.size + 1, 0, none⟩), .pointer (some ⟨w.heap.size, 0, none⟩)] l.length (fun k => if h : k < l.length then decide (a ≤ l[k].2.1) else true) W ent_near1 ?_ hl ?_).mono ?_
  · intro i j hij hi
    by_cases hj : j < l.length
    · have hi' : i < l.length := by omega
      simp only [hj, hi', dif_pos, decide_eq_true_eq] at hi ⊢
      rcases Nat.lt_or_ge i j with h | h
      · have := HR.out i j h hj; omega
      · have : i = j := by omega
        subst this; exact hi
    · simp [hj]
  · intro k hk wr hb
    simp only [hk, dif_pos]
    exact (near1_any (w.heap.size + 1) w.heap.size b _ l (a, c) k wr hk (cell_later hb E1.out) (cell_later hb E0.out) ((HM.out.below BW.out).below hb)).mono fun e w' h => ⟨h.1, by obtain ⟨q, hq⟩ := h.2; rw [hq]; exact belowN wr q⟩
  rintro e w1 ⟨i, rfl, hi1, hi2, hi3, hb1⟩
  have I1 := hid hi1
  have I2 := hid hi2
  have I3 := hid hi3
  have B1 := hid hb1
  have cb1 := cell_later hb1 (cell_later BW.out cb)
  have e01 := cell_later hb1 E0.out
  clear hi1 hi2 hi3 hb1
  go_wp2_with fail
  refine (search_any 92 #[.pointer (some ⟨w.heap.size + 1, 0, none⟩), .pointer (some ⟨w.heap.size, 0, none⟩)] l.length (fun k => if h : k < l.length then decide (c < l[k].1) else true) w1 ent_near2 ?_ hl ?_).mono ?_
  · intro i j hij hi
    by_cases hj : j < l.length
    · have hi' : i < l.length := by omega
      simp only [hj, hi', dif_pos, decide_eq_true_eq] at hi ⊢
      rcases Nat.lt_or_ge i j with h | h
      · have := HR.out i j h hj; omega
      · have : i = j := by omega
        subst this; exact hi
    · simp [hj]
  · intro k hk wr hb
    simp only [hk, dif_pos]
    exact (near2_any (w.heap.size + 1) w.heap.size b _ l (a, c) k wr hk (cell_later hb (cell_later B1.out E2.out)) (cell_later hb (cell_later B1.out E0.out)) (((HM.out.below BW.out).below B1.out).below hb)).mono fun e w' h => ⟨h.1, by obtain ⟨q, hq⟩ := h.2; rw [hq]; exact belowN wr q⟩
  rintro e w2 ⟨j, rfl, hj1, hj2, hj3, hb2⟩
  have J1 := hid hj1
  have J2 := hid hj2
  have J3 := hid hj3
  have B2 := hid ((BW.out.trans (B1.out.mono BW.out.size)).trans (hb2.mono (Nat.le_trans BW.out.size B1.out.size)))
  clear hj1 hj2 hj3 hb2
  go_wp2_with fail
  go_ret2
  refine ⟨i, j, rfl, I1.out, J1.out, ?_, ?_, ?_, ?_, B2.out⟩
  · intro k h hk
    have := I2.out k hk
    simp only [h, dif_pos, decide_eq_false_iff_not] at this
    omega
  · intro k h hk
    have := I3.out k hk h
    simpa only [h, dif_pos, decide_eq_true_eq] using this
  · intro k h hk
    have := J2.out k hk
    simp only [h, dif_pos, decide_eq_false_iff_not] at this
    omega
  · intro k h hk
    have := J3.out k hk h
    simpa only [h, dif_pos, decide_eq_true_eq] using this
end Go.Proofs.Ytnkjkaofgninnaa
