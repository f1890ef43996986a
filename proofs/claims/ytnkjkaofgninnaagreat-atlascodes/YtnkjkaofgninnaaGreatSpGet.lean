/- What Get of a Map of numbers answers. -/
import Derived.Test.YtnkjkaofgninnaaGreatSpMap
import Derived.BigQuiet
namespace Go.Proofs.YtnkjkaofgninnaaGreat
open Go.RowKit Go.Shelf

set_option maxHeartbeats 1600000 in
theorem get1_any (x y b : Nat) (v : Value) (l : List Pc) (c : Int) (k : Nat) (w : World) (hk : k < l.length) (hx : w.cell? ⟨x, 0, none⟩ = some (.int .i64 c)) (hy : w.cell? ⟨y, 0, none⟩ = some (.pointer (some ⟨b, 0, none⟩))) (hm : Mp w b v l) :
    Calls Tryz.prog 84 #[.int .i64 k, .pointer (some ⟨x, 0, none⟩), .pointer (some ⟨y, 0, none⟩)] w fun e w' => e = .returned (.bool (decide (c < l[k].2.1))) ∧ ∃ q, w' = w.drewN q := by
  obtain ⟨h1, ao, n, cap, rfl, rfl, g1, g2, g3, g4⟩ := hm
  have hao : ∃ ad, ao = some ad := by cases ao with | none => exact absurd (g3 rfl) (by omega) | some ad => exact ⟨ad, rfl⟩
  obtain ⟨ad, rfl⟩ := hao
  obtain ⟨c0, c1, c2⟩ := g4 ad rfl k hk
  rw [add_more _ _ _ (by omega)] at c1
  have cb : w.cell? ⟨b, 0, none⟩ = some (.slice (some ad) l.length cap) := by rw [cell_of_row _ _ _ _ _ _ h1]; rfl
  have n2 : (0 : Int) ≤ (k : Int) ∧ (k : Int) < (l.length : Int) := by omega
  have n3 : (k : Int) < (l.length : Int) := by omega
  clear h1 g4 g3 c0 c2
  go_enter Tryz.func84, Tryz.ntmps84
  go_wp2_with fail
  go_quiet (fail)
  go_wp2
  go_ret
  exact ⟨rfl, _, rfl⟩
theorem ent_get1 : Ent 84 := fun args w => by simp [go_sem]
/-- What a row tells of a block. -/
def GetOf (l : List Pc) (k : Int) (v : Int) (ok : Bool) : Prop := (ok = true → HasP l k v) ∧ (ok = false → v = 0 ∧ ∀ u, ¬ HasP l k u)
set_option maxHeartbeats 1600000 in
theorem getM_any (b : Nat) (l : List Pc) (c : Int) (w : World) (hm : MapC w b l) (hl : l.length ≤ 1000000) :
    Calls Tryz.prog 70 #[.pointer (some ⟨b, 0, none⟩), .int .i64 c] w fun e w' => ∃ v ok, GetOf l c v ok ∧ e = .returned (.tuple #[.int .i64 v, .bool ok]) ∧ Below w.heap.size w w' := by
  have hmf : ∀ (fn : Fn) (first cap : Array Value) (w : World), (Instr.makeFunc fn first cap).run Tryz.prog w = .ok (.func fn first cap) w := fun _ _ _ _ => rfl
  obtain ⟨v, hp⟩ := hm.at'.mp
  have HC := hid hm.can
  have HM := hid hp
  obtain ⟨va, vc, rfl⟩ : ∃ va vc, v = .slice va l.length vc := by obtain ⟨_, ao, n, cap, rfl, rfl, _⟩ := hp; exact ⟨_, _, rfl⟩
  have cb : w.cell? ⟨b, 0, none⟩ = some (.slice va l.length vc) := by rw [cell_of_row _ _ _ _ _ _ hp.1]; rfl
  have hlt := lt_of_block hp.1
  clear hm hp
  go_enter Tryz.func70, Tryz.ntmps70
  go_wp2_with fail
  obtain ⟨W, hW⟩ : ∃ W, W = (w.alloc (.cells #[.pointer (some ⟨b, 0, none⟩)] 51)).alloc (.cells #[.int .i64 c] 3) := ⟨_, rfl⟩
  rw [← hW]
  have bW : Below w.heap.size w W := by rw [hW]; exact ((Below.refl _ _).alloc (Nat.le_refl _) _).alloc (by simp) _
  have e0 : W.cell? ⟨w.heap.size, 0, none⟩ = some (.pointer (some ⟨b, 0, none⟩)) := by
    rw [hW, World.cell?_alloc_past _ _ _ (by simp), World.cell?_alloc_at _ _ _ _ rfl]; rfl
  have hH := heap_alloc2_new w (.cells #[.pointer (some ⟨b, 0, none⟩)] 51) (.cells #[.int .i64 c] 3)
  rw [← hW] at hH
  have e1 : W.cell? ⟨w.heap.size + 1, 0, none⟩ = some (.int .i64 c) := by rw [cell_of_row _ _ _ _ _ _ hH]; rfl
  have BW := hid bW
  have E0 := hid e0
  have E1 := hid e1
  clear hW bW hH e0 e1
  refine (search_any 84 #[.pointer (some ⟨w.heap.size + 1, 0, none⟩), .pointer (some ⟨w.heap.size, 0, none⟩)] l.length (fun k => if h : k < l.length then decide (c < l[k].2.1) else true) W ent_get1 ?_ (by omega) ?_).mono ?_
  · intro i j hij hi
    by_cases hj : j < l.length
    · have hi' : i < l.length := by omega
      simp only [hj, hi', dif_pos, decide_eq_true_eq] at hi ⊢
      rcases Nat.lt_or_ge i j with h | h
      · have := HC.out.rise3 i j h hj; omega
      · have : i = j := by omega
        subst this; exact hi
    · simp [hj]
  · intro k hk wr hb
    simp only [hk, dif_pos]
    exact (get1_any (w.heap.size + 1) w.heap.size b _ l c k wr hk (cell_later hb E1.out) (cell_later hb E0.out) ((HM.out.below BW.out).below hb)).mono fun e w' h => ⟨h.1, by obtain ⟨q, hq⟩ := h.2; rw [hq]; exact belowN wr q⟩
  rintro e w1 ⟨i, rfl, hi1, hi2, hi3, hb1⟩
  have I2 : Hid (∀ k, (h : k < l.length) → k < i → l[k].2.1 ≤ c) := hid fun k h hk => by
    have := hi2 k hk
    simp only [h, dif_pos, decide_eq_false_iff_not] at this
    omega
  have I3 : Hid (∀ k, (h : k < l.length) → i ≤ k → c < l[k].2.1) := hid fun k h hk => by
    have := hi3 k hk h
    simpa only [h, dif_pos, decide_eq_true_eq] using this
  have B1 := hid (BW.out.trans (hb1.mono BW.out.size))
  have cb1 := cell_later hb1 (cell_later BW.out cb)
  have e01 := cell_later hb1 E0.out
  have e11 := cell_later hb1 E1.out
  have M1 := hid ((HM.out.below BW.out).below hb1)
  clear hi2 hi3 hb1 cb HM
  by_cases hil : i = l.length
  · have hd : ((i : Int) == (l.length : Int)) = true := by simp [hil]
    have HD : Hid (∀ u, ¬ HasP l c u) := hid (by
      rintro u ⟨z, hz, z1, z2, _⟩
      obtain ⟨k, hk, rfl⟩ := List.mem_iff_getElem.1 hz
      have := I2.out k hk (by omega); omega)
    clear hil
    go_wp2_with fail
    go_quiet (fail)
    go_wp2_with fail
    go_ret2
    exact ⟨0, false, ⟨(fun h => by cases h), (fun _ => ⟨rfl, HD.out⟩)⟩, rfl, B1.out.trans ((belowN _ _).mono B1.out.size)⟩
  · have hil' : i < l.length := by omega
    have hd : ((i : Int) == (l.length : Int)) = false := by simp; omega
    obtain ⟨h1, ao, n, cap, e, rfl, g1, g2, g3, g4⟩ := M1.out
    cases e
    have hao : ∃ ad, va = some ad := by cases va with | none => exact absurd (g3 rfl) (by omega) | some ad => exact ⟨ad, rfl⟩
    obtain ⟨ad, rfl⟩ := hao
    obtain ⟨c0, c1, c2⟩ := g4 ad rfl i hil'
    rw [add_more _ _ _ (by omega)] at c2
    have n2 : (0 : Int) ≤ (i : Int) ∧ (i : Int) < (l.length : Int) := by omega
    have n3 : (i : Int) < (l.length : Int) := by omega
    clear h1 g4 g3 c1
    by_cases hf : c < l[i].1
    · have hd2 : decide (c < l[i].1) = true := decide_eq_true hf
      have HD : Hid (∀ u, ¬ HasP l c u) := hid (by
        rintro u ⟨z, hz, z1, z2, _⟩
        obtain ⟨k, hk, rfl⟩ := List.mem_iff_getElem.1 hz
        rcases Nat.lt_or_ge k i with h | h
        · have := I2.out k hk h; omega
        · rcases Nat.lt_or_ge i k with h' | h'
          · have := HC.out.rise3 i k h' hk
            have := HC.out.1 l[i] (List.getElem_mem hil')
            omega
          · obtain rfl : k = i := by omega
            omega)
      clear hf
      go_wp2_with fail
      go_quiet (fail)
      go_wp2_with fail
      go_ret2
      exact ⟨0, false, ⟨(fun h => by cases h), (fun _ => ⟨rfl, HD.out⟩)⟩, rfl, B1.out.trans ((belowN _ _).mono B1.out.size)⟩
    · have hd2 : decide (c < l[i].1) = false := decide_eq_false hf
      have HD : Hid (HasP l c l[i].2.2) := hid ⟨l[i], List.getElem_mem hil', by omega, I3.out i hil' (Nat.le_refl _), rfl⟩
      clear hf
      go_wp2_with fail
      go_quiet (fail)
      go_wp2_with fail
      go_ret2
      exact ⟨_, true, ⟨(fun _ => HD.out), (fun h => by cases h)⟩, rfl, B1.out.trans ((belowN _ _).mono B1.out.size)⟩
end Go.Proofs.YtnkjkaofgninnaaGreat
