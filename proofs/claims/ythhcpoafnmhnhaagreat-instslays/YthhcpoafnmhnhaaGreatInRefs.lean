/- What graph.Refs answers for one row of different Refs: the same ones, rising. Conditions: the row lies in memory; at most a thousand million. -/
import Derived.Test.YthhcpoafnmhnhaaGreatInSort
namespace Go.Proofs.YthhcpoafnmhnhaaGreat
open Go.RowKit
set_option linter.unusedVariables false
set_option linter.unusedSimpArgs false

theorem refLt_iff (x y : Int × Int) : refLt x y = decide (x.1 < y.1 ∨ x.1 = y.1 ∧ x.2 < y.2) := cmp2_lt x y
/-- They rise, each once. -/
def RiseR (l : List (Int × Int)) : Prop := l.Pairwise fun x y => refLt x y = true
theorem rise_of {l : List (Int × Int)} (h1 : l.Pairwise fun x y => refLt y x = false) (h2 : l.Nodup) : RiseR l := by
  refine (List.Pairwise.and h1 h2).imp ?_
  intro a b ⟨h3, h4⟩
  rw [refLt_iff] at *
  simp only [decide_eq_false_iff_not, decide_eq_true_eq] at *
  obtain ⟨a1, a2⟩ := a
  obtain ⟨b1, b2⟩ := b
  simp only at *
  have h5 : ¬ (a1 = b1 ∧ a2 = b2) := fun h => h4 (by rw [h.1, h.2])
  omega
set_option maxRecDepth 100000 in
set_option maxHeartbeats 3200000 in
theorem compactD_any (g o vc : Nat) (l : List (Int × Int)) (w : World) (hv : Rfs w (.slice (some ⟨g, o, none⟩) l.length vc) l) (hn : l.Nodup) :
    Calls Tryz.prog 65 #[.slice (some ⟨g, o, none⟩) l.length vc] w fun e w' => e = .returned (.slice (some ⟨g, o, none⟩) l.length vc) ∧ ∃ q, w' = w.drewN q := by
  have hlen := hv.len
  have HV := hid hv
  have HN := hid hn
  clear hv hn
  cases h2 : decide ((l.length : Int) < 2)
  · have hl2 : 2 ≤ l.length := by simp at h2; omega
    go_enter Tryz.func65, Tryz.ntmps65
    go_wp2_with fail
    go_loopw [3] (fun kv wr => ∃ (k q : Nat), 1 ≤ k ∧ k ≤ l.length ∧ kv = .int .i64 k ∧ wr = w.drewN q) (fun kv _ => l.length - (intOf kv).toNat)
    case atStart => exact ⟨1, 0, by omega, by omega, rfl, rfl⟩
    case round =>
      obtain ⟨k, q, hk1, hk2, rfl, hwr⟩ := hrel
      subst hwr
      rcases Nat.lt_or_ge k l.length with hk | hk
      · have hlt : ((k : Int) < (l.length : Int)) := by omega
        obtain ⟨j, hj⟩ : ∃ j, j + 1 = k := ⟨k - 1, by omega⟩
        obtain ⟨d1, d2⟩ := HV.out.lit j (by omega)
        obtain ⟨d3, d4⟩ := HV.out.lit k (by omega)
        have hne : l[j] ≠ l[k] := fun e => by
          have := (List.pairwise_iff_getElem.1 HN.out) j k (by omega) (by omega) (by omega)
          exact this e
        have i1 : IntKind.i64.wrap ((k : Int) - 1) = (j : Int) := by rw [show ((k : Int) - 1) = (j : Int) by omega]; exact IntWalk.i64_in _ ⟨by omega, by omega⟩
        have hlj : ((j : Int) < (l.length : Int)) := by omega
        generalize l[j] = r at *
        generalize l[k] = s at *
        obtain ⟨r1, r2⟩ := r
        obtain ⟨s1, s2⟩ := s
        simp only at d1 d2 d3 d4
        have HJ := hid hj
        have hne2 : (s1 == r1) = false ∨ s1 = r1 ∧ (s2 == r2) = false := by
          by_cases h : s1 = r1
          · exact .inr ⟨h, by simp; intro h2; exact hne (by rw [h, h2])⟩
          · exact .inl (by simp [h])
        clear hne hj
        rcases hne2 with hn1 | ⟨rfl, hn2⟩
        · go_wp2_with fail
          go_quiet (fail)
          go_wp2
          go_roundw
          case rel => exact ⟨k + 1, q + nq, by omega, by omega, by go_num, by simp [World.drewN, Nat.add_assoc]⟩
          case measure => simp [intOf]; omega
        · go_wp2_with fail
          go_quiet (fail)
          go_wp2
          go_roundw
          case rel => exact ⟨k + 1, q + nq, by omega, by omega, by go_num, by simp [World.drewN, Nat.add_assoc]⟩
          case measure => simp [intOf]; omega
      · have hge : ¬ ((k : Int) < (l.length : Int)) := by omega
        go_wp2_with fail
        go_ret
        exact ⟨rfl, q, rfl⟩
  · go_enter Tryz.func65, Tryz.ntmps65
    go_wp2_with fail
    go_ret
    exact ⟨rfl, 0, rfl⟩
theorem below_drewQ (w : World) (q : Nat) : Below w.heap.size w (w.drewN q) := ⟨rfl, rfl, rfl, Nat.le_refl _, fun _ _ => rfl⟩
set_option maxRecDepth 100000 in
set_option maxHeartbeats 1600000 in
theorem refsD_any (g : Nat) (u : Value) (l : List (Int × Int)) (w : World) (h1 : Rfs w u l) (hg : w.heap[g]? = some (.cells #[u] 29 (0, 0))) (hl : l.length ≤ 1000000000) (hn : l.Nodup) :
    Calls Tryz.prog 38 #[.slice (some ⟨g, 0, none⟩) 1 1] w fun e w' => ∃ va vc m, e = .returned (.slice va l.length vc) ∧ m.Perm l ∧ RiseR m ∧ w'.ownsRow w.heap.size 23 2 (.slice va l.length vc) l.length (rvs m) ∧ Below w.heap.size w w' := by
  by_cases hl1 : l.length ≤ 1
  · refine (refs1_any g u l w h1 hg hl1).mono ?_
    rintro e w' ⟨va, vc, h2, h3, h4⟩
    refine ⟨va, vc, l, h2, List.Perm.refl _, ?_, h3, h4⟩
    match l, hl1 with
    | [], _ => exact List.Pairwise.nil
    | [x], _ => exact List.pairwise_singleton _ _
  · have HN := hid hn
    have HG := hid hg
    have H1 := hid h1
    clear hg hn h1
    go_enter Tryz.func38, Tryz.ntmps38
    go_wp2_with fail
    refine (concat1_any g u l w H1.out HG.out (by omega)).mono ?_
    rintro e w2 ⟨va, vc, rfl, ho, hb⟩
    obtain ⟨g2, rfl⟩ : ∃ g2, va = some ⟨g2, 0, none⟩ := by
      obtain ⟨h1, ⟨h2, h3⟩ | ⟨g', cap, cur, e, -⟩⟩ := ho
      · simp only [Value.slice.injEq] at h2; omega
      · cases e; exact ⟨g', rfl⟩
    have HO := hid ho
    have HB := hid hb
    clear ho hb
    go_wp2_with fail
    refine (sortR_any _ g2 vc l w2 HO.out HB.out.size hl).mono ?_
    rintro e w3 ⟨rfl, m, hp, hr, ho3, hb3⟩
    have hlm : m.length = l.length := hp.length_eq
    have HP := hid hp
    have HR := hid hr
    have O3 := hid ho3
    have B3 := hid hb3
    have HL := hid hlm
    clear hp hr ho3 hb3 hlm
    have HC := hid (compactD_any g2 0 vc m w3 (by have := O3.out; rw [← HL.out] at this; exact rfs_rvs this) (HP.out.nodup_iff.2 HN.out))
    rw [HL.out] at HC
    go_wp2_with fail
    refine HC.out.mono ?_
    rintro e w4 ⟨rfl, q, hw4⟩
    have HW4 := hid hw4
    clear hw4
    go_wp2_with fail
    go_ret
    rw [HW4.out]
    exact ⟨_, vc, m, rfl, HP.out, rise_of HR.out (HP.out.nodup_iff.2 HN.out), own_below O3.out (below_drewQ _ _), (HB.out.trans B3.out).trans ((below_drewQ w3 q).mono (by have := B3.out.size; have := HB.out.size; omega))⟩
end Go.Proofs.YthhcpoafnmhnhaaGreat
