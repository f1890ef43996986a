/- What slices.Clone gives of rows of texts and of Refs, and clone of an instance. Conditions: the rows lie in memory. -/
import Derived.Test.YthhcpoafnmhnhaaGreatInSame
import Derived.Test.YthhcpoafnmhnhaaGreatKt
import Derived.Lib.SliceRun
namespace Go.Proofs.YthhcpoafnmhnhaaGreat
open Go.RowKit
set_option linter.unusedVariables false
set_option linter.unusedSimpArgs false

theorem Tryz.underlyingSt : Tryz.prog.underlying 26 = some (.slice 9) := by kernel_rfl
theorem Tryz.underlyingRs : Tryz.prog.underlying 29 = some (.slice 23) := by kernel_rfl
theorem rowTx : RowT 26 9 (.string ⟨#[]⟩) 1 16 := ⟨by kernel_rfl, by kernel_rfl, rfl, by decide, by decide⟩
theorem rowRf : RowT 29 23 (.agg #[.int .i64 0, .int .i64 0]) 2 16 := ⟨by kernel_rfl, by kernel_rfl, rfl, by decide, by decide⟩
/-- 'append(s, x...)', x a slice at any address. -/
theorem wpl_appA {T E : TypeId} {z : Value} {sz bytes : Nat} (R : RowT T E z sz bytes) {ops : Array Oper} {rest : List Oper} {o : Oper} {a : Act} {w : World} {Q : Exit → Act → World → Prop} (hgd : o.guard = none) (s x : Operand)
    (ho : o.op = .call { callee := .builtin .append, args := #[s, x], argTypes := #[T, T] })
    (base : Nat) (v : Value) (n : Nat) (xs : List Value) (hs : a.eval s = v) (hown : w.ownsRow base E sz v n xs)
    (ad : Addr) (m cap : Nat) (ys : List Value) (hx : a.eval x = .slice (some ad) m cap) (hl : ys.length = m * sz) (hys : ∀ j u, ys[j]? = some u → w.cell? (ad.add j) = some u) (hone : ∀ u ∈ ys, u.oneCell' = true)
    (hn : n + m ≤ 1000000000) (hbase : base ≤ w.heap.size)
    (h : ∀ va vc w', w'.ownsRow base E sz (.slice va (n + m) vc) (n + m) (xs ++ ys) → w.grownBy w' v.ownBlock → wpList Tryz.prog ops Q rest (a.put o.dst (.slice va (n + m) vc)) w') :
    wpList Tryz.prog ops Q (o :: rest) a w := by
  obtain ⟨i, hi, hz0, hz1, hz2⟩ := info_parts R.i
  have hb := R.b
  have hb2 : (n + m) * bytes ≤ 1000000000 * 1000 := Nat.mul_le_mul hn hb
  refine wpList_append_own w hgd s x T ho base E i z sz bytes R.u hi hz0 hz1 hz2 R.z R.p v n xs hs hown ad m cap ys hx hl hys hone (by unfold maxLen; omega) (by omega) hbase ?_
  intro v' w' ho' hg' _
  obtain ⟨va, vc, rfl⟩ := own_shape ho'
  exact h va vc w' ho' hg'
theorem own_empty (w : World) (E : TypeId) (sz : Nat) : (w.alloc (.cells #[] E)).ownsRow w.heap.size E sz (.slice (some ⟨w.heap.size, 0, none⟩) 0 0) 0 [] :=
  ⟨by simp, .inr ⟨w.heap.size, 0, #[], rfl, Nat.le_refl _, heap_alloc_new _ _, Nat.le_refl _, Nat.zero_le _, by simp, by simp⟩⟩
theorem own_bel {B : Nat} {E : TypeId} {k n : Nat} {xs : List Value} {w w1 : World} {v : Value} (ho : w.ownsRow B E k v n xs) (hg : w.grownBy w1 v.ownBlock) (hB : B ≤ w.heap.size) : Below B w w1 :=
  (Below.refl _ _).grown hg hB fun k hk => (World.ownsRow.lt ho k hk).1
def svs (l : List ByteArray) : List Value := l.map .string
def rvs (l : List (Int × Int)) : List Value := l.flatMap fun r => [.int .i64 r.1, .int .i64 r.2]
theorem rvs_len (l : List (Int × Int)) : (rvs l).length = l.length * 2 := by
  induction l with
  | nil => rfl
  | cons x l ih => simp [rvs] at ih ⊢; omega
theorem rvs_at (l : List (Int × Int)) (j : Nat) (h : j < l.length) : (rvs l)[j * 2]? = some (.int .i64 l[j].1) ∧ (rvs l)[j * 2 + 1]? = some (.int .i64 l[j].2) := by
  induction l generalizing j with
  | nil => cases h
  | cons x l ih =>
    cases j with
    | zero => exact ⟨rfl, rfl⟩
    | succ j =>
      have := ih j (by simpa using h)
      rw [show (j + 1) * 2 = j * 2 + 1 + 1 from by omega]
      have e : rvs (x :: l) = .int .i64 x.1 :: .int .i64 x.2 :: rvs l := by simp [rvs]
      rw [e]
      exact ⟨by simpa using this.1, by simpa using this.2⟩
theorem rvs_one (l : List (Int × Int)) : ∀ u ∈ rvs l, u.oneCell' = true := by
  intro u hu
  simp only [rvs, List.mem_flatMap] at hu
  obtain ⟨r, -, hu⟩ := hu
  simp at hu
  rcases hu with rfl | rfl <;> rfl
theorem strs_svs {w : World} {base : Nat} {v : Value} {l : List ByteArray} (h : w.ownsRow base 9 1 v l.length (svs l)) : Strs w v l := by
  have h' := h
  obtain ⟨h1, h2⟩ := h
  rcases h2 with ⟨rfl, h0⟩ | ⟨g, cap, cur, rfl, -, hh, hc, hm, -⟩
  · have : l = [] := List.length_eq_zero_iff.1 h0
    subst this; exact Strs.nil _
  · refine ⟨_, _, _, rfl, rfl, hc, by unfold maxLen at hm; omega, (fun h => by cases h), ?_⟩
    intro ad had j hj
    cases had
    exact h'.cells (g := g) rfl j _ (by simp [svs, hj])
theorem rfs_rvs {w : World} {base : Nat} {v : Value} {l : List (Int × Int)} (h : w.ownsRow base 23 2 v l.length (rvs l)) : Rfs w v l := by
  have h' := h
  obtain ⟨h1, h2⟩ := h
  rcases h2 with ⟨rfl, h0⟩ | ⟨g, cap, cur, rfl, -, hh, hc, hm, -⟩
  · have : l = [] := List.length_eq_zero_iff.1 h0
    subst this; exact Rfs.nil _
  · refine ⟨_, _, _, rfl, rfl, hc, by unfold maxLen at hm; omega, (fun h => by cases h), ?_⟩
    intro ad had j hj
    cases had
    exact ⟨h'.cells (g := g) rfl _ _ (rvs_at l j hj).1, h'.cells (g := g) rfl _ _ (rvs_at l j hj).2⟩
set_option maxHeartbeats 1600000 in
theorem cloneS_any (v : Value) (l : List ByteArray) (w : World) (hv : Strs w v l) (hl : l.length ≤ 1000000000) :
    Calls Tryz.prog 56 #[v] w fun e w' => ∃ va vc, e = .returned (.slice va l.length vc) ∧ w'.ownsRow w.heap.size 9 1 (.slice va l.length vc) l.length (svs l) ∧ Below w.heap.size w w' := by
  have HV := hid hv
  obtain ⟨ao, n, cap, rfl, rfl, hc, hcap, hnone, hcell⟩ := hv
  clear hcell
  cases ao with
  | none =>
    have h0 : l = [] := List.eq_nil_of_length_eq_zero (by have := hnone rfl; omega)
    subst h0
    clear hnone
    have hnil := Lib.run_eql_slice_nil (P := Tryz.prog) w 26 9 none 0 cap 0 0 Tryz.underlyingSt
    go_enter Tryz.func56, Tryz.ntmps56
    go_wp2
    go_ret
    exact ⟨none, 0, rfl, World.ownsRow_nil _ _ _ _, Below.refl _ _⟩
  | some a =>
    clear hnone
    have HO := hid (own_empty w 9 1)
    have hba : Below w.heap.size w (w.alloc (.cells #[] 9)) := (Below.refl _ _).alloc (Nat.le_refl _) _
    have HA1 := hid (HV.out.below hba)
    have HC : Hid (∀ j u, (svs l)[j]? = some u → (w.alloc (.cells #[] 9)).cell? (a.add j) = some u) := hid fun j u hj => by
      obtain ⟨_, _, _, e, _, _, _, _, h5⟩ := HA1.out
      cases e
      have hj' : j < l.length := by
        rcases Nat.lt_or_ge j l.length with h | h
        · exact h
        · simp [svs, List.getElem?_eq_none h] at hj
      have := h5 a rfl j hj'
      rw [this]
      simpa [svs, hj'] using hj
    have hnil := Lib.run_eql_slice_nil (P := Tryz.prog) w 26 9 (some a) l.length cap 0 0 Tryz.underlyingSt
    go_enter Tryz.func56, Tryz.ntmps56
    go_wp2_with (at_builtin; refine wpl_appA rowTx rfl _ _ rfl w.heap.size (.slice (some ⟨w.heap.size, 0, none⟩) 0 0) 0 [] rfl HO.out a l.length cap (svs l) rfl (by simp [svs]) HC.out (by intro u hu; simp [svs] at hu; obtain ⟨s, -, rfl⟩ := hu; rfl) (by omega) (by simp) ?_; intro va1 vc1 w2 ho1 hg1; simp only [Nat.zero_add, List.nil_append] at ho1; have HB2 := hid (hba.trans (own_bel HO.out hg1 (by simp))); have HO1 := hid ho1; clear ho1 hg1)
    go_ret
    exact ⟨va1, vc1, by simp, HO1.out, HB2.out⟩
set_option maxHeartbeats 1600000 in
theorem cloneR_any (v : Value) (l : List (Int × Int)) (w : World) (hv : Rfs w v l) (hl : l.length ≤ 1000000000) :
    Calls Tryz.prog 57 #[v] w fun e w' => ∃ va vc, e = .returned (.slice va l.length vc) ∧ w'.ownsRow w.heap.size 23 2 (.slice va l.length vc) l.length (rvs l) ∧ Below w.heap.size w w' := by
  have HV := hid hv
  obtain ⟨ao, n, cap, rfl, rfl, hc, hcap, hnone, hcell⟩ := hv
  clear hcell
  cases ao with
  | none =>
    have h0 : l = [] := List.eq_nil_of_length_eq_zero (by have := hnone rfl; omega)
    subst h0
    clear hnone
    have hnil := Lib.run_eql_slice_nil (P := Tryz.prog) w 29 23 none 0 cap 0 0 Tryz.underlyingRs
    go_enter Tryz.func57, Tryz.ntmps57
    go_wp2
    go_ret
    exact ⟨none, 0, rfl, World.ownsRow_nil _ _ _ _, Below.refl _ _⟩
  | some a =>
    clear hnone
    have HO := hid (own_empty w 23 2)
    have hba : Below w.heap.size w (w.alloc (.cells #[] 23)) := (Below.refl _ _).alloc (Nat.le_refl _) _
    have HA1 := hid (HV.out.below hba)
    have HC : Hid (∀ j u, (rvs l)[j]? = some u → (w.alloc (.cells #[] 23)).cell? (a.add j) = some u) := hid fun j u hj => by
      obtain ⟨_, _, _, e, _, _, _, _, h5⟩ := HA1.out
      cases e
      have hj' : j / 2 < l.length := by
        rcases Nat.lt_or_ge (j / 2) l.length with h | h
        · exact h
        · rw [List.getElem?_eq_none (by rw [rvs_len]; omega)] at hj; cases hj
      have h6 := h5 a rfl (j / 2) hj'
      have h7 := rvs_at l (j / 2) hj'
      rcases (show j % 2 = 0 ∨ j % 2 = 1 by omega) with h | h
      · rw [show j / 2 * 2 = j by omega] at h6 h7
        rw [h6.1, ← h7.1]; exact hj
      · rw [show j / 2 * 2 + 1 = j by omega] at h6 h7
        rw [h6.2, ← h7.2]; exact hj
    have hnil := Lib.run_eql_slice_nil (P := Tryz.prog) w 29 23 (some a) l.length cap 0 0 Tryz.underlyingRs
    go_enter Tryz.func57, Tryz.ntmps57
    go_wp2_with (at_builtin; refine wpl_appA rowRf rfl _ _ rfl w.heap.size (.slice (some ⟨w.heap.size, 0, none⟩) 0 0) 0 [] rfl HO.out a l.length cap (rvs l) rfl (rvs_len l) HC.out (rvs_one l) (by omega) (by simp) ?_; intro va1 vc1 w2 ho1 hg1; simp only [Nat.zero_add, List.nil_append] at ho1; have HB2 := hid (hba.trans (own_bel HO.out hg1 (by simp))); have HO1 := hid ho1; clear ho1 hg1)
    go_ret
    exact ⟨va1, vc1, by simp, HO1.out, HB2.out⟩
end Go.Proofs.YthhcpoafnmhnhaaGreat
