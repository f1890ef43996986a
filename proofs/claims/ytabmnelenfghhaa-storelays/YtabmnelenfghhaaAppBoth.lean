/- 'append(s, x...)', s a row of bytes of the call's own: the new row, and the old slice as it was. No condition but that all fits. -/
import Derived.Test.YtabmnelenfghhaaOwn
namespace Go.Proofs.Ytabmnelenfghhaa
open Go.RowKit
set_option linter.unusedVariables false

theorem wpl_append_both {w : World} {ops : Array Oper} {rest : List Oper} {o : Oper} {a : Act} {Q : Exit → Act → World → Prop} (hgd : o.guard = none) (s x : Operand)
    (ho : o.op = .call { callee := .builtin .append, args := #[s, x], argTypes := #[25, 25] })
    (base : Nat) (v : Value) (l : List UInt8) (hs : a.eval s = v) (hown : Own w base v l) (u : Value) (m : List UInt8) (hx : a.eval x = u) (hu : Bts w u m)
    (hsz : l.length + m.length ≤ 140737488355328) (hbase : base ≤ w.heap.size)
    (h : ∀ va vc w', Own w' base (.slice va (l.length + m.length) vc) (l ++ m) → Own w' base v l → w.grownBy w' v.ownBlock → wpList Try.prog ops Q rest (a.put o.dst (.slice va (l.length + m.length) vc)) w') :
    wpList Try.prog ops Q (o :: rest) a w := by
  obtain ⟨i, hi, hz0, hz1, hz2⟩ := info_parts Try.infoB
  obtain ⟨ao, n, cap, rfl, rfl, hc, hm, hnone, hcell⟩ := hu
  cases ao with
  | none =>
    have h0 := hnone rfl
    subst h0
    have hm0 : m = [] := List.eq_nil_of_length_eq_zero (by omega)
    subst hm0
    obtain ⟨va, vc, rfl⟩ := hown.shape
    refine wpList_append_own_none hgd s x 25 ho base 5 i 1 Try.underlyingB hi _ _ _ hs hown hx ?_
    exact h va vc w (by simpa using hown) hown (World.grownBy.refl _ _)
  | some ad =>
    have hnews : ∀ j u, (m.map bv)[j]? = some u → w.cell? (ad.add j) = some u := by
      intro j u hj
      have hlt : j < m.length := by
        rcases Nat.lt_or_ge j m.length with h | h
        · exact h
        · simp [List.getElem?_eq_none (l := m.map bv) (by simpa using h)] at hj
      have e := hcell ad rfl j hlt
      have : u = bv m[j] := by simpa [hlt] using hj.symm
      rw [this]; exact e
    have hml : (m.map bv).length = m.length * i.size := by rw [hz1]; simp
    refine wpList_plain hgd fun K hK => ?_
    obtain ⟨v', w', hr, ho2, hg2, -⟩ := run_append_own (P := Try.prog) w base 25 o.type 5 i (.int .u8 0) 1 1 Try.underlyingB hi hz0 hz1 hz2 rfl (by decide) v l.length (l.map bv) hown ad m.length cap (m.map bv) (by simp) hnews (bv_one m) (by unfold maxLen; omega) (by omega) hbase
    have hold : Own w' base v l := by
      have hown' := hown
      obtain ⟨h1, h2⟩ := hown
      rcases h2 with ⟨rfl, h0⟩ | ⟨g, cp, cur, rfl, hbg, hg, hnc, hcm, hcs, htake⟩
      · have hl0 : l = [] := List.eq_nil_of_length_eq_zero h0
        subst hl0
        exact Own.nil _ _
      · by_cases hroom : l.length + m.length ≤ cp
        · have hfit : l.length * i.size + (m.map bv).length ≤ cur.size := by rw [hcs, hz1]; simp; omega
          have hr2 := run_append_room (P := Try.prog) w 25 o.type 5 i Try.underlyingB hi g l.length cp cur hg ad m.length cap (m.map bv) hml hnews (bv_one m) hroom hfit
          rw [hr] at hr2
          obtain ⟨-, rfl⟩ := Result.ok.inj hr2
          refine ⟨h1, .inr ⟨g, cp, _, rfl, hbg, setRow_heap w g cur _ _ _ hg, hnc, hcm, ?_, ?_⟩⟩
          · have hcs' : cur.size = cp := by rw [hcs]; simp
            simp only [List.size_toArray, List.length_append, List.length_take, List.length_drop, Array.length_toList, hz1, List.length_map]
            omega
          · have hcs' : cur.size = cp := by rw [hcs]; simp
            rw [hz1]
            simp only [Nat.mul_one, List.append_assoc]
            rw [List.take_append_of_le_length (by simp; omega), List.take_take, Nat.min_self]
            simpa using htake
        · have holds : ∀ j u, (l.map bv)[j]? = some u → w.cell? ((⟨g, 0, none⟩ : Addr).add j) = some u := hown'.cells (g := g) rfl
          have hr2 := run_append_grow (P := Try.prog) w 25 o.type 5 i (.int .u8 0) Try.underlyingB hi hz0 ⟨g, 0, none⟩ l.length cp (l.map bv) (by rw [hz1]; simp) holds ad m.length cap (m.map bv) hml hnews (by omega) (by omega) (growslice_fits (by omega) (by rw [hz2]; omega))
          rw [hr] at hr2
          obtain ⟨-, rfl⟩ := Result.ok.inj hr2
          exact hown'.kept fun k _ hk => Below.heap_alloc w.drew _ k hk
    have ho3 : Own w' base v' (l ++ m) := by
      show w'.ownsRow _ _ _ _ (l ++ m).length ((l ++ m).map bv)
      rw [List.length_append, List.map_append]; exact ho2
    obtain ⟨va, vc, rfl⟩ := ho3.shape
    have e : (l ++ m).length = l.length + m.length := List.length_append
    rw [e] at ho3 hr
    unfold Oper.wp execOp
    simp only [ho, resolve, invoke, builtin, Sem.run_bind, Sem.run_pure, Result.andThen_ok, List.map_toArray, List.map_cons, List.map_nil, hs, hx, hr]
    exact hK _ _ (h va vc w' ho3 hold hg2)
end Go.Proofs.Ytabmnelenfghhaa
