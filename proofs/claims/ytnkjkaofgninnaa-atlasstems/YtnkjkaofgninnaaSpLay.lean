/- Rows of pieces of a Map of numbers in memory, as lists; what same answers for two numbers, and what lay leaves. Conditions: the rows lie in memory. -/
import Derived.Test.YtnkjkaofgninnaaSpBase
import Derived.Defers
import Derived.Recover
import Derived.Deep.QuietTactic
import Derived.BigQuiet
import Derived.Maps.AppendAt
namespace Go.Proofs.Ytnkjkaofgninnaa
open Go.RowKit

set_option maxHeartbeats 400000 in
theorem same1_deferred (w : World) : CallsD Try.prog 98 #[] .returning w fun e u' w' => e = .returned (.tuple #[]) ∧ u' = .returning ∧ w' = w := by
  refine callsD_of_wpS Try.func98 rfl fun c₀ cs hu => ?_
  apply wpS_region
  simp [wpOpsS, go_sem, recoverD, hu, Try.ntmps98]
  cases c₀
  simp_all [bodyPostS, results, Try.results98]
set_option maxHeartbeats 400000 in
theorem same_any (a b : Int) (w : World) :
    Calls Try.prog 95 #[.int .i64 a, .int .i64 b] w fun e w' => e = .returned (.bool (a == b)) ∧ w' = w := by
  have hmf : ∀ (fn : Fn) (first cap : Array Value) (w : World), (Instr.makeFunc fn first cap).run Try.prog w = .ok (.func fn first cap) w := fun _ _ _ _ => rfl
  go_enter_defers Try.func95, Try.ntmps95
  go_wp2
  refine leaves_cons (f := 98) (args := #[]) (by simp) (by simp [go_sem]) ?_
  refine (same1_deferred w).mono ?_
  rintro e u' w2 ⟨rfl, rfl, rfl⟩
  exact ⟨_, results_tmp rfl _ _ _, rfl, rfl⟩
theorem grown_of_below {w w' : World} (h : Below w.heap.size w w') (row : Option Nat) : w.grownBy w' row := ⟨h.os, h.tape, h.output, h.size, fun k hk _ => h.block k hk⟩
abbrev Pc := Int × Int × Int
/-- A piece's cells: from, to, value. -/
def pcc (x : Pc) : List Value := [.int .i64 x.1, .int .i64 x.2.1, .int .i64 x.2.2]
def flat3 (l : List Pc) : List Value := l.flatMap pcc
theorem flat3_cons (x : Pc) (l : List Pc) : flat3 (x :: l) = .int .i64 x.1 :: .int .i64 x.2.1 :: .int .i64 x.2.2 :: flat3 l := rfl
theorem flat3_append (a b : List Pc) : flat3 (a ++ b) = flat3 a ++ flat3 b := List.flatMap_append
theorem flat3_len (l : List Pc) : (flat3 l).length = l.length * 3 := by
  induction l with
  | nil => rfl
  | cons x l ih => rw [flat3_cons]; simp [ih]; omega
theorem flat3_one (l : List Pc) : ∀ u ∈ flat3 l, u.oneCell' = true := by
  induction l with
  | nil => intro u hu; cases hu
  | cons x l ih =>
    intro u hu
    rw [flat3_cons] at hu
    simp only [List.mem_cons] at hu
    rcases hu with rfl | rfl | rfl | hu
    · rfl
    · rfl
    · rfl
    · exact ih u hu
theorem flat3_at (l : List Pc) (j : Nat) (h : j < l.length) : (flat3 l)[j * 3]? = some (.int .i64 l[j].1) ∧ (flat3 l)[j * 3 + 1]? = some (.int .i64 l[j].2.1) ∧ (flat3 l)[j * 3 + 2]? = some (.int .i64 l[j].2.2) := by
  induction l generalizing j with
  | nil => cases h
  | cons x l ih =>
    cases j with
    | zero => exact ⟨rfl, rfl, rfl⟩
    | succ j =>
      have := ih j (by simpa using h)
      rw [flat3_cons, show (j + 1) * 3 = j * 3 + 1 + 1 + 1 from by omega]
      simpa using this
theorem flat3_set (l : List Pc) (j : Nat) (h : j < l.length) (b : Int) : (flat3 l).set (j * 3 + 1) (.int .i64 b) = flat3 (l.set j (l[j].1, b, l[j].2.2)) := by
  induction l generalizing j with
  | nil => cases h
  | cons x l ih =>
    cases j with
    | zero => rfl
    | succ j =>
      have := ih j (by simpa using h)
      rw [flat3_cons, show (j + 1) * 3 + 1 = j * 3 + 1 + 1 + 1 + 1 from by omega]
      simp only [List.set_cons_succ, this]
      rfl
theorem Try.underlyingPs : Try.prog.underlying 97 = some (.slice 102) := by kernel_rfl
theorem Try.infoPc : (Try.prog.info? 102).map (fun i => (i.zero, i.size, i.bytes)) = some (some (.agg #[.int .i64 0, .int .i64 0, .int .i64 0]), 3, 24) := by kernel_rfl
/-- The value v is a slice whose elements are the pieces l. -/
def Pcs (w : World) (v : Value) (l : List Pc) : Prop :=
  ∃ ao n cap, v = .slice ao n cap ∧ n = l.length ∧ n ≤ cap ∧ cap ≤ 9223372036854775807 ∧ (ao = none → cap = 0) ∧
    ∀ ad, ao = some ad → ∀ j, (h : j < l.length) → w.cell? (ad.add (j * 3)) = some (.int .i64 l[j].1) ∧ w.cell? (ad.add (j * 3 + 1)) = some (.int .i64 l[j].2.1) ∧ w.cell? (ad.add (j * 3 + 2)) = some (.int .i64 l[j].2.2)
theorem Pcs.below {w w' : World} {v : Value} {l : List Pc} (h : Pcs w v l) (hb : Below w.heap.size w w') : Pcs w' v l := by
  obtain ⟨ao, n, cap, rfl, h1, h2, h3, h4, h5⟩ := h
  exact ⟨ao, n, cap, rfl, h1, h2, h3, h4, fun ad had j hj => ⟨cell_later hb (h5 ad had j hj).1, cell_later hb (h5 ad had j hj).2.1, cell_later hb (h5 ad had j hj).2.2⟩⟩
/-- The value v is a row of the call's own, its pieces are l. -/
def OwnP (w : World) (base : Nat) (v : Value) (l : List Pc) : Prop := w.ownsRow base 102 3 v l.length (flat3 l)
theorem OwnP.nil (w : World) (base : Nat) : OwnP w base (.slice none 0 0) [] := World.ownsRow_nil _ _ _ _
theorem OwnP.shape {w : World} {base : Nat} {v : Value} {l : List Pc} (h : OwnP w base v l) : ∃ va vc, v = .slice va l.length vc := by
  obtain ⟨h1, h2⟩ := h
  rcases h2 with ⟨rfl, h0⟩ | ⟨g, cap, cur, rfl, -⟩
  · exact ⟨none, 0, by rw [h0]⟩
  · exact ⟨_, _, rfl⟩
theorem OwnP.kept {w w' : World} {base : Nat} {v : Value} {l : List Pc} (h : OwnP w base v l) (hb : ∀ k, base ≤ k → k < w.heap.size → w'.heap[k]? = w.heap[k]?) : OwnP w' base v l := by
  obtain ⟨h1, h2⟩ := h
  refine ⟨h1, ?_⟩
  rcases h2 with h2 | ⟨g, cap, cur, hv, hg, hh, r⟩
  · exact Or.inl h2
  · exact Or.inr ⟨g, cap, cur, hv, hg, by rw [hb g hg (lt_of_block hh)]; exact hh, r⟩
theorem OwnP.below {w w' : World} {base : Nat} {v : Value} {l : List Pc} (h : OwnP w base v l) (hb : Below w.heap.size w w') : OwnP w' base v l := h.kept fun k _ hk => hb.block k hk
theorem OwnP.pcs {w : World} {base : Nat} {v : Value} {l : List Pc} (h : OwnP w base v l) : Pcs w v l := by
  have h' : w.ownsRow base 102 3 v l.length (flat3 l) := h
  obtain ⟨h1, h2⟩ := h
  rcases h2 with ⟨rfl, h0⟩ | ⟨g, cap, cur, rfl, hg, hh, hc, hm, hs, ht⟩
  · exact ⟨none, 0, 0, rfl, h0.symm, Nat.le_refl _, by omega, (fun _ => rfl), (fun ad h => by cases h)⟩
  · refine ⟨some ⟨g, 0, none⟩, l.length, cap, rfl, rfl, hc, by unfold maxLen at hm; omega, (fun h => by cases h), ?_⟩
    intro ad had j hj
    obtain rfl := Option.some.inj had
    have e := flat3_at l j hj
    exact ⟨h'.cells rfl _ _ e.1, h'.cells rfl _ _ e.2.1, h'.cells rfl _ _ e.2.2⟩
theorem belowP_grown {B : Nat} {w w1 : World} {v : Value} {l : List Pc} (ho : OwnP w B v l) (hg : w.grownBy w1 v.ownBlock) (hB : B ≤ w.heap.size) : Below B w w1 :=
  (Below.refl _ _).grown hg hB fun k hk => (World.ownsRow.lt ho k hk).1
theorem keepsP_grown {B : Nat} {w w1 : World} {v : Value} {l : List Pc} (ho : OwnP w B v l) (hg : w.grownBy w1 v.ownBlock) : KeepsOthers w w1 := by
  refine KeepsOthers.of_grownBy hg fun j o hj hoj => ?_
  obtain ⟨h1, h2⟩ := ho
  rcases h2 with ⟨rfl, _⟩ | ⟨g, cap, cur, rfl, _, hh, -⟩
  · cases hj
  · cases hj
    rw [hh] at hoj
    cases hoj; rfl
/-- 'append(s, x...)', s of the call's own, x any slice of pieces. -/
theorem wpl_appendP {w : World} {ops : Array Oper} {rest : List Oper} {o : Oper} {a : Act} {Q : Exit → Act → World → Prop} (hgd : o.guard = none) (s x : Operand)
    (ho : o.op = .call { callee := .builtin .append, args := #[s, x], argTypes := #[97, 97] })
    (base : Nat) (v : Value) (l : List Pc) (hs : a.eval s = v) (hown : OwnP w base v l) (u : Value) (m : List Pc) (hx : a.eval x = u) (hu : Pcs w u m)
    (hsz : (l.length + m.length) * 24 ≤ 140737488355328) (hbase : base ≤ w.heap.size)
    (h : ∀ va vc w', OwnP w' base (.slice va (l.length + m.length) vc) (l ++ m) → w.grownBy w' v.ownBlock → wpList Try.prog ops Q rest (a.put o.dst (.slice va (l.length + m.length) vc)) w') :
    wpList Try.prog ops Q (o :: rest) a w := by
  obtain ⟨i, hi, hz0, hz1, hz2⟩ := info_parts Try.infoPc
  obtain ⟨ao, n, cap, rfl, rfl, hc, hm, hnone, hcell⟩ := hu
  cases ao with
  | none =>
    have h0 := hnone rfl
    subst h0
    have hm0 : m = [] := List.eq_nil_of_length_eq_zero (by omega)
    subst hm0
    obtain ⟨va, vc, rfl⟩ := hown.shape
    refine wpList_append_own_none hgd s x 97 ho base 102 i 3 Try.underlyingPs hi _ _ _ hs hown hx ?_
    exact h va vc w (by simpa using hown) (World.grownBy.refl _ _)
  | some ad =>
    refine wpList_append_own w hgd s x 97 ho base 102 i (.agg #[.int .i64 0, .int .i64 0, .int .i64 0]) 3 24 Try.underlyingPs hi hz0 hz1 hz2 rfl (by decide) v l.length (flat3 l) hs hown ad m.length cap (flat3 m) hx (flat3_len m) ?_ (flat3_one m) (by unfold maxLen; omega) (by omega) hbase ?_
    · intro j u hj
      have hlt : j < m.length * 3 := by
        rcases Nat.lt_or_ge j (m.length * 3) with h | h
        · exact h
        · rw [List.getElem?_eq_none (by rw [flat3_len]; exact h)] at hj; cases hj
      have e := hcell ad rfl (j / 3) (by omega)
      have f := flat3_at m (j / 3) (by omega)
      have hp : j % 3 = 0 ∨ j % 3 = 1 ∨ j % 3 = 2 := by omega
      rcases hp with hp | hp | hp
      · rw [show j / 3 * 3 = j from by omega] at e f
        rw [f.1] at hj; cases hj; exact e.1
      · rw [show j / 3 * 3 + 1 = j from by omega] at e f
        rw [f.2.1] at hj; cases hj; exact e.2.1
      · rw [show j / 3 * 3 + 2 = j from by omega] at e f
        rw [f.2.2] at hj; cases hj; exact e.2.2
    · intro v' w' ho' hg _
      have ho2 : OwnP w' base v' (l ++ m) := by
        show w'.ownsRow _ _ _ _ (l ++ m).length (flat3 (l ++ m))
        rw [List.length_append, flat3_append]; exact ho'
      obtain ⟨va, vc, rfl⟩ := ho2.shape
      have e : (l ++ m).length = l.length + m.length := List.length_append
      rw [e] at ho2 ⊢
      exact h va vc w' ho2 hg
/-- A block of one piece, as a slice. -/
theorem pcs_one {W : World} {k : Nat} {a b c : Int} {t : TypeId} {fr : Nat × Nat} (h : W.heap[k]? = some (.cells #[.int .i64 a, .int .i64 b, .int .i64 c] t fr)) : Pcs W (.slice (some ⟨k, 0, none⟩) 1 1) [(a, b, c)] := by
  refine ⟨_, _, _, rfl, rfl, Nat.le_refl _, by omega, (fun h => by cases h), ?_⟩
  intro ad had j hj
  obtain rfl := Option.some.inj had
  obtain rfl : j = 0 := by simpa using hj
  exact ⟨by rw [Addr.add_lit, cell_of_row W k _ _ _ _ h]; rfl, by rw [Addr.add_lit, cell_of_row W k _ _ _ _ h]; rfl, by rw [Addr.add_lit, cell_of_row W k _ _ _ _ h]; rfl⟩
/-- pieces with p behind them. -/
def layL (l : List Pc) (x : Pc) : List Pc :=
  match l.getLast? with
  | none => [x]
  | some y => if y.2.1 = x.1 ∧ y.2.2 = x.2.2 then l.dropLast ++ [(y.1, x.2.1, y.2.2)] else l ++ [x]
theorem layL_nil (x : Pc) : layL [] x = [x] := rfl
theorem layL_snoc (q : List Pc) (y x : Pc) : layL (q ++ [y]) x = if y.2.1 = x.1 ∧ y.2.2 = x.2.2 then q ++ [(y.1, x.2.1, y.2.2)] else (q ++ [y]) ++ [x] := by
  simp [layL]
set_option maxHeartbeats 1600000 in
theorem lay_nil (base : Nat) (va : Option Addr) (vc : Nat) (x : Pc) (w : World) (ho : OwnP w base (.slice va 0 vc) []) (hb : base ≤ w.heap.size) :
    Calls Try.prog 82 #[.slice va 0 vc, .agg #[.int .i64 x.1, .int .i64 x.2.1, .int .i64 x.2.2]] w fun e w' => ∃ va' vc', e = .returned (.slice va' 1 vc') ∧ OwnP w' base (.slice va' 1 vc') [x] ∧ Below base w w' ∧ KeepsOthers w w' ∧ w.grownBy w' (Value.slice va 0 vc).ownBlock := by
  obtain ⟨a, b, c⟩ := x
  simp only
  have HO := hid ho
  clear ho
  go_enter Try.func82, Try.ntmps82
  go_wp2_with fail
  go_quiet (fail)
  obtain ⟨W, hW⟩ : ∃ W, W = (w.alloc (.cells #[.int .i64 a, .int .i64 b, .int .i64 c] 102)).drewN nq := ⟨_, rfl⟩
  rw [← hW]
  have bW : Below w.heap.size w W := by rw [hW]; exact ((Below.refl _ _).alloc (Nat.le_refl _) _).trans ⟨rfl, rfl, rfl, Nat.le_refl _, fun _ _ => rfl⟩
  have BW := hid (bW.mono hb)
  have KW : Hid (KeepsOthers w W) := hid (by rw [hW]; exact (KeepsOthers.alloc w _).trans ⟨Nat.le_refl _, fun _ _ h _ => h⟩)
  have z0 : W.cell? ⟨w.heap.size, 0, none⟩ = some (.int .i64 a) := by rw [hW, World.cell?_drewN, World.cell?_alloc_at _ _ _ _ rfl]; rfl
  have z1 : W.cell? ⟨w.heap.size, 1, none⟩ = some (.int .i64 b) := by rw [hW, World.cell?_drewN, World.cell?_alloc_at _ _ _ _ rfl]; rfl
  have z2 : W.cell? ⟨w.heap.size, 2, none⟩ = some (.int .i64 c) := by rw [hW, World.cell?_drewN, World.cell?_alloc_at _ _ _ _ rfl]; rfl
  have hbW : Below W.heap.size W (W.alloc (.cells #[.int .i64 a, .int .i64 b, .int .i64 c] 102)) := (Below.refl _ _).alloc (Nat.le_refl _) _
  have OW := hid ((HO.out.below bW).below hbW)
  have PW := hid (pcs_one (W := W.alloc (.cells #[.int .i64 a, .int .i64 b, .int .i64 c] 102)) (heap_alloc_new W _))
  have hsW : base ≤ (W.alloc (.cells #[.int .i64 a, .int .i64 b, .int .i64 c] 102)).heap.size := Nat.le_trans hb (Nat.le_trans bW.size hbW.size)
  have BA := hid (BW.out.trans (hbW.mono (Nat.le_trans hb bW.size)))
  have BF := hid (bW.trans (hbW.mono bW.size))
  have KA := hid (KW.out.trans (KeepsOthers.alloc W (.cells #[.int .i64 a, .int .i64 b, .int .i64 c] 102)))
  clear hW bW hbW
  go_wp2_with (at_builtin; refine wpl_appendP rfl (.tmp 34) (.tmp 36) rfl base (.slice va 0 vc) [] rfl OW.out _ [(a, b, c)] rfl PW.out (by simp only [List.length_singleton]; first | (simp; done) | omega) hsW ?_; intro va3 vc3 w3 ho3 hg3; have HO3 := hid ho3; have HB3 := hid (BA.out.trans (belowP_grown OW.out hg3 hsW)); have HK3 := hid (KA.out.trans (keepsP_grown OW.out hg3)); have HG3 := hid ((grown_of_below BF.out _).trans hg3); clear ho3 hg3)
  go_ret
  exact ⟨va3, vc3, rfl, HO3.out, HB3.out, HK3.out, HG3.out⟩
/-- A row that is not empty, and p is not to grow together with its last piece. -/
theorem lay_facts {w : World} {base g vc n : Nat} {q : List Pc} {y : Pc} (hn : n = q.length) (ho : OwnP w base (.slice (some ⟨g, 0, none⟩) (n + 1) vc) (q ++ [y])) :
    w.cell? ⟨g, n * 3 + 1, none⟩ = some (.int .i64 y.2.1) ∧ w.cell? ⟨g, n * 3 + 2, none⟩ = some (.int .i64 y.2.2) ∧ w.frozen? ⟨g, n * 3 + 1, none⟩ = false := by
  have hnl : (q ++ [y]).length = n + 1 := by simp [hn]
  have e := flat3_at (q ++ [y]) n (by rw [hnl]; omega)
  have hy : (q ++ [y])[n]'(by rw [hnl]; omega) = y := by subst hn; simp
  rw [hy] at e
  have h' : w.ownsRow base 102 3 (.slice (some ⟨g, 0, none⟩) (n + 1) vc) (n + 1) (flat3 (q ++ [y])) := by have := ho; unfold OwnP at this; rwa [hnl] at this
  have c1 := h'.cells (g := g) rfl _ _ e.2.1
  have c2 := h'.cells (g := g) rfl _ _ e.2.2
  rw [Addr.add_lit] at c1 c2
  simp only [Nat.zero_add] at c1 c2
  exact ⟨c1, c2, World.ownsRow.frozenAt h' _⟩
set_option maxHeartbeats 1600000 in
theorem lay_far (base g vc n : Nat) (q : List Pc) (y x : Pc) (w : World) (hn : n = q.length) (ho : OwnP w base (.slice (some ⟨g, 0, none⟩) (n + 1) vc) (q ++ [y])) (hb : base ≤ w.heap.size) (hl : (n : Int) ≤ 1000000000) (hf : ¬ y.2.1 = x.1) :
    Calls Try.prog 82 #[.slice (some ⟨g, 0, none⟩) (n + 1) vc, .agg #[.int .i64 x.1, .int .i64 x.2.1, .int .i64 x.2.2]] w fun e w' => ∃ va' vc', e = .returned (.slice va' (n + 1 + 1) vc') ∧ OwnP w' base (.slice va' (n + 1 + 1) vc') ((q ++ [y]) ++ [x]) ∧ Below base w w' ∧ KeepsOthers w w' ∧ w.grownBy w' (some g) := by
  obtain ⟨a, b, c⟩ := x
  simp only at hf ⊢
  have HO := hid ho
  have hnl : (q ++ [y]).length = n + 1 := by simp [hn]
  have HNL := hid hnl
  obtain ⟨f1, f2, f3⟩ := lay_facts hn ho
  have hlt := (World.ownsRow.lt ho g rfl).2
  replace f1 : (w.alloc (.cells #[.int .i64 a, .int .i64 b, .int .i64 c] 102)).cell? ⟨g, n * 3 + 1, none⟩ = some (.int .i64 y.2.1) := cell_later ((Below.refl _ _).alloc (Nat.le_refl _) _) f1
  have n1 : (y.2.1 != a) = true := by simpa using hf
  have n0 : decide ((n : Int) < 0) = false := by simp
  have n2 : (0 : Int) ≤ (n : Int) ∧ (n : Int) < ((n + 1 : Nat) : Int) := by omega
  clear ho hnl hn f2 f3 hf
  go_enter Try.func82, Try.ntmps82
  go_wp2_with fail
  go_quiet (fail)
  obtain ⟨W, hW⟩ : ∃ W, W = (w.alloc (.cells #[.int .i64 a, .int .i64 b, .int .i64 c] 102)).drewN nq := ⟨_, rfl⟩
  rw [← hW]
  have bW : Below w.heap.size w W := by rw [hW]; exact ((Below.refl _ _).alloc (Nat.le_refl _) _).trans ⟨rfl, rfl, rfl, Nat.le_refl _, fun _ _ => rfl⟩
  have BW := hid (bW.mono hb)
  have KW : Hid (KeepsOthers w W) := hid (by rw [hW]; exact (KeepsOthers.alloc w _).trans ⟨Nat.le_refl _, fun _ _ h _ => h⟩)
  have z0 : W.cell? ⟨w.heap.size, 0, none⟩ = some (.int .i64 a) := by rw [hW, World.cell?_drewN, World.cell?_alloc_at _ _ _ _ rfl]; rfl
  have z1 : W.cell? ⟨w.heap.size, 1, none⟩ = some (.int .i64 b) := by rw [hW, World.cell?_drewN, World.cell?_alloc_at _ _ _ _ rfl]; rfl
  have z2 : W.cell? ⟨w.heap.size, 2, none⟩ = some (.int .i64 c) := by rw [hW, World.cell?_drewN, World.cell?_alloc_at _ _ _ _ rfl]; rfl
  have hbW : Below W.heap.size W (W.alloc (.cells #[.int .i64 a, .int .i64 b, .int .i64 c] 102)) := (Below.refl _ _).alloc (Nat.le_refl _) _
  have OW := hid ((HO.out.below bW).below hbW)
  have PW := hid (pcs_one (W := W.alloc (.cells #[.int .i64 a, .int .i64 b, .int .i64 c] 102)) (heap_alloc_new W _))
  have hsW : base ≤ (W.alloc (.cells #[.int .i64 a, .int .i64 b, .int .i64 c] 102)).heap.size := Nat.le_trans hb (Nat.le_trans bW.size hbW.size)
  have BA := hid (BW.out.trans (hbW.mono (Nat.le_trans hb bW.size)))
  have BF := hid (bW.trans (hbW.mono bW.size))
  have KA := hid (KW.out.trans (KeepsOthers.alloc W (.cells #[.int .i64 a, .int .i64 b, .int .i64 c] 102)))
  clear hW bW hbW
  go_wp2_with (at_builtin; refine wpl_appendP rfl (.tmp 34) (.tmp 36) rfl base (.slice (some ⟨g, 0, none⟩) (n + 1) vc) (q ++ [y]) rfl OW.out _ [(a, b, c)] rfl PW.out (by rw [HNL.out]; simp only [List.length_singleton]; omega) hsW ?_; intro va3 vc3 w3 ho3 hg3; rw [HNL.out] at ho3 ⊢; have HO3 := hid ho3; have HB3 := hid (BA.out.trans (belowP_grown OW.out hg3 hsW)); have HK3 := hid (KA.out.trans (keepsP_grown OW.out hg3)); have HG3 := hid ((grown_of_below BF.out _).trans hg3); clear ho3 hg3)
  go_ret
  exact ⟨va3, vc3, rfl, HO3.out, HB3.out, HK3.out, HG3.out⟩
set_option maxHeartbeats 1600000 in
theorem lay_other (base g vc n : Nat) (q : List Pc) (y x : Pc) (w : World) (hn : n = q.length) (ho : OwnP w base (.slice (some ⟨g, 0, none⟩) (n + 1) vc) (q ++ [y])) (hb : base ≤ w.heap.size) (hl : (n : Int) ≤ 1000000000) (hf : y.2.1 = x.1) (hv : ¬ y.2.2 = x.2.2) :
    Calls Try.prog 82 #[.slice (some ⟨g, 0, none⟩) (n + 1) vc, .agg #[.int .i64 x.1, .int .i64 x.2.1, .int .i64 x.2.2]] w fun e w' => ∃ va' vc', e = .returned (.slice va' (n + 1 + 1) vc') ∧ OwnP w' base (.slice va' (n + 1 + 1) vc') ((q ++ [y]) ++ [x]) ∧ Below base w w' ∧ KeepsOthers w w' ∧ w.grownBy w' (some g) := by
  obtain ⟨a, b, c⟩ := x
  simp only at hf hv ⊢
  have HO := hid ho
  have hnl : (q ++ [y]).length = n + 1 := by simp [hn]
  have HNL := hid hnl
  obtain ⟨f1, f2, f3⟩ := lay_facts hn ho
  have hlt := (World.ownsRow.lt ho g rfl).2
  replace f1 : (w.alloc (.cells #[.int .i64 a, .int .i64 b, .int .i64 c] 102)).cell? ⟨g, n * 3 + 1, none⟩ = some (.int .i64 y.2.1) := cell_later ((Below.refl _ _).alloc (Nat.le_refl _) _) f1
  have n1 : (y.2.1 != a) = false := by simpa using hf
  have n3 : (y.2.2 == c) = false := by simpa using hv
  replace f2 : (w.alloc (.cells #[.int .i64 a, .int .i64 b, .int .i64 c] 102)).cell? ⟨g, n * 3 + 2, none⟩ = some (.int .i64 y.2.2) := cell_later ((Below.refl _ _).alloc (Nat.le_refl _) _) f2
  have n0 : decide ((n : Int) < 0) = false := by simp
  have n2 : (0 : Int) ≤ (n : Int) ∧ (n : Int) < ((n + 1 : Nat) : Int) := by omega
  clear ho hnl hn f3 hf hv
  go_enter Try.func82, Try.ntmps82
  go_wp2_with fail
  go_quiet (first | (go_at_call 95; exact Calls.quiet_of_same (same_any _ _ _)))
  obtain ⟨W, hW⟩ : ∃ W, W = (w.alloc (.cells #[.int .i64 a, .int .i64 b, .int .i64 c] 102)).drewN nq := ⟨_, rfl⟩
  rw [← hW]
  have bW : Below w.heap.size w W := by rw [hW]; exact ((Below.refl _ _).alloc (Nat.le_refl _) _).trans ⟨rfl, rfl, rfl, Nat.le_refl _, fun _ _ => rfl⟩
  have BW := hid (bW.mono hb)
  have KW : Hid (KeepsOthers w W) := hid (by rw [hW]; exact (KeepsOthers.alloc w _).trans ⟨Nat.le_refl _, fun _ _ h _ => h⟩)
  have z0 : W.cell? ⟨w.heap.size, 0, none⟩ = some (.int .i64 a) := by rw [hW, World.cell?_drewN, World.cell?_alloc_at _ _ _ _ rfl]; rfl
  have z1 : W.cell? ⟨w.heap.size, 1, none⟩ = some (.int .i64 b) := by rw [hW, World.cell?_drewN, World.cell?_alloc_at _ _ _ _ rfl]; rfl
  have z2 : W.cell? ⟨w.heap.size, 2, none⟩ = some (.int .i64 c) := by rw [hW, World.cell?_drewN, World.cell?_alloc_at _ _ _ _ rfl]; rfl
  have hbW : Below W.heap.size W (W.alloc (.cells #[.int .i64 a, .int .i64 b, .int .i64 c] 102)) := (Below.refl _ _).alloc (Nat.le_refl _) _
  have OW := hid ((HO.out.below bW).below hbW)
  have PW := hid (pcs_one (W := W.alloc (.cells #[.int .i64 a, .int .i64 b, .int .i64 c] 102)) (heap_alloc_new W _))
  have hsW : base ≤ (W.alloc (.cells #[.int .i64 a, .int .i64 b, .int .i64 c] 102)).heap.size := Nat.le_trans hb (Nat.le_trans bW.size hbW.size)
  have BA := hid (BW.out.trans (hbW.mono (Nat.le_trans hb bW.size)))
  have BF := hid (bW.trans (hbW.mono bW.size))
  have KA := hid (KW.out.trans (KeepsOthers.alloc W (.cells #[.int .i64 a, .int .i64 b, .int .i64 c] 102)))
  clear hW bW hbW
  go_wp2_with (at_builtin; refine wpl_appendP rfl (.tmp 34) (.tmp 36) rfl base (.slice (some ⟨g, 0, none⟩) (n + 1) vc) (q ++ [y]) rfl OW.out _ [(a, b, c)] rfl PW.out (by rw [HNL.out]; simp only [List.length_singleton]; omega) hsW ?_; intro va3 vc3 w3 ho3 hg3; rw [HNL.out] at ho3 ⊢; have HO3 := hid ho3; have HB3 := hid (BA.out.trans (belowP_grown OW.out hg3 hsW)); have HK3 := hid (KA.out.trans (keepsP_grown OW.out hg3)); have HG3 := hid ((grown_of_below BF.out _).trans hg3); clear ho3 hg3)
  go_ret
  exact ⟨va3, vc3, rfl, HO3.out, HB3.out, HK3.out, HG3.out⟩
set_option maxHeartbeats 1600000 in
theorem lay_near (base g vc n : Nat) (q : List Pc) (y x : Pc) (w : World) (hn : n = q.length) (ho : OwnP w base (.slice (some ⟨g, 0, none⟩) (n + 1) vc) (q ++ [y])) (hb : base ≤ w.heap.size) (hl : (n : Int) ≤ 1000000000) (hf : y.2.1 = x.1) (hv : y.2.2 = x.2.2) :
    Calls Try.prog 82 #[.slice (some ⟨g, 0, none⟩) (n + 1) vc, .agg #[.int .i64 x.1, .int .i64 x.2.1, .int .i64 x.2.2]] w fun e w' => e = .returned (.slice (some ⟨g, 0, none⟩) (n + 1) vc) ∧ OwnP w' base (.slice (some ⟨g, 0, none⟩) (n + 1) vc) (q ++ [(y.1, x.2.1, y.2.2)]) ∧ Below base w w' ∧ KeepsOthers w w' ∧ w.grownBy w' (some g) := by
  obtain ⟨a, b, c⟩ := x
  simp only at hf hv ⊢
  have HO := hid ho
  have hnl : (q ++ [y]).length = n + 1 := by simp [hn]
  have HNL := hid hnl
  have HN := hid hn
  obtain ⟨f1, f2, f3⟩ := lay_facts hn ho
  have hlt := (World.ownsRow.lt ho g rfl)
  replace f3 : (w.alloc (.cells #[.int .i64 a, .int .i64 b, .int .i64 c] 102)).frozen? ⟨g, n * 3 + 1, none⟩ = false := (World.frozen?_of_block (((Below.refl w.heap.size w).alloc (Nat.le_refl _) (.cells #[.int .i64 a, .int .i64 b, .int .i64 c] 102)).block g hlt.2)).trans f3
  replace f1 : (w.alloc (.cells #[.int .i64 a, .int .i64 b, .int .i64 c] 102)).cell? ⟨g, n * 3 + 1, none⟩ = some (.int .i64 y.2.1) := cell_later ((Below.refl _ _).alloc (Nat.le_refl _) _) f1
  replace f2 : (w.alloc (.cells #[.int .i64 a, .int .i64 b, .int .i64 c] 102)).cell? ⟨g, n * 3 + 2, none⟩ = some (.int .i64 y.2.2) := cell_later ((Below.refl _ _).alloc (Nat.le_refl _) _) f2
  have n1 : (y.2.1 != a) = false := by simpa using hf
  have n3 : (y.2.2 == c) = true := by simpa using hv
  have n0 : decide ((n : Int) < 0) = false := by simp
  have n2 : (0 : Int) ≤ (n : Int) ∧ (n : Int) < ((n + 1 : Nat) : Int) := by omega
  clear ho hnl hn hf hv
  go_enter Try.func82, Try.ntmps82
  go_wp2_with fail
  go_quiet (first | (go_at_call 95; exact Calls.quiet_of_same (same_any _ _ _)))
  go_wp2_with fail
  go_ret
  have hW : Below w.heap.size w ((w.alloc (.cells #[.int .i64 a, .int .i64 b, .int .i64 c] 102)).drewN nq) := ((Below.refl _ _).alloc (Nat.le_refl _) _).trans ⟨rfl, rfl, rfl, Nat.le_refl _, fun _ _ => rfl⟩
  have h' : ((w.alloc (.cells #[.int .i64 a, .int .i64 b, .int .i64 c] 102)).drewN nq).ownsRow base 102 3 (.slice (some ⟨g, 0, none⟩) (n + 1) vc) (n + 1) (flat3 (q ++ [y])) := by have := HO.out.below hW; unfold OwnP at this; rwa [HNL.out] at this
  have hst := (World.ownsRow.stored h' (n * 3 + 1) (.int .i64 b)).1
  have hgt : (q ++ [y])[n]'(by rw [HNL.out]; omega) = y := by have := HN.out; subst this; simp
  have hse : (q ++ [y]).set n (y.1, b, y.2.2) = q ++ [(y.1, b, y.2.2)] := by have := HN.out; subst this; simp
  have hfs := flat3_set (q ++ [y]) n (by rw [HNL.out]; omega) b
  rw [hgt, hse] at hfs
  rw [hfs] at hst
  have hlq : (q ++ [(y.1, b, y.2.2)]).length = n + 1 := by have := HN.out; simp [this]
  refine ⟨rfl, ?_, ?_, ?_, (grown_of_below hW _).trans ⟨rfl, rfl, rfl, by simp, fun k _ hne => Below.heap_setCell _ ⟨g, n * 3 + 1, none⟩ _ k (by rintro rfl; exact hne rfl)⟩⟩
  · unfold OwnP
    rw [hlq]
    exact hst
  · exact ((hW.mono hb).setCell (p := ⟨g, n * 3 + 1, none⟩) hlt.1 _)
  · have k1 : KeepsOthers w ((w.alloc (.cells #[.int .i64 a, .int .i64 b, .int .i64 c] 102)).drewN nq) := (KeepsOthers.alloc w _).trans ⟨Nat.le_refl _, fun _ _ h _ => h⟩
    exact k1.trans (KeepsOthers.setCell _ _ _)
/-- lay, whatever the row. -/
theorem lay_any (base : Nat) (va : Option Addr) (vc : Nat) (l : List Pc) (x : Pc) (w : World) (ho : OwnP w base (.slice va l.length vc) l) (hb : base ≤ w.heap.size) (hl : l.length ≤ 1000000000) :
    Calls Try.prog 82 #[.slice va l.length vc, .agg #[.int .i64 x.1, .int .i64 x.2.1, .int .i64 x.2.2]] w fun e w' => ∃ va' vc', e = .returned (.slice va' (layL l x).length vc') ∧ OwnP w' base (.slice va' (layL l x).length vc') (layL l x) ∧ Below base w w' ∧ KeepsOthers w w' ∧ w.grownBy w' (Value.slice va l.length vc).ownBlock := by
  rcases List.eq_nil_or_concat l with rfl | ⟨q, y, rfl⟩
  · exact lay_nil base va vc x w ho hb
  · rw [List.concat_eq_append] at ho hl ⊢
    have hlen : (q ++ [y]).length = q.length + 1 := by simp
    have hva : ∃ g, va = some ⟨g, 0, none⟩ := by
      obtain ⟨h1, h2⟩ := ho
      rcases h2 with ⟨_, h0⟩ | ⟨g, cap, cur, e, -⟩
      · omega
      · cases e; exact ⟨g, rfl⟩
    obtain ⟨g, rfl⟩ := hva
    rw [hlen] at ho hl ⊢
    rw [layL_snoc]
    by_cases h : y.2.1 = x.1
    · by_cases h2 : y.2.2 = x.2.2
      · rw [if_pos ⟨h, h2⟩]
        have hl2 : (q ++ [(y.1, x.2.1, y.2.2)]).length = q.length + 1 := by simp
        rw [hl2]
        exact (lay_near base g vc q.length q y x w rfl ho hb (by omega) h h2).mono fun e w' hh => ⟨_, _, hh⟩
      · rw [if_neg (fun hh => h2 hh.2)]
        have hl2 : (q ++ [y] ++ [x]).length = q.length + 1 + 1 := by simp
        rw [hl2]
        exact lay_other base g vc q.length q y x w rfl ho hb (by omega) h h2
    · rw [if_neg (fun hh => h hh.1)]
      have hl2 : (q ++ [y] ++ [x]).length = q.length + 1 + 1 := by simp
      rw [hl2]
      exact lay_far base g vc q.length q y x w rfl ho hb (by omega) h
end Go.Proofs.Ytnkjkaofgninnaa
