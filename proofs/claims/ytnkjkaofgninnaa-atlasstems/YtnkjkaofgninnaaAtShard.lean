/- Shards and origins in memory; a shard copied. Conditions: they lie in memory. -/
import Derived.Test.YtnkjkaofgninnaaAtBase
import Derived.Deep.RegionHeld3
namespace Go.Proofs.Ytnkjkaofgninnaa
open Go.RowKit
set_option linter.unusedVariables false
set_option linter.unusedSimpArgs false

/-- A shard that there was; one with the row of its members; a shard. -/
structure OrD where
  id : Int
  fr : Int
  to : Int
  mem : List Int
structure OrX where
  o : OrD
  mv : Value
structure ShD where
  id : Int
  fr : Int
  to : Int
  mem : List Int
  past : List OrD
def orC (x : OrX) : List Value := [.int .i64 x.o.id, .int .i64 x.o.fr, .int .i64 x.o.to, x.mv]
def orvs (l : List OrX) : List Value := l.flatMap orC
theorem orvs_len (l : List OrX) : (orvs l).length = l.length * 4 := by
  induction l with
  | nil => rfl
  | cons x l ih => simp [orvs, orC] at ih ⊢; omega
theorem orvs_cons (x : OrX) (l : List OrX) : orvs (x :: l) = .int .i64 x.o.id :: .int .i64 x.o.fr :: .int .i64 x.o.to :: x.mv :: orvs l := rfl
theorem orvs_append (a b : List OrX) : orvs (a ++ b) = orvs a ++ orvs b := by simp [orvs]
theorem orvs_at (l : List OrX) (j : Nat) (h : j < l.length) : (orvs l)[j * 4]? = some (.int .i64 l[j].o.id) ∧ (orvs l)[j * 4 + 1]? = some (.int .i64 l[j].o.fr) ∧ (orvs l)[j * 4 + 2]? = some (.int .i64 l[j].o.to) ∧ (orvs l)[j * 4 + 3]? = some l[j].mv := by
  induction l generalizing j with
  | nil => cases h
  | cons x l ih =>
    cases j with
    | zero => exact ⟨rfl, rfl, rfl, rfl⟩
    | succ j =>
      have := ih j (by simpa using h)
      rw [show (j + 1) * 4 = j * 4 + 1 + 1 + 1 + 1 from by omega, orvs_cons]
      simpa using this
theorem orvs_set (l : List OrX) (j : Nat) (h : j < l.length) (v : Value) : (orvs l).set (j * 4 + 3) v = orvs (l.set j { l[j] with mv := v }) := by
  induction l generalizing j with
  | nil => cases h
  | cons x l ih =>
    cases j with
    | zero => rfl
    | succ j =>
      have := ih j (by simpa using h)
      rw [show (j + 1) * 4 + 3 = j * 4 + 3 + 1 + 1 + 1 + 1 from by omega, orvs_cons]
      simp only [List.set_cons_succ, List.getElem_cons_succ, orvs_cons]
      rw [this]
/-- The rows of origins' members lie in memory, as rows of their own. -/
def Mems (w : World) (l : List OrX) : Prop := ∀ x ∈ l, w.ownsRow 0 3 1 x.mv x.o.mem.length (nvs x.o.mem)
/-- A shard's value. -/
def shV (S : ShD) (mv pv : Value) : Value := .agg #[.int .i64 S.id, .int .i64 S.fr, .int .i64 S.to, mv, pv]
def shC (S : ShD) (mv pv : Value) : Array Value := #[.int .i64 S.id, .int .i64 S.fr, .int .i64 S.to, mv, pv]
/-- A shard lies in memory. -/
structure ShM (w : World) (S : ShD) (mv pv : Value) : Prop where
  m : w.ownsRow 0 3 1 mv S.mem.length (nvs S.mem)
  p : ∃ L : List OrX, L.map (·.o) = S.past ∧ w.ownsRow 0 52 4 pv L.length (orvs L) ∧ Mems w L
theorem Mems.kt {w w' : World} {l : List OrX} {ts : List TypeId} (h : Mems w l) (hk : Kt ts w w') (ht : 3 ∉ ts) : Mems w' l := fun x hx => own_kt (h x hx) hk ht
theorem ShM.kt {w w' : World} {S : ShD} {mv pv : Value} {ts : List TypeId} (h : ShM w S mv pv) (hk : Kt ts w w') (ht : 3 ∉ ts) (ho : 52 ∉ ts) : ShM w' S mv pv := by
  obtain ⟨L, h1, h2, h3⟩ := h.p
  exact ⟨own_kt h.m hk ht, L, h1, own_kt h2 hk ho, h3.kt hk ht⟩
theorem ShM.below {w w' : World} {S : ShD} {mv pv : Value} (h : ShM w S mv pv) (hb : Below w.heap.size w w') : ShM w' S mv pv := h.kt (Kt.below [] hb) (by simp) (by simp)
theorem ShM.shape {w : World} {S : ShD} {mv pv : Value} (h : ShM w S mv pv) : (∃ va vc, mv = .slice va S.mem.length vc) ∧ ∃ va vc, pv = .slice va S.past.length vc := by
  obtain ⟨L, h1, h2, h3⟩ := h.p
  have := own_shape h2
  rw [show L.length = S.past.length by rw [← h1]; simp] at this
  exact ⟨own_shape h.m, this⟩
theorem Try.underlyingOs : Try.prog.underlying 44 = some (.slice 52) := by kernel_rfl
theorem rowOr : RowT 44 52 (.agg #[.int .i64 0, .int .i64 0, .int .i64 0, .slice none 0 0]) 4 48 := ⟨by kernel_rfl, by kernel_rfl, rfl, by decide, by decide⟩
theorem orvs_one {w : World} {l : List OrX} (h : Mems w l) : ∀ u ∈ orvs l, u.oneCell' = true := by
  intro u hu
  simp only [orvs, List.mem_flatMap] at hu
  obtain ⟨x, hx, hu⟩ := hu
  obtain ⟨va, vc, e⟩ := own_shape (h x hx)
  simp only [orC, List.mem_cons, List.not_mem_nil, or_false] at hu
  rcases hu with rfl | rfl | rfl | rfl
  · rfl
  · rfl
  · rfl
  · rw [e]; rfl
theorem own_cell {w : World} {B : Nat} {E : TypeId} {sz n g o cap : Nat} {xs : List Value} (h : w.ownsRow B E sz (.slice (some ⟨g, o, none⟩) n cap) n xs) {j : Nat} {u : Value} (hj : xs[j]? = some u) : w.cell? ⟨g, j, none⟩ = some u := by
  have h' := h
  obtain ⟨_, h2⟩ := h
  rcases h2 with ⟨e, _⟩ | ⟨g', cap', cur, e, -, hh, -⟩
  · cases e
  · cases e
    have := h'.cells (g := g) rfl j u hj
    rwa [Addr.add_lit, Nat.zero_add] at this
set_option maxHeartbeats 1600000 in
theorem cloneO_any (v : Value) (l : List OrX) (w : World) (hv : w.ownsRow 0 52 4 v l.length (orvs l)) (hm : Mems w l) (hl : l.length ≤ 1000000000) :
    Calls Try.prog 57 #[v] w fun e w' => ∃ va vc, e = .returned (.slice va l.length vc) ∧ w'.ownsRow w.heap.size 52 4 (.slice va l.length vc) l.length (orvs l) ∧ Below w.heap.size w w' := by
  have HV := hid hv
  have HM := hid hm
  have hv' := hv
  obtain ⟨_, h2⟩ := hv'
  rcases h2 with ⟨rfl, h0⟩ | ⟨g, cap, cur, rfl, -, -, -⟩
  · have h0 : l = [] := List.eq_nil_of_length_eq_zero h0
    subst h0
    clear hv hm HV HM
    have hnil := Lib.run_eql_slice_nil (P := Try.prog) w 44 52 none 0 0 0 0 Try.underlyingOs
    go_enter Try.func57, Try.ntmps57
    go_wp2
    go_ret
    exact ⟨none, 0, rfl, World.ownsRow_nil _ _ _ _, Below.refl _ _⟩
  · clear hv hm
    have HO := hid (own_empty w 52 4)
    have hba : Below w.heap.size w (w.alloc (.cells #[] 52)) := (Below.refl _ _).alloc (Nat.le_refl _) _
    have HA1 := hid (own_below HV.out hba)
    have HC : Hid (∀ j u, (orvs l)[j]? = some u → (w.alloc (.cells #[] 52)).cell? ((⟨g, 0, none⟩ : Addr).add j) = some u) := hid fun j u hj => by
      rw [Addr.add_lit, Nat.zero_add]
      exact own_cell HA1.out hj
    have hnil := Lib.run_eql_slice_nil (P := Try.prog) w 44 52 (some ⟨g, 0, none⟩) l.length cap 0 0 Try.underlyingOs
    go_enter Try.func57, Try.ntmps57
    go_wp2_with (at_builtin; refine wpl_appA rowOr rfl _ _ rfl w.heap.size (.slice (some ⟨w.heap.size, 0, none⟩) 0 0) 0 [] rfl HO.out ⟨g, 0, none⟩ l.length cap (orvs l) rfl (orvs_len l) HC.out (orvs_one HM.out) (by omega) (by simp) ?_; intro va1 vc1 w2 ho1 hg1; simp only [Nat.zero_add, List.nil_append] at ho1; have HB2 := hid (hba.trans (own_bel HO.out hg1 (by simp))); have HO1 := hid ho1; clear ho1 hg1)
    go_ret
    exact ⟨va1, vc1, by simp, HO1.out, HB2.out⟩
theorem Try.sizeSh : (Try.prog.info? 46).map (·.size) = some 5 := by kernel_rfl
theorem Try.structSh0 : (Try.prog.underlying 46).map (fun d => match d with | .struct _ | .array _ _ => true | _ => false) = some true := by kernel_rfl
theorem Try.structSh : ∃ d, Try.prog.underlying 46 = some d ∧ (match d with | .struct _ | .array _ _ => true | _ => false) = true := by
  have h := Try.structSh0
  cases hd : Try.prog.underlying 46 with
  | none => rw [hd] at h; cases h
  | some d => rw [hd] at h; exact ⟨d, rfl, by simpa using h⟩
theorem Try.sizeOr : (Try.prog.info? 52).map (·.size) = some 4 := by kernel_rfl
theorem Try.structOr0 : (Try.prog.underlying 52).map (fun d => match d with | .struct _ | .array _ _ => true | _ => false) = some true := by kernel_rfl
theorem Try.structOr : ∃ d, Try.prog.underlying 52 = some d ∧ (match d with | .struct _ | .array _ _ => true | _ => false) = true := by
  have h := Try.structOr0
  cases hd : Try.prog.underlying 52 with
  | none => rw [hd] at h; cases h
  | some d => rw [hd] at h; exact ⟨d, rfl, by simpa using h⟩
/-- A shard's cells by value; loads and stores of whole shards. -/
theorem wpl_loadH {ops : Array Oper} {rest : List Oper} {o : Oper} {a : Act} {w : World} {Q : Exit → Act → World → Prop} (hgd : o.guard = none) (x : Operand) (ho : o.op = .load 46 x)
    (g : Nat) (hx : a.eval x = .pointer (some ⟨g, 0, none⟩)) (t : TypeId) (cs : Array Value) (fr : Nat × Nat) (hs : cs.size = 5) (hg : w.heap[g]? = some (.cells cs t fr))
    (h : wpList Try.prog ops Q rest (a.put o.dst (.agg cs)) w) : wpList Try.prog ops Q (o :: rest) a w := by
  obtain ⟨d, hd1, hd2⟩ := Try.structSh
  exact wpList_load_row hgd _ x ho g hx t _ fr d hg hd1 (by cases d <;> first | rfl | (simp at hd2)) (by rw [hs]; exact Try.sizeSh) h
theorem wpl_storeH {ops : Array Oper} {rest : List Oper} {o : Oper} {a : Act} {w : World} {Q : Exit → Act → World → Prop} (hgd : o.guard = none) (x y : Operand) (ho : o.op = .store 46 x y)
    (g : Nat) (a0 a1 a2 a3 a4 : Value) (hx : a.eval x = .pointer (some ⟨g, 0, none⟩)) (hy : a.eval y = .agg #[a0, a1, a2, a3, a4]) (h0 : a0.oneCell' = true) (h1 : a1.oneCell' = true) (h2 : a2.oneCell' = true) (h3 : a3.oneCell' = true) (h4 : a4.oneCell' = true)
    (t : TypeId) (c0 : Array Value) (hc : c0.size = 5) (hg : w.heap[g]? = some (.cells c0 t (0, 0)))
    (h : wpList Try.prog ops Q rest (a.put o.dst undef) (w.setRow g #[a0, a1, a2, a3, a4])) : wpList Try.prog ops Q (o :: rest) a w :=
  wpList_store_row hgd _ x y ho g _ hx hy t _ hg Try.sizeSh (by rw [hc]; rfl) (by simp [h0, h1, h2, h3, h4]) h
theorem wpl_storeO {ops : Array Oper} {rest : List Oper} {o : Oper} {a : Act} {w : World} {Q : Exit → Act → World → Prop} (hgd : o.guard = none) (x y : Operand) (ho : o.op = .store 52 x y)
    (g : Nat) (a0 a1 a2 a3 : Value) (hx : a.eval x = .pointer (some ⟨g, 0, none⟩)) (hy : a.eval y = .agg #[a0, a1, a2, a3]) (h0 : a0.oneCell' = true) (h1 : a1.oneCell' = true) (h2 : a2.oneCell' = true) (h3 : a3.oneCell' = true)
    (t : TypeId) (c0 : Array Value) (hc : c0.size = 4) (hg : w.heap[g]? = some (.cells c0 t (0, 0)))
    (h : wpList Try.prog ops Q rest (a.put o.dst undef) (w.setRow g #[a0, a1, a2, a3])) : wpList Try.prog ops Q (o :: rest) a w :=
  wpList_store_row hgd _ x y ho g _ hx hy t _ hg Try.sizeOr (by rw [hc]; rfl) (by simp [h0, h1, h2, h3]) h
theorem results_sh {fn : Func} {p : Tmp} (h : fn.results = #[.cell p 46]) (tmps : Array Value) (w : World) (g : Nat) (t : TypeId) (cs : Array Value) (fr : Nat × Nat) (hs : cs.size = 5)
    (hp : tmps.getD p undef = .pointer (some ⟨g, 0, none⟩)) (hg : w.heap[g]? = some (.cells cs t fr)) : (results fn tmps).run Try.prog w = .ok (.agg cs) w := by
  obtain ⟨d, hd1, hd2⟩ := Try.structSh
  have hp' : tmps[p]?.getD undef = .pointer (some ⟨g, 0, none⟩) := by simpa using hp
  have hl := run_loadVar_row w g t 46 cs fr d hg hd1 (by cases d <;> first | rfl | (simp at hd2)) (by rw [hs]; exact Try.sizeSh)
  simp [results, h, hp', asAddr, hl]
theorem results_shB {fn : Func} {p q : Tmp} (h : fn.results = #[.cell p 46, .tmp q]) (tmps : Array Value) (w : World) (g : Nat) (t : TypeId) (cs : Array Value) (fr : Nat × Nat) (hs : cs.size = 5)
    (hp : tmps.getD p undef = .pointer (some ⟨g, 0, none⟩)) (hg : w.heap[g]? = some (.cells cs t fr)) : (results fn tmps).run Try.prog w = .ok (.tuple #[.agg cs, tmps.getD q undef]) w := by
  obtain ⟨d, hd1, hd2⟩ := Try.structSh
  have hp' : tmps[p]?.getD undef = .pointer (some ⟨g, 0, none⟩) := by simpa using hp
  have hl := run_loadVar_row w g t 46 cs fr d hg hd1 (by cases d <;> first | rfl | (simp at hd2)) (by rw [hs]; exact Try.sizeSh)
  simp [results, h, hp', asAddr, hl]
end Go.Proofs.Ytnkjkaofgninnaa
