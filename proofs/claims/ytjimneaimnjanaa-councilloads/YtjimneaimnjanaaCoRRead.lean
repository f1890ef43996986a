/- The document's Read of a state's bytes. Conditions: the bytes lie in memory. -/
import Derived.Test.YtjimneaimnjanaaCoRRd
namespace Go.Proofs.Ytjimneaimnjanaa
open Go.RowKit
set_option linter.unusedVariables false
set_option linter.unusedSimpArgs false

/-- The document's reader behind i ints; behind the texts. -/
def rs (l : List UInt8) : Nat → List UInt8 × Bool
  | 0 => (l, false)
  | i + 1 => (nxL (rs l i).1 (intS (some (rs l i).1)), (rs l i).2 || (intS (some (rs l i).1)).isNone)
def rt (p : List UInt8 × Bool) : List UInt8 × Bool := (nxL p.1 (textS (some p.1)), p.2 || (textS (some p.1)).isNone)
/-- The document's reader and ours go together. -/
def Tog (p : List UInt8 × Bool) (s : Option (List UInt8)) : Prop := (s = none ∧ p.2 = true) ∨ (s = some p.1 ∧ p.2 = false)
theorem Tog.int {p : List UInt8 × Bool} {s : Option (List UInt8)} (h : Tog p s) : Tog (nxL p.1 (intS (some p.1)), p.2 || (intS (some p.1)).isNone) (intS s) := by
  rcases h with ⟨rfl, h⟩ | ⟨rfl, h⟩
  · exact .inl ⟨rfl, by simp [h]⟩
  · cases hs : intS (some p.1) with
    | none => exact .inl ⟨rfl, by simp⟩
    | some r => exact .inr ⟨rfl, by simp [h]⟩
theorem Tog.text {p : List UInt8 × Bool} {s : Option (List UInt8)} (h : Tog p s) : Tog (rt p) (textS s) := by
  unfold rt
  rcases h with ⟨rfl, h⟩ | ⟨rfl, h⟩
  · exact .inl ⟨rfl, by simp [h]⟩
  · cases hs : textS (some p.1) with
    | none => exact .inl ⟨rfl, by simp⟩
    | some r => exact .inr ⟨rfl, by simp [h]⟩
theorem rs_ns (l : List UInt8) (i : Nat) : Tog (rs l i) (nsS l i) := by
  induction i with
  | zero => exact .inr ⟨rfl, rfl⟩
  | succ i ih => exact ih.int
def st0 : Obj := .cells #[.int .i64 0, .int .i64 0, .int .i64 0, .int .i64 0, .string ⟨#[]⟩, .string ⟨#[]⟩, .slice none 0 0] 29
/-- The document's Read under way: the reader at X, the state at S with its log at lv, the result's cell at R. -/
structure Rs (w wr : World) (R X S : Nat) (D : CoD) (lv : Value) (p : List UInt8 × Bool) : Prop where
  rd : Rr w wr X p.1 p.2
  st : wr.heap[S]? = some (.cells (stC D lv) 29 (0, 0))
  log : wr.ownsRow w.heap.size 73 3 lv D.log.length (evs D.log)
  res : wr.heap[R]? = some st0
  bel : Below w.heap.size w wr
  pr : w.heap.size ≤ R
  px : w.heap.size ≤ X
  ps : w.heap.size ≤ S
  ne : R ≠ S
theorem Rs.below {w wr w' : World} {R X S : Nat} {D : CoD} {lv : Value} {p : List UInt8 × Bool} (h : Rs w wr R X S D lv p) (hb : Below wr.heap.size wr w') : Rs w w' R X S D lv p :=
  ⟨h.rd.below hb, (hb.block S (lt_of_block h.st)).trans h.st, own_below h.log hb, (hb.block R (lt_of_block h.res)).trans h.res, h.bel.trans (hb.mono h.bel.size), h.pr, h.px, h.ps, h.ne⟩
theorem Rs.read {w wr w' : World} {R X S : Nat} {D : CoD} {lv : Value} {p p' : List UInt8 × Bool} (h : Rs w wr R X S D lv p) (hr : Rr w w' X p'.1 p'.2) (hg : wr.grownBy w' (some X)) : Rs w w' R X S D lv p' := by
  obtain ⟨a, c, hX, -⟩ := h.rd.rd
  refine ⟨hr, (hg.block S (lt_of_block h.st) fun e => ?_).trans h.st, own_kept h.log fun q cs hq hh => hg.block q (lt_of_block hh) fun e => ?_, (hg.block R (lt_of_block h.res) fun e => ?_).trans h.res, h.bel.grown hg h.bel.size (fun k hk => by cases hk; exact h.px), h.pr, h.px, h.ps, h.ne⟩
  · have h1 := h.st; rw [Option.some.inj e, hX] at h1; cases h1
  · rw [Option.some.inj e, hX] at hh; cases hh
  · have h1 := h.res; rw [Option.some.inj e, hX] at h1; cases h1
theorem Rr.set {w wr : World} {X z i : Nat} {l : List UInt8} {bad : Bool} {v : Value} (h : Rr w wr X l bad) (hne : X ≠ z) (hz : w.heap.size ≤ z) : Rr w (wr.setCell ⟨z, i, none⟩ v) X l bad := by
  obtain ⟨a, c, hX, hB⟩ := h.rd
  exact ⟨⟨a, c, (Below.heap_setCell _ _ _ _ hne).trans hX, hB⟩, below_set h.bel hz, h.px⟩
theorem Rs.xs {w wr : World} {R X S : Nat} {D : CoD} {lv : Value} {p : List UInt8 × Bool} (h : Rs w wr R X S D lv p) : X ≠ S := fun e => by
  obtain ⟨a, c, hX, -⟩ := h.rd.rd
  rw [e, h.st] at hX; cases hX
theorem Rs.set {w wr : World} {R X S : Nat} {D D' : CoD} {va : Option Addr} {vn vc : Nat} {p : List UInt8 × Bool} (h : Rs w wr R X S D (.slice va vn vc) p) (i : Nat) (v : Value) (hc : (stC D (.slice va vn vc)).setIfInBounds i v = stC D' (.slice va vn vc)) (hl : D'.log = D.log) : Rs w (wr.setCell ⟨S, i, none⟩ v) R X S D' (.slice va vn vc) p :=
  ⟨h.rd.set h.xs h.ps, by rw [← hc]; exact heap_setCell_same _ _ _ _ _ _ h.st, by rw [hl]; exact own_kept h.log fun q cs hq hh => Below.heap_setCell _ _ _ _ (fun e => by have e' : q = S := e; rw [e', h.st] at hh; cases hh), (Below.heap_setCell _ _ _ _ h.ne).trans h.res, below_set h.bel h.ps, h.pr, h.px, h.ps, h.ne⟩
theorem Rs.cell {w wr : World} {R X S : Nat} {D : CoD} {lv : Value} {p : List UInt8 × Bool} (h : Rs w wr R X S D lv p) (i : Nat) : wr.cell? ⟨S, i, none⟩ = (stC D lv)[i]? := by rw [cell_of_row _ _ _ _ _ _ h.st]
theorem Rs.fz {w wr : World} {R X S : Nat} {D : CoD} {lv : Value} {p : List UInt8 × Bool} (h : Rs w wr R X S D lv p) (i : Nat) : wr.frozen? ⟨S, i, none⟩ = false := frozen_of_row _ _ _ _ _ h.st
theorem Try.sizeSt : (Try.prog.info? 29).map (·.size) = some 7 := by kernel_rfl
theorem Try.structSt0 : (Try.prog.underlying 29).map (fun d => match d with | .struct _ | .array _ _ => true | _ => false) = some true := by kernel_rfl
theorem Try.structSt : ∃ d, Try.prog.underlying 29 = some d ∧ (match d with | .struct _ | .array _ _ => true | _ => false) = true := by
  have h := Try.structSt0
  cases hd : Try.prog.underlying 29 with
  | none => rw [hd] at h; cases h
  | some d => rw [hd] at h; exact ⟨d, rfl, by simpa using h⟩
theorem results_stB {fn : Func} {p q : Tmp} (h : fn.results = #[.cell p 29, .tmp q]) (tmps : Array Value) (w : World) (g : Nat) (t : TypeId) (D : CoD) (lv : Value) (fr : Nat × Nat)
    (hp : tmps.getD p undef = .pointer (some ⟨g, 0, none⟩)) (hg : w.heap[g]? = some (.cells (stC D lv) t fr)) : (results fn tmps).run Try.prog w = .ok (.tuple #[.agg (stC D lv), tmps.getD q undef]) w := by
  obtain ⟨d, hd1, hd2⟩ := Try.structSt
  have hp' : tmps[p]?.getD undef = .pointer (some ⟨g, 0, none⟩) := by simpa using hp
  have hl := run_loadVar_row w g t 29 (stC D lv) fr d hg hd1 (by cases d <;> first | rfl | (simp at hd2)) Try.sizeSt
  simp [results, h, hp', asAddr, hl]
theorem stC_one (D : CoD) (va : Option Addr) (vn vc : Nat) : (stC D (.slice va vn vc)).all (·.oneCell') = true := by simp [stC, Value.oneCell']
theorem wpl_storeS {ops : Array Oper} {rest : List Oper} {o : Oper} {a : Act} {w : World} {Q : Exit → Act → World → Prop} (hgd : o.guard = none) (x y : Operand) (ho : o.op = .store 29 x y)
    (g : Nat) (D : CoD) (va : Option Addr) (vn vc : Nat) (hx : a.eval x = .pointer (some ⟨g, 0, none⟩)) (hy : a.eval y = .agg (stC D (.slice va vn vc)))
    (t : TypeId) (D0 : CoD) (lv0 : Value) (hg : w.heap[g]? = some (.cells (stC D0 lv0) t (0, 0)))
    (h : wpList Try.prog ops Q rest (a.put o.dst undef) (w.setRow g (stC D (.slice va vn vc)))) : wpList Try.prog ops Q (o :: rest) a w :=
  wpList_store_row hgd _ x y ho g _ hx hy t _ hg Try.sizeSt rfl (stC_one D va vn vc) h
theorem eS_short (l r : List UInt8) (h : eS (some l) = some r) : r.length < l.length := by
  have e := (ent_only l r h).1
  have : 1 ≤ (enBy (eV (some l))).length := by unfold enBy intB; split <;> simp <;> omega
  have hl : l.length = (enBy (eV (some l))).length + r.length := by rw [← List.length_append, ← e]
  omega
theorem go_short (n : Nat) : ∀ (m : List UInt8) (acc : List En), m.length < n → getGo eV eS n (some m) acc = (none, none) := by
  induction n with
  | zero => intro m acc h; omega
  | succ n ih =>
    intro m acc h
    simp only [getGo]
    cases he : eS (some m) with
    | none => rfl
    | some r =>
      simp only [badO]
      exact ih r _ (by have := eS_short m r he; omega)
/-- What Read answers. -/
def RdP (l : List UInt8) (w : World) (e : Ending) (w' : World) : Prop :=
  ∃ D va vn vc, e = .returned (.tuple #[.agg (stC D (.slice va vn vc)), .bool (ldB 0 l)]) ∧ (ldB 0 l = true → stC D (.slice va vn vc) = stC (ldD 0 l) (.slice va vn vc) ∧ Ens w' (.slice va vn vc) (ldD 0 l).log) ∧ Below w.heap.size w w'
theorem ld_none (l : List UInt8) (h : (ldG l).2 = none) : ldB 0 l = false := by unfold ldB; rw [h]; rfl
theorem Rs.other {w wr : World} {R X S z i : Nat} {D : CoD} {lv : Value} {p : List UInt8 × Bool} {v u0 u1 u2 : Value} (h : Rs w wr R X S D lv p) (hz : wr.heap[z]? = some (.cells #[u0, u1, u2] 73 (0, 0))) (hl : lv.ownBlock ≠ some z) (hzw : w.heap.size ≤ z) : Rs w (wr.setCell ⟨z, i, none⟩ v) R X S D lv p := by
  obtain ⟨a, c, hX, hB⟩ := h.rd.rd
  have nX : X ≠ z := fun e => by rw [e, hz] at hX; cases hX
  have nS : S ≠ z := fun e => by have h1 := h.st; rw [e, hz] at h1; cases h1
  have nR : R ≠ z := fun e => by have h1 := h.res; rw [e, hz] at h1; cases h1
  exact ⟨h.rd.set nX hzw, (Below.heap_setCell _ _ _ _ nS).trans h.st, own_kept h.log fun q cs hq hh => Below.heap_setCell _ _ _ _ (fun e => by have e' : q = z := e; rw [e'] at hq; exact hl hq), (Below.heap_setCell _ _ _ _ nR).trans h.res, below_set h.bel hzw, h.pr, h.px, h.ps, h.ne⟩
/-- Behind an append to the log, ahead of the store. -/
structure Ra (w wr : World) (R X S : Nat) (D : CoD) (lv lv' : Value) (acc : List En) (p : List UInt8 × Bool) : Prop where
  rd : Rr w wr X p.1 p.2
  st : wr.heap[S]? = some (.cells (stC D lv) 29 (0, 0))
  log : wr.ownsRow w.heap.size 73 3 lv' acc.length (evs acc)
  res : wr.heap[R]? = some st0
  bel : Below w.heap.size w wr
  pr : w.heap.size ≤ R
  px : w.heap.size ≤ X
  ps : w.heap.size ≤ S
  ne : R ≠ S
theorem Ra.old {w wr : World} {R X S : Nat} {D : CoD} {lv lv' : Value} {acc : List En} {p : List UInt8 × Bool} (h : Ra w wr R X S D lv lv' acc p) : wr.cell? ⟨S, 6, none⟩ = some lv := by rw [cell_of_row _ _ _ _ _ _ h.st]; rfl
theorem Ra.fz {w wr : World} {R X S : Nat} {D : CoD} {lv lv' : Value} {acc : List En} {p : List UInt8 × Bool} (h : Ra w wr R X S D lv lv' acc p) : wr.frozen? ⟨S, 6, none⟩ = false := frozen_of_row _ _ _ _ _ h.st
theorem Rs.app {w wr w' : World} {R X S i : Nat} {D : CoD} {lva va7 : Option Addr} {lvc vc7 : Nat} {p : List UInt8 × Bool} {acc : List En} {t0 t1 : Int} {t2 : ByteArray} (h : Rs w wr R X S { D with log := acc } (.slice lva i lvc) p)
    (ho : w'.ownsRow w.heap.size 73 3 (.slice va7 (i + 1) vc7) (i + 1) (evs acc ++ [.int .i64 t0, .int .i64 t1, .string t2])) (hg : wr.grownBy w' (Value.slice lva i lvc).ownBlock) (hi : acc.length = i) :
    Ra w w' R X S { D with log := acc } (.slice lva i lvc) (.slice va7 (i + 1) vc7) (acc ++ [⟨t0, t1, t2⟩]) p := by
  have hlo := h.log
  have ht : ∀ q, (Value.slice lva i lvc).ownBlock = some q → ∃ cur, wr.heap[q]? = some (.cells cur 73 (0, 0)) := fun q hq => own_typed hlo hq
  obtain ⟨a, c, hX, hB⟩ := h.rd.rd
  have kept : ∀ (q : Nat) (cs : Array Value) (t : TypeId) (fr : Nat × Nat), wr.heap[q]? = some (.cells cs t fr) → t ≠ 73 → w'.heap[q]? = some (.cells cs t fr) := fun q cs t fr hq hne => (hg.block q (lt_of_block hq) fun e => by
    obtain ⟨cur, hc⟩ := ht q e.symm
    rw [hq] at hc; cases hc; exact hne rfl).trans hq
  have hb : Below w.heap.size w w' := h.bel.grown hg h.bel.size fun k hk => (World.ownsRow.lt hlo k hk).1
  exact ⟨⟨⟨a, c, kept _ _ _ _ hX (by decide), hB⟩, hb, h.px⟩, kept _ _ _ _ h.st (by decide), by rw [evs_snoc, List.length_append, hi]; exact ho, kept _ _ _ _ h.res (by decide), hb, h.pr, h.px, h.ps, h.ne⟩
theorem Ra.done {w wr : World} {R X S n : Nat} {D : CoD} {lv : Value} {va : Option Addr} {vc : Nat} {acc acc' : List En} {p : List UInt8 × Bool} (h : Ra w wr R X S { D with log := acc } lv (.slice va n vc) acc' p) : Rs w (wr.setCell ⟨S, 6, none⟩ (.slice va n vc)) R X S { D with log := acc' } (.slice va n vc) p := by
  obtain ⟨a, c, hX, hB⟩ := h.rd.rd
  refine ⟨h.rd.set (fun e => by rw [e, h.st] at hX; cases hX) h.ps, heap_setCell_same _ _ _ _ _ _ h.st, own_kept h.log fun q cs hq hh => Below.heap_setCell _ _ _ _ (fun e => by have e' : q = S := e; rw [e', h.st] at hh; cases hh), (Below.heap_setCell _ _ _ _ h.ne).trans h.res, below_set h.bel h.ps, h.pr, h.px, h.ps, h.ne⟩
def zD : CoD := { freshD 0 with vote := 0 }
theorem below_row {B : Nat} {a w : World} (h : Below B a w) {g : Nat} (hg : B ≤ g) (cs : Array Value) : Below B a (w.setRow g cs) :=
  ⟨h.os, h.tape, h.output, by simpa using h.size, fun k hk => (setRow_other _ _ _ _ (by omega)).trans (h.block k hk)⟩
theorem getR_none : getR eV eS none = (none, none) := rfl
theorem get_nonum (m : List UInt8) (h : (numR (some m)).2 = none ∨ 4096 < (numR (some m)).1) : (getR eV eS (some m)).2 = none := by
  have : (lenR 4096 (some m)).2 = none := by
    unfold lenR
    rcases h with h | h
    · split
      · rfl
      · exact h
    · rw [if_pos (.inl h)]
  unfold getR
  rw [this]; rfl
theorem get_num (m r : List UInt8) (h : (numR (some m)).2 = some r) (hn : ¬ 4096 < (numR (some m)).1) : getR eV eS (some m) = getGo eV eS (numR (some m)).1 (some r) [] := by
  by_cases hs : leftN (numR (some m)).2 < (numR (some m)).1
  · have hl : lenR 4096 (some m) = (0, none) := if_pos (.inr hs)
    unfold getR
    rw [hl]
    rw [h] at hs
    exact (go_short _ r [] hs).symm
  · have hl : lenR 4096 (some m) = numR (some m) := if_neg (fun e => e.elim hn hs)
    unfold getR
    rw [hl, h]
    rfl
theorem ld_eq (l : List UInt8) (y0 y1 y2 y3 : Int) (tv tx : ByteArray) (m acc : _) (m1 : List UInt8) (hy : y0 = intV (some (rs l 0).1) ∧ y1 = intV (some (rs l 1).1) ∧ y2 = intV (some (rs l 2).1) ∧ y3 = intV (some (rs l 3).1)) (htv : tv = ⟨(textV (some (rs l 4).1)).toArray⟩) (htx : tx = ⟨(textV (some (rt (rs l 4)).1)).toArray⟩) (hsm : textS (textS (nsS l 4)) = some m) (hg : ldG l = (some acc, some m1)) :
    ({ freshD 0 with term := y0, vote := y1, bi := y2, bt := y3, bv := tv, bx := tx, log := acc } : CoD) = ldD 0 l := by
  have hN : ∀ i, nsS l (i + 1) = intS (nsS l i) := fun _ => rfl
  have k4 : nsS l 4 ≠ none := fun e => by rw [e] at hsm; cases hsm
  have k3 : nsS l 3 ≠ none := fun e => k4 (by rw [hN, e]; rfl)
  have k2 : nsS l 2 ≠ none := fun e => k3 (by rw [hN, e]; rfl)
  have k1 : nsS l 1 ≠ none := fun e => k2 (by rw [hN, e]; rfl)
  have g : ∀ i, nsS l i ≠ none → nsS l i = some (rs l i).1 := fun i hi => by
    rcases rs_ns l i with ⟨h, -⟩ | ⟨h, -⟩
    · exact absurd h hi
    · exact h
  have k5 : textS (nsS l 4) ≠ none := fun e => by rw [e] at hsm; cases hsm
  have g5 : textS (nsS l 4) = some (rt (rs l 4)).1 := by
    rcases (rs_ns l 4).text with ⟨h, -⟩ | ⟨h, -⟩
    · exact absurd h k5
    · exact h
  have e0 : nsS l 0 = some (rs l 0).1 := rfl
  have dn : ldD 0 l = { freshD 0 with term := intV (nsS l 0), vote := intV (nsS l 1), bi := intV (nsS l 2), bt := intV (nsS l 3), bv := ldV l, bx := ldX l, log := (ldG l).1.getD [] } := rfl
  rw [dn, hg]
  unfold ldV ldX
  rw [g5, g 1 k1, g 2 k2, g 3 k3, g 4 k4, e0, hy.1, hy.2.1, hy.2.2.1, hy.2.2.2, htv, htx]
  rfl
set_option maxRecDepth 100000 in
set_option maxHeartbeats 8000000 in
theorem rread_any (v : Value) (l : List UInt8) (w : World) (hv : Bts w v l) :
    Calls Try.prog 9 #[v] w (RdP l w) := by
  obtain ⟨va, vc, rfl⟩ := hv.shape
  obtain ⟨w0, hw0⟩ : ∃ w0, w0 = w.alloc st0 := ⟨_, rfl⟩
  have hs0 : w0.heap.size = w.heap.size + 1 := by rw [hw0]; simp
  obtain ⟨w1, hw1⟩ : ∃ w1, w1 = w0.alloc (.cells #[.slice va l.length vc, .bool false] 97) := ⟨_, rfl⟩
  have b0 : Below w.heap.size w w0 := by rw [hw0]; exact (Below.refl _ _).alloc (Nat.le_refl _) _
  have b1 : Below w0.heap.size w0 w1 := by rw [hw1]; exact (Below.refl _ _).alloc (Nat.le_refl _) _
  have B1 := hid (b0.trans (b1.mono b0.size))
  have hR : w1.heap[w.heap.size]? = some st0 := (b1.block _ (by omega)).trans (by rw [hw0]; exact heap_alloc_new _ _)
  have hX : Rr w w1 w0.heap.size l false := ⟨⟨va, vc, by rw [hw1]; exact heap_alloc_new _ _, fun W hW => hv.below hW⟩, b0.trans (b1.mono b0.size), b0.size⟩
  rw [hs0] at hX
  have HW0 := hid hw0
  have HW1 := hid hw1
  unfold st0 at HW0
  clear hw0 hw1 b0 b1 hv hs0
  go_enter Try.func9, Try.ntmps9
  go_upto_region 2 with fail
  rw [← HW0.out, ← HW1.out]
  obtain ⟨X, hXe⟩ : ∃ X, X = w.heap.size + 1 := ⟨_, rfl⟩
  obtain ⟨R, hRe⟩ : ∃ R, R = w.heap.size := ⟨_, rfl⟩
  have HP : Hid (w.heap.size ≤ R ∧ w.heap.size ≤ X ∧ R ≠ X) := hid ⟨by omega, by omega, by omega⟩
  rw [← hXe] at hX
  rw [← hRe] at hR
  rw [← hXe, ← hRe]
  clear HW0 HW1 hXe hRe
  have Q0 : Hid (Rr w w1 X (rs l 0).1 (rs l 0).2) := hid hX
  have R0 := hid hR
  clear hX hR
  go_upto_region 3 with (first
    | (go_at_call 41; refine (rrInt_any X _ _ _ _ Q0.out).mono ?_; rintro e w2 ⟨rfl, hr2, hg2⟩; have Q1 : Hid (Rr w w2 X (rs l 1).1 (rs l 1).2) := hid hr2; have G1 := hid hg2; clear hr2 hg2 Q0)
    | (go_at_call 41; refine (rrInt_any X _ _ _ _ Q1.out).mono ?_; rintro e w3 ⟨rfl, hr3, hg3⟩; have Q2 : Hid (Rr w w3 X (rs l 2).1 (rs l 2).2) := hid hr3; have G2 := hid (grown_trans G1.out hg3); clear hr3 hg3 Q1)
    | (go_at_call 41; refine (rrInt_any X _ _ _ _ Q2.out).mono ?_; rintro e w4 ⟨rfl, hr4, hg4⟩; have Q3 : Hid (Rr w w4 X (rs l 3).1 (rs l 3).2) := hid hr4; have G3 := hid (grown_trans G2.out hg4); clear hr4 hg4 Q2)
    | (go_at_call 41; refine (rrInt_any X _ _ _ _ Q3.out).mono ?_; rintro e w5 ⟨rfl, hr5, hg5⟩; have Q4 : Hid (Rr w w5 X (rs l 4).1 (rs l 4).2) := hid hr5; have G4 := hid (grown_trans G3.out hg5); clear hr5 hg5 Q3))
  obtain ⟨y0, hy0⟩ : ∃ y, y = intV (some (rs l 0).1) := ⟨_, rfl⟩
  obtain ⟨y1, hy1⟩ : ∃ y, y = intV (some (rs l 1).1) := ⟨_, rfl⟩
  obtain ⟨y2, hy2⟩ : ∃ y, y = intV (some (rs l 2).1) := ⟨_, rfl⟩
  obtain ⟨y3, hy3⟩ : ∃ y, y = intV (some (rs l 3).1) := ⟨_, rfl⟩
  rw [← hy0, ← hy1, ← hy2, ← hy3]
  have HY := hid (And.intro hy0 (And.intro hy1 (And.intro hy2 hy3)))
  clear hy0 hy1 hy2 hy3
  have b6 : Below w5.heap.size w5 (w5.alloc (.cells #[.int .i64 y0, .int .i64 y1, .int .i64 y2, .int .i64 y3, .string ⟨#[]⟩, .string ⟨#[]⟩, .slice none 0 0] 29)) := (Below.refl _ _).alloc (Nat.le_refl _) _
  have hS6 : (w5.alloc (.cells #[.int .i64 y0, .int .i64 y1, .int .i64 y2, .int .i64 y3, .string ⟨#[]⟩, .string ⟨#[]⟩, .slice none 0 0] 29)).heap[w5.heap.size]? = _ := heap_alloc_new _ _
  obtain ⟨D0, hD0⟩ : ∃ D0 : CoD, D0 = { freshD 0 with term := y0, vote := y1, bi := y2, bt := y3 } := ⟨_, rfl⟩
  have B5 : Hid (Below w.heap.size w w5) := hid (B1.out.grown G4.out B1.out.size (fun k hk => by cases hk; exact HP.out.2.1))
  have hR5 : w5.heap[R]? = some st0 := (G4.out.block R (lt_of_block R0.out) (fun e => HP.out.2.2 (Option.some.inj e))).trans R0.out
  have S6 : Hid (Rs w (w5.alloc (.cells #[.int .i64 y0, .int .i64 y1, .int .i64 y2, .int .i64 y3, .string ⟨#[]⟩, .string ⟨#[]⟩, .slice none 0 0] 29)) R X w5.heap.size D0 (.slice none 0 0) (rs l 4)) := hid
    ⟨Q4.out.below b6, by rw [hD0]; exact hS6, by rw [hD0]; exact World.ownsRow_nil _ _ _ _, (b6.block R (lt_of_block hR5)).trans hR5, B5.out.trans (b6.mono B5.out.size), HP.out.1, HP.out.2.1, B5.out.size, by have := lt_of_block hR5; omega⟩
  clear b6 hS6 hR5 Q4 G1 G2 G3 G4 R0 B1
  generalize w5.alloc (.cells #[.int .i64 y0, .int .i64 y1, .int .i64 y2, .int .i64 y3, .string ⟨#[]⟩, .string ⟨#[]⟩, .slice none 0 0] 29) = w6 at S6 ⊢
  obtain ⟨S, hSe⟩ : ∃ S, S = w5.heap.size := ⟨_, rfl⟩
  rw [← hSe] at S6
  rw [← hSe]
  have HD0 := hid hD0
  clear hSe hD0 B5
  have HTX := hid (rrText_any X (rs l 4).1 (rs l 4).2 w w6 S6.out.rd)
  go_upto_region 4 with (go_at_call 42; refine HTX.out.mono ?_; rintro e w7 ⟨rfl, hr7, hg7⟩; have S7 : Hid (Rs w w7 R X S D0 (.slice none 0 0) (rt (rs l 4))) := hid (S6.out.read hr7 hg7); obtain ⟨u4, k4⟩ : ∃ u, w7.cell? ⟨S, 4, none⟩ = some u := ⟨_, S7.out.cell 4⟩; have f4 := S7.out.fz 4; clear hr7 hg7 HTX)
  obtain ⟨tv, htv⟩ : ∃ tv : ByteArray, tv = ⟨(textV (some (rs l 4).1)).toArray⟩ := ⟨_, rfl⟩
  rw [← htv]
  have S8 := hid (S7.out.set (D' := { D0 with bv := tv }) 4 (.string tv) rfl rfl)
  generalize w7.setCell ⟨S, 4, none⟩ (.string tv) = w8 at S8 ⊢
  have HTV := hid htv
  clear k4 f4 S7 S6 htv
  have HTX := hid (rrText_any X (rt (rs l 4)).1 (rt (rs l 4)).2 w w8 S8.out.rd)
  go_upto_region 5 with (go_at_call 42; refine HTX.out.mono ?_; rintro e w9 ⟨rfl, hr9, hg9⟩; have S9 : Hid (Rs w w9 R X S { D0 with bv := tv } (.slice none 0 0) (rt (rt (rs l 4)))) := hid (S8.out.read hr9 hg9); obtain ⟨u5, k5⟩ : ∃ u, w9.cell? ⟨S, 5, none⟩ = some u := ⟨_, S9.out.cell 5⟩; have f5 := S9.out.fz 5; clear hr9 hg9 HTX)
  obtain ⟨tx, htx⟩ : ∃ tx : ByteArray, tx = ⟨(textV (some (rt (rs l 4)).1)).toArray⟩ := ⟨_, rfl⟩
  rw [← htx]
  have S10 := hid (S9.out.set (D' := { D0 with bv := tv, bx := tx }) 5 (.string tx) rfl rfl)
  generalize w9.setCell ⟨S, 5, none⟩ (.string tx) = w10 at S10 ⊢
  have HTXX := hid htx
  clear k5 f5 S9 S8 htx
  obtain ⟨p6, hp6⟩ : ∃ p6, p6 = rt (rt (rs l 4)) := ⟨_, rfl⟩
  rw [← hp6] at S10
  have HTG : Hid (Tog p6 (textS (textS (nsS l 4)))) := hid (by rw [hp6]; exact (rs_ns l 4).text.text)
  clear hp6
  obtain ⟨D6, hD6⟩ : ∃ D6 : CoD, D6 = { D0 with bv := tv, bx := tx } := ⟨_, rfl⟩
  rw [← hD6] at S10
  have HD6 := hid hD6
  clear hD6
  obtain ⟨m, bd⟩ := p6
  obtain ⟨a6, c6, hX6, hBW6⟩ := S10.out.rd.rd
  have hB6 := hBW6 w10 S10.out.bel
  have HB11 := hid hBW6
  have HX6 := hid hX6
  have x0 : w10.cell? ⟨X, 0, none⟩ = some (.slice a6 m.length c6) := by rw [cell_of_row _ _ _ _ _ _ hX6]; rfl
  have HTN := hid (takeNum_any _ m w10 hB6)
  have HLG : Hid (ldG l = getR eV eS (textS (textS (nsS l 4)))) := hid rfl
  clear hX6 hB6 hBW6
  go_upto_region 6 with (go_at_call 43; refine HTN.out.mono ?_; rintro e w11 ⟨rfl, hb11⟩; have S11 := hid (S10.out.below hb11); have HX11 := hid ((hb11.block X (lt_of_block HX6.out)).trans HX6.out); clear hb11 HTN)
  clear x0 HX6 S10
  have x1 : w11.cell? ⟨X, 1, none⟩ = some (.bool bd) := by rw [cell_of_row _ _ _ _ _ _ HX11.out]; rfl
  have hR11 : w11.heap[R]? = some (.cells (stC zD (.slice none 0 0)) 29 (0, 0)) := S11.out.res
  have HTE := hid (takeN_eq m)
  cases bd with
  | true =>
    have HLB : Hid (ldB 0 l = false) := hid (ld_none l (by
      rcases HTG.out with ⟨h, -⟩ | ⟨-, h⟩
      · rw [HLG.out, h, getR_none]
      · cases h))
    go_wp2_with (refine wpl_storeS rfl _ _ rfl R zD none 0 0 rfl rfl _ _ _ hR11 ?_)
    (try simp only [Exit.inBlock, Exit.then])
    refine bodyPost_ret (results_stB rfl _ _ R _ zD _ _ rfl (setRow_heap _ _ _ _ _ _ hR11)) rfl ?_
    exact ⟨zD, none, 0, 0, by rw [HLB.out]; rfl, (fun h => by rw [HLB.out] at h; cases h), below_row S11.out.bel S11.out.pr _⟩
  | false =>
    have HSM : Hid (textS (textS (nsS l 4)) = some m) := hid (by
      rcases HTG.out with ⟨-, h⟩ | ⟨h, -⟩
      · cases h
      · exact h)
    cases hnr : (numR (some m)).2 with
    | none =>
      have HLB : Hid (ldB 0 l = false) := hid (ld_none l (by rw [HLG.out, HSM.out]; exact get_nonum m (.inl hnr)))
      have hk : (takeN m).2 = 0 := by rw [HTE.out, hnr]; rfl
      rw [hk]
      clear hk hnr
      go_wp2_with (refine wpl_storeS rfl _ _ rfl R zD none 0 0 rfl rfl _ _ _ hR11 ?_)
      (try simp only [Exit.inBlock, Exit.then])
      refine bodyPost_ret (results_stB rfl _ _ R _ zD _ _ rfl (setRow_heap _ _ _ _ _ _ hR11)) rfl ?_
      exact ⟨zD, none, 0, 0, by rw [HLB.out]; rfl, (fun h => by rw [HLB.out] at h; cases h), below_row S11.out.bel S11.out.pr _⟩
    | some r =>
      have hlr := numR_left m r hnr
      obtain ⟨k, hk⟩ : ∃ k : Nat, k = (takeN m).2 := ⟨_, rfl⟩
      have hkk : k = m.length - r.length := by rw [hk, HTE.out, hnr]; rfl
      obtain ⟨n, hn⟩ : ∃ n : Nat, n = (takeN m).1 := ⟨_, rfl⟩
      have hnn : n = (numR (some m)).1 := by rw [hn, HTE.out]
      rw [← hk, ← hn]
      clear hk hn
      have hk0 : ((k : Int) == 0) = false := by simp; omega
      by_cases h4096 : (4096 : Int) < (n : Int)
      · have HLB : Hid (ldB 0 l = false) := hid (ld_none l (by rw [HLG.out, HSM.out]; exact get_nonum m (.inr (by omega))))
        clear hnr hnn hkk hlr
        go_wp2_with (refine wpl_storeS rfl _ _ rfl R zD none 0 0 rfl rfl _ _ _ hR11 ?_)
        (try simp only [Exit.inBlock, Exit.then])
        refine bodyPost_ret (results_stB rfl _ _ R _ zD _ _ rfl (setRow_heap _ _ _ _ _ _ hR11)) rfl ?_
        exact ⟨zD, none, 0, 0, by rw [HLB.out]; rfl, (fun h => by rw [HLB.out] at h; cases h), below_row S11.out.bel S11.out.pr _⟩
      · have HGG : Hid (ldG l = getGo eV eS n (some r) []) := hid (by rw [HLG.out, HSM.out, get_num m r hnr (by omega), hnn])
        obtain ⟨a', hsl, hB'⟩ := HB11.out.from k (by omega) r (by rw [hkk]; exact hlr.2)
        have HBR := hid hB'
        clear hB' hnr hnn hkk hlr
        have x0 : w11.cell? ⟨X, 0, none⟩ = some (.slice a6 m.length c6) := by rw [cell_of_row _ _ _ _ _ _ HX11.out]; rfl
        have fx : w11.frozen? ⟨X, 0, none⟩ = false := frozen_of_row _ _ _ _ _ HX11.out
        have S12 : Hid (Rs w (w11.setCell ⟨X, 0, none⟩ (.slice a' r.length (c6 - k))) R X S D6 (.slice none 0 0) (r, false)) := hid (S11.out.read (p' := (r, false)) ⟨⟨a', c6 - k, heap_setCell_same _ _ _ _ _ _ HX11.out, HBR.out⟩, below_set S11.out.bel S11.out.px, S11.out.px⟩ (grown_set _ _ _ _))
        go_upto_region 9 with fail
        generalize w11.setCell ⟨X, 0, none⟩ (.slice a' r.length (c6 - k)) = w12 at S12 ⊢
        have HL6 : Hid (D6.log = []) := hid (by rw [HD6.out, HD0.out]; rfl)
        clear x0 fx x1 hsl hR11 HX11 HB11 HBR S11 HTE
        go_wp2_with fail
        go_loopw [8, 9] (fun iv _ wr => ∃ (i : Nat) (p : List UInt8 × Bool) (acc : List En) (va : Option Addr) (vc : Nat), iv = .int .u64 i ∧ i ≤ n ∧ acc.length = i ∧ Rs w wr R X S { D6 with log := acc } (.slice va i vc) p ∧ ((p.2 = false ∧ ldG l = getGo eV eS (n - i) (some p.1) acc) ∨ (p.2 = true ∧ (ldG l).2 = none))) (fun iv _ _ => n - (intOf iv).toNat)
        case atStart => exact ⟨0, (r, false), [], none, 0, rfl, Nat.zero_le _, rfl, (by have e : ({ D6 with log := [] } : CoD) = D6 := (by rw [← HL6.out]); rw [e]; exact S12.out), .inl ⟨rfl, HGG.out⟩⟩
        case round =>
          obtain ⟨i, ⟨m1, b1⟩, acc, lva, lvc, rfl, hin, hacc, hrs, hgo⟩ := hrel
          have RS := hid hrs
          have HGO := hid hgo
          have HAC := hid hacc
          obtain ⟨a1, c1, hX1, -⟩ := hrs.rd.rd
          have yb : wr.cell? ⟨X, 1, none⟩ = some (.bool b1) := by rw [cell_of_row _ _ _ _ _ _ hX1]; rfl
          clear hrs hgo hacc hX1 S12
          have hnb : (n : Int) ≤ 4096 := by omega
          have y1' : wr.drew.cell? ⟨X, 1, none⟩ = some (.bool b1) := yb
          by_cases hlt : (i : Int) < (n : Int)
          · cases b1 with
            | true =>
              have HLB : Hid (ldB 0 l = false) := hid (by
                rcases HGO.out with ⟨h, -⟩ | ⟨-, h⟩
                · cases h
                · exact ld_none l h)
              obtain ⟨Dn, hDn⟩ : ∃ Dn : CoD, Dn = { D6 with log := acc } := ⟨_, rfl⟩
              rw [← hDn] at RS
              clear hDn
              go_upto_region 15 with fail
              obtain ⟨a1, c1, hX1, -⟩ := RS.out.rd.rd
              have q1 := y1'
              have q0 : wr.drew.cell? ⟨X, 0, none⟩ = some (.slice a1 m1.length c1) := by show wr.cell? _ = _; rw [cell_of_row _ _ _ _ _ _ hX1]; rfl
              have qS : wr.drew.rangeAt S 0 (stC Dn (.slice lva i lvc)).toList := fun j u hj => by
                show wr.cell? _ = _
                rw [Nat.zero_add, RS.out.cell j]; simpa using hj
              obtain ⟨dS, hdS1, hd0⟩ := Try.structSt
              have hdS2 : dS.isRow = true := by cases dS <;> first | rfl | (simp at hd0)
              clear hd0
              have HRX : Hid (wr.drew.heap[R]? = some (.cells (stC zD (.slice none 0 0)) 29 (0, 0))) := hid RS.out.res
              refine wp_region_held_drew (S := fun Y => Y.cell? ⟨X, 1, none⟩ = some (.bool true) ∧ Y.cell? ⟨X, 0, none⟩ = some (.slice a1 m1.length c1) ∧ Y.rangeAt S 0 (stC Dn (.slice lva i lvc)).toList) (by kernel_rfl) ⟨q1, q0, qS⟩ (fun hHeld => ?_)
              refine wpAnyH_take (i := 0) (v := .agg (stC Dn (.slice lva i lvc)).toList.toArray) rfl (by kernel_rfl) (by kernel_rfl) (by kernel_rfl) (fun _ _ _ h => h) (yieldsIf_load_mid rfl _ _ rfl S 0 rfl (stC Dn (.slice lva i lvc)).toList dS (fun Y hY => hY.2.2) hdS1 hdS2 Try.sizeSt) (by assumption) ?_
              (try simp only [Act.put, List.setIfInBounds_toArray, List.set_cons_zero, List.set_cons_succ, List.getElem_toArray, List.getElem_cons_succ, List.getElem_cons_zero])
              have HNX : Hid (X ≠ R ∧ S ≠ R) := hid ⟨(fun e => by rw [e, RS.out.res] at hX1; cases hX1), fun e => RS.out.ne e.symm⟩
              refine wpAnyH_take (i := 1) (v := ?fv1) rfl (by kernel_rfl) (by kernel_rfl) (by kernel_rfl) (fun _ _ _ h => h) (Or.inl ⟨by rfl, ?fy1⟩) (by assumption) ?fr1
              case fy1 => (intro w hSw; (try dsimp only at hSw); go_simp; try with_reducible rfl)
              (try simp only [Act.put, List.setIfInBounds_toArray, List.set_cons_zero, List.set_cons_succ, List.getElem_toArray, List.getElem_cons_succ, List.getElem_cons_zero])
              refine wpAnyH_take (i := 2) (v := ?fv2) rfl (by kernel_rfl) (by kernel_rfl) (by kernel_rfl) (fun _ _ _ h => h) (Or.inl ⟨by rfl, ?fy2⟩) (by assumption) ?fr2
              case fy2 => (intro w hSw; (try dsimp only at hSw); go_simp; try with_reducible rfl)
              (try simp only [Act.put, List.setIfInBounds_toArray, List.set_cons_zero, List.set_cons_succ, List.getElem_toArray, List.getElem_cons_succ, List.getElem_cons_zero])
              refine wpAnyH_take (i := 3) (v := ?fv3) rfl (by kernel_rfl) (by kernel_rfl) (by kernel_rfl) (fun _ _ _ h => h) (Or.inl ⟨by rfl, ?fy3⟩) (by assumption) ?fr3
              case fy3 => (intro w hSw; (try dsimp only at hSw); go_simp; try with_reducible rfl)
              (try simp only [Act.put, List.setIfInBounds_toArray, List.set_cons_zero, List.set_cons_succ, List.getElem_toArray, List.getElem_cons_succ, List.getElem_cons_zero])
              refine wpAnyH_take (i := 4) (v := ?fv4) rfl (by kernel_rfl) (by kernel_rfl) (by kernel_rfl) (fun _ _ _ h => h) (Or.inl ⟨by rfl, ?fy4⟩) (by assumption) ?fr4
              case fy4 => (intro w hSw; (try dsimp only at hSw); go_simp; try with_reducible rfl)
              (try simp only [Act.put, List.setIfInBounds_toArray, List.set_cons_zero, List.set_cons_succ, List.getElem_toArray, List.getElem_cons_succ, List.getElem_cons_zero])
              refine wpAnyH_take (i := 5) (v := ?fv5) rfl (by kernel_rfl) (by kernel_rfl) (by kernel_rfl) (fun _ _ _ h => h) (Or.inl ⟨by rfl, ?fy5⟩) (by assumption) ?fr5
              case fy5 => (intro w hSw; (try dsimp only at hSw); go_simp; try with_reducible rfl)
              (try simp only [Act.put, List.setIfInBounds_toArray, List.set_cons_zero, List.set_cons_succ, List.getElem_toArray, List.getElem_cons_succ, List.getElem_cons_zero])
              refine wpAnyH_take (i := 6) (v := ?fv6) rfl (by kernel_rfl) (by kernel_rfl) (by kernel_rfl) (fun _ _ _ h => h) (Or.inl ⟨by rfl, ?fy6⟩) (by assumption) ?fr6
              case fy6 => (intro w hSw; (try dsimp only at hSw); go_simp; try with_reducible rfl)
              (try simp only [Act.put, List.setIfInBounds_toArray, List.set_cons_zero, List.set_cons_succ, List.getElem_toArray, List.getElem_cons_succ, List.getElem_cons_zero])
              refine wpAnyH_take (i := 7) (v := undef) rfl (by kernel_rfl) (by kernel_rfl) (by kernel_rfl) (fun _ _ _ h => h) (Or.inr ⟨by rfl, rfl⟩) (by assumption) ?_
              (try simp only [Act.put, List.setIfInBounds_toArray, List.set_cons_zero, List.set_cons_succ, List.getElem_toArray, List.getElem_cons_succ, List.getElem_cons_zero])
              refine wpAnyH_take (i := 8) (v := undef) rfl (by kernel_rfl) (by kernel_rfl) (by kernel_rfl) (fun _ _ _ h => h) (Or.inr ⟨by rfl, rfl⟩) (by assumption) ?_
              (try simp only [Act.put, List.setIfInBounds_toArray, List.set_cons_zero, List.set_cons_succ, List.getElem_toArray, List.getElem_cons_succ, List.getElem_cons_zero])
              refine wpAnyH_take (i := 9) (v := undef) rfl (by kernel_rfl) (by kernel_rfl) (by kernel_rfl) (fun _ _ _ h => h) (Or.inr ⟨by rfl, rfl⟩) (by assumption) ?_
              (try simp only [Act.put, List.setIfInBounds_toArray, List.set_cons_zero, List.set_cons_succ, List.getElem_toArray, List.getElem_cons_succ, List.getElem_cons_zero])
              refine wpAnyH_take (i := 10) (v := undef) rfl (by kernel_rfl) (by kernel_rfl) (by kernel_rfl) (fun _ _ _ h => h) (Or.inr ⟨by rfl, rfl⟩) (by assumption) ?_
              (try simp only [Act.put, List.setIfInBounds_toArray, List.set_cons_zero, List.set_cons_succ, List.getElem_toArray, List.getElem_cons_succ, List.getElem_cons_zero])
              refine wpAnyH_take (i := 11) (v := undef) rfl (by kernel_rfl) (by kernel_rfl) (by kernel_rfl) (fun _ _ _ h => h) (Or.inr ⟨by rfl, rfl⟩) (by assumption) ?_
              (try simp only [Act.put, List.setIfInBounds_toArray, List.set_cons_zero, List.set_cons_succ, List.getElem_toArray, List.getElem_cons_succ, List.getElem_cons_zero])
              refine wpAnyH_take (i := 12) (v := undef) rfl (by kernel_rfl) (by kernel_rfl) (by kernel_rfl) (fun _ _ _ h => h) (Or.inr ⟨by rfl, rfl⟩) (by assumption) ?_
              (try simp only [Act.put, List.setIfInBounds_toArray, List.set_cons_zero, List.set_cons_succ, List.getElem_toArray, List.getElem_cons_succ, List.getElem_cons_zero])
              refine wpAnyH_take (i := 13) (v := ?fv13) rfl (by kernel_rfl) (by kernel_rfl) (by kernel_rfl) (fun _ _ _ h => h) (Or.inl ⟨by rfl, ?fy13⟩) (by assumption) ?fr13
              case fy13 => (intro w hSw; (try dsimp only at hSw); go_simp; try with_reducible rfl)
              (try simp only [Act.put, List.setIfInBounds_toArray, List.set_cons_zero, List.set_cons_succ, List.getElem_toArray, List.getElem_cons_succ, List.getElem_cons_zero])
              refine wpAnyH_take (i := 14) (v := ?fv14) rfl (by kernel_rfl) (by kernel_rfl) (by kernel_rfl) (fun _ _ _ h => h) (Or.inl ⟨by rfl, ?fy14⟩) (by assumption) ?fr14
              case fy14 => (intro w hSw; (try dsimp only at hSw); go_simp; try with_reducible rfl)
              (try simp only [Act.put, List.setIfInBounds_toArray, List.set_cons_zero, List.set_cons_succ, List.getElem_toArray, List.getElem_cons_succ, List.getElem_cons_zero])
              refine wpAnyH_take (i := 15) (v := undef) rfl (by kernel_rfl) (by kernel_rfl) (by kernel_rfl) (fun _ _ _ h => h) (Or.inr ⟨by rfl, rfl⟩) (by assumption) ?_
              (try simp only [Act.put, List.setIfInBounds_toArray, List.set_cons_zero, List.set_cons_succ, List.getElem_toArray, List.getElem_cons_succ, List.getElem_cons_zero])
              refine wpAnyH_take (i := 16) (v := undef) rfl (by kernel_rfl) (by kernel_rfl) (by kernel_rfl) (fun _ _ _ h => h) (Or.inr ⟨by rfl, rfl⟩) (by assumption) ?_
              (try simp only [Act.put, List.setIfInBounds_toArray, List.set_cons_zero, List.set_cons_succ, List.getElem_toArray, List.getElem_cons_succ, List.getElem_cons_zero])
              refine wpAnyH_take (i := 17) (v := ?fv17) rfl (by kernel_rfl) (by kernel_rfl) (by kernel_rfl) (fun _ _ _ h => h) (Or.inl ⟨by rfl, ?fy17⟩) (by assumption) ?fr17
              case fy17 => (intro w hSw; (try dsimp only at hSw); go_simp; try with_reducible rfl)
              (try simp only [Act.put, List.setIfInBounds_toArray, List.set_cons_zero, List.set_cons_succ, List.getElem_toArray, List.getElem_cons_succ, List.getElem_cons_zero])
              refine wpAnyH_ready (rs := [18]) (by kernel_rfl) (by simp) ?_
              refine AllReadyH.cons rfl (fun K hK => ?_) AllReadyH.nil
              rw [if_pos (by rfl)]
              refine wp_store_row _ _ _ rfl R (stC Dn (.slice lva i lvc)) rfl rfl _ _ HRX.out Try.sizeSt rfl (stC_one _ _ _ _) ?_
              refine hK.out _ _ ⟨(cell_setRow_other _ _ _ _ HNX.out.1).trans hHeld.1, (cell_setRow_other _ _ _ _ HNX.out.1).trans hHeld.2.1, fun j u hj => (cell_setRow_other _ _ _ _ HNX.out.2).trans (hHeld.2.2 j u hj)⟩ (fun hHeld => ?_)
              clear hK K
              (try simp only [Act.put, List.setIfInBounds_toArray, List.set_cons_zero, List.set_cons_succ, List.getElem_toArray, List.getElem_cons_succ, List.getElem_cons_zero])
              refine wpAnyH_take (i := 19) (v := ?gv19) rfl (by kernel_rfl) (by kernel_rfl) (by kernel_rfl) (fun _ _ _ h => h) (Or.inl ⟨by rfl, ?gy19⟩) (by assumption) ?gr19
              case gy19 => (intro w hSw; (try dsimp only at hSw); go_simp; try with_reducible rfl)
              (try simp only [Act.put, List.setIfInBounds_toArray, List.set_cons_zero, List.set_cons_succ, List.getElem_toArray, List.getElem_cons_succ, List.getElem_cons_zero])
              refine wpAnyH_done (by kernel_rfl) ?_ _
              go_wp2_with fail
              (try simp only [Exit.inBlock, Exit.then])
              refine bodyPost_ret (results_stB rfl _ _ R _ Dn _ _ rfl (setRow_heap _ _ _ _ _ _ HRX.out)) rfl ?_
              exact ⟨Dn, lva, i, lvc, by rw [HLB.out]; rfl, (fun h => by rw [HLB.out] at h; cases h), below_row (RS.out.bel.drew) RS.out.pr _⟩
            | false =>
              have HG1 : Hid (ldG l = getGo eV eS (n - i) (some m1) acc) := hid (by
                rcases HGO.out with ⟨-, h⟩ | ⟨h, -⟩
                · exact h
                · cases h)
              have HSU := hid (HG1.out.trans (getGo_succ eV eS n i (by omega) (some m1) acc))
              clear HGO
              have T0 : Hid (Tog (m1, false) (some m1)) := hid (.inr ⟨rfl, rfl⟩)
              go_upto_region 13 with (first
                | (go_at_call 41; refine (rrInt_any X _ _ _ _ RS.out.rd).mono ?_; rintro e z1 ⟨rfl, hr1, hg1⟩; have RS1 : Hid (Rs w z1 R X S { D6 with log := acc } (.slice lva i lvc) (nxL m1 (intS (some m1)), false || (intS (some m1)).isNone)) := hid (RS.out.read hr1 hg1); clear hr1 hg1 RS)
                | (go_at_call 41; refine (rrInt_any X _ _ _ _ RS1.out.rd).mono ?_; rintro e z2 ⟨rfl, hr2, hg2⟩; have RS2 := hid (RS1.out.read (p' := (nxL (nxL m1 (intS (some m1))) (intS (some (nxL m1 (intS (some m1))))), (false || (intS (some m1)).isNone) || (intS (some (nxL m1 (intS (some m1))))).isNone)) hr2 hg2); clear hr2 hg2 RS1))
              obtain ⟨t0, ht0⟩ : ∃ t, t = intV (some m1) := ⟨_, rfl⟩
              obtain ⟨t1, ht1⟩ : ∃ t, t = intV (some (nxL m1 (intS (some m1)))) := ⟨_, rfl⟩
              rw [← ht0, ← ht1]
              have HT01 := hid (And.intro ht0 ht1)
              clear ht0 ht1
              obtain ⟨p2, hp2⟩ : ∃ p2 : List UInt8 × Bool, p2 = (nxL (nxL m1 (intS (some m1))) (intS (some (nxL m1 (intS (some m1))))), (false || (intS (some m1)).isNone) || (intS (some (nxL m1 (intS (some m1))))).isNone) := ⟨_, rfl⟩
              rw [← hp2] at RS2
              have T2 : Hid (Tog p2 (intS (intS (some m1)))) := hid (by rw [hp2]; exact T0.out.int.int)
              have HP2 := hid hp2
              clear hp2
              have b3 : Below z2.heap.size z2 (z2.alloc (.cells #[.int .i64 t0, .int .i64 t1, .string ⟨#[]⟩] 73)) := (Below.refl _ _).alloc (Nat.le_refl _) _
              have hE3 : (z2.alloc (.cells #[.int .i64 t0, .int .i64 t1, .string ⟨#[]⟩] 73)).heap[z2.heap.size]? = some (.cells #[.int .i64 t0, .int .i64 t1, .string ⟨#[]⟩] 73 (0, 0)) := heap_alloc_new _ _
              have RS3 := hid (RS2.out.below b3)
              have HLE : Hid ((Value.slice lva i lvc).ownBlock ≠ some z2.heap.size ∧ w.heap.size ≤ z2.heap.size) := hid ⟨fun e => by have := (World.ownsRow.lt RS2.out.log _ e).2; omega, RS2.out.bel.size⟩
              generalize z2.alloc (.cells #[.int .i64 t0, .int .i64 t1, .string ⟨#[]⟩] 73) = z3 at RS3 hE3 ⊢
              obtain ⟨E, hEe⟩ : ∃ E, E = z2.heap.size := ⟨_, rfl⟩
              rw [← hEe] at hE3 HLE
              rw [← hEe]
              have HE3 := hid hE3
              clear hEe b3 hE3 RS2
              have HTX := hid (rrText_any X p2.1 p2.2 w z3 RS3.out.rd)
              go_upto_region 14 with (go_at_call 42; refine HTX.out.mono ?_; rintro e z4 ⟨rfl, hr4, hg4⟩; have RS4 := hid (RS3.out.read (p' := rt p2) hr4 hg4); have hE4 : z4.heap[E]? = some (.cells #[.int .i64 t0, .int .i64 t1, .string ⟨#[]⟩] 73 (0, 0)) := (hg4.block E (lt_of_block HE3.out) (fun e => by obtain ⟨aa, cc, hxx, -⟩ := RS3.out.rd.rd; rw [← Option.some.inj e, HE3.out] at hxx; cases hxx)).trans HE3.out; have g2 : z4.cell? ⟨E, 2, none⟩ = some (.string ⟨#[]⟩) := (by rw [cell_of_row _ _ _ _ _ _ hE4]; rfl); have fg2 : z4.frozen? ⟨E, 2, none⟩ = false := frozen_of_row _ _ _ _ _ hE4; have HE4 := hid hE4; clear hr4 hg4 HTX hE4)
              obtain ⟨t2, ht2⟩ : ∃ t : ByteArray, t = ⟨(textV (some p2.1)).toArray⟩ := ⟨_, rfl⟩
              rw [← ht2]
              have HT2 := hid ht2
              clear ht2 RS3 HE3
              have RS5 := hid (RS4.out.other (i := 2) (v := .string t2) HE4.out HLE.out.1 HLE.out.2)
              have HE5 : Hid ((z4.setCell ⟨E, 2, none⟩ (.string t2)).heap[E]? = some (.cells #[.int .i64 t0, .int .i64 t1, .string t2] 73 (0, 0))) := hid (heap_setCell_same _ _ _ _ _ _ HE4.out)
              generalize z4.setCell ⟨E, 2, none⟩ (.string t2) = z5 at RS5 HE5 ⊢
              clear g2 fg2 RS4 HE4
              have hE5 := HE5.out
              have s6 : z5.cell? ⟨S, 6, none⟩ = some (.slice lva i lvc) := RS5.out.cell 6
              have b6 : Below z5.heap.size z5 (z5.alloc (.cells #[.int .i64 t0, .int .i64 t1, .string t2] 73)) := (Below.refl _ _).alloc (Nat.le_refl _) _
              have HYY : Hid (∀ j u, ([Value.int .i64 t0, .int .i64 t1, .string t2] : List Value)[j]? = some u → (z5.alloc (.cells #[.int .i64 t0, .int .i64 t1, .string t2] 73)).cell? ⟨z5.heap.size, j, none⟩ = some u) := hid fun j u hj => by
                rw [cell_of_row _ _ _ _ _ _ (heap_alloc_new _ _)]
                match j with
                | 0 => simpa using hj
                | 1 => simpa using hj
                | 2 => simpa using hj
                | j + 3 => simp at hj
              have RS6 := hid (RS5.out.below b6)
              have O6 : Hid ((z5.alloc (.cells #[.int .i64 t0, .int .i64 t1, .string t2] 73)).ownsRow w.heap.size 73 3 (.slice lva i lvc) i (evs acc)) := hid (by have := RS6.out.log; rw [show ({ D6 with log := acc } : CoD).log.length = i from HAC.out] at this; exact this)
              clear b6
              go_wp2_with (first | (refine wpl_loadE3 rfl _ rfl E rfl _ _ _ _ _ hE5 ?_) | (at_builtin; refine wpl_app rowEn rfl _ _ rfl w.heap.size (.slice lva i lvc) i (evs acc) rfl O6.out z5.heap.size 1 1 [.int .i64 t0, .int .i64 t1, .string t2] rfl rfl HYY.out (by intro u hu; simp at hu; rcases hu with rfl | rfl | rfl <;> rfl) (by omega) RS6.out.bel.size ?_; intro va7 vc7 z7 ho7 hg7; have RS7 := hid (RS6.out.app ho7 hg7 HAC.out); obtain ⟨u7, k7⟩ : ∃ u, z7.cell? ⟨S, 6, none⟩ = some u := ⟨_, RS7.out.old⟩; have f7 := RS7.out.fz; clear ho7 hg7))
              have hrel2 : ((rt p2).2 = false ∧ ldG l = getGo eV eS (n - (i + 1)) (some (rt p2).1) (acc ++ [⟨t0, t1, t2⟩])) ∨ ((rt p2).2 = true ∧ (ldG l).2 = none) := by
                have T3 : Tog (rt p2) (eS (some m1)) := T2.out.text
                rcases T3 with ⟨h1, h2⟩ | ⟨h1, h2⟩
                · right
                  refine ⟨h2, ?_⟩
                  rw [HSU.out, h1]; rfl
                · left
                  refine ⟨h2, ?_⟩
                  have hev : eV (some m1) = ⟨t0, t1, t2⟩ := by
                    unfold eV
                    rcases T2.out with ⟨g1, -⟩ | ⟨g1, -⟩
                    · exfalso; have : eS (some m1) = textS none := by unfold eS; rw [g1]
                      rw [h1] at this; cases this
                    · rw [g1]
                      cases hq : intS (some m1) with
                      | none => rw [hq] at g1; cases g1
                      | some q =>
                        have e1 := HT01.out.2
                        rw [hq] at e1
                        rw [← HT2.out, HT01.out.1, e1]; rfl
                  rw [HSU.out, h1, hev]; rfl
              have HREL := hid hrel2
              clear hrel2
              go_roundw
              case rel => exact ⟨i + 1, rt p2, acc ++ [⟨t0, t1, t2⟩], va7, vc7, by go_num, by omega, by simp [HAC.out], RS7.out.done, HREL.out⟩
              case measure => simp [intOf]; omega
          · obtain rfl : i = n := by omega
            cases b1 with
            | true =>
              have HLB : Hid (ldB 0 l = false) := hid (by
                rcases HGO.out with ⟨h, -⟩ | ⟨-, h⟩
                · cases h
                · exact ld_none l h)
              obtain ⟨Dn, hDn⟩ : ∃ Dn : CoD, Dn = { D6 with log := acc } := ⟨_, rfl⟩
              rw [← hDn] at RS
              clear hDn
              go_upto_region 15 with fail
              obtain ⟨a1, c1, hX1, -⟩ := RS.out.rd.rd
              have q1 := y1'
              have q0 : wr.drew.cell? ⟨X, 0, none⟩ = some (.slice a1 m1.length c1) := by show wr.cell? _ = _; rw [cell_of_row _ _ _ _ _ _ hX1]; rfl
              have qS : wr.drew.rangeAt S 0 (stC Dn (.slice lva i lvc)).toList := fun j u hj => by
                show wr.cell? _ = _
                rw [Nat.zero_add, RS.out.cell j]; simpa using hj
              obtain ⟨dS, hdS1, hd0⟩ := Try.structSt
              have hdS2 : dS.isRow = true := by cases dS <;> first | rfl | (simp at hd0)
              clear hd0
              have HRX : Hid (wr.drew.heap[R]? = some (.cells (stC zD (.slice none 0 0)) 29 (0, 0))) := hid RS.out.res
              refine wp_region_held_drew (S := fun Y => Y.cell? ⟨X, 1, none⟩ = some (.bool true) ∧ Y.cell? ⟨X, 0, none⟩ = some (.slice a1 m1.length c1) ∧ Y.rangeAt S 0 (stC Dn (.slice lva i lvc)).toList) (by kernel_rfl) ⟨q1, q0, qS⟩ (fun hHeld => ?_)
              refine wpAnyH_take (i := 0) (v := .agg (stC Dn (.slice lva i lvc)).toList.toArray) rfl (by kernel_rfl) (by kernel_rfl) (by kernel_rfl) (fun _ _ _ h => h) (yieldsIf_load_mid rfl _ _ rfl S 0 rfl (stC Dn (.slice lva i lvc)).toList dS (fun Y hY => hY.2.2) hdS1 hdS2 Try.sizeSt) (by assumption) ?_
              (try simp only [Act.put, List.setIfInBounds_toArray, List.set_cons_zero, List.set_cons_succ, List.getElem_toArray, List.getElem_cons_succ, List.getElem_cons_zero])
              have HNX : Hid (X ≠ R ∧ S ≠ R) := hid ⟨(fun e => by rw [e, RS.out.res] at hX1; cases hX1), fun e => RS.out.ne e.symm⟩
              refine wpAnyH_take (i := 1) (v := ?fav1) rfl (by kernel_rfl) (by kernel_rfl) (by kernel_rfl) (fun _ _ _ h => h) (Or.inl ⟨by rfl, ?fay1⟩) (by assumption) ?far1
              case fay1 => (intro w hSw; (try dsimp only at hSw); go_simp; try with_reducible rfl)
              (try simp only [Act.put, List.setIfInBounds_toArray, List.set_cons_zero, List.set_cons_succ, List.getElem_toArray, List.getElem_cons_succ, List.getElem_cons_zero])
              refine wpAnyH_take (i := 2) (v := ?fav2) rfl (by kernel_rfl) (by kernel_rfl) (by kernel_rfl) (fun _ _ _ h => h) (Or.inl ⟨by rfl, ?fay2⟩) (by assumption) ?far2
              case fay2 => (intro w hSw; (try dsimp only at hSw); go_simp; try with_reducible rfl)
              (try simp only [Act.put, List.setIfInBounds_toArray, List.set_cons_zero, List.set_cons_succ, List.getElem_toArray, List.getElem_cons_succ, List.getElem_cons_zero])
              refine wpAnyH_take (i := 3) (v := ?fav3) rfl (by kernel_rfl) (by kernel_rfl) (by kernel_rfl) (fun _ _ _ h => h) (Or.inl ⟨by rfl, ?fay3⟩) (by assumption) ?far3
              case fay3 => (intro w hSw; (try dsimp only at hSw); go_simp; try with_reducible rfl)
              (try simp only [Act.put, List.setIfInBounds_toArray, List.set_cons_zero, List.set_cons_succ, List.getElem_toArray, List.getElem_cons_succ, List.getElem_cons_zero])
              refine wpAnyH_take (i := 4) (v := ?fav4) rfl (by kernel_rfl) (by kernel_rfl) (by kernel_rfl) (fun _ _ _ h => h) (Or.inl ⟨by rfl, ?fay4⟩) (by assumption) ?far4
              case fay4 => (intro w hSw; (try dsimp only at hSw); go_simp; try with_reducible rfl)
              (try simp only [Act.put, List.setIfInBounds_toArray, List.set_cons_zero, List.set_cons_succ, List.getElem_toArray, List.getElem_cons_succ, List.getElem_cons_zero])
              refine wpAnyH_take (i := 5) (v := ?fav5) rfl (by kernel_rfl) (by kernel_rfl) (by kernel_rfl) (fun _ _ _ h => h) (Or.inl ⟨by rfl, ?fay5⟩) (by assumption) ?far5
              case fay5 => (intro w hSw; (try dsimp only at hSw); go_simp; try with_reducible rfl)
              (try simp only [Act.put, List.setIfInBounds_toArray, List.set_cons_zero, List.set_cons_succ, List.getElem_toArray, List.getElem_cons_succ, List.getElem_cons_zero])
              refine wpAnyH_take (i := 6) (v := ?fav6) rfl (by kernel_rfl) (by kernel_rfl) (by kernel_rfl) (fun _ _ _ h => h) (Or.inl ⟨by rfl, ?fay6⟩) (by assumption) ?far6
              case fay6 => (intro w hSw; (try dsimp only at hSw); go_simp; try with_reducible rfl)
              (try simp only [Act.put, List.setIfInBounds_toArray, List.set_cons_zero, List.set_cons_succ, List.getElem_toArray, List.getElem_cons_succ, List.getElem_cons_zero])
              refine wpAnyH_take (i := 7) (v := undef) rfl (by kernel_rfl) (by kernel_rfl) (by kernel_rfl) (fun _ _ _ h => h) (Or.inr ⟨by rfl, rfl⟩) (by assumption) ?_
              (try simp only [Act.put, List.setIfInBounds_toArray, List.set_cons_zero, List.set_cons_succ, List.getElem_toArray, List.getElem_cons_succ, List.getElem_cons_zero])
              refine wpAnyH_take (i := 8) (v := undef) rfl (by kernel_rfl) (by kernel_rfl) (by kernel_rfl) (fun _ _ _ h => h) (Or.inr ⟨by rfl, rfl⟩) (by assumption) ?_
              (try simp only [Act.put, List.setIfInBounds_toArray, List.set_cons_zero, List.set_cons_succ, List.getElem_toArray, List.getElem_cons_succ, List.getElem_cons_zero])
              refine wpAnyH_take (i := 9) (v := undef) rfl (by kernel_rfl) (by kernel_rfl) (by kernel_rfl) (fun _ _ _ h => h) (Or.inr ⟨by rfl, rfl⟩) (by assumption) ?_
              (try simp only [Act.put, List.setIfInBounds_toArray, List.set_cons_zero, List.set_cons_succ, List.getElem_toArray, List.getElem_cons_succ, List.getElem_cons_zero])
              refine wpAnyH_take (i := 10) (v := undef) rfl (by kernel_rfl) (by kernel_rfl) (by kernel_rfl) (fun _ _ _ h => h) (Or.inr ⟨by rfl, rfl⟩) (by assumption) ?_
              (try simp only [Act.put, List.setIfInBounds_toArray, List.set_cons_zero, List.set_cons_succ, List.getElem_toArray, List.getElem_cons_succ, List.getElem_cons_zero])
              refine wpAnyH_take (i := 11) (v := undef) rfl (by kernel_rfl) (by kernel_rfl) (by kernel_rfl) (fun _ _ _ h => h) (Or.inr ⟨by rfl, rfl⟩) (by assumption) ?_
              (try simp only [Act.put, List.setIfInBounds_toArray, List.set_cons_zero, List.set_cons_succ, List.getElem_toArray, List.getElem_cons_succ, List.getElem_cons_zero])
              refine wpAnyH_take (i := 12) (v := undef) rfl (by kernel_rfl) (by kernel_rfl) (by kernel_rfl) (fun _ _ _ h => h) (Or.inr ⟨by rfl, rfl⟩) (by assumption) ?_
              (try simp only [Act.put, List.setIfInBounds_toArray, List.set_cons_zero, List.set_cons_succ, List.getElem_toArray, List.getElem_cons_succ, List.getElem_cons_zero])
              refine wpAnyH_take (i := 13) (v := ?fav13) rfl (by kernel_rfl) (by kernel_rfl) (by kernel_rfl) (fun _ _ _ h => h) (Or.inl ⟨by rfl, ?fay13⟩) (by assumption) ?far13
              case fay13 => (intro w hSw; (try dsimp only at hSw); go_simp; try with_reducible rfl)
              (try simp only [Act.put, List.setIfInBounds_toArray, List.set_cons_zero, List.set_cons_succ, List.getElem_toArray, List.getElem_cons_succ, List.getElem_cons_zero])
              refine wpAnyH_take (i := 14) (v := ?fav14) rfl (by kernel_rfl) (by kernel_rfl) (by kernel_rfl) (fun _ _ _ h => h) (Or.inl ⟨by rfl, ?fay14⟩) (by assumption) ?far14
              case fay14 => (intro w hSw; (try dsimp only at hSw); go_simp; try with_reducible rfl)
              (try simp only [Act.put, List.setIfInBounds_toArray, List.set_cons_zero, List.set_cons_succ, List.getElem_toArray, List.getElem_cons_succ, List.getElem_cons_zero])
              refine wpAnyH_take (i := 15) (v := undef) rfl (by kernel_rfl) (by kernel_rfl) (by kernel_rfl) (fun _ _ _ h => h) (Or.inr ⟨by rfl, rfl⟩) (by assumption) ?_
              (try simp only [Act.put, List.setIfInBounds_toArray, List.set_cons_zero, List.set_cons_succ, List.getElem_toArray, List.getElem_cons_succ, List.getElem_cons_zero])
              refine wpAnyH_take (i := 16) (v := undef) rfl (by kernel_rfl) (by kernel_rfl) (by kernel_rfl) (fun _ _ _ h => h) (Or.inr ⟨by rfl, rfl⟩) (by assumption) ?_
              (try simp only [Act.put, List.setIfInBounds_toArray, List.set_cons_zero, List.set_cons_succ, List.getElem_toArray, List.getElem_cons_succ, List.getElem_cons_zero])
              refine wpAnyH_take (i := 17) (v := ?fav17) rfl (by kernel_rfl) (by kernel_rfl) (by kernel_rfl) (fun _ _ _ h => h) (Or.inl ⟨by rfl, ?fay17⟩) (by assumption) ?far17
              case fay17 => (intro w hSw; (try dsimp only at hSw); go_simp; try with_reducible rfl)
              (try simp only [Act.put, List.setIfInBounds_toArray, List.set_cons_zero, List.set_cons_succ, List.getElem_toArray, List.getElem_cons_succ, List.getElem_cons_zero])
              refine wpAnyH_ready (rs := [18]) (by kernel_rfl) (by simp) ?_
              refine AllReadyH.cons rfl (fun K hK => ?_) AllReadyH.nil
              rw [if_pos (by rfl)]
              refine wp_store_row _ _ _ rfl R (stC Dn (.slice lva i lvc)) rfl rfl _ _ HRX.out Try.sizeSt rfl (stC_one _ _ _ _) ?_
              refine hK.out _ _ ⟨(cell_setRow_other _ _ _ _ HNX.out.1).trans hHeld.1, (cell_setRow_other _ _ _ _ HNX.out.1).trans hHeld.2.1, fun j u hj => (cell_setRow_other _ _ _ _ HNX.out.2).trans (hHeld.2.2 j u hj)⟩ (fun hHeld => ?_)
              clear hK K
              (try simp only [Act.put, List.setIfInBounds_toArray, List.set_cons_zero, List.set_cons_succ, List.getElem_toArray, List.getElem_cons_succ, List.getElem_cons_zero])
              refine wpAnyH_take (i := 19) (v := ?gav19) rfl (by kernel_rfl) (by kernel_rfl) (by kernel_rfl) (fun _ _ _ h => h) (Or.inl ⟨by rfl, ?gay19⟩) (by assumption) ?gar19
              case gay19 => (intro w hSw; (try dsimp only at hSw); go_simp; try with_reducible rfl)
              (try simp only [Act.put, List.setIfInBounds_toArray, List.set_cons_zero, List.set_cons_succ, List.getElem_toArray, List.getElem_cons_succ, List.getElem_cons_zero])
              refine wpAnyH_done (by kernel_rfl) ?_ _
              go_wp2_with fail
              (try simp only [Exit.inBlock, Exit.then])
              refine bodyPost_ret (results_stB rfl _ _ R _ Dn _ _ rfl (setRow_heap _ _ _ _ _ _ HRX.out)) rfl ?_
              exact ⟨Dn, lva, i, lvc, by rw [HLB.out]; rfl, (fun h => by rw [HLB.out] at h; cases h), below_row (RS.out.bel.drew) RS.out.pr _⟩
            | false =>
              have HG1 : Hid (ldG l = (some acc, some m1)) := hid (by
                rcases HGO.out with ⟨-, h⟩ | ⟨h, -⟩
                · rw [Nat.sub_self] at h; exact h
                · cases h)
              have HEQ : Hid (({ D6 with log := acc } : CoD) = ldD 0 l) := hid (by
                rw [HD6.out, HD0.out]
                exact ld_eq l y0 y1 y2 y3 tv tx m acc m1 HY.out HTV.out HTXX.out HSM.out HG1.out)
              have HLB0 : Hid (ldB 0 l = (endB (some m1) && mayD (ldD 0 l))) := hid (by unfold ldB; rw [HG1.out])
              have HAJ : Hid (∀ e ∈ acc, EnJ e) := hid (by
                have := HGG.out
                rw [HG1.out] at this
                obtain ⟨xs, e1, -, -, e4⟩ := go_only _ r [] acc m1 this.symm
                rw [List.nil_append] at e1
                rw [e1]; exact e4)
              have HBS : Hid (({ D6 with log := acc } : CoD).bv.size ≤ 1048576) := hid (by
                show D6.bv.size ≤ _
                rw [HD6.out]
                show tv.size ≤ _
                rw [HTV.out]
                have := textV_len (some (rs l 4).1)
                simpa [ByteArray.size] using this)
              by_cases hm1 : m1 = []
              · have HLB : Hid (ldB 0 l = mayD (ldD 0 l)) := hid (by rw [HLB0.out, hm1]; rfl)
                have hml : ((m1.length : Int) == 0) = true := by simp [hm1]
                have HLG2 : Hid ((ldD 0 l).log = acc) := hid (by rw [← HEQ.out])
                have HX0 : Hid (∀ e ∈ ({ D6 with log := acc } : CoD).log, e.text.size ≤ 9223372036854775807) := hid (fun e he => by have := (HAJ.out e he).s; omega)
                have HMY := hid (fun W (hW : Ens W (.slice lva i lvc) ({ D6 with log := acc } : CoD).log) => rmay_any (.slice lva i lvc) _ W hW (by have := HBS.out; omega) HX0.out)
                have HEN := hid (ens_own RS.out.log rfl)
                rw [HEQ.out] at HMY HEN
                clear hm1 HX0
                obtain ⟨Dn, hDn⟩ : ∃ Dn : CoD, Dn = ldD 0 l := ⟨_, rfl⟩
                rw [HEQ.out, ← hDn] at RS
                rw [← hDn] at HMY HEN HLB
                have HDN := hid hDn
                clear hDn HEQ HLG2 HBS
                go_upto_region 15 with fail
                obtain ⟨a1, c1, hX1, -⟩ := RS.out.rd.rd
                have q1 := y1'
                have q0 : wr.drew.cell? ⟨X, 0, none⟩ = some (.slice a1 m1.length c1) := by show wr.cell? _ = _; rw [cell_of_row _ _ _ _ _ _ hX1]; rfl
                have qS : wr.drew.rangeAt S 0 (stC Dn (.slice lva i lvc)).toList := fun j u hj => by
                  show wr.cell? _ = _
                  rw [Nat.zero_add, RS.out.cell j]; simpa using hj
                obtain ⟨dS, hdS1, hd0⟩ := Try.structSt
                have hdS2 : dS.isRow = true := by cases dS <;> first | rfl | (simp at hd0)
                clear hd0
                have HRX : Hid (wr.drew.heap[R]? = some (.cells (stC zD (.slice none 0 0)) 29 (0, 0))) := hid RS.out.res
                refine wp_region_held_drew (S := fun Y => Y.cell? ⟨X, 1, none⟩ = some (.bool false) ∧ Y.cell? ⟨X, 0, none⟩ = some (.slice a1 m1.length c1) ∧ Y.rangeAt S 0 (stC Dn (.slice lva i lvc)).toList) (by kernel_rfl) ⟨q1, q0, qS⟩ (fun hHeld => ?_)
                refine wpAnyH_take (i := 0) (v := .agg (stC Dn (.slice lva i lvc)).toList.toArray) rfl (by kernel_rfl) (by kernel_rfl) (by kernel_rfl) (fun _ _ _ h => h) (yieldsIf_load_mid rfl _ _ rfl S 0 rfl (stC Dn (.slice lva i lvc)).toList dS (fun Y hY => hY.2.2) hdS1 hdS2 Try.sizeSt) (by assumption) ?_
                (try simp only [Act.put, List.setIfInBounds_toArray, List.set_cons_zero, List.set_cons_succ, List.getElem_toArray, List.getElem_cons_succ, List.getElem_cons_zero])
                have HNX : Hid (X ≠ R ∧ S ≠ R) := hid ⟨(fun e => by rw [e, RS.out.res] at hX1; cases hX1), fun e => RS.out.ne e.symm⟩
                refine wpAnyH_take (i := 1) (v := ?fcv1) rfl (by kernel_rfl) (by kernel_rfl) (by kernel_rfl) (fun _ _ _ h => h) (Or.inl ⟨by rfl, ?fcy1⟩) (by assumption) ?fcr1
                case fcy1 => (intro w hSw; (try dsimp only at hSw); go_simp; try with_reducible rfl)
                (try simp only [Act.put, List.setIfInBounds_toArray, List.set_cons_zero, List.set_cons_succ, List.getElem_toArray, List.getElem_cons_succ, List.getElem_cons_zero])
                refine wpAnyH_take (i := 2) (v := ?fcv2) rfl (by kernel_rfl) (by kernel_rfl) (by kernel_rfl) (fun _ _ _ h => h) (Or.inl ⟨by rfl, ?fcy2⟩) (by assumption) ?fcr2
                case fcy2 => (intro w hSw; (try dsimp only at hSw); go_simp; try with_reducible rfl)
                (try simp only [Act.put, List.setIfInBounds_toArray, List.set_cons_zero, List.set_cons_succ, List.getElem_toArray, List.getElem_cons_succ, List.getElem_cons_zero])
                refine wpAnyH_take (i := 3) (v := ?fcv3) rfl (by kernel_rfl) (by kernel_rfl) (by kernel_rfl) (fun _ _ _ h => h) (Or.inl ⟨by rfl, ?fcy3⟩) (by assumption) ?fcr3
                case fcy3 => (intro w hSw; (try dsimp only at hSw); go_simp; try with_reducible rfl)
                (try simp only [Act.put, List.setIfInBounds_toArray, List.set_cons_zero, List.set_cons_succ, List.getElem_toArray, List.getElem_cons_succ, List.getElem_cons_zero])
                refine wpAnyH_take (i := 4) (v := ?fcv4) rfl (by kernel_rfl) (by kernel_rfl) (by kernel_rfl) (fun _ _ _ h => h) (Or.inl ⟨by rfl, ?fcy4⟩) (by assumption) ?fcr4
                case fcy4 => (intro w hSw; (try dsimp only at hSw); go_simp; try with_reducible rfl)
                (try simp only [Act.put, List.setIfInBounds_toArray, List.set_cons_zero, List.set_cons_succ, List.getElem_toArray, List.getElem_cons_succ, List.getElem_cons_zero])
                refine wpAnyH_take (i := 5) (v := ?fcv5) rfl (by kernel_rfl) (by kernel_rfl) (by kernel_rfl) (fun _ _ _ h => h) (Or.inl ⟨by rfl, ?fcy5⟩) (by assumption) ?fcr5
                case fcy5 => (intro w hSw; (try dsimp only at hSw); go_simp; try with_reducible rfl)
                (try simp only [Act.put, List.setIfInBounds_toArray, List.set_cons_zero, List.set_cons_succ, List.getElem_toArray, List.getElem_cons_succ, List.getElem_cons_zero])
                refine wpAnyH_take (i := 6) (v := ?fcv6) rfl (by kernel_rfl) (by kernel_rfl) (by kernel_rfl) (fun _ _ _ h => h) (Or.inl ⟨by rfl, ?fcy6⟩) (by assumption) ?fcr6
                case fcy6 => (intro w hSw; (try dsimp only at hSw); go_simp; try with_reducible rfl)
                (try simp only [Act.put, List.setIfInBounds_toArray, List.set_cons_zero, List.set_cons_succ, List.getElem_toArray, List.getElem_cons_succ, List.getElem_cons_zero])
                refine wpAnyH_take (i := 7) (v := ?fcv7) rfl (by kernel_rfl) (by kernel_rfl) (by kernel_rfl) (fun _ _ _ h => h) (Or.inl ⟨by rfl, ?fcy7⟩) (by assumption) ?fcr7
                case fcy7 => (intro w hSw; (try dsimp only at hSw); go_simp; try with_reducible rfl)
                (try simp only [Act.put, List.setIfInBounds_toArray, List.set_cons_zero, List.set_cons_succ, List.getElem_toArray, List.getElem_cons_succ, List.getElem_cons_zero])
                refine wpAnyH_take (i := 8) (v := ?fcv8) rfl (by kernel_rfl) (by kernel_rfl) (by kernel_rfl) (fun _ _ _ h => h) (Or.inl ⟨by rfl, ?fcy8⟩) (by assumption) ?fcr8
                case fcy8 => (intro w hSw; (try dsimp only at hSw); go_simp; try with_reducible rfl)
                (try simp only [Act.put, List.setIfInBounds_toArray, List.set_cons_zero, List.set_cons_succ, List.getElem_toArray, List.getElem_cons_succ, List.getElem_cons_zero])
                refine wpAnyH_take (i := 9) (v := ?fcv9) rfl (by kernel_rfl) (by kernel_rfl) (by kernel_rfl) (fun _ _ _ h => h) (Or.inl ⟨by rfl, ?fcy9⟩) (by assumption) ?fcr9
                case fcy9 => (intro w hSw; (try dsimp only at hSw); go_simp; try with_reducible rfl)
                (try simp only [Act.put, List.setIfInBounds_toArray, List.set_cons_zero, List.set_cons_succ, List.getElem_toArray, List.getElem_cons_succ, List.getElem_cons_zero])
                refine wpAnyH_take (i := 10) (v := ?fcv10) rfl (by kernel_rfl) (by kernel_rfl) (by kernel_rfl) (fun _ _ _ h => h) (Or.inl ⟨by rfl, ?fcy10⟩) (by assumption) ?fcr10
                case fcy10 => (intro w hSw; (try dsimp only at hSw); go_simp; try with_reducible rfl)
                (try simp only [Act.put, List.setIfInBounds_toArray, List.set_cons_zero, List.set_cons_succ, List.getElem_toArray, List.getElem_cons_succ, List.getElem_cons_zero])
                refine wpAnyH_take (i := 11) (v := ?fcv11) rfl (by kernel_rfl) (by kernel_rfl) (by kernel_rfl) (fun _ _ _ h => h) (Or.inl ⟨by rfl, ?fcy11⟩) (by assumption) ?fcr11
                case fcy11 => (intro w hSw; (try dsimp only at hSw); go_simp; try with_reducible rfl)
                (try simp only [Act.put, List.setIfInBounds_toArray, List.set_cons_zero, List.set_cons_succ, List.getElem_toArray, List.getElem_cons_succ, List.getElem_cons_zero])
                refine wpAnyH_take (i := 12) (v := ?fcv12) rfl (by kernel_rfl) (by kernel_rfl) (by kernel_rfl) (fun _ _ _ h => h) (Or.inl ⟨by rfl, ?fcy12⟩) (by assumption) ?fcr12
                case fcy12 => (intro w hSw; (try dsimp only at hSw); go_simp; try with_reducible rfl)
                (try simp only [Act.put, List.setIfInBounds_toArray, List.set_cons_zero, List.set_cons_succ, List.getElem_toArray, List.getElem_cons_succ, List.getElem_cons_zero])
                refine wpAnyH_take (i := 13) (v := ?fcv13) rfl (by kernel_rfl) (by kernel_rfl) (by kernel_rfl) (fun _ _ _ h => h) (Or.inl ⟨by rfl, ?fcy13⟩) (by assumption) ?fcr13
                case fcy13 => (intro w hSw; (try dsimp only at hSw); go_simp; try with_reducible rfl)
                (try simp only [Act.put, List.setIfInBounds_toArray, List.set_cons_zero, List.set_cons_succ, List.getElem_toArray, List.getElem_cons_succ, List.getElem_cons_zero])
                refine wpAnyH_take (i := 14) (v := ?fcv14) rfl (by kernel_rfl) (by kernel_rfl) (by kernel_rfl) (fun _ _ _ h => h) (Or.inl ⟨by rfl, ?fcy14⟩) (by assumption) ?fcr14
                case fcy14 => (intro w hSw; (try dsimp only at hSw); go_simp; try with_reducible rfl)
                (try simp only [Act.put, List.setIfInBounds_toArray, List.set_cons_zero, List.set_cons_succ, List.getElem_toArray, List.getElem_cons_succ, List.getElem_cons_zero])
                refine wpAnyH_take (i := 15) (v := .agg (stC Dn (.slice lva i lvc)).toList.toArray) rfl (by kernel_rfl) (by kernel_rfl) (by kernel_rfl) (fun _ _ _ h => h) (yieldsIf_load_mid rfl _ _ rfl S 0 rfl (stC Dn (.slice lva i lvc)).toList dS (fun Y hY => hY.2.2) hdS1 hdS2 Try.sizeSt) (by assumption) ?_
                (try simp only [Act.put, List.setIfInBounds_toArray, List.set_cons_zero, List.set_cons_succ, List.getElem_toArray, List.getElem_cons_succ, List.getElem_cons_zero])
                refine wpAnyH_ready (rs := [16]) (by kernel_rfl) (by simp) ?_
                refine AllReadyH.cons rfl (fun K hK => ?_) AllReadyH.nil
                rw [if_pos (by rfl)]
                go_simp
                refine (HMY.out _ (HEN.out.below ((Below.refl _ _).drew))).mono ?_
                rintro e wy ⟨rfl, hby⟩
                have BY : Hid (Below wr.heap.size wr wy) := hid (((Below.refl wr.heap.size wr).drew).trans hby)
                clear hby
                have RSY := hid (RS.out.below BY.out)
                refine hK.out _ _ ⟨cell_later BY.out q1, cell_later BY.out q0, fun j u hj => cell_later BY.out (qS j u hj)⟩ (fun hHeld => ?_)
                clear hK K HRX
                (try simp only [Act.put, List.setIfInBounds_toArray, List.set_cons_zero, List.set_cons_succ, List.getElem_toArray, List.getElem_cons_succ, List.getElem_cons_zero])
                have HRX : Hid (wy.heap[R]? = some (.cells (stC zD (.slice none 0 0)) 29 (0, 0))) := hid RSY.out.res
                refine wpAnyH_take (i := 17) (v := ?fdv17) rfl (by kernel_rfl) (by kernel_rfl) (by kernel_rfl) (fun _ _ _ h => h) (Or.inl ⟨by rfl, ?fdy17⟩) (by assumption) ?fdr17
                case fdy17 => (intro w hSw; (try dsimp only at hSw); go_simp; try with_reducible rfl)
                (try simp only [Act.put, List.setIfInBounds_toArray, List.set_cons_zero, List.set_cons_succ, List.getElem_toArray, List.getElem_cons_succ, List.getElem_cons_zero])
                refine wpAnyH_ready (rs := [18]) (by kernel_rfl) (by simp) ?_
                refine AllReadyH.cons rfl (fun K hK => ?_) AllReadyH.nil
                rw [if_pos (by rfl)]
                refine wp_store_row _ _ _ rfl R (stC Dn (.slice lva i lvc)) rfl rfl _ _ HRX.out Try.sizeSt rfl (stC_one _ _ _ _) ?_
                refine hK.out _ _ ⟨(cell_setRow_other _ _ _ _ HNX.out.1).trans hHeld.1, (cell_setRow_other _ _ _ _ HNX.out.1).trans hHeld.2.1, fun j u hj => (cell_setRow_other _ _ _ _ HNX.out.2).trans (hHeld.2.2 j u hj)⟩ (fun hHeld => ?_)
                clear hK K
                (try simp only [Act.put, List.setIfInBounds_toArray, List.set_cons_zero, List.set_cons_succ, List.getElem_toArray, List.getElem_cons_succ, List.getElem_cons_zero])
                refine wpAnyH_take (i := 19) (v := ?gdv19) rfl (by kernel_rfl) (by kernel_rfl) (by kernel_rfl) (fun _ _ _ h => h) (Or.inl ⟨by rfl, ?gdy19⟩) (by assumption) ?gdr19
                case gdy19 => (intro w hSw; (try dsimp only at hSw); go_simp; try with_reducible rfl)
                (try simp only [Act.put, List.setIfInBounds_toArray, List.set_cons_zero, List.set_cons_succ, List.getElem_toArray, List.getElem_cons_succ, List.getElem_cons_zero])
                refine wpAnyH_done (by kernel_rfl) ?_ _
                go_wp2_with fail
                (try simp only [Exit.inBlock, Exit.then])
                refine bodyPost_ret (results_stB rfl _ _ R _ Dn _ _ rfl (setRow_heap _ _ _ _ _ _ HRX.out)) rfl ?_
                exact ⟨Dn, lva, i, lvc, by rw [HLB.out]; rfl, (fun _ => ⟨by rw [HDN.out], by rw [← HDN.out]; exact ens_own (own_row RSY.out.log HRX.out (by decide)) rfl⟩), below_row RSY.out.bel RSY.out.pr _⟩
              · have HLB : Hid (ldB 0 l = false) := hid (by
                  rw [HLB0.out]
                  cases hq : m1 with
                  | nil => exact absurd hq hm1
                  | cons c t => rfl)
                have hml : ((m1.length : Int) == 0) = false := by simp; exact hm1
                clear hm1
                obtain ⟨Dn, hDn⟩ : ∃ Dn : CoD, Dn = { D6 with log := acc } := ⟨_, rfl⟩
                rw [← hDn] at RS
                clear hDn
                go_upto_region 15 with fail
                obtain ⟨a1, c1, hX1, -⟩ := RS.out.rd.rd
                have q1 := y1'
                have q0 : wr.drew.cell? ⟨X, 0, none⟩ = some (.slice a1 m1.length c1) := by show wr.cell? _ = _; rw [cell_of_row _ _ _ _ _ _ hX1]; rfl
                have qS : wr.drew.rangeAt S 0 (stC Dn (.slice lva i lvc)).toList := fun j u hj => by
                  show wr.cell? _ = _
                  rw [Nat.zero_add, RS.out.cell j]; simpa using hj
                obtain ⟨dS, hdS1, hd0⟩ := Try.structSt
                have hdS2 : dS.isRow = true := by cases dS <;> first | rfl | (simp at hd0)
                clear hd0
                have HRX : Hid (wr.drew.heap[R]? = some (.cells (stC zD (.slice none 0 0)) 29 (0, 0))) := hid RS.out.res
                refine wp_region_held_drew (S := fun Y => Y.cell? ⟨X, 1, none⟩ = some (.bool false) ∧ Y.cell? ⟨X, 0, none⟩ = some (.slice a1 m1.length c1) ∧ Y.rangeAt S 0 (stC Dn (.slice lva i lvc)).toList) (by kernel_rfl) ⟨q1, q0, qS⟩ (fun hHeld => ?_)
                refine wpAnyH_take (i := 0) (v := .agg (stC Dn (.slice lva i lvc)).toList.toArray) rfl (by kernel_rfl) (by kernel_rfl) (by kernel_rfl) (fun _ _ _ h => h) (yieldsIf_load_mid rfl _ _ rfl S 0 rfl (stC Dn (.slice lva i lvc)).toList dS (fun Y hY => hY.2.2) hdS1 hdS2 Try.sizeSt) (by assumption) ?_
                (try simp only [Act.put, List.setIfInBounds_toArray, List.set_cons_zero, List.set_cons_succ, List.getElem_toArray, List.getElem_cons_succ, List.getElem_cons_zero])
                have HNX : Hid (X ≠ R ∧ S ≠ R) := hid ⟨(fun e => by rw [e, RS.out.res] at hX1; cases hX1), fun e => RS.out.ne e.symm⟩
                refine wpAnyH_take (i := 1) (v := ?fbv1) rfl (by kernel_rfl) (by kernel_rfl) (by kernel_rfl) (fun _ _ _ h => h) (Or.inl ⟨by rfl, ?fby1⟩) (by assumption) ?fbr1
                case fby1 => (intro w hSw; (try dsimp only at hSw); go_simp; try with_reducible rfl)
                (try simp only [Act.put, List.setIfInBounds_toArray, List.set_cons_zero, List.set_cons_succ, List.getElem_toArray, List.getElem_cons_succ, List.getElem_cons_zero])
                refine wpAnyH_take (i := 2) (v := ?fbv2) rfl (by kernel_rfl) (by kernel_rfl) (by kernel_rfl) (fun _ _ _ h => h) (Or.inl ⟨by rfl, ?fby2⟩) (by assumption) ?fbr2
                case fby2 => (intro w hSw; (try dsimp only at hSw); go_simp; try with_reducible rfl)
                (try simp only [Act.put, List.setIfInBounds_toArray, List.set_cons_zero, List.set_cons_succ, List.getElem_toArray, List.getElem_cons_succ, List.getElem_cons_zero])
                refine wpAnyH_take (i := 3) (v := ?fbv3) rfl (by kernel_rfl) (by kernel_rfl) (by kernel_rfl) (fun _ _ _ h => h) (Or.inl ⟨by rfl, ?fby3⟩) (by assumption) ?fbr3
                case fby3 => (intro w hSw; (try dsimp only at hSw); go_simp; try with_reducible rfl)
                (try simp only [Act.put, List.setIfInBounds_toArray, List.set_cons_zero, List.set_cons_succ, List.getElem_toArray, List.getElem_cons_succ, List.getElem_cons_zero])
                refine wpAnyH_take (i := 4) (v := ?fbv4) rfl (by kernel_rfl) (by kernel_rfl) (by kernel_rfl) (fun _ _ _ h => h) (Or.inl ⟨by rfl, ?fby4⟩) (by assumption) ?fbr4
                case fby4 => (intro w hSw; (try dsimp only at hSw); go_simp; try with_reducible rfl)
                (try simp only [Act.put, List.setIfInBounds_toArray, List.set_cons_zero, List.set_cons_succ, List.getElem_toArray, List.getElem_cons_succ, List.getElem_cons_zero])
                refine wpAnyH_take (i := 5) (v := ?fbv5) rfl (by kernel_rfl) (by kernel_rfl) (by kernel_rfl) (fun _ _ _ h => h) (Or.inl ⟨by rfl, ?fby5⟩) (by assumption) ?fbr5
                case fby5 => (intro w hSw; (try dsimp only at hSw); go_simp; try with_reducible rfl)
                (try simp only [Act.put, List.setIfInBounds_toArray, List.set_cons_zero, List.set_cons_succ, List.getElem_toArray, List.getElem_cons_succ, List.getElem_cons_zero])
                refine wpAnyH_take (i := 6) (v := ?fbv6) rfl (by kernel_rfl) (by kernel_rfl) (by kernel_rfl) (fun _ _ _ h => h) (Or.inl ⟨by rfl, ?fby6⟩) (by assumption) ?fbr6
                case fby6 => (intro w hSw; (try dsimp only at hSw); go_simp; try with_reducible rfl)
                (try simp only [Act.put, List.setIfInBounds_toArray, List.set_cons_zero, List.set_cons_succ, List.getElem_toArray, List.getElem_cons_succ, List.getElem_cons_zero])
                refine wpAnyH_take (i := 7) (v := ?fbv7) rfl (by kernel_rfl) (by kernel_rfl) (by kernel_rfl) (fun _ _ _ h => h) (Or.inl ⟨by rfl, ?fby7⟩) (by assumption) ?fbr7
                case fby7 => (intro w hSw; (try dsimp only at hSw); go_simp; try with_reducible rfl)
                (try simp only [Act.put, List.setIfInBounds_toArray, List.set_cons_zero, List.set_cons_succ, List.getElem_toArray, List.getElem_cons_succ, List.getElem_cons_zero])
                refine wpAnyH_take (i := 8) (v := ?fbv8) rfl (by kernel_rfl) (by kernel_rfl) (by kernel_rfl) (fun _ _ _ h => h) (Or.inl ⟨by rfl, ?fby8⟩) (by assumption) ?fbr8
                case fby8 => (intro w hSw; (try dsimp only at hSw); go_simp; try with_reducible rfl)
                (try simp only [Act.put, List.setIfInBounds_toArray, List.set_cons_zero, List.set_cons_succ, List.getElem_toArray, List.getElem_cons_succ, List.getElem_cons_zero])
                refine wpAnyH_take (i := 9) (v := ?fbv9) rfl (by kernel_rfl) (by kernel_rfl) (by kernel_rfl) (fun _ _ _ h => h) (Or.inl ⟨by rfl, ?fby9⟩) (by assumption) ?fbr9
                case fby9 => (intro w hSw; (try dsimp only at hSw); go_simp; try with_reducible rfl)
                (try simp only [Act.put, List.setIfInBounds_toArray, List.set_cons_zero, List.set_cons_succ, List.getElem_toArray, List.getElem_cons_succ, List.getElem_cons_zero])
                refine wpAnyH_take (i := 10) (v := ?fbv10) rfl (by kernel_rfl) (by kernel_rfl) (by kernel_rfl) (fun _ _ _ h => h) (Or.inl ⟨by rfl, ?fby10⟩) (by assumption) ?fbr10
                case fby10 => (intro w hSw; (try dsimp only at hSw); go_simp; try with_reducible rfl)
                (try simp only [Act.put, List.setIfInBounds_toArray, List.set_cons_zero, List.set_cons_succ, List.getElem_toArray, List.getElem_cons_succ, List.getElem_cons_zero])
                refine wpAnyH_take (i := 11) (v := ?fbv11) rfl (by kernel_rfl) (by kernel_rfl) (by kernel_rfl) (fun _ _ _ h => h) (Or.inl ⟨by rfl, ?fby11⟩) (by assumption) ?fbr11
                case fby11 => (intro w hSw; (try dsimp only at hSw); go_simp; try with_reducible rfl)
                (try simp only [Act.put, List.setIfInBounds_toArray, List.set_cons_zero, List.set_cons_succ, List.getElem_toArray, List.getElem_cons_succ, List.getElem_cons_zero])
                refine wpAnyH_take (i := 12) (v := ?fbv12) rfl (by kernel_rfl) (by kernel_rfl) (by kernel_rfl) (fun _ _ _ h => h) (Or.inl ⟨by rfl, ?fby12⟩) (by assumption) ?fbr12
                case fby12 => (intro w hSw; (try dsimp only at hSw); go_simp; try with_reducible rfl)
                (try simp only [Act.put, List.setIfInBounds_toArray, List.set_cons_zero, List.set_cons_succ, List.getElem_toArray, List.getElem_cons_succ, List.getElem_cons_zero])
                refine wpAnyH_take (i := 13) (v := ?fbv13) rfl (by kernel_rfl) (by kernel_rfl) (by kernel_rfl) (fun _ _ _ h => h) (Or.inl ⟨by rfl, ?fby13⟩) (by assumption) ?fbr13
                case fby13 => (intro w hSw; (try dsimp only at hSw); go_simp; try with_reducible rfl)
                (try simp only [Act.put, List.setIfInBounds_toArray, List.set_cons_zero, List.set_cons_succ, List.getElem_toArray, List.getElem_cons_succ, List.getElem_cons_zero])
                refine wpAnyH_take (i := 14) (v := ?fbv14) rfl (by kernel_rfl) (by kernel_rfl) (by kernel_rfl) (fun _ _ _ h => h) (Or.inl ⟨by rfl, ?fby14⟩) (by assumption) ?fbr14
                case fby14 => (intro w hSw; (try dsimp only at hSw); go_simp; try with_reducible rfl)
                (try simp only [Act.put, List.setIfInBounds_toArray, List.set_cons_zero, List.set_cons_succ, List.getElem_toArray, List.getElem_cons_succ, List.getElem_cons_zero])
                refine wpAnyH_take (i := 15) (v := undef) rfl (by kernel_rfl) (by kernel_rfl) (by kernel_rfl) (fun _ _ _ h => h) (Or.inr ⟨by rfl, rfl⟩) (by assumption) ?_
                (try simp only [Act.put, List.setIfInBounds_toArray, List.set_cons_zero, List.set_cons_succ, List.getElem_toArray, List.getElem_cons_succ, List.getElem_cons_zero])
                refine wpAnyH_take (i := 16) (v := undef) rfl (by kernel_rfl) (by kernel_rfl) (by kernel_rfl) (fun _ _ _ h => h) (Or.inr ⟨by rfl, rfl⟩) (by assumption) ?_
                (try simp only [Act.put, List.setIfInBounds_toArray, List.set_cons_zero, List.set_cons_succ, List.getElem_toArray, List.getElem_cons_succ, List.getElem_cons_zero])
                refine wpAnyH_take (i := 17) (v := ?fbv17) rfl (by kernel_rfl) (by kernel_rfl) (by kernel_rfl) (fun _ _ _ h => h) (Or.inl ⟨by rfl, ?fby17⟩) (by assumption) ?fbr17
                case fby17 => (intro w hSw; (try dsimp only at hSw); go_simp; try with_reducible rfl)
                (try simp only [Act.put, List.setIfInBounds_toArray, List.set_cons_zero, List.set_cons_succ, List.getElem_toArray, List.getElem_cons_succ, List.getElem_cons_zero])
                refine wpAnyH_ready (rs := [18]) (by kernel_rfl) (by simp) ?_
                refine AllReadyH.cons rfl (fun K hK => ?_) AllReadyH.nil
                rw [if_pos (by rfl)]
                refine wp_store_row _ _ _ rfl R (stC Dn (.slice lva i lvc)) rfl rfl _ _ HRX.out Try.sizeSt rfl (stC_one _ _ _ _) ?_
                refine hK.out _ _ ⟨(cell_setRow_other _ _ _ _ HNX.out.1).trans hHeld.1, (cell_setRow_other _ _ _ _ HNX.out.1).trans hHeld.2.1, fun j u hj => (cell_setRow_other _ _ _ _ HNX.out.2).trans (hHeld.2.2 j u hj)⟩ (fun hHeld => ?_)
                clear hK K
                (try simp only [Act.put, List.setIfInBounds_toArray, List.set_cons_zero, List.set_cons_succ, List.getElem_toArray, List.getElem_cons_succ, List.getElem_cons_zero])
                refine wpAnyH_take (i := 19) (v := ?gbv19) rfl (by kernel_rfl) (by kernel_rfl) (by kernel_rfl) (fun _ _ _ h => h) (Or.inl ⟨by rfl, ?gby19⟩) (by assumption) ?gbr19
                case gby19 => (intro w hSw; (try dsimp only at hSw); go_simp; try with_reducible rfl)
                (try simp only [Act.put, List.setIfInBounds_toArray, List.set_cons_zero, List.set_cons_succ, List.getElem_toArray, List.getElem_cons_succ, List.getElem_cons_zero])
                refine wpAnyH_done (by kernel_rfl) ?_ _
                go_wp2_with fail
                (try simp only [Exit.inBlock, Exit.then])
                refine bodyPost_ret (results_stB rfl _ _ R _ Dn _ _ rfl (setRow_heap _ _ _ _ _ _ HRX.out)) rfl ?_
                exact ⟨Dn, lva, i, lvc, by rw [HLB.out]; rfl, (fun h => by rw [HLB.out] at h; cases h), below_row (RS.out.bel.drew) RS.out.pr _⟩
end Go.Proofs.Ytjimneaimnjanaa
