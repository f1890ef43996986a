/- How a list is read, as a function: a length, then so many elements; and what stays of a world behind it. No condition. -/
import Derived.Test.YtabmnelenfghhaaRCalls
import Derived.LaidEql
namespace Go.Proofs.Ytabmnelenfghhaa
open Go.RowKit

/-- A function value is not nil. -/
theorem run_eql_fn {P : Program} {t : TypeId} {a b : Array TypeId} {v : Bool} (w : World) (fn : Fn) (x y : Array Value) (h : P.underlying t = some (.func a b v)) : (binOp .eql t (.func fn x y) .nilFunc).run P w = .ok (.bool false) w := by
  have h : ∀ d : Nat, (Op.equalIn (d + 1) t (.func fn x y) .nilFunc).run P w = .ok false w := fun d => by simp [Op.equalIn, run_underlying h]
  simp only [binOp]
  simp [Op.equal, Op.maxDepth, h 9999]
def numV (s : Option (List UInt8)) : Nat := (numR s).1
def numS (s : Option (List UInt8)) : Option (List UInt8) := (numR s).2
/-- n elements, each read by rv and rs. -/
def getGo {α : Type} (rv : Option (List UInt8) → α) (rs : Option (List UInt8) → Option (List UInt8)) : Nat → Option (List UInt8) → List α → Option (List α) × Option (List UInt8)
  | 0, s, acc => (some acc, s)
  | n + 1, s, acc => if badO (rs s) then (none, none) else getGo rv rs n (rs s) (acc ++ [rv s])
def getR {α : Type} (rv : Option (List UInt8) → α) (rs : Option (List UInt8) → Option (List UInt8)) (s : Option (List UInt8)) : Option (List α) × Option (List UInt8) :=
  if badO (lenR 4096 s).2 then (none, none) else getGo rv rs (lenR 4096 s).1 (lenR 4096 s).2 []
/-- What an answer is: nothing, or a row of the call's own. -/
def GetV {α : Type} (ev : α → Value) (te : TypeId) (w : World) (base : Nat) (v : Value) : Option (List α) → Prop
  | none => v = .slice none 0 0
  | some acc => w.ownsRow base te 1 v acc.length (acc.map ev)
theorem rest_of_bad {w : World} {b : Nat} {s : Option (List UInt8)} (h : Rd w b s) (hb : badO s = true) : Rd w b none := by
  cases s with
  | none => exact h
  | some l => cases hb
theorem grown_any {w w' : World} {r : Option Nat} (h : w.grownBy w' none) : w.grownBy w' r := ⟨h.os, h.tape, h.output, h.size, fun k hk _ => h.block k hk (by simp)⟩
/-- A change to a row of the call's own, seen from the world in which the call began. -/
theorem grown_own {w w1 w2 : World} {b base : Nat} {te : TypeId} {v : Value} {n : Nat} {xs : List Value} (h : w.grownBy w1 (some b)) (ho : w1.ownsRow base te 1 v n xs) (hb : w.heap.size ≤ base) (hg : w1.grownBy w2 v.ownBlock) : w.grownBy w2 (some b) :=
  ⟨hg.os.trans h.os, hg.tape.trans h.tape, hg.output.trans h.output, Nat.le_trans h.size hg.size, fun k hk hr => (hg.block k (Nat.lt_of_lt_of_le hk h.size) (fun e => by have := (World.ownsRow.lt ho k e.symm).1; omega)).trans (h.block k hk hr)⟩
theorem Rd.own {w1 w2 : World} {b base : Nat} {s : Option (List UInt8)} {te : TypeId} {v : Value} {n : Nat} {xs : List Value} (h : Rd w1 b s) (ho : w1.ownsRow base te 1 v n xs) (hb : b < base) (hg : w1.grownBy w2 v.ownBlock) : Rd w2 b s :=
  h.beyond fun k hk => hg.block k (Nat.lt_of_le_of_lt hk h.lt) (fun e => by have := (World.ownsRow.lt ho k e.symm).1; omega)
theorem owns_shape {w : World} {base : Nat} {te : TypeId} {v : Value} {n : Nat} {xs : List Value} (h : w.ownsRow base te 1 v n xs) : ∃ va vc, v = .slice va n vc := by
  obtain ⟨h1, h2⟩ := h
  rcases h2 with ⟨rfl, h0⟩ | ⟨g, cap, cur, rfl, -⟩
  · exact ⟨none, 0, by rw [h0]⟩
  · exact ⟨_, _, rfl⟩
theorem owns_kept {w w' : World} {base b : Nat} {te : TypeId} {v : Value} {n : Nat} {xs : List Value} (h : w.ownsRow base te 1 v n xs) (hb : b < base) (hg : w.grownBy w' (some b)) : w'.ownsRow base te 1 v n xs := by
  refine h.kept hg (Or.inr fun e => ?_)
  have := (World.ownsRow.lt h b e).1
  omega

/-- 'append(l, x)', l of the call's own, x one cell in a new block. -/
theorem wpl_push {W : World} {ops : Array Oper} {rest : List Oper} {o : Oper} {a : Act} {Q : Exit → Act → World → Prop} (hgd : o.guard = none) (s y : Operand) (t : TypeId)
    (ho : o.op = .call { callee := .builtin .append, args := #[s, y], argTypes := #[t, t] })
    (base : Nat) (e : TypeId) (i : TypeInfo) (z : Value) (bytes : Nat) (ht : Try.prog.underlying t = some (.slice e)) (hi : Try.prog.info? e = some i) (hz : i.zero = some z) (hsize : i.size = 1) (hby : i.bytes = bytes) (hzs : z.cells.size = 1)
    (va : Option Addr) (vc n : Nat) (xs : List Value) (hs : a.eval s = .slice va n vc) (hown : W.ownsRow base e 1 (.slice va n vc) n xs) (x : Value) (hx : a.eval y = .slice (some ⟨W.heap.size, 0, none⟩) 1 1) (h1 : x.oneCell' = true)
    (hsz : (n + 1) * bytes ≤ 140737488355328) (hn : n + 1 ≤ 9223372036854775807) (hbase : base ≤ W.heap.size)
    (h : ∀ va' vc' w', w'.ownsRow base e 1 (.slice va' (n + 1) vc') (n + 1) (xs ++ [x]) → W.grownBy w' (Value.slice va n vc).ownBlock → wpList Try.prog ops Q rest (a.put o.dst (.slice va' (n + 1) vc')) w') :
    wpList Try.prog ops Q (o :: rest) a (W.alloc (.cells #[x] e)) := by
  refine wpList_append_own (W.alloc (.cells #[x] e)) hgd s y t ho base e i z 1 bytes ht hi hz hsize hby hzs (by decide) (.slice va n vc) n xs hs (hown.alloc _) ⟨W.heap.size, 0, none⟩ 1 1 [x] hx rfl ?_ ?_ (by unfold maxLen; omega) hsz (by simp; omega) ?_
  · intro j u hj
    match j, hj with
    | 0, hj =>
      simp at hj
      subst hj
      rw [Addr.add_lit, World.cell?_alloc_at _ _ _ _ rfl]; rfl
  · intro u hu
    simp at hu
    subst hu
    exact h1
  · intro v' w' ho' hg _
    obtain ⟨va', vc', rfl⟩ := owns_shape ho'
    refine h va' vc' w' ho' ⟨hg.os, hg.tape, hg.output, Nat.le_trans (by simp) hg.size, fun k hk hr => ?_⟩
    rw [hg.block k (by simp; omega) hr]
    exact Below.heap_alloc _ _ _ hk
/-- What holds at a round's head. -/
def GetSt {α : Type} (ev : α → Value) (te : TypeId) (rv : Option (List UInt8) → α) (rs : Option (List UInt8) → Option (List UInt8)) (w0 : World) (b : Nat) (R : Option (List α) × Option (List UInt8)) (n i : Nat) (va : Option Addr) (vc : Nat) (wr : World) : Prop :=
  ∃ l acc, acc.length = i ∧ i ≤ n ∧ wr.ownsRow w0.heap.size te 1 (.slice va i vc) i (acc.map ev) ∧ Rd wr b (some l) ∧ w0.grownBy wr (some b) ∧ R = getGo rv rs (n - i) (some l) acc
theorem getGo_succ {α : Type} (rv : Option (List UInt8) → α) (rs : Option (List UInt8) → Option (List UInt8)) (n i : Nat) (h : i < n) (s : Option (List UInt8)) (acc : List α) :
    getGo rv rs (n - i) s acc = if badO (rs s) then (none, none) else getGo rv rs (n - (i + 1)) (rs s) (acc ++ [rv s]) := by
  rw [show n - i = (n - (i + 1)) + 1 from by omega]; rfl
end Go.Proofs.Ytabmnelenfghhaa
