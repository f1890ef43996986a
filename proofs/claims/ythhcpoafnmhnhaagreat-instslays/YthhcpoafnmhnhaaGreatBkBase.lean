/- Commands in memory; what the small functions of package blocks answer of them. No condition but that the texts lie in memory. -/
import Derived.Test.YthhcpoafnmhnhaaGreatRows
import Derived.WalkKit
import Derived.WalkSpells
import Derived.WalkLawsBesides
import Derived.Laws.AppendOwnNone
import Derived.Laws.OwnMore
import Derived.Below
import Derived.RangeFuncCalls
import Derived.Deep.QuietTactic
import Derived.BigQuiet
import Derived.Deep.RegionHeld3
namespace Go.Proofs.YthhcpoafnmhnhaaGreat
open Go.RowKit

theorem hid {p : Prop} (h : p) : Hid p := h
abbrev Sp := Int × Int
/-- Function f is one that is entered. -/
def Ent (f : FuncId) : Prop := ∀ (args : Array Value) (w : World), (callFunc f args).run Tryz.prog w = .ok (.enter f args) w
theorem belowN (w : World) (q : Nat) : Below w.heap.size w (w.drewN q) := ⟨rfl, rfl, rfl, Nat.le_refl _, fun _ _ => rfl⟩
/-- v is a slice of the texts ss. -/
def Strs (w : World) (v : Value) (ss : List ByteArray) : Prop :=
  ∃ ao n cap, v = .slice ao n cap ∧ n = ss.length ∧ n ≤ cap ∧ cap ≤ 9223372036854775807 ∧ (ao = none → cap = 0) ∧
    ∀ ad, ao = some ad → ∀ j, (h : j < ss.length) → w.cell? (ad.add j) = some (.string ss[j])
theorem Strs.below {w w' : World} {v : Value} {l : List ByteArray} (h : Strs w v l) (hb : Below w.heap.size w w') : Strs w' v l := by
  obtain ⟨ao, n, cap, rfl, h1, h2, h3, h4, h5⟩ := h
  exact ⟨ao, n, cap, rfl, h1, h2, h3, h4, fun ad had j hj => cell_later hb (h5 ad had j hj)⟩
theorem Strs.shape {w : World} {v : Value} {l : List ByteArray} (h : Strs w v l) : ∃ va vc, v = .slice va l.length vc := by
  obtain ⟨ao, n, cap, rfl, rfl, -⟩ := h; exact ⟨_, _, rfl⟩
theorem Strs.addr {w : World} {ao : Option Addr} {cap : Nat} {l : List ByteArray} (h : Strs w (.slice ao l.length cap) l) (hl : 0 < l.length) : ∃ b o, ao = some ⟨b, o, none⟩ := by
  obtain ⟨ao', n, cap', e, h1, h2, h3, h4, h5⟩ := h
  cases e
  cases ao with
  | none => have := h4 rfl; omega
  | some a =>
    have h0 := h5 a rfl 0 hl
    have := World.cell?_spot h0
    obtain ⟨b, o, sp⟩ := a
    simp [Addr.add] at this
    subst this
    exact ⟨b, o, rfl⟩
theorem Strs.lit {w : World} {b o cap : Nat} {l : List ByteArray} (h : Strs w (.slice (some ⟨b, o, none⟩) l.length cap) l) (j : Nat) (hj : j < l.length) : w.cell? ⟨b, o + j, none⟩ = some (.string l[j]) := by
  obtain ⟨ao', n, cap', e, h1, h2, h3, h4, h5⟩ := h
  cases e
  have := h5 _ rfl j hj
  rwa [Addr.add_lit] at this
theorem Strs.nil (w : World) : Strs w (.slice none 0 0) [] := ⟨none, 0, 0, rfl, rfl, Nat.le_refl _, by omega, (fun _ => rfl), (fun ad h => by cases h)⟩
/-- A command. -/
structure CmdD where
  op : Int
  client : Int
  seq : Int
  from' : Int
  to : Int
  data : List ByteArray
/-- v is the command c; its texts' slice is u. -/
def cmdV (c : CmdD) (u : Value) : Value := .agg #[.int .i64 c.op, .int .i64 c.client, .int .i64 c.seq, .int .i64 c.from', .int .i64 c.to, u]
def cmdO (c : CmdD) (u : Value) : Obj := .cells #[.int .i64 c.op, .int .i64 c.client, .int .i64 c.seq, .int .i64 c.from', .int .i64 c.to, u] 28
def I64 (n : Int) : Prop := -9223372036854775808 ≤ n ∧ n ≤ 9223372036854775807
structure CmdI (c : CmdD) : Prop where
  f : I64 c.from'
  t : I64 c.to
  l : c.data.length ≤ 1000000000

set_option maxHeartbeats 400000 in
theorem bempty_any (x : Sp) (w : World) :
    Calls Tryz.prog 97 #[.agg #[.int .i64 x.1, .int .i64 x.2]] w fun e w' => e = .returned (.bool (decide (x.2 ≤ x.1))) ∧ Below w.heap.size w w' := by
  obtain ⟨a, b⟩ := x
  go_enter Tryz.func97, Tryz.ntmps97
  go_wp2
  go_ret
  exact ⟨rfl, (Below.refl _ _).alloc (Nat.le_refl _) _⟩
set_option maxHeartbeats 400000 in
theorem holds_any (x y : Sp) (w : World) :
    Calls Tryz.prog 98 #[.agg #[.int .i64 x.1, .int .i64 x.2], .agg #[.int .i64 y.1, .int .i64 y.2]] w fun e w' => e = .returned (.bool (decide (x.1 ≤ y.1) && decide (y.2 ≤ x.2))) ∧ Below w.heap.size w w' := by
  obtain ⟨a, b⟩ := x
  obtain ⟨c, d⟩ := y
  simp only
  cases h : decide (a ≤ c) with
  | true =>
    go_enter Tryz.func98, Tryz.ntmps98
    go_wp2
    go_ret
    exact ⟨by simp, ((Below.refl _ _).alloc (Nat.le_refl _) _).alloc (by simp) _⟩
  | false =>
    go_enter Tryz.func98, Tryz.ntmps98
    go_wp2
    go_ret
    exact ⟨by simp, ((Below.refl _ _).alloc (Nat.le_refl _) _).alloc (by simp) _⟩
/-- May it be a store's span? -/
def mayBeB (x : Sp) : Bool := !decide (x.2 ≤ x.1) && (decide (0 ≤ x.1) && decide (x.2 ≤ 256))
set_option maxHeartbeats 400000 in
theorem mayBe_any (x : Sp) (w : World) :
    Calls Tryz.prog 81 #[.agg #[.int .i64 x.1, .int .i64 x.2]] w fun e w' => e = .returned (.bool (mayBeB x)) ∧ Below w.heap.size w w' := by
  obtain ⟨a, b⟩ := x
  have HB := hid ((Below.refl w.heap.size w).alloc (Nat.le_refl _) (.cells #[.int .i64 a, .int .i64 b] 107))
  have HN := hid (heap_alloc_new w (.cells #[.int .i64 a, .int .i64 b] 107))
  unfold mayBeB
  simp only
  cases h : decide (b ≤ a) with
  | true =>
    go_enter Tryz.func81, Tryz.ntmps81
    go_wp2_with (first | (go_at_call 97; refine (bempty_any (a, b) _).mono ?_; rintro e w1 ⟨rfl, hb1⟩; simp only [h]; have B1 := hid (HB.out.trans (hb1.mono HB.out.size)); clear hb1))
    go_ret
    exact ⟨by simp, B1.out⟩
  | false =>
    go_enter Tryz.func81, Tryz.ntmps81
    go_wp2_with (first | (go_at_call 97; refine (bempty_any (a, b) _).mono ?_; rintro e w1 ⟨rfl, hb1⟩; simp only [h]; have hk := (hb1.block w.heap.size (by simp)).trans HN.out; have c0 : w1.cell? ⟨w.heap.size, 0, none⟩ = some (.int .i64 a) := (by rw [cell_of_row _ _ _ _ _ _ hk]; rfl); have c1 : w1.cell? ⟨w.heap.size, 1, none⟩ = some (.int .i64 b) := (by rw [cell_of_row _ _ _ _ _ _ hk]; rfl); have B1 := hid (HB.out.trans (hb1.mono HB.out.size)); clear hb1 hk) | (go_at_call 98; refine (holds_any (0, 256) (a, b) _).mono ?_; rintro e w2 ⟨rfl, hb2⟩; have B2 := hid (B1.out.trans (hb2.mono B1.out.size)); clear hb2))
    go_ret
    exact ⟨by simp, B2.out⟩
/-- Is it what a client asks for? -/
def isClB (n : Int) : Bool := n == 1 || n == 2 || n == 3 || n == 4
set_option maxHeartbeats 400000 in
theorem isClients_any (n : Int) (w : World) :
    Calls Tryz.prog 70 #[.int .i64 n] w fun e w' => e = .returned (.bool (isClB n)) ∧ w' = w := by
  unfold isClB
  cases h1 : (n == 1) <;> cases h2 : (n == 2) <;> cases h3 : (n == 3)
  all_goals
    go_enter Tryz.func70, Tryz.ntmps70
    go_wp2
    go_ret
    exact ⟨by simp, rfl⟩
/-- A function's one result, a span that lies in a block. -/
theorem Tryz.structSp0 : (Tryz.prog.underlying 107).map (fun d => match d with | .struct _ | .array _ _ => true | _ => false) = some true := by kernel_rfl
theorem Tryz.structSp : ∃ d, Tryz.prog.underlying 107 = some d ∧ (match d with | .struct _ | .array _ _ => true | _ => false) = true := by
  have h := Tryz.structSp0
  cases hd : Tryz.prog.underlying 107 with
  | none => rw [hd] at h; cases h
  | some d => rw [hd] at h; exact ⟨d, rfl, by simpa using h⟩
theorem Tryz.sizeSp : (Tryz.prog.info? 107).map (·.size) = some 2 := by kernel_rfl
theorem results_span {fn : Func} {p : Tmp} (h : fn.results = #[.cell p 107]) (tmps : Array Value) (w : World) (g : Nat) (t : TypeId) (u v : Value) (fr : Nat × Nat)
    (hp : tmps.getD p undef = .pointer (some ⟨g, 0, none⟩)) (hg : w.heap[g]? = some (.cells #[u, v] t fr)) : (results fn tmps).run Tryz.prog w = .ok (.agg #[u, v]) w := by
  obtain ⟨d, hd1, hd2⟩ := Tryz.structSp
  refine results_cell_row h tmps w g t _ fr d hp hg hd1 ?_ Tryz.sizeSp
  cases d <;> first | rfl | (simp at hd2)
set_option maxHeartbeats 400000 in
theorem spanOf_any (c : CmdD) (ua : Option Addr) (un uc : Nat) (w : World) :
    Calls Tryz.prog 60 #[cmdV c (.slice ua un uc)] w fun e w' => e = .returned (.agg #[.int .i64 c.from', .int .i64 c.to]) ∧ Below w.heap.size w w' := by
  obtain ⟨o, cl, s, f, t, d⟩ := c
  unfold cmdV
  simp only
  go_enter Tryz.func60, Tryz.ntmps60
  go_wp2
  (try simp only [Exit.inBlock, Exit.then])
  refine bodyPost_ret (results_span rfl _ _ (w.heap.size + 1) _ _ _ _ rfl (heap_alloc2_new _ _ _)) rfl ?_
  exact ⟨rfl, ((Below.refl _ _).alloc (Nat.le_refl _) _).alloc (by simp) _⟩
end Go.Proofs.YthhcpoafnmhnhaaGreat
