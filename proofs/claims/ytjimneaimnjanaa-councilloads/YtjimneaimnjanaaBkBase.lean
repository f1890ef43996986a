/- Commands in memory; what the small functions of package blocks answer of them. No condition but that the texts lie in memory. -/
import Derived.Test.YtjimneaimnjanaaRows
import Derived.WalkKit
import Derived.WalkSpells
import Derived.WalkLawsBesides
import Derived.Laws.AppendOwnNone
import Derived.Laws.OwnMore
import Derived.Below
import Derived.RangeFuncCalls
import Derived.Deep.QuietTactic
import Derived.BigQuiet
import Derived.Deep.RegionHeld3
namespace Go.Proofs.Ytjimneaimnjanaa
open Go.RowKit

theorem hid {p : Prop} (h : p) : Hid p := h
abbrev Sp := Int × Int
/-- Function f is one that is entered. -/
def Ent (f : FuncId) : Prop := ∀ (args : Array Value) (w : World), (callFunc f args).run Try.prog w = .ok (.enter f args) w
theorem belowN (w : World) (q : Nat) : Below w.heap.size w (w.drewN q) := ⟨rfl, rfl, rfl, Nat.le_refl _, fun _ _ => rfl⟩
/-- v is a slice of the texts ss. -/
def Strs (w : World) (v : Value) (ss : List ByteArray) : Prop :=
  ∃ ao n cap, v = .slice ao n cap ∧ n = ss.length ∧ n ≤ cap ∧ cap ≤ 9223372036854775807 ∧ (ao = none → cap = 0) ∧
    ∀ ad, ao = some ad → ∀ j, (h : j < ss.length) → w.cell? (ad.add j) = some (.string ss[j])
theorem Strs.below {w w' : World} {v : Value} {l : List ByteArray} (h : Strs w v l) (hb : Below w.heap.size w w') : Strs w' v l := by
  obtain ⟨ao, n, cap, rfl, h1, h2, h3, h4, h5⟩ := h
  exact ⟨ao, n, cap, rfl, h1, h2, h3, h4, fun ad had j hj => cell_later hb (h5 ad had j hj)⟩
theorem Strs.shape {w : World} {v : Value} {l : List ByteArray} (h : Strs w v l) : ∃ va vc, v = .slice va l.length vc := by
  obtain ⟨ao, n, cap, rfl, rfl, -⟩ := h; exact ⟨_, _, rfl⟩
theorem Strs.addr {w : World} {ao : Option Addr} {cap : Nat} {l : List ByteArray} (h : Strs w (.slice ao l.length cap) l) (hl : 0 < l.length) : ∃ b o, ao = some ⟨b, o, none⟩ := by
  obtain ⟨ao', n, cap', e, h1, h2, h3, h4, h5⟩ := h
  cases e
  cases ao with
  | none => have := h4 rfl; omega
  | some a =>
    have h0 := h5 a rfl 0 hl
    have := World.cell?_spot h0
    obtain ⟨b, o, sp⟩ := a
    simp [Addr.add] at this
    subst this
    exact ⟨b, o, rfl⟩
theorem Strs.lit {w : World} {b o cap : Nat} {l : List ByteArray} (h : Strs w (.slice (some ⟨b, o, none⟩) l.length cap) l) (j : Nat) (hj : j < l.length) : w.cell? ⟨b, o + j, none⟩ = some (.string l[j]) := by
  obtain ⟨ao', n, cap', e, h1, h2, h3, h4, h5⟩ := h
  cases e
  have := h5 _ rfl j hj
  rwa [Addr.add_lit] at this
theorem Strs.nil (w : World) : Strs w (.slice none 0 0) [] := ⟨none, 0, 0, rfl, rfl, Nat.le_refl _, by omega, (fun _ => rfl), (fun ad h => by cases h)⟩
/-- A command. -/
structure CmdD where
  op : Int
  client : Int
  seq : Int
  from' : Int
  to : Int
  data : List ByteArray
/-- v is the command c; its texts' slice is u. -/
def cmdV (c : CmdD) (u : Value) : Value := .agg #[.int .i64 c.op, .int .i64 c.client, .int .i64 c.seq, .int .i64 c.from', .int .i64 c.to, u]
def cmdO (c : CmdD) (u : Value) : Obj := .cells #[.int .i64 c.op, .int .i64 c.client, .int .i64 c.seq, .int .i64 c.from', .int .i64 c.to, u] 50
def I64 (n : Int) : Prop := -9223372036854775808 ≤ n ∧ n ≤ 9223372036854775807
structure CmdI (c : CmdD) : Prop where
  f : I64 c.from'
  t : I64 c.to
  l : c.data.length ≤ 1000000000

/-- May it be a store's span? -/
def mayBeB (x : Sp) : Bool := !decide (x.2 ≤ x.1) && (decide (0 ≤ x.1) && decide (x.2 ≤ 256))
/-- Is it what a client asks for? -/
def isClB (n : Int) : Bool := n == 1 || n == 2 || n == 3 || n == 4
end Go.Proofs.Ytjimneaimnjanaa
