/- What the functions on sums answer: shiftByte, More and Sum of package octet, Sum and CRC of the document's answer. Conditions: the rows of bytes lie in memory as lists. -/
import Derived.Test.YtabmnelenfghhaaRows
import Derived.Test.YtabmnelenfghhaaMath
import Derived.WalkSpells
import Derived.WalkLawsBesides
namespace Go.Proofs.Ytabmnelenfghhaa
open Go.RowKit

theorem hio {p : Prop} (h : p) : Hid p := h
/-- The value v is a slice whose elements are the bytes l. -/
def Bts (w : World) (v : Value) (l : List UInt8) : Prop :=
  ∃ ao n cap, v = .slice ao n cap ∧ n = l.length ∧ n ≤ cap ∧ cap ≤ 9223372036854775807 ∧ (ao = none → cap = 0) ∧
    ∀ ad, ao = some ad → ∀ j, (h : j < l.length) → w.cell? (ad.add j) = some (.int .u8 (l[j].toNat : Int))

theorem ret_u32 {a b : Int} (h : a = b) : Ending.returned (.int .u32 a) = .returned (.int .u32 b) := by rw [h]

/-- The value v is a slice of slices of bytes. -/
def Btss (w : World) (v : Value) (ls : List (List UInt8)) : Prop :=
  ∃ ao n cap, v = .slice ao n cap ∧ n = ls.length ∧ n ≤ cap ∧ cap ≤ 9223372036854775807 ∧ (ao = none → cap = 0) ∧
    ∀ ad, ao = some ad → ∀ j, (h : j < ls.length) → ∃ u, w.cell? (ad.add j) = some u ∧ Bts w u ls[j]

/-- The sum of several parts, one behind another. -/
def sumAll (ls : List (List UInt8)) : Nat := ls.foldl (fun s l => 4294967295 - crcRow (4294967295 - s) l) 0

end Go.Proofs.Ytabmnelenfghhaa
