/- Texts of two letters, told by numbers. -/
import Derived.Test.YtbfmanhbbancmaaSpBase
import Derived.Laws.Strings
namespace Go.Proofs.Ytbfmanhbbancmaa.Tx
open Go.RowKit

def encN (v : Int) : Nat := if v < 0 then 2 * (-v).toNat + 1 else 2 * v.toNat
theorem encN_inj {a b : Int} (h : encN a = encN b) : a = b := by
  unfold encN at h
  split at h <;> split at h <;> omega
/-- The text that stands for v: two letters; another one for each other number. -/
def tx (v : Int) : ByteArray := if 0 ≤ v ∧ v < 65536 then ⟨#[UInt8.ofNat (v % 256).toNat, UInt8.ofNat (v / 256).toNat]⟩ else ⟨Array.replicate (3 + encN v) 0⟩
theorem tx_inj {a b : Int} (h : tx a = tx b) : a = b := by
  unfold tx at h
  split at h <;> split at h
  · rename_i ha hb
    have h1 := congrArg (fun x : ByteArray => x.data.toList) h
    simp only [List.cons.injEq, and_true] at h1
    have e1 := congrArg UInt8.toNat h1.1
    have e2 := congrArg UInt8.toNat h1.2
    simp only [UInt8.toNat_ofNat'] at e1 e2
    omega
  · have h1 := congrArg (fun x : ByteArray => x.data.size) h
    simp at h1
    omega
  · have h1 := congrArg (fun x : ByteArray => x.data.size) h
    simp at h1
    omega
  · have h1 := congrArg (fun x : ByteArray => x.data.size) h
    simp at h1
    exact encN_inj h1
theorem tx_eq (a b : Int) : ((tx a).toList == (tx b).toList) = (a == b) := by
  have h : (tx a).toList = (tx b).toList ↔ a = b := by
    constructor
    · intro h
      rw [ByteArray.toList_eq, ByteArray.toList_eq] at h
      exact tx_inj (ByteArray.ext (Array.toList_inj.1 h))
    · intro h; rw [h]
  rw [Bool.eq_iff_iff]
  simp [h]
/-- What Get hands out: the text, or none. -/
def gotV (v : Int) : Bool → Value
  | true => .string (tx v)
  | false => .string ByteArray.empty
end Go.Proofs.Ytbfmanhbbancmaa.Tx
