/- The first 3000 bytes of each of some rows of bytes. No condition. -/
import Derived.Test.YtpchmdfkifbciabJnCalm
namespace Go.Proofs.Ytpchmdfkifbciab
open Go.RowKit

/-- The first 3000 bytes of each. -/
def smalls (ls : List (List UInt8)) : List (List UInt8) := ls.map (·.take 3000)
theorem smalls_le (ls : List (List UInt8)) : ∀ r ∈ smalls ls, r.length ≤ 3000 := by
  intro r hr
  obtain ⟨x, -, rfl⟩ := List.mem_map.1 hr
  simp; omega
theorem smalls_take (ls : List (List UInt8)) (i : Nat) (h : i < ls.length) : smalls (ls.take (i + 1)) = smalls (ls.take i) ++ [ls[i].take 3000] := by
  unfold smalls
  rw [List.take_succ_eq_append_getElem h, List.map_append]; rfl
end Go.Proofs.Ytpchmdfkifbciab
