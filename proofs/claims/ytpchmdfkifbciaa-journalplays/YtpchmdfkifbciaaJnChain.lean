/- Plain facts on frames one behind another. Conditions: the data of each are at most MaxText bytes. -/
import Derived.Test.YtpchmdfkifbciaaJnUnframe
namespace Go.Proofs.Ytpchmdfkifbciaa
open Go.RowKit

def framesB (ls : List (List UInt8)) : List UInt8 := (ls.map frameB).flatten
theorem framesB_nil : framesB [] = [] := rfl
theorem framesB_cons (x : List UInt8) (ls : List (List UInt8)) : framesB (x :: ls) = frameB x ++ framesB ls := by simp [framesB]
theorem framesB_take (ls : List (List UInt8)) (k : Nat) (h : k < ls.length) : framesB (ls.take (k + 1)) = framesB (ls.take k) ++ frameB ls[k] := by
  unfold framesB
  rw [List.take_add_one, List.map_append, List.flatten_append, List.getElem?_eq_getElem h]
  simp
theorem framesB_drop (ls : List (List UInt8)) (k : Nat) (h : k < ls.length) : framesB (ls.drop k) = frameB ls[k] ++ framesB (ls.drop (k + 1)) := by
  rw [List.drop_eq_getElem_cons h, framesB_cons]
theorem framesB_split (ls : List (List UInt8)) (k : Nat) : framesB ls = framesB (ls.take k) ++ framesB (ls.drop k) := by
  unfold framesB
  rw [← List.flatten_append, ← List.map_append, List.take_append_drop]
theorem chain_drop (l : List UInt8) (ls : List (List UInt8)) (k : Nat) : (l ++ framesB ls).drop (l.length + (framesB (ls.take k)).length) = framesB (ls.drop k) := by
  rw [framesB_split ls k, ← List.append_assoc, List.drop_left' (by simp)]
theorem framesB_len_take (ls : List (List UInt8)) (k : Nat) (h : k < ls.length) : (framesB (ls.take (k + 1))).length = (framesB (ls.take k)).length + ls[k].length + 8 := by
  rw [framesB_take ls k h, List.length_append, frameB_len]; omega
theorem framesB_len_le (ls : List (List UInt8)) (k : Nat) : (framesB (ls.take k)).length ≤ (framesB ls).length := by
  rw [framesB_split ls k, List.length_append]; omega
theorem wordV_app (x rest : List UInt8) (hx : x.length ≤ 1048576) : wordV (frameB x ++ rest) = x.length := by
  unfold frameB headB; rw [List.append_assoc, List.append_assoc]; exact wordV_fourB _ _ (by omega)
theorem unfE_app (x rest : List UInt8) (hx : x.length ≤ 1048576) : unfE (frameB x ++ rest) = 0 := by
  have hfl := frameB_len x
  have h0 : ¬ frameB x ++ rest = [] := fun h => by have := congrArg List.length h; simp [hfl] at this
  have hlen : (frameB x ++ rest).length = x.length + 8 + rest.length := by rw [List.length_append, hfl]
  unfold unfE
  rw [if_neg h0, wordV_app x rest hx, if_neg (by omega), if_neg (by omega), if_neg (by omega), if_pos]
  have hh := headB_len x
  unfold frameB
  rw [List.append_assoc, List.drop_left' (by omega), List.take_left' (by omega)]
  exact wordV_fourB _ _ (crcAll_lt _)
theorem unfD_app (x rest : List UInt8) (hx : x.length ≤ 1048576) : unfD (frameB x ++ rest) = x := by
  unfold unfD
  rw [wordV_app x rest hx]
  unfold frameB headB
  rw [List.append_assoc, List.append_assoc, List.drop_left' (fourB_len _), List.take_left]
theorem Btss.below {w w' : World} {v : Value} {ls : List (List UInt8)} (h : Btss w v ls) (hb : Below w.heap.size w w') : Btss w' v ls := by
  obtain ⟨ao, n, cap, rfl, h1, h2, h3, h4, h5⟩ := h
  refine ⟨ao, n, cap, rfl, h1, h2, h3, h4, fun ad had j hj => ?_⟩
  obtain ⟨u, hu, hb'⟩ := h5 ad had j hj
  exact ⟨u, cell_later hb hu, hb'.below hb⟩
end Go.Proofs.Ytpchmdfkifbciaa
