/- What the document builds of the parts between ends: plain facts. No condition. -/
import Derived.Test.YtbfmanhbbancmaaSpEnds
namespace Go.Proofs.Ytbfmanhbbancmaa

/-- The kept parts among the first i, as the document's Build goes over them. -/
def parts2 (E : List Int) (ks : List Bool) : Nat → List Sp
  | 0 => []
  | i + 1 => if ks.getD i false = true then parts2 E ks i ++ [(E.getD i 0, E.getD (i + 1) 0)] else parts2 E ks i
theorem parts2_cons (a : Int) (E : List Int) (k0 : Bool) (ks : List Bool) (i : Nat) : parts2 (a :: E) (k0 :: ks) (i + 1) = (if k0 = true then [(a, E.getD 0 0)] else []) ++ parts2 E ks i := by
  induction i with
  | zero => cases k0 <;> simp [parts2]
  | succ i ih =>
    rw [parts2, ih, parts2]
    simp only [List.getD_cons_succ]
    split <;> simp
/-- Over all, they are those between ends that are kept. -/
theorem parts2_all (keep : Int → Bool) (E : List Int) : parts2 E (E.map keep) (E.length - 1) = partsL keep E := by
  match E with
  | [] => rfl
  | [a] => rfl
  | a :: b :: l =>
    have ih := parts2_all keep (b :: l)
    have h := parts2_cons a (b :: l) (keep a) ((b :: l).map keep) ((b :: l).length - 1)
    have e : (a :: b :: l).length - 1 = ((b :: l).length - 1) + 1 := by simp
    rw [e, List.map_cons, h, ih]
    conv => rhs; unfold partsL
    split <;> simp
/-- What Build has made of the first i. -/
def buildN (E : List Int) (ks : List Bool) (i : Nat) : List Sp := (parts2 E ks i).foldl putL []
theorem buildN_next (E : List Int) (ks : List Bool) (i : Nat) : buildN E ks (i + 1) = if ks.getD i false = true then putL (buildN E ks i) (E.getD i 0, E.getD (i + 1) 0) else buildN E ks i := by
  unfold buildN
  rw [parts2]
  split
  · rw [List.foldl_append]; rfl
  · rfl
theorem buildN_all (a b : List Sp) (keep : Int → Bool) (E : List Int) (hE : E = endsL (endsL [] a) b) : buildN E (E.map keep) (E.length - 1) = ofL a b keep := by
  unfold buildN ofL
  rw [parts2_all, hE]
end Go.Proofs.Ytbfmanhbbancmaa
