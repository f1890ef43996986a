/- What Get of a Map of numbers answers. -/
import Derived.Test.YtnkjkaofgninnaaSpMap
import Derived.BigQuiet
namespace Go.Proofs.Ytnkjkaofgninnaa
open Go.RowKit Go.Shelf

/-- What a row tells of a block. -/
def GetOf (l : List Pc) (k : Int) (v : Int) (ok : Bool) : Prop := (ok = true → HasP l k v) ∧ (ok = false → v = 0 ∧ ∀ u, ¬ HasP l k u)
end Go.Proofs.Ytnkjkaofgninnaa
