/- Alike: a map of shards and the document's that has the same. Conditions: both lie in memory, the shards stand one behind the other. -/
import Derived.Test.YtnkjkaofgninnaaAtShards
namespace Go.Proofs.Ytnkjkaofgninnaa
open Go.RowKit Go.Maps Go.Shelf
set_option linter.unusedVariables false
set_option linter.unusedSimpArgs false

/-- What holds of each map of shards. -/
structure AIn (N : AtN) (X : List SX) : Prop where
  ch : Chn 0 X N.bl
  shb : ∀ x ∈ X, ShB x.s
  id : ∀ x ∈ X, 1 ≤ x.s.id ∧ x.s.id ≤ 4611686018427387904
  one : ∀ x ∈ X, ∀ y ∈ X, y.s.id = x.s.id → y = x
  len : X.length ≤ 100000
  opl : N.op.length ≤ 1000000
  bl : N.bl ≤ 1000000
theorem AIn.i64 {N : AtN} {X : List SX} (h : AIn N X) : ∀ x ∈ X, I64 x.s.id := fun x hx => by have := h.id x hx; constructor <;> omega
end Go.Proofs.Ytnkjkaofgninnaa
