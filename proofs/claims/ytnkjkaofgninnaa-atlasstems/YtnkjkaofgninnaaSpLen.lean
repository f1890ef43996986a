/- What Len of a Map of numbers answers. Conditions: none. -/
import Derived.Test.YtnkjkaofgninnaaSpNear
namespace Go.Proofs.Ytnkjkaofgninnaa
open Go.RowKit
end Go.Proofs.Ytnkjkaofgninnaa
