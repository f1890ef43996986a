/- What Len of a Map of numbers answers. Conditions: none. -/
import Derived.Test.YtnkjkaofgninnaaGreatSpNear
namespace Go.Proofs.YtnkjkaofgninnaaGreat
open Go.RowKit
end Go.Proofs.YtnkjkaofgninnaaGreat
