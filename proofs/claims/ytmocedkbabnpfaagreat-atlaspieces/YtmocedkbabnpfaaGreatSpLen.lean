/- What Len of a Map of numbers answers. Conditions: none. -/
import Derived.Test.YtmocedkbabnpfaaGreatSpNear
namespace Go.Proofs.YtmocedkbabnpfaaGreat
open Go.RowKit
end Go.Proofs.YtmocedkbabnpfaaGreat
