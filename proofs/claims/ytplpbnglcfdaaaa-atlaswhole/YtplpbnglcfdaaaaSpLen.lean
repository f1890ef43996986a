/- What Len of a Map of numbers answers. Conditions: none. -/
import Derived.Test.YtplpbnglcfdaaaaSpNear
namespace Go.Proofs.Ytplpbnglcfdaaaa
open Go.RowKit
end Go.Proofs.Ytplpbnglcfdaaaa
