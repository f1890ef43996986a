/- What Len of a Map of numbers answers. Conditions: none. -/
import Derived.Test.YtmgjjkcmgfpbdaaSpNear
namespace Go.Proofs.Ytmgjjkcmgfpbdaa
open Go.RowKit
end Go.Proofs.Ytmgjjkcmgfpbdaa
