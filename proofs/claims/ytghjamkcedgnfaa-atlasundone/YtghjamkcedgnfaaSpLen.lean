/- What Len of a Map of numbers answers. Conditions: none. -/
import Derived.Test.YtghjamkcedgnfaaSpNear
namespace Go.Proofs.Ytghjamkcedgnfaa
open Go.RowKit
end Go.Proofs.Ytghjamkcedgnfaa
