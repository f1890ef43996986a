/- What Len of a Map of numbers answers. Conditions: none. -/
import Derived.Test.YtkggeiljalfcpaaSpNear
namespace Go.Proofs.Ytkggeiljalfcpaa
open Go.RowKit
end Go.Proofs.Ytkggeiljalfcpaa
