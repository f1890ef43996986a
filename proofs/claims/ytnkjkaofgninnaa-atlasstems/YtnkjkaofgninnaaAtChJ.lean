/- The numbers of a change. No condition. -/
import Derived.Test.YtnkjkaofgninnaaAtGone
namespace Go.Proofs.Ytnkjkaofgninnaa

def numC (c : ChD) : List Int := [c.k, c.sh, c.ot, c.at', c.out, c.in']
def ChJ (c : ChD) : Prop := ∀ x ∈ numC c, I64 x
end Go.Proofs.Ytnkjkaofgninnaa
