/- same of the laws answers true of two rows of the same rows of bytes. Conditions: the rows lie in memory. -/
import Derived.Test.YtpchmdfkifbciabJnRecs
namespace Go.Proofs.Ytpchmdfkifbciab
open Go.RowKit

theorem Btss.drewN {w : World} {v : Value} {ls : List (List UInt8)} (h : Btss w v ls) (n : Nat) : Btss (w.drewN n) v ls := h.below (drewN_below w n)
end Go.Proofs.Ytpchmdfkifbciab
