/- The document's examples are as it says: lives answers true, whatever lies in memory; nothing that was there has turned. -/
import Derived.Test.YtabmnelenfghhaaNum
import Derived.Lib.SlBytesConst
namespace Go.Proofs.Ytabmnelenfghhaa
open Go.RowKit

theorem const_two (w : World) (O : Obj) (C : Array Value) (n c : Nat) :
    (convert 25 25 (.slice (some ⟨w.heap.size + 1, 0, none⟩) n c)).run Try.prog ((w.alloc O).alloc (.cells C 5)) = .ok (.slice (some ⟨w.heap.size + 1, 0, none⟩) n c) ((w.alloc O).alloc (.cells C 5 (C.size, C.size + 1))) := by
  have h := Lib.run_convert_bytes_const (P := Try.prog) (w.alloc O) 25 5 C n c Try.underlyingB Try.underlyingU
  simpa using h
end Go.Proofs.Ytabmnelenfghhaa
