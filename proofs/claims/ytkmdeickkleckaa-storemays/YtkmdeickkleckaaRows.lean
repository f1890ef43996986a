/-
  No cell of these rows narrows 'for every input' (looked for: loops, veiled, ifaces, maps, wideKeys, modest, calm, conditions, laid).
  DERIVED. THE GIVEN ROWS OF THIS SEAT. 6 by the template 'for every input the law returns true; each argument reads behind the call as it read before'; 0 by the template 'total and deterministic' (their statements: YtkmdeickkleckaaTotals.lean).
  GIVEN WITH THE SEED: the statements are not yours to turn. If you find one false, say at which input.
  Laid BY PROGRAM, IN A SANDBOX (cutbox-rows.mjs): the forced cells as the released guide's own fill.sh prints them over the translation 5b91a717d8c6a72d… (all of the seat's roots in one cut). By AI agents, Wed Nov 11 2026. No macro, syntax, notation, axiom, sorry.
-/
import Derived.Test.YtkmdeickkleckaaChecked
import GoSem.Claim
import GoSem.ClaimJoined
import GoSem.ClaimMapViews
import Derived.JoinedTies
import Derived.KernelRfl
namespace Go.Proofs.Ytkmdeickkleckaa
/- THE CELL 'sum', in the pinned program and in every row, IS THE sha256 OF THE DUMP (.gsa) THAT YtkmdeickkleckaaProg.lean LOADS. Nothing in Lean hashes anything: it is a label: what it is worth is what the hold of that sum in a sandbox is worth. -/
noncomputable def Try.pinned : Pinned := { name := "ytkmdeickkleckaa", sum := "5b91a717d8c6a72db223a626311d4d6741e4edbdc62324a39ca0b8279650e944", checked := Try.checked }
namespace Rows
def none {H : Type} : Left H := { results := [], args := [] }

/-- 'lamellalaw05.StoreApplies': WHATEVER THE INPUT: true; the input reads as it did. -/
def storeAppliesSpec : ChangeSpec := { name := "storeApplies", fn := fun _ => fun
  | [d1, d2] => { results := [.lit (.bool true)], args := [d1, d2] }
  | _ => none }
def storeAppliesRow : OpenClaim := { program := "ytkmdeickkleckaa", sum := "5b91a717d8c6a72db223a626311d4d6741e4edbdc62324a39ca0b8279650e944", func := "lamella/lamellalaw05.StoreApplies", spec := "storeApplies", unfollowed := true, recurses := true, apart := false }
def StoreAppliesSaid : Prop := storeAppliesRow.holds Try.pinned (OpenSpec.ofChange storeAppliesSpec)

/-- ITS FALSE NEIGHBOUR: 'it returns false'. Refute it at one input. -/
def storeAppliesWrong : ChangeSpec := { name := "storeApplies", fn := fun _ => fun
  | [d1, d2] => { results := [.lit (.bool false)], args := [d1, d2] }
  | _ => none }
def StoreAppliesWrongFalsely : Prop := storeAppliesRow.holds Try.pinned (OpenSpec.ofChange storeAppliesWrong)

/-- 'lamellalaw05.StoreMays': WHATEVER THE INPUT: true; the input reads as it did. -/
def storeMaysSpec : ChangeSpec := { name := "storeMays", fn := fun _ => fun
  | [d1, d2] => { results := [.lit (.bool true)], args := [d1, d2] }
  | _ => none }
def storeMaysRow : OpenClaim := { program := "ytkmdeickkleckaa", sum := "5b91a717d8c6a72db223a626311d4d6741e4edbdc62324a39ca0b8279650e944", func := "lamella/lamellalaw05.StoreMays", spec := "storeMays", unfollowed := true, recurses := true, apart := false }
def StoreMaysSaid : Prop := storeMaysRow.holds Try.pinned (OpenSpec.ofChange storeMaysSpec)

/-- ITS FALSE NEIGHBOUR: 'it returns false'. Refute it at one input. -/
def storeMaysWrong : ChangeSpec := { name := "storeMays", fn := fun _ => fun
  | [d1, d2] => { results := [.lit (.bool false)], args := [d1, d2] }
  | _ => none }
def StoreMaysWrongFalsely : Prop := storeMaysRow.holds Try.pinned (OpenSpec.ofChange storeMaysWrong)

/-- 'lamellalaw05.StoreMeddles': WHATEVER THE INPUT: true; the input reads as it did. -/
def storeMeddlesSpec : ChangeSpec := { name := "storeMeddles", fn := fun _ => fun
  | [d1, d2] => { results := [.lit (.bool true)], args := [d1, d2] }
  | _ => none }
def storeMeddlesRow : OpenClaim := { program := "ytkmdeickkleckaa", sum := "5b91a717d8c6a72db223a626311d4d6741e4edbdc62324a39ca0b8279650e944", func := "lamella/lamellalaw05.StoreMeddles", spec := "storeMeddles", unfollowed := true, recurses := true, apart := false }
def StoreMeddlesSaid : Prop := storeMeddlesRow.holds Try.pinned (OpenSpec.ofChange storeMeddlesSpec)

/-- ITS FALSE NEIGHBOUR: 'it returns false'. Refute it at one input. -/
def storeMeddlesWrong : ChangeSpec := { name := "storeMeddles", fn := fun _ => fun
  | [d1, d2] => { results := [.lit (.bool false)], args := [d1, d2] }
  | _ => none }
def StoreMeddlesWrongFalsely : Prop := storeMeddlesRow.holds Try.pinned (OpenSpec.ofChange storeMeddlesWrong)

/-- 'lamellalaw05.StoreSwaps': WHATEVER THE INPUT: true; the input reads as it did. -/
def storeSwapsSpec : ChangeSpec := { name := "storeSwaps", fn := fun _ => fun
  | [d1, d2, d3] => { results := [.lit (.bool true)], args := [d1, d2, d3] }
  | _ => none }
def storeSwapsRow : OpenClaim := { program := "ytkmdeickkleckaa", sum := "5b91a717d8c6a72db223a626311d4d6741e4edbdc62324a39ca0b8279650e944", func := "lamella/lamellalaw05.StoreSwaps", spec := "storeSwaps", unfollowed := true, recurses := true, apart := false }
def StoreSwapsSaid : Prop := storeSwapsRow.holds Try.pinned (OpenSpec.ofChange storeSwapsSpec)

/-- ITS FALSE NEIGHBOUR: 'it returns false'. Refute it at one input. -/
def storeSwapsWrong : ChangeSpec := { name := "storeSwaps", fn := fun _ => fun
  | [d1, d2, d3] => { results := [.lit (.bool false)], args := [d1, d2, d3] }
  | _ => none }
def StoreSwapsWrongFalsely : Prop := storeSwapsRow.holds Try.pinned (OpenSpec.ofChange storeSwapsWrong)

/-- 'lamellalaw05.StoreOnce': WHATEVER THE INPUT: true; the input reads as it did. -/
def storeOnceSpec : ChangeSpec := { name := "storeOnce", fn := fun _ => fun
  | [d1, d2, d3] => { results := [.lit (.bool true)], args := [d1, d2, d3] }
  | _ => none }
def storeOnceRow : OpenClaim := { program := "ytkmdeickkleckaa", sum := "5b91a717d8c6a72db223a626311d4d6741e4edbdc62324a39ca0b8279650e944", func := "lamella/lamellalaw05.StoreOnce", spec := "storeOnce", unfollowed := true, recurses := true, apart := false }
def StoreOnceSaid : Prop := storeOnceRow.holds Try.pinned (OpenSpec.ofChange storeOnceSpec)

/-- ITS FALSE NEIGHBOUR: 'it returns false'. Refute it at one input. -/
def storeOnceWrong : ChangeSpec := { name := "storeOnce", fn := fun _ => fun
  | [d1, d2, d3] => { results := [.lit (.bool false)], args := [d1, d2, d3] }
  | _ => none }
def StoreOnceWrongFalsely : Prop := storeOnceRow.holds Try.pinned (OpenSpec.ofChange storeOnceWrong)

/-- 'lamellalaw05.StoreLate': WHATEVER THE INPUT: true; the input reads as it did. -/
def storeLateSpec : ChangeSpec := { name := "storeLate", fn := fun _ => fun
  | [d1, d2, d3] => { results := [.lit (.bool true)], args := [d1, d2, d3] }
  | _ => none }
def storeLateRow : OpenClaim := { program := "ytkmdeickkleckaa", sum := "5b91a717d8c6a72db223a626311d4d6741e4edbdc62324a39ca0b8279650e944", func := "lamella/lamellalaw05.StoreLate", spec := "storeLate", unfollowed := true, recurses := true, apart := false }
def StoreLateSaid : Prop := storeLateRow.holds Try.pinned (OpenSpec.ofChange storeLateSpec)

/-- ITS FALSE NEIGHBOUR: 'it returns false'. Refute it at one input. -/
def storeLateWrong : ChangeSpec := { name := "storeLate", fn := fun _ => fun
  | [d1, d2, d3] => { results := [.lit (.bool false)], args := [d1, d2, d3] }
  | _ => none }
def StoreLateWrongFalsely : Prop := storeLateRow.holds Try.pinned (OpenSpec.ofChange storeLateWrong)

/- THE SECOND FORM. 'bulk': how many values and letters a reading holds, each counted each time it is reached (what is shared counts as often as it is met; a slice's spare places count too). A statement '..UptoSaid' is the law's where the arguments, and the package variables that the reading takes, are together of bulk at most 1048576: NARROWER than '..Said'. Prove '..Said' where nothing that the law and all that it calls make is longer than what came in: it says more and counts as full. Else prove '..UptoSaid'. A law counts once. -/
mutual
def uptoBulk {H : Type} : DataW H → Nat
  | .lit (.string bytes) => bytes.length + 1
  | .lit _ => 1
  | .nil => 1
  | .ptr d => uptoBulk d + 1
  | .slice elems spare => uptoBulkAll elems + uptoBulkAll spare + 1
  | .agg parts => uptoBulkAll parts + 1
  | .iface _ d => uptoBulk d + 1
  | .map entries => uptoBulkEntries entries + 1
  | .held _ => 1
def uptoBulkAll {H : Type} : List (DataW H) → Nat
  | [] => 0
  | d :: r => uptoBulk d + uptoBulkAll r
def uptoBulkEntries {H : Type} : List (Lit × DataW H) → Nat
  | [] => 0
  | x :: r => uptoBulkEntry x + uptoBulkEntries r
def uptoBulkEntry {H : Type} : Lit × DataW H → Nat
  | (.string bytes, d) => bytes.length + uptoBulk d + 1
  | (_, d) => uptoBulk d + 1
 end
def uptoSmall : (H : Type) → List (DataW H) → Bool := fun _ ds => decide (uptoBulkAll ds ≤ 1048576)
def OpenSpec.upto (s : _root_.Go.ChangeSpec) : _root_.Go.OpenSpec := { _root_.Go.OpenSpec.ofChange s with cond := some uptoSmall }

/-- 'lamellalaw05.StoreApplies', WHERE WHAT IT READS IS OF BULK AT MOST 1048576: true; the input reads as it did. -/
def storeAppliesUptoRow : OpenClaim := { program := "ytkmdeickkleckaa", sum := "5b91a717d8c6a72db223a626311d4d6741e4edbdc62324a39ca0b8279650e944", func := "lamella/lamellalaw05.StoreApplies", spec := "storeApplies", unfollowed := true, recurses := true, apart := false, narrowed := true }
def StoreAppliesUptoSaid : Prop := storeAppliesUptoRow.holds Try.pinned (OpenSpec.upto storeAppliesSpec)

/-- 'lamellalaw05.StoreMays', WHERE WHAT IT READS IS OF BULK AT MOST 1048576: true; the input reads as it did. -/
def storeMaysUptoRow : OpenClaim := { program := "ytkmdeickkleckaa", sum := "5b91a717d8c6a72db223a626311d4d6741e4edbdc62324a39ca0b8279650e944", func := "lamella/lamellalaw05.StoreMays", spec := "storeMays", unfollowed := true, recurses := true, apart := false, narrowed := true }
def StoreMaysUptoSaid : Prop := storeMaysUptoRow.holds Try.pinned (OpenSpec.upto storeMaysSpec)

/-- 'lamellalaw05.StoreMeddles', WHERE WHAT IT READS IS OF BULK AT MOST 1048576: true; the input reads as it did. -/
def storeMeddlesUptoRow : OpenClaim := { program := "ytkmdeickkleckaa", sum := "5b91a717d8c6a72db223a626311d4d6741e4edbdc62324a39ca0b8279650e944", func := "lamella/lamellalaw05.StoreMeddles", spec := "storeMeddles", unfollowed := true, recurses := true, apart := false, narrowed := true }
def StoreMeddlesUptoSaid : Prop := storeMeddlesUptoRow.holds Try.pinned (OpenSpec.upto storeMeddlesSpec)

/-- 'lamellalaw05.StoreSwaps', WHERE WHAT IT READS IS OF BULK AT MOST 1048576: true; the input reads as it did. -/
def storeSwapsUptoRow : OpenClaim := { program := "ytkmdeickkleckaa", sum := "5b91a717d8c6a72db223a626311d4d6741e4edbdc62324a39ca0b8279650e944", func := "lamella/lamellalaw05.StoreSwaps", spec := "storeSwaps", unfollowed := true, recurses := true, apart := false, narrowed := true }
def StoreSwapsUptoSaid : Prop := storeSwapsUptoRow.holds Try.pinned (OpenSpec.upto storeSwapsSpec)

/-- 'lamellalaw05.StoreOnce', WHERE WHAT IT READS IS OF BULK AT MOST 1048576: true; the input reads as it did. -/
def storeOnceUptoRow : OpenClaim := { program := "ytkmdeickkleckaa", sum := "5b91a717d8c6a72db223a626311d4d6741e4edbdc62324a39ca0b8279650e944", func := "lamella/lamellalaw05.StoreOnce", spec := "storeOnce", unfollowed := true, recurses := true, apart := false, narrowed := true }
def StoreOnceUptoSaid : Prop := storeOnceUptoRow.holds Try.pinned (OpenSpec.upto storeOnceSpec)

/-- 'lamellalaw05.StoreLate', WHERE WHAT IT READS IS OF BULK AT MOST 1048576: true; the input reads as it did. -/
def storeLateUptoRow : OpenClaim := { program := "ytkmdeickkleckaa", sum := "5b91a717d8c6a72db223a626311d4d6741e4edbdc62324a39ca0b8279650e944", func := "lamella/lamellalaw05.StoreLate", spec := "storeLate", unfollowed := true, recurses := true, apart := false, narrowed := true }
def StoreLateUptoSaid : Prop := storeLateUptoRow.holds Try.pinned (OpenSpec.upto storeLateSpec)

end Rows
end Go.Proofs.Ytkmdeickkleckaa
