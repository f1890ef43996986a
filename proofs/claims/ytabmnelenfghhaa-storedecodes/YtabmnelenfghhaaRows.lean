/-
  No cell of these rows narrows 'for every input' (looked for: loops, veiled, ifaces, maps, wideKeys, modest, calm, conditions, laid).
  DERIVED. THE GIVEN ROWS OF THIS SEAT. 3 by the template 'for every input the law returns true; each argument reads behind the call as it read before'; 0 by the template 'total and deterministic' (their statements: YtabmnelenfghhaaTotals.lean).
  GIVEN WITH THE SEED: the statements are not yours to turn. If you find one false, say at which input.
  Laid BY PROGRAM, IN A SANDBOX (cutbox-rows.mjs): the forced cells as the released guide's own fill.sh prints them over the translation 7b8c0442a12612a7… (all of the seat's roots in one cut). By AI agents, Wed Nov 11 2026. No macro, syntax, notation, axiom, sorry.
-/
import Derived.Test.YtabmnelenfghhaaChecked
import GoSem.Claim
import GoSem.ClaimJoined
import GoSem.ClaimMapViews
import Derived.JoinedTies
import Derived.KernelRfl
namespace Go.Proofs.Ytabmnelenfghhaa
/- THE CELL 'sum', in the pinned program and in every row, IS THE sha256 OF THE DUMP (.gsa) THAT YtabmnelenfghhaaProg.lean LOADS. Nothing in Lean hashes anything: it is a label: what it is worth is what the hold of that sum in a sandbox is worth. -/
noncomputable def Try.pinned : Pinned := { name := "ytabmnelenfghhaa", sum := "7b8c0442a12612a7da718d596317ebad87ece3b33b04ef4e8e137e8705d2f9f3", checked := Try.checked }
namespace Rows
def none {H : Type} : Left H := { results := [], args := [] }

/-- 'lamellalaw05.StoreLays': WHATEVER THE INPUT: true; the input reads as it did. -/
def storeLaysSpec : ChangeSpec := { name := "storeLays", fn := fun _ => fun
  | [d1, d2] => { results := [.lit (.bool true)], args := [d1, d2] }
  | _ => none }
def storeLaysRow : OpenClaim := { program := "ytabmnelenfghhaa", sum := "7b8c0442a12612a7da718d596317ebad87ece3b33b04ef4e8e137e8705d2f9f3", func := "lamella/lamellalaw05.StoreLays", spec := "storeLays", unfollowed := true, recurses := true, apart := false }
def StoreLaysSaid : Prop := storeLaysRow.holds Try.pinned (OpenSpec.ofChange storeLaysSpec)

/-- ITS FALSE NEIGHBOUR: 'it returns false'. Refute it at one input. -/
def storeLaysWrong : ChangeSpec := { name := "storeLays", fn := fun _ => fun
  | [d1, d2] => { results := [.lit (.bool false)], args := [d1, d2] }
  | _ => none }
def StoreLaysWrongFalsely : Prop := storeLaysRow.holds Try.pinned (OpenSpec.ofChange storeLaysWrong)

/-- 'lamellalaw05.StoreCodes': WHATEVER THE INPUT: true; the input reads as it did. -/
def storeCodesSpec : ChangeSpec := { name := "storeCodes", fn := fun _ => fun
  | [d1, d2] => { results := [.lit (.bool true)], args := [d1, d2] }
  | _ => none }
def storeCodesRow : OpenClaim := { program := "ytabmnelenfghhaa", sum := "7b8c0442a12612a7da718d596317ebad87ece3b33b04ef4e8e137e8705d2f9f3", func := "lamella/lamellalaw05.StoreCodes", spec := "storeCodes", unfollowed := true, recurses := true, apart := false }
def StoreCodesSaid : Prop := storeCodesRow.holds Try.pinned (OpenSpec.ofChange storeCodesSpec)

/-- ITS FALSE NEIGHBOUR: 'it returns false'. Refute it at one input. -/
def storeCodesWrong : ChangeSpec := { name := "storeCodes", fn := fun _ => fun
  | [d1, d2] => { results := [.lit (.bool false)], args := [d1, d2] }
  | _ => none }
def StoreCodesWrongFalsely : Prop := storeCodesRow.holds Try.pinned (OpenSpec.ofChange storeCodesWrong)

/-- 'lamellalaw05.StoreDecodes': WHATEVER THE INPUT: true; the input reads as it did. -/
def storeDecodesSpec : ChangeSpec := { name := "storeDecodes", fn := fun _ => fun
  | [d] => { results := [.lit (.bool true)], args := [d] }
  | _ => none }
def storeDecodesRow : OpenClaim := { program := "ytabmnelenfghhaa", sum := "7b8c0442a12612a7da718d596317ebad87ece3b33b04ef4e8e137e8705d2f9f3", func := "lamella/lamellalaw05.StoreDecodes", spec := "storeDecodes", unfollowed := true, recurses := true, apart := false }
def StoreDecodesSaid : Prop := storeDecodesRow.holds Try.pinned (OpenSpec.ofChange storeDecodesSpec)

/-- ITS FALSE NEIGHBOUR: 'it returns false'. Refute it at one input. -/
def storeDecodesWrong : ChangeSpec := { name := "storeDecodes", fn := fun _ => fun
  | [d] => { results := [.lit (.bool false)], args := [d] }
  | _ => none }
def StoreDecodesWrongFalsely : Prop := storeDecodesRow.holds Try.pinned (OpenSpec.ofChange storeDecodesWrong)

/- THE SECOND FORM. 'bulk': how many values and letters a reading holds, each counted each time it is reached (what is shared counts as often as it is met; a slice's spare places count too). A statement '..UptoSaid' is the law's where the arguments, and the package variables that the reading takes, are together of bulk at most 1048576: NARROWER than '..Said'. Prove '..Said' where nothing that the law and all that it calls make is longer than what came in: it says more and counts as full. Else prove '..UptoSaid'. A law counts once. -/
mutual
def uptoBulk {H : Type} : DataW H → Nat
  | .lit (.string bytes) => bytes.length + 1
  | .lit _ => 1
  | .nil => 1
  | .ptr d => uptoBulk d + 1
  | .slice elems spare => uptoBulkAll elems + uptoBulkAll spare + 1
  | .agg parts => uptoBulkAll parts + 1
  | .iface _ d => uptoBulk d + 1
  | .map entries => uptoBulkEntries entries + 1
  | .held _ => 1
def uptoBulkAll {H : Type} : List (DataW H) → Nat
  | [] => 0
  | d :: r => uptoBulk d + uptoBulkAll r
def uptoBulkEntries {H : Type} : List (Lit × DataW H) → Nat
  | [] => 0
  | x :: r => uptoBulkEntry x + uptoBulkEntries r
def uptoBulkEntry {H : Type} : Lit × DataW H → Nat
  | (.string bytes, d) => bytes.length + uptoBulk d + 1
  | (_, d) => uptoBulk d + 1
 end
def uptoSmall : (H : Type) → List (DataW H) → Bool := fun _ ds => decide (uptoBulkAll ds ≤ 1048576)
def OpenSpec.upto (s : _root_.Go.ChangeSpec) : _root_.Go.OpenSpec := { _root_.Go.OpenSpec.ofChange s with cond := some uptoSmall }

/-- 'lamellalaw05.StoreLays', WHERE WHAT IT READS IS OF BULK AT MOST 1048576: true; the input reads as it did. -/
def storeLaysUptoRow : OpenClaim := { program := "ytabmnelenfghhaa", sum := "7b8c0442a12612a7da718d596317ebad87ece3b33b04ef4e8e137e8705d2f9f3", func := "lamella/lamellalaw05.StoreLays", spec := "storeLays", unfollowed := true, recurses := true, apart := false, narrowed := true }
def StoreLaysUptoSaid : Prop := storeLaysUptoRow.holds Try.pinned (OpenSpec.upto storeLaysSpec)

/-- 'lamellalaw05.StoreCodes', WHERE WHAT IT READS IS OF BULK AT MOST 1048576: true; the input reads as it did. -/
def storeCodesUptoRow : OpenClaim := { program := "ytabmnelenfghhaa", sum := "7b8c0442a12612a7da718d596317ebad87ece3b33b04ef4e8e137e8705d2f9f3", func := "lamella/lamellalaw05.StoreCodes", spec := "storeCodes", unfollowed := true, recurses := true, apart := false, narrowed := true }
def StoreCodesUptoSaid : Prop := storeCodesUptoRow.holds Try.pinned (OpenSpec.upto storeCodesSpec)

/-- 'lamellalaw05.StoreDecodes', WHERE WHAT IT READS IS OF BULK AT MOST 1048576: true; the input reads as it did. -/
def storeDecodesUptoRow : OpenClaim := { program := "ytabmnelenfghhaa", sum := "7b8c0442a12612a7da718d596317ebad87ece3b33b04ef4e8e137e8705d2f9f3", func := "lamella/lamellalaw05.StoreDecodes", spec := "storeDecodes", unfollowed := true, recurses := true, apart := false, narrowed := true }
def StoreDecodesUptoSaid : Prop := storeDecodesUptoRow.holds Try.pinned (OpenSpec.upto storeDecodesSpec)

end Rows
end Go.Proofs.Ytabmnelenfghhaa
