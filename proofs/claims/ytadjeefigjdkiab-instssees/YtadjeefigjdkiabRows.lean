/-
  No cell of these rows narrows 'for every input' (looked for: loops, veiled, ifaces, maps, wideKeys, modest, calm, conditions, laid).
  DERIVED. THE GIVEN ROWS OF THIS SEAT. 2 by the template 'for every input the law returns true; each argument reads behind the call as it read before'; 0 by the template 'total and deterministic' (their statements: YtadjeefigjdkiabTotals.lean).
  GIVEN WITH THE SEED: the statements are not yours to turn. If you find one false, say at which input.
  Laid BY PROGRAM, IN A SANDBOX (cutbox-rows.mjs): the forced cells as the released guide's own fill.sh prints them over the translation 007a6213e8c58340… (all of the seat's roots in one cut). By AI agents, Wed Nov 11 2026. No macro, syntax, notation, axiom, sorry.
-/
import Derived.Test.YtadjeefigjdkiabChecked
import GoSem.Claim
import GoSem.ClaimJoined
import GoSem.ClaimMapViews
import Derived.JoinedTies
import Derived.KernelRfl
namespace Go.Proofs.Ytadjeefigjdkiab
/- THE CELL 'sum', in the pinned program and in every row, IS THE sha256 OF THE DUMP (.gsa) THAT YtadjeefigjdkiabProg.lean LOADS. Nothing in Lean hashes anything: it is a label: what it is worth is what the hold of that sum in a sandbox is worth. -/
noncomputable def Try.pinned : Pinned := { name := "ytadjeefigjdkiab", sum := "007a6213e8c583409b4c9b60b27947a9f93bc054bf8b00c0ca6ae58df9c80fd1", checked := Try.checked }
namespace Rows
def none {H : Type} : Left H := { results := [], args := [] }

/-- 'lamellalaw07.InstsOrders': WHATEVER THE INPUT: true; the input reads as it did. -/
def instsOrdersSpec : ChangeSpec := { name := "instsOrders", fn := fun _ => fun
  | [d1, d2, d3] => { results := [.lit (.bool true)], args := [d1, d2, d3] }
  | _ => none }
def instsOrdersRow : OpenClaim := { program := "ytadjeefigjdkiab", sum := "007a6213e8c583409b4c9b60b27947a9f93bc054bf8b00c0ca6ae58df9c80fd1", func := "lamella/lamellalaw07.InstsOrders", spec := "instsOrders", unfollowed := true, recurses := true, plainKeys := false, apart := false }
def InstsOrdersSaid : Prop := instsOrdersRow.holds Try.pinned (OpenSpec.ofChange instsOrdersSpec)

/-- ITS FALSE NEIGHBOUR: 'it returns false'. Refute it at one input. -/
def instsOrdersWrong : ChangeSpec := { name := "instsOrders", fn := fun _ => fun
  | [d1, d2, d3] => { results := [.lit (.bool false)], args := [d1, d2, d3] }
  | _ => none }
def InstsOrdersWrongFalsely : Prop := instsOrdersRow.holds Try.pinned (OpenSpec.ofChange instsOrdersWrong)

/-- 'lamellalaw07.InstsSees': WHATEVER THE INPUT: true; the input reads as it did. -/
def instsSeesSpec : ChangeSpec := { name := "instsSees", fn := fun _ => fun
  | [d] => { results := [.lit (.bool true)], args := [d] }
  | _ => none }
def instsSeesRow : OpenClaim := { program := "ytadjeefigjdkiab", sum := "007a6213e8c583409b4c9b60b27947a9f93bc054bf8b00c0ca6ae58df9c80fd1", func := "lamella/lamellalaw07.InstsSees", spec := "instsSees", unfollowed := true, recurses := true, plainKeys := false, apart := false }
def InstsSeesSaid : Prop := instsSeesRow.holds Try.pinned (OpenSpec.ofChange instsSeesSpec)

/-- ITS FALSE NEIGHBOUR: 'it returns false'. Refute it at one input. -/
def instsSeesWrong : ChangeSpec := { name := "instsSees", fn := fun _ => fun
  | [d] => { results := [.lit (.bool false)], args := [d] }
  | _ => none }
def InstsSeesWrongFalsely : Prop := instsSeesRow.holds Try.pinned (OpenSpec.ofChange instsSeesWrong)

/- THE SECOND FORM. 'bulk': how many values and letters a reading holds, each counted each time it is reached (what is shared counts as often as it is met; a slice's spare places count too). A statement '..UptoSaid' is the law's where the arguments, and the package variables that the reading takes, are together of bulk at most 1048576: NARROWER than '..Said'. Prove '..Said' where nothing that the law and all that it calls make is longer than what came in: it says more and counts as full. Else prove '..UptoSaid'. A law counts once. -/
mutual
def uptoBulk {H : Type} : DataW H → Nat
  | .lit (.string bytes) => bytes.length + 1
  | .lit _ => 1
  | .nil => 1
  | .ptr d => uptoBulk d + 1
  | .slice elems spare => uptoBulkAll elems + uptoBulkAll spare + 1
  | .agg parts => uptoBulkAll parts + 1
  | .iface _ d => uptoBulk d + 1
  | .map entries => uptoBulkEntries entries + 1
  | .held _ => 1
def uptoBulkAll {H : Type} : List (DataW H) → Nat
  | [] => 0
  | d :: r => uptoBulk d + uptoBulkAll r
def uptoBulkEntries {H : Type} : List (Lit × DataW H) → Nat
  | [] => 0
  | x :: r => uptoBulkEntry x + uptoBulkEntries r
def uptoBulkEntry {H : Type} : Lit × DataW H → Nat
  | (.string bytes, d) => bytes.length + uptoBulk d + 1
  | (_, d) => uptoBulk d + 1
 end
def uptoSmall : (H : Type) → List (DataW H) → Bool := fun _ ds => decide (uptoBulkAll ds ≤ 1048576)
def OpenSpec.upto (s : _root_.Go.ChangeSpec) : _root_.Go.OpenSpec := { _root_.Go.OpenSpec.ofChange s with cond := some uptoSmall }

/-- 'lamellalaw07.InstsOrders', WHERE WHAT IT READS IS OF BULK AT MOST 1048576: true; the input reads as it did. -/
def instsOrdersUptoRow : OpenClaim := { program := "ytadjeefigjdkiab", sum := "007a6213e8c583409b4c9b60b27947a9f93bc054bf8b00c0ca6ae58df9c80fd1", func := "lamella/lamellalaw07.InstsOrders", spec := "instsOrders", unfollowed := true, recurses := true, plainKeys := false, apart := false, narrowed := true }
def InstsOrdersUptoSaid : Prop := instsOrdersUptoRow.holds Try.pinned (OpenSpec.upto instsOrdersSpec)

/-- 'lamellalaw07.InstsSees', WHERE WHAT IT READS IS OF BULK AT MOST 1048576: true; the input reads as it did. -/
def instsSeesUptoRow : OpenClaim := { program := "ytadjeefigjdkiab", sum := "007a6213e8c583409b4c9b60b27947a9f93bc054bf8b00c0ca6ae58df9c80fd1", func := "lamella/lamellalaw07.InstsSees", spec := "instsSees", unfollowed := true, recurses := true, plainKeys := false, apart := false, narrowed := true }
def InstsSeesUptoSaid : Prop := instsSeesUptoRow.holds Try.pinned (OpenSpec.upto instsSeesSpec)

end Rows
end Go.Proofs.Ytadjeefigjdkiab
