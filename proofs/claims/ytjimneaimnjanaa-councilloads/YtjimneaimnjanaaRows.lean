/-
  No cell of these rows narrows 'for every input' (looked for: loops, veiled, ifaces, maps, wideKeys, modest, calm, conditions, laid).
  DERIVED. THE GIVEN ROWS OF THIS SEAT. 5 by the template 'for every input the law returns true; each argument reads behind the call as it read before'; 0 by the template 'total and deterministic' (their statements: YtjimneaimnjanaaTotals.lean).
  GIVEN WITH THE SEED: the statements are not yours to turn. If you find one false, say at which input.
  Laid BY PROGRAM, IN A SANDBOX (cutbox-rows.mjs): the forced cells as the released guide's own fill.sh prints them over the translation 2cec0ff27d0e7a95… (all of the seat's roots in one cut). By AI agents, Wed Nov 11 2026. No macro, syntax, notation, axiom, sorry.
-/
import Derived.Test.YtjimneaimnjanaaChecked
import GoSem.Claim
import GoSem.ClaimJoined
import GoSem.ClaimMapViews
import Derived.JoinedTies
import Derived.KernelRfl
namespace Go.Proofs.Ytjimneaimnjanaa
/- THE CELL 'sum', in the pinned program and in every row, IS THE sha256 OF THE DUMP (.gsa) THAT YtjimneaimnjanaaProg.lean LOADS. Nothing in Lean hashes anything: it is a label: what it is worth is what the hold of that sum in a sandbox is worth. -/
noncomputable def Try.pinned : Pinned := { name := "ytjimneaimnjanaa", sum := "2cec0ff27d0e7a95bcfe238bbce809521f9abe62ce175ae519de8a99219198b6", checked := Try.checked }
namespace Rows
def none {H : Type} : Left H := { results := [], args := [] }

/-- 'lamellalaw10.CouncilLoads': WHATEVER THE INPUT: true; the input reads as it did. -/
def councilLoadsSpec : ChangeSpec := { name := "councilLoads", fn := fun _ => fun
  | [d1, d2] => { results := [.lit (.bool true)], args := [d1, d2] }
  | _ => none }
def councilLoadsRow : OpenClaim := { program := "ytjimneaimnjanaa", sum := "2cec0ff27d0e7a95bcfe238bbce809521f9abe62ce175ae519de8a99219198b6", func := "lamella/lamellalaw10.CouncilLoads", spec := "councilLoads", inPlace := ["internal/bytealg.IndexByteString"], unfollowed := true, recurses := true, apart := false }
def CouncilLoadsSaid : Prop := councilLoadsRow.holds Try.pinned (OpenSpec.ofChange councilLoadsSpec)

/-- ITS FALSE NEIGHBOUR: 'it returns false'. Refute it at one input. -/
def councilLoadsWrong : ChangeSpec := { name := "councilLoads", fn := fun _ => fun
  | [d1, d2] => { results := [.lit (.bool false)], args := [d1, d2] }
  | _ => none }
def CouncilLoadsWrongFalsely : Prop := councilLoadsRow.holds Try.pinned (OpenSpec.ofChange councilLoadsWrong)

/-- 'lamellalaw10.CouncilVotes': WHATEVER THE INPUT: true; the input reads as it did. -/
def councilVotesSpec : ChangeSpec := { name := "councilVotes", fn := fun _ => fun
  | [d1, d2] => { results := [.lit (.bool true)], args := [d1, d2] }
  | _ => none }
def councilVotesRow : OpenClaim := { program := "ytjimneaimnjanaa", sum := "2cec0ff27d0e7a95bcfe238bbce809521f9abe62ce175ae519de8a99219198b6", func := "lamella/lamellalaw10.CouncilVotes", spec := "councilVotes", inPlace := ["internal/bytealg.IndexByteString"], unfollowed := true, recurses := true, apart := false }
def CouncilVotesSaid : Prop := councilVotesRow.holds Try.pinned (OpenSpec.ofChange councilVotesSpec)

/-- ITS FALSE NEIGHBOUR: 'it returns false'. Refute it at one input. -/
def councilVotesWrong : ChangeSpec := { name := "councilVotes", fn := fun _ => fun
  | [d1, d2] => { results := [.lit (.bool false)], args := [d1, d2] }
  | _ => none }
def CouncilVotesWrongFalsely : Prop := councilVotesRow.holds Try.pinned (OpenSpec.ofChange councilVotesWrong)

/-- 'lamellalaw10.CouncilNews': WHATEVER THE INPUT: true; the input reads as it did. -/
def councilNewsSpec : ChangeSpec := { name := "councilNews", fn := fun _ => fun
  | [d1, d2, d3] => { results := [.lit (.bool true)], args := [d1, d2, d3] }
  | _ => none }
def councilNewsRow : OpenClaim := { program := "ytjimneaimnjanaa", sum := "2cec0ff27d0e7a95bcfe238bbce809521f9abe62ce175ae519de8a99219198b6", func := "lamella/lamellalaw10.CouncilNews", spec := "councilNews", inPlace := ["internal/bytealg.IndexByteString"], unfollowed := true, recurses := true, apart := false }
def CouncilNewsSaid : Prop := councilNewsRow.holds Try.pinned (OpenSpec.ofChange councilNewsSpec)

/-- ITS FALSE NEIGHBOUR: 'it returns false'. Refute it at one input. -/
def councilNewsWrong : ChangeSpec := { name := "councilNews", fn := fun _ => fun
  | [d1, d2, d3] => { results := [.lit (.bool false)], args := [d1, d2, d3] }
  | _ => none }
def CouncilNewsWrongFalsely : Prop := councilNewsRow.holds Try.pinned (OpenSpec.ofChange councilNewsWrong)

/-- 'lamellalaw10.CouncilForeign': WHATEVER THE INPUT: true; the input reads as it did. -/
def councilForeignSpec : ChangeSpec := { name := "councilForeign", fn := fun _ => fun
  | [d1, d2] => { results := [.lit (.bool true)], args := [d1, d2] }
  | _ => none }
def councilForeignRow : OpenClaim := { program := "ytjimneaimnjanaa", sum := "2cec0ff27d0e7a95bcfe238bbce809521f9abe62ce175ae519de8a99219198b6", func := "lamella/lamellalaw10.CouncilForeign", spec := "councilForeign", inPlace := ["internal/bytealg.IndexByteString"], unfollowed := true, recurses := true, apart := false }
def CouncilForeignSaid : Prop := councilForeignRow.holds Try.pinned (OpenSpec.ofChange councilForeignSpec)

/-- ITS FALSE NEIGHBOUR: 'it returns false'. Refute it at one input. -/
def councilForeignWrong : ChangeSpec := { name := "councilForeign", fn := fun _ => fun
  | [d1, d2] => { results := [.lit (.bool false)], args := [d1, d2] }
  | _ => none }
def CouncilForeignWrongFalsely : Prop := councilForeignRow.holds Try.pinned (OpenSpec.ofChange councilForeignWrong)

/-- 'lamellalaw10.CouncilAlone': WHATEVER THE INPUT: true; the input reads as it did. -/
def councilAloneSpec : ChangeSpec := { name := "councilAlone", fn := fun _ => fun
  | [d1, d2] => { results := [.lit (.bool true)], args := [d1, d2] }
  | _ => none }
def councilAloneRow : OpenClaim := { program := "ytjimneaimnjanaa", sum := "2cec0ff27d0e7a95bcfe238bbce809521f9abe62ce175ae519de8a99219198b6", func := "lamella/lamellalaw10.CouncilAlone", spec := "councilAlone", inPlace := ["internal/bytealg.IndexByteString"], unfollowed := true, recurses := true, apart := false }
def CouncilAloneSaid : Prop := councilAloneRow.holds Try.pinned (OpenSpec.ofChange councilAloneSpec)

/-- ITS FALSE NEIGHBOUR: 'it returns false'. Refute it at one input. -/
def councilAloneWrong : ChangeSpec := { name := "councilAlone", fn := fun _ => fun
  | [d1, d2] => { results := [.lit (.bool false)], args := [d1, d2] }
  | _ => none }
def CouncilAloneWrongFalsely : Prop := councilAloneRow.holds Try.pinned (OpenSpec.ofChange councilAloneWrong)

/- THE SECOND FORM. 'bulk': how many values and letters a reading holds, each counted each time it is reached (what is shared counts as often as it is met; a slice's spare places count too). A statement '..UptoSaid' is the law's where the arguments, and the package variables that the reading takes, are together of bulk at most 1048576: NARROWER than '..Said'. Prove '..Said' where nothing that the law and all that it calls make is longer than what came in: it says more and counts as full. Else prove '..UptoSaid'. A law counts once. -/
mutual
def uptoBulk {H : Type} : DataW H → Nat
  | .lit (.string bytes) => bytes.length + 1
  | .lit _ => 1
  | .nil => 1
  | .ptr d => uptoBulk d + 1
  | .slice elems spare => uptoBulkAll elems + uptoBulkAll spare + 1
  | .agg parts => uptoBulkAll parts + 1
  | .iface _ d => uptoBulk d + 1
  | .map entries => uptoBulkEntries entries + 1
  | .held _ => 1
def uptoBulkAll {H : Type} : List (DataW H) → Nat
  | [] => 0
  | d :: r => uptoBulk d + uptoBulkAll r
def uptoBulkEntries {H : Type} : List (Lit × DataW H) → Nat
  | [] => 0
  | x :: r => uptoBulkEntry x + uptoBulkEntries r
def uptoBulkEntry {H : Type} : Lit × DataW H → Nat
  | (.string bytes, d) => bytes.length + uptoBulk d + 1
  | (_, d) => uptoBulk d + 1
 end
def uptoSmall : (H : Type) → List (DataW H) → Bool := fun _ ds => decide (uptoBulkAll ds ≤ 1048576)
def OpenSpec.upto (s : _root_.Go.ChangeSpec) : _root_.Go.OpenSpec := { _root_.Go.OpenSpec.ofChange s with cond := some uptoSmall }

/-- 'lamellalaw10.CouncilLoads', WHERE WHAT IT READS IS OF BULK AT MOST 1048576: true; the input reads as it did. -/
def councilLoadsUptoRow : OpenClaim := { program := "ytjimneaimnjanaa", sum := "2cec0ff27d0e7a95bcfe238bbce809521f9abe62ce175ae519de8a99219198b6", func := "lamella/lamellalaw10.CouncilLoads", spec := "councilLoads", inPlace := ["internal/bytealg.IndexByteString"], unfollowed := true, recurses := true, apart := false, narrowed := true }
def CouncilLoadsUptoSaid : Prop := councilLoadsUptoRow.holds Try.pinned (OpenSpec.upto councilLoadsSpec)

/-- 'lamellalaw10.CouncilVotes', WHERE WHAT IT READS IS OF BULK AT MOST 1048576: true; the input reads as it did. -/
def councilVotesUptoRow : OpenClaim := { program := "ytjimneaimnjanaa", sum := "2cec0ff27d0e7a95bcfe238bbce809521f9abe62ce175ae519de8a99219198b6", func := "lamella/lamellalaw10.CouncilVotes", spec := "councilVotes", inPlace := ["internal/bytealg.IndexByteString"], unfollowed := true, recurses := true, apart := false, narrowed := true }
def CouncilVotesUptoSaid : Prop := councilVotesUptoRow.holds Try.pinned (OpenSpec.upto councilVotesSpec)

/-- 'lamellalaw10.CouncilNews', WHERE WHAT IT READS IS OF BULK AT MOST 1048576: true; the input reads as it did. -/
def councilNewsUptoRow : OpenClaim := { program := "ytjimneaimnjanaa", sum := "2cec0ff27d0e7a95bcfe238bbce809521f9abe62ce175ae519de8a99219198b6", func := "lamella/lamellalaw10.CouncilNews", spec := "councilNews", inPlace := ["internal/bytealg.IndexByteString"], unfollowed := true, recurses := true, apart := false, narrowed := true }
def CouncilNewsUptoSaid : Prop := councilNewsUptoRow.holds Try.pinned (OpenSpec.upto councilNewsSpec)

/-- 'lamellalaw10.CouncilForeign', WHERE WHAT IT READS IS OF BULK AT MOST 1048576: true; the input reads as it did. -/
def councilForeignUptoRow : OpenClaim := { program := "ytjimneaimnjanaa", sum := "2cec0ff27d0e7a95bcfe238bbce809521f9abe62ce175ae519de8a99219198b6", func := "lamella/lamellalaw10.CouncilForeign", spec := "councilForeign", inPlace := ["internal/bytealg.IndexByteString"], unfollowed := true, recurses := true, apart := false, narrowed := true }
def CouncilForeignUptoSaid : Prop := councilForeignUptoRow.holds Try.pinned (OpenSpec.upto councilForeignSpec)

/-- 'lamellalaw10.CouncilAlone', WHERE WHAT IT READS IS OF BULK AT MOST 1048576: true; the input reads as it did. -/
def councilAloneUptoRow : OpenClaim := { program := "ytjimneaimnjanaa", sum := "2cec0ff27d0e7a95bcfe238bbce809521f9abe62ce175ae519de8a99219198b6", func := "lamella/lamellalaw10.CouncilAlone", spec := "councilAlone", inPlace := ["internal/bytealg.IndexByteString"], unfollowed := true, recurses := true, apart := false, narrowed := true }
def CouncilAloneUptoSaid : Prop := councilAloneUptoRow.holds Try.pinned (OpenSpec.upto councilAloneSpec)

end Rows
end Go.Proofs.Ytjimneaimnjanaa
