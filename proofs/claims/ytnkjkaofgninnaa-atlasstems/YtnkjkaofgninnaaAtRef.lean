/- The document's IsMembers and New; Find of any block. Conditions: they lie in memory. -/
import Derived.Test.YtnkjkaofgninnaaAtSameS
namespace Go.Proofs.Ytnkjkaofgninnaa
open Go.RowKit Go.Maps Go.Shelf
set_option linter.unusedVariables false
set_option linter.unusedSimpArgs false

/-- The document's map of shards: the row of its shards is X. -/
structure RA (w : World) (b : Nat) (N : AtN) (ov sv : Value) (X : List SX) : Prop where
  box : w.heap[b]? = some (.cells #[.int .i64 N.bl, .int .i64 N.ep, .int .i64 N.nx, ov, sv] 69 (0, 0))
  opn : Nums w ov N.op
  row : w.ownsRow 0 46 5 sv X.length (shvs X)
  mem : ∀ x ∈ X, ShN w x.s x.mv x.pv
theorem RA.below {w w' : World} {b : Nat} {N : AtN} {ov sv : Value} {X : List SX} (h : RA w b N ov sv X) (hb : Below w.heap.size w w') : RA w' b N ov sv X :=
  ⟨(hb.block b (lt_of_block h.box)).trans h.box, h.opn.below hb, own_below h.row hb, fun x hx => (h.mem x hx).below hb⟩
/-- What the document's New leaves. -/
def RNw (bl : Int) (l : List Int) (v : Value) (w : World) (e : Ending) (w' : World) : Prop := ∃ b sv, e = .returned (.pointer (some ⟨b, 0, none⟩)) ∧ RA w' b ⟨bl, 1, 2, []⟩ (.slice none 0 0) sv [⟨⟨1, 0, bl, l, []⟩, v, .slice none 0 0⟩] ∧ Below w.heap.size w w'
set_option maxRecDepth 100000 in
set_option maxHeartbeats 4000000 in
theorem rnewA_any (bl : Int) (l : List Int) (v : Value) (w : World) (hv : Nums w v l) :
    Calls Try.prog 19 #[.int .i64 bl, v] w (RNw bl l v w) := by
  obtain ⟨va, vc, rfl⟩ := hv.shape
  have HV := hid hv
  clear hv
  obtain ⟨h1, h2⟩ := heap_two w (.cells #[.int .i64 1, .int .i64 0, .int .i64 bl, .slice va l.length vc, .slice none 0 0] 46) (.cells #[.int .i64 bl, .int .i64 1, .int .i64 2, .slice none 0 0, .slice (some ⟨w.heap.size, 0, none⟩) 1 1] 69)
  have hb : Below w.heap.size w ((w.alloc (.cells #[.int .i64 1, .int .i64 0, .int .i64 bl, .slice va l.length vc, .slice none 0 0] 46)).alloc (.cells #[.int .i64 bl, .int .i64 1, .int .i64 2, .slice none 0 0, .slice (some ⟨w.heap.size, 0, none⟩) 1 1] 69)) := ((Below.refl _ _).alloc (Nat.le_refl _) _).alloc (by simp) _
  have HF : Hid (RNw bl l (.slice va l.length vc) w (.returned (.pointer (some ⟨w.heap.size + 1, 0, none⟩))) ((w.alloc (.cells #[.int .i64 1, .int .i64 0, .int .i64 bl, .slice va l.length vc, .slice none 0 0] 46)).alloc (.cells #[.int .i64 bl, .int .i64 1, .int .i64 2, .slice none 0 0, .slice (some ⟨w.heap.size, 0, none⟩) 1 1] 69))) := hid (by
    refine ⟨w.heap.size + 1, .slice (some ⟨w.heap.size, 0, none⟩) 1 1, rfl, ⟨h2, Nums.nil _, ?_, ?_⟩, hb⟩
    · exact ⟨rfl, .inr ⟨w.heap.size, 1, _, rfl, Nat.zero_le _, h1, Nat.le_refl _, by unfold maxLen; omega, rfl, rfl⟩⟩
    · intro x hx
      rw [List.mem_singleton.1 hx]
      exact ⟨HV.out.below hb, [], rfl, World.ownsRow_nil _ _ _ _, fun x hx => by cases hx⟩)
  clear h1 h2 hb
  go_enter Try.func19, Try.ntmps19
  go_wp2_with fail
  go_ret
  simpa using HF.out
/-- Find, of any block. -/
def FdP (X : List SX) (k : Int) (w : World) (e : Ending) (w' : World) : Prop := (∃ x ∈ X, x.s.fr ≤ k ∧ k < x.s.to ∧ GtS x.s true w e w') ∨ ((∀ x ∈ X, ¬ (x.s.fr ≤ k ∧ k < x.s.to)) ∧ GtS zS false w e w')
end Go.Proofs.Ytnkjkaofgninnaa
