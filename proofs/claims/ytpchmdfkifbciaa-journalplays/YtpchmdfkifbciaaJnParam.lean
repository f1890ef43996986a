/- Slices of bytes, slices of these, and slices of Ops, as they come in. No condition. -/
import Derived.Test.YtpchmdfkifbciaaJnAt
import Derived.ProofKit
import Derived.OpenShut
import Derived.ChangeOld
import Derived.Deep.SlicePairs
import Derived.Deep.Matrix
import Derived.Lib.SmallJoins
namespace Go.Proofs.Ytpchmdfkifbciaa
open Go.ChangeShapes Go.WideShapes Go.ChangeAt Go.RowKit Go.Deep

variable {H : Type} {enc : TypeId × Value → H} {w : World} {base : Nat} {spare : Nat → Bool} {held : Bool}

/-- A slice of bytes that came in. -/
theorem bts_of {n : Nat} {v : Value} {y : DataW H × List MemPlace} (h : DataW.trod enc Try.prog w base spare held n 34 [v] = some y) : ∃ l, Bts w v l := by
  rcases open_ints Try.underlyingB Try.underlyingU (by kernel_rfl) h with ⟨hcs, _⟩ | ⟨x, l, c, zs, hcs, _, hl, hm, hz, _, hcell, hwz⟩
  · simp at hcs
    subst hcs
    exact ⟨[], none, 0, 0, rfl, rfl, Nat.le_refl _, by omega, (fun _ => rfl), (fun ad h => by cases h)⟩
  · simp at hcs
    subst hcs
    have hlz : l ≤ zs.length := by rw [hz]; split <;> omega
    refine ⟨(zs.take l).map fun n => UInt8.ofNat n.toNat, some x, l, c, rfl, by simp; omega, hl, by unfold maxLen at hm; omega, (fun h => by cases h), ?_⟩
    intro ad had j hj
    obtain rfl := Option.some.inj had
    have hj' : j < zs.length := by simp at hj; omega
    rw [hcell j hj']
    have hwf := hwz zs[j] (List.getElem_mem hj')
    have hlo : 0 ≤ zs[j] ∧ zs[j] ≤ 255 := by simpa [Lit.wf, IntKind.min, IntKind.max, IntKind.signed, IntKind.bits] using hwf
    simp only [List.getElem_map, List.getElem_take, UInt8.toNat_ofNat', List.getD_eq_getElem?_getD, List.getElem?_eq_getElem hj', Option.getD_some]
    rw [Nat.mod_eq_of_lt (by omega), Int.toNat_of_nonneg hlo.1]
theorem Try.cellsB : Try.prog.cellsOf 34 = 1 := by kernel_rfl
/-- A slice of slices of bytes that came in. -/
theorem btss_of {n : Nat} {v : Value} {y : DataW H × List MemPlace} (h : DataW.trod enc Try.prog w base spare held n 35 [v] = some y) : ∃ ls, Btss w v ls := by
  rcases DataW.trod_slice Try.underlying35 h with ⟨hcs, _⟩ | ⟨a, len, cap, elems, rest, n', _, hcs, _, hb, hl, hm, hlen, hel, _, _⟩
  · simp at hcs
    subst hcs
    exact ⟨[], btss_nil _⟩
  · simp at hcs
    subst hcs
    have each : ∀ i, i < len → ∃ q : List UInt8 × Value, w.cell? (a.add i) = some q.2 ∧ Bts w q.2 q.1 := by
      intro i hi
      have h1 := hel i hi
      rw [List.getElem?_eq_getElem (by omega), Try.cellsB] at h1
      obtain ⟨cs, h2, h3⟩ := Option.bind_eq_some_iff.1 h1
      obtain ⟨_, hcl, hcell⟩ := World.cells?_some h2
      match cs, hcl with
      | [v0], _ =>
        obtain ⟨l, hl⟩ := bts_of h3
        have e0 := hcell 0 (by omega)
        rw [Addr.add_add] at e0
        exact ⟨(l, v0), by simpa using e0, hl⟩
    obtain ⟨q, hq⟩ := choose_lt each
    refine ⟨(List.range len).map fun i => (q i).1, some a, len, cap, rfl, by simp, hl, by unfold maxLen at hm; omega, (fun h => by cases h), fun ad had j hj => ?_⟩
    obtain rfl := Option.some.inj had
    have hj' : j < len := by simpa using hj
    simp only [List.getElem_map, List.getElem_range]
    exact ⟨_, hq j hj'⟩
/-- An Op of the journal's laws. -/
structure JOp where
  kind : Int
  n : Int
  m : List UInt8
/-- v is a slice of the Ops os. -/
def JOps (w : World) (v : Value) (os : List JOp) : Prop :=
  ∃ ao n cap, v = .slice ao n cap ∧ n = os.length ∧ n ≤ cap ∧ cap ≤ 9223372036854775807 ∧ (ao = none → cap = 0) ∧
    ∀ ad, ao = some ad → ∀ j, (h : j < os.length) → os[j].n ≤ 9223372036854775807 ∧ ∃ u, w.cell? (ad.add (j * 3)) = some (.int .i64 os[j].kind) ∧ w.cell? (ad.add (j * 3 + 1)) = some (.int .i64 os[j].n) ∧ w.cell? (ad.add (j * 3 + 2)) = some u ∧ Bts w u os[j].m
theorem add_more (ad : Addr) (k j : Nat) (hj : 0 < j) : ad.add (k + j) = ⟨(ad.add k).block, (ad.add k).off + j, none⟩ := by
  unfold Addr.add
  rw [if_neg (by omega)]
  by_cases h : k = 0
  · subst h; simp
  · rw [if_neg h]; simp [Nat.add_assoc]
/-- The i-th Op, as a walk meets it. -/
theorem JOps.get {w : World} {os : List JOp} {ad : Addr} {n cap : Nat} (h : JOps w (.slice (some ad) n cap) os) (i : Nat) (hi : i < os.length) :
    os[i].n ≤ 9223372036854775807 ∧ ∃ ua uc, w.cell? (ad.add (i * 3)) = some (.int .i64 os[i].kind) ∧ w.cell? ⟨(ad.add (i * 3)).block, (ad.add (i * 3)).off + 1, none⟩ = some (.int .i64 os[i].n) ∧
      w.cell? ⟨(ad.add (i * 3)).block, (ad.add (i * 3)).off + 2, none⟩ = some (.slice ua os[i].m.length uc) ∧ Bts w (.slice ua os[i].m.length uc) os[i].m := by
  obtain ⟨_, _, _, e, _, _, _, _, hcell⟩ := h
  cases e
  obtain ⟨g, u, g0, g1, g2, g3⟩ := hcell ad rfl i hi
  obtain ⟨ua, uc, rfl⟩ := g3.shape
  rw [add_more _ _ _ (by omega)] at g1 g2
  exact ⟨g, ua, uc, g0, g1, g2, g3⟩
theorem JOps.below {w w' : World} {v : Value} {os : List JOp} (h : JOps w v os) (hb : Below w.heap.size w w') : JOps w' v os := by
  obtain ⟨ao, n, cap, rfl, h1, h2, h3, h4, h5⟩ := h
  refine ⟨ao, n, cap, rfl, h1, h2, h3, h4, fun ad had j hj => ?_⟩
  obtain ⟨g, u, g0, g1, g2, g3⟩ := h5 ad had j hj
  exact ⟨g, u, cell_later hb g0, cell_later hb g1, cell_later hb g2, g3.below hb⟩
theorem Try.cellsOp : Try.prog.cellsOf 40 = 3 := by kernel_rfl
theorem Try.cellsI : Try.prog.cellsOf 3 = 1 := by kernel_rfl
instance : Inhabited JOp := ⟨⟨0, 0, []⟩⟩
theorem int_of {n : Nat} {v0 : Value} {y0 : DataW H × List MemPlace} (h0 : DataW.trod enc Try.prog w base spare held n 3 [v0] = some y0) : ∃ z, v0 = .int .i64 z ∧ z ≤ 9223372036854775807 := by
  obtain ⟨a0, e0, rfl, w0⟩ := DataW.trod_int Try.underlying3 h0
  simp at e0
  have s1 : -9223372036854775808 ≤ a0 ∧ a0 ≤ 9223372036854775807 := by simpa [Lit.wf, IntKind.min, IntKind.max, IntKind.signed, IntKind.bits] using w0
  exact ⟨a0, e0, s1.2⟩
theorem ops_of {n : Nat} {v : Value} {y : DataW H × List MemPlace} (h : DataW.trod enc Try.prog w base spare held n 23 [v] = some y) : ∃ os, JOps w v os := by
  rcases DataW.trod_slice Try.underlying23 h with ⟨hcs, _⟩ | ⟨a, len, cap, elems, rest, n', _, hcs, _, hb, hl, hm, hlen, hel, _, _⟩
  · simp at hcs
    subst hcs
    exact ⟨[], none, 0, 0, rfl, rfl, Nat.le_refl _, by omega, (fun _ => rfl), (fun ad h => by cases h)⟩
  · simp at hcs
    subst hcs
    have each : ∀ i, i < len → ∃ q : JOp × Value, q.1.n ≤ 9223372036854775807 ∧ w.cell? (a.add (i * 3)) = some (.int .i64 q.1.kind) ∧ w.cell? (a.add (i * 3 + 1)) = some (.int .i64 q.1.n) ∧ w.cell? (a.add (i * 3 + 2)) = some q.2 ∧ Bts w q.2 q.1.m := by
      intro i hi
      have h1 := hel i hi
      rw [List.getElem?_eq_getElem (by omega), Try.cellsOp] at h1
      obtain ⟨cs, h2, h3⟩ := Option.bind_eq_some_iff.1 h1
      obtain ⟨_, hcl, hcell⟩ := World.cells?_some h2
      obtain ⟨xs, k, hk, hxy, _, hxl, hf⟩ := DataW.trod_struct Try.underlying40 h3
      match cs, hcl, xs, hxl with
      | [v0, v1, v2], _, [y0, y1, y2], _ =>
        have g0 := hf 0 _ rfl
        have g1 := hf 1 _ rfl
        have g2 := hf 2 _ rfl
        simp [Try.cellsI, Try.cellsB] at g0 g1 g2
        obtain ⟨z0, rfl, s0⟩ := int_of g0
        obtain ⟨z1, rfl, s1⟩ := int_of g1
        obtain ⟨l, hl⟩ := bts_of g2
        have e0 := hcell 0 (by omega)
        have e1 := hcell 1 (by omega)
        have e2 := hcell 2 (by omega)
        rw [Addr.add_add] at e0 e1 e2
        exact ⟨(⟨z0, z1, l⟩, v2), s1, by simpa using e0, by simpa using e1, by simpa using e2, hl⟩
    obtain ⟨q, hq⟩ := choose_lt each
    refine ⟨(List.range len).map fun i => (q i).1, some a, len, cap, rfl, by simp, hl, by unfold maxLen at hm; omega, (fun h => by cases h), fun ad had j hj => ?_⟩
    obtain rfl := Option.some.inj had
    have hj' : j < len := by simpa using hj
    simp only [List.getElem_map, List.getElem_range]
    obtain ⟨g0, g1, g2, g3, g4⟩ := hq j hj'
    exact ⟨g0, _, g1, g2, g3, g4⟩
end Go.Proofs.Ytpchmdfkifbciaa
