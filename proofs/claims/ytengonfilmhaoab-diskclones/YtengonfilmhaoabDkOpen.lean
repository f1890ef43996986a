/- An Op, and a slice of Ops, as they come in. No condition. -/
import Derived.Test.YtengonfilmhaoabDkDo
import Derived.ProofKit
import Derived.OpenShut
import Derived.ChangeOld
import Derived.Deep.SlicePairs
import Derived.Lib.SmallJoins
namespace Go.Proofs.Ytengonfilmhaoab
open Go.ChangeShapes Go.WideShapes Go.ChangeAt Go.RowKit Go.Deep

variable {H : Type} {enc : TypeId × Value → H} {w : World} {base : Nat} {spare : Nat → Bool} {held : Bool}

/-- A slice of bytes that came in. -/
theorem bts_of {n : Nat} {v : Value} {y : DataW H × List MemPlace} (h : DataW.trod enc Try.prog w base spare held n 22 [v] = some y) : ∃ l, Bts w v l := by
  rcases open_ints Try.underlyingB Try.underlyingU (by kernel_rfl) h with ⟨hcs, _⟩ | ⟨x, l, c, zs, hcs, _, hl, hm, hz, _, hcell, hwz⟩
  · simp at hcs
    subst hcs
    exact ⟨[], none, 0, 0, rfl, rfl, Nat.le_refl _, by omega, (fun _ => rfl), (fun ad h => by cases h)⟩
  · simp at hcs
    subst hcs
    have hlz : l ≤ zs.length := by rw [hz]; split <;> omega
    refine ⟨(zs.take l).map fun n => UInt8.ofNat n.toNat, some x, l, c, rfl, by simp; omega, hl, by unfold maxLen at hm; omega, (fun h => by cases h), ?_⟩
    intro ad had j hj
    obtain rfl := Option.some.inj had
    have hj' : j < zs.length := by simp at hj; omega
    rw [hcell j hj']
    have hwf := hwz zs[j] (List.getElem_mem hj')
    have hlo : 0 ≤ zs[j] ∧ zs[j] ≤ 255 := by simpa [Lit.wf, IntKind.min, IntKind.max, IntKind.signed, IntKind.bits] using hwf
    simp only [List.getElem_map, List.getElem_take, UInt8.toNat_ofNat', List.getD_eq_getElem?_getD, List.getElem?_eq_getElem hj', Option.getD_some]
    rw [Nat.mod_eq_of_lt (by omega), Int.toNat_of_nonneg hlo.1]
theorem isop_of {n : Nat} {v0 v1 v2 v3 : Value} {y0 y1 y2 y3 : DataW H × List MemPlace} (h0 : DataW.trod enc Try.prog w base spare held n 3 [v0] = some y0) (h1 : DataW.trod enc Try.prog w base spare held n 3 [v1] = some y1)
    (h2 : DataW.trod enc Try.prog w base spare held n 22 [v2] = some y2) (h3 : DataW.trod enc Try.prog w base spare held n 38 [v3] = some y3) : ∃ o : OpD, IsOp w (.agg #[v0, v1, v2, v3]) o ∧ v0 = .int .i64 o.kind ∧ v1 = .int .i64 o.n ∧ v3 = .int .u64 (o.t : Int) := by
  obtain ⟨a0, e0, rfl, w0⟩ := DataW.trod_int Try.underlying3 h0
  obtain ⟨a1, e1, rfl, w1⟩ := DataW.trod_int Try.underlying3 h1
  obtain ⟨a3, e3, rfl, w3⟩ := DataW.trod_int Try.underlying38 h3
  obtain ⟨l, hl⟩ := bts_of h2
  simp at e0 e1 e3
  subst e0 e1 e3
  have s1 : -9223372036854775808 ≤ a1 ∧ a1 ≤ 9223372036854775807 := by simpa [Lit.wf, IntKind.min, IntKind.max, IntKind.signed, IntKind.bits] using w1
  have s3 : 0 ≤ a3 ∧ a3 ≤ 18446744073709551615 := by simpa [Lit.wf, IntKind.min, IntKind.max, IntKind.signed, IntKind.bits] using w3
  have e : ((a3.toNat : Nat) : Int) = a3 := by omega
  refine ⟨⟨a0, a1, l, a3.toNat⟩, ⟨s1.2, by simp only; omega, v2, by simp only [e], hl⟩, rfl, rfl, by simp only [e]⟩
theorem IsOp.shape {w : World} {u : Value} {o : OpD} {a b c : Value} (h : IsOp w (.agg #[a, b, u, c]) o) : ∃ ua uc, u = .slice ua o.m.length uc := by
  obtain ⟨_, _, u', e, hu⟩ := h
  have e' : u = u' := by
    have h := Value.agg.inj e
    simp at h
    exact h.2.2.1
  subst e'
  exact hu.shape
/-- v is a slice of the Ops os. -/
def Ops (w : World) (v : Value) (os : List OpD) : Prop :=
  ∃ ao n cap, v = .slice ao n cap ∧ n = os.length ∧ n ≤ cap ∧ cap ≤ 9223372036854775807 ∧ (ao = none → cap = 0) ∧
    ∀ ad, ao = some ad → ∀ j, (h : j < os.length) → ∃ u, w.cell? (ad.add (j * 4)) = some (.int .i64 os[j].kind) ∧ w.cell? (ad.add (j * 4 + 1)) = some (.int .i64 os[j].n) ∧ w.cell? (ad.add (j * 4 + 2)) = some u ∧ w.cell? (ad.add (j * 4 + 3)) = some (.int .u64 (os[j].t : Int)) ∧
      IsOp w (.agg #[.int .i64 os[j].kind, .int .i64 os[j].n, u, .int .u64 (os[j].t : Int)]) os[j]
theorem lt_of_block' {w : World} {b : Nat} {o : Obj} (h : w.heap[b]? = some o) : b < w.heap.size := by
  rcases Nat.lt_or_ge b w.heap.size with h' | h'
  · exact h'
  · rw [Array.getElem?_eq_none h'] at h; cases h
theorem cell_four {w : World} {b : Nat} {c0 c1 c2 c3 : Value} {t : TypeId} (h : w.heap[b]? = some (.cells #[c0, c1, c2, c3] t (0, 0))) :
    w.cell? ⟨b, 0, none⟩ = some c0 ∧ w.cell? ⟨b, 1, none⟩ = some c1 ∧ w.cell? ⟨b, 2, none⟩ = some c2 ∧ w.cell? ⟨b, 3, none⟩ = some c3 := by
  refine ⟨?_, ?_, ?_, ?_⟩ <;> (rw [cell_of_row w b _ _ _ _ h]; rfl)
/-- A block is as it was. -/
theorem block_later {w w' : World} {b : Nat} {o : Obj} (hb : Below w.heap.size w w') (h : w.heap[b]? = some o) : w'.heap[b]? = some o := by
  rw [hb.block b (lt_of_block' h)]; exact h
theorem add_more (ad : Addr) (k j : Nat) (hj : 0 < j) : ad.add (k + j) = ⟨(ad.add k).block, (ad.add k).off + j, none⟩ := by
  unfold Addr.add
  rw [if_neg (by omega)]
  by_cases h : k = 0
  · subst h; simp
  · rw [if_neg h]; simp [Nat.add_assoc]
/-- The i-th Op, as a walk meets it. -/
theorem Ops.get {w : World} {os : List OpD} {ad : Addr} {n cap : Nat} (h : Ops w (.slice (some ad) n cap) os) (i : Nat) (hi : i < os.length) :
    ∃ ua uc, w.cell? (ad.add (i * 4)) = some (.int .i64 os[i].kind) ∧ w.cell? ⟨(ad.add (i * 4)).block, (ad.add (i * 4)).off + 1, none⟩ = some (.int .i64 os[i].n) ∧
      w.cell? ⟨(ad.add (i * 4)).block, (ad.add (i * 4)).off + 2, none⟩ = some (.slice ua os[i].m.length uc) ∧ w.cell? ⟨(ad.add (i * 4)).block, (ad.add (i * 4)).off + 3, none⟩ = some (.int .u64 (os[i].t : Int)) ∧
      IsOp w (.agg #[.int .i64 os[i].kind, .int .i64 os[i].n, .slice ua os[i].m.length uc, .int .u64 (os[i].t : Int)]) os[i] := by
  obtain ⟨_, _, _, e, _, _, _, _, hcell⟩ := h
  cases e
  obtain ⟨u, g0, g1, g2, g3, g4⟩ := hcell ad rfl i hi
  obtain ⟨ua, uc, rfl⟩ := g4.shape
  rw [add_more _ _ _ (by omega)] at g1 g2 g3
  exact ⟨ua, uc, g0, g1, g2, g3, g4⟩
theorem Ops.below {w w' : World} {v : Value} {os : List OpD} (h : Ops w v os) (hb : Below w.heap.size w w') : Ops w' v os := by
  obtain ⟨ao, n, cap, rfl, h1, h2, h3, h4, h5⟩ := h
  refine ⟨ao, n, cap, rfl, h1, h2, h3, h4, fun ad had j hj => ?_⟩
  obtain ⟨u, g0, g1, g2, g3, g4⟩ := h5 ad had j hj
  exact ⟨u, cell_later hb g0, cell_later hb g1, cell_later hb g2, cell_later hb g3, g4.below hb⟩
theorem Try.cellsOp : Try.prog.cellsOf 40 = 4 := by kernel_rfl
theorem Try.cellsI : Try.prog.cellsOf 3 = 1 := by kernel_rfl
theorem Try.cellsB : Try.prog.cellsOf 22 = 1 := by kernel_rfl
theorem Try.cellsN : Try.prog.cellsOf 38 = 1 := by kernel_rfl
instance : Inhabited OpD := ⟨⟨0, 0, [], 0⟩⟩
theorem ops_of {n : Nat} {v : Value} {y : DataW H × List MemPlace} (h : DataW.trod enc Try.prog w base spare held n 35 [v] = some y) : ∃ os, Ops w v os := by
  rcases DataW.trod_slice Try.underlying35 h with ⟨hcs, _⟩ | ⟨a, len, cap, elems, rest, n', _, hcs, _, hb, hl, hm, hlen, hel, _, _⟩
  · simp at hcs
    subst hcs
    exact ⟨[], none, 0, 0, rfl, rfl, Nat.le_refl _, by omega, (fun _ => rfl), (fun ad h => by cases h)⟩
  · simp at hcs
    subst hcs
    have each : ∀ i, i < len → ∃ q : OpD × Value, w.cell? (a.add (i * 4)) = some (.int .i64 q.1.kind) ∧ w.cell? (a.add (i * 4 + 1)) = some (.int .i64 q.1.n) ∧ w.cell? (a.add (i * 4 + 2)) = some q.2 ∧ w.cell? (a.add (i * 4 + 3)) = some (.int .u64 (q.1.t : Int)) ∧
        IsOp w (.agg #[.int .i64 q.1.kind, .int .i64 q.1.n, q.2, .int .u64 (q.1.t : Int)]) q.1 := by
      intro i hi
      have h1 := hel i hi
      rw [List.getElem?_eq_getElem (by omega), Try.cellsOp] at h1
      obtain ⟨cs, h2, h3⟩ := Option.bind_eq_some_iff.1 h1
      obtain ⟨_, hcl, hcell⟩ := World.cells?_some h2
      obtain ⟨xs, k, hk, hxy, _, hxl, hf⟩ := DataW.trod_struct Try.underlying40 h3
      match cs, hcl, xs, hxl with
      | [v0, v1, v2, v3], _, [y0, y1, y2, y3], _ =>
        have g0 := hf 0 _ rfl
        have g1 := hf 1 _ rfl
        have g2 := hf 2 _ rfl
        have g3 := hf 3 _ rfl
        simp [Try.cellsI, Try.cellsB, Try.cellsN] at g0 g1 g2 g3
        obtain ⟨o, ho, rfl, rfl, rfl⟩ := isop_of g0 g1 g2 g3
        have e0 := hcell 0 (by omega)
        have e1 := hcell 1 (by omega)
        have e2 := hcell 2 (by omega)
        have e3 := hcell 3 (by omega)
        rw [Addr.add_add] at e0 e1 e2 e3
        exact ⟨(o, v2), by simpa using e0, by simpa using e1, by simpa using e2, by simpa using e3, ho⟩
    obtain ⟨q, hq⟩ := choose_lt each
    refine ⟨(List.range len).map fun i => (q i).1, some a, len, cap, rfl, by simp, hl, by unfold maxLen at hm; omega, (fun h => by cases h), fun ad had j hj => ?_⟩
    obtain rfl := Option.some.inj had
    have hj' : j < len := by simpa using hj
    simp only [List.getElem_map, List.getElem_range]
    exact ⟨_, hq j hj'⟩
end Go.Proofs.Ytengonfilmhaoab
