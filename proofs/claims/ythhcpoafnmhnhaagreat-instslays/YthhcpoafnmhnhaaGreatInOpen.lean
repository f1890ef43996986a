/- Instances and rows of them as they come in. No condition. -/
import Derived.Test.YthhcpoafnmhnhaaGreatBkOpen
import Derived.Test.YthhcpoafnmhnhaaGreatInList
namespace Go.Proofs.YthhcpoafnmhnhaaGreat
open Go.ChangeShapes Go.WideShapes Go.ChangeAt Go.RowKit Go.Deep
set_option maxRecDepth 100000
set_option linter.unusedVariables false
set_option linter.unusedSimpArgs false

variable {H : Type} {enc : TypeId × Value → H} {w : World} {base : Nat} {spare : Nat → Bool} {held : Bool}

theorem Tryz.cellsRf : Tryz.prog.cellsOf 23 = 2 := by kernel_rfl
theorem Tryz.cellsBl : Tryz.prog.cellsOf 25 = 2 := by kernel_rfl
theorem Tryz.cellsBo : Tryz.prog.cellsOf 4 = 1 := by kernel_rfl
theorem Tryz.cellsRfs : Tryz.prog.cellsOf 29 = 1 := by kernel_rfl
theorem Tryz.cellsIn : Tryz.prog.cellsOf 31 = 16 := by kernel_rfl
theorem ref2_of {n : Nat} {v0 v1 : Value} {y : DataW H × List MemPlace} (h : DataW.trod enc Tryz.prog w base spare held n 23 [v0, v1] = some y) : ∃ r : Int × Int, v0 = .int .i64 r.1 ∧ v1 = .int .i64 r.2 ∧ RefI r := by
  obtain ⟨xs, k, hk, hxy, _, hxl, hf⟩ := DataW.trod_struct Tryz.underlying23 h
  match xs, hxl with
  | [y0, y1], _ =>
    have g0 := hf 0 _ rfl
    have g1 := hf 1 _ rfl
    simp [Tryz.cellsI] at g0 g1
    obtain ⟨x0, rfl, i0⟩ := int_of g0
    obtain ⟨x1, rfl, i1⟩ := int_of g1
    exact ⟨(x0, x1), rfl, rfl, i0, i1⟩
theorem bal2_of {n : Nat} {v0 v1 : Value} {y : DataW H × List MemPlace} (h : DataW.trod enc Tryz.prog w base spare held n 25 [v0, v1] = some y) : ∃ r : Int × Int, v0 = .int .i64 r.1 ∧ v1 = .int .i64 r.2 ∧ RefI r := by
  obtain ⟨xs, k, hk, hxy, _, hxl, hf⟩ := DataW.trod_struct Tryz.underlying25 h
  match xs, hxl with
  | [y0, y1], _ =>
    have g0 := hf 0 _ rfl
    have g1 := hf 1 _ rfl
    simp [Tryz.cellsI] at g0 g1
    obtain ⟨x0, rfl, i0⟩ := int_of g0
    obtain ⟨x1, rfl, i1⟩ := int_of g1
    exact ⟨(x0, x1), rfl, rfl, i0, i1⟩
/-- A slice of Refs that came in. -/
theorem refs_of {n : Nat} {v : Value} {y : DataW H × List MemPlace} (h : DataW.trod enc Tryz.prog w base spare held n 29 [v] = some y) : ∃ l, Rfs w v l ∧ ∀ r ∈ l, RefI r := by
  rcases DataW.trod_slice Tryz.underlying29 h with ⟨hcs, _⟩ | ⟨a, len, cap, elems, rest, n', _, hcs, _, hb, hl, hm, hlen, hel, _, _⟩
  · simp at hcs
    subst hcs
    exact ⟨[], Rfs.nil _, by simp⟩
  · simp at hcs
    subst hcs
    have each : ∀ i, i < len → ∃ q : Int × Int, (w.cell? (a.add (i * 2)) = some (.int .i64 q.1) ∧ w.cell? (a.add (i * 2 + 1)) = some (.int .i64 q.2)) ∧ RefI q := by
      intro i hi
      have h1 := hel i hi
      rw [List.getElem?_eq_getElem (by omega), Tryz.cellsRf] at h1
      obtain ⟨cs, h2, h3⟩ := Option.bind_eq_some_iff.1 h1
      obtain ⟨_, hcl, hcell⟩ := World.cells?_some h2
      match cs, hcl with
      | [v0, v1], _ =>
        obtain ⟨r, rfl, rfl, hj⟩ := ref2_of h3
        have e0 := hcell 0 (by omega)
        have e1 := hcell 1 (by omega)
        rw [Addr.add_add] at e0 e1
        exact ⟨r, ⟨by simpa using e0, by simpa using e1⟩, hj⟩
    obtain ⟨q, hq⟩ := choose_lt each
    refine ⟨(List.range len).map q, ⟨some a, len, cap, rfl, by simp, hl, by unfold maxLen at hm; omega, (fun h => by cases h), fun ad had j hj => ?_⟩, ?_⟩
    · obtain rfl := Option.some.inj had
      have hj' : j < len := by simpa using hj
      simp only [List.getElem_map, List.getElem_range]
      exact (hq j hj').1
    · intro x hx
      simp only [List.mem_map, List.mem_range] at hx
      obtain ⟨i, hi, rfl⟩ := hx
      exact (hq i hi).2
/-- What can stand in an instance. -/
structure InJ (x : InD) : Prop where
  ref : RefI x.ref
  s : ∀ s ∈ x.cmd.data, s.size ≤ maxLen
  bal : RefI x.bal
  vote : RefI x.vote
  st : I64 x.st
  cmd : CmdJ x.cmd
  seq : I64 x.seq
  deps : ∀ r ∈ x.deps, RefI r
theorem inst16_of {n : Nat} {v0 v1 v2 v3 v4 v5 v6 v7 v8 v9 v10 v11 v12 v13 v14 v15 : Value} {y : DataW H × List MemPlace} (h : DataW.trod enc Tryz.prog w base spare held n 31 [v0, v1, v2, v3, v4, v5, v6, v7, v8, v9, v10, v11, v12, v13, v14, v15] = some y) :
    ∃ x : InD, [v0, v1, v2, v3, v4, v5, v6, v7, v8, v9, v10, v11, v12, v13, v14, v15] = (instC x v13 v15).toList ∧ InM w x v13 v15 ∧ InJ x := by
  obtain ⟨xs, k, hk, hxy, _, hxl, hf⟩ := DataW.trod_struct Tryz.underlying31 h
  match xs, hxl with
  | [y0, y1, y2, y3, y4, y5, y6, y7], _ =>
    have g0 := hf 0 _ rfl
    have g1 := hf 1 _ rfl
    have g2 := hf 2 _ rfl
    have g3 := hf 3 _ rfl
    have g4 := hf 4 _ rfl
    have g5 := hf 5 _ rfl
    have g6 := hf 6 _ rfl
    have g7 := hf 7 _ rfl
    simp [Tryz.cellsI, Tryz.cellsStrs, Tryz.cellsRf, Tryz.cellsBl, Tryz.cellsBo, Tryz.cellsCmd, Tryz.cellsRfs] at g0 g1 g2 g3 g4 g5 g6 g7
    obtain ⟨r, rfl, rfl, ir⟩ := ref2_of g0
    obtain ⟨b, rfl, rfl, ib⟩ := bal2_of g1
    obtain ⟨vt, rfl, rfl, iv⟩ := bal2_of g2
    obtain ⟨st, rfl, is⟩ := int_of g3
    obtain ⟨sm, hsm, -⟩ := DataW.trod_bool Tryz.underlying4 g4
    simp at hsm
    subst hsm
    obtain ⟨c, u, rfl, rfl, rfl, rfl, rfl, rfl, hs, hj⟩ := cmd6_of g5
    obtain ⟨sq, rfl, iq⟩ := int_of g6
    obtain ⟨l, hl, hz⟩ := refs_of g7
    exact ⟨⟨r, b, vt, st, sm, c, sq, l⟩, rfl, ⟨hs, hl⟩, ⟨ir, hj.s, ib, iv, is, hj, iq, hz⟩⟩
/-- An instance by value. -/
theorem inst_of {r : Reach} {b0 : Nat} {v : Value} {d : DataW H} {p : List MemPlace} (hv : Value.okWide Tryz.prog w r b0 31 v) (h : DataW.Trod enc Tryz.prog w base spare held 31 v d p) : ∃ (x : InD) (u q : Value), v = instV x u q ∧ InM w x u q ∧ InJ x := by
  simp only [Value.okWide, Tryz.underlying31] at hv
  obtain ⟨cs, rfl, h2, -⟩ := hv
  rw [Tryz.cellsIn] at h2
  obtain ⟨l⟩ := cs
  obtain ⟨fuel, hf⟩ := h
  match l, h2 with
  | [c0, c1, c2, c3, c4, c5, c6, c7, c8, c9, c10, c11, c12, c13, c14, c15], _ =>
    obtain ⟨x, hc, hm, hj⟩ := inst16_of hf
    exact ⟨x, c13, c15, by rw [hc]; rfl, hm, hj⟩
/-- A Ref by value. -/
theorem ref_of {r : Reach} {b0 : Nat} {v : Value} {d : DataW H} {p : List MemPlace} (hv : Value.okWide Tryz.prog w r b0 23 v) (h : DataW.Trod enc Tryz.prog w base spare held 23 v d p) : ∃ x : Int × Int, v = .agg #[.int .i64 x.1, .int .i64 x.2] ∧ RefI x := by
  obtain ⟨v0, v1, y0, y1, n, rfl, rfl, rfl, h0, h1⟩ := Go.Joins.open_agg2 Tryz.underlying23 (by kernel_rfl) Tryz.cellsRf hv h
  obtain ⟨x0, rfl, i0⟩ := int_of h0
  obtain ⟨x1, rfl, i1⟩ := int_of h1
  exact ⟨(x0, x1), rfl, i0, i1⟩
/-- The value v is a slice of the instances l. -/
def Ins (w : World) (v : Value) (l : List EnI) : Prop :=
  ∃ ao n cap, v = .slice ao n cap ∧ n = l.length ∧ n ≤ cap ∧ cap ≤ 9223372036854775807 ∧ (ao = none → cap = 0) ∧
    ∀ ad, ao = some ad → ∀ j, (h : j < l.length) → (∀ k u, k < 16 → l[j].c[k]? = some u → w.cell? (ad.add (j * 16 + k)) = some u) ∧ InM w l[j].x l[j].u l[j].r
theorem Ins.below {w w' : World} {v : Value} {l : List EnI} (h : Ins w v l) (hb : Below w.heap.size w w') : Ins w' v l := by
  obtain ⟨ao, n, cap, rfl, h1, h2, h3, h4, h5⟩ := h
  exact ⟨ao, n, cap, rfl, h1, h2, h3, h4, fun ad had j hj => ⟨fun k u hk hu => cell_later hb ((h5 ad had j hj).1 k u hk hu), (h5 ad had j hj).2.below hb⟩⟩
theorem Ins.shape {w : World} {v : Value} {l : List EnI} (h : Ins w v l) : ∃ va vc, v = .slice va l.length vc := by
  obtain ⟨ao, n, cap, rfl, rfl, -⟩ := h; exact ⟨_, _, rfl⟩
theorem Ins.len {w : World} {v : Value} {l : List EnI} (h : Ins w v l) : (l.length : Int) ≤ 9223372036854775807 := by
  obtain ⟨ao, n, cap, rfl, h1, h2, h3, -⟩ := h; omega
theorem Ins.addr {w : World} {ao : Option Addr} {cap : Nat} {l : List EnI} (h : Ins w (.slice ao l.length cap) l) (hl : 0 < l.length) : ∃ b o, ao = some ⟨b, o, none⟩ := by
  obtain ⟨ao', n, cap', e, h1, h2, h3, h4, h5⟩ := h
  cases e
  cases ao with
  | none => have := h4 rfl; omega
  | some a =>
    have h0 := (h5 a rfl 0 hl).1 0 _ (by omega) rfl
    have := World.cell?_spot h0
    obtain ⟨b, o, sp⟩ := a
    simp [Addr.add] at this
    subst this
    exact ⟨b, o, rfl⟩
theorem Ins.lit {w : World} {b o cap : Nat} {l : List EnI} (h : Ins w (.slice (some ⟨b, o, none⟩) l.length cap) l) (j : Nat) (hj : j < l.length) :
    (∀ k u, k < 16 → l[j].c[k]? = some u → w.cell? ⟨b, o + j * 16 + k, none⟩ = some u) ∧ InM w l[j].x l[j].u l[j].r := by
  obtain ⟨ao, n, cap', e, h1, h2, h3, h4, h5⟩ := h
  cases e
  obtain ⟨g0, g1⟩ := h5 _ rfl j hj
  refine ⟨fun k u hk hu => ?_, g1⟩
  have := g0 k u hk hu
  rwa [Addr.add_lit, ← Nat.add_assoc] at this
end Go.Proofs.YthhcpoafnmhnhaaGreat
