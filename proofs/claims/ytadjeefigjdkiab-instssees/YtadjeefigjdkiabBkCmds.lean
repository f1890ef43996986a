/- A row of commands as it comes in. No condition. -/
import Derived.Test.YtadjeefigjdkiabBkOpen
namespace Go.Proofs.Ytadjeefigjdkiab
open Go.ChangeShapes Go.WideShapes Go.ChangeAt Go.RowKit Go.Deep
set_option maxRecDepth 100000
set_option linter.unusedVariables false

variable {H : Type} {enc : TypeId × Value → H} {w : World} {base : Nat} {spare : Nat → Bool} {held : Bool}

/-- A command at six cells from a on; its texts' slice is u. -/
def CmdAt (w : World) (a : Addr) (c : CmdD) (u : Value) : Prop :=
  w.cell? a = some (.int .i64 c.op) ∧ w.cell? (a.add 1) = some (.int .i64 c.client) ∧ w.cell? (a.add 2) = some (.int .i64 c.seq) ∧ w.cell? (a.add 3) = some (.int .i64 c.from') ∧ w.cell? (a.add 4) = some (.int .i64 c.to) ∧ w.cell? (a.add 5) = some u
/-- The value v is a slice of the commands l. -/
def Cmds (w : World) (v : Value) (l : List (CmdD × Value)) : Prop :=
  ∃ ao n cap, v = .slice ao n cap ∧ n = l.length ∧ n ≤ cap ∧ cap ≤ 9223372036854775807 ∧ (ao = none → cap = 0) ∧
    ∀ ad, ao = some ad → ∀ j, (h : j < l.length) → CmdAt w (ad.add (j * 6)) l[j].1 l[j].2 ∧ Strs w l[j].2 l[j].1.data
theorem CmdAt.below {w w' : World} {a : Addr} {c : CmdD} {u : Value} (h : CmdAt w a c u) (hb : Below w.heap.size w w') : CmdAt w' a c u :=
  ⟨cell_later hb h.1, cell_later hb h.2.1, cell_later hb h.2.2.1, cell_later hb h.2.2.2.1, cell_later hb h.2.2.2.2.1, cell_later hb h.2.2.2.2.2⟩
theorem Cmds.below {w w' : World} {v : Value} {l : List (CmdD × Value)} (h : Cmds w v l) (hb : Below w.heap.size w w') : Cmds w' v l := by
  obtain ⟨ao, n, cap, rfl, h1, h2, h3, h4, h5⟩ := h
  exact ⟨ao, n, cap, rfl, h1, h2, h3, h4, fun ad had j hj => ⟨(h5 ad had j hj).1.below hb, (h5 ad had j hj).2.below hb⟩⟩
theorem Cmds.shape {w : World} {v : Value} {l : List (CmdD × Value)} (h : Cmds w v l) : ∃ va vc, v = .slice va l.length vc := by
  obtain ⟨ao, n, cap, rfl, rfl, -⟩ := h; exact ⟨_, _, rfl⟩
theorem Cmds.len {w : World} {v : Value} {l : List (CmdD × Value)} (h : Cmds w v l) : (l.length : Int) ≤ 9223372036854775807 := by
  obtain ⟨ao, n, cap, rfl, h1, h2, h3, -⟩ := h; omega
theorem Cmds.addr {w : World} {ao : Option Addr} {cap : Nat} {l : List (CmdD × Value)} (h : Cmds w (.slice ao l.length cap) l) (hl : 0 < l.length) : ∃ b o, ao = some ⟨b, o, none⟩ := by
  obtain ⟨ao', n, cap', e, h1, h2, h3, h4, h5⟩ := h
  cases e
  cases ao with
  | none => have := h4 rfl; omega
  | some a =>
    have h0 := (h5 a rfl 0 hl).1.1
    have := World.cell?_spot h0
    obtain ⟨b, o, sp⟩ := a
    simp [Addr.add] at this
    subst this
    exact ⟨b, o, rfl⟩
theorem Cmds.lit {w : World} {b o cap : Nat} {l : List (CmdD × Value)} (h : Cmds w (.slice (some ⟨b, o, none⟩) l.length cap) l) (j : Nat) (hj : j < l.length) :
    w.cell? ⟨b, o + j * 6, none⟩ = some (.int .i64 l[j].1.op) ∧ w.cell? ⟨b, o + j * 6 + 1, none⟩ = some (.int .i64 l[j].1.client) ∧ w.cell? ⟨b, o + j * 6 + 2, none⟩ = some (.int .i64 l[j].1.seq) ∧ w.cell? ⟨b, o + j * 6 + 3, none⟩ = some (.int .i64 l[j].1.from') ∧ w.cell? ⟨b, o + j * 6 + 4, none⟩ = some (.int .i64 l[j].1.to) ∧ w.cell? ⟨b, o + j * 6 + 5, none⟩ = some l[j].2 ∧ Strs w l[j].2 l[j].1.data := by
  obtain ⟨ao, n, cap', e, h1, h2, h3, h4, h5⟩ := h
  cases e
  obtain ⟨⟨g0, g1, g2, g3, g4, g5⟩, g6⟩ := h5 _ rfl j hj
  simp only [Addr.add_lit] at g0 g1 g2 g3 g4 g5
  exact ⟨g0, g1, g2, g3, g4, g5, g6⟩
/-- A slice of commands that came in. -/
theorem cmds_of {n : Nat} {v : Value} {y : DataW H × List MemPlace} (h : DataW.trod enc Try.prog w base spare held n 38 [v] = some y) : ∃ l, Cmds w v l ∧ ∀ x ∈ l, CmdJ x.1 := by
  rcases DataW.trod_slice Try.underlying38 h with ⟨hcs, _⟩ | ⟨a, len, cap, elems, rest, n', _, hcs, _, hb, hl, hm, hlen, hel, _, _⟩
  · simp at hcs
    subst hcs
    exact ⟨[], ⟨none, 0, 0, rfl, rfl, Nat.le_refl _, by omega, (fun _ => rfl), (fun ad h => by cases h)⟩, by simp⟩
  · simp at hcs
    subst hcs
    have each : ∀ i, i < len → ∃ q : CmdD × Value, (CmdAt w (a.add (i * 6)) q.1 q.2 ∧ Strs w q.2 q.1.data) ∧ CmdJ q.1 := by
      intro i hi
      have h1 := hel i hi
      rw [List.getElem?_eq_getElem (by omega), Try.cellsCmd] at h1
      obtain ⟨cs, h2, h3⟩ := Option.bind_eq_some_iff.1 h1
      obtain ⟨_, hcl, hcell⟩ := World.cells?_some h2
      match cs, hcl with
      | [v0, v1, v2, v3, v4, v5], _ =>
        obtain ⟨c, u, rfl, rfl, rfl, rfl, rfl, rfl, hs, hj⟩ := cmd6_of h3
        have e0 := hcell 0 (by omega)
        have e1 := hcell 1 (by omega)
        have e2 := hcell 2 (by omega)
        have e3 := hcell 3 (by omega)
        have e4 := hcell 4 (by omega)
        have e5 := hcell 5 (by omega)
        exact ⟨(c, v5), ⟨⟨by simpa [Addr.add_add] using e0, by simpa using e1, by simpa using e2, by simpa using e3, by simpa using e4, by simpa using e5⟩, hs⟩, hj⟩
    haveI : Inhabited (CmdD × Value) := ⟨(⟨0, 0, 0, 0, 0, []⟩, .bool false)⟩
    obtain ⟨q, hq⟩ := choose_lt each
    refine ⟨(List.range len).map q, ⟨some a, len, cap, rfl, by simp, hl, by unfold maxLen at hm; omega, (fun h => by cases h), fun ad had j hj => ?_⟩, ?_⟩
    · obtain rfl := Option.some.inj had
      have hj' : j < len := by simpa using hj
      simp only [List.getElem_map, List.getElem_range]
      exact (hq j hj').1
    · intro x hx
      simp only [List.mem_map, List.mem_range] at hx
      obtain ⟨i, hi, rfl⟩ := hx
      exact (hq i hi).2
end Go.Proofs.Ytadjeefigjdkiab
