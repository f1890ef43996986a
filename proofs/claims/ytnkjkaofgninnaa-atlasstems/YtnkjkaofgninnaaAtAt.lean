/- The document's map of shards beside the program's: what a change of one leaves of the other; where a shard is. Conditions: they lie in memory. -/
import Derived.Test.YtnkjkaofgninnaaAtAlike
import Derived.Test.YtnkjkaofgninnaaAtSwap
namespace Go.Proofs.Ytnkjkaofgninnaa
open Go.RowKit Go.Maps Go.Shelf
set_option linter.unusedVariables false
set_option linter.unusedSimpArgs false

/-- The document's map of shards, all its rows rows of their own. -/
structure RB (w : World) (b : Nat) (N : AtN) (ov sv : Value) (X : List SX) : Prop where
  box : w.heap[b]? = some (.cells #[.int .i64 N.bl, .int .i64 N.ep, .int .i64 N.nx, ov, sv] 69 (0, 0))
  opn : w.ownsRow 0 3 1 ov N.op.length (nvs N.op)
  row : w.ownsRow 0 46 5 sv X.length (shvs X)
  mem : ∀ x ∈ X, ShM w x.s x.mv x.pv
  nil : N.op = [] → ov = .slice none 0 0
theorem RB.ra {w : World} {b : Nat} {N : AtN} {ov sv : Value} {X : List SX} (h : RB w b N ov sv X) : RA w b N ov sv X :=
  ⟨h.box, nums_own h.opn rfl, h.row, fun x hx => (h.mem x hx).n⟩
theorem RB.below {w w' : World} {b : Nat} {N : AtN} {ov sv : Value} {X : List SX} (h : RB w b N ov sv X) (hb : Below w.heap.size w w') : RB w' b N ov sv X :=
  ⟨(hb.block b (lt_of_block h.box)).trans h.box, own_below h.opn hb, own_below h.row hb, fun x hx => (h.mem x hx).below hb, h.nil⟩
theorem RB.cell {w : World} {b : Nat} {N : AtN} {ov sv : Value} {X : List SX} (h : RB w b N ov sv X) (i : Nat) : w.cell? ⟨b, i, none⟩ = (#[.int .i64 N.bl, .int .i64 N.ep, .int .i64 N.nx, ov, sv] : Array Value)[i]? := by rw [cell_of_row _ _ _ _ _ _ h.box]
theorem RB.fz {w : World} {b : Nat} {N : AtN} {ov sv : Value} {X : List SX} (h : RB w b N ov sv X) (i : Nat) : w.frozen? ⟨b, i, none⟩ = false := frozen_of_row _ _ _ _ _ h.box
theorem RB.shapes {w : World} {b : Nat} {N : AtN} {ov sv : Value} {X : List SX} (h : RB w b N ov sv X) : (∃ va vc, ov = .slice va N.op.length vc) ∧ ∃ va vc, sv = .slice va X.length vc := ⟨own_shape h.opn, own_shape h.row⟩
/-- The program's map turns beside it. -/
theorem RB.away {w w' : World} {b wb mb n xb : Nat} {ov rv sv : Value} {D : DataW Value} {N M : AtN} {W : List Pc} {X Z : List SX} (h : RB w xb M rv sv Z) (ha : AtM w b wb mb n ov D N W X) (ht : Tr (AtR b wb mb) w w') : RB w' xb M rv sv Z :=
  ⟨(ht.block xb (lt_of_block h.box) (ha.nob h.box (by decide) (by decide))).trans h.box, own_tr ha ht h.opn (by decide) (by decide), own_tr ha ht h.row (by decide) (by decide), fun x hx => ShM.tr ha ht (h.mem x hx), h.nil⟩
/-- It turns beside the program's. -/
theorem At.away {w w' : World} {b wb mb n xb : Nat} {ov : Value} {D : DataW Value} {N : AtN} {X : List SX} {cs : Array Value} {fr : Nat × Nat} (h : At w b wb mb n ov D N X) (hx : w.heap[xb]? = some (.cells cs 69 fr)) (ht : Tr (fun q => q = xb) w w') : At w' b wb mb n ov D N X := by
  have hk : ∀ (q : Nat) (cs : Array Value) (t : TypeId) (fr : Nat × Nat), w.heap[q]? = some (.cells cs t fr) → t ≠ 69 → w'.heap[q]? = w.heap[q]? := fun q cs t fr hq htn => ht.block q (lt_of_block hq) fun e => by
    have e' : q = xb := e
    rw [e', hx] at hq; cases hq; exact htn rfl
  obtain ⟨va, vc, h1, h2⟩ := h.m.whr.at'
  obtain ⟨es, clock, m1, m2⟩ := h.m.own
  have hm : w'.heap[mb]? = w.heap[mb]? := ht.block mb (lt_of_block m1) fun e => by
    have e' : mb = xb := e
    rw [← e'] at hx
    have m1' : w.heap[mb]? = _ := m1
    rw [m1'] at hx; cases hx
  exact ⟨⟨(hk _ _ _ _ h.m.box (by decide)).trans h.m.box, own_kept h.m.opn fun q cs _ hh => hk q cs _ _ hh (by decide), ⟨⟨va, vc, (hk _ _ _ _ h1 (by decide)).trans h1, own_kept h2 fun q cs _ hh => hk q cs _ _ hh (by decide)⟩, h.m.whr.can, h.m.whr.ints⟩, ⟨es, clock, hm.trans m1, m2⟩, h.m.sm, fun x hx => (h.m.mem x hx).keep fun q cs t fr hq ht => hk q cs t fr hq (by rcases ht with rfl | rfl <;> decide)⟩, h.nil⟩
/-- Its rows stand where it turns. -/
theorem own_trx {w w' : World} {xb B sz n : Nat} {E : TypeId} {v : Value} {xs : List Value} {cs : Array Value} {fr : Nat × Nat} (hx : w.heap[xb]? = some (.cells cs 69 fr)) (ht : Tr (fun q => q = xb) w w') (ho : w.ownsRow B E sz v n xs) (hE : E ≠ 69) : w'.ownsRow B E sz v n xs :=
  own_kept ho fun q cs' _ hh => ht.block q (lt_of_block hh) fun e => by
    have e' : q = xb := e
    rw [e', hx] at hh; cases hh; exact hE rfl
theorem ShM.trx {w w' : World} {xb : Nat} {S : ShD} {mv pv : Value} {cs : Array Value} {fr : Nat × Nat} (hx : w.heap[xb]? = some (.cells cs 69 fr)) (ht : Tr (fun q => q = xb) w w') (h : ShM w S mv pv) : ShM w' S mv pv :=
  h.keep fun q cs' t fr' hq htt => ht.block q (lt_of_block hq) fun e => by
    have e' : q = xb := e
    rw [e', hx] at hq; cases hq
    rcases htt with h | h <;> revert h <;> decide
/-- Where a shard is. -/
def RatP (Z : List SX) (i : Int) (w : World) (e : Ending) (w' : World) : Prop := Below w.heap.size w w' ∧ ((∃ k, ∃ h : k < Z.length, Z[k].s.id = i ∧ e = .returned (.int .i64 k)) ∨ ((∀ z ∈ Z, z.s.id ≠ i) ∧ e = .returned (.int .i64 (-1))))
set_option maxRecDepth 100000 in
set_option maxHeartbeats 4000000 in
theorem rat_any (xb : Nat) (N : AtN) (ov sv : Value) (Z : List SX) (i : Int) (w : World) (h : RB w xb N ov sv Z) (hl : Z.length ≤ 1000000) :
    Calls Try.prog 42 #[.pointer (some ⟨xb, 0, none⟩), .int .i64 i] w (RatP Z i w) := by
  have H := hid h
  obtain ⟨-, va, vc, rfl⟩ := h.shapes
  have c4 := h.cell 4
  simp at c4
  clear h
  go_enter Try.func42, Try.ntmps42
  go_wp2_with fail
  clear c4
  go_loopw [5, 12] (fun _ jv wr => ∃ j : Nat, jv = .int .i64 j ∧ j ≤ Z.length ∧ (∀ k, (h : k < Z.length) → k < j → Z[k].s.id ≠ i) ∧ Below w.heap.size w wr) (fun _ jv _ => Z.length - (intOf jv).toNat)
  case atStart => exact ⟨0, rfl, Nat.zero_le _, (fun k _ hk => by omega), Below.refl _ _⟩
  case round =>
    obtain ⟨j, rfl, hj, hall, hb⟩ := hrel
    have HALL := hid hall
    have B := hid hb
    clear hall hb
    by_cases hlt : (j : Int) < (Z.length : Int)
    · have hjl : j < Z.length := by omega
      have HR := hid (own_below H.out.row B.out)
      obtain ⟨g, rfl⟩ : ∃ g, va = some ⟨g, 0, none⟩ := own_some H.out.row (by omega)
      have hRG : wr.rangeAt g (j * 5) Z[j].c := own_range HR.out (j * 5) _ fun k v hv => shvs_part Z j hjl k v hv
      have HAT : Hid (Z[j].s.id = i → RatP Z i w (.returned (.int .i64 j)) wr) := hid fun he => ⟨B.out, .inl ⟨j, hjl, he, rfl⟩⟩
      have HNE : Hid (Z[j].s.id ≠ i → ∀ k, (h : k < Z.length) → k < j + 1 → Z[k].s.id ≠ i) := hid fun he k hk hkj => by
        rcases Nat.lt_or_ge k j with h1 | h1
        · exact HALL.out k hk h1
        · have e : k = j := by omega
          subst e; exact he
      unfold SX.c at hRG
      obtain ⟨⟨x0, hx0⟩, x1, x2, ma, mn, mc, pa, pn, pc, hx⟩ : (∃ x0, x0 = Z[j].s.id) ∧ ∃ (x1 x2 : Int) (ma : Option Addr) (mn mc : Nat) (pa : Option Addr) (pn pc : Nat), [Value.int .i64 Z[j].s.id, .int .i64 Z[j].s.fr, .int .i64 Z[j].s.to, Z[j].mv, Z[j].pv] = [.int .i64 Z[j].s.id, .int .i64 x1, .int .i64 x2, .slice ma mn mc, .slice pa pn pc] := by
        obtain ⟨⟨ma, mc, h1⟩, ⟨pa, pc, h2⟩⟩ := (H.out.mem Z[j] (List.getElem_mem hjl)).shape
        exact ⟨⟨_, rfl⟩, _, _, _, _, _, _, _, _, by rw [h1, h2]⟩
      rw [hx, ← hx0] at hRG
      rw [← hx0] at HAT HNE
      have B2 : Hid (Below w.heap.size w (wr.alloc (.cells #[.int .i64 x0, .int .i64 x1, .int .i64 x2, .slice ma mn mc, .slice pa pn pc] 46))) := hid (B.out.trans (((Below.refl wr.heap.size wr).alloc (Nat.le_refl _) _).mono B.out.size))
      have h0 : (wr.alloc (.cells #[.int .i64 x0, .int .i64 x1, .int .i64 x2, .slice ma mn mc, .slice pa pn pc] 46)).cell? ⟨wr.heap.size, 0, none⟩ = some (.int .i64 x0) := by rw [cell_of_row _ _ _ _ _ _ (heap_alloc_new _ _)]; rfl
      clear hx hx0
      by_cases he : x0 = i
      · have HE : Hid (RatP Z i w (.returned (.int .i64 j)) (wr.alloc (.cells #[.int .i64 x0, .int .i64 x1, .int .i64 x2, .slice ma mn mc, .slice pa pn pc] 46))) := hid ⟨B2.out, (HAT.out he).2⟩
        subst he
        go_wp2_with (refine wpl_loadM rfl _ rfl g (j * 5) (by go_simp) _ _ _ _ _ hRG ?_)
        go_ret
        exact HE.out
      · have g0 : (x0 == i) = false := by simpa using he
        have HN := hid (HNE.out he)
        clear he
        go_wp2_with (refine wpl_loadM rfl _ rfl g (j * 5) (by go_simp) _ _ _ _ _ hRG ?_)
        go_roundw
        case rel => exact ⟨j + 1, by go_num, by omega, HN.out, B2.out⟩
        case measure => simp [intOf]; omega
    · have HE : Hid (RatP Z i w (.returned (.int .i64 (-1))) wr) := hid ⟨B.out, .inr ⟨fun z hz e => by
        obtain ⟨k, hk, rfl⟩ := List.mem_iff_getElem.1 hz
        exact HALL.out k hk (by omega) e, rfl⟩⟩
      go_wp2_with fail
      go_ret
      exact HE.out
end Go.Proofs.Ytnkjkaofgninnaa
