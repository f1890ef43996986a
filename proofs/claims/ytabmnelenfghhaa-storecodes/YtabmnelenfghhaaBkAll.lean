/- Apply of any command: the store, and the document's. -/
import Derived.Test.YtabmnelenfghhaaBkRApplyC
import Derived.Test.YtabmnelenfghhaaBkRApplyD
import Derived.Test.YtabmnelenfghhaaBkRead
import Derived.Test.YtabmnelenfghhaaBkIdle
import Derived.Test.YtabmnelenfghhaaBkFreeze
namespace Go.Proofs.Ytabmnelenfghhaa
open Go.RowKit
set_option linter.unusedVariables false
set_option linter.unusedSimpArgs false

/-- Is it answered with yes? -/
def okB (S : StD) (c : CmdD) : Bool := mayB c && (!isClB c.op || inB S c) && !S.fr
/-- The error's number. -/
def errN (S : StD) (c : CmdD) : Int := if mayB c = false then 1 else if (isClB c.op && !inB S c) = true then 9 else 0
def dOf (S : StD) (c : CmdD) : Nat := (c.from' - S.from').toNat
def cntOf (c : CmdD) : Nat := (c.to - c.from').toNat
def clOf (c : CmdD) : Fin 4 := ⟨c.client.toNat % 4, Nat.mod_lt _ (by omega)⟩
/-- The texts of the reply. -/
def dataOf (S : StD) (c : CmdD) : List ByteArray := if okB S c = true ∧ c.op = 1 then txF S (dOf S c) (List.finRange (cntOf c)) else []
/-- The store behind the command. -/
def nextS (S : StD) (c : CmdD) : StD := if okB S c = false then S else if c.op = 2 ∨ c.op = 3 then S.put (chF c (clOf c) (dOf S c) (cntOf c) S.cells (List.finRange (cntOf c))) else if c.op = 5 then { S with fr := true } else S
theorem may_cl {c : CmdD} (hm : mayB c = true) (hc : isClB c.op = true) : (1 ≤ c.op ∧ c.op ≤ 4) ∧ 0 ≤ c.client ∧ c.client < 4 ∧ 0 ≤ c.from' ∧ c.from' < c.to ∧ c.to ≤ 256 ∧ (c.op = 2 → (c.data.length : Int) = c.to - c.from') := by
  have ho : 1 ≤ c.op ∧ c.op ≤ 4 := by unfold isClB at hc; simp at hc; omega
  unfold mayB at hm
  rw [if_neg (by omega), if_pos hc] at hm
  simp only [Bool.and_eq_true] at hm
  obtain ⟨ha, hb⟩ := hm
  have hs := mayAsk_span ha
  unfold mayAskB at ha
  simp only [Bool.and_eq_true, decide_eq_true_eq] at ha
  refine ⟨ho, ha.1.1.1.1.1, ha.1.1.1.1.2, hs.1, hs.2.2, hs.2.1, fun h2 => ?_⟩
  unfold mayCarryB at hb
  rw [if_pos h2] at hb
  simp only [Bool.and_eq_true, decide_eq_true_eq] at hb
  exact hb.1
theorem may_other {c : CmdD} (hm : mayB c = true) (hc : isClB c.op = false) : c.op = 0 ∨ c.op = 5 := by
  unfold mayB at hm
  split at hm
  · assumption
  · rw [hc] at hm; simp at hm
theorem notCl {c : CmdD} (h : c.op = 0 ∨ c.op = 5) : isClB c.op = false := by rcases h with h | h <;> (rw [h]; rfl)
/-- What Apply leaves. -/
def ApP (S : StD) (b g : Nat) (c : CmdD) (w : World) (e : Ending) (w' : World) : Prop :=
  ∃ va vc, e = .returned (.tuple #[.agg #[.bool (okB S c), .slice va (dataOf S c).length vc], .int .i64 (errN S c)]) ∧ w'.ownsRow w.heap.size 9 1 (.slice va (dataOf S c).length vc) (dataOf S c).length (tvs (dataOf S c)) ∧ St w' b g (nextS S c) ∧ ButR (fun k => k = b ∨ k = g) w w'
theorem ButR.grown {R : Nat → Prop} {w w' : World} {row : Option Nat} (hg : w.grownBy w' row) (hr : ∀ k, row = some k → R k) : ButR R w w' :=
  ⟨hg.os, hg.tape, hg.output, hg.size, fun k hk hn => hg.block k hk fun e => hn (hr k e.symm)⟩
theorem apP_none {S S' : StD} {b g : Nat} {c : CmdD} {w w' : World} {e : Ending} {ok : Bool} {er : Int} {row : Option Nat} (he : e = .returned (.tuple #[.agg #[.bool ok, .slice none 0 0], .int .i64 er])) (hs : St w' b g S') (hg : w.grownBy w' row) (hr : ∀ k, row = some k → k = b ∨ k = g) (h1 : okB S c = ok) (h2 : errN S c = er) (h3 : dataOf S c = []) (h4 : nextS S c = S') : ApP S b g c w e w' := by
  refine ⟨none, 0, ?_, ?_, by rw [h4]; exact hs, ButR.grown hg hr⟩
  · rw [he, h1, h2, h3]; rfl
  · rw [h3]; exact World.ownsRow_nil _ _ _ _
section
variable {S : StD} {c : CmdD}
theorem no_facts (hm : mayB c = false) : okB S c = false ∧ errN S c = 1 ∧ dataOf S c = [] ∧ nextS S c = S := by
  have h : okB S c = false := by unfold okB; rw [hm]; rfl
  exact ⟨h, by unfold errN; rw [if_pos hm], by unfold dataOf; rw [h]; simp, by unfold nextS; rw [if_pos h]⟩
theorem out_facts (hm : mayB c = true) (hc : isClB c.op = true) (hi : inB S c = false) : okB S c = false ∧ errN S c = 9 ∧ dataOf S c = [] ∧ nextS S c = S := by
  have h : okB S c = false := by unfold okB; rw [hm, hc, hi]; rfl
  exact ⟨h, by unfold errN; rw [if_neg (by rw [hm]; simp), if_pos (by rw [hc, hi]; rfl)], by unfold dataOf; rw [h]; simp, by unfold nextS; rw [if_pos h]⟩
theorem fr_facts (hm : mayB c = true) (hi : (isClB c.op && !inB S c) = false) (hf : S.fr = true) : okB S c = false ∧ errN S c = 0 ∧ dataOf S c = [] ∧ nextS S c = S := by
  have h : okB S c = false := by unfold okB; rw [hf]; simp
  exact ⟨h, by unfold errN; rw [if_neg (by rw [hm]; simp), if_neg (by rw [hi]; simp)], by unfold dataOf; rw [h]; simp, by unfold nextS; rw [if_pos h]⟩
theorem ok_facts (hm : mayB c = true) (hi : (isClB c.op && !inB S c) = false) (hf : S.fr = false) : okB S c = true ∧ errN S c = 0 := by
  refine ⟨?_, by unfold errN; rw [if_neg (by rw [hm]; simp), if_neg (by rw [hi]; simp)]⟩
  unfold okB; rw [hf, hm]
  cases h1 : isClB c.op <;> cases h2 : inB S c <;> simp_all
theorem d_facts (hI : StI S) (hm : mayB c = true) (hc : isClB c.op = true) (hi : inB S c = true) : c.from' = S.from' + (dOf S c : Int) ∧ c.to = c.from' + (cntOf c : Int) ∧ dOf S c + cntOf c ≤ S.cells.length ∧ c.client = ((clOf c).val : Int) ∧ (c.op = 2 → c.data.length = cntOf c) := by
  obtain ⟨h1, h2, h3, h4, h5, h6, h7⟩ := may_cl hm hc
  unfold inB at hi
  simp only [Bool.and_eq_true, decide_eq_true_eq] at hi
  have hn := hI.n
  refine ⟨by unfold dOf; omega, by unfold cntOf; omega, by unfold dOf cntOf; omega, ?_, fun h => ?_⟩
  · show c.client = ((c.client.toNat % 4 : Nat) : Int); omega
  · have := h7 h; unfold cntOf; omega
end
theorem apply_any (b g : Nat) (S : StD) (c : CmdD) (u : Value) (w : World) (hS : St w b g S) (hu : CmdOk w c u) (hug : ∀ a n cp, u = .slice (some a) n cp → 0 < n → a.block ≠ g) :
    Calls Try.prog 25 #[.pointer (some ⟨b, 0, none⟩), cmdV c u] w (ApP S b g c w) := by
  by_cases hm : mayB c = false
  · obtain ⟨f1, f2, f3, f4⟩ := no_facts (S := S) hm
    refine (apply_no b g S c u w hS hu hm).mono ?_
    rintro e w' ⟨he, hs, hg, -⟩
    exact apP_none he hs hg (fun k e => by cases e) f1 f2 f3 f4
  · have hm : mayB c = true := by simpa using hm
    by_cases hc : isClB c.op = true
    · by_cases hi : inB S c = false
      · obtain ⟨f1, f2, f3, f4⟩ := out_facts hm hc hi
        refine (apply_out b g S c u w hS hu hm hc hi).mono ?_
        rintro e w' ⟨he, hs, hg, -⟩
        exact apP_none he hs hg (fun k e => by cases e) f1 f2 f3 f4
      · have hi : inB S c = true := by simpa using hi
        have hx : (isClB c.op && !inB S c) = false := by rw [hi]; simp
        cases hf : S.fr with
        | true =>
          obtain ⟨f1, f2, f3, f4⟩ := fr_facts hm hx hf
          refine (apply_frozenC b g S c u w hS hu hm hc hi hf).mono ?_
          rintro e w' ⟨he, hs, hg, -⟩
          exact apP_none he hs hg (fun k e => by cases e) f1 f2 f3 f4
        | false =>
          obtain ⟨f1, f2⟩ := ok_facts hm hx hf
          obtain ⟨d1, d2, d3, d4, d5⟩ := d_facts hS.i hm hc hi
          have ho := (may_cl hm hc).1
          by_cases o1 : c.op = 1
          · have f4 : nextS S c = S := by unfold nextS; rw [if_neg (by rw [f1]; simp), if_neg (by omega), if_neg (by omega)]
            have f3 : dataOf S c = txF S (dOf S c) (List.finRange (cntOf c)) := by unfold dataOf; rw [if_pos ⟨f1, o1⟩]
            have hl : (dataOf S c).length = cntOf c := by rw [f3, txF_len]; simp
            refine (apply_read b g S c (dOf S c) (cntOf c) u w hS hu hm hc hi hf o1 d1 d2 d3).mono ?_
            rintro e w' ⟨va, vc, he, ho', hs, hg⟩
            refine ⟨va, vc, by rw [hl, f1, f2]; exact he, by rw [hl, f3]; exact ho', by rw [f4]; exact hs, ButR.grown hg (fun k e => by cases e)⟩
          · have f3 : dataOf S c = [] := by unfold dataOf; rw [if_neg (fun h => o1 h.2)]
            by_cases o2 : c.op = 2 ∨ c.op = 3
            · have f4 : nextS S c = S.put (chF c (clOf c) (dOf S c) (cntOf c) S.cells (List.finRange (cntOf c))) := by unfold nextS; rw [if_neg (by rw [f1]; simp), if_pos o2]
              refine (apply_write b g S c (clOf c) (dOf S c) (cntOf c) u w hS hu hm o2 hf d4 d1 d2 d3 d5 hug).mono ?_
              rintro e w' ⟨he, hs, hg, -⟩
              exact apP_none he hs hg (fun k e => .inr (by cases e; rfl)) f1 f2 f3 f4
            · have f4 : nextS S c = S := by unfold nextS; rw [if_neg (by rw [f1]; simp), if_neg o2, if_neg (by omega)]
              refine (apply_idleC b g S c u w hS hu hm hc hi hf (by omega)).mono ?_
              rintro e w' ⟨he, hs, hg, -⟩
              exact apP_none he hs hg (fun k e => by cases e) f1 f2 f3 f4
    · have hc : isClB c.op = false := by simpa using hc
      have hx : (isClB c.op && !inB S c) = false := by rw [hc]; simp
      have ho := may_other hm hc
      cases hf : S.fr with
      | true =>
        obtain ⟨f1, f2, f3, f4⟩ := fr_facts hm hx hf
        refine (apply_frozenO b g S c u w hS hu hm hc hf).mono ?_
        rintro e w' ⟨he, hs, hg, -⟩
        exact apP_none he hs hg (fun k e => by cases e) f1 f2 f3 f4
      | false =>
        obtain ⟨f1, f2⟩ := ok_facts hm hx hf
        have f3 : dataOf S c = [] := by unfold dataOf; rw [if_neg (fun h => by omega)]
        by_cases o5 : c.op = 5
        · have f4 : nextS S c = { S with fr := true } := by unfold nextS; rw [if_neg (by rw [f1]; simp), if_neg (by omega), if_pos o5]
          refine (apply_freeze b g S c u w hS hu hm o5 hf).mono ?_
          rintro e w' ⟨he, hs, hg, -⟩
          exact apP_none he hs hg (fun k e => .inl (by cases e; rfl)) f1 f2 f3 f4
        · have f4 : nextS S c = S := by unfold nextS; rw [if_neg (by rw [f1]; simp), if_neg (by omega), if_neg o5]
          refine (apply_idleO b g S c u w hS hu hm hc hf (by omega)).mono ?_
          rintro e w' ⟨he, hs, hg, -⟩
          exact apP_none he hs hg (fun k e => by cases e) f1 f2 f3 f4
theorem rapply_any (base X : Nat) (vt vm : Value) (ks : List Nat) (S : StD) (c : CmdD) (u : Value) (w : World) (hR : RSt w base X vt vm ks S) (hI : StI S) (hu : CmdOk w c u) (hud : ∀ a n cp, u = .slice (some a) n cp → 0 < n → ¬ RB X vt ks a.block) :
    Calls Try.prog 39 #[.pointer (some ⟨X, 0, none⟩), cmdV c u] w (RApP base X vt vm ks (nextS S c) (okB S c) (errN S c) (dataOf S c) w) := by
  by_cases hm : mayB c = false
  · obtain ⟨f1, f2, f3, f4⟩ := no_facts (S := S) hm
    rw [f1, f2, f3, f4]
    exact rapply_no base X vt vm ks S c u w hR hu hm
  · have hm : mayB c = true := by simpa using hm
    by_cases hc : isClB c.op = true
    · have ho := (may_cl hm hc).1
      by_cases hi : inB S c = false
      · obtain ⟨f1, f2, f3, f4⟩ := out_facts hm hc hi
        rw [f1, f2, f3, f4]
        exact rapply_out base X vt vm ks S c u w hR hu hm ho (by unfold inB at hi; simpa using hi)
      · have hi : inB S c = true := by simpa using hi
        have hx : (isClB c.op && !inB S c) = false := by rw [hi]; simp
        have hin : S.from' ≤ c.from' ∧ c.to ≤ S.to := by unfold inB at hi; simpa using hi
        cases hf : S.fr with
        | true =>
          obtain ⟨f1, f2, f3, f4⟩ := fr_facts hm hx hf
          rw [f1, f2, f3, f4]
          exact rapply_frozenC base X vt vm ks S c u w hR hu hm ho hin hf
        | false =>
          obtain ⟨f1, f2⟩ := ok_facts hm hx hf
          obtain ⟨d1, d2, d3, d4, d5⟩ := d_facts hI hm hc hi
          by_cases o1 : c.op = 1
          · have f4 : nextS S c = S := by unfold nextS; rw [if_neg (by rw [f1]; simp), if_neg (by omega), if_neg (by omega)]
            have f3 : dataOf S c = txF S (dOf S c) (List.finRange (cntOf c)) := by unfold dataOf; rw [if_pos ⟨f1, o1⟩]
            rw [f1, f2, f3, f4]
            exact rapply_read base X vt vm ks S c (dOf S c) (cntOf c) u w hR hI hu hm o1 d1 d2 d3 hf
          · have f3 : dataOf S c = [] := by unfold dataOf; rw [if_neg (fun h => o1 h.2)]
            by_cases o2 : c.op = 2 ∨ c.op = 3
            · have f4 : nextS S c = S.put (chF c (clOf c) (dOf S c) (cntOf c) S.cells (List.finRange (cntOf c))) := by unfold nextS; rw [if_neg (by rw [f1]; simp), if_pos o2]
              rw [f1, f2, f3, f4]
              rcases o2 with o2 | o2
              · exact rapply_write base X vt vm ks S c (clOf c) (dOf S c) (cntOf c) u w hR hI hu hm o2 d4 d1 d2 d3 hf d5 hud
              · exact rapply_trim base X vt vm ks S c (clOf c) (dOf S c) (cntOf c) u w hR hI hu hm o2 d4 d1 d2 d3 hf d5 hud
            · have f4 : nextS S c = S := by unfold nextS; rw [if_neg (by rw [f1]; simp), if_neg o2, if_neg (by omega)]
              rw [f1, f2, f3, f4]
              exact rapply_flush base X vt vm ks S c (dOf S c) (cntOf c) u w hR hI hu hm (by omega) d1 d2 d3 hf
    · have hc : isClB c.op = false := by simpa using hc
      have hx : (isClB c.op && !inB S c) = false := by rw [hc]; simp
      have ho := may_other hm hc
      cases hf : S.fr with
      | true =>
        obtain ⟨f1, f2, f3, f4⟩ := fr_facts hm hx hf
        rw [f1, f2, f3, f4]
        exact rapply_frozenO base X vt vm ks S c u w hR hu hm ho hf
      | false =>
        obtain ⟨f1, f2⟩ := ok_facts hm hx hf
        have f3 : dataOf S c = [] := by unfold dataOf; rw [if_neg (fun h => by omega)]
        by_cases o5 : c.op = 5
        · have f4 : nextS S c = { S with fr := true } := by unfold nextS; rw [if_neg (by rw [f1]; simp), if_neg (by omega), if_pos o5]
          rw [f1, f2, f3, f4]
          exact rapply_freeze base X vt vm ks S c u w hR hu hm o5 hf
        · have f4 : nextS S c = S := by unfold nextS; rw [if_neg (by rw [f1]; simp), if_neg (by omega), if_neg o5]
          rw [f1, f2, f3, f4]
          exact rapply_none base X vt vm ks S c u w hR hu hm (by omega) hf
theorem nextS_i {S : StD} (h : StI S) (c : CmdD) : StI (nextS S c) := by
  unfold nextS
  split
  · exact h
  · split
    · exact ⟨h.f, h.t, h.ft, by show ((chF _ _ _ _ _ _).length : Int) = _; rw [chF_len]; exact h.n⟩
    · split
      · exact ⟨h.f, h.t, h.ft, h.n⟩
      · exact h
end Go.Proofs.Ytabmnelenfghhaa
