/- What Records of a journal answers, and same and small of the laws. Conditions: the journal lies in memory; a record has at most a hundred thousand million bytes. -/
import Derived.Test.YtpchmdfkifbciaaJnRead
import Derived.Laws.OwnMore
namespace Go.Proofs.Ytpchmdfkifbciaa
open Go.RowKit

/-- The row of which the first i are laid. -/
def Part (w : World) (g base : Nat) (ls : List (List UInt8)) (i : Nat) : Prop :=
  ∃ cur, w.heap[g]? = some (.cells cur 34 (0, 0)) ∧ cur.size = ls.length ∧ ∀ k (_ : k < ls.length), k < i → ∃ u, cur[k]? = some u ∧ Own w base u ls[k]
set_option maxHeartbeats 1600000 in
theorem records_any (jb db : Nat) (R : Nat → Prop) (J : JS) (w : World) (hj : Jn w jb db R J) (hm : ∀ r ∈ J.recs, r.length ≤ 100000000000) (hn : J.recs.length ≤ 1000000000) :
    Calls Try.prog 29 #[.pointer (some ⟨jb, 0, none⟩)] w fun e w' => ∃ va vc, e = .returned (.slice va J.recs.length vc) ∧ (∃ vs, Rws w' (fun k => w.heap.size ≤ k ∧ k < w'.heap.size) (.slice va J.recs.length vc) J.recs vs) ∧ Below w.heap.size w w' := by
  obtain ⟨iv, rv, vs, hj, c0, c1, c2, c3, c4, cf⟩ := hj.cells
  have HJ := hid hj
  obtain ⟨va, vc, rfl⟩ := ownsRow_shape hj.rr.own
  have HM := hid hm
  have hjlt := hj.lt
  clear hj hm
  obtain ⟨i0, hi, hz0, hz1, hz2⟩ := info_parts Try.infoBB
  have HI := hid hi
  have HZ0 := hid hz0
  have HZ1 := hid hz1
  have HZ2 := hid hz2
  have HN := hid hn
  clear hi hz0 hz1 hz2 hn
  go_enter Try.func29, Try.ntmps29
  go_wp2_with (at_make; refine wpList_make_full _ rfl _ _ 35 rfl 0 34 i0 (.slice none 0 0) 1 Try.underlyingBB HI.out HZ0.out HZ1.out .i64 .i64 _ _ J.recs.length rfl rfl (by omega) rfl (by rw [HZ2.out]; have := HN.out; omega) (by unfold maxLen; have := HN.out; omega) (Nat.zero_le _) ?_; intro w2 ho2 hg2; have HO2 := hid ho2; have hb2 : Below w.heap.size w w2 := ⟨hg2.os, hg2.tape, hg2.output, hg2.size, fun k hk => hg2.block k hk (by simp)⟩; have HB2 := hid hb2; have k2 : w2.cell? ⟨jb, 2, none⟩ = some (.slice va J.recs.length vc) := cell_later hb2 c2; clear ho2 hg2 hb2)
  have hp0 : Part w2 w.heap.size w.heap.size J.recs 0 := by
    obtain ⟨h1, h2 | ⟨g, cap, cur, e, h3, h4, h5, h6, h7, h8⟩⟩ := HO2.out
    · exact absurd h2.1 (by simp)
    · simp at e
      obtain ⟨e1, e2⟩ := e
      subst e1; subst e2
      exact ⟨cur, h4, by omega, fun k _ hk => by omega⟩
  have hs2 : w.heap.size < w2.heap.size := by obtain ⟨cur, h, -⟩ := hp0; exact lt_of_block h
  have HP0 := hid hp0
  clear hp0 HO2
  have HNI : Hid ((J.recs.length : Int) ≤ 1000000000) := hid (by have := HN.out; omega)
  go_loopw [4, 5, 19] (fun _ _ iv wr => ∃ i : Nat, iv = .int .i64 i ∧ i ≤ J.recs.length ∧ Below w.heap.size w wr ∧ Part wr w.heap.size w.heap.size J.recs i) (fun _ _ iv _ => J.recs.length - (intOf iv).toNat)
  case atStart => exact ⟨0, rfl, Nat.zero_le _, HB2.out, HP0.out⟩
  case round =>
    obtain ⟨i, rfl, hi, hbw, hpw⟩ := hrel
    have HBW := hid hbw
    have HPW := hid hpw
    clear hbw hpw HP0 HB2
    have hni := HNI.out
    by_cases hlt : (i : Int) < (J.recs.length : Int)
    · obtain ⟨u, hu1, hu2, hu3⟩ := HJ.out.rr.rows i (by omega)
      obtain ⟨ua, uc, rfl⟩ := hu2.shape
      have HU := hid (hu2.bts.below HBW.out)
      obtain ⟨g0, rfl⟩ : ∃ g0, va = some ⟨g0, 0, none⟩ := by
        obtain ⟨-, h2 | ⟨g, cap, cur, e, -⟩⟩ := HJ.out.rr.own
        · omega
        · simp at e; exact ⟨g, e.1⟩
      have kA : wr.cell? ((⟨g0, 0, none⟩ : Addr).add i) = some (.slice ua J.recs[i].length uc) := cell_later HBW.out (World.ownsRow.cells HJ.out.rr.own rfl i _ hu1)
      have kB : wr.cell? ⟨g0, i, none⟩ = some (.slice ua J.recs[i].length uc) := by simpa [Addr.add_lit] using kA
      have HML := hid (HM.out J.recs[i] (List.getElem_mem _))
      have hcI : (J.recs.length : Int) ≤ vc := by
        obtain ⟨-, h2 | ⟨g, cap, cur, e, -, -, h, -⟩⟩ := HJ.out.rr.own
        · omega
        · simp at e; omega
      clear hu1 hu2 hu3
      obtain ⟨r, hr⟩ : ∃ r, r = J.recs[i] := ⟨_, rfl⟩
      rw [← hr] at HU HML kA kB
      have HR := hid hr
      clear hr
      go_wp2_with fail
      refine (clone_any _ r _ HU.out HML.out).mono ?_
      rintro e w3 ⟨va3, vc3, rfl, ho3, hb3⟩
      obtain ⟨cur, q1, q2, q3⟩ := HPW.out
      have hglt := lt_of_block q1
      have q1' : w3.heap[w.heap.size]? = some (.cells cur 34 (0, 0)) := (hb3.block _ hglt).trans q1
      obtain ⟨x0, kS⟩ : ∃ x0, w3.cell? ⟨w.heap.size, i, none⟩ = some x0 := ⟨cur[i]'(by omega), by rw [cell_of_row _ _ _ _ _ _ q1']; simp⟩
      have kF : w3.frozen? ⟨w.heap.size, i, none⟩ = false := frozen_of_row _ _ _ _ _ q1'
      have HO3 := hid ho3
      have HB3 := hid hb3
      have Q1 := hid q1'
      have Q2 := hid q2
      have Q3 := hid q3
      have HG := hid hglt
      clear ho3 hb3 q1 q1' q2 q3 hglt
      go_wp2
      go_roundw
      case rel =>
        have hbs := HBW.out.size
        have hx3 : ∀ k, k ≠ w.heap.size → (w3.setCell ⟨w.heap.size, i, none⟩ (.slice va3 r.length vc3)).heap[k]? = w3.heap[k]? := fun k hk => Below.heap_setCell _ _ _ _ (by simpa using hk)
        refine ⟨i + 1, by go_num, by omega, (HBW.out.trans (HB3.out.mono hbs)).setCell (Nat.le_refl _) _, _, heap_setCell_same w3 w.heap.size i cur _ _ Q1.out, by simpa using Q2.out, fun k hk hki => ?_⟩
        by_cases hke : k = i
        · subst hke
          refine ⟨_, Array.getElem?_setIfInBounds_self_of_lt (by have := Q2.out; omega), ?_⟩
          rw [← HR.out]
          exact (HO3.out.lower hbs).blk fun k' hk' => hx3 k' (fun e => by have := (HO3.out.lt k' hk').1; have := HG.out; omega)
        · obtain ⟨u, g1, g2⟩ := Q3.out k hk (by omega)
          have g3 := g2.below HB3.out
          refine ⟨u, by rw [Array.getElem?_setIfInBounds_ne (by omega)]; exact g1, g3.blk fun k' hk' => hx3 k' (ownsRow_ne g3 Q1.out (by decide) k' hk')⟩
      case measure => simp [intOf]; omega
    · obtain rfl : i = J.recs.length := by omega
      obtain ⟨cur, q1, q2, q3⟩ := HPW.out
      have Q1 := hid q1
      have Q2 := hid q2
      have Q3 := hid q3
      clear q1 q2 q3
      go_wp2
      go_ret
      refine ⟨_, _, rfl, ⟨cur.toList, ⟨by simp [Q2.out], .inr ⟨w.heap.size, J.recs.length, cur, rfl, Nat.zero_le _, Q1.out, Nat.le_refl _, by unfold maxLen; omega, by rw [Q2.out]; omega, by rw [List.take_of_length_le (by simp [Q2.out])]⟩⟩, ?_, ?_⟩, HBW.out⟩
      · intro k hk
        cases hk
        exact ⟨Nat.le_refl _, lt_of_block Q1.out⟩
      · intro k hk
        obtain ⟨u, g1, g2⟩ := Q3.out k hk hk
        exact ⟨u, by simpa using g1, g2.lower (Nat.zero_le _), fun k' hk' => g2.lt k' hk'⟩
theorem Rws.btss {w : World} {R : Nat → Prop} {v : Value} {ls : List (List UInt8)} {vs : List Value} (h : Rws w R v ls vs) : Btss w v ls := by
  obtain ⟨h1, h2 | ⟨g, cap, cur, rfl, h3, h4, h5, h6, h7, h8⟩⟩ := h.own
  · obtain ⟨rfl, h0⟩ := h2
    exact ⟨none, 0, 0, rfl, h0.symm, Nat.le_refl _, by omega, (fun _ => rfl), (fun ad h => by cases h)⟩
  · refine ⟨some ⟨g, 0, none⟩, ls.length, cap, rfl, rfl, h5, by unfold maxLen at h6; omega, (fun h => by cases h), ?_⟩
    intro ad had j hj
    obtain rfl := Option.some.inj had
    obtain ⟨u, g1, g2, -⟩ := h.rows j hj
    exact ⟨u, World.ownsRow.cells h.own rfl j u g1, g2.bts⟩
set_option maxHeartbeats 400000 in
theorem small_any (v : Value) (l : List UInt8) (w : World) (hv : Bts w v l) :
    Calls Try.prog 14 #[v] w fun e w' => ∃ va n vc, e = .returned (.slice va n vc) ∧ Bts w (.slice va n vc) (l.take 3000) ∧ (Value.slice va n vc).ownBlock = v.ownBlock ∧ w' = w := by
  have HV := hid hv
  obtain ⟨ao, n, cap, rfl, rfl, hc, hcap, hnone, hcell⟩ := hv
  by_cases hl : 3000 < l.length
  · have hao : ∃ ad, ao = some ad := by cases ao with | none => exact absurd (hnone rfl) (by omega) | some ad => exact ⟨ad, rfl⟩
    obtain ⟨ad, rfl⟩ := hao
    have HB := hid (HV.out.take (n := 3000) (by omega))
    clear hcell hnone HV
    go_enter Try.func14, Try.ntmps14
    go_wp2
    go_ret
    exact ⟨_, _, _, rfl, HB.out, rfl, rfl⟩
  · have HB : Hid (Bts w (.slice ao l.length cap) (l.take 3000)) := hid (by rw [List.take_of_length_le (by omega)]; exact HV.out)
    clear hcell hnone HV
    go_enter Try.func14, Try.ntmps14
    go_wp2
    go_ret
    exact ⟨_, _, _, rfl, HB.out, rfl, rfl⟩
end Go.Proofs.Ytpchmdfkifbciaa
