/- What Find of the document's own package lamellaref04 answers. Conditions: the bytes lie in memory, at most a thousand million. -/
import Derived.Test.YtpchmdfkifbciaaJnOpen
import Derived.Test.YtpchmdfkifbciaaJnRefFrame
namespace Go.Proofs.Ytpchmdfkifbciaa
open Go.RowKit

/-- A row of rows has grown by one. -/
theorem Rws.snoc {w w1 w2 : World} {R R' : Nat → Prop} {v u v' : Value} {ls : List (List UInt8)} {vs : List Value} {r : List UInt8} (h : Rws w R v ls vs) (hlt : ∀ k, R k → k < w.heap.size) (hb : Below w.heap.size w w1) (hu : Own w1 w.heap.size u r)
    (hg : w1.grownBy w2 v.ownBlock) (ho : w2.ownsRow 0 34 1 v' (ls.length + 1) (vs ++ [u])) (hat : v'.ownBlock = v.ownBlock ∨ v'.ownBlock = some w1.heap.size) (hR : ∀ k, R k → R' k) (hR' : ∀ k, w.heap.size ≤ k → k < w2.heap.size → R' k) : Rws w2 R' v' (ls ++ [r]) (vs ++ [u]) := by
  have hs1 := hb.size
  have hs2 := hg.size
  have keep : ∀ k, R k → v.ownBlock ≠ some k → w2.heap[k]? = w.heap[k]? := fun k hk hn => (hg.block k (by have := hlt k hk; omega) (fun e => hn e.symm)).trans (hb.block k (hlt k hk))
  have hu2 : Own w2 0 u r := (hu.lower (Nat.zero_le _)).blk fun k hk => hg.block k (hu.lt k hk).2 (fun e => by have := (hu.lt k hk).1; have := hlt k (h.at' k e.symm); omega)
  refine ⟨by rw [List.length_append]; exact ho, fun k hk => ?_, fun i hi => ?_⟩
  · rcases hat with e | e
    · rw [e] at hk; exact hR k (h.at' k hk)
    · have h2 := (ownsRow_lt ho k hk).2
      rw [e] at hk; cases hk; exact hR' _ hs1 h2
  · have hl : (ls ++ [r]).length = ls.length + 1 := by simp
    have hvl : vs.length = ls.length := by have := h.own.1; omega
    by_cases hlt' : i < ls.length
    · obtain ⟨x, g1, g2, g3⟩ := h.rows i hlt'
      refine ⟨x, by rw [List.getElem?_append_left (by omega)]; exact g1, ?_, fun k hk => hR k (g3 k hk)⟩
      have er : (ls ++ [r])[i] = ls[i] := List.getElem_append_left hlt'
      rw [er]
      refine g2.blk fun k hk => keep k (g3 k hk) fun e => ?_
      obtain ⟨-, hh | ⟨g, cap, cur, e1, -, e2, -⟩⟩ := h.own
      · rw [hh.1] at e; cases e
      · rw [e1] at e
        cases e
        exact ownsRow_ne g2 e2 (by decide) _ hk rfl
    · obtain rfl : i = ls.length := by omega
      refine ⟨u, by rw [List.getElem?_append_right (by omega), hvl]; simp, ?_, fun k hk => hR' k (hu.lt k hk).1 (by have := (hu.lt k hk).2; omega)⟩
      have er : (ls ++ [r])[ls.length] = r := by simp
      rw [er]
      exact hu2
theorem Rws.below {w w' : World} {R R' : Nat → Prop} {v : Value} {ls : List (List UInt8)} {vs : List Value} (h : Rws w R v ls vs) (hlt : ∀ k, R k → k < w.heap.size) (hb : Below w.heap.size w w') (hR : ∀ k, R k → R' k) : Rws w' R' v ls vs :=
  h.same (fun k hk => hb.block k (hlt k hk)) hR
/-- The frames that stand at the front are found in one way. -/
def itF (l : List UInt8) : Nat → List (List UInt8) × Nat
  | 0 => ([], 0)
  | k + 1 => ((itF l k).1 ++ [unfD (l.drop (itF l k).2)], (itF l k).2 + wordV (l.drop (itF l k).2) + 8)
theorem Fr.it {l : List UInt8} {rs : List (List UInt8)} {p : Nat} (h : Fr l rs p) : ∃ k, itF l k = (rs, p) ∧ ∀ j, j < k → unfE (l.drop (itF l j).2) = 0 := by
  induction h with
  | nil => exact ⟨0, rfl, fun j hj => by omega⟩
  | @snoc rs p h h0 ih =>
    obtain ⟨k, h1, h2⟩ := ih
    refine ⟨k + 1, by simp [itF, h1], fun j hj => ?_⟩
    by_cases hjk : j < k
    · exact h2 j hjk
    · obtain rfl : j = k := by omega
      rw [h1]; exact h0
theorem Fr.unique {l : List UInt8} {rs rs' : List (List UInt8)} {p p' : Nat} (h : Fr l rs p) (he : unfE (l.drop p) ≠ 0) (h' : Fr l rs' p') (he' : unfE (l.drop p') ≠ 0) : rs = rs' ∧ p = p' := by
  obtain ⟨k, h1, h2⟩ := h.it
  obtain ⟨k', h1', h2'⟩ := h'.it
  rcases Nat.lt_trichotomy k k' with h3 | h3 | h3
  · have := h2' k h3; rw [h1] at this; exact absurd this he
  · subst h3; rw [h1] at h1'; cases h1'; exact ⟨rfl, rfl⟩
  · have := h2 k' h3; rw [h1'] at this; exact absurd this he'
def badW (im : List UInt8) : Int := if im = [] then 4 else if unfE im = 5 then 3 else 2
/-- Blocks that are new. -/
def New (w w' : World) : Nat → Prop := fun k => w.heap.size ≤ k ∧ k < w'.heap.size
/-- What Find answers where the image is right. -/
def FindV (w : World) (im l : List UInt8) (e : Ending) (w' : World) : Prop :=
  ∃ rs p, Fr l rs p ∧ unfE (l.drop p) ≠ 0 ∧ Below w.heap.size w w' ∧
    (unfE (l.drop p) = 5 → e = .returned (.tuple #[.slice none 0 0, .slice none 0 0, .int .i64 (-1), .int .i64 3])) ∧
    (unfE (l.drop p) ≠ 5 → ∃ va vc ra rc vs, e = .returned (.tuple #[.slice va (unfD im).length vc, .slice ra rs.length rc, .int .i64 (if unfE (l.drop p) = 4 then (p : Int) else -1), .int .i64 0]) ∧ Own w' w.heap.size (.slice va (unfD im).length vc) (unfD im) ∧ Rws w' (New w w') (.slice ra rs.length rc) rs vs)
set_option maxHeartbeats 1600000 in
theorem find_bad (iv lv : Value) (im l : List UInt8) (w : World) (hi : Bts w iv im) (hl : Bts w lv l) (hil : im.length ≤ 1000000000) (hb : ¬ imgOk im) :
    Calls Try.prog 35 #[iv, lv] w fun e w' => e = .returned (.tuple #[.slice none 0 0, .slice none 0 0, .int .i64 (-1), .int .i64 (badW im)]) ∧ Below w.heap.size w w' := by
  have HI := hid hi
  obtain ⟨ia, ic, rfl⟩ := hi.shape
  obtain ⟨la, lc, rfl⟩ := hl.shape
  have HB := hid hb
  clear hi hl hb
  by_cases h0 : im = []
  · subst h0
    go_enter Try.func35, Try.ntmps35
    go_wp2
    refine bodyPost_ret (v := .tuple #[.slice none 0 0, .slice none 0 0, .int .i64 (-1), .int .i64 4]) ?_ rfl ?_
    · simp [results, go_sem]
    · exact ⟨rfl, Below.refl _ _⟩
  · have hlen : ((im.length : Int) == 0) = false := by
      have : im.length ≠ 0 := fun h => h0 (List.eq_nil_of_length_eq_zero h)
      simp; omega
    have H0 := hid h0
    clear h0
    go_enter Try.func35, Try.ntmps35
    go_wp2_with fail
    refine (refUnframe_any _ im _ HI.out hil).mono ?_
    rintro e w1 ⟨va, m, vc, n, why, rfl, hu, hb1⟩
    have HB1 := hid hb1
    clear hb1
    unfold RefV at hu
    by_cases hz : unfE im = 0
    · rw [if_pos hz] at hu
      obtain ⟨-, rfl, rfl, rfl⟩ := hu
      have hz1 := (unfE_zero hz).1
      have hne : ((wordV im : Int) + 8 == (im.length : Int)) = false := by
        have : ¬ im.length ≤ wordV im + 8 := fun h => HB.out ⟨hz, h⟩
        simp; omega
      have HW : Hid (badW im = 2) := hid (by unfold badW; rw [if_neg H0.out, if_neg (by omega)])
      clear hz hz1
      go_wp2
      refine bodyPost_ret (v := .tuple #[.slice none 0 0, .slice none 0 0, .int .i64 (-1), .int .i64 2]) ?_ rfl ?_
      · simp [results, go_sem]
      · exact ⟨by rw [HW.out], HB1.out⟩
    · rw [if_neg hz] at hu
      obtain ⟨rfl, rfl, rfl, rfl, rfl⟩ := hu
      rcases unfE_cases im with h | h | h | h
      · exact absurd h hz
      · have HW : Hid (badW im = 2) := hid (by unfold badW; rw [if_neg H0.out, if_neg (by omega)])
        have e2 : (if unfE im = 8 then (1 : Int) else if unfE im = 4 then 2 else 3) = 2 := by rw [h]; rfl
        simp only [e2]
        clear hz h e2
        go_wp2
        refine bodyPost_ret (v := .tuple #[.slice none 0 0, .slice none 0 0, .int .i64 (-1), .int .i64 2]) ?_ rfl ?_
        · simp [results, go_sem]
        · exact ⟨by rw [HW.out], HB1.out⟩
      · have HW : Hid (badW im = 3) := hid (by unfold badW; rw [if_neg H0.out, if_pos h])
        have e2 : (if unfE im = 8 then (1 : Int) else if unfE im = 4 then 2 else 3) = 3 := by rw [h]; rfl
        simp only [e2]
        clear hz h e2
        go_wp2
        refine bodyPost_ret (v := .tuple #[.slice none 0 0, .slice none 0 0, .int .i64 (-1), .int .i64 3]) ?_ rfl ?_
        · simp [results, go_sem]
        · exact ⟨by rw [HW.out], HB1.out⟩
      · exfalso
        refine H0.out ?_
        unfold unfE at h
        by_cases h0 : im = []
        · exact h0
        · rw [if_neg h0] at h
          exfalso
          split at h <;> try omega
          split at h <;> try omega
          split at h <;> try omega
          split at h <;> omega
theorem one_cell {w : World} {g : Nat} {u : Value} (h : w.cell? ⟨g, 0, none⟩ = some u) : ∀ j x, [u][j]? = some x → w.cell? ((⟨g, 0, none⟩ : Addr).add j) = some x := by
  intro j x hj
  match j with
  | 0 => simp at hj; subst hj; exact h
  | j + 1 => simp at hj
theorem one_one (va : Option Addr) (n c : Nat) : ∀ u ∈ [Value.slice va n c], u.oneCell' = true := by intro u hu; simp at hu; subst hu; rfl
set_option maxRecDepth 100000 in
set_option maxHeartbeats 3200000 in
theorem find_ok (iv lv : Value) (im l : List UInt8) (w : World) (hi : Bts w iv im) (hl : Bts w lv l) (hil : im.length ≤ 1000000000) (hll : l.length ≤ 1000000000) (hok : imgOk im) :
    Calls Try.prog 35 #[iv, lv] w (FindV w im l) := by
  have HI := hid hi
  obtain ⟨ia, ic, rfl⟩ := hi.shape
  have HL := hid hl
  obtain ⟨ao, n, cap, rfl, rfl, hc, hcap, hnone, -⟩ := hl
  have hz0 := unfE_zero hok.1
  have hlen : ((im.length : Int) == 0) = false := by
    have h1 := hz0.1
    simp
    intro h
    rw [h] at h1
    simp at h1
  have heq : ((wordV im : Int) + 8 != (im.length : Int)) = false := by
    obtain ⟨-, h2⟩ := hok
    simp; omega
  have HOK := hid hok
  clear hi hok hz0
  go_enter Try.func35, Try.ntmps35
  go_wp2_with fail
  refine (refUnframe_any _ im _ HI.out hil).mono ?_
  rintro e w1 ⟨va, m, vc, n, why, rfl, hu, hb1⟩
  unfold RefV at hu
  rw [if_pos HOK.out.1] at hu
  obtain ⟨ho1, rfl, rfl, rfl⟩ := hu
  have HO1 := hid ho1
  have HB0 := hid hb1
  have HL1 := hid (HL.out.below hb1)
  clear ho1 hb1 HI
  go_wp2
  clear heq hlen
  go_loopw [4, 5, 10, 11, 12, 13] (fun dv rv av _ _ _ wr => ∃ rs p ra rc vs, dv = .slice va (unfD im).length vc ∧ rv = .slice ra rs.length rc ∧ av = .int .i64 (p : Nat) ∧ Fr l rs p ∧ Rws wr (New w1 wr) (.slice ra rs.length rc) rs vs ∧ Below w1.heap.size w1 wr) (fun _ _ av _ _ _ _ => l.length - (intOf av).toNat)
  case atStart => exact ⟨[], 0, none, 0, [], rfl, rfl, rfl, Fr.nil, Rws.nil _ _, Below.refl _ _⟩
  case round =>
    obtain ⟨rs, p, ra, rc, vs, rfl, rfl, rfl, hfr, hrw, hbr⟩ := hrel
    have HF := hid hfr
    have HRW := hid hrw
    have HBR := hid hbr
    have hple := hfr.le
    have hp0 : (0 : Int) ≤ (p : Int) := by omega
    have hpl : (p : Int) ≤ (l.length : Int) := by omega
    have hpc : (p : Int) ≤ (cap : Int) := by omega
    have hlc : (l.length : Int) ≤ (cap : Int) := by omega
    clear hfr hrw hbr
    by_cases hcp : cap = p
    · have hm : l.length - p = 0 := by omega
      have hcm : cap - p = 0 := by omega
      have HRR : Hid (Bts wr (.slice ao 0 0) (l.drop p)) := hid (by
        have := (HL1.out.below HBR.out).sub (k := p) (n := l.length - p) (ao' := ao) (by omega) (fun h => absurd hcp h) (fun _ => rfl)
        rw [List.take_of_length_le (by simp), hm, hcm] at this
        exact this)
      have h8 : unfE (l.drop p) = 8 := by rw [List.drop_eq_nil_of_le (by omega)]; rfl
      have H80 := hid h8
      clear h8
      go_wp2_with fail
      refine (refUnframe_any _ (l.drop p) _ HRR.out (by simp; omega)).mono ?_
      rintro e w2 ⟨xa, m, xc, n, why, rfl, hu, hb2⟩
      have HB2 := hid hb2
      clear hb2
      unfold RefV at hu
      have h8 := H80.out
      rw [if_neg (by rw [h8]; decide), if_pos h8] at hu
      obtain ⟨rfl, rfl, rfl, rfl, rfl⟩ := hu
      have H8 := hid h8
      clear h8
      go_wp2
      refine bodyPost_ret (v := .tuple #[.slice va (unfD im).length vc, .slice ra rs.length rc, .int .i64 (-1), .int .i64 0]) (by simp [results, go_sem]) rfl ?_
      refine ⟨rs, p, HF.out, by rw [H8.out]; decide, HB0.out.trans ((HBR.out.trans (HB2.out.mono HBR.out.size)).mono HB0.out.size), (fun h => by rw [H8.out] at h; cases h), (fun _ => ⟨va, vc, ra, rc, vs, by rw [H8.out]; rfl, (HO1.out.below HBR.out).below HB2.out, ?_⟩)⟩
      exact HRW.out.below (fun k hk => hk.2) HB2.out (fun k hk => ⟨Nat.le_trans HB0.out.size hk.1, Nat.lt_of_lt_of_le hk.2 HB2.out.size⟩)
    · obtain ⟨a, rfl⟩ : ∃ a, ao = some a := by cases ao with | none => exact absurd (hnone rfl) (by omega) | some a => exact ⟨a, rfl⟩
      obtain ⟨a1, ha1⟩ : ∃ a1, a1 = a.add p := ⟨_, rfl⟩
      obtain ⟨m, hm⟩ : ∃ m, m = l.length - p := ⟨_, rfl⟩
      obtain ⟨cp, hcpe⟩ : ∃ cp, cp = cap - p := ⟨_, rfl⟩
      have HRR : Hid (Bts wr (.slice (some a1) m cp) (l.drop p)) := hid (by
        have := (HL1.out.below HBR.out).sub (k := p) (n := l.length - p) (ao' := some (a.add p)) (by omega) (fun _ => rfl) (fun h => absurd h hcp)
        rw [List.take_of_length_le (by simp)] at this
        rw [ha1, hm, hcpe]; exact this)
      have ea : a.add p = a1 := ha1.symm
      have em : l.length - p = m := hm.symm
      have ec : cap - p = cp := hcpe.symm
      clear ha1 hm hcpe
      go_wp2_with fail
      refine (refUnframe_any _ (l.drop p) _ HRR.out (by simp; omega)).mono ?_
      rintro e w2 ⟨xa, m, xc, n, why, rfl, hu, hb2⟩
      have HB2 := hid hb2
      clear hb2
      unfold RefV at hu
      rcases unfE_cases (l.drop p) with h0 | h4 | h5 | h8
      · rw [if_pos h0] at hu
        obtain ⟨ho2, rfl, rfl, rfl⟩ := hu
        obtain ⟨hz1, hz2, hz3⟩ := unfE_zero h0
        have hp1 : p < l.length := by simp at hz1; omega
        obtain ⟨r, hr⟩ : ∃ r, r = unfD (l.drop p) := ⟨_, rfl⟩
        rw [← hr] at ho2 hz3 ⊢
        have HR := hid hr
        have HO2 := hid ho2
        have H0 := hid h0
        have hwl : ((wordV (l.drop p) : Nat) : Int) ≤ 1048576 := by omega
        have hrl := recs_le rs
        have hfs := HF.out.size
        have HRL := hid (show rs.length ≤ 1000000000 by omega)
        have HOW : Hid ((w2.alloc (.cells #[.slice xa r.length xc] 34)).ownsRow 0 34 1 (.slice ra rs.length rc) rs.length vs) := hid (ownsRow_blk HRW.out.own fun k hk => (Below.heap_alloc _ _ _ (by have h1 := (HRW.out.at' k hk).2; have h2 := HB2.out.size; omega)).trans (HB2.out.block k (HRW.out.at' k hk).2))
        have HCW : Hid ((w2.alloc (.cells #[.slice xa r.length xc] 34)).cell? ⟨w2.heap.size, 0, none⟩ = some (.slice xa r.length xc)) := hid (by rw [cell_of_row _ _ _ _ _ _ (heap_alloc_new _ _)]; rfl)
        clear hr ho2 h0 hz1 hz2 hz3 hrl hfs
        go_wp2_with (at_builtin; obtain ⟨i0, hi, hz0, hz1, hz2⟩ := info_parts Try.infoBB; refine wpList_append_own_at _ rfl _ _ 35 rfl 0 34 i0 (.slice none 0 0) 1 24 Try.underlyingBB hi hz0 hz1 hz2 rfl (by decide) (.slice ra rs.length rc) rs.length vs rfl HOW.out ⟨w2.heap.size, 0, none⟩ 1 1 [.slice xa r.length xc] rfl rfl (one_cell HCW.out) (one_one _ _ _) (by unfold maxLen; have := HRL.out; omega) (by have := HRL.out; omega) (Nat.zero_le _) ?_; clear hi hz0 hz1 hz2; intro v5 w5 ho5 hg5 _ hat5; obtain ⟨va5, vc5, rfl⟩ := ownsRow_shape ho5; have HO5 := hid ho5; have HG5 := hid hg5; have HA5 := hid hat5; clear ho5 hg5 hat5)
        have hB2 := HB2.out
        have hO2 := HO2.out
        have hx : Rws w5 (New w1 w5) (.slice va5 (rs.length + 1) vc5) (rs ++ [r]) (vs ++ [.slice xa r.length xc]) :=
          HRW.out.snoc (fun k hk => hk.2) (hB2.alloc hB2.size _) (hO2.below ((Below.refl _ _).alloc (Nat.le_refl _) _)) HG5.out HO5.out HA5.out (fun k hk => ⟨hk.1, by have h1 := hk.2; have h2 := HG5.out.size; have h3 := hB2.size; simp at h2; omega⟩) (fun k h1 h2 => ⟨by have := HBR.out.size; omega, h2⟩)
        have HX := hid hx
        have HB5 : Hid (Below w1.heap.size w1 w5) := hid (by
          have t : But (fun k => (Value.slice ra rs.length rc).ownBlock = some k) (w2.alloc (.cells #[.slice xa r.length xc] 34)) w5 := But.grown HG5.out fun _ h => h
          have h0 : Below w1.heap.size w1 (w2.alloc (.cells #[.slice xa r.length xc] 34)) := (HBR.out.trans (hB2.mono HBR.out.size)).alloc (by have := HBR.out.size; have := hB2.size; omega) _
          exact h0.trans (t.below h0.size fun k hk => (HRW.out.at' k hk).1))
        clear hx hB2 hO2
        go_roundw
        case rel =>
          refine ⟨rs ++ [r], p + wordV (l.drop p) + 8, va5, vc5, vs ++ [.slice xa r.length xc], rfl, by rw [List.length_append]; rfl, by go_num, ?_, by rw [List.length_append]; exact HX.out, HB5.out⟩
          rw [HR.out]; exact Fr.snoc HF.out H0.out
        case measure => simp [intOf]; omega
      · rw [if_neg (by rw [h4]; decide), if_neg (by rw [h4]; decide), if_pos h4] at hu
        obtain ⟨rfl, rfl, rfl, rfl, rfl⟩ := hu
        have H4 := hid h4
        clear h4
        go_wp2
        refine bodyPost_ret (v := .tuple #[.slice va (unfD im).length vc, .slice ra rs.length rc, .int .i64 p, .int .i64 0]) (by simp [results, go_sem]) rfl ?_
        refine ⟨rs, p, HF.out, by rw [H4.out]; decide, HB0.out.trans ((HBR.out.trans (HB2.out.mono HBR.out.size)).mono HB0.out.size), (fun h => by rw [H4.out] at h; cases h), (fun _ => ⟨va, vc, ra, rc, vs, by rw [H4.out]; rfl, (HO1.out.below HBR.out).below HB2.out, ?_⟩)⟩
        exact HRW.out.below (fun k hk => hk.2) HB2.out (fun k hk => ⟨Nat.le_trans HB0.out.size hk.1, Nat.lt_of_lt_of_le hk.2 HB2.out.size⟩)
      · rw [if_neg (by rw [h5]; decide), if_neg (by rw [h5]; decide), if_neg (by rw [h5]; decide)] at hu
        obtain ⟨rfl, rfl, rfl, rfl, rfl⟩ := hu
        have H5 := hid h5
        clear h5
        go_wp2
        refine bodyPost_ret (v := .tuple #[.slice none 0 0, .slice none 0 0, .int .i64 (-1), .int .i64 3]) (by simp [results, go_sem]) rfl ?_
        exact ⟨rs, p, HF.out, by rw [H5.out]; decide, HB0.out.trans ((HBR.out.trans (HB2.out.mono HBR.out.size)).mono HB0.out.size), (fun _ => rfl), (fun h => absurd H5.out h)⟩
      · rw [if_neg (by rw [h8]; decide), if_pos h8] at hu
        obtain ⟨rfl, rfl, rfl, rfl, rfl⟩ := hu
        have H8 := hid h8
        clear h8
        go_wp2
        refine bodyPost_ret (v := .tuple #[.slice va (unfD im).length vc, .slice ra rs.length rc, .int .i64 (-1), .int .i64 0]) (by simp [results, go_sem]) rfl ?_
        refine ⟨rs, p, HF.out, by rw [H8.out]; decide, HB0.out.trans ((HBR.out.trans (HB2.out.mono HBR.out.size)).mono HB0.out.size), (fun h => by rw [H8.out] at h; cases h), (fun _ => ⟨va, vc, ra, rc, vs, by rw [H8.out]; rfl, (HO1.out.below HBR.out).below HB2.out, ?_⟩)⟩
        exact HRW.out.below (fun k hk => hk.2) HB2.out (fun k hk => ⟨Nat.le_trans HB0.out.size hk.1, Nat.lt_of_lt_of_le hk.2 HB2.out.size⟩)
end Go.Proofs.Ytpchmdfkifbciaa
