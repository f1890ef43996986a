/- Apply of any change, of the program's map of shards and of the document's. Conditions: the maps lie in memory, and are such as come of a new one. -/
import Derived.Test.YtmocedkbabnpfaaGreatAtStep
namespace Go.Proofs.YtmocedkbabnpfaaGreat
open Go.RowKit Go.Maps Go.Shelf
set_option linter.unusedVariables false
set_option linter.unusedSimpArgs false

theorem map_mid {X : List SX} {P Q : List ShD} {S : ShD} (h : X.map (·.s) = P ++ S :: Q) : ∃ PX x QX, X = PX ++ x :: QX ∧ PX.map (·.s) = P ∧ x.s = S ∧ QX.map (·.s) = Q := by
  obtain ⟨PX, R, rfl, h1, h2⟩ := List.map_eq_append_iff.1 h
  obtain ⟨x, QX, rfl, h3, h4⟩ := List.map_eq_cons_iff.1 h2
  exact ⟨PX, x, QX, rfl, h1, h3, h4⟩
theorem ne_map {X : List SX} (h : (X.map (·.s)).Pairwise fun x y => x.id ≠ y.id) : X.Pairwise fun x y => x.s.id ≠ y.s.id := (List.pairwise_map (f := fun x : SX => x.s) (R := fun x y : ShD => x.id ≠ y.id)).1 h
theorem one_of {X : List SX} (h : X.Pairwise fun x y => x.s.id ≠ y.s.id) : ∀ x ∈ X, ∀ y ∈ X, y.s.id = x.s.id → y = x := fun x hx y hy e => by
  obtain ⟨i, hi, rfl⟩ := List.mem_iff_getElem.1 hx
  obtain ⟨j, hj, rfl⟩ := List.mem_iff_getElem.1 hy
  rcases Nat.lt_trichotomy i j with h1 | h1 | h1
  · exact absurd e.symm (List.pairwise_iff_getElem.1 h i j hi hj h1)
  · subst h1; rfl
  · exact absurd e (List.pairwise_iff_getElem.1 h j i hj hi h1)
theorem ChnD.rise : ∀ (X : List ShD) (a b : Int), ChnD a X b → X.Pairwise fun x y => x.to ≤ y.fr
  | [], _, _, _ => List.Pairwise.nil
  | y :: l, a, b, ⟨h1, h2, h3⟩ => List.pairwise_cons.2 ⟨fun x hx => (ChnD.mem l _ b h3 x hx).1, ChnD.rise l _ b h3⟩
/-- The one that begins where another ends is the next. -/
theorem chn_next {a b : Int} {Z P Q P' Q' : List ShD} {S U : ShD} (h : ChnD a Z b) (hZ : Z = P ++ S :: Q) (hZ' : Z = P' ++ U :: Q') (he : U.fr = S.to) : P'.length = P.length + 1 := by
  have hr := List.pairwise_iff_getElem.1 (ChnD.rise Z a b h)
  have hm := ChnD.mem Z a b h
  have hi : P.length < Z.length := by rw [hZ]; simp
  have hj : P'.length < Z.length := by rw [hZ']; simp
  have hS : Z[P.length] = S := by subst hZ; simp
  have hU : Z[P'.length] = U := by subst hZ'; simp
  have hS2 := hm S (by rw [hZ]; simp)
  have hU2 := hm U (by rw [hZ']; simp)
  rcases Nat.lt_trichotomy P'.length P.length with h1 | h1 | h1
  · have := hr _ _ hj hi h1
    rw [hS, hU] at this; omega
  · have : S = U := by rw [← hS, ← hU]; simp [h1]
    subst this; omega
  · by_cases h2 : P'.length = P.length + 1
    · exact h2
    · have hk : P.length + 1 < Z.length := by omega
      have e1 := hr _ _ hi hk (by omega)
      have e2 := hr _ _ hk hj (by omega)
      have := hm _ (List.getElem_mem hk)
      rw [hS] at e1
      rw [hU] at e2
      omega
/-- What Apply leaves. -/
def ApP (b wb mb n : Nat) (N' : AtN) (Z' : List ShD) (r : Int) (w : World) (e : Ending) (w' : World) : Prop :=
  ∃ n' ov' D' X', e = .returned (.int .i64 r) ∧ At w' b wb mb n' ov' D' N' X' ∧ X'.map (·.s) = Z' ∧ n' ≤ n + 2 ∧ Tr (AtR b wb mb) w w'
def RaP (xb : Nat) (N' : AtN) (Z' : List ShD) (r : Int) (w : World) (e : Ending) (w' : World) : Prop :=
  ∃ rv' sv' Y', e = .returned (.int .i64 r) ∧ RB w' xb N' rv' sv' Y' ∧ Y'.map (·.s) = Z' ∧ Tr (fun q => q = xb) w w'
theorem ap_same {b wb mb n : Nat} {ov : Value} {D : DataW Value} {N : AtN} {X : List SX} {w : World} {r : Int} (h : At w b wb mb n ov D N X) (e : Ending) (w' : World) (he : e = .returned (.int .i64 r) ∧ Below w.heap.size w w') : ApP b wb mb n N (X.map (·.s)) r w e w' :=
  ⟨n, ov, D, X, he.1, h.below he.2, rfl, by omega, Tr.below he.2⟩
theorem ra_same {xb : Nat} {rv sv : Value} {N : AtN} {Y : List SX} {w : World} {r : Int} (h : RB w xb N rv sv Y) (e : Ending) (w' : World) (he : e = .returned (.int .i64 r) ∧ Below w.heap.size w w') : RaP xb N (Y.map (·.s)) r w e w' :=
  ⟨rv, sv, Y, he.1, h.below he.2, rfl, Tr.below he.2⟩
theorem fit1_B {c : ChD} {S : ShD} (h3 : c.k ≠ 3) (h2 : c.k ≠ 2) : fitB c S S = fit1 c S := by
  unfold fitB fit1
  rw [if_neg h2, if_neg h3]
theorem sp_in {c : ChD} {S : ShD} {fr tt : Int} (h1 : 0 ≤ fr ∧ tt ≤ 256) (h2 : c.k = 1 → fr < c.at' ∧ c.at' < tt) (h3 : fr < tt) : ∀ s ∈ spD c fr tt, -9223372036854775808 ≤ s.1 ∧ s.2 ≤ 9223372036854775807 := by
  unfold spD
  split
  · rename_i hk
    have := h2 hk
    intro s hs
    simp at hs
    rcases hs with rfl | rfl <;> constructor <;> simp only <;> omega
  · intro s hs
    simp at hs
    subst hs
    constructor <;> simp only <;> omega
theorem mem7 {l : List Int} (h : memB l = true) : l.length ≤ 7 := by
  obtain ⟨hr, hn, -⟩ := mem_rise h
  have := rise_len l 0 hr hn; omega
set_option maxHeartbeats 1000000 in
theorem aapply_any (b wb mb n B : Nat) (ov : Value) (D : DataW Value) (N N' : AtN) (X : List SX) (Z' : List ShD) (c : ChD) (r : Int) (w : World) (h : At w b wb mb n ov D N X) (g : Gd B N (X.map (·.s))) (hs : StepR N (X.map (·.s)) c r N' Z') (hc : ChJ c) (hB : B ≤ 1000) (hn : n ≤ 1000) :
    Calls Tryz.prog 21 #[.pointer (some ⟨b, 0, none⟩), chV c] w (ApP b wb mb n N' Z' r w) := by
  have hsh : I64 c.sh := hc c.sh (by simp [numC])
  have hot : I64 c.ot := hc c.ot (by simp [numC])
  have hneX := ne_map g.ne
  have honX := one_of hneX
  have gS := gd_step g hs
  have hXI : ∀ x ∈ X, I64 x.s.id := fun x hx => by have := g.id x.s (List.mem_map.2 ⟨x, hx, rfl⟩); have := g.nx; constructor <;> omega
  have hlt : ∀ x ∈ X, x.s.id < N.nx := fun x hx => (g.id x.s (List.mem_map.2 ⟨x, hx, rfl⟩)).2
  have hxl : X.length ≤ 100000 := by have := g.len; rw [List.length_map] at this; omega
  cases hs with
  | bad hb =>
    cases hk : akB c.k with
    | false => exact (apply_kind b c w hk).mono (ap_same h)
    | true => exact (apply_field b c w hk (hb.resolve_left (by simp [hk]))).mono (ap_same h)
  | calm hk hnm h5 ho => exact (apply_calm b wb mb n ov D N X c w h hk hnm h5 ho).mono (ap_same h)
  | settle hk hnm h5 ho =>
    refine (apply_settle b wb mb n ov D N X c w h hk hnm h5 ho).mono ?_
    rintro e w' ⟨rfl, ha, ht⟩
    exact ⟨n, _, D, X, rfl, ha, rfl, by omega, ht⟩
  | down hk hnm h5 ho => exact (apply_down b wb mb n ov D N X c w h hk hnm h5 ho).mono (ap_same h)
  | miss hk hnm h5 ho hno => exact (apply_miss b wb mb n ov D N X c w h hk hnm h5 ho hsh hot ⟨c.sh, by unfold idsD; split <;> simp, fun x hx => hno x.s (List.mem_map.2 ⟨x, hx, rfl⟩)⟩).mono (ap_same h)
  | miss2 hk hnm h2 ho P Q S hZ hi hno => exact (apply_miss b wb mb n ov D N X c w h hk hnm (by omega) ho hsh hot ⟨c.ot, by unfold idsD; rw [if_pos h2]; simp, fun x hx => hno x.s (List.mem_map.2 ⟨x, hx, rfl⟩)⟩).mono (ap_same h)
  | unfit hk hnm h5 h2 ho P Q S hZ hi hf =>
    obtain ⟨PX, x, QX, hX, rfl, rfl, rfl⟩ := map_mid hZ
    have hx : x ∈ X := by rw [hX]; simp
    refine (apply_unfit b wb mb n 1 ov D N X [x] c w h hk hnm h5 (fun W hW => gone_one b wb mb n ov D N _ X c x W hW ho hsh hot h2 hx hi fun y hy e => honX x hx y hy e) (fun W v hv => ?_)).mono (ap_same h)
    by_cases h3 : c.k = 3
    · refine (fits_rep c x.s x.mv x.pv v W h3 hv).mono fun e w' he => ⟨?_, he.2⟩
      unfold fit1 at hf
      rw [if_neg (by omega), if_pos h3] at hf
      rw [he.1, hf]
    · refine (fits_one c x.s x.mv x.pv v W h3 h2 hv).mono fun e w' he => ⟨?_, he.2⟩
      rw [he.1, fit1_B h3 h2, hf]
  | unfit2 hk hnm h2 ho P Q P' Q' S U hZ hi hZ' hj hne =>
    have hfr : ¬ U.fr = S.to := fun e => hne (chn_next g.ch hZ hZ' e)
    obtain ⟨PX, x, QX, hX, -, rfl, -⟩ := map_mid hZ
    obtain ⟨PY, y, QY, hY, -, rfl, -⟩ := map_mid hZ'
    have hx : x ∈ X := by rw [hX]; simp
    have hy : y ∈ X := by rw [hY]; simp
    refine (apply_unfit b wb mb n 2 ov D N X [x, y] c w h hk hnm (by omega) (fun W hW => gone_two b wb mb n ov D N _ X c x y W hW ho hsh hot h2 hx hi (fun z hz e => honX x hx z hz e) hy hj (fun z hz e => honX y hy z hz e)) (fun W v hv => ?_)).mono (ap_same h)
    refine (fits_two c x.s y.s x.mv x.pv y.mv y.pv v W h2 hv).mono fun e w' he => ⟨?_, he.2⟩
    rw [he.1]
    unfold fitB
    rw [if_neg (by omega), if_pos h2, decide_eq_false hfr]
  | one hk hnm h5 h2 ho P Q S hZ hi hf =>
    obtain ⟨PX, x, QX, hX, rfl, rfl, rfl⟩ := map_mid hZ
    have hx : x ∈ X := by rw [hX]; simp
    have hch := (chn_d X 0 N.bl).2 g.ch
    have hX' : X = PX ++ [x] ++ QX := by rw [hX]; simp
    have hmem := Chn.mem X 0 N.bl hch x hx
    rw [hX'] at hch
    obtain ⟨t, h12, hq⟩ := (Chn.append _ _ _ _).1 hch
    obtain ⟨f, hp, hg⟩ := (Chn.append _ _ _ _).1 h12
    have hbl := g.bl
    have hfit : c.k = 1 → x.s.fr < c.at' ∧ c.at' < x.s.to := fun hk1 => by unfold fit1 at hf; rw [if_pos hk1] at hf; simpa using hf
    have hsi := sp_in (c := c) (S := x.s) (fr := x.s.fr) (tt := x.s.to) ⟨hmem.1, by omega⟩ hfit hmem.2.1
    have hcan : ∀ mv' pv' W', Can W' → Chs (X.map SX.pc) ((nwX N.nx (mlD c x.s) ([x].map fun x => x.or.o) mv' pv' (spD c x.s.fr x.s.to)).map SX.pc) W' → W' = (PX ++ nwX N.nx (mlD c x.s) ([x].map fun x => x.or.o) mv' pv' (spD c x.s.fr x.s.to) ++ QX).map SX.pc := fun mv' pv' W' hW hc' => by
      refine chn_put PX [x] QX _ 0 f t N.bl hp hg hq ?_ ?_ W' hW (by rw [← hX']; exact hc')
      · rw [chn_d, nwX_s]
        exact one_ch c x.s _ _ _ hf f t ((chn_d [x] f t).1 hg)
      · refine ne_map ?_
        rw [List.map_append, List.map_append, nwX_s]
        exact gS.ne
    have hout := outX_mid PX [x] QX (by rw [← hX']; exact hneX)
    rw [← hX'] at hout
    have fin : ∀ e w', ApK b wb mb n N PX [x] QX (spD c x.s.fr x.s.to) (mlD c x.s) w e w' → ApP b wb mb n (afD N (spD c x.s.fr x.s.to)) (PX.map (·.s) ++ nwD N.nx (mlD c x.s) [x.s.or] (spD c x.s.fr x.s.to) ++ QX.map (·.s)) 0 w e w' := by
      rintro e w' ⟨ov', D', mv, pvo, he, ha, ht⟩
      exact ⟨_, ov', D', _, he, ha, by rw [List.map_append, List.map_append, nwX_s]; rfl, by have := (spD_len c x.s.fr x.s.to).1; omega, ht⟩
    by_cases h3 : c.k = 3
    · have hml : mlD c x.s = swD x.s.mem c.out c.in' := by unfold mlD; rw [if_pos h3]
      refine (apply_rep b wb mb n ov D N X PX QX [x] x.s x.mv x.pv c w h hk hnm h3 ho rfl (by simpa using hx) hi (fun y hy e => honX x hx y hy e) (mlD c x.s) hml (g.mb x.s (List.mem_map.2 ⟨x, hx, rfl⟩)) (by unfold fit1 at hf; rw [if_neg (by omega), if_pos h3] at hf; exact hf) hXI (by omega) (by have := g.nx; omega) (by have := g.ep; omega) hlt hxl hsi hsh hot (by have := mem7 (g.mb x.s (List.mem_map.2 ⟨x, hx, rfl⟩)); omega) hcan hout).mono fin
    · have hml : mlD c x.s = x.s.mem := by unfold mlD; rw [if_neg h3]
      rw [hml] at hcan fin ⊢
      exact (apply_one b wb mb n ov D N X PX QX [x] x.s x.mv x.pv c w h hk hnm h2 h3 h5 ho rfl (by simpa using hx) hi (fun y hy e => honX x hx y hy e) (by rw [fit1_B h3 h2]; exact hf) hXI (by omega) (by have := g.nx; omega) (by have := g.ep; omega) hlt hxl hsi hsh hot (by have := mem7 (g.mb x.s (List.mem_map.2 ⟨x, hx, rfl⟩)); omega) hcan hout).mono fin
  | two hk hnm h2 ho P Q S U hZ hi hj =>
    obtain ⟨PX, x, RX, hX, rfl, rfl, hR⟩ := map_mid hZ
    obtain ⟨y, QX, rfl, rfl, rfl⟩ := List.map_eq_cons_iff.1 hR
    have hx : x ∈ X := by rw [hX]; simp
    have hy : y ∈ X := by rw [hX]; simp
    have hch := (chn_d X 0 N.bl).2 g.ch
    have hX' : X = PX ++ [x, y] ++ QX := by rw [hX]; simp
    have hmx := Chn.mem X 0 N.bl hch x hx
    have hmy := Chn.mem X 0 N.bl hch y hy
    rw [hX'] at hch
    obtain ⟨t, h12, hq⟩ := (Chn.append _ _ _ _).1 hch
    obtain ⟨f, hp, hg⟩ := (Chn.append _ _ _ _).1 h12
    obtain ⟨q1, q2, q3, q4, q5⟩ := hg
    have hbl := g.bl
    have hsp : spD c x.s.fr y.s.to = [(x.s.fr, y.s.to)] := by unfold spD; rw [if_neg (by omega)]
    have hsi := sp_in (c := c) (S := x.s) (fr := x.s.fr) (tt := y.s.to) ⟨hmx.1, by omega⟩ (fun hk1 => by omega) (by omega)
    have hcan : ∀ mv' pv' W', Can W' → Chs (X.map SX.pc) ((nwX N.nx x.s.mem ([x, y].map fun x => x.or.o) mv' pv' (spD c x.s.fr y.s.to)).map SX.pc) W' → W' = (PX ++ nwX N.nx x.s.mem ([x, y].map fun x => x.or.o) mv' pv' (spD c x.s.fr y.s.to) ++ QX).map SX.pc := fun mv' pv' W' hW hc' => by
      refine chn_put PX [x, y] QX _ 0 f t N.bl hp ⟨q1, q2, q3, q4, q5⟩ hq ?_ ?_ W' hW (by rw [← hX']; exact hc')
      · rw [hsp]
        exact ⟨q1, by show x.s.fr < y.s.to; omega, q5⟩
      · refine ne_map ?_
        rw [List.map_append, List.map_append, nwX_s, hsp]
        exact gS.ne
    have hout := outX_mid PX [x, y] QX (by rw [← hX']; exact hneX)
    rw [← hX'] at hout
    refine (apply_two b wb mb n ov D N X PX QX [x, y] x.s y.s x.mv x.pv y.mv y.pv c w h hk hnm h2 ho rfl (by simp [hx, hy]) hi (fun z hz e => honX x hx z hz e) hj (fun z hz e => honX y hy z hz e) (by unfold fitB; rw [if_neg (by omega), if_pos h2, decide_eq_true (by omega)]) hXI (by omega) (by have := g.nx; omega) (by have := g.ep; omega) hlt hxl hsi hsh hot (by have := mem7 (g.mb x.s (List.mem_map.2 ⟨x, hx, rfl⟩)); omega) hcan hout).mono ?_
    rintro e w' ⟨ov', D', mv, pvo, he, ha, ht⟩
    rw [hsp] at ha
    exact ⟨_, ov', D', _, he, ha, by rw [List.map_append, List.map_append, nwX_s]; rfl, by simp, ht⟩
theorem rapply_any (xb B : Nat) (rv sv : Value) (N N' : AtN) (Y : List SX) (Z' : List ShD) (c : ChD) (r : Int) (w : World) (h : RB w xb N rv sv Y) (g : Gd B N (Y.map (·.s))) (hs : StepR N (Y.map (·.s)) c r N' Z') (hB : B ≤ 1000) :
    Calls Tryz.prog 28 #[.pointer (some ⟨xb, 0, none⟩), chV c] w (RaP xb N' Z' r w) := by
  have hneY := ne_map g.ne
  have hnx : 0 ≤ N.nx ∧ N.nx ≤ 1073741824 := by have := g.nx; omega
  have hep : 0 ≤ N.ep ∧ N.ep ≤ 1073741824 := by have := g.ep; omega
  have hl : Y.length ≤ 100000 := by have := g.len; rw [List.length_map] at this; omega
  have hno : ∀ {i : Int}, (∀ z ∈ Y.map (·.s), z.id ≠ i) → ∀ z ∈ Y, z.s.id ≠ i := fun hh z hz => hh z.s (List.mem_map.2 ⟨z, hz, rfl⟩)
  have fin : ∀ (P G Q : List SX) (sp : List Sp) (ml : List Int) (e : Ending) (w' : World), RaK xb N P G Q sp ml w e w' → RaP xb (afD N sp) (P.map (·.s) ++ nwD N.nx ml (G.map fun x => x.or.o) sp ++ Q.map (·.s)) 0 w e w' := by
    rintro P G Q sp ml e w' ⟨ov', sv', mv, pv, he, hr, ht⟩
    exact ⟨ov', sv', _, he, hr, by rw [List.map_append, List.map_append, nwX_s], ht⟩
  cases hs with
  | bad hb => exact (rapp_bad xb c w hb).mono (ra_same h)
  | calm hk hnm h5 ho =>
    have hf : c = ⟨5, 0, 0, 0, 0, 0⟩ := by
      rcases ch_form c hk hnm with e | e | e | e | e
      · rw [e] at h5; simp at h5
      · rw [e] at h5; simp at h5
      · rw [e] at h5; simp at h5
      · rw [e] at h5; simp at h5
      · exact e
    rw [hf]
    exact (rapp_calm xb N rv sv Y w h ho).mono (ra_same h)
  | settle hk hnm h5 ho =>
    have hf : c = ⟨5, 0, 0, 0, 0, 0⟩ := by
      rcases ch_form c hk hnm with e | e | e | e | e
      · rw [e] at h5; simp at h5
      · rw [e] at h5; simp at h5
      · rw [e] at h5; simp at h5
      · rw [e] at h5; simp at h5
      · exact e
    rw [hf]
    exact (rapp_settle xb N rv sv Y w h ho).mono fun e w' he => ⟨_, sv, Y, he.1, he.2.1, rfl, he.2.2⟩
  | down hk hnm h5 ho => exact (rapp_down xb N rv sv Y c w h hk hnm h5 ho).mono (ra_same h)
  | miss hk hnm h5 ho hn => exact (rapp_miss xb N rv sv Y c w h hk hnm h5 ho hl (hno hn)).mono (ra_same h)
  | miss2 hk hnm h2 ho P Q S hZ hi hn =>
    obtain ⟨PX, x, QX, hX, rfl, rfl, rfl⟩ := map_mid hZ
    have hf : c = ⟨2, c.sh, c.ot, 0, 0, 0⟩ := by
      rcases ch_form c hk hnm with e | e | e | e | e
      · rw [e] at h2; simp at h2
      · exact e
      · rw [e] at h2; simp at h2
      · rw [e] at h2; simp at h2
      · rw [e] at h2; simp at h2
    rw [hf]
    exact (rapp_miss2 xb N rv sv Y PX QX x c.sh c.ot w h hX hi hneY ho hnx hep hl (hno hn)).mono (ra_same h)
  | unfit hk hnm h5 h2 ho P Q S hZ hi hf =>
    obtain ⟨PX, x, QX, hX, rfl, rfl, rfl⟩ := map_mid hZ
    unfold fit1 at hf
    rcases ch_form c hk hnm with e | e | e | e | e
    · have hk1 : c.k = 1 := by rw [e]
      rw [if_pos hk1] at hf
      rw [e]
      exact (rapp_unfit1 xb N rv sv Y PX QX x c.sh c.at' w h hX hi hneY ho hnx hep hl (by simpa using hf)).mono (ra_same h)
    · exact absurd (by rw [e]) h2
    · have hk3 : c.k = 3 := by rw [e]
      rw [if_neg (by omega), if_pos hk3] at hf
      rw [e]
      exact (rapp_unfit3 xb N rv sv Y PX QX x c.sh c.out c.in' w h hX hi hneY ho hnx hep hl (g.mb x.s (List.mem_map.2 ⟨x, by rw [hX]; simp, rfl⟩)) hf).mono (ra_same h)
    · have hk4 : c.k = 4 := by rw [e]
      rw [if_neg (by omega), if_neg (by omega)] at hf
      cases hf
    · exact absurd (by rw [e]) h5
  | unfit2 hk hnm h2 ho P Q P' Q' S U hZ hi hZ' hj hne =>
    obtain ⟨PX, x, QX, hX, rfl, rfl, rfl⟩ := map_mid hZ
    obtain ⟨PY, y, QY, hY, rfl, rfl, rfl⟩ := map_mid hZ'
    have hf : c = ⟨2, c.sh, c.ot, 0, 0, 0⟩ := by
      rcases ch_form c hk hnm with e | e | e | e | e
      · rw [e] at h2; simp at h2
      · exact e
      · rw [e] at h2; simp at h2
      · rw [e] at h2; simp at h2
      · rw [e] at h2; simp at h2
    rw [hf]
    exact (rapp_unfit2 xb N rv sv Y PX QX PY QY x y c.sh c.ot w h hX hi hneY ho hnx hep hl hY hj (by simpa using hne)).mono (ra_same h)
  | one hk hnm h5 h2 ho P Q S hZ hi hf =>
    obtain ⟨PX, x, QX, hX, rfl, rfl, rfl⟩ := map_mid hZ
    have hm := g.mb x.s (List.mem_map.2 ⟨x, by rw [hX]; simp, rfl⟩)
    have fin' := fin PX [x] QX
    unfold fit1 at hf
    rcases ch_form c hk hnm with e | e | e | e | e
    · have hk1 : c.k = 1 := by rw [e]
      rw [if_pos hk1] at hf
      have hsp : spD c x.s.fr x.s.to = [(x.s.fr, c.at'), (c.at', x.s.to)] := by unfold spD; rw [if_pos hk1]
      have hml : mlD c x.s = x.s.mem := by unfold mlD; rw [if_neg (by omega)]
      have hf2 : x.s.fr < c.at' ∧ c.at' < x.s.to := by simpa using hf
      rw [hsp, hml]
      rw [show chV c = chV ⟨1, c.sh, 0, c.at', 0, 0⟩ from congrArg chV e]
      exact (rapp_split xb N rv sv Y PX QX x c.sh c.at' w h hX hi hneY ho hnx hep hl hf2.1 hf2.2).mono (fin' _ _)
    · exact absurd (by rw [e]) h2
    · have hk3 : c.k = 3 := by rw [e]
      rw [if_neg (by omega), if_pos hk3] at hf
      have hsp : spD c x.s.fr x.s.to = [(x.s.fr, x.s.to)] := by unfold spD; rw [if_neg (by omega)]
      have hml : mlD c x.s = swD x.s.mem c.out c.in' := by unfold mlD; rw [if_pos hk3]
      rw [hsp, hml]
      rw [show chV c = chV ⟨3, c.sh, 0, 0, c.out, c.in'⟩ from congrArg chV e]
      exact (rapp_rep xb N rv sv Y PX QX x c.sh c.out c.in' w h hX hi hneY ho hnx hep hl hm hf).mono (fin' _ _)
    · have hk4 : c.k = 4 := by rw [e]
      have hsp : spD c x.s.fr x.s.to = [(x.s.fr, x.s.to)] := by unfold spD; rw [if_neg (by omega)]
      have hml : mlD c x.s = x.s.mem := by unfold mlD; rw [if_neg (by omega)]
      rw [hsp, hml]
      rw [show chV c = chV ⟨4, c.sh, 0, 0, 0, 0⟩ from congrArg chV e]
      exact (rapp_renew xb N rv sv Y PX QX x c.sh w h hX hi hneY ho hnx hep hl).mono (fin' _ _)
    · exact absurd (by rw [e]) h5
  | two hk hnm h2 ho P Q S U hZ hi hj =>
    obtain ⟨PX, x, RX, hX, rfl, rfl, hR⟩ := map_mid hZ
    obtain ⟨y, QX, rfl, rfl, rfl⟩ := List.map_eq_cons_iff.1 hR
    have hf : c = ⟨2, c.sh, c.ot, 0, 0, 0⟩ := by
      rcases ch_form c hk hnm with e | e | e | e | e
      · rw [e] at h2; simp at h2
      · exact e
      · rw [e] at h2; simp at h2
      · rw [e] at h2; simp at h2
      · rw [e] at h2; simp at h2
    rw [hf]
    exact (rapp_merge xb N rv sv Y PX QX x y c.sh c.ot w h hX hi hj hneY ho hnx hep hl).mono (fin PX [x, y] QX _ _)
end Go.Proofs.YtmocedkbabnpfaaGreat
