/- AtDo AtOf: joined. No condition. -/
import Derived.Test.YtnkjkaofgninnaaGreatAtStep
namespace Go.Proofs.YtnkjkaofgninnaaGreat
open Go.RowKit Go.Maps Go.Shelf
set_option linter.unusedVariables false
set_option linter.unusedSimpArgs false

theorem map_mid {X : List SX} {P Q : List ShD} {S : ShD} (h : X.map (·.s) = P ++ S :: Q) : ∃ PX x QX, X = PX ++ x :: QX ∧ PX.map (·.s) = P ∧ x.s = S ∧ QX.map (·.s) = Q := by
  obtain ⟨PX, R, rfl, h1, h2⟩ := List.map_eq_append_iff.1 h
  obtain ⟨x, QX, rfl, h3, h4⟩ := List.map_eq_cons_iff.1 h2
  exact ⟨PX, x, QX, rfl, h1, h3, h4⟩
theorem ne_map {X : List SX} (h : (X.map (·.s)).Pairwise fun x y => x.id ≠ y.id) : X.Pairwise fun x y => x.s.id ≠ y.s.id := (List.pairwise_map (f := fun x : SX => x.s) (R := fun x y : ShD => x.id ≠ y.id)).1 h
theorem one_of {X : List SX} (h : X.Pairwise fun x y => x.s.id ≠ y.s.id) : ∀ x ∈ X, ∀ y ∈ X, y.s.id = x.s.id → y = x := fun x hx y hy e => by
  obtain ⟨i, hi, rfl⟩ := List.mem_iff_getElem.1 hx
  obtain ⟨j, hj, rfl⟩ := List.mem_iff_getElem.1 hy
  rcases Nat.lt_trichotomy i j with h1 | h1 | h1
  · exact absurd e.symm (List.pairwise_iff_getElem.1 h i j hi hj h1)
  · subst h1; rfl
  · exact absurd e (List.pairwise_iff_getElem.1 h j i hj hi h1)
theorem ChnD.rise : ∀ (X : List ShD) (a b : Int), ChnD a X b → X.Pairwise fun x y => x.to ≤ y.fr
  | [], _, _, _ => List.Pairwise.nil
  | y :: l, a, b, ⟨h1, h2, h3⟩ => List.pairwise_cons.2 ⟨fun x hx => (ChnD.mem l _ b h3 x hx).1, ChnD.rise l _ b h3⟩
/-- The one that begins where another ends is the next. -/
theorem chn_next {a b : Int} {Z P Q P' Q' : List ShD} {S U : ShD} (h : ChnD a Z b) (hZ : Z = P ++ S :: Q) (hZ' : Z = P' ++ U :: Q') (he : U.fr = S.to) : P'.length = P.length + 1 := by
  have hr := List.pairwise_iff_getElem.1 (ChnD.rise Z a b h)
  have hm := ChnD.mem Z a b h
  have hi : P.length < Z.length := by rw [hZ]; simp
  have hj : P'.length < Z.length := by rw [hZ']; simp
  have hS : Z[P.length] = S := by subst hZ; simp
  have hU : Z[P'.length] = U := by subst hZ'; simp
  have hS2 := hm S (by rw [hZ]; simp)
  have hU2 := hm U (by rw [hZ']; simp)
  rcases Nat.lt_trichotomy P'.length P.length with h1 | h1 | h1
  · have := hr _ _ hj hi h1
    rw [hS, hU] at this; omega
  · have : S = U := by rw [← hS, ← hU]; simp [h1]
    subst this; omega
  · by_cases h2 : P'.length = P.length + 1
    · exact h2
    · have hk : P.length + 1 < Z.length := by omega
      have e1 := hr _ _ hi hk (by omega)
      have e2 := hr _ _ hk hj (by omega)
      have := hm _ (List.getElem_mem hk)
      rw [hS] at e1
      rw [hU] at e2
      omega
/-- What Apply leaves. -/
def ApP (b wb mb n : Nat) (N' : AtN) (Z' : List ShD) (r : Int) (w : World) (e : Ending) (w' : World) : Prop :=
  ∃ n' ov' D' X', e = .returned (.int .i64 r) ∧ At w' b wb mb n' ov' D' N' X' ∧ X'.map (·.s) = Z' ∧ n' ≤ n + 2 ∧ Tr (AtR b wb mb) w w'
def RaP (xb : Nat) (N' : AtN) (Z' : List ShD) (r : Int) (w : World) (e : Ending) (w' : World) : Prop :=
  ∃ rv' sv' Y', e = .returned (.int .i64 r) ∧ RB w' xb N' rv' sv' Y' ∧ Y'.map (·.s) = Z' ∧ Tr (fun q => q = xb) w w'
theorem ap_same {b wb mb n : Nat} {ov : Value} {D : DataW Value} {N : AtN} {X : List SX} {w : World} {r : Int} (h : At w b wb mb n ov D N X) (e : Ending) (w' : World) (he : e = .returned (.int .i64 r) ∧ Below w.heap.size w w') : ApP b wb mb n N (X.map (·.s)) r w e w' :=
  ⟨n, ov, D, X, he.1, h.below he.2, rfl, by omega, Tr.below he.2⟩
theorem ra_same {xb : Nat} {rv sv : Value} {N : AtN} {Y : List SX} {w : World} {r : Int} (h : RB w xb N rv sv Y) (e : Ending) (w' : World) (he : e = .returned (.int .i64 r) ∧ Below w.heap.size w w') : RaP xb N (Y.map (·.s)) r w e w' :=
  ⟨rv, sv, Y, he.1, h.below he.2, rfl, Tr.below he.2⟩
theorem fit1_B {c : ChD} {S : ShD} (h3 : c.k ≠ 3) (h2 : c.k ≠ 2) : fitB c S S = fit1 c S := by
  unfold fitB fit1
  rw [if_neg h2, if_neg h3]
theorem sp_in {c : ChD} {S : ShD} {fr tt : Int} (h1 : 0 ≤ fr ∧ tt ≤ 256) (h2 : c.k = 1 → fr < c.at' ∧ c.at' < tt) (h3 : fr < tt) : ∀ s ∈ spD c fr tt, -9223372036854775808 ≤ s.1 ∧ s.2 ≤ 9223372036854775807 := by
  unfold spD
  split
  · rename_i hk
    have := h2 hk
    intro s hs
    simp at hs
    rcases hs with rfl | rfl <;> constructor <;> simp only <;> omega
  · intro s hs
    simp at hs
    subst hs
    constructor <;> simp only <;> omega
theorem mem7 {l : List Int} (h : memB l = true) : l.length ≤ 7 := by
  obtain ⟨hr, hn, -⟩ := mem_rise h
  have := rise_len l 0 hr hn; omega
set_option maxHeartbeats 1000000 in
theorem aapply_any (b wb mb n B : Nat) (ov : Value) (D : DataW Value) (N N' : AtN) (X : List SX) (Z' : List ShD) (c : ChD) (r : Int) (w : World) (h : At w b wb mb n ov D N X) (g : Gd B N (X.map (·.s))) (hs : StepR N (X.map (·.s)) c r N' Z') (hc : ChJ c) (hB : B ≤ 1000) (hn : n ≤ 1000) :
    Calls Tryz.prog 14 #[.pointer (some ⟨b, 0, none⟩), chV c] w (ApP b wb mb n N' Z' r w) := by
  have hsh : I64 c.sh := hc c.sh (by simp [numC])
  have hot : I64 c.ot := hc c.ot (by simp [numC])
  have hneX := ne_map g.ne
  have honX := one_of hneX
  have gS := gd_step g hs
  have hXI : ∀ x ∈ X, I64 x.s.id := fun x hx => by have := g.id x.s (List.mem_map.2 ⟨x, hx, rfl⟩); have := g.nx; constructor <;> omega
  have hlt : ∀ x ∈ X, x.s.id < N.nx := fun x hx => (g.id x.s (List.mem_map.2 ⟨x, hx, rfl⟩)).2
  have hxl : X.length ≤ 100000 := by have := g.len; rw [List.length_map] at this; omega
  cases hs with
  | bad hb =>
    cases hk : akB c.k with
    | false => exact (apply_kind b c w hk).mono (ap_same h)
    | true => exact (apply_field b c w hk (hb.resolve_left (by simp [hk]))).mono (ap_same h)
  | calm hk hnm h5 ho => exact (apply_calm b wb mb n ov D N X c w h hk hnm h5 ho).mono (ap_same h)
  | settle hk hnm h5 ho =>
    refine (apply_settle b wb mb n ov D N X c w h hk hnm h5 ho).mono ?_
    rintro e w' ⟨rfl, ha, ht⟩
    exact ⟨n, _, D, X, rfl, ha, rfl, by omega, ht⟩
  | down hk hnm h5 ho => exact (apply_down b wb mb n ov D N X c w h hk hnm h5 ho).mono (ap_same h)
  | miss hk hnm h5 ho hno => exact (apply_miss b wb mb n ov D N X c w h hk hnm h5 ho hsh hot ⟨c.sh, by unfold idsD; split <;> simp, fun x hx => hno x.s (List.mem_map.2 ⟨x, hx, rfl⟩)⟩).mono (ap_same h)
  | miss2 hk hnm h2 ho P Q S hZ hi hno => exact (apply_miss b wb mb n ov D N X c w h hk hnm (by omega) ho hsh hot ⟨c.ot, by unfold idsD; rw [if_pos h2]; simp, fun x hx => hno x.s (List.mem_map.2 ⟨x, hx, rfl⟩)⟩).mono (ap_same h)
  | unfit hk hnm h5 h2 ho P Q S hZ hi hf =>
    obtain ⟨PX, x, QX, hX, rfl, rfl, rfl⟩ := map_mid hZ
    have hx : x ∈ X := by rw [hX]; simp
    refine (apply_unfit b wb mb n 1 ov D N X [x] c w h hk hnm h5 (fun W hW => gone_one b wb mb n ov D N _ X c x W hW ho hsh hot h2 hx hi fun y hy e => honX x hx y hy e) (fun W v hv => ?_)).mono (ap_same h)
    by_cases h3 : c.k = 3
    · refine (fits_rep c x.s x.mv x.pv v W h3 hv).mono fun e w' he => ⟨?_, he.2⟩
      unfold fit1 at hf
      rw [if_neg (by omega), if_pos h3] at hf
      rw [he.1, hf]
    · refine (fits_one c x.s x.mv x.pv v W h3 h2 hv).mono fun e w' he => ⟨?_, he.2⟩
      rw [he.1, fit1_B h3 h2, hf]
  | unfit2 hk hnm h2 ho P Q P' Q' S U hZ hi hZ' hj hne =>
    have hfr : ¬ U.fr = S.to := fun e => hne (chn_next g.ch hZ hZ' e)
    obtain ⟨PX, x, QX, hX, -, rfl, -⟩ := map_mid hZ
    obtain ⟨PY, y, QY, hY, -, rfl, -⟩ := map_mid hZ'
    have hx : x ∈ X := by rw [hX]; simp
    have hy : y ∈ X := by rw [hY]; simp
    refine (apply_unfit b wb mb n 2 ov D N X [x, y] c w h hk hnm (by omega) (fun W hW => gone_two b wb mb n ov D N _ X c x y W hW ho hsh hot h2 hx hi (fun z hz e => honX x hx z hz e) hy hj (fun z hz e => honX y hy z hz e)) (fun W v hv => ?_)).mono (ap_same h)
    refine (fits_two c x.s y.s x.mv x.pv y.mv y.pv v W h2 hv).mono fun e w' he => ⟨?_, he.2⟩
    rw [he.1]
    unfold fitB
    rw [if_neg (by omega), if_pos h2, decide_eq_false hfr]
  | one hk hnm h5 h2 ho P Q S hZ hi hf =>
    obtain ⟨PX, x, QX, hX, rfl, rfl, rfl⟩ := map_mid hZ
    have hx : x ∈ X := by rw [hX]; simp
    have hch := (chn_d X 0 N.bl).2 g.ch
    have hX' : X = PX ++ [x] ++ QX := by rw [hX]; simp
    have hmem := Chn.mem X 0 N.bl hch x hx
    rw [hX'] at hch
    obtain ⟨t, h12, hq⟩ := (Chn.append _ _ _ _).1 hch
    obtain ⟨f, hp, hg⟩ := (Chn.append _ _ _ _).1 h12
    have hbl := g.bl
    have hfit : c.k = 1 → x.s.fr < c.at' ∧ c.at' < x.s.to := fun hk1 => by unfold fit1 at hf; rw [if_pos hk1] at hf; simpa using hf
    have hsi := sp_in (c := c) (S := x.s) (fr := x.s.fr) (tt := x.s.to) ⟨hmem.1, by omega⟩ hfit hmem.2.1
    have hcan : ∀ mv' pv' W', Can W' → Chs (X.map SX.pc) ((nwX N.nx (mlD c x.s) ([x].map fun x => x.or.o) mv' pv' (spD c x.s.fr x.s.to)).map SX.pc) W' → W' = (PX ++ nwX N.nx (mlD c x.s) ([x].map fun x => x.or.o) mv' pv' (spD c x.s.fr x.s.to) ++ QX).map SX.pc := fun mv' pv' W' hW hc' => by
      refine chn_put PX [x] QX _ 0 f t N.bl hp hg hq ?_ ?_ W' hW (by rw [← hX']; exact hc')
      · rw [chn_d, nwX_s]
        exact one_ch c x.s _ _ _ hf f t ((chn_d [x] f t).1 hg)
      · refine ne_map ?_
        rw [List.map_append, List.map_append, nwX_s]
        exact gS.ne
    have hout := outX_mid PX [x] QX (by rw [← hX']; exact hneX)
    rw [← hX'] at hout
    have fin : ∀ e w', ApK b wb mb n N PX [x] QX (spD c x.s.fr x.s.to) (mlD c x.s) w e w' → ApP b wb mb n (afD N (spD c x.s.fr x.s.to)) (PX.map (·.s) ++ nwD N.nx (mlD c x.s) [x.s.or] (spD c x.s.fr x.s.to) ++ QX.map (·.s)) 0 w e w' := by
      rintro e w' ⟨ov', D', mv, pvo, he, ha, ht⟩
      exact ⟨_, ov', D', _, he, ha, by rw [List.map_append, List.map_append, nwX_s]; rfl, by have := (spD_len c x.s.fr x.s.to).1; omega, ht⟩
    by_cases h3 : c.k = 3
    · have hml : mlD c x.s = swD x.s.mem c.out c.in' := by unfold mlD; rw [if_pos h3]
      refine (apply_rep b wb mb n ov D N X PX QX [x] x.s x.mv x.pv c w h hk hnm h3 ho rfl (by simpa using hx) hi (fun y hy e => honX x hx y hy e) (mlD c x.s) hml (g.mb x.s (List.mem_map.2 ⟨x, hx, rfl⟩)) (by unfold fit1 at hf; rw [if_neg (by omega), if_pos h3] at hf; exact hf) hXI (by omega) (by have := g.nx; omega) (by have := g.ep; omega) hlt hxl hsi hsh hot (by have := mem7 (g.mb x.s (List.mem_map.2 ⟨x, hx, rfl⟩)); omega) hcan hout).mono fin
    · have hml : mlD c x.s = x.s.mem := by unfold mlD; rw [if_neg h3]
      rw [hml] at hcan fin ⊢
      exact (apply_one b wb mb n ov D N X PX QX [x] x.s x.mv x.pv c w h hk hnm h2 h3 h5 ho rfl (by simpa using hx) hi (fun y hy e => honX x hx y hy e) (by rw [fit1_B h3 h2]; exact hf) hXI (by omega) (by have := g.nx; omega) (by have := g.ep; omega) hlt hxl hsi hsh hot (by have := mem7 (g.mb x.s (List.mem_map.2 ⟨x, hx, rfl⟩)); omega) hcan hout).mono fin
  | two hk hnm h2 ho P Q S U hZ hi hj =>
    obtain ⟨PX, x, RX, hX, rfl, rfl, hR⟩ := map_mid hZ
    obtain ⟨y, QX, rfl, rfl, rfl⟩ := List.map_eq_cons_iff.1 hR
    have hx : x ∈ X := by rw [hX]; simp
    have hy : y ∈ X := by rw [hX]; simp
    have hch := (chn_d X 0 N.bl).2 g.ch
    have hX' : X = PX ++ [x, y] ++ QX := by rw [hX]; simp
    have hmx := Chn.mem X 0 N.bl hch x hx
    have hmy := Chn.mem X 0 N.bl hch y hy
    rw [hX'] at hch
    obtain ⟨t, h12, hq⟩ := (Chn.append _ _ _ _).1 hch
    obtain ⟨f, hp, hg⟩ := (Chn.append _ _ _ _).1 h12
    obtain ⟨q1, q2, q3, q4, q5⟩ := hg
    have hbl := g.bl
    have hsp : spD c x.s.fr y.s.to = [(x.s.fr, y.s.to)] := by unfold spD; rw [if_neg (by omega)]
    have hsi := sp_in (c := c) (S := x.s) (fr := x.s.fr) (tt := y.s.to) ⟨hmx.1, by omega⟩ (fun hk1 => by omega) (by omega)
    have hcan : ∀ mv' pv' W', Can W' → Chs (X.map SX.pc) ((nwX N.nx x.s.mem ([x, y].map fun x => x.or.o) mv' pv' (spD c x.s.fr y.s.to)).map SX.pc) W' → W' = (PX ++ nwX N.nx x.s.mem ([x, y].map fun x => x.or.o) mv' pv' (spD c x.s.fr y.s.to) ++ QX).map SX.pc := fun mv' pv' W' hW hc' => by
      refine chn_put PX [x, y] QX _ 0 f t N.bl hp ⟨q1, q2, q3, q4, q5⟩ hq ?_ ?_ W' hW (by rw [← hX']; exact hc')
      · rw [hsp]
        exact ⟨q1, by show x.s.fr < y.s.to; omega, q5⟩
      · refine ne_map ?_
        rw [List.map_append, List.map_append, nwX_s, hsp]
        exact gS.ne
    have hout := outX_mid PX [x, y] QX (by rw [← hX']; exact hneX)
    rw [← hX'] at hout
    refine (apply_two b wb mb n ov D N X PX QX [x, y] x.s y.s x.mv x.pv y.mv y.pv c w h hk hnm h2 ho rfl (by simp [hx, hy]) hi (fun z hz e => honX x hx z hz e) hj (fun z hz e => honX y hy z hz e) (by unfold fitB; rw [if_neg (by omega), if_pos h2, decide_eq_true (by omega)]) hXI (by omega) (by have := g.nx; omega) (by have := g.ep; omega) hlt hxl hsi hsh hot (by have := mem7 (g.mb x.s (List.mem_map.2 ⟨x, hx, rfl⟩)); omega) hcan hout).mono ?_
    rintro e w' ⟨ov', D', mv, pvo, he, ha, ht⟩
    rw [hsp] at ha
    exact ⟨_, ov', D', _, he, ha, by rw [List.map_append, List.map_append, nwX_s]; rfl, by simp, ht⟩
theorem rapply_any (xb B : Nat) (rv sv : Value) (N N' : AtN) (Y : List SX) (Z' : List ShD) (c : ChD) (r : Int) (w : World) (h : RB w xb N rv sv Y) (g : Gd B N (Y.map (·.s))) (hs : StepR N (Y.map (·.s)) c r N' Z') (hB : B ≤ 1000) :
    Calls Tryz.prog 15 #[.pointer (some ⟨xb, 0, none⟩), chV c] w (RaP xb N' Z' r w) := by
  have hneY := ne_map g.ne
  have hnx : 0 ≤ N.nx ∧ N.nx ≤ 1073741824 := by have := g.nx; omega
  have hep : 0 ≤ N.ep ∧ N.ep ≤ 1073741824 := by have := g.ep; omega
  have hl : Y.length ≤ 100000 := by have := g.len; rw [List.length_map] at this; omega
  have hno : ∀ {i : Int}, (∀ z ∈ Y.map (·.s), z.id ≠ i) → ∀ z ∈ Y, z.s.id ≠ i := fun hh z hz => hh z.s (List.mem_map.2 ⟨z, hz, rfl⟩)
  have fin : ∀ (P G Q : List SX) (sp : List Sp) (ml : List Int) (e : Ending) (w' : World), RaK xb N P G Q sp ml w e w' → RaP xb (afD N sp) (P.map (·.s) ++ nwD N.nx ml (G.map fun x => x.or.o) sp ++ Q.map (·.s)) 0 w e w' := by
    rintro P G Q sp ml e w' ⟨ov', sv', mv, pv, he, hr, ht⟩
    exact ⟨ov', sv', _, he, hr, by rw [List.map_append, List.map_append, nwX_s], ht⟩
  cases hs with
  | bad hb => exact (rapp_bad xb c w hb).mono (ra_same h)
  | calm hk hnm h5 ho =>
    have hf : c = ⟨5, 0, 0, 0, 0, 0⟩ := by
      rcases ch_form c hk hnm with e | e | e | e | e
      · rw [e] at h5; simp at h5
      · rw [e] at h5; simp at h5
      · rw [e] at h5; simp at h5
      · rw [e] at h5; simp at h5
      · exact e
    rw [hf]
    exact (rapp_calm xb N rv sv Y w h ho).mono (ra_same h)
  | settle hk hnm h5 ho =>
    have hf : c = ⟨5, 0, 0, 0, 0, 0⟩ := by
      rcases ch_form c hk hnm with e | e | e | e | e
      · rw [e] at h5; simp at h5
      · rw [e] at h5; simp at h5
      · rw [e] at h5; simp at h5
      · rw [e] at h5; simp at h5
      · exact e
    rw [hf]
    exact (rapp_settle xb N rv sv Y w h ho).mono fun e w' he => ⟨_, sv, Y, he.1, he.2.1, rfl, he.2.2⟩
  | down hk hnm h5 ho => exact (rapp_down xb N rv sv Y c w h hk hnm h5 ho).mono (ra_same h)
  | miss hk hnm h5 ho hn => exact (rapp_miss xb N rv sv Y c w h hk hnm h5 ho hl (hno hn)).mono (ra_same h)
  | miss2 hk hnm h2 ho P Q S hZ hi hn =>
    obtain ⟨PX, x, QX, hX, rfl, rfl, rfl⟩ := map_mid hZ
    have hf : c = ⟨2, c.sh, c.ot, 0, 0, 0⟩ := by
      rcases ch_form c hk hnm with e | e | e | e | e
      · rw [e] at h2; simp at h2
      · exact e
      · rw [e] at h2; simp at h2
      · rw [e] at h2; simp at h2
      · rw [e] at h2; simp at h2
    rw [hf]
    exact (rapp_miss2 xb N rv sv Y PX QX x c.sh c.ot w h hX hi hneY ho hnx hep hl (hno hn)).mono (ra_same h)
  | unfit hk hnm h5 h2 ho P Q S hZ hi hf =>
    obtain ⟨PX, x, QX, hX, rfl, rfl, rfl⟩ := map_mid hZ
    unfold fit1 at hf
    rcases ch_form c hk hnm with e | e | e | e | e
    · have hk1 : c.k = 1 := by rw [e]
      rw [if_pos hk1] at hf
      rw [e]
      exact (rapp_unfit1 xb N rv sv Y PX QX x c.sh c.at' w h hX hi hneY ho hnx hep hl (by simpa using hf)).mono (ra_same h)
    · exact absurd (by rw [e]) h2
    · have hk3 : c.k = 3 := by rw [e]
      rw [if_neg (by omega), if_pos hk3] at hf
      rw [e]
      exact (rapp_unfit3 xb N rv sv Y PX QX x c.sh c.out c.in' w h hX hi hneY ho hnx hep hl (g.mb x.s (List.mem_map.2 ⟨x, by rw [hX]; simp, rfl⟩)) hf).mono (ra_same h)
    · have hk4 : c.k = 4 := by rw [e]
      rw [if_neg (by omega), if_neg (by omega)] at hf
      cases hf
    · exact absurd (by rw [e]) h5
  | unfit2 hk hnm h2 ho P Q P' Q' S U hZ hi hZ' hj hne =>
    obtain ⟨PX, x, QX, hX, rfl, rfl, rfl⟩ := map_mid hZ
    obtain ⟨PY, y, QY, hY, rfl, rfl, rfl⟩ := map_mid hZ'
    have hf : c = ⟨2, c.sh, c.ot, 0, 0, 0⟩ := by
      rcases ch_form c hk hnm with e | e | e | e | e
      · rw [e] at h2; simp at h2
      · exact e
      · rw [e] at h2; simp at h2
      · rw [e] at h2; simp at h2
      · rw [e] at h2; simp at h2
    rw [hf]
    exact (rapp_unfit2 xb N rv sv Y PX QX PY QY x y c.sh c.ot w h hX hi hneY ho hnx hep hl hY hj (by simpa using hne)).mono (ra_same h)
  | one hk hnm h5 h2 ho P Q S hZ hi hf =>
    obtain ⟨PX, x, QX, hX, rfl, rfl, rfl⟩ := map_mid hZ
    have hm := g.mb x.s (List.mem_map.2 ⟨x, by rw [hX]; simp, rfl⟩)
    have fin' := fin PX [x] QX
    unfold fit1 at hf
    rcases ch_form c hk hnm with e | e | e | e | e
    · have hk1 : c.k = 1 := by rw [e]
      rw [if_pos hk1] at hf
      have hsp : spD c x.s.fr x.s.to = [(x.s.fr, c.at'), (c.at', x.s.to)] := by unfold spD; rw [if_pos hk1]
      have hml : mlD c x.s = x.s.mem := by unfold mlD; rw [if_neg (by omega)]
      have hf2 : x.s.fr < c.at' ∧ c.at' < x.s.to := by simpa using hf
      rw [hsp, hml]
      rw [show chV c = chV ⟨1, c.sh, 0, c.at', 0, 0⟩ from congrArg chV e]
      exact (rapp_split xb N rv sv Y PX QX x c.sh c.at' w h hX hi hneY ho hnx hep hl hf2.1 hf2.2).mono (fin' _ _)
    · exact absurd (by rw [e]) h2
    · have hk3 : c.k = 3 := by rw [e]
      rw [if_neg (by omega), if_pos hk3] at hf
      have hsp : spD c x.s.fr x.s.to = [(x.s.fr, x.s.to)] := by unfold spD; rw [if_neg (by omega)]
      have hml : mlD c x.s = swD x.s.mem c.out c.in' := by unfold mlD; rw [if_pos hk3]
      rw [hsp, hml]
      rw [show chV c = chV ⟨3, c.sh, 0, 0, c.out, c.in'⟩ from congrArg chV e]
      exact (rapp_rep xb N rv sv Y PX QX x c.sh c.out c.in' w h hX hi hneY ho hnx hep hl hm hf).mono (fin' _ _)
    · have hk4 : c.k = 4 := by rw [e]
      have hsp : spD c x.s.fr x.s.to = [(x.s.fr, x.s.to)] := by unfold spD; rw [if_neg (by omega)]
      have hml : mlD c x.s = x.s.mem := by unfold mlD; rw [if_neg (by omega)]
      rw [hsp, hml]
      rw [show chV c = chV ⟨4, c.sh, 0, 0, 0, 0⟩ from congrArg chV e]
      exact (rapp_renew xb N rv sv Y PX QX x c.sh w h hX hi hneY ho hnx hep hl).mono (fin' _ _)
    · exact absurd (by rw [e]) h5
  | two hk hnm h2 ho P Q S U hZ hi hj =>
    obtain ⟨PX, x, RX, hX, rfl, rfl, hR⟩ := map_mid hZ
    obtain ⟨y, QX, rfl, rfl, rfl⟩ := List.map_eq_cons_iff.1 hR
    have hf : c = ⟨2, c.sh, c.ot, 0, 0, 0⟩ := by
      rcases ch_form c hk hnm with e | e | e | e | e
      · rw [e] at h2; simp at h2
      · exact e
      · rw [e] at h2; simp at h2
      · rw [e] at h2; simp at h2
      · rw [e] at h2; simp at h2
    rw [hf]
    exact (rapp_merge xb N rv sv Y PX QX x y c.sh c.ot w h hX hi hj hneY ho hnx hep hl).mono (fin PX [x, y] QX _ _)
end Go.Proofs.YtnkjkaofgninnaaGreat
namespace Go.Proofs.YtnkjkaofgninnaaGreat
open Go.RowKit Go.Maps Go.Shelf
set_option linter.unusedVariables false
set_option linter.unusedSimpArgs false

theorem u64_mod (n : Int) : IntKind.u64.wrap n = n % 18446744073709551616 := by simp [IntKind.wrap, IntKind.bits, IntKind.signed]
theorem rest_in2 (t m : Int) (h0 : 1 ≤ m) (h1 : m ≤ 1000000000) : 0 ≤ IntKind.i64.wrap ((IntKind.u64.wrap t).tmod m) ∧ IntKind.i64.wrap ((IntKind.u64.wrap t).tmod m) < m := by
  rw [u64_mod, Int.tmod_eq_emod_of_nonneg (by omega)]
  have a := Int.emod_nonneg (t % 18446744073709551616) (b := m) (by omega)
  have b := Int.emod_lt_of_pos (t % 18446744073709551616) (b := m) (by omega)
  rw [IntWalk.i64_in _ ⟨by omega, by omega⟩]
  exact ⟨a, b⟩
def stV (c : ChD) (nr : Bool) : Value := .agg #[.int .i64 c.k, .int .i64 c.sh, .int .i64 c.ot, .int .i64 c.at', .int .i64 c.out, .int .i64 c.in', .bool nr]
/-- What Of answers. -/
def OfP (w : World) (e : Ending) (w' : World) : Prop := ∃ c : ChD, e = .returned (chV c) ∧ ChJ c ∧ Below w.heap.size w w'
theorem heap_three (w : World) (A B C : Obj) : (((w.alloc A).alloc B).alloc C).heap[w.heap.size]? = some A ∧ (((w.alloc A).alloc B).alloc C).heap[w.heap.size + 1]? = some B ∧ (((w.alloc A).alloc B).alloc C).heap[w.heap.size + 2]? = some C := by
  obtain ⟨h1, h2⟩ := heap_two w A B
  refine ⟨?_, ?_, ?_⟩
  · rw [Below.heap_alloc _ _ _ (by simp; omega)]; exact h1
  · rw [Below.heap_alloc _ _ _ (by simp)]; exact h2
  · have := heap_alloc_new ((w.alloc A).alloc B) C
    simpa using this
set_option maxRecDepth 100000 in
set_option maxHeartbeats 8000000 in
theorem of_any (c : ChD) (nr : Bool) (xb B : Nat) (rv sv : Value) (N : AtN) (Y : List SX) (w : World) (hc : ChJ c) (h : RB w xb N rv sv Y) (g : Gd B N (Y.map (·.s))) (hB : B ≤ 1000) :
    Calls Tryz.prog 13 #[stV c nr, .pointer (some ⟨xb, 0, none⟩)] w (OfP w) := by
  obtain ⟨k, sh, ot, at', out, in'⟩ := c
  cases nr with
  | false =>
    obtain ⟨nr, hnr⟩ : ∃ nr, nr = false := ⟨_, rfl⟩
    rw [← hnr]
    have HNR := hid hnr
    have HJ := hid hc
    clear hnr h g hc
    obtain ⟨w1, hw1⟩ : ∃ w1, w1 = ((w.alloc (.cells #[.int .i64 k, .int .i64 sh, .int .i64 ot, .int .i64 at', .int .i64 out, .int .i64 in', .bool nr] 43)).alloc (.cells z6 41)).alloc (.cells #[.int .i64 k, .int .i64 sh, .int .i64 ot, .int .i64 at', .int .i64 out, .int .i64 in'] 41) := ⟨_, rfl⟩
    obtain ⟨hC1, hR1, hA1⟩ := heap_three w (.cells #[.int .i64 k, .int .i64 sh, .int .i64 ot, .int .i64 at', .int .i64 out, .int .i64 in', .bool nr] 43) (.cells z6 41) (.cells #[.int .i64 k, .int .i64 sh, .int .i64 ot, .int .i64 at', .int .i64 out, .int .i64 in'] 41)
    rw [← hw1] at hC1 hR1 hA1
    have HB1 : Hid (Below w.heap.size w w1) := hid (by rw [hw1]; exact (((Below.refl _ _).alloc (Nat.le_refl _) _).alloc (by simp) _).alloc (by simp; omega) _)
    have HW1 := hid hw1
    have HC1 := hid hC1
    have HR1 := hid hR1
    have HA1 := hid hA1
    obtain ⟨w0, hw0⟩ : ∃ w0, w0 = (w.alloc (.cells #[.int .i64 k, .int .i64 sh, .int .i64 ot, .int .i64 at', .int .i64 out, .int .i64 in', .bool nr] 43)).alloc (.cells z6 41) := ⟨_, rfl⟩
    have hrg : w0.rangeAt w.heap.size 0 [.int .i64 k, .int .i64 sh, .int .i64 ot, .int .i64 at', .int .i64 out, .int .i64 in'] := by
      rw [hw0]
      refine range_of_row (heap_two w _ _).1 0 _ fun j v hv => ?_
      match j, hv with
      | 0, hv => exact hv
      | 1, hv => exact hv
      | 2, hv => exact hv
      | 3, hv => exact hv
      | 4, hv => exact hv
      | 5, hv => exact hv
    have HW0 := hid hw0
    have HS0 : Hid (w0.heap.size = w.heap.size + 2) := hid (by rw [hw0]; simp)
    rw [← hw0] at HW1
    clear hw1 hw0 hC1 hR1 hA1
    unfold z6 at HW0
    obtain ⟨dC, hdC1, hdC2⟩ := Tryz.rowCh
    unfold stV
    go_enter Tryz.func13, Tryz.ntmps13
    go_upto_region 1 with fail
    rw [← HW0.out]
    clear HW0
    go_upto_region 2 with (refine wpList_load_mid rfl _ _ rfl w.heap.size 0 (by go_simp) [.int .i64 k, .int .i64 sh, .int .i64 ot, .int .i64 at', .int .i64 out, .int .i64 in'] dC hrg hdC1 hdC2 Tryz.sizeCh ?_)
    rw [← HW1.out]
    rw [HS0.out]
    clear HW1 hrg HS0
    obtain ⟨C, hC⟩ : ∃ C, C = w.heap.size := ⟨_, rfl⟩
    rw [← hC] at HC1 HR1 HA1
    rw [← hC]
    have HCE : Hid (w.heap.size ≤ C) := hid (by omega)
    clear hC
    have c6 : w1.cell? ⟨C, 6, none⟩ = some (.bool nr) := (cell_of_row _ _ _ _ _ _ HC1.out).trans rfl
    obtain rfl := HNR.out
    have hA9 := HA1.out
    have hR9 := HR1.out
    have HB9 := HB1
    unfold z6 at hR9
    clear HA1 HR1
    go_wp2_with (first | (refine wpl_loadK rfl _ rfl (C + 2) rfl _ _ _ rfl hA9 ?_) | (refine wpl_storeK rfl _ _ rfl (C + 1) _ _ _ _ _ _ rfl rfl rfl rfl rfl rfl rfl rfl _ _ rfl hR9 ?_))
    (try simp only [Exit.inBlock, Exit.then])
    refine bodyPost_ret (results_ch rfl _ _ (C + 1) _ _ _ rfl rfl (setRow_heap _ _ _ _ _ _ hR9)) rfl ?_
    exact ⟨⟨_, _, _, _, _, _⟩, rfl, HJ.out, below_row HB9.out (by have := HCE.out; omega) _⟩
  | true =>
    obtain ⟨nr, hnr⟩ : ∃ nr, nr = true := ⟨_, rfl⟩
    rw [← hnr]
    have HNR := hid hnr
    have HJ := hid hc
    have H := hid h
    have G := hid g
    obtain ⟨-, sva, svc, rfl⟩ := h.shapes
    have HYL : Hid (0 < Y.length) := hid (by
      cases Y with
      | nil => have := g.bl; have h0 : (0 : Int) = N.bl := g.ch; omega
      | cons y l => simp)
    clear hnr h g hc
    obtain ⟨w1, hw1⟩ : ∃ w1, w1 = ((w.alloc (.cells #[.int .i64 k, .int .i64 sh, .int .i64 ot, .int .i64 at', .int .i64 out, .int .i64 in', .bool nr] 43)).alloc (.cells z6 41)).alloc (.cells #[.int .i64 k, .int .i64 sh, .int .i64 ot, .int .i64 at', .int .i64 out, .int .i64 in'] 41) := ⟨_, rfl⟩
    obtain ⟨hC1, hR1, hA1⟩ := heap_three w (.cells #[.int .i64 k, .int .i64 sh, .int .i64 ot, .int .i64 at', .int .i64 out, .int .i64 in', .bool nr] 43) (.cells z6 41) (.cells #[.int .i64 k, .int .i64 sh, .int .i64 ot, .int .i64 at', .int .i64 out, .int .i64 in'] 41)
    rw [← hw1] at hC1 hR1 hA1
    have HB1 : Hid (Below w.heap.size w w1) := hid (by rw [hw1]; exact (((Below.refl _ _).alloc (Nat.le_refl _) _).alloc (by simp) _).alloc (by simp; omega) _)
    have HW1 := hid hw1
    have HC1 := hid hC1
    have HR1 := hid hR1
    have HA1 := hid hA1
    obtain ⟨w0, hw0⟩ : ∃ w0, w0 = (w.alloc (.cells #[.int .i64 k, .int .i64 sh, .int .i64 ot, .int .i64 at', .int .i64 out, .int .i64 in', .bool nr] 43)).alloc (.cells z6 41) := ⟨_, rfl⟩
    have hrg : w0.rangeAt w.heap.size 0 [.int .i64 k, .int .i64 sh, .int .i64 ot, .int .i64 at', .int .i64 out, .int .i64 in'] := by
      rw [hw0]
      refine range_of_row (heap_two w _ _).1 0 _ fun j v hv => ?_
      match j, hv with
      | 0, hv => exact hv
      | 1, hv => exact hv
      | 2, hv => exact hv
      | 3, hv => exact hv
      | 4, hv => exact hv
      | 5, hv => exact hv
    have HW0 := hid hw0
    have HS0 : Hid (w0.heap.size = w.heap.size + 2) := hid (by rw [hw0]; simp)
    rw [← hw0] at HW1
    clear hw1 hw0 hC1 hR1 hA1
    unfold z6 at HW0
    obtain ⟨dC, hdC1, hdC2⟩ := Tryz.rowCh
    unfold stV
    go_enter Tryz.func13, Tryz.ntmps13
    go_upto_region 1 with fail
    rw [← HW0.out]
    clear HW0
    go_upto_region 2 with (refine wpList_load_mid rfl _ _ rfl w.heap.size 0 (by go_simp) [.int .i64 k, .int .i64 sh, .int .i64 ot, .int .i64 at', .int .i64 out, .int .i64 in'] dC hrg hdC1 hdC2 Tryz.sizeCh ?_)
    rw [← HW1.out]
    rw [HS0.out]
    clear HW1 hrg HS0
    obtain ⟨C, hC⟩ : ∃ C, C = w.heap.size := ⟨_, rfl⟩
    rw [← hC] at HC1 HR1 HA1
    rw [← hC]
    have HCE : Hid (w.heap.size ≤ C) := hid (by omega)
    clear hC
    have c6 : w1.cell? ⟨C, 6, none⟩ = some (.bool nr) := (cell_of_row _ _ _ _ _ _ HC1.out).trans rfl
    obtain rfl := HNR.out
    have a1 : w1.cell? ⟨C + 2, 1, none⟩ = some (.int .i64 sh) := (cell_of_row _ _ _ _ _ _ HA1.out).trans rfl
    have H1 := hid (H.out.below HB1.out)
    have x4 : w1.cell? ⟨xb, 4, none⟩ = some (.slice sva Y.length svc) := H1.out.cell 4
    go_upto_region 4 with fail
    refine wp_region_held_drew (S := fun Z => Z.cell? ⟨C + 2, 1, none⟩ = some (.int .i64 sh) ∧ Z.cell? ⟨xb, 4, none⟩ = some (.slice sva Y.length svc)) (by kernel_rfl) ⟨a1, x4⟩ (fun hHeld => ?_)
    have hwl : IntKind.u64.wrap (Y.length : Int) = (Y.length : Int) := IntWalk.u64_in _ ⟨by omega, by have := G.out.len; rw [List.length_map] at this; omega⟩
    have hwl0 : ¬ (Y.length : Int) = 0 := by have := HYL.out; omega
    have hyn : ¬ Y = [] := fun e => by have := HYL.out; rw [e] at this; simp at this
    refine wpAnyH_take (i := 0) (v := ?av0) rfl (by kernel_rfl) (by kernel_rfl) (by kernel_rfl) (fun _ _ _ h => h) (Or.inl ⟨by rfl, ?ay0⟩) (by assumption) ?ar0
    case ay0 => (intro w hSw; (try dsimp only at hSw); go_simp; try with_reducible rfl)
    (try simp only [Act.put, putS])
    refine wpAnyH_take (i := 1) (v := ?av1) rfl (by kernel_rfl) (by kernel_rfl) (by kernel_rfl) (fun _ _ _ h => h) (Or.inl ⟨by rfl, ?ay1⟩) (by assumption) ?ar1
    case ay1 => (intro w hSw; (try dsimp only at hSw); go_simp; try with_reducible rfl)
    (try simp only [Act.put, putS])
    refine wpAnyH_take (i := 2) (v := ?av2) rfl (by kernel_rfl) (by kernel_rfl) (by kernel_rfl) (fun _ _ _ h => h) (Or.inl ⟨by rfl, ?ay2⟩) (by assumption) ?ar2
    case ay2 => (intro w hSw; (try dsimp only at hSw); go_simp; try with_reducible rfl)
    (try simp only [Act.put, putS])
    refine wpAnyH_take (i := 3) (v := ?av3) rfl (by kernel_rfl) (by kernel_rfl) (by kernel_rfl) (fun _ _ _ h => h) (Or.inl ⟨by rfl, ?ay3⟩) (by assumption) ?ar3
    case ay3 => (intro w hSw; (try dsimp only at hSw); go_simp; try with_reducible rfl)
    (try simp only [Act.put, putS])
    refine wpAnyH_take (i := 4) (v := ?av4) rfl (by kernel_rfl) (by kernel_rfl) (by kernel_rfl) (fun _ _ _ h => h) (Or.inl ⟨by rfl, ?ay4⟩) (by assumption) ?ar4
    case ay4 => (intro w hSw; (try dsimp only at hSw); go_simp; try with_reducible rfl)
    (try simp only [Act.put, putS])
    refine wpAnyH_take (i := 5) (v := ?av5) rfl (by kernel_rfl) (by kernel_rfl) (by kernel_rfl) (fun _ _ _ h => h) (Or.inl ⟨by rfl, ?ay5⟩) (by assumption) ?ar5
    case ay5 => (intro w hSw; (try dsimp only at hSw); go_simp; try with_reducible rfl)
    (try simp only [Act.put, putS])
    refine wpAnyH_take (i := 6) (v := ?av6) rfl (by kernel_rfl) (by kernel_rfl) (by kernel_rfl) (fun _ _ _ h => h) (Or.inl ⟨by rfl, ?ay6⟩) (by assumption) ?ar6
    case ay6 => (intro w hSw; (try dsimp only at hSw); go_simp; try with_reducible rfl)
    (try simp only [Act.put, putS])
    refine wpAnyH_take (i := 7) (v := ?av7) rfl (by kernel_rfl) (by kernel_rfl) (by kernel_rfl) (fun _ _ _ h => h) (Or.inl ⟨by rfl, ?ay7⟩) (by assumption) ?ar7
    case ay7 => (intro w hSw; (try dsimp only at hSw); go_simp; try with_reducible rfl)
    (try simp only [Act.put, putS])
    refine wpAnyH_take (i := 8) (v := ?av8) rfl (by kernel_rfl) (by kernel_rfl) (by kernel_rfl) (fun _ _ _ h => h) (Or.inl ⟨by rfl, ?ay8⟩) (by assumption) ?ar8
    case ay8 => (intro w hSw; (try dsimp only at hSw); go_simp; try with_reducible rfl)
    (try simp only [Act.put, putS])
    refine wpAnyH_take (i := 9) (v := ?av9) rfl (by kernel_rfl) (by kernel_rfl) (by kernel_rfl) (fun _ _ _ h => h) (Or.inl ⟨by rfl, ?ay9⟩) (by assumption) ?ar9
    case ay9 => (intro w hSw; (try dsimp only at hSw); go_simp; try with_reducible rfl)
    (try simp only [Act.put, putS])
    refine wpAnyH_take (i := 10) (v := ?av10) rfl (by kernel_rfl) (by kernel_rfl) (by kernel_rfl) (fun _ _ _ h => h) (Or.inl ⟨by rfl, ?ay10⟩) (by assumption) ?ar10
    case ay10 => (intro w hSw; (try dsimp only at hSw); go_simp; try with_reducible rfl)
    (try simp only [Act.put, putS])
    refine wpAnyH_take (i := 11) (v := ?av11) rfl (by kernel_rfl) (by kernel_rfl) (by kernel_rfl) (fun _ _ _ h => h) (Or.inl ⟨by rfl, ?ay11⟩) (by assumption) ?ar11
    case ay11 => (intro w hSw; (try dsimp only at hSw); go_simp; try with_reducible rfl)
    (try simp only [Act.put, putS])
    refine wpAnyH_done (by kernel_rfl) ?_ _
    have hrr := rest_in2 sh (Y.length : Int) (by have := HYL.out; omega) (by have := G.out.len; rw [List.length_map] at this; omega)
    obtain ⟨i, hie⟩ : ∃ i : Nat, IntKind.i64.wrap ((IntKind.u64.wrap sh).tmod (Y.length : Int)) = (i : Int) := ⟨(IntKind.i64.wrap ((IntKind.u64.wrap sh).tmod (Y.length : Int))).toNat, by rw [Int.toNat_of_nonneg hrr.1]⟩
    have hil : (i : Int) < (Y.length : Int) := by rw [← hie]; exact hrr.2
    rw [hie]
    clear hrr hie hHeld hwl hwl0 hyn
    have HIL : Hid (i < Y.length) := hid (by omega)
    have H2 := hid (H1.out.below ((Below.refl w1.heap.size w1).drew))
    have HA2 : Hid (w1.drew.heap[C + 2]? = _) := hid HA1.out
    have HR2 : Hid (w1.drew.heap[C + 1]? = _) := hid HR1.out
    have HB2 : Hid (Below w.heap.size w w1.drew) := hid (HB1.out.drew)
    clear H1 HA1 HR1 HB1 HC1 a1 x4 c6
    generalize w1.drew = w2 at *
    obtain ⟨g, rfl⟩ : ∃ g, sva = some ⟨g, 0, none⟩ := own_some H.out.row HYL.out
    have x4 : w2.cell? ⟨xb, 4, none⟩ = some (.slice (some ⟨g, 0, none⟩) Y.length svc) := H2.out.cell 4
    have y0 : w2.cell? ⟨g, i * 5, none⟩ = some (.int .i64 Y[i].s.id) := own_cell H2.out.row (shvs_part Y i HIL.out 0 _ rfl)
    have a1 : w2.cell? ⟨C + 2, 1, none⟩ = some (.int .i64 sh) := (cell_of_row _ _ _ _ _ _ HA2.out).trans rfl
    have f1 : w2.frozen? ⟨C + 2, 1, none⟩ = false := frozen_of_row _ _ _ _ _ HA2.out
    have HID : Hid (1 ≤ Y[i].s.id ∧ I64 Y[i].s.id) := hid (by
      have := G.out.id Y[i].s (List.mem_map.2 ⟨Y[i], List.getElem_mem _, rfl⟩)
      have := G.out.nx
      exact ⟨by omega, by constructor <;> omega⟩)
    have HFT : Hid (0 ≤ Y[i].s.fr ∧ Y[i].s.fr < Y[i].s.to ∧ Y[i].s.to ≤ 256) := hid (by
      have := ChnD.mem _ _ _ G.out.ch Y[i].s (List.mem_map.2 ⟨Y[i], List.getElem_mem _, rfl⟩)
      have := G.out.bl
      omega)
    have HFC : Hid (∀ W : World, RB W xb N rv (.slice (some ⟨g, 0, none⟩) Y.length svc) Y → W.cell? ⟨g, i * 5 + 1, none⟩ = some (.int .i64 Y[i].s.fr) ∧ W.cell? ⟨g, i * 5 + 1 + 1, none⟩ = some (.int .i64 Y[i].s.to)) := hid fun W hW => ⟨own_cell hW.row (shvs_part Y i HIL.out 1 _ rfl), own_cell hW.row (shvs_part Y i HIL.out 2 _ rfl)⟩
    generalize Y[i].s.id = id at *
    generalize Y[i].s.fr = fr at *
    generalize Y[i].s.to = tt at *
    go_upto_region 6 with fail
    clear x4 y0 a1 f1
    have HA3 : Hid ((w2.setCell ⟨C + 2, 1, none⟩ (.int .i64 id)).heap[C + 2]? = some (.cells #[.int .i64 k, .int .i64 id, .int .i64 ot, .int .i64 at', .int .i64 out, .int .i64 in'] 41 (0, 0))) := hid (heap_setCell_same _ _ _ _ _ _ HA2.out)
    have HR3 : Hid ((w2.setCell ⟨C + 2, 1, none⟩ (.int .i64 id)).heap[C + 1]? = some (.cells z6 41 (0, 0))) := hid ((Below.heap_setCell _ _ _ _ (by show C + 1 ≠ C + 2; omega)).trans HR2.out)
    have HB3 : Hid (Below w.heap.size w (w2.setCell ⟨C + 2, 1, none⟩ (.int .i64 id))) := hid (below_set HB2.out (by have := HCE.out; omega))
    clear HA2 HR2 HB2 H2
    generalize w2.setCell ⟨C + 2, 1, none⟩ (.int .i64 id) = w3 at *
    have H3 := hid (H.out.below HB3.out)
    have x4 : w3.cell? ⟨xb, 4, none⟩ = some (.slice (some ⟨g, 0, none⟩) Y.length svc) := H3.out.cell 4
    have a0 : w3.cell? ⟨C + 2, 0, none⟩ = some (.int .i64 k) := (cell_of_row _ _ _ _ _ _ HA3.out).trans rfl
    have hwi : IntKind.i64.wrap ((i : Int) + 1) = (i : Int) + 1 := IntWalk.i64_in _ ⟨by omega, by have := G.out.len; rw [List.length_map] at this; omega⟩
    have hi0 : (0 : Int) ≤ (i : Int) + 1 := by omega
    by_cases h2 : k = 2
    · subst h2
      by_cases hlt : (i : Int) + 1 < (Y.length : Int)
      · have hi1 : i + 1 < Y.length := by omega
        have y1 : w3.cell? ⟨g, (i + 1) * 5, none⟩ = some (.int .i64 Y[i + 1].s.id) := own_cell H3.out.row (shvs_part Y (i + 1) hi1 0 _ rfl)
        have a2 : w3.cell? ⟨C + 2, 2, none⟩ = some (.int .i64 ot) := (cell_of_row _ _ _ _ _ _ HA3.out).trans rfl
        have f2 : w3.frozen? ⟨C + 2, 2, none⟩ = false := frozen_of_row _ _ _ _ _ HA3.out
        have HID2 : Hid (I64 Y[i + 1].s.id) := hid (by
          have := G.out.id Y[i + 1].s (List.mem_map.2 ⟨Y[i + 1], List.getElem_mem _, rfl⟩)
          have := G.out.nx
          constructor <;> omega)
        generalize Y[i + 1].s.id = id2 at *
        clear hi1
        go_upto_region 8 with fail
        clear x4 y1 a2 f2 a0
        have HA4 : Hid ((w3.setCell ⟨C + 2, 2, none⟩ (.int .i64 id2)).heap[C + 2]? = some (.cells #[.int .i64 2, .int .i64 id, .int .i64 id2, .int .i64 at', .int .i64 out, .int .i64 in'] 41 (0, 0))) := hid (heap_setCell_same _ _ _ _ _ _ HA3.out)
        have hR9 : (w3.setCell ⟨C + 2, 2, none⟩ (.int .i64 id2)).heap[C + 1]? = some (.cells z6 41 (0, 0)) := (Below.heap_setCell _ _ _ _ (by show C + 1 ≠ C + 2; omega)).trans HR3.out
        have HB9 : Hid (Below w.heap.size w (w3.setCell ⟨C + 2, 2, none⟩ (.int .i64 id2))) := hid (below_set HB3.out (by have := HCE.out; omega))
        clear HA3 HR3 HB3 H3
        generalize w3.setCell ⟨C + 2, 2, none⟩ (.int .i64 id2) = w4 at *
        have hA9 := HA4.out
        have a0 : w4.cell? ⟨C + 2, 0, none⟩ = some (.int .i64 2) := (cell_of_row _ _ _ _ _ _ HA4.out).trans rfl
        replace HJ : Hid (ChJ ⟨2, id, id2, at', out, in'⟩) := hid (by
          have hj := HJ.out
          intro x hx
          simp [numC] at hx
          rcases hx with rfl | rfl | rfl | rfl | rfl | rfl
          · exact hj _ (by simp [numC])
          · exact HID.out.2
          · exact HID2.out
          all_goals exact hj _ (by simp [numC]))
        clear HA4
        unfold z6 at hR9
        go_wp2_with (first | (refine wpl_loadK rfl _ rfl (C + 2) rfl _ _ _ rfl hA9 ?_) | (refine wpl_storeK rfl _ _ rfl (C + 1) _ _ _ _ _ _ rfl rfl rfl rfl rfl rfl rfl rfl _ _ rfl hR9 ?_))
        (try simp only [Exit.inBlock, Exit.then])
        refine bodyPost_ret (results_ch rfl _ _ (C + 1) _ _ _ rfl rfl (setRow_heap _ _ _ _ _ _ hR9)) rfl ?_
        exact ⟨⟨_, _, _, _, _, _⟩, rfl, HJ.out, below_row HB9.out (by have := HCE.out; omega) _⟩
      · have hA9 := HA3.out
        have hR9 := HR3.out
        have HB9 := HB3
        replace HJ : Hid (ChJ ⟨2, id, ot, at', out, in'⟩) := hid (by
          have hj := HJ.out
          intro x hx
          simp [numC] at hx
          rcases hx with rfl | rfl | rfl | rfl | rfl | rfl
          · exact hj _ (by simp [numC])
          · exact HID.out.2
          all_goals exact hj _ (by simp [numC]))
        unfold z6 at hR9
        go_wp2_with (first | (refine wpl_loadK rfl _ rfl (C + 2) rfl _ _ _ rfl hA9 ?_) | (refine wpl_storeK rfl _ _ rfl (C + 1) _ _ _ _ _ _ rfl rfl rfl rfl rfl rfl rfl rfl _ _ rfl hR9 ?_))
        (try simp only [Exit.inBlock, Exit.then])
        refine bodyPost_ret (results_ch rfl _ _ (C + 1) _ _ _ rfl rfl (setRow_heap _ _ _ _ _ _ hR9)) rfl ?_
        exact ⟨⟨_, _, _, _, _, _⟩, rfl, HJ.out, below_row HB9.out (by have := HCE.out; omega) _⟩
    replace HJ : Hid (ChJ ⟨k, id, ot, at', out, in'⟩) := hid (by
      have hj := HJ.out
      intro x hx
      simp [numC] at hx
      rcases hx with rfl | rfl | rfl | rfl | rfl | rfl
      · exact hj _ (by simp [numC])
      · exact HID.out.2
      all_goals exact hj _ (by simp [numC]))
    have g2 : (k == 2) = false := by simpa using h2
    by_cases h1 : k = 1
    · subst h1
      clear h2
      obtain ⟨y1, y2⟩ := HFC.out w3 H3.out
      have a3 : w3.cell? ⟨C + 2, 3, none⟩ = some (.int .i64 at') := (cell_of_row _ _ _ _ _ _ HA3.out).trans rfl
      have f3 : w3.frozen? ⟨C + 2, 3, none⟩ = false := frozen_of_row _ _ _ _ _ HA3.out
      have hs1 : IntKind.i64.wrap (tt - fr) = tt - fr := IntWalk.i64_in _ ⟨by have := HFT.out; omega, by have := HFT.out; omega⟩
      have hs2 : IntKind.i64.wrap (tt - fr + 1) = tt - fr + 1 := IntWalk.i64_in _ ⟨by have := HFT.out; omega, by have := HFT.out; omega⟩
      have hs3 : IntKind.u64.wrap (tt - fr + 1) = tt - fr + 1 := IntWalk.u64_in _ ⟨by have := HFT.out; omega, by have := HFT.out; omega⟩
      have hs4 : ¬ tt - fr + 1 = 0 := by have := HFT.out; omega
      have HRR := hid (rest_in2 at' (tt - fr + 1) (by have := HFT.out; omega) (by have := HFT.out; omega))
      have HSV : Hid (∀ v : Int, (w3.setCell ⟨C + 2, 3, none⟩ (.int .i64 v)).drew.cell? ⟨g, i * 5 + 1, none⟩ = some (.int .i64 fr) ∧ (w3.setCell ⟨C + 2, 3, none⟩ (.int .i64 v)).drew.cell? ⟨g, i * 5 + 1 + 1, none⟩ = some (.int .i64 tt) ∧ (w3.setCell ⟨C + 2, 3, none⟩ (.int .i64 v)).drew.cell? ⟨xb, 4, none⟩ = some (.slice (some ⟨g, 0, none⟩) Y.length svc)) := hid fun v => by
        have h4 := H.out.below ((below_set HB3.out (i := 3) (v := .int .i64 v) (show w.heap.size ≤ C + 2 by have := HCE.out; omega)).drew)
        exact ⟨(HFC.out _ h4).1, (HFC.out _ h4).2, h4.cell 4⟩
      go_upto_region 9 with fail
      refine wp_region_held_drew (S := fun Z => Z.cell? ⟨g, i * 5 + 1, none⟩ = some (.int .i64 fr) ∧ Z.cell? ⟨g, i * 5 + 1 + 1, none⟩ = some (.int .i64 tt) ∧ Z.cell? ⟨xb, 4, none⟩ = some (.slice (some ⟨g, 0, none⟩) Y.length svc)) (by kernel_rfl) ⟨y1, y2, x4⟩ (fun hHeld => ?_)
      refine wpAnyH_take (i := 0) (v := ?bv0) rfl (by kernel_rfl) (by kernel_rfl) (by kernel_rfl) (fun _ _ _ h => h) (Or.inl ⟨by rfl, ?by0⟩) (by assumption) ?br0
      case by0 => (intro w hSw; (try dsimp only at hSw); go_simp; try with_reducible rfl)
      (try simp only [Act.put, putS])
      refine wpAnyH_take (i := 1) (v := ?bv1) rfl (by kernel_rfl) (by kernel_rfl) (by kernel_rfl) (fun _ _ _ h => h) (Or.inl ⟨by rfl, ?by1⟩) (by assumption) ?br1
      case by1 => (intro w hSw; (try dsimp only at hSw); go_simp; try with_reducible rfl)
      (try simp only [Act.put, putS])
      refine wpAnyH_take (i := 2) (v := ?bv2) rfl (by kernel_rfl) (by kernel_rfl) (by kernel_rfl) (fun _ _ _ h => h) (Or.inl ⟨by rfl, ?by2⟩) (by assumption) ?br2
      case by2 => (intro w hSw; (try dsimp only at hSw); go_simp; try with_reducible rfl)
      (try simp only [Act.put, putS])
      refine wpAnyH_take (i := 3) (v := ?bv3) rfl (by kernel_rfl) (by kernel_rfl) (by kernel_rfl) (fun _ _ _ h => h) (Or.inl ⟨by rfl, ?by3⟩) (by assumption) ?br3
      case by3 => (intro w hSw; (try dsimp only at hSw); go_simp; try with_reducible rfl)
      (try simp only [Act.put, putS])
      refine wpAnyH_take (i := 4) (v := ?bv4) rfl (by kernel_rfl) (by kernel_rfl) (by kernel_rfl) (fun _ _ _ h => h) (Or.inl ⟨by rfl, ?by4⟩) (by assumption) ?br4
      case by4 => (intro w hSw; (try dsimp only at hSw); go_simp; try with_reducible rfl)
      (try simp only [Act.put, putS])
      refine wpAnyH_take (i := 5) (v := ?bv5) rfl (by kernel_rfl) (by kernel_rfl) (by kernel_rfl) (fun _ _ _ h => h) (Or.inl ⟨by rfl, ?by5⟩) (by assumption) ?br5
      case by5 => (intro w hSw; (try dsimp only at hSw); go_simp; try with_reducible rfl)
      (try simp only [Act.put, putS])
      refine wpAnyH_take (i := 6) (v := ?bv6) rfl (by kernel_rfl) (by kernel_rfl) (by kernel_rfl) (fun _ _ _ h => h) (Or.inl ⟨by rfl, ?by6⟩) (by assumption) ?br6
      case by6 => (intro w hSw; (try dsimp only at hSw); go_simp; try with_reducible rfl)
      (try simp only [Act.put, putS])
      refine wpAnyH_take (i := 7) (v := ?bv7) rfl (by kernel_rfl) (by kernel_rfl) (by kernel_rfl) (fun _ _ _ h => h) (Or.inl ⟨by rfl, ?by7⟩) (by assumption) ?br7
      case by7 => (intro w hSw; (try dsimp only at hSw); go_simp; try with_reducible rfl)
      (try simp only [Act.put, putS])
      refine wpAnyH_take (i := 8) (v := ?bv8) rfl (by kernel_rfl) (by kernel_rfl) (by kernel_rfl) (fun _ _ _ h => h) (Or.inl ⟨by rfl, ?by8⟩) (by assumption) ?br8
      case by8 => (intro w hSw; (try dsimp only at hSw); go_simp; try with_reducible rfl)
      (try simp only [Act.put, putS])
      refine wpAnyH_take (i := 9) (v := ?bv9) rfl (by kernel_rfl) (by kernel_rfl) (by kernel_rfl) (fun _ _ _ h => h) (Or.inl ⟨by rfl, ?by9⟩) (by assumption) ?br9
      case by9 => (intro w hSw; (try dsimp only at hSw); go_simp; try with_reducible rfl)
      (try simp only [Act.put, putS])
      refine wpAnyH_take (i := 12) (v := ?bv12) rfl (by kernel_rfl) (by kernel_rfl) (by kernel_rfl) (fun _ _ _ h => h) (Or.inl ⟨by rfl, ?by12⟩) (by assumption) ?br12
      case by12 => (intro w hSw; (try dsimp only at hSw); go_simp; try with_reducible rfl)
      (try simp only [Act.put, putS])
      refine wpAnyH_take (i := 13) (v := ?bv13) rfl (by kernel_rfl) (by kernel_rfl) (by kernel_rfl) (fun _ _ _ h => h) (Or.inl ⟨by rfl, ?by13⟩) (by assumption) ?br13
      case by13 => (intro w hSw; (try dsimp only at hSw); go_simp; try with_reducible rfl)
      (try simp only [Act.put, putS])
      refine wpAnyH_take (i := 14) (v := ?bv14) rfl (by kernel_rfl) (by kernel_rfl) (by kernel_rfl) (fun _ _ _ h => h) (Or.inl ⟨by rfl, ?by14⟩) (by assumption) ?br14
      case by14 => (intro w hSw; (try dsimp only at hSw); go_simp; try with_reducible rfl)
      (try simp only [Act.put, putS])
      refine wpAnyH_take (i := 15) (v := ?bv15) rfl (by kernel_rfl) (by kernel_rfl) (by kernel_rfl) (fun _ _ _ h => h) (Or.inl ⟨by rfl, ?by15⟩) (by assumption) ?br15
      case by15 => (intro w hSw; (try dsimp only at hSw); go_simp; try with_reducible rfl)
      (try simp only [Act.put, putS])
      refine wpAnyH_take (i := 16) (v := ?bv16) rfl (by kernel_rfl) (by kernel_rfl) (by kernel_rfl) (fun _ _ _ h => h) (Or.inl ⟨by rfl, ?by16⟩) (by assumption) ?br16
      case by16 => (intro w hSw; (try dsimp only at hSw); go_simp; try with_reducible rfl)
      (try simp only [Act.put, putS])
      refine wpAnyH_take (i := 17) (v := ?bv17) rfl (by kernel_rfl) (by kernel_rfl) (by kernel_rfl) (fun _ _ _ h => h) (Or.inl ⟨by rfl, ?by17⟩) (by assumption) ?br17
      case by17 => (intro w hSw; (try dsimp only at hSw); go_simp; try with_reducible rfl)
      (try simp only [Act.put, putS])
      refine wpAnyH_take (i := 18) (v := ?bv18) rfl (by kernel_rfl) (by kernel_rfl) (by kernel_rfl) (fun _ _ _ h => h) (Or.inl ⟨by rfl, ?by18⟩) (by assumption) ?br18
      case by18 => (intro w hSw; (try dsimp only at hSw); go_simp; try with_reducible rfl)
      (try simp only [Act.put, putS])
      refine wpAnyH_take (i := 19) (v := ?bv19) rfl (by kernel_rfl) (by kernel_rfl) (by kernel_rfl) (fun _ _ _ h => h) (Or.inl ⟨by rfl, ?by19⟩) (by assumption) ?br19
      case by19 => (intro w hSw; (try dsimp only at hSw); go_simp; try with_reducible rfl)
      (try simp only [Act.put, putS])
      refine wpAnyH_take (i := 20) (v := ?bv20) rfl (by kernel_rfl) (by kernel_rfl) (by kernel_rfl) (fun _ _ _ h => h) (Or.inl ⟨by rfl, ?by20⟩) (by assumption) ?br20
      case by20 => (intro w hSw; (try dsimp only at hSw); go_simp; try with_reducible rfl)
      (try simp only [Act.put, putS])
      refine wpAnyH_take (i := 21) (v := ?bv21) rfl (by kernel_rfl) (by kernel_rfl) (by kernel_rfl) (fun _ _ _ h => h) (Or.inl ⟨by rfl, ?by21⟩) (by assumption) ?br21
      case by21 => (intro w hSw; (try dsimp only at hSw); go_simp; try with_reducible rfl)
      (try simp only [Act.put, putS])
      refine wpAnyH_take (i := 22) (v := ?bv22) rfl (by kernel_rfl) (by kernel_rfl) (by kernel_rfl) (fun _ _ _ h => h) (Or.inl ⟨by rfl, ?by22⟩) (by assumption) ?br22
      case by22 => (intro w hSw; (try dsimp only at hSw); go_simp; try with_reducible rfl)
      (try simp only [Act.put, putS])
      refine wpAnyH_take (i := 23) (v := ?bv23) rfl (by kernel_rfl) (by kernel_rfl) (by kernel_rfl) (fun _ _ _ h => h) (Or.inl ⟨by rfl, ?by23⟩) (by assumption) ?br23
      case by23 => (intro w hSw; (try dsimp only at hSw); go_simp; try with_reducible rfl)
      (try simp only [Act.put, putS])
      refine wpAnyH_take (i := 24) (v := ?bv24) rfl (by kernel_rfl) (by kernel_rfl) (by kernel_rfl) (fun _ _ _ h => h) (Or.inl ⟨by rfl, ?by24⟩) (by assumption) ?br24
      case by24 => (intro w hSw; (try dsimp only at hSw); go_simp; try with_reducible rfl)
      (try simp only [Act.put, putS])
      refine wpAnyH_take (i := 25) (v := ?bv25) rfl (by kernel_rfl) (by kernel_rfl) (by kernel_rfl) (fun _ _ _ h => h) (Or.inl ⟨by rfl, ?by25⟩) (by assumption) ?br25
      case by25 => (intro w hSw; (try dsimp only at hSw); go_simp; try with_reducible rfl)
      (try simp only [Act.put, putS])
      refine wpAnyH_take (i := 26) (v := ?bv26) rfl (by kernel_rfl) (by kernel_rfl) (by kernel_rfl) (fun _ _ _ h => h) (Or.inl ⟨by rfl, ?by26⟩) (by assumption) ?br26
      case by26 => (intro w hSw; (try dsimp only at hSw); go_simp; try with_reducible rfl)
      (try simp only [Act.put, putS])
      refine wpAnyH_take (i := 27) (v := ?bv27) rfl (by kernel_rfl) (by kernel_rfl) (by kernel_rfl) (fun _ _ _ h => h) (Or.inl ⟨by rfl, ?by27⟩) (by assumption) ?br27
      case by27 => (intro w hSw; (try dsimp only at hSw); go_simp; try with_reducible rfl)
      (try simp only [Act.put, putS])
      refine wpAnyH_take (i := 28) (v := ?bv28) rfl (by kernel_rfl) (by kernel_rfl) (by kernel_rfl) (fun _ _ _ h => h) (Or.inl ⟨by rfl, ?by28⟩) (by assumption) ?br28
      case by28 => (intro w hSw; (try dsimp only at hSw); go_simp; try with_reducible rfl)
      (try simp only [Act.put, putS])
      refine wpAnyH_take (i := 29) (v := ?bv29) rfl (by kernel_rfl) (by kernel_rfl) (by kernel_rfl) (fun _ _ _ h => h) (Or.inl ⟨by rfl, ?by29⟩) (by assumption) ?br29
      case by29 => (intro w hSw; (try dsimp only at hSw); go_simp; try with_reducible rfl)
      (try simp only [Act.put, putS])
      refine wpAnyH_take (i := 30) (v := ?bv30) rfl (by kernel_rfl) (by kernel_rfl) (by kernel_rfl) (fun _ _ _ h => h) (Or.inl ⟨by rfl, ?by30⟩) (by assumption) ?br30
      case by30 => (intro w hSw; (try dsimp only at hSw); go_simp; try with_reducible rfl)
      (try simp only [Act.put, putS])
      refine wpAnyH_take (i := 31) (v := ?bv31) rfl (by kernel_rfl) (by kernel_rfl) (by kernel_rfl) (fun _ _ _ h => h) (Or.inl ⟨by rfl, ?by31⟩) (by assumption) ?br31
      case by31 => (intro w hSw; (try dsimp only at hSw); go_simp; try with_reducible rfl)
      (try simp only [Act.put, putS])
      refine wpAnyH_take (i := 32) (v := ?bv32) rfl (by kernel_rfl) (by kernel_rfl) (by kernel_rfl) (fun _ _ _ h => h) (Or.inl ⟨by rfl, ?by32⟩) (by assumption) ?br32
      case by32 => (intro w hSw; (try dsimp only at hSw); go_simp; try with_reducible rfl)
      (try simp only [Act.put, putS])
      refine wpAnyH_ready (rs := [10]) (by kernel_rfl) (by simp) ?_
      refine AllReadyH.cons rfl (fun K hK => ?_) AllReadyH.nil
      rw [if_pos (by rfl)]
      go_simp
      refine hK.out _ _ hHeld (fun hHeld => ?_)
      try clear hK K
      (try simp only [Act.put, putS])
      refine wpAnyH_take (i := 11) (v := ?bv11) rfl (by kernel_rfl) (by kernel_rfl) (by kernel_rfl) (fun _ _ _ h => h) (Or.inl ⟨by rfl, ?by11⟩) (by assumption) ?br11
      case by11 => (intro w hSw; (try dsimp only at hSw); go_simp; try with_reducible rfl)
      (try simp only [Act.put, putS])
      refine wpAnyH_take (i := 33) (v := ?bv33) rfl (by kernel_rfl) (by kernel_rfl) (by kernel_rfl) (fun _ _ _ h => h) (Or.inl ⟨by rfl, ?by33⟩) (by assumption) ?br33
      case by33 => (intro w hSw; (try dsimp only at hSw); go_simp; try with_reducible rfl)
      (try simp only [Act.put, putS])
      refine wpAnyH_take (i := 34) (v := ?bv34) rfl (by kernel_rfl) (by kernel_rfl) (by kernel_rfl) (fun _ _ _ h => h) (Or.inl ⟨by rfl, ?by34⟩) (by assumption) ?br34
      case by34 => (intro w hSw; (try dsimp only at hSw); go_simp; try with_reducible rfl)
      (try simp only [Act.put, putS])
      refine wpAnyH_take (i := 35) (v := ?bv35) rfl (by kernel_rfl) (by kernel_rfl) (by kernel_rfl) (fun _ _ _ h => h) (Or.inl ⟨by rfl, ?by35⟩) (by assumption) ?br35
      case by35 => (intro w hSw; (try dsimp only at hSw); go_simp; try with_reducible rfl)
      (try simp only [Act.put, putS])
      refine wpAnyH_take (i := 36) (v := ?bv36) rfl (by kernel_rfl) (by kernel_rfl) (by kernel_rfl) (fun _ _ _ h => h) (Or.inl ⟨by rfl, ?by36⟩) (by assumption) ?br36
      case by36 => (intro w hSw; (try dsimp only at hSw); go_simp; try with_reducible rfl)
      (try simp only [Act.put, putS])
      refine wpAnyH_ready (rs := [37]) (by kernel_rfl) (by simp) ?_
      refine AllReadyH.cons rfl (fun K hK => ?_) AllReadyH.nil
      rw [if_pos (by rfl)]
      go_simp
      refine hK.out _ _ (HSV.out _) (fun hHeld => ?_)
      try clear hK K
      (try simp only [Act.put, putS])
      refine wpAnyH_done (by kernel_rfl) ?_ _
      obtain ⟨v, hv⟩ : ∃ v, v = IntKind.i64.wrap (fr + IntKind.i64.wrap ((IntKind.u64.wrap at').tmod (tt - fr + 1))) := ⟨_, rfl⟩
      have HV : Hid (I64 v) := hid (by
        have h1 := HRR.out
        have h2 := HFT.out
        rw [hv, IntWalk.i64_in _ ⟨by omega, by omega⟩]
        constructor <;> omega)
      rw [← hv]
      clear hv hHeld y1 y2 a3 f3 hs1 hs2 hs3 hs4 x4 a0
      have HA4 : Hid ((w3.setCell ⟨C + 2, 3, none⟩ (.int .i64 v)).drew.heap[C + 2]? = some (.cells #[.int .i64 1, .int .i64 id, .int .i64 ot, .int .i64 v, .int .i64 out, .int .i64 in'] 41 (0, 0))) := hid (heap_setCell_same _ _ _ _ _ _ HA3.out)
      have hR9 : (w3.setCell ⟨C + 2, 3, none⟩ (.int .i64 v)).drew.heap[C + 1]? = some (.cells z6 41 (0, 0)) := (Below.heap_setCell _ _ _ _ (by show C + 1 ≠ C + 2; omega)).trans HR3.out
      have HB9 : Hid (Below w.heap.size w (w3.setCell ⟨C + 2, 3, none⟩ (.int .i64 v)).drew) := hid (below_set HB3.out (by have := HCE.out; omega)).drew
      clear HA3 HR3 HB3 H3
      generalize (w3.setCell ⟨C + 2, 3, none⟩ (.int .i64 v)).drew = w4 at *
      have hA9 := HA4.out
      have a0 : w4.cell? ⟨C + 2, 0, none⟩ = some (.int .i64 1) := (cell_of_row _ _ _ _ _ _ HA4.out).trans rfl
      replace HJ : Hid (ChJ ⟨1, id, ot, v, out, in'⟩) := hid (by
        have hj := HJ.out
        intro x hx
        simp [numC] at hx
        rcases hx with rfl | rfl | rfl | rfl | rfl | rfl
        · exact hj _ (by simp [numC])
        · exact HID.out.2
        · exact hj _ (by simp [numC])
        · exact HV.out
        all_goals exact hj _ (by simp [numC]))
      clear HA4
      unfold z6 at hR9
      go_wp2_with (first | (refine wpl_loadK rfl _ rfl (C + 2) rfl _ _ _ rfl hA9 ?_) | (refine wpl_storeK rfl _ _ rfl (C + 1) _ _ _ _ _ _ rfl rfl rfl rfl rfl rfl rfl rfl _ _ rfl hR9 ?_))
      (try simp only [Exit.inBlock, Exit.then])
      refine bodyPost_ret (results_ch rfl _ _ (C + 1) _ _ _ rfl rfl (setRow_heap _ _ _ _ _ _ hR9)) rfl ?_
      exact ⟨⟨_, _, _, _, _, _⟩, rfl, HJ.out, below_row HB9.out (by have := HCE.out; omega) _⟩
    have g1 : (k == 1) = false := by simpa using h1
    by_cases h5 : k = 5
    · subst h5
      have hA3 := HA3.out
      go_upto_region 12 with (refine wpl_storeK rfl _ _ rfl (C + 2) _ _ _ _ _ _ rfl rfl rfl rfl rfl rfl rfl rfl _ _ rfl hA3 ?_)
      clear hA3 x4 a0
      have HA4 : Hid ((w3.setRow (C + 2) #[.int .i64 5, .int .i64 0, .int .i64 0, .int .i64 0, .int .i64 0, .int .i64 0]).heap[C + 2]? = some (.cells #[.int .i64 5, .int .i64 0, .int .i64 0, .int .i64 0, .int .i64 0, .int .i64 0] 41 (0, 0))) := hid (setRow_heap _ _ _ _ _ _ HA3.out)
      have hR9 : (w3.setRow (C + 2) #[.int .i64 5, .int .i64 0, .int .i64 0, .int .i64 0, .int .i64 0, .int .i64 0]).heap[C + 1]? = some (.cells z6 41 (0, 0)) := (setRow_other _ _ _ _ (by omega)).trans HR3.out
      have HB9 : Hid (Below w.heap.size w (w3.setRow (C + 2) #[.int .i64 5, .int .i64 0, .int .i64 0, .int .i64 0, .int .i64 0, .int .i64 0])) := hid (below_row HB3.out (by have := HCE.out; omega) _)
      clear HA3 HR3 HB3 H3
      generalize w3.setRow (C + 2) #[.int .i64 5, .int .i64 0, .int .i64 0, .int .i64 0, .int .i64 0, .int .i64 0] = w4 at *
      have hA9 := HA4.out
      replace HJ : Hid (ChJ ⟨5, 0, 0, 0, 0, 0⟩) := hid (by
        intro x hx
        simp [numC] at hx
        rcases hx with rfl | rfl <;> constructor <;> omega)
      clear HA4
      unfold z6 at hR9
      go_wp2_with (first | (refine wpl_loadK rfl _ rfl (C + 2) rfl _ _ _ rfl hA9 ?_) | (refine wpl_storeK rfl _ _ rfl (C + 1) _ _ _ _ _ _ rfl rfl rfl rfl rfl rfl rfl rfl _ _ rfl hR9 ?_))
      (try simp only [Exit.inBlock, Exit.then])
      refine bodyPost_ret (results_ch rfl _ _ (C + 1) _ _ _ rfl rfl (setRow_heap _ _ _ _ _ _ hR9)) rfl ?_
      exact ⟨⟨_, _, _, _, _, _⟩, rfl, HJ.out, below_row HB9.out (by have := HCE.out; omega) _⟩
    · have g5 : (k == 5) = false := by simpa using h5
      have hA9 := HA3.out
      have hR9 := HR3.out
      have HB9 := HB3
      unfold z6 at hR9
      go_wp2_with (first | (refine wpl_loadK rfl _ rfl (C + 2) rfl _ _ _ rfl hA9 ?_) | (refine wpl_storeK rfl _ _ rfl (C + 1) _ _ _ _ _ _ rfl rfl rfl rfl rfl rfl rfl rfl _ _ rfl hR9 ?_))
      (try simp only [Exit.inBlock, Exit.then])
      refine bodyPost_ret (results_ch rfl _ _ (C + 1) _ _ _ rfl rfl (setRow_heap _ _ _ _ _ _ hR9)) rfl ?_
      exact ⟨⟨_, _, _, _, _, _⟩, rfl, HJ.out, below_row HB9.out (by have := HCE.out; omega) _⟩
end Go.Proofs.YtnkjkaofgninnaaGreat
