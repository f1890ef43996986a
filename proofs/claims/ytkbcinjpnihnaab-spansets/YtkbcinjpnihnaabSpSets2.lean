/- The law SpanSets, walked. Conditions: the rows lie in memory, their numbers are ints. -/
import Derived.Test.YtkbcinjpnihnaabSpCut
import Derived.Test.YtkbcinjpnihnaabSpJoin
import Derived.Test.YtkbcinjpnihnaabSpNorms
namespace Go.Proofs.Ytkbcinjpnihnaab
open Go.RowKit Go.Shelf

theorem plain_I {a r : List Sp} (hp : PlainL r) (hm : ∀ k, InL r k → InL a k) (hI : ∀ x ∈ a, SpI x) : ∀ x ∈ r, SpI x := by
  intro x hx
  have h1 := hp.1 x hx
  obtain ⟨y, hy, y1, y2⟩ := hm x.1 ⟨x, hx, by omega, h1⟩
  obtain ⟨z, hz, z1, z2⟩ := hm (x.2 - 1) ⟨x, hx, by omega, by omega⟩
  have := (hI y hy).1.1
  have := (hI y hy).2.2
  have := (hI z hz).2.2
  have := (hI z hz).1.1
  exact ⟨⟨by omega, by omega⟩, ⟨by omega, by omega⟩⟩
theorem take_I' {l : List Sp} (h : ∀ x ∈ l, SpI x) (n : Nat) : ∀ x ∈ l.take n, SpI x := fun x hx => h x (List.mem_of_mem_take hx)
set_option linter.unusedSimpArgs false in
set_option maxRecDepth 100000 in
set_option maxHeartbeats 6400000 in
theorem sets_any (u v x : Value) (l m o : List Sp) (w0 : World) (hu : Sps w0 u l) (hv : Sps w0 v m) (hx : Sps w0 x o) (hI : ∀ z ∈ l, SpI z) (hJ : ∀ z ∈ m, SpI z) (hK : ∀ z ∈ o, SpI z) :
    Calls Try.prog 3 #[u, v, x] w0 fun e w' => e = .returned (.bool true) ∧ Below w0.heap.size w0 w' := by
  have HU := hid hu
  have HV := hid hv
  have HX := hid hx
  have Ia := hid (take_I' hI 60)
  have Ib := hid (take_I' hJ 60)
  have Ic := hid (take_I' hK 60)
  obtain ⟨a0, c0, rfl⟩ := hu.shape
  obtain ⟨a1, c1, rfl⟩ := hv.shape
  obtain ⟨a2, c2, rfl⟩ := hx.shape
  clear hu hv hx hI hJ hK
  go_enter Try.func3, Try.ntmps3
  go_wp2_with fail
  refine (cut_any _ l _ HU.out).mono ?_
  rintro e wz ⟨va, ca, rfl, hs, rfl⟩
  have ha : (l.take 60).length ≤ 60 := by simp; omega
  generalize l.take 60 = a at hs ha Ia ⊢
  have Sa0 := hid hs
  clear hs
  go_wp2_with fail
  refine (cut_any _ m _ HV.out).mono ?_
  rintro e wz ⟨vb, cb, rfl, hs, rfl⟩
  have hb : (m.take 60).length ≤ 60 := by simp; omega
  generalize m.take 60 = b at hs hb Ib ⊢
  have Sb0 := hid hs
  clear hs
  go_wp2_with fail
  refine (cut_any _ o _ HX.out).mono ?_
  rintro e wz ⟨vc, cc, rfl, hs, rfl⟩
  have hc : (o.take 60).length ≤ 60 := by simp; omega
  generalize o.take 60 = c at hs hc Ic ⊢
  have Sc0 := hid hs
  clear hs
  clear HU HV HX
  have B0 := hid (Below.refl wz.heap.size wz)
  go_wp2_with fail
  refine (join_any _ _ b c _ Sb0.out Sc0.out (by omega) (by omega)).mono ?_
  rintro e w1 ⟨bc, v1, c1, hn, rfl, ho, hb⟩
  have Mbc := hid hn.mem
  have Lbc := hid hn.plain
  have hbc : bc.length ≤ 120 := by have := hn.len; simp at this; omega
  have Sbc1 := hid ho.sps
  have B1 := hid (B0.out.trans (hb.mono B0.out.size))
  have Sa1 := hid (Sa0.out.below hb)
  have Sb1 := hid (Sb0.out.below hb)
  have Sc1 := hid (Sc0.out.below hb)
  clear Sa0
  clear Sb0
  clear Sc0
  clear hn ho hb B0
  go_wp2_with fail
  refine (meet_any _ _ a bc _ Sa1.out Sbc1.out (by omega) (by omega)).mono ?_
  rintro e w2 ⟨one, v2, c2, hn, rfl, ho, hb⟩
  have Mone := hid hn.mem
  have Lone := hid hn.plain
  have hone : one.length ≤ 180 := by have := hn.len; omega
  have Sone2 := hid ho.sps
  have B2 := hid (B1.out.trans (hb.mono B1.out.size))
  have Sa2 := hid (Sa1.out.below hb)
  have Sb2 := hid (Sb1.out.below hb)
  have Sc2 := hid (Sc1.out.below hb)
  clear Sa1
  clear Sb1
  clear Sc1
  clear hn ho hb B1
  go_wp2_with fail
  refine (meet_any _ _ a b _ Sa2.out Sb2.out (by omega) (by omega)).mono ?_
  rintro e w3 ⟨ab, v3, c3, hn, rfl, ho, hb⟩
  have Mab := hid hn.mem
  have Lab := hid hn.plain
  have hab : ab.length ≤ 120 := by have := hn.len; omega
  have Sab3 := hid ho.sps
  have B3 := hid (B2.out.trans (hb.mono B2.out.size))
  have Sa3 := hid (Sa2.out.below hb)
  have Sb3 := hid (Sb2.out.below hb)
  have Sc3 := hid (Sc2.out.below hb)
  have Sone3 := hid (Sone2.out.below hb)
  clear Sa2
  clear Sb2
  clear Sc2
  clear Sone2
  clear hn ho hb B2
  go_wp2_with fail
  refine (meet_any _ _ a c _ Sa3.out Sc3.out (by omega) (by omega)).mono ?_
  rintro e w4 ⟨ac, v4, c4, hn, rfl, ho, hb⟩
  have Mac := hid hn.mem
  have Lac := hid hn.plain
  have hac : ac.length ≤ 120 := by have := hn.len; omega
  have Sac4 := hid ho.sps
  have B4 := hid (B3.out.trans (hb.mono B3.out.size))
  have Sa4 := hid (Sa3.out.below hb)
  have Sb4 := hid (Sb3.out.below hb)
  have Sc4 := hid (Sc3.out.below hb)
  have Sone4 := hid (Sone3.out.below hb)
  have Sab4 := hid (Sab3.out.below hb)
  clear Sa3
  clear Sb3
  clear Sc3
  clear Sone3
  clear Sab3
  clear hn ho hb B3
  go_wp2_with fail
  refine (join_any _ _ ab ac _ Sab4.out Sac4.out (by omega) (by omega)).mono ?_
  rintro e w5 ⟨two, v5, c5, hn, rfl, ho, hb⟩
  have Mtwo := hid hn.mem
  have Ltwo := hid hn.plain
  have htwo : two.length ≤ 240 := by have := hn.len; simp at this; omega
  have Stwo5 := hid ho.sps
  have B5 := hid (B4.out.trans (hb.mono B4.out.size))
  have Sa5 := hid (Sa4.out.below hb)
  have Sb5 := hid (Sb4.out.below hb)
  have Sc5 := hid (Sc4.out.below hb)
  have Sone5 := hid (Sone4.out.below hb)
  clear Sa4
  clear Sb4
  clear Sc4
  clear Sone4
  clear hn ho hb B4
  go_wp2_with fail
  refine (join_any _ _ b c _ Sb5.out Sc5.out (by omega) (by omega)).mono ?_
  rintro e w6 ⟨bd, v6, c6, hn, rfl, ho, hb⟩
  have Mbd := hid hn.mem
  have Lbd := hid hn.plain
  have hbd : bd.length ≤ 120 := by have := hn.len; simp at this; omega
  have Sbd6 := hid ho.sps
  have B6 := hid (B5.out.trans (hb.mono B5.out.size))
  have Sa6 := hid (Sa5.out.below hb)
  have Sb6 := hid (Sb5.out.below hb)
  have Sc6 := hid (Sc5.out.below hb)
  have Sone6 := hid (Sone5.out.below hb)
  have Stwo6 := hid (Stwo5.out.below hb)
  clear Sa5
  clear Sb5
  clear Sc5
  clear Sone5
  clear Stwo5
  clear hn ho hb B5
  have Ibd := hid (plain_I (a := b ++ c) Lbd.out (fun k hk => (Mbd.out k).1 hk) (fun x hx => by rcases List.mem_append.1 hx with h | h; exact Ib.out x h; exact Ic.out x h))
  go_wp2_with fail
  refine (cutS_any _ _ a bd _ Sa6.out Sbd6.out (by omega) (by omega) Ia.out Ibd.out).mono ?_
  rintro e w7 ⟨three, v7, c7, hn, rfl, ho, hb⟩
  have Mthree := hid hn.mem
  have Lthree := hid hn.plain
  have hthree : three.length ≤ 181 := by have := hn.len; omega
  have Sthree7 := hid ho.sps
  have B7 := hid (B6.out.trans (hb.mono B6.out.size))
  have Sa7 := hid (Sa6.out.below hb)
  have Sb7 := hid (Sb6.out.below hb)
  have Sc7 := hid (Sc6.out.below hb)
  have Sone7 := hid (Sone6.out.below hb)
  have Stwo7 := hid (Stwo6.out.below hb)
  clear Sa6
  clear Sb6
  clear Sc6
  clear Sone6
  clear Stwo6
  clear hn ho hb B6
  go_wp2_with fail
  refine (cutS_any _ _ a b _ Sa7.out Sb7.out (by omega) (by omega) Ia.out Ib.out).mono ?_
  rintro e w8 ⟨ax, v8, c8, hn, rfl, ho, hb⟩
  have Max := hid hn.mem
  have Lax := hid hn.plain
  have hax : ax.length ≤ 121 := by have := hn.len; omega
  have Sax8 := hid ho.sps
  have B8 := hid (B7.out.trans (hb.mono B7.out.size))
  have Sa8 := hid (Sa7.out.below hb)
  have Sb8 := hid (Sb7.out.below hb)
  have Sc8 := hid (Sc7.out.below hb)
  have Sone8 := hid (Sone7.out.below hb)
  have Stwo8 := hid (Stwo7.out.below hb)
  have Sthree8 := hid (Sthree7.out.below hb)
  clear Sa7
  clear Sb7
  clear Sc7
  clear Sone7
  clear Stwo7
  clear Sthree7
  clear hn ho hb B7
  have Iax := hid (plain_I (a := a) Lax.out (fun k hk => ((Max.out k).1 hk).1) Ia.out)
  go_wp2_with fail
  refine (cutS_any _ _ ax c _ Sax8.out Sc8.out (by omega) (by omega) Iax.out Ic.out).mono ?_
  rintro e w9 ⟨four, v9, c9, hn, rfl, ho, hb⟩
  have Mfour := hid hn.mem
  have Lfour := hid hn.plain
  have hfour : four.length ≤ 182 := by have := hn.len; omega
  have Sfour9 := hid ho.sps
  have B9 := hid (B8.out.trans (hb.mono B8.out.size))
  have Sa9 := hid (Sa8.out.below hb)
  have Sb9 := hid (Sb8.out.below hb)
  have Sc9 := hid (Sc8.out.below hb)
  have Sone9 := hid (Sone8.out.below hb)
  have Stwo9 := hid (Stwo8.out.below hb)
  have Sthree9 := hid (Sthree8.out.below hb)
  clear Sa8
  clear Sb8
  clear Sc8
  clear Sone8
  clear Stwo8
  clear Sthree8
  clear hn ho hb B8
  have heq : one = two := plain_unique Lone.out Ltwo.out fun k => by
    rw [Mone.out k, Mtwo.out k, Mbc.out k, InL_append, InL_append, Mab.out k, Mac.out k]
    all_goals (by_cases p : InL a k <;> by_cases q : InL b k <;> by_cases t : InL c k <;> simp [p, q, t])
  have hd : decide (one = two) = true := decide_eq_true heq
  have HD := hid hd
  clear heq hd
  go_wp2_with fail
  refine (rsame_any _ _ one two _ Sone9.out Stwo9.out (by omega)).mono ?_
  rintro e w10 ⟨rfl, hb⟩
  rw [HD.out]
  have B10 := hid (B9.out.trans (hb.mono B9.out.size))
  have Sa10 := hid (Sa9.out.below hb)
  have Sb10 := hid (Sb9.out.below hb)
  have Sc10 := hid (Sc9.out.below hb)
  have Sthree10 := hid (Sthree9.out.below hb)
  have Sfour10 := hid (Sfour9.out.below hb)
  clear Sa9
  clear Sb9
  clear Sc9
  clear Sthree9
  clear Sfour9
  clear hb HD B9
  have heq : three = four := plain_unique Lthree.out Lfour.out fun k => by
    rw [Mthree.out k, Mfour.out k, Mbd.out k, InL_append, Max.out k]
    all_goals (by_cases p : InL a k <;> by_cases q : InL b k <;> by_cases t : InL c k <;> simp [p, q, t])
  have hd : decide (three = four) = true := decide_eq_true heq
  have HD := hid hd
  clear heq hd
  go_wp2_with fail
  refine (rsame_any _ _ three four _ Sthree10.out Sfour10.out (by omega)).mono ?_
  rintro e w11 ⟨rfl, hb⟩
  rw [HD.out]
  have B11 := hid (B10.out.trans (hb.mono B10.out.size))
  have Sa11 := hid (Sa10.out.below hb)
  have Sb11 := hid (Sb10.out.below hb)
  have Sc11 := hid (Sc10.out.below hb)
  clear Sa10
  clear Sb10
  clear Sc10
  clear hb HD B10
  go_wp2_with fail
  refine (join_any _ _ a b _ Sa11.out Sb11.out (by omega) (by omega)).mono ?_
  rintro e w12 ⟨j1, v12, c12, hn, rfl, ho, hb⟩
  have Mj1 := hid hn.mem
  have Lj1 := hid hn.plain
  have hj1 : j1.length ≤ 120 := by have := hn.len; simp at this; omega
  have Sj112 := hid ho.sps
  have B12 := hid (B11.out.trans (hb.mono B11.out.size))
  have Sa12 := hid (Sa11.out.below hb)
  have Sb12 := hid (Sb11.out.below hb)
  have Sc12 := hid (Sc11.out.below hb)
  clear Sa11
  clear Sb11
  clear Sc11
  clear hn ho hb B11
  go_wp2_with fail
  refine (join_any _ _ b a _ Sb12.out Sa12.out (by omega) (by omega)).mono ?_
  rintro e w13 ⟨j2, v13, c13, hn, rfl, ho, hb⟩
  have Mj2 := hid hn.mem
  have Lj2 := hid hn.plain
  have hj2 : j2.length ≤ 120 := by have := hn.len; simp at this; omega
  have Sj213 := hid ho.sps
  have B13 := hid (B12.out.trans (hb.mono B12.out.size))
  have Sa13 := hid (Sa12.out.below hb)
  have Sb13 := hid (Sb12.out.below hb)
  have Sc13 := hid (Sc12.out.below hb)
  have Sj113 := hid (Sj112.out.below hb)
  clear Sa12
  clear Sb12
  clear Sc12
  clear Sj112
  clear hn ho hb B12
  have heq : j1 = j2 := plain_unique Lj1.out Lj2.out fun k => by
    rw [Mj1.out k, Mj2.out k, InL_append, InL_append]
    all_goals (by_cases p : InL a k <;> by_cases q : InL b k <;> by_cases t : InL c k <;> simp [p, q, t])
  have hd : decide (j1 = j2) = true := decide_eq_true heq
  have HD := hid hd
  clear heq hd
  go_wp2_with fail
  refine (rsame_any _ _ j1 j2 _ Sj113.out Sj213.out (by omega)).mono ?_
  rintro e w14 ⟨rfl, hb⟩
  rw [HD.out]
  have B14 := hid (B13.out.trans (hb.mono B13.out.size))
  have Sa14 := hid (Sa13.out.below hb)
  have Sb14 := hid (Sb13.out.below hb)
  have Sc14 := hid (Sc13.out.below hb)
  clear Sa13
  clear Sb13
  clear Sc13
  clear hb HD B13
  go_wp2_with fail
  refine (meet_any _ _ a b _ Sa14.out Sb14.out (by omega) (by omega)).mono ?_
  rintro e w15 ⟨m1, v15, c15, hn, rfl, ho, hb⟩
  have Mm1 := hid hn.mem
  have Lm1 := hid hn.plain
  have hm1 : m1.length ≤ 120 := by have := hn.len; omega
  have Sm115 := hid ho.sps
  have B15 := hid (B14.out.trans (hb.mono B14.out.size))
  have Sa15 := hid (Sa14.out.below hb)
  have Sb15 := hid (Sb14.out.below hb)
  have Sc15 := hid (Sc14.out.below hb)
  clear Sa14
  clear Sb14
  clear Sc14
  clear hn ho hb B14
  go_wp2_with fail
  refine (meet_any _ _ b a _ Sb15.out Sa15.out (by omega) (by omega)).mono ?_
  rintro e w16 ⟨m2, v16, c16, hn, rfl, ho, hb⟩
  have Mm2 := hid hn.mem
  have Lm2 := hid hn.plain
  have hm2 : m2.length ≤ 120 := by have := hn.len; omega
  have Sm216 := hid ho.sps
  have B16 := hid (B15.out.trans (hb.mono B15.out.size))
  have Sa16 := hid (Sa15.out.below hb)
  have Sb16 := hid (Sb15.out.below hb)
  have Sc16 := hid (Sc15.out.below hb)
  have Sm116 := hid (Sm115.out.below hb)
  clear Sa15
  clear Sb15
  clear Sc15
  clear Sm115
  clear hn ho hb B15
  have heq : m1 = m2 := plain_unique Lm1.out Lm2.out fun k => by
    rw [Mm1.out k, Mm2.out k]
    all_goals (by_cases p : InL a k <;> by_cases q : InL b k <;> by_cases t : InL c k <;> simp [p, q, t])
  have hd : decide (m1 = m2) = true := decide_eq_true heq
  have HD := hid hd
  clear heq hd
  go_wp2_with fail
  refine (rsame_any _ _ m1 m2 _ Sm116.out Sm216.out (by omega)).mono ?_
  rintro e w17 ⟨rfl, hb⟩
  rw [HD.out]
  have B17 := hid (B16.out.trans (hb.mono B16.out.size))
  have Sa17 := hid (Sa16.out.below hb)
  have Sb17 := hid (Sb16.out.below hb)
  have Sc17 := hid (Sc16.out.below hb)
  clear Sa16
  clear Sb16
  clear Sc16
  clear hb HD B16
  go_wp2_with fail
  refine (cutS_any _ _ a b _ Sa17.out Sb17.out (by omega) (by omega) Ia.out Ib.out).mono ?_
  rintro e w18 ⟨x1, v18, c18, hn, rfl, ho, hb⟩
  have Mx1 := hid hn.mem
  have Lx1 := hid hn.plain
  have hx1 : x1.length ≤ 121 := by have := hn.len; omega
  have Sx118 := hid ho.sps
  have B18 := hid (B17.out.trans (hb.mono B17.out.size))
  have Sa18 := hid (Sa17.out.below hb)
  have Sb18 := hid (Sb17.out.below hb)
  have Sc18 := hid (Sc17.out.below hb)
  clear Sa17
  clear Sb17
  clear Sc17
  clear hn ho hb B17
  go_wp2_with fail
  refine (meet_any _ _ a b _ Sa18.out Sb18.out (by omega) (by omega)).mono ?_
  rintro e w19 ⟨x2, v19, c19, hn, rfl, ho, hb⟩
  have Mx2 := hid hn.mem
  have Lx2 := hid hn.plain
  have hx2 : x2.length ≤ 120 := by have := hn.len; omega
  have Sx219 := hid ho.sps
  have B19 := hid (B18.out.trans (hb.mono B18.out.size))
  have Sa19 := hid (Sa18.out.below hb)
  have Sb19 := hid (Sb18.out.below hb)
  have Sc19 := hid (Sc18.out.below hb)
  have Sx119 := hid (Sx118.out.below hb)
  clear Sa18
  clear Sb18
  clear Sc18
  clear Sx118
  clear hn ho hb B18
  go_wp2_with fail
  refine (join_any _ _ x1 x2 _ Sx119.out Sx219.out (by omega) (by omega)).mono ?_
  rintro e w20 ⟨x3, v20, c20, hn, rfl, ho, hb⟩
  have Mx3 := hid hn.mem
  have Lx3 := hid hn.plain
  have hx3 : x3.length ≤ 241 := by have := hn.len; simp at this; omega
  have Sx320 := hid ho.sps
  have B20 := hid (B19.out.trans (hb.mono B19.out.size))
  have Sa20 := hid (Sa19.out.below hb)
  have Sb20 := hid (Sb19.out.below hb)
  have Sc20 := hid (Sc19.out.below hb)
  clear Sa19
  clear Sb19
  clear Sc19
  clear hn ho hb B19
  go_wp2_with fail
  refine (norm_any _ a _ Sa20.out (by omega)).mono ?_
  rintro e w21 ⟨x4, v21, c21, hn, rfl, ho, hb⟩
  have Mx4 := hid hn.mem
  have Lx4 := hid hn.plain
  have hx4 : x4.length ≤ 60 := by have := hn.len; omega
  have Sx421 := hid ho.sps
  have B21 := hid (B20.out.trans (hb.mono B20.out.size))
  have Sa21 := hid (Sa20.out.below hb)
  have Sb21 := hid (Sb20.out.below hb)
  have Sc21 := hid (Sc20.out.below hb)
  have Sx321 := hid (Sx320.out.below hb)
  clear Sa20
  clear Sb20
  clear Sc20
  clear Sx320
  clear hn ho hb B20
  have heq : x3 = x4 := plain_unique Lx3.out Lx4.out fun k => by
    rw [Mx3.out k, Mx4.out k, InL_append, Mx1.out k, Mx2.out k]
    all_goals (by_cases p : InL a k <;> by_cases q : InL b k <;> by_cases t : InL c k <;> simp [p, q, t])
  have hd : decide (x3 = x4) = true := decide_eq_true heq
  have HD := hid hd
  clear heq hd
  go_wp2_with fail
  refine (rsame_any _ _ x3 x4 _ Sx321.out Sx421.out (by omega)).mono ?_
  rintro e w22 ⟨rfl, hb⟩
  rw [HD.out]
  have B22 := hid (B21.out.trans (hb.mono B21.out.size))
  have Sa22 := hid (Sa21.out.below hb)
  have Sb22 := hid (Sb21.out.below hb)
  have Sc22 := hid (Sc21.out.below hb)
  clear Sa21
  clear Sb21
  clear Sc21
  clear hb HD B21
  go_wp2_with fail
  refine (norm_any _ a _ Sa22.out (by omega)).mono ?_
  rintro e w23 ⟨n1, v23, c23, hn, rfl, ho, hb⟩
  have Mn1 := hid hn.mem
  have Ln1 := hid hn.plain
  have hn1 : n1.length ≤ 60 := by have := hn.len; omega
  have Sn123 := hid ho.sps
  have B23 := hid (B22.out.trans (hb.mono B22.out.size))
  have Sa23 := hid (Sa22.out.below hb)
  have Sb23 := hid (Sb22.out.below hb)
  have Sc23 := hid (Sc22.out.below hb)
  clear Sa22
  clear Sb22
  clear Sc22
  clear hn ho hb B22
  go_wp2_with fail
  refine (norm_any _ n1 _ Sn123.out (by omega)).mono ?_
  rintro e w24 ⟨n2, v24, c24, hn, rfl, ho, hb⟩
  have Mn2 := hid hn.mem
  have Ln2 := hid hn.plain
  have hn2 : n2.length ≤ 60 := by have := hn.len; omega
  have Sn224 := hid ho.sps
  have B24 := hid (B23.out.trans (hb.mono B23.out.size))
  have Sa24 := hid (Sa23.out.below hb)
  have Sb24 := hid (Sb23.out.below hb)
  have Sc24 := hid (Sc23.out.below hb)
  clear Sa23
  clear Sb23
  clear Sc23
  clear hn ho hb B23
  go_wp2_with fail
  refine (norm_any _ a _ Sa24.out (by omega)).mono ?_
  rintro e w25 ⟨n3, v25, c25, hn, rfl, ho, hb⟩
  have Mn3 := hid hn.mem
  have Ln3 := hid hn.plain
  have hn3 : n3.length ≤ 60 := by have := hn.len; omega
  have Sn325 := hid ho.sps
  have B25 := hid (B24.out.trans (hb.mono B24.out.size))
  have Sa25 := hid (Sa24.out.below hb)
  have Sb25 := hid (Sb24.out.below hb)
  have Sc25 := hid (Sc24.out.below hb)
  have Sn225 := hid (Sn224.out.below hb)
  clear Sa24
  clear Sb24
  clear Sc24
  clear Sn224
  clear hn ho hb B24
  have heq : n2 = n3 := plain_unique Ln2.out Ln3.out fun k => by
    rw [Mn2.out k, Mn3.out k, Mn1.out k]
    all_goals (by_cases p : InL a k <;> by_cases q : InL b k <;> by_cases t : InL c k <;> simp [p, q, t])
  have hd : decide (n2 = n3) = true := decide_eq_true heq
  have HD := hid hd
  clear heq hd
  go_wp2_with fail
  refine (rsame_any _ _ n2 n3 _ Sn225.out Sn325.out (by omega)).mono ?_
  rintro e w26 ⟨rfl, hb⟩
  rw [HD.out]
  have B26 := hid (B25.out.trans (hb.mono B25.out.size))
  have Sa26 := hid (Sa25.out.below hb)
  have Sb26 := hid (Sb25.out.below hb)
  have Sc26 := hid (Sc25.out.below hb)
  clear Sa25
  clear Sb25
  clear Sc25
  clear hb HD B25
  go_wp2_with fail
  refine (lives_any _).mono ?_
  rintro e wl ⟨rfl, hb⟩
  have BL := hid (B26.out.trans (hb.mono B26.out.size))
  clear hb
  go_wp2_with fail
  go_ret
  exact ⟨rfl, BL.out⟩
end Go.Proofs.Ytkbcinjpnihnaab
