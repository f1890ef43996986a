/- What Meet answers: the plain row of the blocks of both. Conditions: the rows lie in memory and have at most a million spans each. -/
import Derived.Test.YtkbcinjpnihnaabSpLaw
namespace Go.Proofs.Ytkbcinjpnihnaab
open Go.RowKit Go.Shelf

/-- How far Meet has come. -/
structure MeetI (A B a b met : List Sp) : Prop where
  pa : PlainL a
  pb : PlainL b
  pm : PlainL met
  mem : ∀ k, (InL A k ∧ InL B k) ↔ (InL met k ∨ (InL a k ∧ InL b k))
  far : ∀ z ∈ met, (∀ x ∈ a, z.2 < x.1) ∨ (∀ y ∈ b, z.2 < y.1)
  len : met.length + a.length + b.length ≤ A.length + B.length
theorem MeetI.start {A B : List Sp} (ha : PlainL A) (hb : PlainL B) : MeetI A B A B [] :=
  ⟨ha, hb, ⟨by simp, by simp⟩, fun k => by simp [InL], by simp, by simp⟩
theorem MeetI.end {A B a b met : List Sp} (h : MeetI A B a b met) (he : a = [] ∨ b = []) (k : Int) : InL met k ↔ InL A k ∧ InL B k := by
  rw [h.mem k]
  rcases he with rfl | rfl <;> simp [InL]
def meetS (met : List Sp) (x y : Sp) : List Sp := if max x.1 y.1 < min x.2 y.2 then met ++ [(max x.1 y.1, min x.2 y.2)] else met
theorem MeetI.put {A B a b met : List Sp} {x y : Sp} (h : MeetI A B (x :: a) (y :: b) met) :
    PlainL (meetS met x y) ∧ (∀ k, InL (meetS met x y) k ↔ InL met k ∨ (x.1 ≤ k ∧ k < x.2 ∧ y.1 ≤ k ∧ k < y.2)) ∧ (∀ z ∈ meetS met x y, z ∈ met ∨ z.2 = min x.2 y.2) ∧ (meetS met x y).length ≤ met.length + 1 := by
  unfold meetS
  split
  · rename_i hlt
    refine ⟨plain_snoc.2 ⟨h.pm, hlt, fun z hz => ?_⟩, fun k => ?_, fun z hz => ?_, by simp⟩
    · rcases h.far z hz with hf | hf
      · have := hf x (by simp); simp only; omega
      · have := hf y (by simp); simp only; omega
    · rw [InL_append, InL_one]
      simp only
      constructor
      · rintro (h | h)
        · exact .inl h
        · exact .inr (by omega)
      · rintro (h | h)
        · exact .inl h
        · exact .inr (by omega)
    · rw [List.mem_append] at hz
      rcases hz with hz | hz
      · exact .inl hz
      · simp at hz; subst hz; exact .inr rfl
  · rename_i hlt
    refine ⟨h.pm, fun k => ?_, fun z hz => .inl hz, by simp⟩
    constructor
    · exact fun h => .inl h
    · rintro (h | h)
      · exact h
      · omega
theorem MeetI.left {A B a b met : List Sp} {x y : Sp} (h : MeetI A B (x :: a) (y :: b) met) (hlt : x.2 < y.2) : MeetI A B a (y :: b) (meetS met x y) := by
  obtain ⟨p1, p2, p3, p4⟩ := h.put
  refine ⟨h.pa.tail, h.pb, p1, fun k => ?_, fun z hz => ?_, by have := h.len; simp at this ⊢; omega⟩
  · rw [h.mem k, p2 k, InL_cons x a, InL_cons y b]
    constructor
    · rintro (h1 | ⟨h1 | h1, h2⟩)
      · exact .inl (.inl h1)
      · rcases h2 with h2 | h2
        · exact .inl (.inr ⟨h1.1, h1.2, h2.1, h2.2⟩)
        · have := h.pb.beyond h2; omega
      · exact .inr ⟨h1, h2⟩
    · rintro ((h1 | h1) | ⟨h1, h2⟩)
      · exact .inl h1
      · exact .inr ⟨.inl ⟨h1.1, h1.2.1⟩, .inl ⟨h1.2.2.1, h1.2.2.2⟩⟩
      · exact .inr ⟨.inr h1, h2⟩
  · rcases p3 z hz with hm | hm
    · rcases h.far z hm with hf | hf
      · exact .inl fun t ht => hf t (List.mem_cons_of_mem _ ht)
      · exact .inr hf
    · refine .inl fun t ht => ?_
      have := (List.pairwise_cons.1 h.pa.2).1 t ht
      omega
theorem MeetI.right {A B a b met : List Sp} {x y : Sp} (h : MeetI A B (x :: a) (y :: b) met) (hlt : ¬ x.2 < y.2) : MeetI A B (x :: a) b (meetS met x y) := by
  obtain ⟨p1, p2, p3, p4⟩ := h.put
  refine ⟨h.pa, h.pb.tail, p1, fun k => ?_, fun z hz => ?_, by have := h.len; simp at this ⊢; omega⟩
  · rw [h.mem k, p2 k, InL_cons x a, InL_cons y b]
    constructor
    · rintro (h1 | ⟨h1, h2 | h2⟩)
      · exact .inl (.inl h1)
      · rcases h1 with h1 | h1
        · exact .inl (.inr ⟨h1.1, h1.2, h2.1, h2.2⟩)
        · have := h.pa.beyond h1; omega
      · exact .inr ⟨h1, h2⟩
    · rintro ((h1 | h1) | ⟨h1, h2⟩)
      · exact .inl h1
      · exact .inr ⟨.inl ⟨h1.1, h1.2.1⟩, .inl ⟨h1.2.2.1, h1.2.2.2⟩⟩
      · exact .inr ⟨h1, .inr h2⟩
  · rcases p3 z hz with hm | hm
    · rcases h.far z hm with hf | hf
      · exact .inl hf
      · exact .inr fun t ht => hf t (List.mem_cons_of_mem _ ht)
    · refine .inr fun t ht => ?_
      have := (List.pairwise_cons.1 h.pb.2).1 t ht
      omega
theorem Try.elemSs' : Try.prog.underlying 22 = some (.slice (Try.prog.elem 22)) := by
  rw [show Try.prog.elem 22 = 29 by kernel_rfl]; exact Try.underlyingSs
theorem Try.sizeSpan (w : World) : (sizeOf 29).run Try.prog w = .ok 2 w := by kernel_rfl
def tailS (va : Option Addr) (n vc : Nat) : Value := .slice (if vc = 1 then va else va.map (·.add 2)) (n - 1) (vc - 1)
theorem run_tailS (va : Option Addr) (n vc : Nat) (hn : 1 ≤ n) (w : World) :
    (Instr.slice 22 (.slice va n vc) (some (.int .i64 1)) none none).run Try.prog w = .ok (tailS va n vc) w := by
  have h := run_slice_l (P := Try.prog) (w := w) 22 va n vc Try.elemSs' .i64 1 (by omega) (by omega)
  rw [h, show Try.prog.elem 22 = 29 by kernel_rfl, Try.sizeSpan]
  simp [Result.andThen, sliced, tailS]
theorem Sps.tail {w : World} {va : Option Addr} {vc : Nat} {x : Sp} {l : List Sp} (h : Sps w (.slice va (x :: l).length vc) (x :: l)) : ∃ va' vc', tailS va (x :: l).length vc = .slice va' l.length vc' ∧ Sps w (.slice va' l.length vc') l := by
  refine ⟨_, _, rfl, ?_⟩
  obtain ⟨ao, n, cap, e, h1, h2, h3, h4, h5⟩ := h
  cases e
  have hle : l.length + 1 ≤ vc := by simpa using h2
  refine ⟨_, _, _, rfl, rfl, by omega, by omega, ?_, ?_⟩
  · intro hn
    by_cases hc : vc = 1
    · omega
    · rw [if_neg hc] at hn
      cases va with
      | none => have := h4 rfl; omega
      | some a => cases hn
  · intro ad had j hj
    have hc : vc ≠ 1 := by omega
    rw [if_neg hc] at had
    cases va with
    | none => cases had
    | some a =>
      simp at had
      subst had
      have := h5 a rfl (j + 1) (by simp; omega)
      rw [Addr.add_add, Addr.add_add]
      rw [show 2 + j * 2 = (j + 1) * 2 from by omega, show 2 + (j * 2 + 1) = (j + 1) * 2 + 1 from by omega]
      simpa using this
theorem new_pair (w W : World) (h : Below (w.drew.alloc (.cells #[.int .i64 0, .int .i64 0] 29)).heap.size (w.drew.alloc (.cells #[.int .i64 0, .int .i64 0] 29)) W) :
    W.cell? ⟨w.heap.size, 0, none⟩ = some (.int .i64 0) ∧ W.cell? ⟨w.heap.size, 1, none⟩ = some (.int .i64 0) ∧ W.frozen? ⟨w.heap.size, 0, none⟩ = false ∧ W.frozen? ⟨w.heap.size, 1, none⟩ = false := by
  have hn : (w.drew.alloc (.cells #[.int .i64 0, .int .i64 0] 29)).heap[w.heap.size]? = some (.cells #[.int .i64 0, .int .i64 0] 29 (0, 0)) := heap_alloc_new w.drew _
  have hk := (h.block w.heap.size (by simp)).trans hn
  refine ⟨by rw [cell_of_row _ _ _ _ _ _ hk]; rfl, by rw [cell_of_row _ _ _ _ _ _ hk]; rfl, ?_, ?_⟩ <;> simp [World.frozen?, hk]
/-- r is the plain row of the blocks of both. -/
structure MeetOf (a b r : List Sp) : Prop where
  plain : PlainL r
  mem : ∀ k, InL r k ↔ (InL a k ∧ InL b k)
  len : r.length ≤ a.length + b.length
set_option maxRecDepth 100000 in
set_option maxHeartbeats 4000000 in
theorem meet_any (u v : Value) (a b : List Sp) (w : World) (hu : Sps w u a) (hv : Sps w v b) (ha : a.length ≤ 1000000) (hb : b.length ≤ 1000000) :
    Calls Try.prog 10 #[u, v] w fun e w' => ∃ r va vc, MeetOf a b r ∧ e = .returned (.slice va r.length vc) ∧ OwnS w' w.heap.size (.slice va r.length vc) r ∧ Below w.heap.size w w' := by
  have HU := hid hu
  have HV := hid hv
  obtain ⟨a0, c0, rfl⟩ := hu.shape
  obtain ⟨a1, c1, rfl⟩ := hv.shape
  clear hu hv
  go_enter Try.func10, Try.ntmps10
  go_wp2_with fail
  refine (norm_any _ a _ HU.out (by omega)).mono ?_
  rintro e w1 ⟨A, va1, vc1, hn1, rfl, ho1, hb1⟩
  have N1 := hid hn1
  have S1 := hid ho1.sps
  have B1 := hid hb1
  have V1 := hid (HV.out.below hb1)
  clear hn1 ho1 hb1 HU HV
  go_wp2_with fail
  refine (norm_any _ b _ V1.out (by omega)).mono ?_
  rintro e w2 ⟨B, va2, vc2, hn2, rfl, ho2, hb2⟩
  have N2 := hid hn2
  have T2 := hid ho2.sps
  have S2 := hid (S1.out.below hb2)
  have B2 := hid (B1.out.trans (hb2.mono B1.out.size))
  have hAB : A.length + B.length ≤ 2000000 := by have h1 := N1.out.len; have h2 := hn2.len; omega
  clear hn2 ho2 hb2 V1 S1 B1
  go_wp2_with fail
  go_loopw [0, 1, 5, 6] (fun av bv mv _ wr => ∃ (p q met : List Sp) (xa ya ma : Option Addr) (xc yc mc : Nat), av = .slice xa p.length xc ∧ bv = .slice ya q.length yc ∧ mv = .slice ma met.length mc ∧ MeetI A B p q met ∧ Sps w2 (.slice xa p.length xc) p ∧ Sps w2 (.slice ya q.length yc) q ∧ OwnS wr w2.heap.size (.slice ma met.length mc) met ∧ Below w2.heap.size w2 wr) (fun av bv _ _ _ => (match av with | .slice _ n _ => n | _ => 0) + (match bv with | .slice _ n _ => n | _ => 0))
  case atStart => exact ⟨A, B, [], _, _, none, _, _, 0, rfl, rfl, rfl, MeetI.start N1.out.plain N2.out.plain, S2.out, T2.out, OwnS.nil _ _, Below.refl _ _⟩
  case round =>
    obtain ⟨p, q, met, xa, ya, ma, xc, yc, mc, rfl, rfl, rfl, hM, hx, hy, ho, hbe⟩ := hrel
    have HM := hid hM
    have HX := hid hx
    have HY := hid hy
    have HO := hid ho
    have BE := hid hbe
    have hsz := hbe.size
    clear hM hx hy ho hbe S2 T2
    cases p with
    | nil =>
      simp only [List.length_nil]
      go_wp2_with fail
      go_ret
      exact ⟨met, ma, mc, ⟨HM.out.pm, fun k => by rw [HM.out.end (.inl rfl) k, N1.out.mem k, N2.out.mem k], by have h1 := HM.out.len; have h2 := N1.out.len; have h3 := N2.out.len; simp at h1; omega⟩, rfl, HO.out.lower B2.out.size, B2.out.trans (BE.out.mono B2.out.size)⟩
    | cons x p =>
      cases q with
      | nil =>
        simp only [List.length_nil, List.length_cons]
        have h1 : (0 : Int) < (p.length : Int) + 1 := by omega
        go_wp2_with fail
        go_ret
        exact ⟨met, ma, mc, ⟨HM.out.pm, fun k => by rw [HM.out.end (.inr rfl) k, N1.out.mem k, N2.out.mem k], by have h1 := HM.out.len; have h2 := N1.out.len; have h3 := N2.out.len; simp at h1; omega⟩, rfl, HO.out.lower B2.out.size, B2.out.trans (BE.out.mono B2.out.size)⟩
      | cons y q =>
        obtain ⟨xb, xo, rfl⟩ := HX.out.addr (by simp)
        obtain ⟨yb, yo, rfl⟩ := HY.out.addr (by simp)
        have X0 := (HX.out.lit 0 (by simp))
        have Y0 := (HY.out.lit 0 (by simp))
        simp only [List.getElem_cons_zero, Nat.zero_mul, Nat.add_zero] at X0 Y0
        obtain ⟨x0, x1⟩ := X0
        obtain ⟨y0, y1⟩ := Y0
        obtain ⟨tx, txc, ex, HTX⟩ := HX.out.tail
        obtain ⟨ty, tyc, ey, HTY⟩ := HY.out.tail
        have rx := run_tailS (some ⟨xb, xo, none⟩) (x :: p).length xc (by simp)
        have ry := run_tailS (some ⟨yb, yo, none⟩) (y :: q).length yc (by simp)
        rw [ex] at rx
        rw [ey] at ry
        have hlm := HM.out.len
        simp only [List.length_cons] at rx ry hlm ⊢
        have i1 : (0 : Int) < (p.length : Int) + 1 := by omega
        have i2 : (0 : Int) < (q.length : Int) + 1 := by omega
        have SW : Hid (∀ X, Below w2.heap.size w2 X → (X.cell? ⟨xb, xo, none⟩ = some (.int .i64 x.1) ∧ X.cell? ⟨xb, xo + 1, none⟩ = some (.int .i64 x.2)) ∧ (X.cell? ⟨yb, yo, none⟩ = some (.int .i64 y.1) ∧ X.cell? ⟨yb, yo + 1, none⟩ = some (.int .i64 y.2))) := hid fun X hX => ⟨⟨cell_later hX x0, cell_later hX x1⟩, cell_later hX y0, cell_later hX y1⟩
        have HTX' := hid HTX
        have HTY' := hid HTY
        have DX := hid (BE.out.drew)
        clear ex ey x0 x1 y0 y1 HTX HTY
        go_wp2_with fail
        go_region_held3 (fun X => (X.cell? ⟨xb, xo, none⟩ = some (.int .i64 x.1) ∧ X.cell? ⟨xb, xo + 1, none⟩ = some (.int .i64 x.2)) ∧ (X.cell? ⟨yb, yo, none⟩ = some (.int .i64 y.1) ∧ X.cell? ⟨yb, yo + 1, none⟩ = some (.int .i64 y.2))) (first | exact SW.out _ DX.out | exact SW.out _ (DX.out.alloc hsz _) | exact SW.out _ B5.out | exact SW.out _ (B5.out.alloc B5.out.size _) | exact SW.out _ ((B5.out.setCell (p := ⟨wr.heap.size, 0, none⟩) hsz _).setCell (p := ⟨wr.heap.size, 1, none⟩) hsz _)) (first | (go_at_call 29; refine (common_any x y _).mono ?_; rintro e w5 ⟨rfl, hb5⟩; have B5 : Hid (Below w2.heap.size w2 w5) := hid (DX.out.trans (hb5.mono hsz)); have H5 := hid hb5; clear hb5) | (go_at_call 29; refine (common_any x y _).mono ?_; rintro e w5 ⟨rfl, hb5⟩; have B5 : Hid (Below w2.heap.size w2 w5) := hid ((DX.out.alloc hsz _).trans (hb5.mono (Nat.le_trans hsz (by simp)))); have H5 := hid hb5; obtain ⟨q0, q1, q2, q3⟩ := new_pair _ _ hb5; clear hb5))
        · have BW : Hid (Below wr.heap.size wr (w5.alloc (.cells #[.int .i64 (max x.1 y.1), .int .i64 (min x.2 y.2)] 29))) := hid (((Below.refl _ _).drew.trans (H5.out : Below wr.heap.size wr.drew w5)).alloc H5.out.size _)
          have K0 : Hid ((w5.alloc (.cells #[.int .i64 (max x.1 y.1), .int .i64 (min x.2 y.2)] 29)).cell? ⟨w5.heap.size, 0, none⟩ = some (.int .i64 (max x.1 y.1))) := hid (by rw [cell_of_row _ _ _ _ _ _ (heap_alloc_new _ _)]; rfl)
          have K1 : Hid ((w5.alloc (.cells #[.int .i64 (max x.1 y.1), .int .i64 (min x.2 y.2)] 29)).cell? ⟨w5.heap.size, 1, none⟩ = some (.int .i64 (min x.2 y.2))) := hid (by rw [cell_of_row _ _ _ _ _ _ (heap_alloc_new _ _)]; rfl)
          clear H5 B5
          generalize w5.alloc (.cells #[.int .i64 (max x.1 y.1), .int .i64 (min x.2 y.2)] 29) = W at *
          generalize w5.heap.size = K at *
          obtain ⟨s1, hs1⟩ : ∃ s1, s1 = max x.1 y.1 := ⟨_, rfl⟩
          obtain ⟨s2, hs2⟩ : ∃ s2, s2 = min x.2 y.2 := ⟨_, rfl⟩
          rw [← hs1] at K0 ⊢
          rw [← hs2] at K1 ⊢
          have HS1 := hid hs1
          have HS2 := hid hs2
          have OW := hid (HO.out.below BW.out)
          have B2W := hid (BE.out.trans (BW.out.mono hsz))
          have hszW := B2W.out.size
          have k0 := K0.out
          have k1 := K1.out
          clear hs1 hs2 K0 K1 HO BE DX
          by_cases hd : s1 < s2
          · have HMS : Hid (meetS met x y = met ++ [(s1, s2)]) := hid (by unfold meetS; rw [← HS1.out, ← HS2.out, if_pos hd])
            have hdd : decide (s2 ≤ s1) = false := decide_eq_false (by omega)
            clear hd
            go_wp2_with fail
            refine (empty_any (s1, s2) W).mono ?_
            rintro e w6 ⟨rfl, hw6⟩
            have b6 : Below W.heap.size W w6 := by rw [hw6]; exact (Below.refl _ _).alloc (Nat.le_refl _) _
            simp only [hdd]
            have k0' := cell_later b6 k0
            have k1' := cell_later b6 k1
            have O6 := hid (OW.out.below (b6.trans (((Below.refl W.heap.size w6).alloc b6.size (.cells #[.int .i64 s1, .int .i64 s2] 29)))))
            have B6 := hid (B2W.out.trans (b6.mono hszW))
            have h6 : w2.heap.size ≤ (w6.alloc (.cells #[.int .i64 s1, .int .i64 s2] 29)).heap.size := Nat.le_trans hszW (Nat.le_trans b6.size (by simp))
            have PX := hid (sps_one (W := w6.alloc (.cells #[.int .i64 s1, .int .i64 s2] 29)) (heap_alloc_new w6 _))
            have hml : met.length ≤ 2000000 := by omega
            clear hw6 b6 k0 k1 hdd OW
            go_wp2_with (at_builtin; refine wpl_appendS rfl (.tmp 29) (.tmp 31) rfl w2.heap.size (.slice ma met.length mc) met rfl O6.out _ [(s1, s2)] rfl PX.out (by simp only [List.length_singleton]; omega) h6 ?_; intro va7 vc7 w7 ho7 hg7; have O7 := hid ho7; have B7 := hid (((B6.out.alloc B6.out.size _)).trans (belowS_grown O6.out hg7 h6)); clear ho7 hg7)
            obtain ⟨⟨r0, r1⟩, r2, r3⟩ := SW.out _ B7.out
            by_cases hlt : x.2 < y.2
            · have HL := hid (HM.out.left hlt)
              rw [HMS.out] at HL
              go_quiet (fail)
              go_wp2_with fail
              go_roundw
              case rel => exact ⟨p, y :: q, _, tx, some ⟨yb, yo, none⟩, va7, txc, yc, vc7, rfl, rfl, by simp, HL.out, HTX'.out, HY.out, by simpa using O7.out.below (belowN w7 _), below_drewN B7.out _⟩
              case measure => simp
            · have HL := hid (HM.out.right hlt)
              rw [HMS.out] at HL
              go_quiet (fail)
              go_wp2_with fail
              go_roundw
              case rel => exact ⟨x :: p, q, _, some ⟨xb, xo, none⟩, ty, va7, xc, tyc, vc7, rfl, rfl, by simp, HL.out, HX.out, HTY'.out, by simpa using O7.out.below (belowN w7 _), below_drewN B7.out _⟩
              case measure => simp
          · have HMS : Hid (meetS met x y = met) := hid (by unfold meetS; rw [← HS1.out, ← HS2.out, if_neg hd])
            have hdd : decide (s2 ≤ s1) = true := decide_eq_true (by omega)
            clear hd
            go_wp2_with fail
            refine (empty_any (s1, s2) W).mono ?_
            rintro e w7 ⟨rfl, hw7⟩
            have b7 : Below W.heap.size W w7 := by rw [hw7]; exact (Below.refl _ _).alloc (Nat.le_refl _) _
            simp only [hdd]
            have O7 := hid (OW.out.below b7)
            have B7 := hid (B2W.out.trans (b7.mono hszW))
            clear hw7 b7 k0 k1 hdd OW
            go_wp2_with fail
            obtain ⟨⟨r0, r1⟩, r2, r3⟩ := SW.out _ B7.out
            by_cases hlt : x.2 < y.2
            · have HL := hid (HM.out.left hlt)
              rw [HMS.out] at HL
              go_quiet (fail)
              go_wp2_with fail
              go_roundw
              case rel => exact ⟨p, y :: q, _, tx, some ⟨yb, yo, none⟩, ma, txc, yc, mc, rfl, rfl, rfl, HL.out, HTX'.out, HY.out, O7.out.below (belowN w7 _), below_drewN B7.out _⟩
              case measure => simp
            · have HL := hid (HM.out.right hlt)
              rw [HMS.out] at HL
              go_quiet (fail)
              go_wp2_with fail
              go_roundw
              case rel => exact ⟨x :: p, q, _, some ⟨xb, xo, none⟩, ty, ma, xc, tyc, mc, rfl, rfl, rfl, HL.out, HX.out, HTY'.out, O7.out.below (belowN w7 _), below_drewN B7.out _⟩
              case measure => simp
        · have b5 : Below wr.heap.size wr w5 := (((Below.refl _ _).drew).alloc (Nat.le_refl _) _).trans (H5.out.mono (by simp))
          have BW : Hid (Below wr.heap.size wr ((w5.setCell ⟨wr.heap.size, 0, none⟩ (.int .i64 (max x.1 y.1))).setCell ⟨wr.heap.size, 1, none⟩ (.int .i64 (min x.2 y.2)))) := hid ((b5.setCell (p := ⟨wr.heap.size, 0, none⟩) (Nat.le_refl _) _).setCell (p := ⟨wr.heap.size, 1, none⟩) (Nat.le_refl _) _)
          have K0 : Hid (((w5.setCell ⟨wr.heap.size, 0, none⟩ (.int .i64 (max x.1 y.1))).setCell ⟨wr.heap.size, 1, none⟩ (.int .i64 (min x.2 y.2))).cell? ⟨wr.heap.size, 0, none⟩ = some (.int .i64 (max x.1 y.1))) := hid (by rw [World.cell?_setCell_other _ _ _ _ (by simp), World.cell?_setCell_same _ _ _ q0])
          have K1 : Hid (((w5.setCell ⟨wr.heap.size, 0, none⟩ (.int .i64 (max x.1 y.1))).setCell ⟨wr.heap.size, 1, none⟩ (.int .i64 (min x.2 y.2))).cell? ⟨wr.heap.size, 1, none⟩ = some (.int .i64 (min x.2 y.2))) := hid (World.cell?_setCell_same _ _ _ (by rw [World.cell?_setCell_other _ _ _ _ (by simp)]; exact q1))
          clear H5 B5 b5 q0 q1 q2 q3
          generalize (w5.setCell ⟨wr.heap.size, 0, none⟩ (.int .i64 (max x.1 y.1))).setCell ⟨wr.heap.size, 1, none⟩ (.int .i64 (min x.2 y.2)) = W at *
          obtain ⟨K, hK⟩ : ∃ K, K = wr.heap.size := ⟨_, rfl⟩
          rw [← hK] at K0 K1 ⊢
          clear hK
          obtain ⟨s1, hs1⟩ : ∃ s1, s1 = max x.1 y.1 := ⟨_, rfl⟩
          obtain ⟨s2, hs2⟩ : ∃ s2, s2 = min x.2 y.2 := ⟨_, rfl⟩
          rw [← hs1] at K0 ⊢
          rw [← hs2] at K1 ⊢
          have HS1 := hid hs1
          have HS2 := hid hs2
          have OW := hid (HO.out.below BW.out)
          have B2W := hid (BE.out.trans (BW.out.mono hsz))
          have hszW := B2W.out.size
          have k0 := K0.out
          have k1 := K1.out
          clear hs1 hs2 K0 K1 HO BE DX
          by_cases hd : s1 < s2
          · have HMS : Hid (meetS met x y = met ++ [(s1, s2)]) := hid (by unfold meetS; rw [← HS1.out, ← HS2.out, if_pos hd])
            have hdd : decide (s2 ≤ s1) = false := decide_eq_false (by omega)
            clear hd
            go_wp2_with fail
            refine (empty_any (s1, s2) W).mono ?_
            rintro e w6 ⟨rfl, hw6⟩
            have b6 : Below W.heap.size W w6 := by rw [hw6]; exact (Below.refl _ _).alloc (Nat.le_refl _) _
            simp only [hdd]
            have k0' := cell_later b6 k0
            have k1' := cell_later b6 k1
            have O6 := hid (OW.out.below (b6.trans (((Below.refl W.heap.size w6).alloc b6.size (.cells #[.int .i64 s1, .int .i64 s2] 29)))))
            have B6 := hid (B2W.out.trans (b6.mono hszW))
            have h6 : w2.heap.size ≤ (w6.alloc (.cells #[.int .i64 s1, .int .i64 s2] 29)).heap.size := Nat.le_trans hszW (Nat.le_trans b6.size (by simp))
            have PX := hid (sps_one (W := w6.alloc (.cells #[.int .i64 s1, .int .i64 s2] 29)) (heap_alloc_new w6 _))
            have hml : met.length ≤ 2000000 := by omega
            clear hw6 b6 k0 k1 hdd OW
            go_wp2_with (at_builtin; refine wpl_appendS rfl (.tmp 29) (.tmp 31) rfl w2.heap.size (.slice ma met.length mc) met rfl O6.out _ [(s1, s2)] rfl PX.out (by simp only [List.length_singleton]; omega) h6 ?_; intro va7 vc7 w7 ho7 hg7; have O7 := hid ho7; have B7 := hid (((B6.out.alloc B6.out.size _)).trans (belowS_grown O6.out hg7 h6)); clear ho7 hg7)
            obtain ⟨⟨r0, r1⟩, r2, r3⟩ := SW.out _ B7.out
            by_cases hlt : x.2 < y.2
            · have HL := hid (HM.out.left hlt)
              rw [HMS.out] at HL
              go_quiet (fail)
              go_wp2_with fail
              go_roundw
              case rel => exact ⟨p, y :: q, _, tx, some ⟨yb, yo, none⟩, va7, txc, yc, vc7, rfl, rfl, by simp, HL.out, HTX'.out, HY.out, by simpa using O7.out.below (belowN w7 _), below_drewN B7.out _⟩
              case measure => simp
            · have HL := hid (HM.out.right hlt)
              rw [HMS.out] at HL
              go_quiet (fail)
              go_wp2_with fail
              go_roundw
              case rel => exact ⟨x :: p, q, _, some ⟨xb, xo, none⟩, ty, va7, xc, tyc, vc7, rfl, rfl, by simp, HL.out, HX.out, HTY'.out, by simpa using O7.out.below (belowN w7 _), below_drewN B7.out _⟩
              case measure => simp
          · have HMS : Hid (meetS met x y = met) := hid (by unfold meetS; rw [← HS1.out, ← HS2.out, if_neg hd])
            have hdd : decide (s2 ≤ s1) = true := decide_eq_true (by omega)
            clear hd
            go_wp2_with fail
            refine (empty_any (s1, s2) W).mono ?_
            rintro e w7 ⟨rfl, hw7⟩
            have b7 : Below W.heap.size W w7 := by rw [hw7]; exact (Below.refl _ _).alloc (Nat.le_refl _) _
            simp only [hdd]
            have O7 := hid (OW.out.below b7)
            have B7 := hid (B2W.out.trans (b7.mono hszW))
            clear hw7 b7 k0 k1 hdd OW
            go_wp2_with fail
            obtain ⟨⟨r0, r1⟩, r2, r3⟩ := SW.out _ B7.out
            by_cases hlt : x.2 < y.2
            · have HL := hid (HM.out.left hlt)
              rw [HMS.out] at HL
              go_quiet (fail)
              go_wp2_with fail
              go_roundw
              case rel => exact ⟨p, y :: q, _, tx, some ⟨yb, yo, none⟩, ma, txc, yc, mc, rfl, rfl, rfl, HL.out, HTX'.out, HY.out, O7.out.below (belowN w7 _), below_drewN B7.out _⟩
              case measure => simp
            · have HL := hid (HM.out.right hlt)
              rw [HMS.out] at HL
              go_quiet (fail)
              go_wp2_with fail
              go_roundw
              case rel => exact ⟨x :: p, q, _, some ⟨xb, xo, none⟩, ty, ma, xc, tyc, mc, rfl, rfl, rfl, HL.out, HX.out, HTY'.out, O7.out.below (belowN w7 _), below_drewN B7.out _⟩
              case measure => simp
end Go.Proofs.Ytkbcinjpnihnaab
