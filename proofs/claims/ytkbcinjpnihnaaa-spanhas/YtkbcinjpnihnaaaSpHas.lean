/- What slices.ContainsFunc, Has and Touch answer; the law SpanHas, walked. Conditions: the rows lie in memory. -/
import Derived.Test.YtkbcinjpnihnaaaSpNorms
import Derived.Test.YtkbcinjpnihnaaaSpOpen
namespace Go.Proofs.Ytkbcinjpnihnaaa
open Go.RowKit Go.Shelf

set_option maxHeartbeats 1600000 in
theorem indexF_any (F : FuncId) (caps : Array Value) (p : Sp → Bool) (v : Value) (l : List Sp) (w : World) (hef : Ent F) (hv : Sps w v l) (hl : l.length ≤ 1000000000)
    (hf : ∀ x ∈ l, ∀ wr, Below w.heap.size w wr → Calls Try.prog F (#[.agg #[.int .i64 x.1, .int .i64 x.2]] ++ caps) wr fun e w' => e = .returned (.bool (p x)) ∧ Below wr.heap.size wr w') :
    Calls Try.prog 45 #[v, .func (.func F) #[] caps] w fun e w' => ∃ r : Int, e = .returned (.int .i64 r) ∧ decide (0 ≤ r) = l.any p ∧ Below w.heap.size w w' := by
  have HV := hid hv
  have HF := hid hf
  have hef' : ∀ (args : Array Value) (w : World), (callFunc F args).run Try.prog w = .ok (.enter F args) w := hef
  obtain ⟨ao, cap, rfl⟩ := hv.shape
  clear hv hf hef
  have hlI : (l.length : Int) ≤ 1000000000 := by omega
  go_enter Try.func45, Try.ntmps45
  go_wp2_with fail
  go_loopw [8] (fun iv wr => ∃ k : Nat, iv = .int .i64 k ∧ k ≤ l.length ∧ (l.take k).any p = false ∧ Below w.heap.size w wr) (fun iv _ => l.length - (intOf iv).toNat)
  case atStart => exact ⟨0, rfl, Nat.zero_le _, by simp, Below.refl _ _⟩
  case round =>
    obtain ⟨k, rfl, hk, hall, hbr⟩ := hrel
    have HALL := hid hall
    have HBR := hid hbr
    have HVR := hid (HV.out.below hbr)
    clear hall hbr
    by_cases hlt : k < l.length
    · obtain ⟨b, o, rfl⟩ := HVR.out.addr (by omega)
      obtain ⟨hc0, hc1⟩ := HVR.out.lit k hlt
      have HC := hid (HF.out l[k] (List.getElem_mem hlt) wr HBR.out)
      have HNX : Hid ((l.take (k + 1)).any p = p l[k]) := hid (by rw [List.take_succ_eq_append_getElem hlt, List.any_append, HALL.out]; simp)
      have HAN : Hid (p l[k] = true → l.any p = true) := hid fun h => List.any_eq_true.2 ⟨l[k], List.getElem_mem hlt, h⟩
      obtain ⟨x, hx⟩ : ∃ x, x = l[k] := ⟨_, rfl⟩
      rw [← hx] at hc0 hc1 HC HNX HAN
      clear hx
      obtain ⟨s, t⟩ := x
      go_wp2_with fail
      refine HC.out.mono ?_
      rintro e w2 ⟨rfl, hb2⟩
      have B2 := hid (HBR.out.trans (hb2.mono HBR.out.size))
      clear hb2
      cases hp : p (s, t) with
      | true =>
        have HA := hid (HAN.out hp)
        clear hp
        go_wp2_with fail
        go_ret
        exact ⟨(k : Int), rfl, by rw [HA.out]; simp, B2.out⟩
      | false =>
        have HN : Hid ((l.take (k + 1)).any p = false) := hid (by rw [HNX.out]; exact hp)
        clear hp
        go_wp2_with fail
        go_roundw
        case rel => exact ⟨k + 1, by go_num, by omega, HN.out, B2.out⟩
        case measure => simp [intOf]; omega
    · obtain rfl : k = l.length := by omega
      rw [List.take_length] at HALL
      go_wp2
      go_ret
      exact ⟨-1, rfl, by rw [HALL.out]; decide, HBR.out⟩
set_option maxHeartbeats 800000 in
theorem containsF_any (F : FuncId) (caps : Array Value) (p : Sp → Bool) (v : Value) (l : List Sp) (w : World) (hef : Ent F) (hv : Sps w v l) (hl : l.length ≤ 1000000000)
    (hf : ∀ x ∈ l, ∀ wr, Below w.heap.size w wr → Calls Try.prog F (#[.agg #[.int .i64 x.1, .int .i64 x.2]] ++ caps) wr fun e w' => e = .returned (.bool (p x)) ∧ Below wr.heap.size wr w') :
    Calls Try.prog 33 #[v, .func (.func F) #[] caps] w fun e w' => e = .returned (.bool (l.any p)) ∧ Below w.heap.size w w' := by
  have HI := hid (indexF_any F caps p v l w hef hv hl hf)
  obtain ⟨ao, cap, rfl⟩ := hv.shape
  clear hv hf hef
  go_enter Try.func33, Try.ntmps33
  go_wp2_with fail
  refine HI.out.mono ?_
  rintro e w2 ⟨r, rfl, hr, hb⟩
  have HR := hid hr
  have HB := hid hb
  clear hr hb
  go_wp2_with fail
  go_ret
  exact ⟨by rw [← HR.out]; rfl, HB.out⟩
set_option maxHeartbeats 800000 in
theorem has1_any (g : Nat) (x : Sp) (k : Int) (w : World) (hg : w.cell? ⟨g, 0, none⟩ = some (.int .i64 k)) :
    Calls Try.prog 34 #[.agg #[.int .i64 x.1, .int .i64 x.2], .pointer (some ⟨g, 0, none⟩)] w fun e w' => e = .returned (.bool (decide (x.1 ≤ k) && decide (k < x.2))) ∧ Below w.heap.size w w' := by
  obtain ⟨s, t⟩ := x
  have hg' := cell_later ((Below.refl w.heap.size w).alloc (Nat.le_refl _) (.cells #[.int .i64 s, .int .i64 t] 30)) hg
  have HB := hid ((Below.refl w.heap.size w).alloc (Nat.le_refl _) (.cells #[.int .i64 s, .int .i64 t] 30))
  clear hg
  simp only
  by_cases h : s ≤ k
  · have hd : decide (s ≤ k) = true := decide_eq_true h
    rw [hd]
    go_enter Try.func34, Try.ntmps34
    go_wp2_with fail
    go_ret
    exact ⟨by simp, HB.out⟩
  · have hd : decide (s ≤ k) = false := decide_eq_false h
    rw [hd]
    go_enter Try.func34, Try.ntmps34
    go_wp2_with fail
    go_ret
    exact ⟨by simp, HB.out⟩
theorem ent_has1 : Ent 34 := fun args w => by simp [go_sem]
set_option maxHeartbeats 800000 in
theorem has_any (v : Value) (l : List Sp) (k : Int) (w : World) (hv : Sps w v l) (hl : l.length ≤ 1000000000) :
    Calls Try.prog 19 #[v, .int .i64 k] w fun e w' => e = .returned (.bool (hasB l k)) ∧ Below w.heap.size w w' := by
  have hmf : ∀ (fn : Fn) (first cap : Array Value) (w : World), (Instr.makeFunc fn first cap).run Try.prog w = .ok (.func fn first cap) w := fun _ _ _ _ => rfl
  have hb : Below w.heap.size w (w.alloc (.cells #[.int .i64 k] 3)) := (Below.refl _ _).alloc (Nat.le_refl _) _
  have hc : (w.alloc (.cells #[.int .i64 k] 3)).cell? ⟨w.heap.size, 0, none⟩ = some (.int .i64 k) := new_cellN w k
  have HC := hid (containsF_any 34 #[.pointer (some ⟨w.heap.size, 0, none⟩)] (fun x => decide (x.1 ≤ k) && decide (k < x.2)) v l _ ent_has1 (hv.below hb) hl fun x _ wr hwr => has1_any w.heap.size x k wr (cell_later hwr hc))
  obtain ⟨ao, cap, rfl⟩ := hv.shape
  have HB := hid hb
  clear hv hb hc
  go_enter Try.func19, Try.ntmps19
  go_wp2_with fail
  refine HC.out.mono ?_
  rintro e w2 ⟨rfl, hb2⟩
  have B2 := hid (HB.out.trans (hb2.mono HB.out.size))
  clear hb2
  obtain ⟨r, hr⟩ : ∃ r, r = hasB l k := ⟨_, rfl⟩
  have HR := hid hr
  rw [show (l.any fun x => decide (x.1 ≤ k) && decide (k < x.2)) = r from hr.symm]
  clear hr
  go_wp2_with fail
  go_ret
  exact ⟨by rw [← HR.out]; rfl, B2.out⟩
set_option maxHeartbeats 800000 in
theorem touch_any (x y : Sp) (w : World) :
    Calls Try.prog 21 #[.agg #[.int .i64 x.1, .int .i64 x.2], .agg #[.int .i64 y.1, .int .i64 y.2]] w fun e w' => e = .returned (.bool (decide (max x.1 y.1 < min x.2 y.2))) ∧ Below w.heap.size w w' := by
  obtain ⟨a, b⟩ := x
  obtain ⟨c, d⟩ := y
  have HB := hid (((Below.refl w.heap.size w).alloc (Nat.le_refl _) (.cells #[.int .i64 a, .int .i64 b] 30)).alloc (by simp) (.cells #[.int .i64 c, .int .i64 d] 30))
  go_enter Try.func21, Try.ntmps21
  go_wp2_with fail
  refine (common_any (a, b) (c, d) _).mono ?_
  rintro e w2 ⟨rfl, hb2⟩
  have B2 := hid (HB.out.trans (hb2.mono HB.out.size))
  clear hb2
  go_wp2_with fail
  refine (empty_any (max a c, min b d) _).mono ?_
  rintro e w3 ⟨rfl, rfl⟩
  go_wp2_with fail
  go_ret
  refine ⟨?_, B2.out.alloc B2.out.size _⟩
  simp only
  by_cases h : max a c < min b d
  · rw [decide_eq_true h, decide_eq_false (by omega)]; rfl
  · rw [decide_eq_false h, decide_eq_true (by omega)]; rfl
theorem of1_touch (x y : Sp) : decide (0 < (ofL [x] [y] (keepF 1 [x] [y])).length) = decide (max x.1 y.1 < min x.2 y.2) := by
  have h := of1_plain [x] [y]
  apply Bool.eq_iff_iff.2
  rw [decide_eq_true_iff, decide_eq_true_iff]
  constructor
  · intro hl
    have hl' : 0 < (ofL [x] [y] (keepF 1 [x] [y])).length := hl
    have hz := h.1.1 _ (List.getElem_mem hl')
    have := (h.2 ((ofL [x] [y] (keepF 1 [x] [y]))[0].1)).1 ⟨_, List.getElem_mem hl', Int.le_refl _, hz⟩
    rw [InL_one, InL_one] at this
    omega
  · intro hl
    have := (h.2 (max x.1 y.1)).2 ⟨(InL_one x _).2 (by omega), (InL_one y _).2 (by omega)⟩
    obtain ⟨z, hz, -⟩ := this
    have : 0 < (ofL [x] [y] (keepF 1 [x] [y])).length := List.length_pos_of_mem hz
    omega
set_option maxRecDepth 100000 in
set_option maxHeartbeats 3200000 in
theorem hass_any (v : Value) (l : List Sp) (k : Int) (x y : Sp) (w : World) (hv : Sps w v l) :
    Calls Try.prog 7 #[v, .int .i64 k, .agg #[.int .i64 x.1, .int .i64 x.2, .int .i64 y.1, .int .i64 y.2]] w fun e w' => e = .returned (.bool true) ∧ Below w.heap.size w w' := by
  obtain ⟨a, b⟩ := x
  obtain ⟨c, d⟩ := y
  have bA : Below w.heap.size w (w.alloc (.cells #[.int .i64 a, .int .i64 b, .int .i64 c, .int .i64 d] 31)) := (Below.refl _ _).alloc (Nat.le_refl _) _
  have HV := hid (hv.below bA)
  have BA := hid bA
  obtain ⟨a0, c0, rfl⟩ := hv.shape
  have hn := heap_alloc_new w (.cells #[.int .i64 a, .int .i64 b, .int .i64 c, .int .i64 d] 31)
  have HN := hid hn
  clear hv bA hn
  go_enter Try.func7, Try.ntmps7
  go_wp2_with fail
  obtain ⟨w1, hw1⟩ : ∃ w1, w1 = w.alloc (.cells #[.int .i64 a, .int .i64 b, .int .i64 c, .int .i64 d] 31) := ⟨_, rfl⟩
  obtain ⟨g, hg⟩ : ∃ g, g = w.heap.size := ⟨_, rfl⟩
  rw [← hw1] at BA HV HN ⊢
  rw [← hg] at HN ⊢
  have S1 : Hid (∀ X, Below w1.heap.size w1 X → Sps X (.slice (some ⟨g, 0, none⟩) 1 2) [(a, b)] ∧ Sps X (.slice (some ⟨g, 2, none⟩) 1 1) [(c, d)]) := hid (by
    intro X hX
    have hk : X.heap[g]? = _ := (hX.block g (lt_of_block HN.out)).trans HN.out
    constructor
    · refine ⟨_, _, _, rfl, rfl, by simp, by simp, (fun h => by cases h), ?_⟩
      intro ad had j hj
      obtain rfl := Option.some.inj had
      obtain rfl : j = 0 := by simpa using hj
      exact ⟨by rw [Addr.add_lit, cell_of_row X g _ _ _ _ hk]; rfl, by rw [Addr.add_lit, cell_of_row X g _ _ _ _ hk]; rfl⟩
    · refine ⟨_, _, _, rfl, rfl, by simp, by simp, (fun h => by cases h), ?_⟩
      intro ad had j hj
      obtain rfl := Option.some.inj had
      obtain rfl : j = 0 := by simpa using hj
      exact ⟨by rw [Addr.add_lit, cell_of_row X g _ _ _ _ hk]; rfl, by rw [Addr.add_lit, cell_of_row X g _ _ _ _ hk]; rfl⟩)
  have C1 : Hid (∀ X, Below w1.heap.size w1 X → X.cell? ⟨g, 0, none⟩ = some (.int .i64 a) ∧ X.cell? ⟨g, 1, none⟩ = some (.int .i64 b) ∧ X.cell? ⟨g, 2, none⟩ = some (.int .i64 c) ∧ X.cell? ⟨g, 3, none⟩ = some (.int .i64 d)) := hid (by
    intro X hX
    have hk : X.heap[g]? = _ := (hX.block g (lt_of_block HN.out)).trans HN.out
    refine ⟨?_, ?_, ?_, ?_⟩ <;> (rw [cell_of_row X g _ _ _ _ hk]; rfl))
  clear hw1 hg HN
  refine (cut_any _ l _ HV.out).mono ?_
  rintro e w0 ⟨va, vc, rfl, hs, rfl⟩
  have hml : (l.take 60).length ≤ 60 := by simp; omega
  generalize l.take 60 = m at hs hml ⊢
  have HS := hid hs
  clear hs HV
  go_wp2_with fail
  go_region_held3 (fun _ => True) (trivial) (first | (go_at_call 13; refine (rof_1 _ _ [(a, b)] [(c, d)] _ (S1.out _ ((Below.refl _ _).drew)).1 (S1.out _ ((Below.refl _ _).drew)).2 (by simp) (by simp)).mono ?_; rintro e w2 ⟨va2, vc2, rfl, ho2, hb2⟩; have B2 : Hid (Below w0.heap.size w0 w2) := hid (((Below.refl _ _).drew).trans hb2); have HQ := hid (of1_touch (a, b) (c, d)); clear ho2 hb2; generalize ofL [(a, b)] [(c, d)] (keepF 1 [(a, b)] [(c, d)]) = r at HQ ⊢))
  rw [HQ.out]
  obtain ⟨t, ht⟩ : ∃ t, t = decide (max a c < min b d) := ⟨_, rfl⟩
  have HT := hid ht
  rw [show (decide (max (a, b).1 (c, d).1 < min (a, b).2 (c, d).2)) = t from ht.symm]
  have HT2 : Hid (t = decide (max c a < min d b)) := hid (by rw [ht, Int.max_comm, Int.min_comm])
  have S2 := hid (HS.out.below B2.out)
  have BB2 := hid (BA.out.trans (B2.out.mono BA.out.size))
  have C2 := hid (C1.out _ B2.out)
  clear ht HQ HS S1
  go_wp2_with fail
  refine (has_any _ m k _ S2.out (by omega)).mono ?_
  rintro e w3 ⟨rfl, hb3⟩
  have B3 := hid (B2.out.trans (hb3.mono B2.out.size))
  have S3 := hid (S2.out.below hb3)
  clear hb3 B2 S2 C2
  go_wp2_with fail
  refine (rhas_any _ m k _ S3.out (by omega)).mono ?_
  rintro e w4 ⟨rfl, hb4⟩
  have B4 := hid (B3.out.trans (hb4.mono B3.out.size))
  obtain ⟨d0, d1, d2, d3⟩ := C1.out _ B4.out
  generalize hasB m k = q
  clear hb4 B3 S3
  have hqq : (q == q) = true := by simp
  go_wp2_with fail
  refine (touch_any (a, b) (c, d) _).mono ?_
  rintro e w5 ⟨rfl, hb5⟩
  rw [show (decide (max (a, b).1 (c, d).1 < min (a, b).2 (c, d).2)) = t from HT.out.symm]
  have B5 := hid (B4.out.trans (hb5.mono B4.out.size))
  obtain ⟨e0, e1, e2, e3⟩ := C1.out _ B5.out
  clear hb5 B4 d0 d1 d2 d3 hqq
  have htt : (t == t) = true := by simp
  go_wp2_with fail
  refine (touch_any (c, d) (a, b) _).mono ?_
  rintro e w6 ⟨rfl, hb6⟩
  rw [show (decide (max (c, d).1 (a, b).1 < min (c, d).2 (a, b).2)) = t from HT2.out.symm]
  have B6 := hid (BA.out.trans ((B5.out.trans (hb6.mono B5.out.size)).mono BA.out.size))
  clear hb6 B5 e0 e1 e2 e3 C1
  go_wp2_with fail
  refine (lives_any _).mono ?_
  rintro e w7 ⟨rfl, hb7⟩
  have B7 := hid (B6.out.trans (hb7.mono B6.out.size))
  clear hb7 B6
  go_wp2_with fail
  go_ret
  exact ⟨rfl, B7.out⟩
end Go.Proofs.Ytkbcinjpnihnaaa
