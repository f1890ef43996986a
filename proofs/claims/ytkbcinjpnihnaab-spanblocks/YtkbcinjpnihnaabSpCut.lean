/- What others and Cut answer: the blocks of one row that another hasn't. Conditions: the rows lie in memory, have at most a million spans each, and their numbers are ints. -/
import Derived.Test.YtkbcinjpnihnaabSpMeet
import Derived.Test.YtkbcinjpnihnaabSpOpen
namespace Go.Proofs.Ytkbcinjpnihnaab
open Go.RowKit Go.Shelf

def gapStep (st : List Sp × Int) (x : Sp) : List Sp × Int := (st.1 ++ [(st.2, x.1)], x.2)
def gapsL (f : Int) : List Sp → List Sp
  | [] => [(f, 9223372036854775807)]
  | x :: l => (f, x.1) :: gapsL x.2 l
theorem gaps_fold (l acc : List Sp) (f : Int) : (l.foldl gapStep (acc, f)).1 ++ [((l.foldl gapStep (acc, f)).2, 9223372036854775807)] = acc ++ gapsL f l := by
  induction l generalizing acc f with
  | nil => rfl
  | cons x l ih =>
    show (l.foldl gapStep (acc ++ [(f, x.1)], x.2)).1 ++ _ = _
    rw [List.foldl_cons]
    show (l.foldl gapStep (acc ++ [(f, x.1)], x.2)).1 ++ [((l.foldl gapStep (acc ++ [(f, x.1)], x.2)).2, _)] = _
    rw [ih]
    simp [gapsL]
theorem gap_len (l : List Sp) (f : Int) : (l.foldl gapStep ([], f)).1.length = l.length := by
  have : ∀ (l acc : List Sp) (f : Int), (l.foldl gapStep (acc, f)).1.length = acc.length + l.length := by
    intro l
    induction l with
    | nil => intro acc f; simp
    | cons x l ih => intro acc f; rw [List.foldl_cons]; show (l.foldl gapStep (acc ++ [(f, x.1)], x.2)).1.length = _; rw [ih]; simp; omega
  rw [this]; simp
theorem gapsL_in (l : List Sp) (f : Int) (hp : PlainL l) (hf : ∀ x ∈ l, f ≤ x.1) (hm : ∀ x ∈ l, x.2 ≤ 9223372036854775807) (k : Int) : InL (gapsL f l) k ↔ f ≤ k ∧ k < 9223372036854775807 ∧ ¬ InL l k := by
  induction l generalizing f with
  | nil => simp [gapsL, InL]
  | cons x l ih =>
    rw [gapsL, InL_cons, ih x.2 hp.tail (fun y hy => Int.le_of_lt ((List.pairwise_cons.1 hp.2).1 y hy)) (fun y hy => hm y (List.mem_cons_of_mem _ hy)), InL_cons]
    have h1 := hf x (by simp)
    have h2 := hp.1 x (by simp)
    have h3 := hm x (by simp)
    simp only
    constructor
    · rintro (⟨a, b⟩ | ⟨a, b, c⟩)
      · refine ⟨a, by omega, ?_⟩
        rintro (⟨d, _⟩ | d)
        · omega
        · have := hp.beyond d; omega
      · refine ⟨by omega, b, ?_⟩
        rintro (⟨_, d⟩ | d)
        · omega
        · exact c d
    · rintro ⟨a, b, c⟩
      by_cases hk : k < x.1
      · exact .inl ⟨a, hk⟩
      · refine .inr ⟨?_, b, fun d => c (.inr d)⟩
        rcases Int.lt_or_le k x.2 with h | h
        · exact absurd (.inl ⟨by omega, h⟩) c
        · exact h
/-- All numbers of a row's blocks are ints. -/
theorem plain_bounds {l r : List Sp} (h : NormOf l r) (hI : ∀ x ∈ l, SpI x) : ∀ x ∈ r, -9223372036854775808 ≤ x.1 ∧ x.2 ≤ 9223372036854775807 := by
  intro x hx
  have h1 := h.plain.1 x hx
  have a1 : InL l x.1 := (h.mem x.1).1 ⟨x, hx, by omega, h1⟩
  have a2 : InL l (x.2 - 1) := (h.mem (x.2 - 1)).1 ⟨x, hx, by omega, by omega⟩
  obtain ⟨y, hy, y1, y2⟩ := a1
  obtain ⟨z, hz, z1, z2⟩ := a2
  have := (hI y hy).1.1
  have := (hI z hz).2.2
  omega
set_option maxRecDepth 100000 in
set_option maxHeartbeats 3200000 in
theorem others_any (v : Value) (l : List Sp) (w : World) (hv : Sps w v l) (hl : l.length ≤ 1000000) (hI : ∀ x ∈ l, SpI x) :
    Calls Try.prog 32 #[v] w fun e w' => ∃ r va vc, (∀ k, InL r k ↔ -9223372036854775808 ≤ k ∧ k < 9223372036854775807 ∧ ¬ InL l k) ∧ r.length ≤ l.length + 1 ∧ e = .returned (.slice va r.length vc) ∧ OwnS w' w.heap.size (.slice va r.length vc) r ∧ Below w.heap.size w w' := by
  have HV := hid hv
  have HI := hid hI
  obtain ⟨a0, c0, rfl⟩ := hv.shape
  clear hv hI
  go_enter Try.func32, Try.ntmps32
  go_wp2_with fail
  refine (norm_any _ l _ HV.out (by omega)).mono ?_
  rintro e w1 ⟨N, va1, vc1, hn1, rfl, ho1, hb1⟩
  have N1 := hid hn1
  have S1 := hid ho1.sps
  have B1 := hid hb1
  have hNl : N.length ≤ 1000000 := Nat.le_trans hn1.len hl
  clear hn1 ho1 hb1 HV
  obtain ⟨F, hF⟩ : ∃ F : Nat → List Sp × Int, F = fun i => (N.take i).foldl gapStep ([], -9223372036854775808) := ⟨_, rfl⟩
  have HF0 : Hid (F 0 = ([], -9223372036854775808)) := hid (by rw [hF]; rfl)
  have HFN : Hid (∀ i, (h : i < N.length) → F (i + 1) = ((F i).1 ++ [((F i).2, N[i].1)], N[i].2)) := hid (by
    intro i h
    rw [hF]
    simp only
    rw [List.take_succ_eq_append_getElem h, List.foldl_append]
    rfl)
  have HFL : Hid (∀ i, i ≤ N.length → (F i).1.length = i) := hid (by intro i h; rw [hF]; simp only; rw [gap_len]; simp; omega)
  have HFE : Hid ((F N.length).1 ++ [((F N.length).2, 9223372036854775807)] = gapsL (-9223372036854775808) N) := hid (by rw [hF]; simp only; rw [List.take_length, gaps_fold]; simp)
  clear hF
  go_wp2_with fail
  go_loopw [3, 4, 6, 10] (fun gv fv _ iv wr => ∃ (i : Nat) (ga : Option Addr) (gc : Nat) (g : List Sp) (f : Int), iv = .int .i64 i ∧ gv = .slice ga g.length gc ∧ fv = .int .i64 f ∧ i ≤ N.length ∧ (g, f) = F i ∧ OwnS wr w1.heap.size (.slice ga g.length gc) g ∧ Below w1.heap.size w1 wr) (fun _ _ _ iv _ => N.length - (intOf iv).toNat)
  case atStart => exact ⟨0, none, 0, [], -9223372036854775808, rfl, rfl, rfl, Nat.zero_le _, HF0.out.symm, OwnS.nil _ _, Below.refl _ _⟩
  case round =>
    obtain ⟨i, ga, gc, g, f, rfl, rfl, rfl, hi, hg, ho, hb⟩ := hrel
    have HG := hid hg
    have HO := hid ho
    have BE := hid hb
    have hsz := hb.size
    have hgl : g.length = i := by have := HFL.out i hi; rw [← hg] at this; exact this
    have HGL := hid hgl
    clear hg ho hb hgl
    by_cases hlt : i < N.length
    · have hltI : (i : Int) < (N.length : Int) := by omega
      have HSW := hid (S1.out.below BE.out)
      obtain ⟨b, o, rfl⟩ := HSW.out.addr (by omega)
      obtain ⟨z0, z1⟩ := HSW.out.lit i hlt
      have HNX := hid (HFN.out i hlt)
      rw [← HG.out] at HNX
      obtain ⟨x, hx⟩ : ∃ x, x = N[i] := ⟨_, rfl⟩
      rw [← hx] at z0 z1 HNX
      clear hx
      obtain ⟨s, t⟩ := x
      have bX : Below wr.heap.size wr (wr.alloc (.cells #[.int .i64 s, .int .i64 t] 29)) := (Below.refl _ _).alloc (Nat.le_refl _) _
      have bY := bX.alloc bX.size (.cells #[.int .i64 f, .int .i64 s] 29)
      have OY := hid (HO.out.below bY)
      have BY := hid (BE.out.trans (bY.mono hsz))
      have hY : w1.heap.size ≤ ((wr.alloc (.cells #[.int .i64 s, .int .i64 t] 29)).alloc (.cells #[.int .i64 f, .int .i64 s] 29)).heap.size := Nat.le_trans hsz bY.size
      have PY := hid (sps_one (heap_alloc2_new wr (.cells #[.int .i64 s, .int .i64 t] 29) (.cells #[.int .i64 f, .int .i64 s] 29)))
      have CX : Hid ((wr.alloc (.cells #[.int .i64 s, .int .i64 t] 29)).cell? ⟨wr.heap.size, 1, none⟩ = some (.int .i64 t)) := hid (by rw [cell_of_row _ _ _ _ _ _ (heap_alloc_new _ _)]; rfl)
      have hgn : g.length ≤ 1000000 := by have := HGL.out; omega
      have NE : Hid (some wr.heap.size ≠ (Value.slice ga g.length gc).ownBlock) := hid fun e => by have := (World.ownsRow.lt HO.out _ e.symm).2; omega
      clear bX bY
      go_wp2_with (at_builtin; refine wpl_appendS rfl (.tmp 14) (.tmp 19) rfl w1.heap.size (.slice ga g.length gc) g rfl OY.out _ [(f, s)] rfl PY.out (by simp only [List.length_singleton]; omega) hY ?_; intro va7 vc7 w7 ho7 hg7; have O7 := hid ho7; have B7 := hid (BY.out.trans (belowS_grown OY.out hg7 hY)); have c7 : w7.cell? ⟨wr.heap.size, 1, none⟩ = some (.int .i64 t) := hg7.cell (cell_later ((Below.refl _ _).alloc (Nat.le_refl _) _) CX.out) NE.out; clear ho7 hg7)
      go_roundw
      case rel => exact ⟨i + 1, va7, vc7, g ++ [(f, s)], t, by go_num, by simp, rfl, by omega, HNX.out.symm, by simpa using O7.out, B7.out⟩
      case measure => simp [intOf]; omega
    · have hltI : ¬ (i : Int) < (N.length : Int) := by omega
      obtain rfl : i = N.length := by omega
      have bY : Below wr.heap.size wr (wr.alloc (.cells #[.int .i64 f, .int .i64 9223372036854775807] 29)) := (Below.refl _ _).alloc (Nat.le_refl _) _
      have OY := hid (HO.out.below bY)
      have BY := hid (BE.out.trans (bY.mono hsz))
      have hY : w1.heap.size ≤ (wr.alloc (.cells #[.int .i64 f, .int .i64 9223372036854775807] 29)).heap.size := Nat.le_trans hsz bY.size
      have PY := hid (sps_one (heap_alloc_new wr (.cells #[.int .i64 f, .int .i64 9223372036854775807] 29)))
      have hgn : g.length ≤ 1000000 := by have := HGL.out; omega
      have HEQ : Hid (g ++ [(f, 9223372036854775807)] = gapsL (-9223372036854775808) N) := hid (by have h := HFE.out; rw [← HG.out] at h; exact h)
      clear bY
      go_wp2_with (at_builtin; refine wpl_appendS rfl (.tmp 24) (.tmp 27) rfl w1.heap.size (.slice ga g.length gc) g rfl OY.out _ [(f, 9223372036854775807)] rfl PY.out (by simp only [List.length_singleton]; omega) hY ?_; intro va7 vc7 w7 ho7 hg7; have O7 := hid ho7; have B7 := hid (BY.out.trans (belowS_grown OY.out hg7 hY)); clear ho7 hg7)
      go_ret
      have hpb := plain_bounds N1.out HI.out
      refine ⟨g ++ [(f, 9223372036854775807)], fun k => ?_, ?_, va7, vc7, by simp, ?_, B1.out.trans (B7.out.mono B1.out.size)⟩
      · rw [HEQ.out, gapsL_in N _ N1.out.plain (fun x hx => (hpb x hx).1) (fun x hx => (hpb x hx).2), N1.out.mem k]
      · have := HGL.out; have := N1.out.len; simp; omega
      · have h := O7.out.lower B1.out.size; simpa using h
/-- r is the plain row of the blocks of the one that the other hasn't. -/
structure CutOf (a b r : List Sp) : Prop where
  plain : PlainL r
  mem : ∀ k, InL r k ↔ (InL a k ∧ ¬ InL b k)
  len : r.length ≤ a.length + b.length + 1
theorem cutOf {a b o r : List Sp} (hI : ∀ x ∈ a, SpI x) (ho : ∀ k, InL o k ↔ -9223372036854775808 ≤ k ∧ k < 9223372036854775807 ∧ ¬ InL b k) (hl : o.length ≤ b.length + 1) (h : MeetOf a o r) : CutOf a b r := by
  refine ⟨h.plain, fun k => ?_, by have := h.len; omega⟩
  rw [h.mem k, ho k]
  constructor
  · rintro ⟨x, _, _, y⟩; exact ⟨x, y⟩
  · rintro ⟨x, y⟩
    refine ⟨x, ?_, ?_, y⟩
    · obtain ⟨z, hz, z1, z2⟩ := x; have := (hI z hz).1.1; omega
    · obtain ⟨z, hz, z1, z2⟩ := x; have := (hI z hz).2.2; omega
set_option maxHeartbeats 800000 in
theorem cutS_any (u v : Value) (a b : List Sp) (w : World) (hu : Sps w u a) (hv : Sps w v b) (ha : a.length ≤ 500000) (hb : b.length ≤ 500000) (hIa : ∀ x ∈ a, SpI x) (hIb : ∀ x ∈ b, SpI x) :
    Calls Try.prog 12 #[u, v] w fun e w' => ∃ r va vc, CutOf a b r ∧ e = .returned (.slice va r.length vc) ∧ OwnS w' w.heap.size (.slice va r.length vc) r ∧ Below w.heap.size w w' := by
  have HU := hid hu
  have HV := hid hv
  have HIA := hid hIa
  have HIB := hid hIb
  obtain ⟨a0, c0, rfl⟩ := hu.shape
  obtain ⟨a1, c1, rfl⟩ := hv.shape
  clear hu hv hIa hIb
  go_enter Try.func12, Try.ntmps12
  go_wp2_with fail
  refine (others_any _ b _ HV.out (by omega) HIB.out).mono ?_
  rintro e w1 ⟨o, va1, vc1, hm1, hl1, rfl, ho1, hb1⟩
  have M1 := hid hm1
  have S1 := hid ho1.sps
  have B1 := hid hb1
  have U1 := hid (HU.out.below hb1)
  clear hm1 ho1 hb1
  go_wp2_with fail
  refine (meet_any _ _ a o _ U1.out S1.out (by omega) (by omega)).mono ?_
  rintro e w2 ⟨r, va2, vc2, hm2, rfl, ho2, hb2⟩
  have C2 := hid (cutOf HIA.out M1.out hl1 hm2)
  have O2 := hid (ho2.lower B1.out.size)
  have B2 := hid (B1.out.trans (hb2.mono B1.out.size))
  clear hm2 ho2 hb2
  go_wp2_with fail
  go_ret
  exact ⟨r, va2, vc2, C2.out, rfl, O2.out, B2.out⟩
end Go.Proofs.Ytkbcinjpnihnaab
