/- copyShard: the same shard in rows of its own. Conditions: it lies in memory. -/
import Derived.Test.YtnkjkaofgninnaaAtShard
import Derived.Deep.MidRow
import Derived.Deep.RegionHeld3
import Derived.Deep.DeepCutAuto
import Derived.Deep.CutBlock
import Derived.Deep.CutRange
namespace Go.Proofs.Ytnkjkaofgninnaa
open Go.RowKit
set_option linter.unusedVariables false
set_option linter.unusedSimpArgs false

theorem own_ne {w : World} {B : Nat} {E T : TypeId} {sz n : Nat} {v : Value} {xs cs : _} {q : Nat} {fr : Nat × Nat} (h : w.ownsRow B E sz v n xs) (hq : w.heap[q]? = some (.cells cs T fr)) (ht : T ≠ E) : v.ownBlock ≠ some q := fun e => by
  obtain ⟨cur, hc⟩ := own_typed h e
  rw [hq] at hc; cases hc; exact ht rfl
theorem own_set {w : World} {B : Nat} {E T : TypeId} {sz n : Nat} {v u : Value} {xs : List Value} {cs : Array Value} {X i : Nat} {fr : Nat × Nat} (h : w.ownsRow B E sz v n xs) (hX : w.heap[X]? = some (.cells cs T fr)) (ht : T ≠ E) : (w.setCell ⟨X, i, none⟩ u).ownsRow B E sz v n xs :=
  own_kept h fun q cs' hq _ => Below.heap_setCell w ⟨X, i, none⟩ u q fun e => by
    obtain rfl : q = X := e
    exact own_ne h hX ht hq
theorem own_put {w : World} {B : Nat} {E : TypeId} {sz n g cap i : Nat} {u : Value} {xs : List Value} (h : w.ownsRow B E sz (.slice (some ⟨g, 0, none⟩) n cap) n xs) (hi : i < n * sz) : (w.setCell ⟨g, i, none⟩ u).ownsRow B E sz (.slice (some ⟨g, 0, none⟩) n cap) n (xs.set i u) := by
  obtain ⟨h1, h2⟩ := h
  refine ⟨by rw [List.length_set]; exact h1, ?_⟩
  rcases h2 with ⟨e, _⟩ | ⟨g', cap', cur, e, hg, hh, hc, hm, hs, ht⟩
  · cases e
  · cases e
    refine .inr ⟨g, cap, cur.setIfInBounds i u, rfl, hg, heap_setCell_same _ _ _ _ _ _ hh, hc, hm, by simpa using hs, ?_⟩
    rw [← ht]
    simp [List.take_set]
theorem below_set {B : Nat} {a w : World} (h : Below B a w) {C i : Nat} {v : Value} (hC : B ≤ C) : Below B a (w.setCell ⟨C, i, none⟩ v) :=
  ⟨h.os, h.tape, h.output, by simpa using h.size, fun k hk => (Below.heap_setCell _ _ _ _ (show k ≠ C by omega)).trans (h.block k hk)⟩
theorem below_row {B : Nat} {a w : World} (h : Below B a w) {g : Nat} (hg : B ≤ g) (cs : Array Value) : Below B a (w.setRow g cs) :=
  ⟨h.os, h.tape, h.output, by simpa using h.size, fun k hk => (setRow_other _ _ _ _ (by omega)).trans (h.block k hk)⟩
/-- What lies in a row, as a range. -/
theorem own_range {w : World} {B : Nat} {E : TypeId} {sz n g o cap : Nat} {xs : List Value} (h : w.ownsRow B E sz (.slice (some ⟨g, o, none⟩) n cap) n xs) (f : Nat) (cs : List Value) (hc : ∀ j v, cs[j]? = some v → xs[f + j]? = some v) : w.rangeAt g f cs :=
  fun j v hv => own_cell h (hc j v hv)
theorem orvs_part (l : List OrX) (j : Nat) (h : j < l.length) : ∀ k v, (orC l[j])[k]? = some v → (orvs l)[j * 4 + k]? = some v := by
  intro k v hk
  obtain ⟨h0, h1, h2, h3⟩ := orvs_at l j h
  match k, hk with
  | 0, hk => rw [Nat.add_zero, h0]; exact hk
  | 1, hk => rw [h1]; exact hk
  | 2, hk => rw [h2]; exact hk
  | 3, hk => rw [h3]; exact hk
  | k + 4, hk => simp [orC] at hk
def z5 : Array Value := #[.int .i64 0, .int .i64 0, .int .i64 0, .slice none 0 0, .slice none 0 0]
/-- A copy under way. -/
structure CpI (w wr : World) (A R : Nat) (S : ShD) (mv pv : Value) : Prop where
  a : wr.heap[A]? = some (.cells (shC S mv pv) 46 (0, 0))
  r : wr.heap[R]? = some (.cells z5 46 (0, 0))
  bel : Below w.heap.size w wr
  pa : w.heap.size ≤ A
  pr : w.heap.size ≤ R
  ne : R ≠ A
theorem CpI.below {w wr w' : World} {A R : Nat} {S : ShD} {mv pv : Value} (h : CpI w wr A R S mv pv) (hb : Below wr.heap.size wr w') : CpI w w' A R S mv pv :=
  ⟨(hb.block A (lt_of_block h.a)).trans h.a, (hb.block R (lt_of_block h.r)).trans h.r, h.bel.trans (hb.mono h.bel.size), h.pa, h.pr, h.ne⟩
theorem CpI.setM {w wr : World} {A R : Nat} {S : ShD} {mv pv v : Value} (h : CpI w wr A R S mv pv) : CpI w (wr.setCell ⟨A, 3, none⟩ v) A R S v pv :=
  ⟨heap_setCell_same _ _ _ _ _ _ h.a, (Below.heap_setCell _ _ _ _ h.ne).trans h.r, below_set h.bel h.pa, h.pa, h.pr, h.ne⟩
theorem CpI.setP {w wr : World} {A R : Nat} {S : ShD} {mv pv v : Value} (h : CpI w wr A R S mv pv) : CpI w (wr.setCell ⟨A, 4, none⟩ v) A R S mv v :=
  ⟨heap_setCell_same _ _ _ _ _ _ h.a, (Below.heap_setCell _ _ _ _ h.ne).trans h.r, below_set h.bel h.pa, h.pa, h.pr, h.ne⟩
theorem CpI.cell {w wr : World} {A R : Nat} {S : ShD} {mv pv : Value} (h : CpI w wr A R S mv pv) (i : Nat) : wr.cell? ⟨A, i, none⟩ = (shC S mv pv)[i]? := by rw [cell_of_row _ _ _ _ _ _ h.a]
theorem CpI.fz {w wr : World} {A R : Nat} {S : ShD} {mv pv : Value} (h : CpI w wr A R S mv pv) (i : Nat) : wr.frozen? ⟨A, i, none⟩ = false := frozen_of_row _ _ _ _ _ h.a
theorem Try.rowOrD : ∃ d : TypeDesc, Try.prog.underlying 52 = some d ∧ d.isRow = true := by
  obtain ⟨d, hd1, hd2⟩ := Try.structOr
  exact ⟨d, hd1, by cases d <;> first | rfl | (simp at hd2)⟩
theorem wpl_loadO {ops : Array Oper} {rest : List Oper} {o : Oper} {a : Act} {w : World} {Q : Exit → Act → World → Prop} (hgd : o.guard = none) (x : Operand) (ho : o.op = .load 52 x)
    (b f : Nat) (hx : a.eval x = .pointer (some ⟨b, f, none⟩)) (c0 c1 c2 c3 : Value) (hg : w.rangeAt b f [c0, c1, c2, c3])
    (h : wpList Try.prog ops Q rest (a.put o.dst (.agg #[c0, c1, c2, c3])) w) : wpList Try.prog ops Q (o :: rest) a w := by
  obtain ⟨d, hd1, hd2⟩ := Try.rowOrD
  exact wpList_load_mid hgd _ x ho b f hx [c0, c1, c2, c3] d hg hd1 hd2 Try.sizeOr h
def zO : Array Value := #[.int .i64 0, .int .i64 0, .int .i64 0, .slice none 0 0]
/-- A new origin is stored into its own box. -/
theorem wpl_newO {ops : Array Oper} {rest : List Oper} {o : Oper} {a : Act} {w w3 : World} {Q : Exit → Act → World → Prop} (hgd : o.guard = none) (x y : Operand) (ho : o.op = .store 52 x y)
    (c0 c1 c2 c3 : Value) (hx : a.eval x = .pointer (some ⟨w3.heap.size, 0, none⟩)) (hy : a.eval y = .agg #[c0, c1, c2, c3]) (h0 : c0.oneCell' = true) (h1 : c1.oneCell' = true) (h2 : c2.oneCell' = true) (h3 : c3.oneCell' = true) (hw : w = w3.alloc (.cells zO 52))
    (h : ∀ w4, w4.heap[w3.heap.size]? = some (.cells #[c0, c1, c2, c3] 52 (0, 0)) → Below w3.heap.size w3 w4 → wpList Try.prog ops Q rest (a.put o.dst undef) w4) : wpList Try.prog ops Q (o :: rest) a w := by
  subst hw
  have hn : (w3.alloc (.cells zO 52)).heap[w3.heap.size]? = some (.cells zO 52 (0, 0)) := heap_alloc_new _ _
  exact wpl_storeO hgd x y ho w3.heap.size _ _ _ _ hx hy h0 h1 h2 h3 _ zO rfl hn (h _ (setRow_heap _ _ _ _ _ _ hn) (below_row ((Below.refl w3.heap.size w3).alloc (Nat.le_refl _) _) (Nat.le_refl _) _))
set_option maxRecDepth 100000 in
set_option maxHeartbeats 4000000 in
theorem copyShard_any (S : ShD) (mv pv : Value) (w : World) (h : ShM w S mv pv) (hm : S.mem.length ≤ 1000000) (hp : S.past.length ≤ 1000000) (hq : ∀ o ∈ S.past, o.mem.length ≤ 1000000) :
    Calls Try.prog 35 #[shV S mv pv] w fun e w' => ∃ mv' pv', e = .returned (shV S mv' pv') ∧ ShM w' S mv' pv' ∧ Below w.heap.size w w' := by
  obtain ⟨⟨mva, mvc, rfl⟩, ⟨pva, pvc, rfl⟩⟩ := h.shape
  obtain ⟨L, hL1, hL2, hL3⟩ := h.p
  have HLP := hid hL1
  have hLL : S.past.length = L.length := by rw [← hL1]; simp
  have HLL := hid hLL
  obtain ⟨w1, hw1⟩ : ∃ w1, w1 = (w.alloc (.cells (shC S (.slice mva S.mem.length mvc) (.slice pva S.past.length pvc)) 46)).alloc (.cells z5 46) := ⟨_, rfl⟩
  have B1 : Below w.heap.size w w1 := by rw [hw1]; exact ((Below.refl _ _).alloc (Nat.le_refl _) _).alloc (by simp) _
  have hA : w1.heap[w.heap.size]? = some (.cells (shC S (.slice mva S.mem.length mvc) (.slice pva S.past.length pvc)) 46 (0, 0)) := by
    rw [hw1, Below.heap_alloc _ _ _ (by simp)]; exact heap_alloc_new _ _
  have hR : w1.heap[w.heap.size + 1]? = some (.cells z5 46 (0, 0)) := by
    rw [hw1]; have := heap_alloc_new (w.alloc (.cells (shC S (.slice mva S.mem.length mvc) (.slice pva S.past.length pvc)) 46)) (.cells z5 46); simpa using this
  have I1 : Hid (CpI w w1 w.heap.size (w.heap.size + 1) S (.slice mva S.mem.length mvc) (.slice pva S.past.length pvc)) := hid ⟨hA, hR, B1, Nat.le_refl _, by omega, by omega⟩
  have M1 := hid (nums_own (own_below h.m B1) rfl)
  have P1 := hid (own_below hL2 B1)
  have E1 := hid (show Mems w1 L from fun x hx => own_below (hL3 x hx) B1)
  have HW1 := hid hw1
  have HQ := hid hq
  have HP9 := hid hp
  clear hw1 hA hR B1 hL1 hL2 hL3 h hq hp hLL
  unfold z5 shC at HW1
  unfold shV
  go_enter Try.func35, Try.ntmps35
  go_upto_region 1 with fail
  rw [← HW1.out]
  clear HW1
  obtain ⟨R, hRe⟩ : ∃ R, R = w.heap.size + 1 := ⟨_, rfl⟩
  obtain ⟨A, hAe⟩ : ∃ A, A = w.heap.size := ⟨_, rfl⟩
  rw [← hRe]
  rw [← hAe]
  replace I1 : Hid (CpI w w1 A R S (.slice mva S.mem.length mvc) (.slice pva S.past.length pvc)) := hid (by rw [hRe, hAe]; exact I1.out)
  clear hRe hAe
  have c3 : w1.cell? ⟨A, 3, none⟩ = some (.slice mva S.mem.length mvc) := I1.out.cell 3
  go_upto_region 2 with (go_at_call 21; refine (cloneN_any _ _ _ M1.out (by omega)).mono ?_; rintro e w2 ⟨va2, vc2, rfl, ho2, hb2⟩; have I2 := hid (I1.out.below hb2); have O2 := hid ho2; have P2 := hid (own_below P1.out hb2); have E2 := hid (show Mems w2 L from fun x hx => own_below (E1.out x hx) hb2); have B2 := hid hb2; have d3 : w2.cell? ⟨A, 3, none⟩ = some (.slice mva S.mem.length mvc) := I2.out.cell 3; have f3 := I2.out.fz 3; clear ho2 hb2)
  have I3 := hid (I2.out.setM (v := .slice va2 S.mem.length vc2))
  have O3 := hid (own_set (i := 3) (u := .slice va2 S.mem.length vc2) O2.out I2.out.a (by decide))
  have P3 := hid (own_set (i := 3) (u := .slice va2 S.mem.length vc2) P2.out I2.out.a (by decide))
  have E3 := hid (show Mems (w2.setCell ⟨A, 3, none⟩ (.slice va2 S.mem.length vc2)) L from fun x hx => own_set (E2.out x hx) I2.out.a (by decide))
  have hs3 : w1.heap.size ≤ (w2.setCell ⟨A, 3, none⟩ (.slice va2 S.mem.length vc2)).heap.size := by simpa using B2.out.size
  generalize w2.setCell ⟨A, 3, none⟩ (.slice va2 S.mem.length vc2) = w3 at *
  clear c3 d3 f3 I1 I2 O2 P1 P2 E1 E2 M1 B2
  have c4 : w3.cell? ⟨A, 4, none⟩ = some (.slice pva S.past.length pvc) := I3.out.cell 4
  have HPL : Hid (w3.ownsRow 0 52 4 (.slice pva S.past.length pvc) L.length (orvs L)) := P3
  go_upto_region 3 with (go_at_call 57; refine (cloneO_any _ L _ HPL.out E3.out (by have := HP9.out; rw [HLL.out] at this; omega)).mono ?_; rintro e w4 ⟨va4, vc4, rfl, ho4, hb4⟩; have I4 := hid (I3.out.below hb4); have O4 := hid (own_below O3.out hb4); have P4 := hid ho4; have E4 := hid (show Mems w4 L from fun x hx => own_below (E3.out x hx) hb4); have d4 : w4.cell? ⟨A, 4, none⟩ = some (.slice pva S.past.length pvc) := I4.out.cell 4; have f4 := I4.out.fz 4; clear ho4 hb4)
  have I5 := hid (I4.out.setP (v := .slice va4 L.length vc4))
  have O5 := hid (own_set (i := 4) (u := .slice va4 L.length vc4) O4.out I4.out.a (by decide))
  have P5 := hid (own_lower (own_set (i := 4) (u := .slice va4 L.length vc4) P4.out I4.out.a (by decide)) (show w.heap.size ≤ w3.heap.size from I3.out.bel.size))
  have E5 := hid (show Mems (w4.setCell ⟨A, 4, none⟩ (.slice va4 L.length vc4)) L from fun x hx => own_set (E4.out x hx) I4.out.a (by decide))
  generalize w4.setCell ⟨A, 4, none⟩ (.slice va4 L.length vc4) = w5 at *
  clear c4 d4 f4 I3 I4 O3 O4 P3 P4 E3 E4 HPL hs3
  have c5 : w5.cell? ⟨A, 4, none⟩ = some (.slice va4 L.length vc4) := I5.out.cell 4
  go_wp2_with fail
  clear c5
  have hLb : (L.length : Int) ≤ 1000000 := by have := HP9.out; rw [HLL.out] at this; omega
  go_loopw [3, 4, 16] (fun _ _ iv wr => ∃ (i : Nat) (J : List OrX), iv = .int .i64 i ∧ i ≤ L.length ∧ J.length = L.length ∧ J.map (·.o) = S.past ∧ CpI w wr A R S (.slice va2 S.mem.length vc2) (.slice va4 L.length vc4) ∧ wr.ownsRow w1.heap.size 3 1 (.slice va2 S.mem.length vc2) S.mem.length (nvs S.mem) ∧ wr.ownsRow w.heap.size 52 4 (.slice va4 L.length vc4) L.length (orvs J) ∧ Mems wr J) (fun _ _ iv _ => L.length - (intOf iv).toNat)
  case atStart => exact ⟨0, L, rfl, Nat.zero_le _, rfl, HLP.out, I5.out, O5.out, P5.out, E5.out⟩
  case round =>
    obtain ⟨i, J, rfl, hi, hKL, hK1, hI, hO, hP, hE⟩ := hrel
    have IR := hid hI
    have OR := hid hO
    have PR := hid hP
    have ER := hid hE
    have HKL := hid hKL
    have HK1 := hid hK1
    clear hI hO hP hE hKL hK1 I5 O5 P5 E5
    by_cases hlt : (i : Int) < (L.length : Int)
    · have hil : i < L.length := by omega
      have hik : i < J.length := by rw [HKL.out]; exact hil
      obtain ⟨g4, rfl⟩ : ∃ g, va4 = some ⟨g, 0, none⟩ := by
        obtain ⟨_, h2⟩ := PR.out
        rcases h2 with ⟨e, h0⟩ | ⟨g, cap, cur, e, -⟩
        · omega
        · cases e; exact ⟨g, rfl⟩
      have HRG := hid (own_range PR.out (i * 4) (orC J[i]) (orvs_part J i hik))
      have HM0 := hid (ER.out J[i] (List.getElem_mem hik))
      have HX0 : Hid (J[i].o ∈ S.past) := hid (by rw [← HK1.out]; exact List.mem_map_of_mem (List.getElem_mem hik))
      have HML := hid (HQ.out _ HX0.out)
      obtain ⟨xa, xc, hxe⟩ := own_shape HM0.out
      have HK2 : Hid (J[i] = ⟨J[i].o, J[i].mv⟩) := hid rfl
      generalize hOD : J[i].o = od at *
      rw [hxe] at HM0 HK2
      unfold orC at HRG
      rw [hxe, hOD] at HRG
      clear hxe HX0
      have HOD := hid hOD
      clear hOD
      go_upto_region 6 with (first | (refine wpl_loadO rfl _ rfl g4 (i * 4) (by go_simp) _ _ _ _ HRG.out ?_) | (refine wpl_newO (w3 := wr) rfl _ _ rfl _ _ _ _ rfl rfl rfl rfl rfl rfl rfl ?_; intro w6 hg6 hb6; have G6 := hid hg6; have I6 := hid (IR.out.below hb6); have P6 := hid (own_below PR.out hb6); have O6 := hid (own_below OR.out hb6); have E6 := hid (show Mems w6 J from fun x hx => own_below (ER.out x hx) hb6); have MV := hid (own_below HM0.out hb6); have B6 := hid hb6; clear hg6 hb6))
      obtain ⟨B, hBe⟩ : ∃ B, B = wr.heap.size := ⟨_, rfl⟩
      rw [← hBe] at G6
      rw [← hBe]
      have TC := hid (own_cell P6.out (orvs_at J i hik).2.2.2)
      have hg4 : w.heap.size ≤ g4 ∧ g4 < B := by
        have h1 := (World.ownsRow.lt PR.out g4 rfl).1
        have h2 := (World.ownsRow.lt PR.out g4 rfl).2
        omega
      obtain ⟨cur, hcur⟩ := own_typed P6.out (q := g4) rfl
      have HCU := hid hcur
      have HG4 := hid hg4
      clear hBe hcur hg4
      rw [show J[i].mv = .slice xa od.mem.length xc from by rw [HK2.out]] at TC
      have SW : Hid (∀ Y, Below w6.heap.size w6 Y → Y.cell? ⟨A, 4, none⟩ = some (.slice (some ⟨g4, 0, none⟩) L.length vc4) ∧ Y.cell? ⟨B, 3, none⟩ = some (.slice xa od.mem.length xc)) := hid fun Y hY => by
        refine ⟨(I6.out.below hY).cell 4, ?_⟩
        rw [cell_of_row _ _ _ _ _ _ ((hY.block B (lt_of_block G6.out)).trans G6.out)]; rfl
      have SS : Hid (∀ Y, Below w6.heap.size w6 Y → ∀ v, (Y.setCell ⟨g4, i * 4 + 3, none⟩ v).cell? ⟨A, 4, none⟩ = some (.slice (some ⟨g4, 0, none⟩) L.length vc4) ∧ (Y.setCell ⟨g4, i * 4 + 3, none⟩ v).cell? ⟨B, 3, none⟩ = some (.slice xa od.mem.length xc)) := hid fun Y hY v => by
        have hA := (I6.out.below hY).a
        have hB := (hY.block B (lt_of_block G6.out)).trans G6.out
        have hC := (hY.block g4 (lt_of_block HCU.out)).trans HCU.out
        have n1 : A ≠ g4 := fun e => by rw [e, hC] at hA; cases hA
        have n2 : B ≠ g4 := by have := HG4.out; omega
        constructor
        · rw [cell_of_row _ _ _ _ _ _ ((Below.heap_setCell Y ⟨g4, i * 4 + 3, none⟩ v A n1).trans hA)]; rfl
        · rw [cell_of_row _ _ _ _ _ _ ((Below.heap_setCell Y ⟨g4, i * 4 + 3, none⟩ v B n2).trans hB)]; rfl
      refine wp_region_held_drew (S := fun Y => Y.cell? ⟨A, 4, none⟩ = some (.slice (some ⟨g4, 0, none⟩) L.length vc4) ∧ Y.cell? ⟨B, 3, none⟩ = some (.slice xa od.mem.length xc)) (by kernel_rfl) (SW.out _ ((Below.refl _ _).drew)) (fun hHeld => ?_)
      refine wpAnyH_take (i := 0) (v := ?pv0) rfl (by kernel_rfl) (by kernel_rfl) (by kernel_rfl) (fun _ _ _ h => h) (Or.inl ⟨by rfl, ?py0⟩) (by assumption) ?pr0
      case py0 => (intro w hSw; (try dsimp only at hSw); go_simp; try with_reducible rfl)
      (try simp only [Act.put, putS])
      refine wpAnyH_take (i := 1) (v := ?pv1) rfl (by kernel_rfl) (by kernel_rfl) (by kernel_rfl) (fun _ _ _ h => h) (Or.inl ⟨by rfl, ?py1⟩) (by assumption) ?pr1
      case py1 => (intro w hSw; (try dsimp only at hSw); go_simp; try with_reducible rfl)
      (try simp only [Act.put, putS])
      refine wpAnyH_take (i := 2) (v := ?pv2) rfl (by kernel_rfl) (by kernel_rfl) (by kernel_rfl) (fun _ _ _ h => h) (Or.inl ⟨by rfl, ?py2⟩) (by assumption) ?pr2
      case py2 => (intro w hSw; (try dsimp only at hSw); go_simp; try with_reducible rfl)
      (try simp only [Act.put, putS])
      refine wpAnyH_take (i := 3) (v := ?pv3) rfl (by kernel_rfl) (by kernel_rfl) (by kernel_rfl) (fun _ _ _ h => h) (Or.inl ⟨by rfl, ?py3⟩) (by assumption) ?pr3
      case py3 => (intro w hSw; (try dsimp only at hSw); go_simp; try with_reducible rfl)
      (try simp only [Act.put, putS])
      refine wpAnyH_take (i := 4) (v := ?pv4) rfl (by kernel_rfl) (by kernel_rfl) (by kernel_rfl) (fun _ _ _ h => h) (Or.inl ⟨by rfl, ?py4⟩) (by assumption) ?pr4
      case py4 => (intro w hSw; (try dsimp only at hSw); go_simp; try with_reducible rfl)
      (try simp only [Act.put, putS])
      refine wpAnyH_ready (rs := [5]) (by kernel_rfl) (by simp) ?_
      refine AllReadyH.cons rfl (fun K hK => ?_) AllReadyH.nil
      rw [if_pos (by rfl)]
      go_wp2_with fail
      refine (cloneN_any _ _ _ (nums_own (own_below MV.out ((Below.refl _ _).drew)) rfl) (by have := HML.out; omega)).mono ?_
      rintro e w7 ⟨va7, vc7, rfl, ho7, hb7⟩
      have B7 := hid (((Below.refl w6.heap.size w6).drew).trans hb7)
      have O7 := hid ho7
      clear ho7 hb7
      refine hK.out _ _ (SW.out _ B7.out) (fun hHeld => ?_)
      try clear hK K
      (try simp only [Act.put, putS])
      refine wpAnyH_take (i := 6) (v := ?pv6) rfl (by kernel_rfl) (by kernel_rfl) (by kernel_rfl) (fun _ _ _ h => h) (Or.inl ⟨by rfl, ?py6⟩) (by assumption) ?pr6
      case py6 => (intro w hSw; (try dsimp only at hSw); go_simp; try with_reducible rfl)
      (try simp only [Act.put, putS])
      refine wpAnyH_take (i := 7) (v := ?pv7) rfl (by kernel_rfl) (by kernel_rfl) (by kernel_rfl) (fun _ _ _ h => h) (Or.inl ⟨by rfl, ?py7⟩) (by assumption) ?pr7
      case py7 => (intro w hSw; (try dsimp only at hSw); go_simp; try with_reducible rfl)
      (try simp only [Act.put, putS])
      refine wpAnyH_ready (rs := [8]) (by kernel_rfl) (by simp) ?_
      refine AllReadyH.cons rfl (fun K hK => ?_) AllReadyH.nil
      rw [if_pos (by rfl)]
      have t1 := cell_later B7.out TC.out
      have t2 : w7.frozen? ⟨g4, i * 4 + 3, none⟩ = false := by
        have := own_below P6.out B7.out
        obtain ⟨cur, hc⟩ := own_typed this rfl
        exact frozen_of_row _ _ _ _ _ hc
      go_simp
      refine hK.out _ _ (SS.out _ B7.out _) (fun hHeld => ?_)
      clear t1 t2
      try clear hK K
      (try simp only [Act.put, putS])
      refine wpAnyH_done (by kernel_rfl) ?_ _
      have I7 := hid (I6.out.below B7.out)
      have P7 := hid (own_below P6.out B7.out)
      have N7 := hid (own_below O6.out B7.out)
      have E7 := hid (show Mems w7 J from fun x hx => own_below (E6.out x hx) B7.out)
      have C7 := hid ((B7.out.block g4 (lt_of_block HCU.out)).trans HCU.out)
      have HREL : Hid (∃ J' : List OrX, J'.length = L.length ∧ J'.map (·.o) = S.past ∧ CpI w (w7.setCell ⟨g4, i * 4 + 3, none⟩ (.slice va7 od.mem.length vc7)) A R S (.slice va2 S.mem.length vc2) (.slice (some ⟨g4, 0, none⟩) L.length vc4) ∧ (w7.setCell ⟨g4, i * 4 + 3, none⟩ (.slice va7 od.mem.length vc7)).ownsRow w1.heap.size 3 1 (.slice va2 S.mem.length vc2) S.mem.length (nvs S.mem) ∧ (w7.setCell ⟨g4, i * 4 + 3, none⟩ (.slice va7 od.mem.length vc7)).ownsRow w.heap.size 52 4 (.slice (some ⟨g4, 0, none⟩) L.length vc4) L.length (orvs J') ∧ Mems (w7.setCell ⟨g4, i * 4 + 3, none⟩ (.slice va7 od.mem.length vc7)) J') := hid (by
        refine ⟨J.set i { J[i] with mv := .slice va7 od.mem.length vc7 }, by rw [List.length_set]; exact HKL.out, ?_, ?_, own_set N7.out C7.out (by decide), ?_, ?_⟩
        · rw [List.map_set, ← HK1.out]
          apply List.ext_getElem (by simp)
          intro k h1 h2
          rw [List.getElem_set]
          split
          · next e => subst e; simp
          · rfl
        · have hA := I7.out.a
          have hR := I7.out.r
          have n1 : A ≠ g4 := fun e => by rw [e, C7.out] at hA; cases hA
          have n2 : R ≠ g4 := fun e => by rw [e, C7.out] at hR; cases hR
          exact ⟨(Below.heap_setCell _ _ _ _ n1).trans hA, (Below.heap_setCell _ _ _ _ n2).trans hR, below_set I7.out.bel HG4.out.1, I7.out.pa, I7.out.pr, I7.out.ne⟩
        · have := own_put (i := i * 4 + 3) (u := .slice va7 od.mem.length vc7) P7.out (by omega)
          rw [orvs_set J i hik] at this
          exact this
        · intro x hx
          rcases List.mem_or_eq_of_mem_set hx with hx | rfl
          · exact own_set (E7.out x hx) C7.out (by decide)
          · show World.ownsRow _ 0 _ 1 _ J[i].o.mem.length (nvs J[i].o.mem)
            rw [HOD.out]
            exact own_set (own_lower O7.out (Nat.zero_le _)) C7.out (by decide))
      generalize w7.setCell ⟨g4, i * 4 + 3, none⟩ (.slice va7 od.mem.length vc7) = w8 at *
      go_wp2_with fail
      go_roundw
      case rel => exact ⟨i + 1, HREL.out.choose, by go_num, by omega, HREL.out.choose_spec⟩
      case measure => simp [intOf]; omega
    · have hiL : i = L.length := by omega
      have hA := IR.out.a
      have hR := IR.out.r
      have HF : Hid (∃ X, X = wr.setRow R (shC S (.slice va2 S.mem.length vc2) (.slice va4 L.length vc4)) ∧ X.heap[R]? = some (.cells (shC S (.slice va2 S.mem.length vc2) (.slice va4 L.length vc4)) 46 (0, 0)) ∧ ShM X S (.slice va2 S.mem.length vc2) (.slice va4 L.length vc4) ∧ Below w.heap.size w X) := hid (by
        have hk : ∀ E sz n v xs B, E ≠ 46 → wr.ownsRow B E sz v n xs → (wr.setRow R (shC S (.slice va2 S.mem.length vc2) (.slice va4 L.length vc4))).ownsRow 0 E sz v n xs := fun E sz n v xs B hE ho => own_lower (own_kept ho fun q cs hq hh => setRow_other _ _ _ _ fun e => by rw [e, hR] at hh; cases hh; exact hE rfl) (Nat.zero_le _)
        refine ⟨_, rfl, setRow_heap _ _ _ _ _ _ hR, ⟨hk _ _ _ _ _ _ (by decide) OR.out, J, HK1.out, ?_, fun x hx => hk _ _ _ _ _ _ (by decide) (ER.out x hx)⟩, below_row IR.out.bel IR.out.pr _⟩
        have := hk _ _ _ _ _ _ (by decide) PR.out
        rw [HKL.out]
        exact this)
      unfold shC at hA
      unfold z5 at hR
      go_wp2_with (first | (refine wpl_loadH rfl _ rfl A rfl _ _ _ rfl hA ?_) | (refine wpl_storeH rfl _ _ rfl R _ _ _ _ _ rfl rfl rfl rfl rfl rfl rfl _ _ rfl hR ?_))
      (try simp only [Exit.inBlock, Exit.then])
      obtain ⟨X, hX, h1, h2, h3⟩ := HF.out
      unfold shC at hX h1
      rw [← hX]
      refine bodyPost_ret (results_sh rfl _ _ R _ _ _ rfl rfl h1) rfl ?_
      exact ⟨_, _, rfl, h2, h3⟩
end Go.Proofs.Ytnkjkaofgninnaa
