/- The document's Map: what Do leaves. -/
import Derived.Test.YtbfmanhbbancmaaSpOf
import Derived.Test.YtbfmanhbbancmaaSpApp
import Derived.Deep.RegionLaw
namespace Go.Proofs.Ytbfmanhbbancmaa
open Go.RowKit

/-- What was done: a span, a value, whether it was put. -/
abbrev Dn := Sp × Int × Bool
/-- The document's Map at block b, what was done in rows of the call's own from base on. -/
structure RefM (w : World) (base b : Nat) (D : List Dn) : Prop where
  at' : ∃ lv vv ov, w.heap[b]? = some (.cells #[lv, vv, ov] 31 (0, 0)) ∧ OwnS w base lv (D.map (·.1)) ∧ OwnN w base vv (D.map (·.2.1)) ∧ OwnB w base ov (D.map (·.2.2))
/-- What a call on it leaves: all but its block and its rows. -/
structure RStepM (w w' : World) (base b : Nat) : Prop where
  size : w.heap.size ≤ w'.heap.size
  low : ∀ k, k < base → k ≠ b → w'.heap[k]? = w.heap[k]?
  typed : ∀ k cs t fr, k ≠ b → w.heap[k]? = some (.cells cs t fr) → t ≠ 33 → t ≠ 3 → t ≠ 4 → w'.heap[k]? = w.heap[k]?
  others : KeepsOthers w w'
  io : w'.os = w.os ∧ w'.tape = w.tape ∧ w'.output = w.output
theorem wpl_appendBG {w : World} {ops : Array Oper} {rest : List Oper} {o : Oper} {a : Act} {Q : Exit → Act → World → Prop} (hgd : o.guard = none) (s x : Operand)
    (ho : o.op = .call { callee := .builtin .append, args := #[s, x], argTypes := #[29, 29] })
    (base : Nat) (v : Value) (l : List Bool) (hs : a.eval s = v) (hown : OwnB w base v l) (g : Nat) (y : Bool) (hx : a.eval x = .slice (some ⟨g, 0, none⟩) 1 1) (hg : w.cell? ⟨g, 0, none⟩ = some (.bool y))
    (hl : l.length ≤ 1000000001) (hbase : base ≤ w.heap.size)
    (h : ∀ va vc m w', m = l ++ [y] → OwnB w' base (.slice va m.length vc) m → w.grownBy w' v.ownBlock → wpList Try.prog ops Q rest (a.put o.dst (.slice va m.length vc)) w') :
    wpList Try.prog ops Q (o :: rest) a w := by
  obtain ⟨i, hi, hz0, hz1, hz2⟩ := info_parts Try.infoBo
  refine wpList_append_own w hgd s x 29 ho base 4 i (.bool false) 1 1 Try.underlyingBs hi hz0 hz1 hz2 rfl (by decide) v l.length (bvs l) hs hown ⟨g, 0, none⟩ 1 1 [.bool y] hx rfl (one_cellB hg) (by intro u hu; simp at hu; subst hu; rfl) (by unfold maxLen; omega) (by omega) hbase ?_
  intro v' w' ho' hg' _
  have ho2 : OwnB w' base v' (l ++ [y]) := by
    show w'.ownsRow _ _ _ _ (l ++ [y]).length (bvs (l ++ [y]))
    rw [List.length_append]
    have e : bvs (l ++ [y]) = bvs l ++ [.bool y] := by simp [bvs]
    rw [e]; exact ho'
  obtain ⟨va, vc, rfl⟩ := ho2.shape
  exact h va vc _ w' rfl ho2 hg'
/-- Rows of one type lie on where a row of another type grows. -/
theorem ownsRow_turned {w w' : World} {base : Nat} {t t' : TypeId} {n m sz sz' : Nat} {v v' : Value} {xs ys : List Value} (h : w.ownsRow base t sz v n xs) (g : w.ownsRow base t' sz' v' m ys) (hg : w.grownBy w' v'.ownBlock) (ht : t ≠ t') : w'.ownsRow base t sz v n xs := by
  obtain ⟨h1, h2⟩ := h
  refine ⟨h1, ?_⟩
  rcases h2 with h2 | ⟨b, cap, cur, hv, hb, hh, r⟩
  · exact .inl h2
  · refine .inr ⟨b, cap, cur, hv, hb, ?_, r⟩
    rw [hg.block b (lt_of_block hh) ?_]
    · exact hh
    · intro e
      obtain ⟨_, g2⟩ := g
      rcases g2 with ⟨rfl, _⟩ | ⟨b', cap', cur', rfl, _, hh', -⟩
      · cases e
      · have : b = b' := by simpa [Value.ownBlock] using e
        subst this
        rw [hh] at hh'
        cases hh'
        exact ht rfl
/-- A block of another type is not the row's. -/
theorem ownsRow_not {w : World} {base : Nat} {t t' : TypeId} {m sz' : Nat} {v' : Value} {ys : List Value} (g : w.ownsRow base t' sz' v' m ys) {k : Nat} {cs : Array Value} {fr : Nat × Nat} (hk : w.heap[k]? = some (.cells cs t fr)) (ht : t ≠ t') : some k ≠ v'.ownBlock := by
  intro e
  obtain ⟨_, g2⟩ := g
  rcases g2 with ⟨rfl, _⟩ | ⟨b', cap', cur', rfl, _, hh', -⟩
  · cases e
  · have : k = b' := by simpa [Value.ownBlock] using e
    subst this
    rw [hk] at hh'
    cases hh'
    exact ht rfl
theorem ownsRow_set {w : World} {base : Nat} {t t' : TypeId} {n sz b : Nat} {v : Value} {xs : List Value} {cs : Array Value} {fr : Nat × Nat} (h : w.ownsRow base t sz v n xs) (hb : w.heap[b]? = some (.cells cs t' fr)) (ht : t' ≠ t) (i : Nat) (u : Value) : (w.setCell ⟨b, i, none⟩ u).ownsRow base t sz v n xs := by
  have hne := ownsRow_not h hb ht
  obtain ⟨h1, h2⟩ := h
  refine ⟨h1, ?_⟩
  rcases h2 with h2 | ⟨g, cap, cur, rfl, hg, hh, r⟩
  · exact .inl h2
  · exact .inr ⟨g, cap, cur, rfl, hg, by rw [Below.heap_setCell w ⟨b, i, none⟩ _ g (fun e => hne (by have e' : g = b := e; rw [e']; rfl))]; exact hh, r⟩
theorem RStepM.trans {w w1 w2 : World} {base b : Nat} (h : RStepM w w1 base b) (g : RStepM w1 w2 base b) : RStepM w w2 base b :=
  ⟨Nat.le_trans h.size g.size, fun k hk hb => (g.low k hk hb).trans (h.low k hk hb), fun k cs t fr hb hk t1 t2 t3 => (g.typed k cs t fr hb ((h.typed k cs t fr hb hk t1 t2 t3).trans hk) t1 t2 t3).trans (h.typed k cs t fr hb hk t1 t2 t3), h.others.trans g.others, ⟨g.io.1.trans h.io.1, g.io.2.1.trans h.io.2.1, g.io.2.2.trans h.io.2.2⟩⟩
theorem RStepM.below {w w1 : World} {base b : Nat} (h : Below w.heap.size w w1) (hk : KeepsOthers w w1) (hb : base ≤ w.heap.size) : RStepM w w1 base b :=
  ⟨h.size, fun k hk _ => h.block k (by omega), fun k cs t fr _ hk _ _ _ => h.block k (lt_of_block hk), hk, ⟨h.os, h.tape, h.output⟩⟩
theorem RStepM.row {w w1 : World} {base b : Nat} {t : TypeId} {sz n : Nat} {v : Value} {xs : List Value} (g : w.ownsRow base t sz v n xs) (ht : t = 33 ∨ t = 3 ∨ t = 4) (hg : w.grownBy w1 v.ownBlock) (hb : base ≤ w.heap.size) : RStepM w w1 base b := by
  refine ⟨hg.size, fun k hk _ => hg.block k (by omega) (fun e => ?_), fun k cs t' fr _ hk t1 t2 t3 => hg.block k (lt_of_block hk) (ownsRow_not g hk (by rcases ht with rfl | rfl | rfl <;> assumption)), KeepsOthers.of_grownBy hg fun j o hj hoj => ?_, ⟨hg.os, hg.tape, hg.output⟩⟩
  · have := (World.ownsRow.lt g k e.symm).1; omega
  · obtain ⟨_, h2⟩ := g
    rcases h2 with ⟨rfl, _⟩ | ⟨b', cap, cur, rfl, _, hh, -⟩
    · cases hj
    · cases hj
      rw [hh] at hoj
      cases hoj; rfl
theorem RStepM.set (w : World) (base b i : Nat) (u : Value) : RStepM w (w.setCell ⟨b, i, none⟩ u) base b :=
  ⟨by simp, fun k _ hb => Below.heap_setCell w ⟨b, i, none⟩ _ k hb, fun k _ _ _ hb _ _ _ _ => Below.heap_setCell w ⟨b, i, none⟩ _ k hb, KeepsOthers.setCell _ _ _, ⟨rfl, rfl, rfl⟩⟩
set_option maxHeartbeats 3200000 in
theorem do_none (b : Nat) (s : Sp) (v : Int) (on : Bool) (w : World) (hs : s.2 ≤ s.1) :
    Calls Try.prog 8 #[.pointer (some ⟨b, 0, none⟩), .agg #[.int .i64 s.1, .int .i64 s.2], .int .i64 v, .bool on] w fun e w' => e = .returned (.tuple #[]) ∧ Below w.heap.size w w' ∧ KeepsOthers w w' := by
  obtain ⟨s1, s2⟩ := s
  have hd : ¬ s1 < s2 := by simp only at hs; omega
  clear hs
  go_enter Try.func8, Try.ntmps8
  go_wp2_with fail
  go_end0
  exact ⟨rfl, (Below.refl _ _).alloc (Nat.le_refl _) _, KeepsOthers.alloc _ _⟩
/-- The values are put into the box, and a truth is laid in a block. -/
theorem do_mid {w : World} {base b : Nat} {lv v0 v1 ov : Value} {m1 : List Sp} {m3 : List Int} {Do : List Bool} (on : Bool) (hb : w.heap[b]? = some (.cells #[lv, v0, ov] 31 (0, 0))) (hL : OwnS w base lv m1) (hV : OwnN w base v1 m3) (hO : OwnB w base ov Do) (hs : base ≤ w.heap.size) :
    ((w.setCell ⟨b, 1, none⟩ v1).alloc (.cells #[.bool on] 4)).heap[b]? = some (.cells #[lv, v1, ov] 31 (0, 0)) ∧
    OwnS ((w.setCell ⟨b, 1, none⟩ v1).alloc (.cells #[.bool on] 4)) base lv m1 ∧ OwnN ((w.setCell ⟨b, 1, none⟩ v1).alloc (.cells #[.bool on] 4)) base v1 m3 ∧ OwnB ((w.setCell ⟨b, 1, none⟩ v1).alloc (.cells #[.bool on] 4)) base ov Do ∧
    ((w.setCell ⟨b, 1, none⟩ v1).alloc (.cells #[.bool on] 4)).cell? ⟨w.heap.size, 0, none⟩ = some (.bool on) ∧ RStepM w ((w.setCell ⟨b, 1, none⟩ v1).alloc (.cells #[.bool on] 4)) base b := by
  have h1 : (w.setCell ⟨b, 1, none⟩ v1).heap[b]? = some (.cells #[lv, v1, ov] 31 (0, 0)) := heap_setCell_same w b 1 _ _ _ hb
  have bz : Below (w.setCell ⟨b, 1, none⟩ v1).heap.size (w.setCell ⟨b, 1, none⟩ v1) ((w.setCell ⟨b, 1, none⟩ v1).alloc (.cells #[.bool on] 4)) := (Below.refl _ _).alloc (Nat.le_refl _) _
  refine ⟨(bz.block b (lt_of_block h1)).trans h1, OwnS.below (ownsRow_set hL hb (by decide) 1 v1) bz, OwnN.below (ownsRow_set hV hb (by decide) 1 v1) bz, OwnB.below (ownsRow_set hO hb (by decide) 1 v1) bz, ?_, (RStepM.set w base b 1 v1).trans (RStepM.below bz (KeepsOthers.alloc _ _) (by simpa using hs))⟩
  have e : (w.setCell ⟨b, 1, none⟩ v1).heap.size = w.heap.size := by simp
  rw [← e, World.cell?_alloc_at _ _ _ _ rfl]; rfl
set_option maxRecDepth 100000 in
set_option maxHeartbeats 3200000 in
theorem do_some (base b : Nat) (D : List Dn) (s : Sp) (v : Int) (on : Bool) (w : World) (hm : RefM w base b D) (hl : D.length ≤ 1000000) (hbase : base ≤ w.heap.size) (hs : s.1 < s.2) :
    Calls Try.prog 8 #[.pointer (some ⟨b, 0, none⟩), .agg #[.int .i64 s.1, .int .i64 s.2], .int .i64 v, .bool on] w fun e w' => e = .returned (.tuple #[]) ∧ RefM w' base b (D ++ [(s, v, on)]) ∧ RStepM w w' base b := by
  obtain ⟨lv, vv, ov, hb, hL, hV, hO⟩ := hm.at'
  obtain ⟨s1, s2⟩ := s
  have hd : s1 < s2 := hs
  have hbl := lt_of_block hb
  obtain ⟨la, lc, rfl⟩ := hL.shape
  obtain ⟨na, nc, rfl⟩ := hV.shape
  obtain ⟨oa, oc, rfl⟩ := hO.shape
  obtain ⟨Dl, eDl⟩ : ∃ Dl, Dl = D.map (·.1) := ⟨_, rfl⟩
  obtain ⟨Dv, eDv⟩ : ∃ Dv, Dv = D.map (·.2.1) := ⟨_, rfl⟩
  obtain ⟨Do, eDo⟩ : ∃ Do, Do = D.map (·.2.2) := ⟨_, rfl⟩
  rw [← eDl] at hL hb
  rw [← eDv] at hV hb
  rw [← eDo] at hO hb
  have hl1 : Dl.length ≤ 1000000 := by rw [eDl]; simpa using hl
  have hl2 : Dv.length ≤ 1000000 := by rw [eDv]; simpa using hl
  have hl3 : Do.length ≤ 1000000 := by rw [eDo]; simpa using hl
  have EL := hid eDl
  have EV := hid eDv
  have EO := hid eDo
  have HB := hid hb
  have HL := hid hL
  have HV := hid hV
  have HO := hid hO
  have cb0 : w.cell? ⟨b, 0, none⟩ = some (.slice la Dl.length lc) := by rw [cell_of_row _ _ _ _ _ _ hb]; rfl
  have cb1 : w.cell? ⟨b, 1, none⟩ = some (.slice na Dv.length nc) := by rw [cell_of_row _ _ _ _ _ _ hb]; rfl
  have cb2 : w.cell? ⟨b, 2, none⟩ = some (.slice oa Do.length oc) := by rw [cell_of_row _ _ _ _ _ _ hb]; rfl
  clear hm hs hb hL hV hO eDl eDv eDo
  go_enter Try.func8, Try.ntmps8
  go_wp2_with fail
  obtain ⟨wa, hwa⟩ : ∃ wa, wa = w.alloc (.cells #[.int .i64 s1, .int .i64 s2] 33) := ⟨_, rfl⟩
  obtain ⟨X, hX⟩ : ∃ X, X = w.heap.size := ⟨_, rfl⟩
  have bA : Below w.heap.size w wa := by rw [hwa]; exact (Below.refl _ _).alloc (Nat.le_refl _) _
  have hXa : wa.heap[X]? = some (.cells #[.int .i64 s1, .int .i64 s2] 33 (0, 0)) := by rw [hwa, hX]; exact heap_alloc_new _ _
  rw [← hwa, ← hX]
  have hXl : X < wa.heap.size := lt_of_block hXa
  have hba : b < wa.heap.size := Nat.lt_of_lt_of_le hbl bA.size
  have BA := hid bA
  have d0 := cell_later bA cb0
  have d1 := cell_later bA cb1
  have d2 := cell_later bA cb2
  have dB : wa.heap[b]? = _ := (bA.block b hbl).trans HB.out
  have DB := hid dB
  have x0 : wa.cell? ⟨X, 0, none⟩ = some (.int .i64 s1) := by rw [cell_of_row _ _ _ _ _ _ hXa]; rfl
  have x1 : wa.cell? ⟨X, 1, none⟩ = some (.int .i64 s2) := by rw [cell_of_row _ _ _ _ _ _ hXa]; rfl
  have KA : Hid (KeepsOthers w wa) := hid (by rw [hwa]; exact KeepsOthers.alloc _ _)
  have LA := hid (HL.out.below bA)
  have VA := hid (HV.out.below bA)
  have OA := hid (HO.out.below bA)
  have hbs : base ≤ wa.heap.size := Nat.le_trans hbase bA.size
  clear hwa hX bA cb0 cb1 cb2 dB HL HV HO hXa
  have bY : Below wa.heap.size wa (wa.drew.alloc (.cells #[.int .i64 s1, .int .i64 s2] 33)) := ((Below.refl _ _).drew).alloc (Nat.le_refl _) _
  have e0 := cell_later bY d0
  have ex0 := cell_later bY x0
  have ex1 := cell_later bY x1
  have LY := hid (LA.out.below bY)
  have VY := hid (show (wa.drew.alloc (.cells #[.int .i64 s1, .int .i64 s2] 33)).ownsRow base 3 1 _ _ _ from VA.out.below bY)
  have OY := hid (show (wa.drew.alloc (.cells #[.int .i64 s1, .int .i64 s2] 33)).ownsRow base 4 1 _ _ _ from OA.out.below bY)
  have YB := hid ((bY.block b hba).trans DB.out)
  have BY := hid bY
  have hyl : base ≤ (wa.drew.alloc (.cells #[.int .i64 s1, .int .i64 s2] 33)).heap.size := Nat.le_trans hbs bY.size
  clear bY
  go_region_law (first | (refine step_appendS rfl (.tmp 17) (.tmp 19) rfl base (.slice la Dl.length lc) Dl rfl LY.out wa.heap.size (s1, s2) rfl (heap_alloc_new _ _) (by omega) hyl ?_; intro va1 vc1 m1 w1 hm1 ho1 hg1; have hb1 : w1.heap[b]? = some (.cells #[.slice la Dl.length lc, .slice na Dv.length nc, .slice oa Do.length oc] 31 (0, 0)) := (hg1.block b (lt_of_block YB.out) (ownsRow_not LY.out YB.out (by decide))).trans YB.out; have f0 : w1.cell? ⟨b, 0, none⟩ = some (.slice la Dl.length lc) := (by rw [cell_of_row _ _ _ _ _ _ hb1]; rfl); have fz : w1.frozen? ⟨b, 0, none⟩ = false := (by simp [World.frozen?, hb1]); have M1 := hid hm1; have O1 := hid ho1; have G1 := hid hg1; have HB1 := hid hb1; clear hm1 ho1 hg1 hb1))
  all_goals
    have W2 : Hid ((w1.setCell ⟨b, 0, none⟩ (.slice va1 m1.length vc1)).heap[b]? = some (.cells #[.slice va1 m1.length vc1, .slice na Dv.length nc, .slice oa Do.length oc] 31 (0, 0))) := hid (heap_setCell_same w1 b 0 _ _ _ HB1.out)
    have L2 : Hid ((w1.setCell ⟨b, 0, none⟩ (.slice va1 m1.length vc1)).ownsRow base 33 2 _ _ _) := hid (ownsRow_set O1.out HB1.out (by decide) 0 _)
    have V2 : Hid ((w1.setCell ⟨b, 0, none⟩ (.slice va1 m1.length vc1)).ownsRow base 3 1 _ _ _) := hid (ownsRow_set (ownsRow_turned VY.out LY.out G1.out (by decide)) HB1.out (by decide) 0 _)
    have O2 : Hid ((w1.setCell ⟨b, 0, none⟩ (.slice va1 m1.length vc1)).ownsRow base 4 1 _ _ _) := hid (ownsRow_set (ownsRow_turned OY.out LY.out G1.out (by decide)) HB1.out (by decide) 0 _)
    have R2 : Hid (RStepM w (w1.setCell ⟨b, 0, none⟩ (.slice va1 m1.length vc1)) base b) := hid ((RStepM.below BA.out KA.out hbase).trans ((RStepM.below BY.out (KeepsOthers.of_grownBy (grown_of_below BY.out none) (fun j o hj => by cases hj)) hbs).trans ((RStepM.row LY.out (.inl rfl) G1.out hyl).trans (RStepM.set _ _ _ _ _))))
    have hm1l : m1.length ≤ 1000001 := by rw [M1.out]; simp; omega
    clear O1 G1 HB1 f0 fz
    obtain ⟨w2, hw2⟩ : ∃ w2, w2 = w1.setCell ⟨b, 0, none⟩ (.slice va1 m1.length vc1) := ⟨_, rfl⟩
    rw [← hw2] at W2 L2 V2 O2 R2 ⊢
    clear hw2 d0 d1 d2 x0 x1 e0 ex0 ex1
    have k1 : w2.cell? ⟨b, 1, none⟩ = some (.slice na Dv.length nc) := by rw [cell_of_row _ _ _ _ _ _ W2.out]; rfl
    have hs2 : base ≤ w2.heap.size := Nat.le_trans hbase R2.out.size
    have bZ : Below w2.heap.size w2 (w2.alloc (.cells #[.int .i64 v] 3)) := (Below.refl _ _).alloc (Nat.le_refl _) _
    have BZ := hid bZ
    have hbz : (w2.alloc (.cells #[.int .i64 v] 3)).heap[b]? = _ := (bZ.block b (lt_of_block W2.out)).trans W2.out
    have ZB := hid hbz
    have LZ : Hid ((w2.alloc (.cells #[.int .i64 v] 3)).ownsRow base 33 2 _ _ _) := hid (OwnS.below (l := m1) L2.out bZ)
    have VZ : Hid ((w2.alloc (.cells #[.int .i64 v] 3)).ownsRow base 3 1 _ _ _) := hid (OwnN.below (l := Dv) V2.out bZ)
    have OZ : Hid ((w2.alloc (.cells #[.int .i64 v] 3)).ownsRow base 4 1 _ _ _) := hid (OwnB.below (l := Do) O2.out bZ)
    have CZ : Hid ((w2.alloc (.cells #[.int .i64 v] 3)).cell? ⟨w2.heap.size, 0, none⟩ = some (.int .i64 v)) := hid (by rw [World.cell?_alloc_at _ _ _ _ rfl]; rfl)
    clear bZ hbz
    go_wp2_with (at_builtin; first | (refine wpl_appendG rfl _ _ rfl base (.slice na Dv.length nc) Dv rfl VZ.out w2.heap.size v rfl CZ.out (by omega) (by simp; omega) ?_; intro va3 vc3 m3 w3 hm3 ho3 hg3; have hb3 : w3.heap[b]? = some (.cells #[.slice va1 m1.length vc1, .slice na Dv.length nc, .slice oa Do.length oc] 31 (0, 0)) := (hg3.block b (lt_of_block ZB.out) (ownsRow_not VZ.out ZB.out (by decide))).trans ZB.out; have f1 : w3.cell? ⟨b, 1, none⟩ = some (.slice na Dv.length nc) := (by rw [cell_of_row _ _ _ _ _ _ hb3]; rfl); have f2 : w3.cell? ⟨b, 2, none⟩ = some (.slice oa Do.length oc) := (by rw [cell_of_row _ _ _ _ _ _ hb3]; rfl); have fz : w3.frozen? ⟨b, 1, none⟩ = false := (by simp [World.frozen?, hb3]); have M3 := hid hm3; have X4 := hid (do_mid (v1 := .slice va3 m3.length vc3) on hb3 (ownsRow_turned LZ.out VZ.out hg3 (by decide)) ho3 (ownsRow_turned OZ.out VZ.out hg3 (by decide)) (Nat.le_trans (by simp; omega) hg3.size)); have R3 : Hid (RStepM w w3 base b) := hid (R2.out.trans ((RStepM.below BZ.out (KeepsOthers.alloc _ _) hs2).trans (RStepM.row VZ.out (.inr (.inl rfl)) hg3 (by simp; omega)))); have hs3 : base ≤ w3.heap.size := (Nat.le_trans (by simp; omega) hg3.size); clear hm3 ho3 hg3 hb3) | (refine wpl_appendBG rfl _ _ rfl base (.slice oa Do.length oc) Do rfl X4.out.2.2.2.1 w3.heap.size on rfl X4.out.2.2.2.2.1 (by omega) (by simp; omega) ?_; intro va5 vc5 m5 w5 hm5 ho5 hg5; have hb5 : w5.heap[b]? = some (.cells #[.slice va1 m1.length vc1, .slice va3 m3.length vc3, .slice oa Do.length oc] 31 (0, 0)) := (hg5.block b (lt_of_block X4.out.1) (ownsRow_not X4.out.2.2.2.1 X4.out.1 (by decide))).trans X4.out.1; have g2 : w5.cell? ⟨b, 2, none⟩ = some (.slice oa Do.length oc) := (by rw [cell_of_row _ _ _ _ _ _ hb5]; rfl); have gz : w5.frozen? ⟨b, 2, none⟩ = false := (by simp [World.frozen?, hb5]); have M5 := hid hm5; have O5 := hid ho5; have G5 := hid hg5; have HB5 := hid hb5; clear hm5 ho5 hg5 hb5))
    go_end0
    refine ⟨rfl, ⟨_, _, _, heap_setCell_same w5 b 2 _ _ _ HB5.out, ?_, ?_, ?_⟩, ?_⟩
    · rw [show (D ++ [((s1, s2), v, on)]).map (·.1) = m1 by rw [M1.out, EL.out]; simp]
      exact ownsRow_set (ownsRow_turned X4.out.2.1 X4.out.2.2.2.1 G5.out (by decide)) HB5.out (by decide) 2 _
    · rw [show (D ++ [((s1, s2), v, on)]).map (·.2.1) = m3 by rw [M3.out, EV.out]; simp]
      exact ownsRow_set (ownsRow_turned X4.out.2.2.1 X4.out.2.2.2.1 G5.out (by decide)) HB5.out (by decide) 2 _
    · rw [show (D ++ [((s1, s2), v, on)]).map (·.2.2) = m5 by rw [M5.out, EO.out]; simp]
      exact ownsRow_set O5.out HB5.out (by decide) 2 _
    · exact R3.out.trans (X4.out.2.2.2.2.2.trans ((RStepM.row X4.out.2.2.2.1 (.inr (.inr rfl)) G5.out (by simp; omega)).trans (RStepM.set _ _ _ _ _)))
end Go.Proofs.Ytbfmanhbbancmaa
