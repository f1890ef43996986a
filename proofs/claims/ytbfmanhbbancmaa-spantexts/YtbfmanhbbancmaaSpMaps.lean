/- For anything that is done to a Map (the first 60), and any blocks: it tells what was put last, and its pieces, as the document's Map does. -/
import Derived.Test.YtbfmanhbbancmaaSpPcs
import Derived.Test.YtbfmanhbbancmaaSpOpenO
import Derived.Test.YtbfmanhbbancmaaSpEach
import Derived.Test.YtbfmanhbbancmaaSpLives
import Derived.Test.YtbfmanhbbancmaaRnd
import Derived.Deep.CutBlock
import Derived.Deep.CutRange
namespace Go.Proofs.Ytbfmanhbbancmaa
open Go.RowKit Go.Shelf
attribute [local go_sem] Oper.semAt_some

theorem RowP.not_type {w : World} {v : Value} {l : List Pc} (h : RowP w v l) {k : Nat} (hk : v.ownBlock = some k) : ∃ cs fr, w.heap[k]? = some (.cells cs 63 fr) := by
  obtain ⟨_, h2⟩ := h
  rcases h2 with ⟨rfl, _⟩ | ⟨g, cap, cur, rfl, _, hh, -⟩
  · cases hk
  · cases hk; exact ⟨_, _, hh⟩
/-- What is done to the document's Map leaves the Map. -/
theorem MapC.step {w w' : World} {b X base : Nat} {l : List Pc} (h : MapC w b l) (hs : RStepM w w' base X) {cX : Array Value} {fX : Nat × Nat} (hX : w.heap[X]? = some (.cells cX 31 fX)) (hbl : b < base) : MapC w' b l := by
  obtain ⟨⟨va, vc, h1, h2⟩, h3, h4⟩ := h
  have hb : b ≠ X := fun e => by subst e; rw [h1] at hX; cases hX
  refine ⟨⟨va, vc, (hs.low b hbl hb).trans h1, h2.kept fun k hk => ?_⟩, h3, h4⟩
  obtain ⟨cs, fr, hh⟩ := h2.not_type hk
  by_cases hkX : k = X
  · subst hkX
    rw [hh] at hX; cases hX
  · exact hs.typed k cs _ fr hkX hh (by decide) (by decide) (by decide)
/-- What is done to the Map leaves the document's Map. -/
theorem RefM.grown {w w' : World} {b X base : Nat} {D : List Dn} (h : RefM w base X D) (hg : w.grownBy w' (some b)) {cs : Array Value} {fr : Nat × Nat} (hb : w.heap[b]? = some (.cells cs 26 fr)) : RefM w' base X D := by
  obtain ⟨lv, vv, ov, h1, h2, h3, h4⟩ := h.at'
  have key : ∀ (k : Nat) (cs' : Array Value) (t : TypeId) (fr' : Nat × Nat), w.heap[k]? = some (.cells cs' t fr') → t ≠ 26 → w'.heap[k]? = w.heap[k]? := by
    intro k cs' t fr' hk ht
    refine hg.block k (lt_of_block hk) fun e => ?_
    cases e
    rw [hk] at hb; cases hb; exact ht rfl
  have row : ∀ {t : TypeId} {n sz : Nat} {v : Value} {xs : List Value}, t ≠ 26 → w.ownsRow base t sz v n xs → w'.ownsRow base t sz v n xs := by
    intro t n sz v xs ht ⟨r1, r2⟩
    refine ⟨r1, ?_⟩
    rcases r2 with r2 | ⟨g, cap, cur, hv, hgb, hh, r⟩
    · exact .inl r2
    · exact .inr ⟨g, cap, cur, hv, hgb, by rw [key g _ _ _ hh ht]; exact hh, r⟩
  exact ⟨lv, vv, ov, (key X _ _ _ h1 (by decide)).trans h1, row (by decide) h2, row (by decide) h3, row (by decide) h4⟩
theorem RStepM.belowR {w w' : World} {base X R : Nat} (h : RStepM w w' base X) (h1 : R ≤ base) (h2 : R ≤ X) : Below R w w' :=
  ⟨h.io.1, h.io.2.1, h.io.2.2, h.size, fun k hk => h.low k (by omega) (by omega)⟩
/-- Both Maps in the law's memory: the result's cell at R, the Map at M, the document's at X. -/
structure MS (w0 : World) (R M X : Nat) (lp : List Pc) (D : List Dn) (W : World) : Prop where
  map : MapC W M lp
  ref : RefM W w0.heap.size X D
  agree : Agree lp D
  res : W.heap[R]? = some (.cells #[.bool false] 4 (0, 0))
  bel : Below R w0 W
  ne : ∀ d ∈ D, d.1.1 < d.1.2
theorem heap4 (w : World) (A B C D : Obj) : ((((w.alloc A).alloc B).alloc C).alloc D).heap[w.heap.size]? = some A ∧ ((((w.alloc A).alloc B).alloc C).alloc D).heap[w.heap.size + 1]? = some B ∧ ((((w.alloc A).alloc B).alloc C).alloc D).heap[w.heap.size + 1 + 1]? = some C ∧ ((((w.alloc A).alloc B).alloc C).alloc D).heap[w.heap.size + 1 + 1 + 1]? = some D ∧ ((((w.alloc A).alloc B).alloc C).alloc D).heap.size = w.heap.size + 1 + 1 + 1 + 1 ∧ Below w.heap.size w ((((w.alloc A).alloc B).alloc C).alloc D) := by
  have h := heap3 w A B C
  have e3 : (((w.alloc A).alloc B).alloc C).heap.size = w.heap.size + 1 + 1 + 1 := by simp
  refine ⟨?_, ?_, ?_, ?_, by simp, (((((Below.refl _ _).alloc (Nat.le_refl _) _).alloc (by simp) _).alloc (by simp; omega) _)).alloc (by simp; omega) _⟩
  · rw [Below.heap_alloc _ D _ (by omega)]; exact h.1
  · rw [Below.heap_alloc _ D _ (by omega)]; exact h.2.1
  · rw [Below.heap_alloc _ D _ (by omega)]; exact h.2.2
  · have := heap_alloc_new (((w.alloc A).alloc B).alloc C) D; rwa [e3] at this
/-- The law's own count in its cell K. -/
structure MB (w5 : World) (K n : Nat) (W : World) : Prop where
  cnt : W.heap[K]? = some (.cells #[.int .i64 n] 3 (0, 0))
  grown : w5.grownBy W (some K)
theorem MB.turned {w5 X Y : World} {K n : Nat} {row : Option Nat} (h : MB w5 K n X) (hg : X.grownBy Y row) (hr : ∀ r, row = some r → w5.heap.size ≤ r ∧ ∃ o : Obj, X.heap[r]? = some o ∧ o.isCells = false) : MB w5 K n Y :=
  ⟨cells_turnedP h.cnt hg fun r e => (hr r e).2, h.grown.andThen hg fun j e => .inl (hr j e).1⟩
theorem MB.alloc {w5 X : World} {K n : Nat} (h : MB w5 K n X) (o : Obj) : MB w5 K n (X.alloc o) := h.turned (World.grownBy_alloc X o none) (fun r e => by cases e)
theorem KeepsOthers.drewN (W : World) (q : Nat) : KeepsOthers W (W.drewN q) := ⟨Nat.le_refl _, fun _ _ h _ => h⟩
theorem MB.set {w5 X : World} {K n : Nat} (h : MB w5 K n X) (q : Nat) : MB w5 K (n + 1) ((X.drewN q).setCell ⟨K, 0, none⟩ (.int .i64 ((n : Int) + 1))) := by
  refine ⟨?_, ⟨h.grown.os, h.grown.tape, h.grown.output, by simpa using h.grown.size, fun k hk hne => ?_⟩⟩
  · have := heap_setCell_same (X.drewN q) K 0 #[.int .i64 n] 3 (.int .i64 ((n : Int) + 1)) h.cnt
    rw [this]; simp
  · rw [Below.heap_setCell (X.drewN q) ⟨K, 0, none⟩ _ k (fun e => hne (by rw [e]))]
    exact h.grown.block k hk hne
/-- The frame of a round: the span of x lies in a box. -/
def LaidS (Fr : Pc → Nat → Act) (x : Pc) (a' : Act) (W : World) : Prop := ∃ Bx, W.heap[Bx]? = some (.cells #[.int .i64 x.1, .int .i64 x.2.1] 33 (0, 0)) ∧ a' = Fr x Bx
/-- A function's one result, a truth in a cell. -/
theorem results_boolcell {fn : Func} {p : Tmp} (h : fn.results = #[.cell p 4]) (tmps : Array Value) (w : World) (g : Nat) (v : Value)
    (hp : tmps.getD p undef = .pointer (some ⟨g, 0, none⟩)) (hg : w.cell? ⟨g, 0, none⟩ = some v) : (results fn tmps).run Try.prog w = .ok v w := by
  have hp' : tmps[p]?.getD undef = .pointer (some ⟨g, 0, none⟩) := by simpa using hp
  have hagg : (isAgg 4).run Try.prog w = .ok false w := by kernel_rfl
  simp [results, h, hp', asAddr, loadVar, Sem.run_bind, hagg, go_sem, hg]
theorem mp_later {w w' : World} {b : Nat} {v : Value} {l : List Pc} (h : Mp w b v l) (hb : Below w.heap.size w w') : Mp w' b v l := ⟨(hb.block b (lt_of_block h.1)).trans h.1, h.2.below hb⟩
/-- Do of any span. -/
theorem rdo_any (base b : Nat) (D : List Dn) (s : Sp) (v : Int) (on : Bool) (w : World) (hm : RefM w base b D) (hl : D.length ≤ 1000000) (hbase : base ≤ w.heap.size) :
    Calls Try.prog 8 #[.pointer (some ⟨b, 0, none⟩), .agg #[.int .i64 s.1, .int .i64 s.2], .int .i64 v, .bool on] w fun e w' => e = .returned (.tuple #[]) ∧ RefM w' base b (if s.1 < s.2 then D ++ [(s, v, on)] else D) ∧ RStepM w w' base b := by
  by_cases h : s.1 < s.2
  · rw [if_pos h]; exact do_some base b D s v on w hm hl hbase h
  · rw [if_neg h]
    refine (do_none b s v on w (by omega)).mono ?_
    rintro e w' ⟨rfl, hb, hk⟩
    exact ⟨rfl, hm.below hb, RStepM.below hb hk hbase⟩
theorem rdo_len (D : List Dn) (s : Sp) (v : Int) (on : Bool) : (if s.1 < s.2 then D ++ [(s, v, on)] else D).length ≤ D.length + 1 := by split <;> simp
theorem MS.kept {w0 W W' : World} {R M X : Nat} {lp : List Pc} {D : List Dn} (h : MS w0 R M X lp D W) (hb : Below W.heap.size W W') : MS w0 R M X lp D W' :=
  ⟨h.map.kept hb, h.ref.below hb, h.agree, (hb.block R (lt_of_block h.res)).trans h.res, h.bel.trans (hb.mono (Nat.le_of_lt (lt_of_block h.res))), h.ne⟩
theorem MS.refGrown {w0 W W' : World} {R M X : Nat} {lp : List Pc} {D : List Dn} (h : MS w0 R M X lp D W) (hg : W.grownBy W' (some M)) : RefM W' w0.heap.size X D := by
  obtain ⟨va, vc, h1, _⟩ := h.map.at'
  exact h.ref.grown hg h1
theorem MS.step {w0 W W2 W3 : World} {R M X : Nat} {lp l' : List Pc} {D : List Dn} {s : Sp} {v : Int} {on : Bool} (h : MS w0 R M X lp D W) (hm : MapC W2 M l') (hc : ChP lp s (if on then [(s.1, s.2, v)] else []) l') (hg : W.grownBy W2 (some M))
    (hr : RefM W3 w0.heap.size X (if s.1 < s.2 then D ++ [(s, v, on)] else D)) (hs : RStepM W2 W3 w0.heap.size X) (h1 : R < M) (h2 : M < X) (h3 : X < w0.heap.size) : MS w0 R M X l' (if s.1 < s.2 then D ++ [(s, v, on)] else D) W3 := by
  obtain ⟨_, _, _, hX, _⟩ := (h.refGrown hg).at'
  refine ⟨hm.step hs hX (by omega), hr, agree_step h.agree hc, ?_, ?_, ?_⟩
  · exact (hs.low R (by omega) (by omega)).trans ((hg.block R (lt_of_block h.res) (fun e => by cases e; omega)).trans h.res)
  · exact (h.bel.trans ((Below.refl R W).grown hg (Nat.le_of_lt (lt_of_block h.res)) (fun k e => by cases e; omega))).trans (hs.belowR (by omega) (by omega))
  · intro d hd
    split at hd
    · rcases List.mem_append.1 hd with hd | hd
      · exact h.ne d hd
      · obtain rfl : d = (s, v, on) := by simpa using hd
        assumption
    · exact h.ne d hd
/-- The document's pieces are the Map's. -/
theorem MS.pieces {w0 W : World} {R M X : Nat} {lp : List Pc} {D : List Dn} (h : MS w0 R M X lp D W) : pcsD D (ends2 (D.map (·.1)) [] 1) ((ends2 (D.map (·.1)) [] 1).length - 1) = lp := by
  have hr := ends2_rises (D.map (·.1)) [] 1
  have hm : ∀ d ∈ D, d.1.1 ∈ ends2 (D.map (·.1)) [] 1 ∧ d.1.2 ∈ ends2 (D.map (·.1)) [] 1 := by
    intro d hd
    simp only [ends2]
    constructor <;> (rw [endsL_mem]; exact .inr ⟨d.1, List.mem_map.2 ⟨d, hd, rfl⟩, h.ne d hd, by simp⟩)
  generalize ends2 (D.map (·.1)) [] 1 = E at hr hm
  cases hE : E with
  | nil =>
    have hD : D = [] := by
      cases D with
      | nil => rfl
      | cons d D => have := (hm d (by simp)).1; rw [hE] at this; cases this
    subst hD
    refine can_unique _ _ ⟨(fun x hx => by cases hx), List.Pairwise.nil⟩ h.map.can fun k v => ?_
    rw [h.agree k v]
    exact agree_nil k v
  | cons e E' =>
    rw [← hE]
    have hn : E.length - 1 + 1 = E.length := by rw [hE]; simp
    obtain ⟨c1, c2⟩ := pcs_all D E hr hm (E.length - 1) hn
    exact can_unique _ _ c1 h.map.can fun k v => (c2 k v).trans (h.agree k v).symm
set_option maxRecDepth 100000 in
set_option maxHeartbeats 4000000 in
theorem spanMaps_any (v0 v1 : Value) (l : List OpT) (m : List Int) (w : World) (h0 : Ops w v0 l) (h1 : Nums w v1 m) (hI : ∀ x ∈ l, OpI x) :
    Calls Try.prog 3 #[v0, v1] w fun e w' => e = .returned (.bool true) ∧ Below w.heap.size w w' := by
  have HI := hid hI
  have H0 := hid h0
  have H1 := hid h1
  obtain ⟨a0, c0, rfl⟩ := h0.shape
  obtain ⟨a1, c1, rfl⟩ := h1.shape
  clear h0 h1 hI
  refine (callsIn_wide (n := 3)).1 ?_
  refine callsIn_of_wp_marks Try.func3 rfl trivial ?_ rfl
  simp only [Try.ntmps3, List.size_toArray, List.length_cons, List.length_nil, Nat.reduceAdd, Nat.reduceSub, Array.replicate_succ, Array.replicate_zero, List.push_toArray, List.append_toArray, List.nil_append, List.cons_append]
  refine wpIn_wide.2 ?_
  go_upto_block 0 with fail
  obtain ⟨w0, hw0⟩ : ∃ w0, w0 = ((w.alloc (.cells #[.bool false] 4)).alloc (.cells #[.slice none 0 0] 26)).alloc (.cells #[.slice none 0 0, .slice none 0 0, .slice none 0 0] 31) := ⟨_, rfl⟩
  have hh := heap3 w (.cells #[.bool false] 4) (.cells #[.slice none 0 0] 26) (.cells #[.slice none 0 0, .slice none 0 0, .slice none 0 0] 31)
  have hs0 : w0.heap.size = w.heap.size + 1 + 1 + 1 := by rw [hw0]; simp
  have bw0 : Below w.heap.size w w0 := by rw [hw0]; exact (((Below.refl _ _).alloc (Nat.le_refl _) _).alloc (by simp) _).alloc (by simp; omega) _
  rw [← hw0] at hh ⊢
  clear hw0
  obtain ⟨R0, hR0⟩ : ∃ R0, R0 = w.heap.size := ⟨_, rfl⟩
  obtain ⟨M0, hM0⟩ : ∃ M0, M0 = w.heap.size + 1 := ⟨_, rfl⟩
  obtain ⟨X0, hX0⟩ : ∃ X0, X0 = w.heap.size + 1 + 1 := ⟨_, rfl⟩
  rw [← hX0, ← hM0, ← hR0] at hh ⊢
  rw [← hR0] at hs0 bw0 hM0 hX0
  have MS0 : Hid (MS w0 R0 M0 X0 [] [] w0) := hid ⟨⟨⟨none, 0, hh.2.1, World.ownsRow_nil _ _ _ _⟩, ⟨(fun x hx => by cases hx), List.Pairwise.nil⟩, fun x hx => by cases hx⟩, ⟨_, _, _, hh.2.2, OwnS.nil _ _, OwnN.nil _ _, World.ownsRow_nil _ _ _ _⟩, agree_nil, hh.1, Below.refl _ _, fun d hd => by cases hd⟩
  have BW0 := hid bw0
  have hRM : R0 < M0 := by omega
  have hMX : M0 < X0 := by omega
  have hX0s : X0 < w0.heap.size := by omega
  have HR0 := hid hR0
  clear hh bw0 hs0 hM0 hX0 hR0
  go_cut [7, 8, 25] from 26 to 51 (fun _ _ _ wc => ∃ lp D, lp.length ≤ 180 ∧ D.length ≤ 60 ∧ MS w0 R0 M0 X0 lp D wc)
  case first =>
    go_wp2_with fail
    go_loopw [7, 8, 25] (fun _ _ iv wr => ∃ (i : Nat) (lp : List Pc) (D : List Dn), iv = .int .i64 i ∧ i ≤ l.length ∧ i ≤ 60 ∧ lp.length ≤ 3 * i ∧ D.length ≤ i ∧ MS w0 R0 M0 X0 lp D wr) (fun _ _ iv _ => l.length - (intOf iv).toNat)
    case atStart => exact ⟨0, [], [], rfl, Nat.zero_le _, by omega, by simp, by simp, MS0.out⟩
    case round =>
      obtain ⟨i, lp, D, rfl, hi, hi60, hlp, hD, hms⟩ := hrel
      have MSr := hid hms
      clear hms
      by_cases hlt : i < l.length
      · have hltI : (i : Int) < (l.length : Int) := by omega
        have BWr : Below w.heap.size w wr := by rw [← HR0.out]; exact BW0.out.trans MSr.out.bel
        obtain ⟨gb, go, rfl⟩ := H0.out.addr (by omega)
        obtain ⟨c0', c1', c2', c3'⟩ := (H0.out.below BWr).lit i hlt
        have HX := hid (HI.out l[i] (List.getElem_mem hlt))
        generalize l[i] = x at c0' c1' c2' c3' HX
        obtain ⟨⟨s1, s2⟩, v, d⟩ := x
        simp only at c0' c1' c2' c3'
        by_cases h60 : i < 60
        · have h60' : ¬ (60 : Int) ≤ (i : Int) := by omega
          have ba : Below wr.heap.size wr (wr.alloc (.cells #[.int .i64 s1, .int .i64 s2, .int .i64 v, .bool d] 35)) := (Below.refl _ _).alloc (Nat.le_refl _) _
          have hO := heap_alloc_new wr (.cells #[.int .i64 s1, .int .i64 s2, .int .i64 v, .bool d] 35)
          have hOM : wr.heap.size ≠ M0 := by have := MSr.out.bel.size; omega
          have MSa := hid (MSr.out.kept ba)
          obtain ⟨wa, hwa⟩ : ∃ wa, wa = wr.alloc (.cells #[.int .i64 s1, .int .i64 s2, .int .i64 v, .bool d] 35) := ⟨_, rfl⟩
          rw [← hwa] at hO MSa
          have hsp : -9223372036854775808 ≤ s1 ∧ s2 ≤ 9223372036854775807 := ⟨HX.out.1.1.1, HX.out.1.2.2⟩
          have HSP := hid hsp
          have HO := hid hO
          have HWA := hid hwa
          clear ba hO hwa BWr hsp HX
          go_upto_if 31 with fail
          rw [← HWA.out]
          obtain ⟨O, hOe⟩ : ∃ O, O = wr.heap.size := ⟨_, rfl⟩
          rw [← hOe] at HO hOM ⊢
          have o0 : wa.cell? ⟨O, 0, none⟩ = some (.int .i64 s1) := by rw [cell_of_row _ _ _ _ _ _ HO.out]; rfl
          have o1 : wa.cell? ⟨O, 1, none⟩ = some (.int .i64 s2) := by rw [cell_of_row _ _ _ _ _ _ HO.out]; rfl
          have o2 : wa.cell? ⟨O, 2, none⟩ = some (.int .i64 v) := by rw [cell_of_row _ _ _ _ _ _ HO.out]; rfl
          have o3 : wa.cell? ⟨O, 3, none⟩ = some (.bool d) := by rw [cell_of_row _ _ _ _ _ _ HO.out]; rfl
          clear hOe HWA
          cases d with
          | true =>
            go_wp2_with fail
            refine (dropM_any M0 lp (s1, s2) wa MSa.out.map (by omega) HSP.out).mono ?_
            rintro e w2 ⟨rfl, l', hm', hch, hg, hk⟩
            have hOl := lt_of_block HO.out
            have hb2 : w2.heap[O]? = _ := (hg.block O hOl (fun e => hOM (Option.some.inj e))).trans HO.out
            have q0 : w2.cell? ⟨O, 0, none⟩ = some (.int .i64 s1) := by rw [cell_of_row _ _ _ _ _ _ hb2]; rfl
            have q1 : w2.cell? ⟨O, 1, none⟩ = some (.int .i64 s2) := by rw [cell_of_row _ _ _ _ _ _ hb2]; rfl
            have q2 : w2.cell? ⟨O, 2, none⟩ = some (.int .i64 v) := by rw [cell_of_row _ _ _ _ _ _ hb2]; rfl
            have q3 := (World.cell?_of_block (a := ⟨O, 3, none⟩) (hg.block O hOl (fun e => hOM (Option.some.inj e)))).trans o3
            have hlen := hch.1
            have M2 := hid hm'
            have C2 := hid hch
            have G2 := hid hg
            have hsz2 : w0.heap.size ≤ w2.heap.size := Nat.le_trans MSa.out.bel.size hg.size
            clear o0 o1 o2 o3 hm' hch hg hk hb2
            go_wp2_with fail
            refine (rdo_any w0.heap.size X0 D (s1, s2) v _ w2 (MSa.out.refGrown G2.out) (by omega) hsz2).mono ?_
            rintro e w3 ⟨rfl, hr3, hs3⟩
            have MS3 := hid (MSa.out.step M2.out C2.out G2.out hr3 hs3 hRM hMX hX0s)
            have hlen3 := rdo_len D (s1, s2) v
            clear hr3 hs3 q0 q1 q2 q3
            go_wp2_with fail
            go_roundw
            case rel => exact ⟨i + 1, l', _, by go_num, by omega, by omega, by omega, Nat.le_trans (hlen3 _) (by omega), MS3.out⟩
            case measure => simp [intOf]; omega
          | false =>
            go_wp2_with fail
            refine (putM_any M0 lp (s1, s2) v wa MSa.out.map (by omega) HSP.out).mono ?_
            rintro e w2 ⟨rfl, l', hm', hch, hg, hk⟩
            have hOl := lt_of_block HO.out
            have hb2 : w2.heap[O]? = _ := (hg.block O hOl (fun e => hOM (Option.some.inj e))).trans HO.out
            have q0 : w2.cell? ⟨O, 0, none⟩ = some (.int .i64 s1) := by rw [cell_of_row _ _ _ _ _ _ hb2]; rfl
            have q1 : w2.cell? ⟨O, 1, none⟩ = some (.int .i64 s2) := by rw [cell_of_row _ _ _ _ _ _ hb2]; rfl
            have q2 : w2.cell? ⟨O, 2, none⟩ = some (.int .i64 v) := by rw [cell_of_row _ _ _ _ _ _ hb2]; rfl
            have q3 := (World.cell?_of_block (a := ⟨O, 3, none⟩) (hg.block O hOl (fun e => hOM (Option.some.inj e)))).trans o3
            have hlen := hch.1
            have M2 := hid hm'
            have C2 := hid hch
            have G2 := hid hg
            have hsz2 : w0.heap.size ≤ w2.heap.size := Nat.le_trans MSa.out.bel.size hg.size
            clear o0 o1 o2 o3 hm' hch hg hk hb2
            go_wp2_with fail
            refine (rdo_any w0.heap.size X0 D (s1, s2) v _ w2 (MSa.out.refGrown G2.out) (by omega) hsz2).mono ?_
            rintro e w3 ⟨rfl, hr3, hs3⟩
            have MS3 := hid (MSa.out.step M2.out C2.out G2.out hr3 hs3 hRM hMX hX0s)
            have hlen3 := rdo_len D (s1, s2) v
            clear hr3 hs3 q0 q1 q2 q3
            go_wp2_with fail
            go_roundw
            case rel => exact ⟨i + 1, l', _, by go_num, by omega, by omega, by omega, Nat.le_trans (hlen3 _) (by omega), MS3.out⟩
            case measure => simp [intOf]; omega
        · have h60' : (60 : Int) ≤ (i : Int) := by omega
          go_wp2_with fail
          go_meet
          case rel => exact ⟨lp, D, by omega, by omega, MSr.out.kept ((Below.refl _ _).alloc (Nat.le_refl _) _)⟩
      · obtain rfl : i = l.length := by omega
        go_wp2_with fail
        go_meet
        case rel => exact ⟨lp, D, by omega, by omega, MSr.out⟩
  case rest =>
    obtain ⟨lp, D, hlp, hD, hms⟩ := hcut
    rename World => wq
    have MSc := hid hms
    clear hms MS0
    have hml : (m.length : Int) ≤ 9223372036854775807 := by obtain ⟨_, _, _, e, h1, h2, h3, _⟩ := H1.out; omega
    go_wp2_with fail
    go_loopw [9, 10, 11, 12, 13, 14, 54] (fun _ _ _ _ _ _ iv wr => ∃ i : Nat, iv = .int .i64 i ∧ i ≤ m.length ∧ MS w0 R0 M0 X0 lp D wr) (fun _ _ _ _ _ _ iv _ => m.length - (intOf iv).toNat)
    case atStart => exact ⟨0, rfl, Nat.zero_le _, MSc.out⟩
    case round =>
      obtain ⟨i, rfl, hi, hms⟩ := hrel
      clear MSc
      have MSr := hid hms
      clear hms
      by_cases hlt : i < m.length
      · have hltI : (i : Int) < (m.length : Int) := by omega
        have BWr : Below w.heap.size w wr := by rw [← HR0.out]; exact BW0.out.trans MSr.out.bel
        obtain ⟨gb, go, rfl⟩ := H1.out.addr (by omega)
        have c0' := (H1.out.below BWr).lit i hlt
        generalize m[i] = x at c0'
        clear BWr
        go_wp2_with fail
        refine (getM_any M0 lp x wr MSr.out.map (by omega)).mono ?_
        rintro e w2 ⟨v, ok, hg2, rfl, hb2⟩
        have MS2 := hid (MSr.out.kept hb2)
        have G2 := hid hg2
        clear hg2 hb2 c0'
        go_wp2_with fail
        refine (rget_any w0.heap.size X0 D x w2 MS2.out.ref (by omega)).mono ?_
        rintro e w3 ⟨u, is, hR, rfl, hw3⟩
        obtain ⟨rfl, rfl⟩ := agree_get MS2.out.agree G2.out hR
        rw [hw3]
        clear hw3 hR G2
        have e1 : (v != v) = false := by simp
        have e2 : (ok != ok) = false := by simp
        by_cases h200 : (i : Int) < 200
        · go_wp2_with fail
          go_roundw
          case rel => exact ⟨i + 1, by go_num, by omega, MS2.out⟩
          case measure => simp [intOf]; omega
        · go_wp2_with fail
          go_roundw
          case rel => exact ⟨i + 1, by go_num, by omega, MS2.out⟩
          case measure => simp [intOf]; omega
      · obtain rfl : i = m.length := by omega
        go_wp2_with fail
        refine (rpieces_any w0.heap.size X0 D wr MSr.out.ref (by omega)).mono ?_
        rintro e w2 ⟨va, vc, na, nc, P, hP, rfl, hoS, hoN, hb2⟩
        obtain rfl : P = lp := by rw [hP]; exact MSr.out.pieces
        have MS2 := hid (MSr.out.kept hb2)
        have S2 := hid hoS
        have N2 := hid hoN
        clear hoS hoN hb2 hP
        have hnil : ∀ (B : Nat) (W : World), (binOp BinOp.eql 44 (.func (.func 24) #[] #[.pointer (some ⟨B, 0, none⟩)]) .nilFunc).run Try.prog W = .ok (.bool false) W := fun _ _ => by kernel_rfl
        go_wp2_with (go_at_call 12; refine (each_any M0 _).mono ?_; rintro e w5 ⟨rfl, hw5⟩; have W5 := hid hw5; clear hw5)
        have hh := heap4 w2 (.cells #[.slice va P.length vc] 28) (.cells #[.slice na P.length nc] 23) (.cells #[.int .i64 0] 3) (.cells #[.pointer (some ⟨M0, 0, none⟩)] 50)
        rw [← W5.out] at hh
        obtain ⟨h15, h16, hK5, hE5, hs5, hb5⟩ := hh
        have MS5 := hid (MS2.out.kept hb5)
        have S5 := hid (S2.out.below hb5).held
        have N5 := hid (N2.out.below hb5)
        have hM2 : M0 < w2.heap.size := by obtain ⟨_, _, h, _⟩ := MS2.out.map.at'; exact lt_of_block h
        obtain ⟨A15, hA15⟩ : ∃ A, A = w2.heap.size := ⟨_, rfl⟩
        obtain ⟨A16, hA16⟩ : ∃ A, A = w2.heap.size + 1 := ⟨_, rfl⟩
        obtain ⟨K5, hK5e⟩ : ∃ A, A = w2.heap.size + 1 + 1 := ⟨_, rfl⟩
        obtain ⟨E5, hE5e⟩ : ∃ A, A = w2.heap.size + 1 + 1 + 1 := ⟨_, rfl⟩
        rw [← hE5e, ← hK5e, ← hA16, ← hA15]
        rw [← hE5e] at hE5
        rw [← hK5e] at hK5
        rw [← hA16] at h16
        rw [← hA15] at h15
        have hS2 : ∀ k, (Value.slice va (P.map pcS).length vc).ownBlock = some k → k < A15 := fun k hk => by rw [hA15]; exact (World.ownsRow.lt S2.out k hk).2
        have hN2 : ∀ k, (Value.slice na (P.map pcV).length nc).ownBlock = some k → k < A15 := fun k hk => by rw [hA15]; exact (World.ownsRow.lt N2.out k hk).2
        have hKE : A15 < K5 ∧ A16 < K5 ∧ K5 < w5.heap.size ∧ M0 < A15 ∧ R0 < K5 := by omega
        clear hE5e hK5e hA16 hA15 hs5 hb5 W5 MS2 S2 N2
        obtain ⟨ra, rc, hMr, hRow⟩ := MS5.out.map.at'
        have hheld := (hRow.held 0 P.length (Nat.zero_le _) (Nat.le_refl _)).2
        simp only [List.take_length, List.drop_zero] at hheld
        have hsl : sliceP ra 0 P.length rc = .slice ra P.length rc := by cases ra <;> simp [sliceP, Addr.add]
        rw [hsl] at hheld
        have hrk : ∀ k, (Value.slice ra P.length rc).ownBlock = some k → k < w5.heap.size ∧ k ≠ K5 := fun k hk => ⟨hRow.lt k hk, fun e => by subst e; obtain ⟨cs, fr, h⟩ := hRow.not_type hk; rw [h] at hK5; cases hK5⟩
        have H15 := hid h15
        have H16 := hid h16
        have HK5 := hid hK5
        have HMR := hid hMr
        have HROW := hid hRow
        clear h15 h16 hK5 hMr hRow hsl
        go_wp2_with fail
        refine (wpIn_wide (n := 3)).1 ?_
        refine wpIn_rangeFunc_ownH (F := Fence.wide) rfl (by omega) (gf := 24) (lb := #[.pointer (some ⟨E5, 0, none⟩)]) rfl trivial (enters_of Try.func24 (by kernel_rfl) rfl)
          (each_stops _ (by omega) E5 M0 (.slice ra P.length rc) P (by omega) w5 hE5 HMR.out hheld) KeptR.trans ?keptb (Below.refl _ _) (fun _ => rfl)
          (fun pre W => pre <+: P ∧ MB w5 K5 pre.length W)
          (fun c pre _ => c = Code.ret ∧ ¬ pre <+: P) ?hI (fun _ _ _ _ _ h _ _ => h) ⟨List.nil_prefix, HK5.out, World.grownBy.refl _ _⟩
          (LaidS ?Fr)
          ?hAx ?assign ?body ?done ?stop
        case keptb =>
          intro W y o o' hy ho _ _ k hk
          have h1 := hrk k hk
          have h2 := lt_of_block ho
          refine (grownBy_putObj' W y o').block k (by omega) fun e => ?_
          have h3 : k = y := by simpa using e
          omega
        case hI =>
          intro s X Y row h hg hr
          exact ⟨h.1, h.2.turned hg hr⟩
        case assign =>
          intro y pre x W K h hK
          unfold eachV
          gi_wp2
          obtain ⟨Bx, hBx⟩ : ∃ Bx, Bx = W.heap.size := ⟨_, rfl⟩
          refine hK _ _ ((KeepsOthers.alloc _ _).from _) ?_ ⟨h.1, h.2.alloc _⟩ ?ax
          case ax =>
            rw [← hBx]
            refine ⟨Bx, by rw [hBx]; exact heap_alloc_new _ _, ?fr⟩
            clear hK hBx
            case fr => with_reducible rfl
          intro k hk
          exact Below.heap_alloc _ _ _ (Nat.lt_of_lt_of_le (hrk k hk).1 h.2.grown.size)
        case hAx =>
          rintro x a' s X Y row ⟨Bx, h1, h2⟩ hg hr
          exact ⟨Bx, cells_turnedP h1 hg fun r e => (hr r e).2, h2⟩
        case body =>
          rintro y pre x a' W hy _ ⟨hpre, hMB⟩ ⟨Bx, hX, rfl⟩ hlt'
          have hj : pre.length < P.length := hlt'
          have hlow : ∀ k, k < w5.heap.size → k ≠ K5 → W.heap[k]? = w5.heap[k]? := fun k hk hne => hMB.grown.block k hk fun e => hne (Option.some.inj e)
          have k17 : W.cell? ⟨K5, 0, none⟩ = some (.int .i64 pre.length) := by rw [cell_of_row _ _ _ _ _ _ hMB.cnt]; rfl
          have f17 : W.frozen? ⟨K5, 0, none⟩ = false := by simp [World.frozen?, hMB.cnt]
          have k15 : W.cell? ⟨A15, 0, none⟩ = some (.slice va P.length vc) := by rw [cell_of_row _ _ _ _ _ _ ((hlow A15 (by omega) (by omega)).trans H15.out)]; rfl
          have k16 : W.cell? ⟨A16, 0, none⟩ = some (.slice na P.length nc) := by rw [cell_of_row _ _ _ _ _ _ ((hlow A16 (by omega) (by omega)).trans H16.out)]; rfl
          have k4 : ∃ v, W.cell? ⟨R0, 0, none⟩ = some v := ⟨_, by rw [cell_of_row _ _ _ _ _ _ ((hlow R0 (by omega) (by omega)).trans MS5.out.res)]; rfl⟩
          obtain ⟨r4, k4⟩ := k4
          have f4 : W.frozen? ⟨R0, 0, none⟩ = false := by simp [World.frozen?, (hlow R0 (by omega) (by omega)).trans MS5.out.res]
          obtain ⟨gS, rfl, cs0, cs1⟩ : ∃ g, va = some ⟨g, 0, none⟩ ∧ W.cell? ⟨g, pre.length * 2, none⟩ = some (.int .i64 (P[pre.length]'hj).1) ∧ W.cell? ⟨g, pre.length * 2 + 1, none⟩ = some (.int .i64 (P[pre.length]'hj).2.1) := by
            rcases S5.out with ⟨_, h⟩ | ⟨g, cap, ob, e, hob, h⟩
            · simp at h; subst h; simp at hj
            · cases e
              have := h pre.length (by simpa using hj)
              simp only [List.getElem_map, pcS] at this
              have hb := hlow g (lt_of_block hob) (by have := hS2 g rfl; omega)
              exact ⟨g, rfl, (World.cell?_of_block (a := ⟨g, _, none⟩) hb).trans this.1, (World.cell?_of_block (a := ⟨g, _, none⟩) hb).trans this.2⟩
          obtain ⟨gV, rfl, cv⟩ : ∃ g, na = some ⟨g, 0, none⟩ ∧ W.cell? ⟨g, pre.length, none⟩ = some (.int .i64 (P[pre.length]'hj).2.2) := by
            obtain ⟨g, e, h⟩ := N5.out.at_lit pre.length (by simpa using hj)
            simp only [List.getElem_map, pcV] at h
            have hb := hlow g (World.block_lt_of_cell? _ _ h) (by have := hN2 g (by rw [e]; rfl); omega)
            exact ⟨g, e, (World.cell?_of_block (a := ⟨g, _, none⟩) hb).trans h⟩
          have x0 : W.cell? ⟨Bx, 0, none⟩ = some (.int .i64 x.1) := by rw [cell_of_row _ _ _ _ _ _ hX]; rfl
          have x1 : W.cell? ⟨Bx, 1, none⟩ = some (.int .i64 x.2.1) := by rw [cell_of_row _ _ _ _ _ _ hX]; rfl
          have HPN : Hid (∀ z, P[pre.length]'hj = z → (pre ++ [z] <+: P ∧ ∀ z', z' ≠ z → ¬ pre ++ [z'] <+: P)) := hid (by
            intro z hz
            obtain ⟨t, ht⟩ := hpre
            have hlen : 0 < t.length := by rw [← ht] at hj; simp at hj; omega
            cases t with
            | nil => simp at hlen
            | cons a t =>
              have : a = z := by rw [← hz]; simp [← ht]
              subst this
              refine ⟨⟨t, by rw [← ht]; simp⟩, fun z' hne hp => hne ?_⟩
              obtain ⟨t', ht'⟩ := hp
              rw [← ht, List.append_assoc] at ht'
              have := List.append_cancel_left ht'
              simp at this
              exact this.1)
          have HMB := hid hMB
          have HLOW := hid hlow
          have HXB := hid hX
          clear hlow hMB hpre hX
          generalize hz : P[pre.length]'hj = z at cs0 cs1 cv
          have HZ := hid (HPN.out z hz)
          clear hz HPN
          obtain ⟨z1, z2, z3⟩ := z
          obtain ⟨y1, y2, y3⟩ := x
          simp only at x0 x1 cs0 cs1 cv
          obtain ⟨n, hn⟩ : ∃ n, n = pre.length := ⟨_, rfl⟩
          rw [← hn] at k17 cs0 cs1 cv hj HMB
          have hjI : (n : Int) < (P.length : Int) := by omega
          have hjd : decide ((P.length : Int) ≤ (n : Int)) = false := decide_eq_false (by omega)
          have hjn : decide (P.length ≤ n) = false := decide_eq_false (by omega)
          have hj0 : (0 : Int) ≤ (n : Int) := by omega
          have HN := hid hn
          clear hn
          by_cases e1 : y1 = z1
          · subst e1
            by_cases e2 : y2 = z2
            · subst e2
              by_cases e3 : y3 = z3
              · subst e3
                have d3 : (y3 != y3) = false := by simp
                gi_wp2
                refine region_quiet_round y rfl (by kernel_rfl) (by kernel_rfl) (by kernel_rfl) ?_
                repeat (gi_big_quiet_step (fail))
                refine wpQuietIn_nil ?_
                intro W' hw'
                obtain ⟨nq, rfl⟩ := hw'
                have wn : IntKind.i64.wrap ((n : Int) + 1) = (n : Int) + 1 := IntWalk.i64_in _ ⟨by omega, by omega⟩
                gi_wp2
                have hM2 := HMB.out.set nq
                refine ⟨((KeepsOthers.drewN W nq).trans (KeepsOthers.setCell _ _ _)).from _, ?_, HZ.out.1, ?_⟩
                · intro k hk
                  exact Below.heap_setCell (W.drewN nq) ⟨K5, 0, none⟩ _ k (hrk k hk).2
                · have e : (pre ++ [(y1, y2, y3)]).length = n + 1 := by rw [HN.out]; simp
                  rw [e]; exact hM2
              · have d3 : (y3 != z3) = true := by simpa using e3
                gi_wp2
                refine region_quiet_round y rfl (by kernel_rfl) (by kernel_rfl) (by kernel_rfl) ?_
                repeat (gi_big_quiet_step (fail))
                refine wpQuietIn_nil ?_
                intro W' hw'
                obtain ⟨nq, rfl⟩ := hw'
                gi_wp2
                exact ⟨((KeepsOthers.drewN W nq).trans (KeepsOthers.setCell _ _ _)).from _, rfl, HZ.out.2 _ (by simp; omega)⟩
            · have d2 : (y2 == z2) = false := by simpa using e2
              gi_wp2
              refine region_quiet_round y rfl (by kernel_rfl) (by kernel_rfl) (by kernel_rfl) ?_
              repeat (gi_big_quiet_step (fail))
              refine wpQuietIn_nil ?_
              intro W' hw'
              obtain ⟨nq, rfl⟩ := hw'
              gi_wp2
              exact ⟨((KeepsOthers.drewN W nq).trans (KeepsOthers.setCell _ _ _)).from _, rfl, HZ.out.2 _ (by simp; omega)⟩
          · have d1 : (y1 == z1) = false := by simpa using e1
            gi_wp2
            refine region_quiet_round y rfl (by kernel_rfl) (by kernel_rfl) (by kernel_rfl) ?_
            repeat (gi_big_quiet_step (fail))
            refine wpQuietIn_nil ?_
            intro W' hw'
            obtain ⟨nq, rfl⟩ := hw'
            gi_wp2
            exact ⟨((KeepsOthers.drewN W nq).trans (KeepsOthers.setCell _ _ _)).from _, rfl, HZ.out.2 _ (by simp; omega)⟩
        case stop =>
          rintro D c pre W _ hp ⟨_, hn⟩ _
          exact absurd hp hn
        intro D9 ys W hD hys hIM hK
        obtain ⟨-, hMB⟩ := hIM
        rw [hys] at hMB
        clear hys
        have hlow : ∀ k, k < w5.heap.size → k ≠ K5 → W.heap[k]? = w5.heap[k]? := fun k hk hne => hMB.grown.block k hk fun e => hne (Option.some.inj e)
        have hc4 : W.heap[R0]? = some (.cells #[.bool false] 4 (0, 0)) := (hlow R0 (by omega) (by omega)).trans MS5.out.res
        have hmap : MapAt W M0 P := ⟨ra, rc, (hlow M0 (by omega) (by omega)).trans HMR.out, HROW.out.kept fun k hk => hlow k (hrk k hk).1 (hrk k hk).2⟩
        obtain ⟨mv, hmp⟩ := hmap.mp
        have SW : Hid (∀ X, Below W.heap.size W X → X.cell? ⟨K5, 0, none⟩ = some (.int .i64 P.length) ∧ X.cell? ⟨A15, 0, none⟩ = some (.slice va P.length vc)) := hid fun X hX =>
          ⟨cell_later hX (by rw [cell_of_row _ _ _ _ _ _ hMB.cnt]; rfl), cell_later hX (by rw [cell_of_row _ _ _ _ _ _ ((hlow A15 (by omega) (by omega)).trans H15.out)]; rfl)⟩
        have C4 : Hid (∀ X, Below W.heap.size W X → X.heap[R0]? = some (.cells #[.bool false] 4 (0, 0))) := hid fun X hX => (hX.block R0 (lt_of_block hc4)).trans hc4
        have KD : Hid (∀ X, Below W.heap.size W X → X.heap[D9]? = some (.deferred (some []))) := hid fun X hX => (hX.block D9 (lt_of_block hK)).trans hK
        have HMP := hid hmp
        have BW9 : Hid (Below w.heap.size w W) := hid (by
          have h5 := MS5.out.bel
          rw [← HR0.out]
          exact (BW0.out.trans h5).trans ((Below.refl R0 w5).grown hMB.grown (by omega) (fun k e => by cases e; omega)))
        have hRD : R0 ≠ D9 := by omega
        have hDw : w.heap.size ≤ D9 := by rw [← HR0.out]; omega
        have hPe : ((P.length : Int) == (P.length : Int)) = true := by simp
        clear hMB hlow hc4 hmap hmp hK
        go_wp2_with fail
        go_region_held3 (fun X => X.cell? ⟨K5, 0, none⟩ = some (.int .i64 P.length) ∧ X.cell? ⟨A15, 0, none⟩ = some (.slice va P.length vc)) (first | with_reducible exact SW.out _ ((Below.refl _ _).drew) | with_reducible exact SW.out _ B7.out | with_reducible exact SW.out _ B9.out | with_reducible exact S9.out) (first
          | (go_at_call 13; refine (len_any M0 mv P _ (mp_later HMP.out ((Below.refl _ _).drew))).mono ?_; rintro e w7 ⟨rfl, q7, hw7⟩; have B7 : Hid (Below W.heap.size W w7) := hid (by rw [hw7]; exact ⟨rfl, rfl, rfl, Nat.le_refl _, fun _ _ => rfl⟩); clear hw7)
          | (go_at_call 14; refine (lives_any _).mono ?_; rintro e w9 ⟨rfl, hb9⟩; have B9 : Hid (Below W.heap.size W w9) := hid (B7.out.trans (hb9.mono B7.out.size)); have c9 := C4.out _ B9.out; have cc9 : w9.cell? ⟨R0, 0, none⟩ = some (.bool false) := (by rw [cell_of_row _ _ _ _ _ _ c9]; rfl); have cf9 : w9.frozen? ⟨R0, 0, none⟩ = false := (by simp [World.frozen?, c9]); have C9 := hid c9; have S9 : Hid ((w9.setCell ⟨R0, 0, none⟩ (.bool true)).cell? ⟨K5, 0, none⟩ = some (.int .i64 P.length) ∧ (w9.setCell ⟨R0, 0, none⟩ (.bool true)).cell? ⟨A15, 0, none⟩ = some (.slice va P.length vc)) := hid ⟨(World.cell?_of_block (a := ⟨K5, 0, none⟩) (Below.heap_setCell w9 ⟨R0, 0, none⟩ _ K5 (show K5 ≠ R0 by omega))).trans (SW.out _ B9.out).1, (World.cell?_of_block (a := ⟨A15, 0, none⟩) (Below.heap_setCell w9 ⟨R0, 0, none⟩ _ A15 (show A15 ≠ R0 by omega))).trans (SW.out _ B9.out).2⟩; clear hb9 c9))
        all_goals
          go_wp2_with fail
          have hK9 : (w9.setCell ⟨R0, 0, none⟩ (.bool true)).heap[D9]? = some (.deferred (some [])) := (Below.heap_setCell w9 ⟨R0, 0, none⟩ _ D9 (fun e => hRD e.symm)).trans (KD.out _ B9.out)
          have hR9 : (w9.setCell ⟨R0, 0, none⟩ (.bool true)).heap[R0]? = some (.cells #[.bool true] 4 (0, 0)) := heap_setCell_same w9 R0 0 _ _ _ C9.out
          have bS : Below w.heap.size w (w9.setCell ⟨R0, 0, none⟩ (.bool true)) := (BW9.out.trans (B9.out.mono BW9.out.size)).setCell (p := ⟨R0, 0, none⟩) (by rw [HR0.out]; exact Nat.le_refl _) _
          refine ⟨by simp, .inl ⟨_, _, rfl, run_takeDeferred hK9, ?_⟩⟩
          refine ⟨_, results_boolcell rfl _ _ R0 (.bool true) rfl ?_, rfl, ?_⟩
          · rw [cell_of_row _ _ _ _ _ _ (cells_turnedP hR9 (grownBy_putObj' _ D9 (.deferred none)) fun r e => by cases e; exact ⟨_, hK9, rfl⟩)]; rfl
          · exact bS.trans (belowK_b (w := w) (Nat.le_refl _) _ D9 _ _ hDw hK9 rfl rfl)
end Go.Proofs.Ytbfmanhbbancmaa
