/- For anything that is put into a Map (the first 60), any number and any span: a clone and its original go on apart, a loop goes over what there was when it began, a Map that there isn't has nothing. -/
import Derived.Test.YtbfmanhbbancmaaSpClone
import Derived.Test.YtbfmanhbbancmaaSpOpenO
import Derived.Test.YtbfmanhbbancmaaSpMaps
namespace Go.Proofs.Ytbfmanhbbancmaa
open Go.RowKit Go.Shelf
attribute [local go_sem] Oper.semAt_some

/-- The Map at M; all ahead of it as it was. -/
structure CS (w0 : World) (M : Nat) (lp : List Pc) (W : World) : Prop where
  map : MapC W M lp
  bel : Below M w0 W
theorem CS.kept {w0 W W' : World} {M : Nat} {lp : List Pc} (h : CS w0 M lp W) (hb : Below W.heap.size W W') : CS w0 M lp W' := by
  obtain ⟨_, _, h1, _⟩ := h.map.at'
  exact ⟨h.map.kept hb, h.bel.trans (hb.mono (Nat.le_of_lt (lt_of_block h1)))⟩
theorem CS.step {w0 W W' : World} {M : Nat} {lp l' : List Pc} (h : CS w0 M lp W) (hm : MapC W' M l') (hg : W.grownBy W' (some M)) : CS w0 M l' W' := by
  obtain ⟨_, _, h1, _⟩ := h.map.at'
  exact ⟨hm, h.bel.trans ((Below.refl M W).grown hg (Nat.le_of_lt (lt_of_block h1)) (fun k e => by cases e; exact Nat.le_refl _))⟩
/-- In the loop over the Map: the Map at M turns, and the count at K. -/
structure CB (w5 : World) (M K n : Nat) (W : World) : Prop where
  map : ∃ l', MapC W M l' ∧ l'.length ≤ 200 + 6 * n
  cnt : W.heap[K]? = some (.cells #[.int .i64 n] 3 (0, 0))
  low : ∀ k, k < w5.heap.size → k ≠ M → k ≠ K → W.heap[k]? = w5.heap[k]?
  size : w5.heap.size ≤ W.heap.size
  io : W.os = w5.os ∧ W.tape = w5.tape ∧ W.output = w5.output
theorem MapC.turned {X Y : World} {M : Nat} {l : List Pc} {row : Option Nat} (h : MapC X M l) (hg : X.grownBy Y row) (hr : ∀ r, row = some r → ∃ o : Obj, X.heap[r]? = some o ∧ o.isCells = false) : MapC Y M l := by
  obtain ⟨⟨va, vc, h1, h2⟩, h3, h4⟩ := h
  refine ⟨⟨va, vc, cells_turnedP h1 hg hr, h2.kept fun k hk => ?_⟩, h3, h4⟩
  obtain ⟨cs, fr, hh⟩ := h2.not_type hk
  rw [cells_turnedP hh hg hr, hh]
theorem CB.turned {w5 X Y : World} {M K n : Nat} {row : Option Nat} (h : CB w5 M K n X) (hg : X.grownBy Y row) (hr : ∀ r, row = some r → w5.heap.size ≤ r ∧ ∃ o : Obj, X.heap[r]? = some o ∧ o.isCells = false) : CB w5 M K n Y := by
  obtain ⟨⟨l', hm, hl⟩, hc, hlow, hs, h1, h2, h3⟩ := h
  have hr' : ∀ r, row = some r → ∃ o : Obj, X.heap[r]? = some o ∧ o.isCells = false := fun r e => (hr r e).2
  exact ⟨⟨l', hm.turned hg hr', hl⟩, cells_turnedP hc hg hr', fun k hk hM hK => (hg.block k (by omega) (fun e => by have := (hr k e.symm).1; omega)).trans (hlow k hk hM hK), Nat.le_trans hs hg.size, hg.os.trans h1, hg.tape.trans h2, hg.output.trans h3⟩
theorem CB.alloc {w5 X : World} {M K n : Nat} (h : CB w5 M K n X) (o : Obj) : CB w5 M K n (X.alloc o) := h.turned (World.grownBy_alloc X o none) (fun r e => by cases e)
theorem MapC.setInt {W : World} {M K n : Nat} {l : List Pc} (h : MapC W M l) (hK : W.heap[K]? = some (.cells #[.int .i64 n] 3 (0, 0))) (u : Value) : MapC (W.setCell ⟨K, 0, none⟩ u) M l := by
  obtain ⟨⟨va, vc, h1, h2⟩, h3, h4⟩ := h
  refine ⟨⟨va, vc, (Below.heap_setCell W ⟨K, 0, none⟩ _ M (fun e => ?_)).trans h1, h2.kept fun k hk => Below.heap_setCell W ⟨K, 0, none⟩ _ k (fun e => ?_)⟩, h3, h4⟩
  · have e' : M = K := e
    subst e'; rw [h1] at hK; cases hK
  · have e' : k = K := e
    subst e'
    obtain ⟨cs, fr, hh⟩ := h2.not_type hk
    rw [hh] at hK; cases hK
/-- A round's end: the Map has turned, and one more is counted. -/
theorem CB.next {w5 W W2 : World} {M K n : Nat} {l2 : List Pc} (h : CB w5 M K n W) (hm : MapC W2 M l2) (hl : l2.length ≤ 200 + 6 * (n + 1)) (hg : W.grownBy W2 (some M)) (hMK : M ≠ K) : CB w5 M K (n + 1) (W2.setCell ⟨K, 0, none⟩ (.int .i64 ((n : Int) + 1))) := by
  have hK2 : W2.heap[K]? = some (.cells #[.int .i64 n] 3 (0, 0)) := (hg.block K (lt_of_block h.cnt) (fun e => hMK (Option.some.inj e).symm)).trans h.cnt
  refine ⟨⟨l2, hm.setInt hK2 _, hl⟩, ?_, fun k hk h1 h2 => ?_, ?_, ?_⟩
  · have := heap_setCell_same W2 K 0 #[.int .i64 n] 3 (.int .i64 ((n : Int) + 1)) hK2
    rw [this]; simp
  · rw [Below.heap_setCell W2 ⟨K, 0, none⟩ _ k h2, hg.block k (Nat.lt_of_lt_of_le hk h.size) (fun e => h1 (Option.some.inj e))]
    exact h.low k hk h1 h2
  · have := h.size; have := hg.size; simp; omega
  · exact ⟨hg.os.trans h.io.1, hg.tape.trans h.io.2.1, hg.output.trans h.io.2.2⟩
/-- Behind the loop: the box of the Op, the count, the loop's mark. -/
structure CA (w : World) (B K D : Nat) (ob : Array Value) (n : Nat) (X : World) : Prop where
  ob : X.heap[B]? = some (.cells ob 35 (0, 0))
  cnt : X.heap[K]? = some (.cells #[.int .i64 n] 3 (0, 0))
  dfr : X.heap[D]? = some (.deferred (some []))
  bel : Below w.heap.size w X
theorem CA.kept {w X Y : World} {B K D : Nat} {ob : Array Value} {n : Nat} (h : CA w B K D ob n X) (hb : Below X.heap.size X Y) : CA w B K D ob n Y :=
  ⟨(hb.block B (lt_of_block h.ob)).trans h.ob, (hb.block K (lt_of_block h.cnt)).trans h.cnt, (hb.block D (lt_of_block h.dfr)).trans h.dfr, h.bel.trans (hb.mono h.bel.size)⟩
theorem CA.grown {w X Y : World} {B K D C : Nat} {ob : Array Value} {n : Nat} (h : CA w B K D ob n X) (hg : X.grownBy Y (some C)) (h1 : B ≠ C) (h2 : K ≠ C) (h3 : D ≠ C) (h4 : w.heap.size ≤ C) : CA w B K D ob n Y :=
  ⟨(hg.block B (lt_of_block h.ob) (fun e => h1 (Option.some.inj e))).trans h.ob, (hg.block K (lt_of_block h.cnt) (fun e => h2 (Option.some.inj e))).trans h.cnt, (hg.block D (lt_of_block h.dfr) (fun e => h3 (Option.some.inj e))).trans h.dfr, h.bel.grown hg h.bel.size (fun k e => by cases e; exact h4)⟩
theorem CA.set0 {w X : World} {B K D : Nat} {ob : Array Value} {n : Nat} (h : CA w B K D ob n X) (h1 : B ≠ K) (h3 : D ≠ K) (h4 : w.heap.size ≤ K) : CA w B K D ob 0 (X.setCell ⟨K, 0, none⟩ (.int .i64 0)) := by
  refine ⟨(Below.heap_setCell X ⟨K, 0, none⟩ _ B h1).trans h.ob, ?_, (Below.heap_setCell X ⟨K, 0, none⟩ _ D h3).trans h.dfr, h.bel.setCell (p := ⟨K, 0, none⟩) h4 _⟩
  have := heap_setCell_same X K 0 #[.int .i64 n] 3 (.int .i64 0) h.cnt
  rw [this]; simp
theorem CA.turned {w X Y : World} {B K D : Nat} {ob : Array Value} {n : Nat} {row : Option Nat} (h : CA w B K D ob n X) (hg : X.grownBy Y row) (hr : ∀ r, row = some r → D < r ∧ ∃ o : Obj, X.heap[r]? = some o ∧ o.isCells = false) (hD : w.heap.size ≤ D) : CA w B K D ob n Y := by
  have hr' : ∀ r, row = some r → ∃ o : Obj, X.heap[r]? = some o ∧ o.isCells = false := fun r e => (hr r e).2
  refine ⟨cells_turnedP h.ob hg hr', cells_turnedP h.cnt hg hr', (hg.block D (lt_of_block h.dfr) (fun e => by have := (hr D e.symm).1; omega)).trans h.dfr, h.bel.trans ⟨hg.os, hg.tape, hg.output, hg.size, fun k hk => hg.block k (Nat.lt_of_lt_of_le hk h.bel.size) (fun e => by have := (hr k e.symm).1; omega)⟩⟩
theorem CA.o5 {w X : World} {B K D : Nat} {v0 v1 v2 v3 : Value} {n : Nat} (h : CA w B K D #[v0, v1, v2, v3] n X) : X.cell? ⟨B, 0, none⟩ = some v0 ∧ X.cell? ⟨B, 1, none⟩ = some v1 ∧ X.cell? ⟨B, 2, none⟩ = some v2 :=
  ⟨by rw [cell_of_row _ _ _ _ _ _ h.ob]; rfl, by rw [cell_of_row _ _ _ _ _ _ h.ob]; rfl, by rw [cell_of_row _ _ _ _ _ _ h.ob]; rfl⟩
set_option maxRecDepth 100000 in
set_option maxHeartbeats 4000000 in
theorem spanClones_any (v0 : Value) (l : List OpT) (at' : Nat) (o : OpT) (w : World) (h0 : Ops w v0 l) (hI : ∀ x ∈ l, OpI x) (ho : OpI o) (hat : (at' : Int) ≤ 18446744073709551615) :
    Calls Try.prog 4 #[v0, .int .u64 at', .agg #[.int .i64 o.1.1, .int .i64 o.1.2, .int .i64 o.2.1, .bool o.2.2]] w fun e w' => e = .returned (.bool true) ∧ Below w.heap.size w w' := by
  have HI := hid hI
  have H0 := hid h0
  obtain ⟨a0, c0, rfl⟩ := h0.shape
  have hll : (l.length : Int) ≤ 9223372036854775807 := by obtain ⟨_, _, _, e, h1, h2, h3, _⟩ := h0; omega
  obtain ⟨⟨o1, o2⟩, ov, od⟩ := o
  have HOI := hid ho
  simp only
  clear h0 hI ho
  refine (callsIn_wide (n := 3)).1 ?_
  refine callsIn_of_wp_marks Try.func4 rfl trivial ?_ rfl
  simp only [Try.ntmps4, List.size_toArray, List.length_cons, List.length_nil, Nat.reduceAdd, Nat.reduceSub, Array.replicate_succ, Array.replicate_zero, List.push_toArray, List.append_toArray, List.nil_append, List.cons_append]
  refine wpIn_wide.2 ?_
  go_wp2_with fail
  obtain ⟨w0, hw0⟩ : ∃ w0, w0 = ((w.alloc (.cells #[.int .u64 at'] 49)).alloc (.cells #[.int .i64 o1, .int .i64 o2, .int .i64 ov, .bool od] 35)).alloc (.cells #[.slice none 0 0] 26) := ⟨_, rfl⟩
  have hh := heap3 w (.cells #[.int .u64 at'] 49) (.cells #[.int .i64 o1, .int .i64 o2, .int .i64 ov, .bool od] 35) (.cells #[.slice none 0 0] 26)
  have hs0 : w0.heap.size = w.heap.size + 1 + 1 + 1 := by rw [hw0]; simp
  have bw0 : Below w.heap.size w w0 := by rw [hw0]; exact (((Below.refl _ _).alloc (Nat.le_refl _) _).alloc (by simp) _).alloc (by simp; omega) _
  rw [← hw0] at hh ⊢
  clear hw0
  obtain ⟨B4, hB4⟩ : ∃ R0, R0 = w.heap.size := ⟨_, rfl⟩
  obtain ⟨B5, hB5⟩ : ∃ R0, R0 = w.heap.size + 1 := ⟨_, rfl⟩
  obtain ⟨M0, hM0⟩ : ∃ R0, R0 = w.heap.size + 1 + 1 := ⟨_, rfl⟩
  rw [← hM0, ← hB5, ← hB4] at hh ⊢
  rw [← hB4] at hs0 bw0 hB5 hM0
  have CS0 : Hid (CS w0 M0 [] w0) := hid ⟨⟨⟨none, 0, hh.2.2, World.ownsRow_nil _ _ _ _⟩, ⟨(fun x hx => by cases hx), List.Pairwise.nil⟩, fun x hx => by cases hx⟩, Below.refl _ _⟩
  have BW0 := hid bw0
  have HH4 := hid hh.1
  have HH5 := hid hh.2.1
  have h45 : B4 < B5 ∧ B5 < M0 ∧ M0 < w0.heap.size := by omega
  have HR0 := hid hB4
  clear hh bw0 hs0 hM0 hB5 hB4
  go_loopw [8, 9, 24] (fun _ _ iv wr => ∃ (i : Nat) (lp : List Pc), iv = .int .i64 i ∧ i ≤ l.length ∧ lp.length ≤ 3 * min i 60 ∧ CS w0 M0 lp wr) (fun _ _ iv _ => l.length - (intOf iv).toNat)
  case atStart => exact ⟨0, [], rfl, Nat.zero_le _, by simp, CS0.out⟩
  case round =>
    obtain ⟨i, lp, rfl, hi, hlp, hcs⟩ := hrel
    clear CS0
    have CSr := hid hcs
    clear hcs
    by_cases hlt : i < l.length
    · have hltI : (i : Int) < (l.length : Int) := by omega
      have BWr : Below w.heap.size w wr := by rw [← HR0.out]; exact BW0.out.trans (CSr.out.bel.mono (by omega))
      obtain ⟨gb, go, rfl⟩ := H0.out.addr (by omega)
      obtain ⟨c0', c1', c2', c3'⟩ := (H0.out.below BWr).lit i hlt
      have HX := hid (HI.out l[i] (List.getElem_mem hlt))
      generalize l[i] = x at c0' c1' c2' c3' HX
      obtain ⟨⟨s1, s2⟩, v, d⟩ := x
      simp only at c0' c1' c2' c3'
      have ba : Below wr.heap.size wr (wr.alloc (.cells #[.int .i64 s1, .int .i64 s2, .int .i64 v, .bool d] 35)) := (Below.refl _ _).alloc (Nat.le_refl _) _
      have CSa := hid (CSr.out.kept ba)
      have HSP : Hid (-9223372036854775808 ≤ s1 ∧ s2 ≤ 9223372036854775807) := hid ⟨HX.out.1.1.1, HX.out.1.2.2⟩
      clear ba BWr HX
      by_cases h60 : i < 60
      · have h60' : (i : Int) < 60 := by omega
        go_wp2_with fail
        refine (putM_any M0 lp (s1, s2) v _ CSa.out.map (by omega) HSP.out).mono ?_
        rintro e w2 ⟨rfl, l', hm', hch, hg, hk⟩
        have CS2 := hid (CSa.out.step hm' hg)
        have hlen := hch.1
        clear hm' hch hg hk
        go_wp2_with fail
        go_roundw
        case rel => exact ⟨i + 1, l', by go_num, by omega, by omega, CS2.out⟩
        case measure => simp [intOf]; omega
      · have h60' : ¬ (i : Int) < 60 := by omega
        go_wp2_with fail
        go_roundw
        case rel => exact ⟨i + 1, lp, by go_num, by omega, by omega, CSa.out⟩
        case measure => simp [intOf]; omega
    · obtain rfl : i = l.length := by omega
      have hlp' : lp.length ≤ 180 := by omega
      go_wp2_with fail
      refine (cloneM_any M0 lp wr CSr.out.map (by omega)).mono ?_
      rintro e w2 ⟨C0, rfl, hmC, hC1, hC2, hb2⟩
      have CS2 := hid (CSr.out.kept hb2)
      have MC2 := hid hmC
      have hMr : M0 < wr.heap.size := by obtain ⟨_, _, h, _⟩ := CSr.out.map.at'; exact lt_of_block h
      have hsz2 : wr.heap.size ≤ w2.heap.size := hb2.size
      clear hmC hb2
      obtain ⟨mv, hmp⟩ := CS2.out.map.at'.mp
      go_wp2_with fail
      refine (len_any M0 mv lp w2 hmp).mono ?_
      rintro e w3 ⟨rfl, q3, hw3⟩
      have b3 : Below w2.heap.size w2 w3 := by rw [hw3]; exact ⟨rfl, rfl, rfl, Nat.le_refl _, fun _ _ => rfl⟩
      have CS3 := hid (CS2.out.kept b3)
      have MC3 := hid (MC2.out.kept b3)
      have hsz3 : w2.heap.size ≤ w3.heap.size := b3.size
      clear hmp b3 hw3 CS2 MC2
      have hnil : ∀ (B : Nat) (W : World), (binOp BinOp.eql 44 (.func (.func 24) #[] #[.pointer (some ⟨B, 0, none⟩)]) .nilFunc).run Try.prog W = .ok (.bool false) W := fun _ _ => by kernel_rfl
      go_wp2_with (go_at_call 12; refine (each_any M0 _).mono ?_; rintro e w5 ⟨rfl, hw5⟩; have W5 := hid hw5; clear hw5)
      have b5 : Below w3.heap.size w3 w5 := by rw [W5.out]; exact ((Below.refl _ _).alloc (Nat.le_refl _) _).alloc (by simp) _
      have hK5 : w5.heap[w3.heap.size]? = some (.cells #[.int .i64 0] 3 (0, 0)) := by rw [W5.out]; exact heap_alloc2_old _ _ _
      have hE5 : w5.heap[w3.heap.size + 1]? = some (.cells #[.pointer (some ⟨M0, 0, none⟩)] 50 (0, 0)) := by rw [W5.out]; exact heap_alloc2_new _ _ _
      have hs5 : w5.heap.size = w3.heap.size + 2 := by rw [W5.out]; simp
      have CS5 := hid (CS3.out.kept b5)
      have MC5 := hid (MC3.out.kept b5)
      obtain ⟨K5, hK5e⟩ : ∃ A, A = w3.heap.size := ⟨_, rfl⟩
      obtain ⟨E5, hE5e⟩ : ∃ A, A = w3.heap.size + 1 := ⟨_, rfl⟩
      rw [← hE5e, ← hK5e]
      rw [← hE5e] at hE5
      rw [← hK5e] at hK5
      have hKE : M0 < C0 ∧ C0 < K5 ∧ K5 < w5.heap.size ∧ E5 < w5.heap.size ∧ E5 ≠ K5 := by omega
      clear hE5e hK5e hs5 b5 W5 CS3 MC3
      obtain ⟨ra, rc, hMr5, hRow⟩ := CS5.out.map.at'
      have hheld := (hRow.held 0 lp.length (Nat.zero_le _) (Nat.le_refl _)).2
      simp only [List.take_length, List.drop_zero] at hheld
      have hsl : sliceP ra 0 lp.length rc = .slice ra lp.length rc := by cases ra <;> simp [sliceP, Addr.add]
      rw [hsl] at hheld
      have hrk : ∀ k, (Value.slice ra lp.length rc).ownBlock = some k → k < w5.heap.size ∧ k ≠ K5 ∧ k ≠ M0 := fun k hk => by
        obtain ⟨cs, fr, h⟩ := hRow.not_type hk
        exact ⟨hRow.lt k hk, (fun e => by subst e; rw [h] at hK5; cases hK5), (fun e => by subst e; rw [h] at hMr5; cases hMr5)⟩
      have h4c : w5.heap[B4]? = some (.cells #[.int .u64 at'] 49 (0, 0)) := (CS5.out.bel.block B4 (by omega)).trans HH4.out
      have h5c : w5.heap[B5]? = some (.cells #[.int .i64 o1, .int .i64 o2, .int .i64 ov, .bool od] 35 (0, 0)) := (CS5.out.bel.block B5 (by omega)).trans HH5.out
      have HC4 := hid h4c
      have HC5 := hid h5c
      have HK5 := hid hK5
      have HMR := hid hMr5
      clear hK5 hMr5 hRow hsl h4c h5c
      go_wp2_with fail
      refine (wpIn_wide (n := 3)).1 ?_
      refine wpIn_rangeFunc_ownH (F := Fence.wide) rfl (by omega) (gf := 24) (lb := #[.pointer (some ⟨E5, 0, none⟩)]) rfl trivial (enters_of Try.func24 (by kernel_rfl) rfl)
        (each_stops _ (by omega) E5 M0 (.slice ra lp.length rc) lp (by omega) w5 hE5 HMR.out hheld) KeptR.trans ?keptb (Below.refl _ _) (fun _ => rfl)
        (fun pre W => CB w5 M0 K5 pre.length W)
        (fun _ _ _ => False) ?hI (fun _ _ _ _ _ h _ _ => h) ⟨⟨lp, CS5.out.map, by omega⟩, HK5.out, fun _ _ _ _ => rfl, Nat.le_refl _, rfl, rfl, rfl⟩
        (LaidS ?Fr)
        ?hAx ?assign ?body ?done ?stop
      case keptb =>
        intro W y o o' hy ho _ _ k hk
        have h1 := hrk k hk
        have h2 := lt_of_block ho
        refine (grownBy_putObj' W y o').block k (by omega) fun e => ?_
        have h3 : k = y := by simpa using e
        omega
      case hI =>
        intro s X Y row h hg hr
        exact h.turned hg hr
      case assign =>
        intro y pre x W K h hK
        unfold eachV
        gi_wp2
        obtain ⟨Bx, hBx⟩ : ∃ Bx, Bx = W.heap.size := ⟨_, rfl⟩
        refine hK _ _ ((KeepsOthers.alloc _ _).from _) ?_ (h.alloc _) ?ax
        case ax =>
          rw [← hBx]
          refine ⟨Bx, by rw [hBx]; exact heap_alloc_new _ _, ?fr⟩
          clear hK hBx
          case fr => with_reducible rfl
        intro k hk
        exact Below.heap_alloc _ _ _ (Nat.lt_of_lt_of_le (hrk k hk).1 h.size)
      case hAx =>
        rintro x a' s X Y row ⟨Bx, h1, h2⟩ hg hr
        exact ⟨Bx, cells_turnedP h1 hg fun r e => (hr r e).2, h2⟩
      case stop =>
        rintro D c pre W _ _ h _
        exact h.elim
      case body =>
        rintro y pre x a' W hy _ hCB ⟨Bx, hX, rfl⟩ hlt'
        obtain ⟨l', hm', hl'⟩ := hCB.map
        have k4 : W.cell? ⟨B4, 0, none⟩ = some (.int .u64 at') := by rw [cell_of_row _ _ _ _ _ _ ((hCB.low B4 (by omega) (by omega) (by omega)).trans HC4.out)]; rfl
        have b5 := (hCB.low B5 (by omega) (by omega) (by omega)).trans HC5.out
        have k50 : W.cell? ⟨B5, 0, none⟩ = some (.int .i64 o1) := by rw [cell_of_row _ _ _ _ _ _ b5]; rfl
        have k51 : W.cell? ⟨B5, 1, none⟩ = some (.int .i64 o2) := by rw [cell_of_row _ _ _ _ _ _ b5]; rfl
        have k52 : W.cell? ⟨B5, 2, none⟩ = some (.int .i64 ov) := by rw [cell_of_row _ _ _ _ _ _ b5]; rfl
        have kK : W.cell? ⟨K5, 0, none⟩ = some (.int .i64 pre.length) := by rw [cell_of_row _ _ _ _ _ _ hCB.cnt]; rfl
        have x0 : W.cell? ⟨Bx, 0, none⟩ = some (.int .i64 x.1) := by rw [cell_of_row _ _ _ _ _ _ hX]; rfl
        have x1 : W.cell? ⟨Bx, 1, none⟩ = some (.int .i64 x.2.1) := by rw [cell_of_row _ _ _ _ _ _ hX]; rfl
        have HCB := hid hCB
        have HM' := hid hm'
        have HX := hid hX
        clear hCB hm' b5 hX
        have wn : IntKind.i64.wrap ((pre.length : Int) + 1) = (pre.length : Int) + 1 := IntWalk.i64_in _ ⟨by omega, by omega⟩
        have hBl := lt_of_block HX.out
        have hBM : Bx ≠ M0 := fun e => by subst e; obtain ⟨_, _, h, _⟩ := HM'.out.at'; rw [h] at HX; cases HX.out
        have hKl := lt_of_block HCB.out.cnt
        gi_wp2
        · refine ⟨trivial, ?_⟩
          refine (CallsIn.inRound y (callsIn_wide.2 (putM_any M0 l' (o1, o2) ov W HM'.out (by omega) ⟨HOI.out.1.1.1, HOI.out.1.2.2⟩))).mono ?_
          rintro e W1 ⟨rfl, l1, hm1, hch1, hg1, hk1⟩
          have x0' := (World.cell?_of_block (a := ⟨Bx, 0, none⟩) (hg1.block Bx hBl (fun e => hBM (Option.some.inj e)))).trans x0
          have x1' := (World.cell?_of_block (a := ⟨Bx, 1, none⟩) (hg1.block Bx hBl (fun e => hBM (Option.some.inj e)))).trans x1
          have HM1 := hid hm1
          have hl1 := hch1.1
          have G1 := hid hg1
          have K1 := hid hk1
          clear hm1 hch1 hg1 hk1
          gi_wp2
          refine ⟨trivial, ?_⟩
          refine (CallsIn.inRound y (callsIn_wide.2 (dropM_free M0 l1 (x.1, x.2.1) W1 HM1.out (by omega)))).mono ?_
          rintro e W2 ⟨rfl, l2, hm2, hch2, hg2', hk2'⟩
          have hg2 := G1.out.trans hg2'
          have hk2 := K1.out.trans hk2'
          have hbk := (hg2.block K5 hKl (fun e => by cases e; omega)).trans HCB.out.cnt
          have cK2 : W2.cell? ⟨K5, 0, none⟩ = some (.int .i64 pre.length) := by rw [cell_of_row _ _ _ _ _ _ hbk]; rfl
          have fK2 : W2.frozen? ⟨K5, 0, none⟩ = false := by simp [World.frozen?, hbk]
          have hl2 := hch2.1
          have N2 := hid (HCB.out.next hm2 (by omega) hg2 (by omega))
          have G2 := hid hg2
          have K2 := hid hk2
          clear hm2 hch2 hg2 hk2 hbk hg2' hk2'
          gi_wp2
          refine ⟨(K2.out.trans (KeepsOthers.setCell _ _ _)).from _, ?_, ?_⟩
          · intro k hk
            have h1 := hrk k hk
            rw [Below.heap_setCell W2 ⟨K5, 0, none⟩ _ k h1.2.1]
            exact G2.out.block k (Nat.lt_of_lt_of_le h1.1 HCB.out.size) (fun e => h1.2.2 (Option.some.inj e))
          · show CB w5 M0 K5 (pre ++ [x]).length _
            have e : (pre ++ [x]).length = pre.length + 1 := by simp
            rw [e]; exact N2.out
        · refine ⟨trivial, ?_⟩
          refine (CallsIn.inRound y (callsIn_wide.2 (dropM_free M0 l' (x.1, x.2.1) W HM'.out (by omega)))).mono ?_
          rintro e W2 ⟨rfl, l2, hm2, hch2, hg2, hk2⟩
          have hbk := (hg2.block K5 hKl (fun e => by cases e; omega)).trans HCB.out.cnt
          have cK2 : W2.cell? ⟨K5, 0, none⟩ = some (.int .i64 pre.length) := by rw [cell_of_row _ _ _ _ _ _ hbk]; rfl
          have fK2 : W2.frozen? ⟨K5, 0, none⟩ = false := by simp [World.frozen?, hbk]
          have hl2 := hch2.1
          have N2 := hid (HCB.out.next hm2 (by omega) hg2 (by omega))
          have G2 := hid hg2
          have K2 := hid hk2
          clear hm2 hch2 hg2 hk2 hbk
          gi_wp2
          refine ⟨(K2.out.trans (KeepsOthers.setCell _ _ _)).from _, ?_, ?_⟩
          · intro k hk
            have h1 := hrk k hk
            rw [Below.heap_setCell W2 ⟨K5, 0, none⟩ _ k h1.2.1]
            exact G2.out.block k (Nat.lt_of_lt_of_le h1.1 HCB.out.size) (fun e => h1.2.2 (Option.some.inj e))
          · show CB w5 M0 K5 (pre ++ [x]).length _
            have e : (pre ++ [x]).length = pre.length + 1 := by simp
            rw [e]; exact N2.out
      intro D ys W hD hys hCB hK
      rw [hys] at hCB
      clear hys
      have hMC : MapC W C0 lp := by
        obtain ⟨⟨va, vc, h1, h2⟩, h3, h4⟩ := MC5.out
        have hne : ∀ k, (Value.slice va lp.length vc).ownBlock = some k → k ≠ M0 ∧ k ≠ K5 ∧ k < w5.heap.size := fun k hk => by
          obtain ⟨cs, fr, h⟩ := h2.not_type hk
          exact ⟨(fun e => by subst e; have := HMR.out; rw [h] at this; cases this), (fun e => by subst e; have := HK5.out; rw [h] at this; cases this), h2.lt k hk⟩
        exact ⟨⟨va, vc, (hCB.low C0 (by omega) (by omega) (by omega)).trans h1, h2.kept fun k hk => hCB.low k (hne k hk).2.2 (hne k hk).1 (hne k hk).2.1⟩, h3, h4⟩
      have b5 := (hCB.low B5 (by omega) (by omega) (by omega)).trans HC5.out
      have kK : W.cell? ⟨K5, 0, none⟩ = some (.int .i64 lp.length) := by rw [cell_of_row _ _ _ _ _ _ hCB.cnt]; rfl
      obtain ⟨cv, hcv⟩ := hMC.at'.mp
      have BW9 : Hid (Below w.heap.size w W) := hid (by
        have h5 := CS5.out.bel
        rw [← HR0.out]
        exact (BW0.out.trans (h5.mono (by omega))).trans ⟨hCB.io.1, hCB.io.2.1, hCB.io.2.2, hCB.size, fun k hk => hCB.low k (by omega) (by omega) (by omega)⟩)
      have HB5 := hid b5
      have HMC := hid hMC
      have HKD := hid hK
      have HKW := hid hCB.cnt
      have hDw : w5.heap.size ≤ D := hD
      have hDl := lt_of_block hK
      have e0 : ((lp.length : Int) != (lp.length : Int)) = false := by simp
      clear hCB hMC b5 hK
      go_wp2_with fail
      refine (len_any C0 cv lp W hcv).mono ?_
      rintro e w6 ⟨rfl, q6, hw6⟩
      have b6 : Below W.heap.size W w6 := by rw [hw6]; exact ⟨rfl, rfl, rfl, Nat.le_refl _, fun _ _ => rfl⟩
      have MC6 := hid (HMC.out.kept b6)
      have CA6 : Hid (CA w B5 K5 D #[.int .i64 o1, .int .i64 o2, .int .i64 ov, .bool od] lp.length w6) := hid (CA.kept ⟨HB5.out, HKW.out, HKD.out, BW9.out⟩ b6)
      have hs6 : w5.heap.size ≤ w6.heap.size := Nat.le_trans (by omega) b6.size
      clear hcv hw6 b6 HB5 HKW HKD BW9 HMC kK
      obtain ⟨p0, p1, p2⟩ := CA6.out.o5
      go_wp2_with fail
      refine (putM_any C0 lp (o1, o2) ov w6 MC6.out (by omega) ⟨HOI.out.1.1.1, HOI.out.1.2.2⟩).mono ?_
      rintro e w7 ⟨rfl, l7, hm7, hch7, hg7, -⟩
      have CA7 := hid (CA6.out.grown hg7 (by omega) (by omega) (by omega) (by rw [← HR0.out]; omega))
      have MC7 := hid hm7
      have C7 := hid hch7
      have hl7 := hch7.1
      clear p0 p1 p2 hm7 hch7 hg7 CA6 MC6
      obtain ⟨p0, p1, p2⟩ := CA7.out.o5
      go_wp2_with fail
      refine (getM_any C0 l7 o1 w7 MC7.out (by omega)).mono ?_
      rintro e w8 ⟨v, ok, hgo, rfl, hb8⟩
      have CA8 := hid (CA7.out.kept hb8)
      have HRIGHT : Hid ((ok = true ∧ v = ov) ∨ o2 ≤ o1) := hid (by
        rcases Int.lt_or_le o1 o2 with h | h
        · left
          have h1 := (C7.out.2 o1 ov)
          rw [if_pos ⟨Int.le_refl _, h⟩, HasP_one] at h1
          have h2 := h1.2 ⟨Int.le_refl _, h, rfl⟩
          cases ok with
          | false => exact absurd h2 ((hgo.2 rfl).2 ov)
          | true =>
            have h3 := (C7.out.2 o1 v).1 (hgo.1 rfl)
            rw [if_pos ⟨Int.le_refl _, h⟩, HasP_one] at h3
            exact ⟨rfl, h3.2.2.symm⟩
        · exact .inr h)
      clear p0 p1 p2 hgo hb8 CA7 MC7 C7
      obtain ⟨p0, p1, p2⟩ := CA8.out.o5
      go_wp2_with fail
      refine (put_nil (o1, o2) ov w8).mono ?_
      rintro e w9 ⟨rfl, hb9⟩
      have CA9 := hid (CA8.out.kept hb9)
      clear p0 p1 p2 hb9 CA8
      obtain ⟨p0, p1, p2⟩ := CA9.out.o5
      go_wp2_with fail
      refine (drop_nil (o1, o2) w9).mono ?_
      rintro e w10 ⟨rfl, hb10⟩
      have CA10 := hid (CA9.out.kept hb10)
      clear p0 p1 p2 hb10 CA9
      obtain ⟨p0, p1, p2⟩ := CA10.out.o5
      go_wp2_with fail
      refine (get_nil o1 w10).mono ?_
      rintro e w11 ⟨rfl, hb11⟩
      have CA11 := hid (CA10.out.kept hb11)
      have f11 : w11.frozen? ⟨K5, 0, none⟩ = false := by simp [World.frozen?, CA11.out.cnt]
      have k11 : w11.cell? ⟨K5, 0, none⟩ = some (.int .i64 lp.length) := by rw [cell_of_row _ _ _ _ _ _ CA11.out.cnt]; rfl
      clear p0 p1 p2 hb11 CA10
      go_wp2_with (go_at_call 12; refine (each_nil _).mono ?_; rintro e w12 ⟨rfl, hw12⟩; have W12 := hid hw12; clear hw12)
      have b12 : Below (w11.setCell ⟨K5, 0, none⟩ (.int .i64 0)).heap.size (w11.setCell ⟨K5, 0, none⟩ (.int .i64 0)) w12 := by rw [W12.out]; exact (Below.refl _ _).alloc (Nat.le_refl _) _
      have CA12 := hid ((CA11.out.set0 (by omega) (by omega) (by rw [← HR0.out]; omega)).kept b12)
      have hE12 : w12.heap[w11.heap.size]? = some (.cells #[.pointer none] 50 (0, 0)) := by
        have := heap_alloc_new (w11.setCell ⟨K5, 0, none⟩ (.int .i64 0)) (.cells #[.pointer none] 50)
        rw [← W12.out] at this
        simpa using this
      clear W12 b12 CA11 f11 k11
      obtain ⟨E12, hE12e⟩ : ∃ E, E = w11.heap.size := ⟨_, rfl⟩
      rw [← hE12e] at hE12 ⊢
      clear hE12e
      go_wp2_with fail
      refine (wpIn_wide (n := 3)).1 ?_
      refine wpIn_rangeFunc_ownH (F := Fence.wide) rfl (by omega) (gf := 24) (lb := #[.pointer (some ⟨E12, 0, none⟩)]) rfl trivial (enters_of Try.func24 (by kernel_rfl) rfl)
        (eachn_stops _ E12 w12 hE12) (fun _ _ => trivial) (fun _ _ _ _ _ _ _ _ => trivial) (Below.refl _ _) (fun _ => rfl)
        (fun _ W => CA w B5 K5 D #[.int .i64 o1, .int .i64 o2, .int .i64 ov, .bool od] 0 W)
        (fun _ _ _ => False) ?hI2 (fun _ _ _ _ _ h _ _ => h) CA12.out
        (fun _ _ _ => True)
        (fun _ _ _ _ _ _ _ _ _ => trivial) ?assign2 (fun _ _ _ _ _ _ _ _ _ h => absurd h (Nat.not_lt_zero _)) ?done2 (fun _ _ _ _ _ _ h _ => h.elim)
      case hI2 =>
        intro s X Y row h hg hr
        refine h.turned hg (fun r e => ⟨?_, (hr r e).2⟩) (by rw [← HR0.out]; omega)
        have := (hr r e).1
        have := lt_of_block CA12.out.dfr
        omega
      case assign2 =>
        intro y pre x W K h hK
        unfold eachV
        gi_wp2
        exact hK _ _ (KeepsFrom.refl _ _) trivial h trivial
      intro D2 ys X hD2 _ hCA hK2
      have hDD : D < w12.heap.size := lt_of_block CA12.out.dfr
      clear CA12
      have CAx := hid hCA
      have HK2 := hid hK2
      clear hCA hK2
      obtain ⟨p0, p1, p2⟩ := CAx.out.o5
      have k0 : X.cell? ⟨K5, 0, none⟩ = some (.int .i64 0) := by rw [cell_of_row _ _ _ _ _ _ CAx.out.cnt]; rfl
      go_upto_region 34 with fail
      go_cut [21] from 109 to 124 (fun r wx => r = .bool true ∧ wx = X)
      case first =>
        by_cases hle : o2 ≤ o1
        · cases ok with
          | false =>
            go_wp2_with fail
            go_meet
            case rel => exact ⟨rfl, rfl⟩
          | true =>
            by_cases hv : v = ov
            · have hv' : (v == ov) = true := by simpa using hv
              clear hv
              go_wp2_with fail
              go_meet
              case rel => exact ⟨rfl, rfl⟩
            · have hv' : (v == ov) = false := by simpa using hv
              go_wp2_with fail
              go_meet
              case rel => exact ⟨rfl, rfl⟩
        · obtain ⟨rfl, hv⟩ : ok = true ∧ v = ov := by rcases HRIGHT.out with h | h; exact h; omega
          have hv' : (v == ov) = true := by simpa using hv
          clear hv
          go_wp2_with fail
          go_meet
          case rel => exact ⟨rfl, rfl⟩
      case rest =>
        obtain ⟨rfl, rfl⟩ := hcut
        go_wp2_with fail
        refine (len_nil _).mono ?_
        rintro e w13 ⟨rfl, hw13⟩
        rw [hw13]
        clear hw13
        go_wp2_with fail
        refine (clone_nil _).mono ?_
        rintro e w14 ⟨g14, rfl, hm14, hb14⟩
        obtain ⟨mv14, hmp14⟩ := hm14.at'.mp
        have B14 := hid hb14
        clear hm14 hb14
        go_wp2_with fail
        refine (len_any g14 mv14 [] w14 hmp14).mono ?_
        rintro e w15 ⟨rfl, q15, hw15⟩
        have B15 : Hid (Below wc.heap.size wc w15) := hid (B14.out.trans (by rw [hw15]; exact ⟨rfl, rfl, rfl, Nat.le_refl _, fun _ _ => rfl⟩))
        clear hw15 hmp14 B14
        go_wp2_with fail
        refine (lives_any _).mono ?_
        rintro e w16 ⟨rfl, hb16⟩
        have B16 : Hid (Below wc.heap.size wc w16) := hid (B15.out.trans (hb16.mono B15.out.size))
        have CA16 := hid (CAx.out.kept B16.out)
        have hK16 : w16.heap[D2]? = some (.deferred (some [])) := (B16.out.block D2 (lt_of_block HK2.out)).trans HK2.out
        clear hb16 B15 B16
        go_wp2_with fail
        have hkd : (w16.putObj D2 (.deferred none)).heap[D]? = some (.deferred (some [])) := by
          rw [(grownBy_putObj' _ D2 _).block D (lt_of_block CA16.out.dfr) (by simp; omega)]; exact CA16.out.dfr
        have hDw' : w.heap.size ≤ D2 := by rw [← HR0.out]; omega
        have hDw2 : w.heap.size ≤ D := by rw [← HR0.out]; omega
        refine ⟨by simp, .inl ⟨_, _, rfl, run_takeDeferred hK16, by simp, .inl ⟨_, _, rfl, run_takeDeferred hkd, _, results_tmp rfl _ _ _, rfl, ?_⟩⟩⟩
        exact (CA16.out.bel.trans (belowK_b (w := w) (Nat.le_refl _) _ D2 _ _ hDw' hK16 rfl rfl)).trans (belowK_b (w := w) (Nat.le_refl _) _ D _ _ hDw2 hkd rfl rfl)
end Go.Proofs.Ytbfmanhbbancmaa
