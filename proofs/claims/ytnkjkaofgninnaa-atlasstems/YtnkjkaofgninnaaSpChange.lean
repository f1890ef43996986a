/- What change of a Map of numbers leaves. Conditions: the Map's pieces rise. -/
import Derived.Test.YtnkjkaofgninnaaSpSlice
namespace Go.Proofs.Ytnkjkaofgninnaa
open Go.RowKit Go.Shelf
attribute [local go_sem] Oper.semAt_some

/-- The pieces that stand where s is, once it is changed. -/
def anewL (m put : List Pc) (s : Sp) : List Pc := (cutP (s.2, 9223372036854775807) m).foldl layL (put.foldl layL ((cutP (-9223372036854775808, s.1) m).foldl layL []))
def chL (l put : List Pc) (s : Sp) (i j : Nat) : List Pc := l.take i ++ anewL ((l.take j).drop i) put s ++ l.drop j
theorem layL_len (p : List Pc) (x : Pc) : (layL p x).length ≤ p.length + 1 := by
  rcases List.eq_nil_or_concat p with rfl | ⟨q, y, rfl⟩
  · simp [layL_nil]
  · rw [List.concat_eq_append, layL_snoc]; split <;> simp
theorem layF_len (l p : List Pc) : (l.foldl layL p).length ≤ p.length + l.length := by
  induction l generalizing p with
  | nil => simp
  | cons x l ih =>
    have h1 := ih (layL p x)
    have h2 := layL_len p x
    simp only [List.foldl_cons, List.length_cons]; omega
theorem OwnP.turned {X Y : World} {row : Option Nat} {base : Nat} {u : Value} {l : List Pc} (h : OwnP X base u l) (hg : X.grownBy Y row) (hr : ∀ r, row = some r → ∃ o : Obj, X.heap[r]? = some o ∧ o.isCells = false) : OwnP Y base u l := by
  obtain ⟨h1, h2⟩ := h
  refine ⟨h1, ?_⟩
  rcases h2 with h2 | ⟨g, cap, cur, hv, hb, hh, r⟩
  · exact Or.inl h2
  · refine Or.inr ⟨g, cap, cur, hv, hb, ?_, r⟩
    rw [hg.block g (lt_of_block hh) (fun e => by obtain ⟨o, ho, hc⟩ := hr g e.symm; rw [hh] at ho; cases ho; cases hc)]
    exact hh
theorem cells_turnedP {X Y : World} {row : Option Nat} {k : Nat} {cs : Array Value} {t : TypeId} {fr : Nat × Nat} (h : X.heap[k]? = some (.cells cs t fr)) (hg : X.grownBy Y row) (hr : ∀ r, row = some r → ∃ o : Obj, X.heap[r]? = some o ∧ o.isCells = false) : Y.heap[k]? = some (.cells cs t fr) := by
  rw [hg.block k (lt_of_block h) (fun e => by obtain ⟨o, ho, hc⟩ := hr k e.symm; rw [h] at ho; cases ho; cases hc)]
  exact h
theorem OwnP.not_block {W : World} {base : Nat} {u : Value} {l : List Pc} (h : OwnP W base u l) {k : Nat} {cs : Array Value} {t : TypeId} {fr : Nat × Nat} (hk : W.heap[k]? = some (.cells cs t fr)) (ht : t ≠ 102) : some k ≠ u.ownBlock := by
  obtain ⟨h1, h2⟩ := h
  rcases h2 with ⟨rfl, _⟩ | ⟨g, cap, cur, rfl, _, hh, -⟩
  · intro e; cases e
  · intro e
    have : k = g := by simpa [Value.ownBlock] using e
    subst this
    rw [hk] at hh
    cases hh
    exact ht rfl
/-- What the loops of change keep: the row that is made, in its box A; all that was there but the box. -/
structure Mak (w1 : World) (A : Nat) (acc : List Pc) (W : World) : Prop where
  row : ∃ u, Boxed W A 97 u ∧ OwnP W w1.heap.size u acc
  size : w1.heap.size ≤ W.heap.size
  grown : w1.grownBy W (some A)
theorem Mak.turned {w1 X Y : World} {A : Nat} {acc : List Pc} {row : Option Nat} (h : Mak w1 A acc X) (hg : X.grownBy Y row) (hr : ∀ r, row = some r → w1.heap.size ≤ r ∧ ∃ o : Obj, X.heap[r]? = some o ∧ o.isCells = false) : Mak w1 A acc Y := by
  obtain ⟨⟨u, hb, hu⟩, hz, hbl⟩ := h
  have hr' : ∀ r, row = some r → ∃ o : Obj, X.heap[r]? = some o ∧ o.isCells = false := fun r e => (hr r e).2
  exact ⟨⟨u, cells_turnedP hb hg hr', hu.turned hg hr'⟩, Nat.le_trans hz hg.size, hbl.andThen hg fun j e => .inl (hr j e).1⟩
theorem Mak.alloc {w1 X : World} {A : Nat} {acc : List Pc} (h : Mak w1 A acc X) (o : Obj) : Mak w1 A acc (X.alloc o) := h.turned (World.grownBy_alloc X o none) fun r e => by cases e
theorem Mak.later {w1 X Y : World} {A : Nat} {acc : List Pc} (h : Mak w1 A acc X) (hb : Below X.heap.size X Y) : Mak w1 A acc Y := h.turned (row := none) ⟨hb.os, hb.tape, hb.output, hb.size, fun k hk _ => hb.block k hk⟩ fun r e => by cases e
/-- A piece more is laid, and the row is put into the box. -/
theorem Mak.laid {w1 X Y : World} {A : Nat} {acc acc' : List Pc} {v' : Value} (h : Mak w1 A acc X) (hA : A < w1.heap.size) (hb : Below w1.heap.size X Y) (ho : OwnP Y w1.heap.size v' acc') : Mak w1 A acc' (Y.setCell ⟨A, 0, none⟩ v') := by
  obtain ⟨⟨u, hx, hu⟩, hz, hg⟩ := h
  refine ⟨⟨v', Boxed.set _ ((hb.block A hA).trans hx), ho.kept fun k hk _ => Below.heap_setCell Y ⟨A, 0, none⟩ _ k (by simp; omega)⟩, by have := hb.size; simp; omega, ?_⟩
  have g2 : X.grownBy Y (some A) ∨ True := .inr trivial
  refine ⟨hb.os.trans hg.os, hb.tape.trans hg.tape, hb.output.trans hg.output, by have := hb.size; simp; omega, fun k hk hne => ?_⟩
  rw [Below.heap_setCell Y ⟨A, 0, none⟩ _ k (by rintro rfl; exact hne rfl), hb.block k hk]
  exact hg.block k hk hne
theorem OwnP.lower {w : World} {base base' : Nat} {v : Value} {l : List Pc} (h : OwnP w base v l) (hb : base' ≤ base) : OwnP w base' v l := by
  obtain ⟨h1, h2⟩ := h
  refine ⟨h1, ?_⟩
  rcases h2 with h2 | ⟨g, cap, cur, hv, hg, r⟩
  · exact Or.inl h2
  · exact Or.inr ⟨g, cap, cur, hv, by omega, r⟩
/-- How change ends: the row is put into the Map, and two marks are taken. -/
theorem change_end {w W w7 : World} {b D D2 : Nat} {v v7 : Value} {r : List Pc} (hlt : b < w.heap.size) (h1 : Below w.heap.size w W) (h2 : Below W.heap.size W w7) (hb : W.heap[b]? = some (.cells #[v] 99 (0, 0)))
    (hk2 : (w7.setCell ⟨b, 0, none⟩ v7).heap[D2]? = some (.deferred (some []))) (hkd : ((w7.setCell ⟨b, 0, none⟩ v7).putObj D2 (.deferred none)).heap[D]? = some (.deferred (some []))) (hD : w.heap.size ≤ D) (hD2 : w.heap.size ≤ D2) (ho : OwnP w7 w.heap.size v7 r) :
    ((((w7.setCell ⟨b, 0, none⟩ v7).putObj D2 (.deferred none)).putObj D (.deferred none)).heap[b]? = some (.cells #[v7] 99 (0, 0))) ∧ OwnP (((w7.setCell ⟨b, 0, none⟩ v7).putObj D2 (.deferred none)).putObj D (.deferred none)) w.heap.size v7 r ∧
    w.grownBy (((w7.setCell ⟨b, 0, none⟩ v7).putObj D2 (.deferred none)).putObj D (.deferred none)) (some b) ∧ KeepsOthers w (((w7.setCell ⟨b, 0, none⟩ v7).putObj D2 (.deferred none)).putObj D (.deferred none)) := by
  have hbw : W.heap.size ≤ w7.heap.size := h2.size
  have hbl : b < W.heap.size := lt_of_block hb
  have hb7 : Boxed w7 b 99 v := (h2.block b hbl).trans hb
  have x8 : (w7.setCell ⟨b, 0, none⟩ v7).heap[b]? = some (.cells #[v7] 99 (0, 0)) := Boxed.set v7 hb7
  have r2 : ∀ r, some D2 = some r → ∃ o : Obj, (w7.setCell ⟨b, 0, none⟩ v7).heap[r]? = some o ∧ o.isCells = false := fun r e => by cases e; exact ⟨_, hk2, rfl⟩
  have rd : ∀ r, some D = some r → ∃ o : Obj, ((w7.setCell ⟨b, 0, none⟩ v7).putObj D2 (.deferred none)).heap[r]? = some o ∧ o.isCells = false := fun r e => by cases e; exact ⟨_, hkd, rfl⟩
  have g2 := grownBy_putObj' (w7.setCell ⟨b, 0, none⟩ v7) D2 (.deferred none)
  have gd := grownBy_putObj' ((w7.setCell ⟨b, 0, none⟩ v7).putObj D2 (.deferred none)) D (.deferred none)
  have x10 := cells_turnedP (cells_turnedP x8 g2 r2) gd rd
  have ho8 : OwnP (w7.setCell ⟨b, 0, none⟩ v7) w.heap.size v7 r := ho.kept fun k hk _ => Below.heap_setCell w7 ⟨b, 0, none⟩ _ k (by simp; omega)
  have hg7 : w.grownBy w7 (some b) := grown_of_below (h1.trans (h2.mono h1.size)) _
  have hg8 : w.grownBy (w7.setCell ⟨b, 0, none⟩ v7) (some b) := hg7.trans (grownBy_setCell' w7 b v7)
  have hg10 : w.grownBy (((w7.setCell ⟨b, 0, none⟩ v7).putObj D2 (.deferred none)).putObj D (.deferred none)) (some b) :=
    (hg8.andThen g2 fun j e => by cases e; exact .inl hD2).andThen gd fun j e => by cases e; exact .inl hD
  refine ⟨x10, (ho8.turned g2 r2).turned gd rd, hg10, KeepsOthers.of_grownBy hg10 fun j o hj hoj => ?_⟩
  cases hj
  rw [← h1.block b hlt, hb] at hoj
  cases hoj; rfl
/-- The frame of a round: the piece x lies in a box. -/
def LaidAt (Fr : Pc → Nat → Act) (x : Pc) (a' : Act) (W : World) : Prop := ∃ Bx, W.heap[Bx]? = some (.cells #[.int .i64 x.1, .int .i64 x.2.1, .int .i64 x.2.2] 102 (0, 0)) ∧ a' = Fr x Bx
set_option maxRecDepth 100000 in
set_option maxHeartbeats 4000000 in
theorem change_walk (b : Nat) (va : Option Addr) (vc : Nat) (pv : Value) (l put : List Pc) (s : Sp) (w : World) (hb : w.heap[b]? = some (.cells #[.slice va l.length vc] 99 (0, 0))) (hr : RowP w (.slice va l.length vc) l) (hp : HeldP w pv put)
    (hl : l.length ≤ 1000000) (hpl : put.length ≤ 1000000) (hR : Rise3 l) (hne : ∀ x ∈ l, x.1 < x.2.1) (hs : s.1 < s.2) :
    Calls Try.prog 65 #[.pointer (some ⟨b, 0, none⟩), .agg #[.int .i64 s.1, .int .i64 s.2], pv] w fun e w' => e = .returned (.tuple #[]) ∧ ∃ i j v', i ≤ j ∧ j ≤ l.length ∧
      (∀ k, (h : k < l.length) → k < i → l[k].2.1 < s.1) ∧ (∀ k, (h : k < l.length) → i ≤ k → s.1 ≤ l[k].2.1) ∧ (∀ k, (h : k < l.length) → k < j → l[k].1 ≤ s.2) ∧ (∀ k, (h : k < l.length) → j ≤ k → s.2 < l[k].1) ∧
      w'.heap[b]? = some (.cells #[v'] 99 (0, 0)) ∧ OwnP w' w.heap.size v' (chL l put s i j) ∧ w.grownBy w' (some b) ∧ KeepsOthers w w' := by
  have HB := hid hb
  have HR := hid hr
  have HP := hid hp
  have HRI := hid hR
  have HNE := hid hne
  have HS := hid hs
  have hlt := lt_of_block hb
  obtain ⟨s1, s2⟩ := s
  have hdec : decide (s2 ≤ s1) = false := decide_eq_false (by simp only at hs; omega)
  obtain ⟨pa, pc, rfl⟩ : ∃ pa pc, pv = .slice pa put.length pc := by
    rcases hp with ⟨rfl, rfl⟩ | ⟨b, o, cap, ob, rfl, -⟩
    · exact ⟨_, _, rfl⟩
    · exact ⟨_, _, rfl⟩
  clear hb hr hp hR hne hs
  simp only at HS ⊢
  refine (callsIn_wide (n := 3)).1 ?_
  refine callsIn_of_wp_marks Try.func65 rfl trivial ?_ rfl
  simp only [Try.ntmps65, List.size_toArray, List.length_cons, List.length_nil, Nat.reduceAdd, Nat.reduceSub, Array.replicate_succ, Array.replicate_zero, List.push_toArray, List.append_toArray, List.nil_append, List.cons_append]
  refine wpIn_wide.2 ?_
  go_wp2_with (first
    | (go_at_call 79; refine (empty_any (s1, s2) _).mono ?_; rintro e w1 ⟨rfl, hw1⟩; simp only [hdec]; have e0 : w1.heap[w.heap.size]? = some (.cells #[.int .i64 s1, .int .i64 s2] 43 (0, 0)) := (by rw [hw1, Below.heap_alloc _ _ _ (by simp)]; exact heap_alloc_new _ _); have b1 : Below w.heap.size w w1 := (by rw [hw1]; exact ((Below.refl _ _).alloc (Nat.le_refl _) _).alloc (by simp) _); have k1 : KeepsOthers w w1 := (by rw [hw1]; exact (KeepsOthers.alloc _ _).trans (KeepsOthers.alloc _ _)); have c0 : w1.cell? ⟨w.heap.size, 0, none⟩ = some (.int .i64 s1) := (by rw [cell_of_row _ _ _ _ _ _ e0]; rfl); have c1 : w1.cell? ⟨w.heap.size, 1, none⟩ = some (.int .i64 s2) := (by rw [cell_of_row _ _ _ _ _ _ e0]; rfl); have E0 := hid e0; have B1 := hid b1; have K1 := hid k1; clear hw1 e0 b1 k1)
    | (go_at_call 80; refine (near_any b (.slice va l.length vc) l (s1, s2) _ ⟨(by rw [B1.out.block b hlt]; exact HB.out), (OwnP.pcs HR.out).below B1.out⟩ (by omega) HRI.out).mono ?_; rintro e w2 ⟨i, j, rfl, hi, hj, f1, f2, f3, f4, hb2⟩; have F1 := hid f1; have F2 := hid f2; have F3 := hid f3; have F4 := hid f4; have B2 := hid hb2; clear f1 f2 f3 f4 hb2 c0 c1))
  obtain ⟨A, hA⟩ : ∃ A, A = w2.heap.size := ⟨_, rfl⟩
  obtain ⟨w3, hw3⟩ : ∃ w3, w3 = w2.alloc (.cells #[.slice none 0 0] 97) := ⟨_, rfl⟩
  rw [← hw3, ← hA]
  have b3 : Below w2.heap.size w2 w3 := by rw [hw3]; exact (Below.refl _ _).alloc (Nat.le_refl _) _
  have X3 : Hid (Boxed w3 A 97 (.slice none 0 0)) := hid (by rw [hw3, hA]; exact Boxed.new _ _ _)
  have bs2 : w.heap.size < w2.heap.size := Nat.lt_of_lt_of_le (lt_of_block E0.out) B2.out.size
  have B3 : Hid (Below w.heap.size w w3) := hid (B1.out.trans ((B2.out.mono B1.out.size).trans (b3.mono (by omega))))
  have E3 : Hid (w3.heap[w.heap.size]? = some (.cells #[.int .i64 s1, .int .i64 s2] 43 (0, 0))) := hid (by rw [b3.block _ bs2, B2.out.block _ (lt_of_block E0.out)]; exact E0.out)
  have K3 : Hid (KeepsOthers w w3) := hid (K1.out.trans ⟨Nat.le_trans B2.out.size b3.size, fun k o hk _ => by rw [b3.block k (Nat.lt_of_lt_of_le (lt_of_block hk) B2.out.size), B2.out.block k (lt_of_block hk)]; exact hk⟩)
  have hA3 : A < w3.heap.size := by rw [hA, hw3]; simp
  have hAw : w.heap.size < A := by omega
  have hij : i ≤ j := by
    rcases Nat.lt_or_ge j i with h | h
    · have hjl : j < l.length := by omega
      have h1 := F1.out j hjl h
      have h2 := F4.out j hjl (Nat.le_refl _)
      have h3 := HNE.out l[j] (List.getElem_mem hjl)
      have h4 := HS.out
      omega
    · exact h
  have HIJ := hid hij
  have HI := hid hi
  have HJ := hid hj
  have hh := HR.out.held i j hij hj
  have hsl := run_sliceP va l.length vc i j hij hh.1
  have HH := hid hh.2
  clear hh hij hi hj hA hw3 b3 bs2 B1 B2 E0 K1
  have c3b : ∀ W, Below w3.heap.size w3 W → W.cell? ⟨b, 0, none⟩ = some (.slice va l.length vc) ∧ W.cell? ⟨w.heap.size, 0, none⟩ = some (.int .i64 s1) := by
    intro W hW
    refine ⟨cell_later hW ?_, cell_later hW ?_⟩
    · rw [B3.out.cell (p := ⟨b, 0, none⟩) hlt, cell_of_row _ _ _ _ _ _ HB.out]; rfl
    · rw [cell_of_row _ _ _ _ _ _ E3.out]; rfl
  have CB := hid c3b
  clear c3b
  go_region_held3 (fun W => W.cell? ⟨b, 0, none⟩ = some (.slice va l.length vc) ∧ W.cell? ⟨w.heap.size, 0, none⟩ = some (.int .i64 s1)) (first | exact CB.out _ ((Below.refl _ _).drew) | exact CB.out _ BW.out) (first | (go_at_call 81; refine (within_any _ ((l.take j).drop i) (-9223372036854775808, s1) _ ?_).mono ?_; exact (HR.out.part i j HIJ.out HJ.out).below (B3.out.drew); rintro e w4 ⟨rfl, hw4⟩; have BW : Hid (Below w3.heap.size w3 w4) := hid (by rw [hw4]; exact (((Below.refl _ _).drew).alloc (Nat.le_refl _) _).alloc (by simp) _); have HW4 := hid hw4; clear hw4))
  have hs4 : w3.heap.size + 1 + 1 = w4.heap.size := by rw [HW4.out]; simp
  have hBp : w4.heap[w3.heap.size]? = some (.cells #[sliceP va i j vc] 97 (0, 0)) := by
    rw [HW4.out, Below.heap_alloc _ _ _ (by simp)]; exact heap_alloc_new _ _
  have hBs : w4.heap[w3.heap.size + 1]? = some (.cells #[.int .i64 (-9223372036854775808), .int .i64 s1] 43 (0, 0)) := by
    rw [HW4.out]; exact heap_alloc2_new w3.drew _ _
  have X4 : Hid (Boxed w4 A 97 (.slice none 0 0)) := hid ((BW.out.block A hA3).trans X3.out)
  have E4 : Hid (w4.heap[w.heap.size]? = some (.cells #[.int .i64 s1, .int .i64 s2] 43 (0, 0))) := hid (by rw [BW.out.block _ (lt_of_block E3.out)]; exact E3.out)
  have B4 : Hid (Below w.heap.size w w4) := hid (B3.out.trans (BW.out.mono B3.out.size))
  have K4 : Hid (KeepsOthers w w4) := hid (K3.out.trans ⟨BW.out.size, fun k o hk _ => by rw [BW.out.block k (lt_of_block hk)]; exact hk⟩)
  have hww : w.heap.size ≤ w3.heap.size := B3.out.size
  have hsv : ∀ k, (sliceP va i j vc).ownBlock = some k → k < w.heap.size := fun k hk => HR.out.lt k (sliceP_own va l.length i j vc k hk)
  have hml : ((l.take j).drop i).length ≤ 1000000 := by simp; omega
  have HMID := hid (HH.out.below B4.out)
  obtain ⟨mid, hmid⟩ : ∃ mid, mid = (l.take j).drop i := ⟨_, rfl⟩
  rw [← hmid] at HMID hml
  have HMD := hid hmid
  clear hmid X3 E3 K3 HW4 BW CB HH
  go_wp2_with fail
  refine (wpIn_wide (n := 3)).1 ?_
  refine wpIn_rangeFunc_ownH (F := Fence.wide) rfl (by omega) (gf := 93) (lb := #[.pointer (some ⟨w3.heap.size, 0, none⟩), .pointer (some ⟨w3.heap.size + 1, 0, none⟩)]) rfl trivial (enters_of Try.func93 (by kernel_rfl) rfl)
    (within_stops _ (by omega) w3.heap.size (w3.heap.size + 1) (sliceP va i j vc) (-9223372036854775808, s1) mid (by omega) w4 hBp hBs HMID.out) KeptP.trans ?keptb (Below.refl _ _) (fun _ => rfl)
    (fun pre W => Mak w4 A (pre.foldl layL []) W)
    (fun _ _ _ => False) ?hI (fun _ _ _ _ _ hs _ _ => hs) ⟨⟨_, X4.out, OwnP.nil _ _⟩, Nat.le_refl _, World.grownBy.refl _ _⟩
    (LaidAt ?Fr)
    ?hAx ?assign ?body ?done ?stop
  case keptb =>
    intro W y o o' hy ho _ _ k hk
    have h1 : k < w4.heap.size := by
      rcases hk with rfl | rfl | hk
      · omega
      · omega
      · have := hsv k hk; omega
    have h2 := lt_of_block ho
    refine (grownBy_putObj' W y o').block k (by omega) fun e => ?_
    have h3 : k = y := by simpa using e
    omega
  case hI =>
    intro s X Y row h hg hr
    exact h.turned hg hr
  case assign =>
    intro y pre x W K h hK
    gi_wp2
    obtain ⟨Bx, hBx⟩ : ∃ Bx, Bx = W.heap.size := ⟨_, rfl⟩
    refine hK _ _ ((KeepsOthers.alloc _ _).from _) ?_ (h.alloc _) ?ax
    case ax =>
      rw [← hBx]
      refine ⟨Bx, by rw [hBx]; exact heap_alloc_new _ _, ?fr⟩
      clear hK hBx
      case fr => with_reducible rfl
    intro k hk
    refine Below.heap_alloc _ _ _ (Nat.lt_of_lt_of_le ?_ h.size)
    rcases hk with rfl | rfl | hk
    · omega
    · omega
    · have := hsv k hk; omega
  case hAx =>
    rintro x a' s X Y row ⟨Bx, h1, h2⟩ hg hr
    exact ⟨Bx, cells_turnedP h1 hg fun r e => (hr r e).2, h2⟩
  case body =>
    rintro y pre x a' W hy _ hM ⟨Bx, hX, rfl⟩ hlt'
    have HM := hid hM
    obtain ⟨⟨u, hbx, hu⟩, hz, hg⟩ := hM
    obtain ⟨ua, uc, rfl⟩ := hu.shape
    have hbc := hbx.cell
    have hx0 : W.cell? ⟨Bx, 0, none⟩ = some (.int .i64 x.1) := by rw [cell_of_row W Bx 0 _ _ _ hX]; rfl
    have hx1 : W.cell? ⟨Bx, 1, none⟩ = some (.int .i64 x.2.1) := by rw [cell_of_row W Bx 1 _ _ _ hX]; rfl
    have hx2 : W.cell? ⟨Bx, 2, none⟩ = some (.int .i64 x.2.2) := by rw [cell_of_row W Bx 2 _ _ _ hX]; rfl
    have hpl' : (pre.foldl layL []).length ≤ 1000000000 := by have := layF_len pre []; simp at this; omega
    have HG := hid (lay_any w4.heap.size ua uc (pre.foldl layL []) x W hu hz hpl')
    have HFO := hid (show (pre ++ [x]).foldl layL [] = layL (pre.foldl layL []) x by simp)
    have HBX := hid hbx
    have hA4 : A < w4.heap.size := by omega
    clear hbx hu hX hpl' hg
    generalize pre.foldl layL [] = p at *
    gi_wp2_with (refine ⟨trivial, ?_⟩; gi_at_call 82; refine (CallsIn.inRound y (callsIn_wide.2 HG.out)).mono ?_; rintro e W2 ⟨va2, vc2, rfl, ho2, hb2, hk2, hg2⟩; have hbk := hb2.block A hA4; have hc2 : W2.cell? ⟨A, 0, none⟩ = some (.slice ua p.length uc) := (World.cell?_of_block hbk).trans hbc; have hf2 : W2.frozen? ⟨A, 0, none⟩ = false := (World.frozen?_of_block hbk).trans HBX.out.frozen)
    refine ⟨(hk2.trans (KeepsOthers.setCell _ _ _)).from _, ?_, ?_⟩
    · intro k hk
      have h1 : k < w4.heap.size ∧ k ≠ A := by
        rcases hk with rfl | rfl | hk
        · omega
        · omega
        · have := hsv k hk; omega
      rw [Below.heap_setCell W2 ⟨A, 0, none⟩ _ k h1.2]
      exact hb2.block k h1.1
    · show Mak w4 A ((pre ++ [x]).foldl layL []) _
      rw [HFO.out]
      exact HM.out.laid hA4 hb2 ho2
  case stop =>
    rintro D c pre W _ _ h _
    exact h.elim
  intro D ys W hD hys hM hK
  obtain ⟨acc, hacc⟩ : ∃ acc, acc = ys.foldl layL [] := ⟨_, rfl⟩
  rw [← hacc] at hM
  have HACC : Hid (acc = (cutP (-9223372036854775808, s1) mid).foldl layL []) := hid (by rw [hacc, hys])
  have hal : acc.length ≤ 1000000 := by
    rw [hacc, hys]; have h1 := layF_len (cutP (-9223372036854775808, s1) mid) []; have h2 := cutP_len (-9223372036854775808, s1) mid; simp at h1; omega
  have HM := hid hM
  have HK := hid hK
  have hDl := lt_of_block hK
  clear hacc hys hM hK
  have hA4 : A < w4.heap.size := by omega
  have hDA : D ≠ A := by omega
  go_wp2_with fail
  go_loopw [42] (fun kv wr => ∃ k : Nat, k ≤ put.length ∧ kv = .int .i64 k ∧ Mak w4 A ((put.take k).foldl layL acc) wr ∧ wr.heap[D]? = some (.deferred (some []))) (fun kv _ => put.length - (intOf kv).toNat)
  case atStart => exact ⟨0, Nat.zero_le _, rfl, HM.out, HK.out⟩
  case round =>
    obtain ⟨k, hk, rfl, hM, hK⟩ := hrel
    clear HM HK hDl
    have HM := hid hM
    have HK := hid hK
    by_cases hlt' : k < put.length
    · obtain ⟨pb, po, rfl, hpc⟩ : ∃ pb po, pa = some ⟨pb, po, none⟩ ∧ ∀ W : World, (∀ q, q < w.heap.size → W.heap[q]? = w.heap[q]?) → W.cell? ⟨pb, po + k * 3, none⟩ = some (.int .i64 put[k].1) ∧ W.cell? ⟨pb, po + k * 3 + 1, none⟩ = some (.int .i64 put[k].2.1) ∧ W.cell? ⟨pb, po + k * 3 + 2, none⟩ = some (.int .i64 put[k].2.2) := by
        rcases HP.out with ⟨_, h0⟩ | ⟨pb, po, cap, ob, e, hob, hc⟩
        · rw [h0] at hlt'; simp at hlt'
        · cases e
          refine ⟨pb, po, rfl, fun W hW => ?_⟩
          have hq := hW pb (lt_of_block hob)
          have hh := hc k hlt'
          exact ⟨(World.cell?_of_block hq).trans hh.1, (World.cell?_of_block hq).trans hh.2.1, (World.cell?_of_block hq).trans hh.2.2⟩
      obtain ⟨⟨u, hbx, hu⟩, hz, hg⟩ := hM
      obtain ⟨c0, c1, c2⟩ := hpc wr (fun q hq => by rw [hg.block q (by omega) (by simp; omega), B4.out.block q hq])
      obtain ⟨ua, uc, rfl⟩ := hu.shape
      have hbc := hbx.cell
      have HT := hid (show (put.take (k + 1)).foldl layL acc = layL ((put.take k).foldl layL acc) put[k] by rw [List.take_succ_eq_append_getElem hlt', List.foldl_append]; rfl)
      have hpl' : ((put.take k).foldl layL acc).length ≤ 1000000000 := by have := layF_len (put.take k) acc; simp at this; omega
      obtain ⟨x, hx⟩ : ∃ x, x = put[k] := ⟨_, rfl⟩
      rw [← hx] at c0 c1 c2 HT
      generalize (put.take k).foldl layL acc = p at *
      have ba : Below wr.heap.size wr (wr.alloc (.cells #[.int .i64 x.1, .int .i64 x.2.1, .int .i64 x.2.2] 102)) := (Below.refl _ _).alloc (Nat.le_refl _) _
      have HG := hid (lay_any w4.heap.size ua uc p x _ (hu.below ba) (Nat.le_trans hz ba.size) hpl')
      have HBX := hid (hbx.alloc (.cells #[.int .i64 x.1, .int .i64 x.2.1, .int .i64 x.2.2] 102))
      have HMa := hid (HM.out.alloc (.cells #[.int .i64 x.1, .int .i64 x.2.1, .int .i64 x.2.2] 102))
      have HKa := hid (show (wr.alloc (.cells #[.int .i64 x.1, .int .i64 x.2.1, .int .i64 x.2.2] 102)).heap[D]? = some (.deferred (some [])) by rw [ba.block D (lt_of_block hK)]; exact hK)
      have hbc2 := HBX.out.cell
      clear hbx hu hpl' hg hpc hx ba HM HK hK
      have hk0 : (0 : Int) ≤ (k : Int) := by omega
      have hk1 : (k : Int) < (put.length : Int) := by omega
      go_wp2_with (go_at_call 82; refine HG.out.mono ?_; rintro e W2 ⟨va2, vc2, rfl, ho2, hb2, hk2, hg2⟩; have hbk := hb2.block A hA4; have hc2 : W2.cell? ⟨A, 0, none⟩ = some (.slice ua p.length uc) := (World.cell?_of_block hbk).trans HBX.out.cell; have hf2 : W2.frozen? ⟨A, 0, none⟩ = false := (World.frozen?_of_block hbk).trans HBX.out.frozen; have HO2 := hid ho2; have HB2 := hid hb2; have HK2 := hid hk2; clear ho2 hb2 hk2)
      go_roundw
      case rel =>
        refine ⟨k + 1, by omega, by go_num, ?_, ?_⟩
        · rw [HT.out]; exact HMa.out.laid hA4 HB2.out HO2.out
        · rw [Below.heap_setCell W2 ⟨A, 0, none⟩ _ D hDA]
          exact HK2.out.same D _ HKa.out rfl
      case measure => simp [intOf]; omega
    · have hk1 : ¬ (k : Int) < (put.length : Int) := by omega
      obtain rfl : k = put.length := by omega
      rw [List.take_length] at HM
      clear hM hK
      go_wp2_with fail
      obtain ⟨acc2, hacc2⟩ : ∃ acc2, acc2 = put.foldl layL acc := ⟨_, rfl⟩
      rw [← hacc2] at HM
      have HACC2 := hid hacc2
      have hal2 : acc2.length ≤ 2000000 := by rw [hacc2]; have := layF_len put acc; omega
      have CB : Hid (∀ W, Below wr.heap.size wr W → W.cell? ⟨b, 0, none⟩ = some (.slice va l.length vc) ∧ W.cell? ⟨w.heap.size, 1, none⟩ = some (.int .i64 s2)) := hid (by
        intro W hW
        have hg := HM.out.grown
        refine ⟨cell_later hW ?_, cell_later hW ?_⟩
        · rw [World.cell?_of_block (a := ⟨b, 0, none⟩) (hg.block b (by omega) (by simp; omega)), World.cell?_of_block (a := ⟨b, 0, none⟩) (B4.out.block b hlt), cell_of_row _ _ _ _ _ _ HB.out]; rfl
        · rw [World.cell?_of_block (a := ⟨w.heap.size, 1, none⟩) (hg.block w.heap.size (by omega) (by simp; omega)), cell_of_row _ _ _ _ _ _ E4.out]; rfl)
      have hpart : Pcs wr (sliceP va i j vc) mid := by
        rw [HMD.out]
        refine RowP.part (RowP.kept HR.out fun k hk => ?_) i j HIJ.out HJ.out
        have := HR.out.lt k hk
        rw [HM.out.grown.block k (by omega) (by simp; omega), B4.out.block k this]
      have HMID2 : Hid (HeldP wr (sliceP va i j vc) mid) := hid (by
        rw [HMD.out]
        refine (RowP.held (RowP.kept HR.out fun k hk => ?_) i j HIJ.out HJ.out).2
        have := HR.out.lt k hk
        rw [HM.out.grown.block k (by omega) (by simp; omega), B4.out.block k this])
      have HPART := hid hpart
      clear hacc2 hpart hal
      go_region_held3 (fun W => W.cell? ⟨b, 0, none⟩ = some (.slice va l.length vc) ∧ W.cell? ⟨w.heap.size, 1, none⟩ = some (.int .i64 s2)) (first | exact CB.out _ ((Below.refl _ _).drew) | exact CB.out _ BW.out) (first | (go_at_call 81; refine (within_any _ mid (s2, 9223372036854775807) _ ?_).mono ?_; exact HPART.out.below ((Below.refl _ _).drew); rintro e w6 ⟨rfl, hw6⟩; have BW : Hid (Below wr.heap.size wr w6) := hid (by rw [hw6]; exact (((Below.refl _ _).drew).alloc (Nat.le_refl _) _).alloc (by simp) _); have HW6 := hid hw6; clear hw6))
      have hs6 : wr.heap.size + 1 + 1 = w6.heap.size := by rw [HW6.out]; simp
      have hBp2 : w6.heap[wr.heap.size]? = some (.cells #[sliceP va i j vc] 97 (0, 0)) := by
        rw [HW6.out, Below.heap_alloc _ _ _ (by simp)]; exact heap_alloc_new _ _
      have hBs2 : w6.heap[wr.heap.size + 1]? = some (.cells #[.int .i64 s2, .int .i64 9223372036854775807] 43 (0, 0)) := by
        rw [HW6.out]; exact heap_alloc2_new wr.drew _ _
      have M6 := hid (HM.out.later BW.out)
      have K6 : Hid (w6.heap[D]? = some (.deferred (some []))) := hid (by rw [BW.out.block D (lt_of_block HK.out)]; exact HK.out)
      have HMID6 := hid (HMID2.out.below BW.out)
      have hz := HM.out.size
      have hz4 : w4.heap.size ≤ w6.heap.size := by omega
      have hDl := lt_of_block HK.out
      clear HW6 CB HM HK HMID2 HPART
      go_wp2_with fail
      refine (wpIn_wide (n := 3)).1 ?_
      refine wpIn_rangeFunc_ownH (F := Fence.wide) rfl (by omega) (gf := 93) (lb := #[.pointer (some ⟨wr.heap.size, 0, none⟩), .pointer (some ⟨wr.heap.size + 1, 0, none⟩)]) rfl trivial (enters_of Try.func93 (by kernel_rfl) rfl)
        (within_stops _ (by omega) wr.heap.size (wr.heap.size + 1) (sliceP va i j vc) (s2, 9223372036854775807) mid (by omega) w6 hBp2 hBs2 HMID6.out) KeptP.trans ?keptb2 (Below.refl _ _) (fun _ => rfl)
        (fun pre W => (Mak w4 A (pre.foldl layL acc2) W ∧ W.heap[D]? = some (.deferred (some []))) ∧ w6.heap.size ≤ W.heap.size ∧ W.heap[wr.heap.size]? = some (.cells #[sliceP va i j vc] 97 (0, 0)) ∧ W.heap[wr.heap.size + 1]? = some (.cells #[.int .i64 s2, .int .i64 9223372036854775807] 43 (0, 0)))
        (fun _ _ _ => False) ?hI2 (fun _ _ _ _ _ hs _ _ => hs) ⟨⟨M6.out, K6.out⟩, Nat.le_refl _, hBp2, hBs2⟩
        (LaidAt ?Fr2)
        ?hAx2 ?assign2 ?body2 ?done2 ?stop2
      case keptb2 =>
        intro W y o o' hy ho _ _ k hk
        have h1 : k < w6.heap.size := by
          rcases hk with rfl | rfl | hk
          · omega
          · omega
          · have := hsv k hk; omega
        have h2 := lt_of_block ho
        refine (grownBy_putObj' W y o').block k (by omega) fun e => ?_
        have h3 : k = y := by simpa using e
        omega
      case hI2 =>
        rintro s X Y row ⟨⟨h1, h2⟩, h3, h4, h5⟩ hg hr
        have hr' : ∀ r, row = some r → ∃ o : Obj, X.heap[r]? = some o ∧ o.isCells = false := fun r e => (hr r e).2
        refine ⟨⟨h1.turned hg fun r e => ⟨Nat.le_trans hz4 (hr r e).1, (hr r e).2⟩, ?_⟩, Nat.le_trans h3 hg.size, cells_turnedP h4 hg hr', cells_turnedP h5 hg hr'⟩
        rw [hg.block D (lt_of_block h2) fun e => by have := (hr D e.symm).1; omega]
        exact h2
      case assign2 =>
        rintro y pre x W K ⟨⟨h1, h2⟩, h3, h4, h5⟩ hK
        gi_wp2
        obtain ⟨Bx, hBx⟩ : ∃ Bx, Bx = W.heap.size := ⟨_, rfl⟩
        have hal : ∀ k, k < w6.heap.size → (W.alloc (.cells #[.int .i64 x.1, .int .i64 x.2.1, .int .i64 x.2.2] 102)).heap[k]? = W.heap[k]? := fun k hk => Below.heap_alloc _ _ _ (by omega)
        refine hK _ _ ((KeepsOthers.alloc _ _).from _) ?_ ⟨⟨h1.alloc _, by rw [hal D (by omega)]; exact h2⟩, by simp; omega, by rw [hal _ (by omega)]; exact h4, by rw [hal _ (by omega)]; exact h5⟩ ?ax2
        case ax2 =>
          rw [← hBx]
          refine ⟨Bx, by rw [hBx]; exact heap_alloc_new _ _, ?fr2⟩
          clear hK hBx
          case fr2 => with_reducible rfl
        intro k hk
        refine Below.heap_alloc _ _ _ (Nat.lt_of_lt_of_le ?_ h3)
        rcases hk with rfl | rfl | hk
        · omega
        · omega
        · have := hsv k hk; omega
      case hAx2 =>
        rintro x a' s X Y row ⟨Bx, h1, h2⟩ hg hr
        exact ⟨Bx, cells_turnedP h1 hg fun r e => (hr r e).2, h2⟩
      case body2 =>
        rintro y pre x a' W hy _ ⟨⟨hM, hKd⟩, h3, h4, h5⟩ ⟨Bx, hX, rfl⟩ hlt'
        have HM := hid hM
        have HKD := hid hKd
        have H4 := hid h4
        have H5 := hid h5
        obtain ⟨⟨u, hbx, hu⟩, hz, hg⟩ := hM
        obtain ⟨ua, uc, rfl⟩ := hu.shape
        have hbc := hbx.cell
        have hx0 : W.cell? ⟨Bx, 0, none⟩ = some (.int .i64 x.1) := by rw [cell_of_row W Bx 0 _ _ _ hX]; rfl
        have hx1 : W.cell? ⟨Bx, 1, none⟩ = some (.int .i64 x.2.1) := by rw [cell_of_row W Bx 1 _ _ _ hX]; rfl
        have hx2 : W.cell? ⟨Bx, 2, none⟩ = some (.int .i64 x.2.2) := by rw [cell_of_row W Bx 2 _ _ _ hX]; rfl
        have hpl' : (pre.foldl layL acc2).length ≤ 1000000000 := by have := layF_len pre acc2; omega
        have HG := hid (lay_any w4.heap.size ua uc (pre.foldl layL acc2) x W hu hz hpl')
        have HFO := hid (show (pre ++ [x]).foldl layL acc2 = layL (pre.foldl layL acc2) x by simp)
        have HBX := hid hbx
        have HU := hid hu
        clear hbx hu hX hpl' hg hKd h4 h5
        generalize pre.foldl layL acc2 = p at *
        gi_wp2_with (refine ⟨trivial, ?_⟩; gi_at_call 82; refine (CallsIn.inRound y (callsIn_wide.2 HG.out)).mono ?_; rintro e W2 ⟨va2, vc2, rfl, ho2, hb2, hk2, hg2⟩; have hbk := hb2.block A hA4; have hc2 : W2.cell? ⟨A, 0, none⟩ = some (.slice ua p.length uc) := (World.cell?_of_block hbk).trans hbc; have hf2 : W2.frozen? ⟨A, 0, none⟩ = false := (World.frozen?_of_block hbk).trans HBX.out.frozen)
        have hne : ∀ k, (k = wr.heap.size ∨ k = wr.heap.size + 1 ∨ (sliceP va i j vc).ownBlock = some k) → (W2.setCell ⟨A, 0, none⟩ (.slice va2 (layL p x).length vc2)).heap[k]? = W.heap[k]? := by
          intro k hk
          have h1 : k < w6.heap.size ∧ k ≠ A := by
            rcases hk with rfl | rfl | hk
            · omega
            · omega
            · have := hsv k hk; omega
          rw [Below.heap_setCell W2 ⟨A, 0, none⟩ _ k h1.2]
          refine hg2.block k (by omega) fun e => ?_
          rcases hk with rfl | rfl | hk
          · exact HU.out.not_block H4.out (by decide) e
          · exact HU.out.not_block H5.out (by decide) e
          · have := hsv k hk
            have := (World.ownsRow.lt HU.out k e.symm).1
            omega
        refine ⟨(hk2.trans (KeepsOthers.setCell _ _ _)).from _, hne, ⟨?_, ?_⟩, ?_, ?_, ?_⟩
        · rw [HFO.out]
          exact HM.out.laid hA4 hb2 ho2
        · rw [Below.heap_setCell W2 ⟨A, 0, none⟩ _ D hDA]
          exact hk2.same D _ HKD.out rfl
        · have := hb2.size; simp; omega
        · rw [hne _ (.inl rfl)]; exact H4.out
        · rw [hne _ (.inr (.inl rfl))]; exact H5.out
      case stop2 =>
        rintro D c pre W _ _ h _
        exact h.elim
      rintro D2 ys W hD2 hys ⟨⟨hM, hKd⟩, h3, -, -⟩ hK2
      obtain ⟨acc3, hacc3⟩ : ∃ acc3, acc3 = ys.foldl layL acc2 := ⟨_, rfl⟩
      rw [← hacc3] at hM
      have HACC3 : Hid (acc3 = anewL mid put (s1, s2)) := hid (by rw [hacc3, hys, HACC2.out, HACC.out]; rfl)
      have hal3 : acc3.length ≤ 3000000 := by rw [hacc3, hys]; have h1 := layF_len (cutP (s2, 9223372036854775807) mid) acc2; have h2 := cutP_len (s2, 9223372036854775807) mid; omega
      obtain ⟨⟨u, hbx, hu⟩, hz', hg⟩ := hM
      obtain ⟨ua, uc, rfl⟩ := hu.shape
      have hbb : W.heap[b]? = some (.cells #[.slice va l.length vc] 99 (0, 0)) := by rw [hg.block b (by omega) (by simp; omega), B4.out.block b hlt]; exact HB.out
      have BW : Hid (Below w.heap.size w W) := hid (B4.out.grown hg B4.out.size fun k e => by cases e; omega)
      have CB : Hid (∀ X, Below W.heap.size W X → X.cell? ⟨b, 0, none⟩ = some (.slice va l.length vc) ∧ X.cell? ⟨A, 0, none⟩ = some (.slice ua acc3.length uc) ∧ X.frozen? ⟨b, 0, none⟩ = false) := hid (by
        intro X hX
        have h1 : X.heap[b]? = _ := (hX.block b (lt_of_block hbb)).trans hbb
        refine ⟨by rw [cell_of_row _ _ _ _ _ _ h1]; rfl, cell_later hX hbx.cell, ?_⟩
        simp [World.frozen?, h1])
      have HROW : Hid (∀ X, Below W.heap.size W X → RowP X (.slice va l.length vc) l) := hid (by
        intro X hX
        refine RowP.kept HR.out fun k hk => ?_
        have := HR.out.lt k hk
        have h1 := BW.out.size
        rw [hX.block k (by omega), BW.out.block k this])
      have HU := hid hu
      have HK2 := hid hK2
      have HKD := hid hKd
      have hil : i ≤ l.length := HI.out
      have hjl : j ≤ l.length := HJ.out
      have hcap : l.length ≤ vc := (HR.out.held 0 l.length (Nat.zero_le _) (Nat.le_refl _)).1
      have hsh := run_sliceP_h va l.length vc i (by omega)
      have hsl2 := run_sliceP_l va l.length vc j hjl
      have hD2l := lt_of_block hK2
      have e1 : (l.take i).length = i := by simp; omega
      have e3 : (l.drop j).length = l.length - j := by simp
      have P1 : Hid (∀ X, Below W.heap.size W X → Pcs X (sliceP va 0 i vc) (l.take i)) := hid fun X hX => by have := (HROW.out X hX).part 0 i (Nat.zero_le _) hil; simpa using this
      have P3 : Hid (∀ X, Below W.heap.size W X → Pcs X (sliceP va j l.length vc) (l.drop j)) := hid fun X hX => by have := (HROW.out X hX).part j l.length hjl (Nat.le_refl _); simpa using this
      have HBX := hid hbx
      have HBB := hid hbb
      clear hacc3 hys hbx hu hg hbb hK2 hKd
      obtain ⟨x1, y1, hx1⟩ : ∃ x1 y1, sliceP va 0 i vc = .slice x1 i y1 := ⟨_, _, rfl⟩
      obtain ⟨x3, y3, hx3⟩ : ∃ x3 y3, sliceP va j l.length vc = .slice x3 (l.length - j) y3 := ⟨_, _, rfl⟩
      rw [hx1] at hsh P1
      rw [hx3] at hsl2 P3
      clear hx1 hx3
      go_wp2_with fail
      obtain ⟨q1, q2, q3⟩ := CB.out W (Below.refl _ _)
      refine wp_region_noPanic ?_
      go_region_with (go_at_call 83; refine (concat_any _ (.slice x1 i y1) (.slice ua acc3.length uc) (.slice x3 (l.length - j) y3) (l.take i) acc3 (l.drop j) _ (P1.out _ (((Below.refl _ _).drew).alloc (Nat.le_refl _) _)) ((OwnP.pcs HU.out).below (((Below.refl _ _).drew).alloc (Nat.le_refl _) _)) (P3.out _ (((Below.refl _ _).drew).alloc (Nat.le_refl _) _)) (heap_alloc_new _ _) (by omega)).mono ?_; rintro e w7 ⟨va7, vc7, rfl, ho7, hb7⟩; have BC : Hid (Below W.heap.size W w7) := hid ((((Below.refl _ _).drew).alloc (Nat.le_refl _) _).trans (hb7.mono (by simp))); obtain ⟨z1, z2, z3⟩ := CB.out _ BC.out; have HO7 := hid ho7; have HB7 := hid hb7; clear ho7 hb7)
      all_goals
        refine NoPanic.normal ?_
        have ho7 := HO7.out
        rw [e1, e3] at ho7
        obtain ⟨v7, hv7⟩ : ∃ v7, v7 = Value.slice va7 (i + acc3.length + (l.length - j)) vc7 := ⟨_, rfl⟩
        rw [← hv7] at ho7 ⊢
        have hws := BW.out.size
        have hk2 : (w7.setCell ⟨b, 0, none⟩ v7).heap[D2]? = some (.deferred (some [])) := by
          rw [Below.heap_setCell w7 ⟨b, 0, none⟩ _ D2 (by simp; omega), BC.out.block D2 hD2l]; exact HK2.out
        have hkd : ((w7.setCell ⟨b, 0, none⟩ v7).putObj D2 (.deferred none)).heap[D]? = some (.deferred (some [])) := by
          rw [(grownBy_putObj' _ D2 _).block D (by have := BC.out.size; simp; omega) (by simp; omega), Below.heap_setCell w7 ⟨b, 0, none⟩ _ D (by simp; omega), BC.out.block D (by omega)]; exact HKD.out
        have hr7 : OwnP w7 w.heap.size v7 (chL l put (s1, s2) i j) := by
          unfold chL
          rw [← HMD.out, ← HACC3.out]
          refine ho7.lower ?_
          simp only [World.size_alloc]
          exact Nat.le_trans hws (Nat.le_succ _)
        exact ⟨by simp, .inl ⟨_, _, rfl, run_takeDeferred hk2, by simp, .inl ⟨_, _, rfl, run_takeDeferred hkd, _, results_none rfl _ _ _, rfl, i, j, v7, HIJ.out, HJ.out, F1.out, F2.out, F3.out, F4.out, change_end hlt BW.out BC.out HBB.out hk2 hkd (by omega) (by omega) hr7⟩⟩⟩
end Go.Proofs.Ytnkjkaofgninnaa
