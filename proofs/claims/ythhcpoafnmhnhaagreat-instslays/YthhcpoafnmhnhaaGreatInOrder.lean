/- What Order of a table answers. Conditions: the table lies in memory, and has at most a hundred thousand instances. -/
import Derived.Test.YthhcpoafnmhnhaaGreatInList
import Derived.Test.YthhcpoafnmhnhaaGreatInRefs
import Derived.Test.YthhcpoafnmhnhaaGreatInMeddle
import Derived.Sort.CutIn
namespace Go.Proofs.YthhcpoafnmhnhaaGreat
open Go.RowKit Go.Maps Go.Shelf
attribute [local go_sem] Oper.semAt_some
set_option linter.unusedVariables false
set_option linter.unusedSimpArgs false

/-- Does an instance bear on the order of c? -/
def hitB (c : CmdD) (self : Int × Int) (x : InD) : Bool := decide (1 ≤ x.st) && (!(x.ref == self)) && meddleB x.cmd c
def orS (c : CmdD) (self : Int × Int) (p : Int × List (Int × Int)) (e : EnI) : Int × List (Int × Int) := if hitB c self e.x = true then (max p.1 e.x.seq, p.2 ++ [e.x.ref]) else p
def orF (c : CmdD) (self : Int × Int) (ss : List EnI) : Int × List (Int × Int) := ss.foldl (orS c self) (0, [])
theorem orF_snoc (c : CmdD) (self : Int × Int) (ss : List EnI) (e : EnI) : orF c self (ss ++ [e]) = orS c self (orF c self ss) e := by simp [orF]
theorem orF_len (c : CmdD) (self : Int × Int) (ss : List EnI) : (orF c self ss).2.length ≤ ss.length := by
  suffices h : ∀ (ss : List EnI) p, (ss.foldl (orS c self) p).2.length ≤ p.2.length + ss.length by simpa [orF] using h ss (0, [])
  intro ss
  induction ss with
  | nil => simp
  | cons e t ih =>
    intro p
    have := ih (orS c self p e)
    have h2 : (orS c self p e).2.length ≤ p.2.length + 1 := by unfold orS; split <;> simp
    simp only [List.foldl_cons, List.length_cons]
    omega
theorem orF_refs (c : CmdD) (self : Int × Int) (ss : List EnI) : (orF c self ss).2 = (ss.filter fun e => hitB c self e.x).map fun e => e.x.ref := by
  suffices h : ∀ (ss : List EnI) p, (ss.foldl (orS c self) p).2 = p.2 ++ (ss.filter fun e => hitB c self e.x).map fun e => e.x.ref by simpa [orF] using h ss (0, [])
  intro ss
  induction ss with
  | nil => simp
  | cons e t ih =>
    intro p
    simp only [List.foldl_cons]
    rw [ih]
    unfold orS
    cases h : hitB c self e.x <;> simp [h]
/-- In the loop: the number lies at block A, the row at block G, all else is as it was. -/
structure OI (w1 : World) (A G : Nat) (p : Int × List (Int × Int)) (W : World) : Prop where
  box : W.heap[A]? = some (.cells #[.int .i64 p.1] 3 (0, 0))
  row : ∃ va vc, W.heap[G]? = some (.cells #[.slice va p.2.length vc] 29 (0, 0)) ∧ W.ownsRow w1.heap.size 23 2 (.slice va p.2.length vc) p.2.length (rvs p.2)
  os : W.os = w1.os
  tape : W.tape = w1.tape
  output : W.output = w1.output
  size : w1.heap.size ≤ W.heap.size
  block : ∀ k, k < w1.heap.size → k ≠ A → k ≠ G → W.heap[k]? = w1.heap[k]?
theorem OI.turned {w1 X Y : World} {A G : Nat} {p : Int × List (Int × Int)} {row : Option Nat} (h : OI w1 A G p X) (hg : X.grownBy Y row) (hr : ∀ r, row = some r → w1.heap.size ≤ r ∧ ∃ o : Obj, X.heap[r]? = some o ∧ o.isCells = false) : OI w1 A G p Y := by
  have key : ∀ {q : Nat} {cs : Array Value} {t : TypeId} {fr : Nat × Nat}, X.heap[q]? = some (.cells cs t fr) → Y.heap[q]? = X.heap[q]? := by
    intro q cs t fr hq
    refine hg.block q (lt_of_block hq) ?_
    intro e
    obtain ⟨o, ho, hc⟩ := (hr q e.symm).2
    rw [hq] at ho; cases ho; cases hc
  obtain ⟨va, vc, h1, h2⟩ := h.row
  refine ⟨(key h.box).trans h.box, ⟨va, vc, (key h1).trans h1, own_kept h2 fun q cs _ hq => key hq⟩, hg.os.trans h.os, hg.tape.trans h.tape, hg.output.trans h.output, Nat.le_trans h.size hg.size, ?_⟩
  intro k hk h3 h4
  refine (hg.block k (Nat.lt_of_lt_of_le hk h.size) ?_).trans (h.block k hk h3 h4)
  intro e
  have := (hr k e.symm).1
  omega
theorem OI.below {w1 X Y : World} {A G : Nat} {p : Int × List (Int × Int)} (h : OI w1 A G p X) (hb : Below X.heap.size X Y) : OI w1 A G p Y := h.turned (row := none) ⟨hb.os, hb.tape, hb.output, hb.size, fun k hk _ => hb.block k hk⟩ (fun r e => by cases e)
theorem OI.put {w1 X : World} {A G : Nat} {p : Int × List (Int × Int)} (h : OI w1 A G p X) (hA : A < w1.heap.size) (m' : Int) : OI w1 A G (m', p.2) (X.setCell ⟨A, 0, none⟩ (.int .i64 m')) := by
  have key : ∀ k, k ≠ A → (X.setCell ⟨A, 0, none⟩ (.int .i64 m')).heap[k]? = X.heap[k]? := fun k hk => Below.heap_setCell X ⟨A, 0, none⟩ _ k hk
  obtain ⟨va, vc, h1, h2⟩ := h.row
  have hGA : G ≠ A := fun e => by subst e; have := h.box; rw [h1] at this; simp at this
  exact ⟨heap_setCell_same _ _ _ _ _ _ h.box, ⟨va, vc, (key G hGA).trans h1, own_kept h2 fun q cs hq _ => key q (by have := (World.ownsRow.lt h2 q hq).1; omega)⟩, h.os, h.tape, h.output, by simpa using h.size, fun k hk h3 h4 => (key k h3).trans (h.block k hk h3 h4)⟩
/-- Behind an append to the row, and its store. -/
theorem OI.more {w1 X Y : World} {A G : Nat} {p : Int × List (Int × Int)} (h : OI w1 A G p X) (hA : A < w1.heap.size) (hG : G < w1.heap.size) {va0 : Option Addr} {vc0 : Nat} (ho : X.ownsRow w1.heap.size 23 2 (.slice va0 p.2.length vc0) p.2.length (rvs p.2)) (hg : X.grownBy Y (Value.slice va0 p.2.length vc0).ownBlock) {r : Int × Int} {va : Option Addr} {n vc : Nat} (hn : n = (p.2 ++ [r]).length) (hy : Y.ownsRow w1.heap.size 23 2 (.slice va n vc) n (rvs (p.2 ++ [r]))) :
    OI w1 A G (p.1, p.2 ++ [r]) (Y.setCell ⟨G, 0, none⟩ (.slice va n vc)) := by
  subst hn
  obtain ⟨va1, vc1, h1, h2⟩ := h.row
  have low : ∀ k, k < w1.heap.size → Y.heap[k]? = X.heap[k]? := fun k hk => hg.block k (Nat.lt_of_lt_of_le hk h.size) (fun e => by have := (World.ownsRow.lt ho k e.symm).1; omega)
  have key : ∀ k, k ≠ G → (Y.setCell ⟨G, 0, none⟩ (.slice va (p.2 ++ [r]).length vc)).heap[k]? = Y.heap[k]? := fun k hk => Below.heap_setCell Y ⟨G, 0, none⟩ _ k hk
  have hGA : A ≠ G := fun e => by subst e; have := h.box; rw [h1] at this; simp at this
  refine ⟨(key A hGA).trans ((low A hA).trans h.box), ⟨va, vc, ?_, own_kept hy fun q cs hq _ => key q (by have := (World.ownsRow.lt hy q hq).1; omega)⟩, hg.os.trans h.os, hg.tape.trans h.tape, hg.output.trans h.output, by have := h.size; have := hg.size; simp; omega, fun k hk h3 h4 => (key k h4).trans ((low k hk).trans (h.block k hk h3 h4))⟩
  exact heap_setCell_same _ _ _ _ _ _ ((low G hG).trans h1)
theorem keeps_own {B : Nat} {w w1 : World} {E : TypeId} {k n : Nat} {v : Value} {xs : List Value} (ho : w.ownsRow B E k v n xs) (hg : w.grownBy w1 v.ownBlock) : KeepsOthers w w1 := by
  refine ⟨hg.size, fun q o hq hc => ?_⟩
  refine (hg.block q (lt_of_block hq) ?_).trans hq
  intro e
  obtain ⟨cur, hcur⟩ := own_typed ho e.symm
  rw [hq] at hcur; cases hcur; cases hc
theorem wplI_app {F : Fence} {nf : Nat} {T E : TypeId} {z : Value} {sz bytes : Nat} (R : RowT T E z sz bytes) {ops : Array Oper} {rest : List Oper} {o : Oper} {a : Act} {w : World} {Q : Exit → Act → World → Prop} (hgd : o.guard = none) (s x : Operand)
    (ho : o.op = .call { callee := .builtin .append, args := #[s, x], argTypes := #[T, T] })
    (base : Nat) (v : Value) (n : Nat) (xs : List Value) (hs : a.eval s = v) (hown : w.ownsRow base E sz v n xs)
    (g m cap : Nat) (ys : List Value) (hx : a.eval x = .slice (some ⟨g, 0, none⟩) m cap) (hl : ys.length = m * sz) (hys : ∀ j u, ys[j]? = some u → w.cell? ⟨g, j, none⟩ = some u) (hone : ∀ u ∈ ys, u.oneCell' = true)
    (hn : n + m ≤ 1000000) (hbase : base ≤ w.heap.size)
    (h : ∀ va vc w', w'.ownsRow base E sz (.slice va (n + m) vc) (n + m) (xs ++ ys) → w.grownBy w' v.ownBlock → wpListIn F nf Tryz.prog ops Q rest (a.put o.dst (.slice va (n + m) vc)) w') :
    wpListIn F nf Tryz.prog ops Q (o :: rest) a w := by
  obtain ⟨i, hi, hz0, hz1, hz2⟩ := info_parts R.i
  have hb := R.b
  have hb2 : (n + m) * bytes ≤ 1000000 * 1000 := Nat.mul_le_mul hn hb
  refine wpListIn_append_own w hgd s x T ho base E i z sz bytes R.u hi hz0 hz1 hz2 R.z R.p v n xs hs hown ⟨g, 0, none⟩ m cap ys hx hl ?_ hone (by unfold maxLen; omega) (by omega) hbase ?_
  · intro j u hj
    rw [Addr.add_lit, Nat.zero_add]
    exact hys j u hj
  · intro v' w' ho' hg' _
    obtain ⟨va, vc, rfl⟩ := own_shape ho'
    exact h va vc w' ho' hg'
theorem heap4 (w : World) (A B C D : Obj) : ((((w.alloc A).alloc B).alloc C).alloc D).heap[w.heap.size]? = some A ∧ ((((w.alloc A).alloc B).alloc C).alloc D).heap[w.heap.size + 1]? = some B ∧ ((((w.alloc A).alloc B).alloc C).alloc D).heap[w.heap.size + 1 + 1]? = some C ∧ ((((w.alloc A).alloc B).alloc C).alloc D).heap[w.heap.size + 1 + 1 + 1]? = some D ∧ Below w.heap.size w ((((w.alloc A).alloc B).alloc C).alloc D) := by
  have h := heap3 w A B C
  have e3 : (((w.alloc A).alloc B).alloc C).heap.size = w.heap.size + 1 + 1 + 1 := by simp
  refine ⟨?_, ?_, ?_, ?_, (((((Below.refl _ _).alloc (Nat.le_refl _) _).alloc (by simp) _).alloc (by simp; omega) _)).alloc (by simp; omega) _⟩
  · rw [Below.heap_alloc _ D _ (by omega)]; exact h.1
  · rw [Below.heap_alloc _ D _ (by omega)]; exact h.2.1
  · rw [Below.heap_alloc _ D _ (by omega)]; exact h.2.2
  · have := heap_alloc_new (((w.alloc A).alloc B).alloc C) D; rwa [e3] at this
set_option maxRecDepth 100000 in
set_option maxHeartbeats 4000000 in
theorem iorder_any (tb mb nn : Nat) (D : DataW Value) (L : List EnI) (c : CmdD) (ua : Option Addr) (un uc : Nat) (self : Int × Int) (w : World) (hT : Tb w tb mb nn D) (hL : TL D L) (hsz : L.length ≤ 100000) :
    Calls Tryz.prog 16 #[.pointer (some ⟨tb, 0, none⟩), cmdV c (.slice ua un uc), .agg #[.int .i64 self.1, .int .i64 self.2]] w fun e w' => ∃ ss m va vc, Came D (fun _ => false) ss ∧ e = .returned (.tuple #[.int .i64 (wrap64 ((orF c self ss).1 + 1)), .slice va m.length vc]) ∧ m.Perm (orF c self ss).2 ∧ RiseR m ∧ w'.ownsRow w.heap.size 23 2 (.slice va m.length vc) m.length (rvs m) ∧ Below w.heap.size w w' := by
  have HT := hid hT
  have HL := hid hL
  clear hT hL
  have HM := hid (fun x va vn vc W => meddle_any x c va ua vn vc un uc W)
  have HF : Hid (∀ ss e, orF c self (ss ++ [e]) = orS c self (orF c self ss) e) := hid (orF_snoc c self)
  have HF0 : Hid (orF c self [] = (0, [])) := hid rfl
  have HS : Hid (∀ p e, orS c self p e = if hitB c self e.x = true then (max p.1 e.x.seq, p.2 ++ [e.x.ref]) else p) := hid fun p e => rfl
  have HFL : Hid (∀ ss, (orF c self ss).2.length ≤ ss.length) := hid (orF_len c self)
  have HFN : Hid (∀ ss, Came D (fun _ => false) ss → (orF c self ss).2.Nodup) := hid fun ss h => by
    rw [orF_refs]
    exact List.pairwise_map.2 ((h.refs HL.out).filter _)
  have HH : Hid (∀ x, hitB c self x = (decide (1 ≤ x.st) && (!(x.ref == self)) && meddleB x.cmd c)) := hid fun x => rfl
  have hDs := HL.out.size
  generalize orF c self = F at *
  generalize hitB c self = H at *
  generalize orS c self = O at *
  obtain ⟨c0, c1, c2, c3, c4, cd⟩ := c
  obtain ⟨s0, s1⟩ := self
  unfold cmdV at HM ⊢
  simp only at HM HH ⊢
  refine (callsIn_wide (n := 3)).1 ?_
  refine callsIn_of_wp_marks Tryz.func16 rfl trivial ?_ rfl
  simp only [Tryz.ntmps16, List.size_toArray, List.length_cons, List.length_nil, Nat.reduceAdd, Nat.reduceSub, Array.replicate_succ, Array.replicate_zero, List.push_toArray, List.append_toArray, List.nil_append, List.cons_append]
  refine wpIn_wide.2 ?_
  go_upto_region 3 with fail
  obtain ⟨w0, hw0⟩ : ∃ w0, w0 = (((w.alloc (.cells #[.int .i64 c0, .int .i64 c1, .int .i64 c2, .int .i64 c3, .int .i64 c4, .slice ua un uc] 28)).alloc (.cells #[.int .i64 s0, .int .i64 s1] 23)).alloc (.cells #[.int .i64 0] 3)).alloc (.cells #[.slice none 0 0] 29) := ⟨_, rfl⟩
  obtain ⟨p0, q0, a0, g0, b0⟩ := heap4 w (.cells #[.int .i64 c0, .int .i64 c1, .int .i64 c2, .int .i64 c3, .int .i64 c4, .slice ua un uc] 28) (.cells #[.int .i64 s0, .int .i64 s1] 23) (.cells #[.int .i64 0] 3) (.cells #[.slice none 0 0] 29)
  rw [← hw0] at p0 q0 a0 g0 b0
  rw [← hw0]
  clear hw0
  obtain ⟨P, hP⟩ : ∃ P, P = w.heap.size := ⟨_, rfl⟩
  obtain ⟨Z, hZ⟩ : ∃ Z, Z = w.heap.size + 1 := ⟨_, rfl⟩
  obtain ⟨A, hA⟩ : ∃ A, A = w.heap.size + 1 + 1 := ⟨_, rfl⟩
  obtain ⟨G, hG⟩ : ∃ G, G = w.heap.size + 1 + 1 + 1 := ⟨_, rfl⟩
  rw [← hP] at p0
  rw [← hZ] at q0
  rw [← hA] at a0
  rw [← hG] at g0
  rw [← hG, ← hA, ← hZ, ← hP]
  have HP := hid hP
  have HZ := hid hZ
  have HA := hid hA
  have HG := hid hG
  clear hP hZ hA hG
  have P0 := hid p0
  have Q0 := hid q0
  have A0 := hid a0
  have G0 := hid g0
  have B0 := hid b0
  clear p0 q0 a0 g0 b0
  go_wp2_with fail
  refine (known_any _ w0 ⟨_, rfl⟩).mono ?_
  rintro e w1 ⟨rfl, hw1⟩
  have b1 : Below w0.heap.size w0 w1 := by rw [hw1]; exact (Below.refl _ _).alloc (Nat.le_refl _) _
  have K1 : Hid (w1.heap[w0.heap.size]? = some (.cells #[.pointer (some ⟨tb, 0, none⟩)] 48 (0, 0))) := hid (by rw [hw1]; exact heap_alloc_new _ _)
  have P1 := hid ((b1.block P (lt_of_block P0.out)).trans P0.out)
  have Q1 := hid ((b1.block Z (lt_of_block Q0.out)).trans Q0.out)
  have A1 := hid ((b1.block A (lt_of_block A0.out)).trans A0.out)
  have G1 := hid ((b1.block G (lt_of_block G0.out)).trans G0.out)
  have B1 := hid (B0.out.trans (b1.mono B0.out.size))
  have T1 := hid (HT.out.below B1.out)
  have hlP : P < w1.heap.size := lt_of_block P1.out
  have hlZ : Z < w1.heap.size := lt_of_block Q1.out
  have hlA : A < w1.heap.size := lt_of_block A1.out
  have hlG : G < w1.heap.size := lt_of_block G1.out
  have hPA : P ≠ A ∧ P ≠ G ∧ Z ≠ A ∧ Z ≠ G ∧ A ≠ G := by have := HA.out; have := HP.out; have := HZ.out; have := HG.out; omega
  obtain ⟨B, hB⟩ : ∃ B, B = w0.heap.size := ⟨_, rfl⟩
  rw [← hB] at K1
  rw [← hB]
  clear hw1 b1 P0 Q0 A0 G0 B0 hB
  go_wp2_with fail
  refine (wpIn_wide (n := 3)).1 ?_
  refine wpIn_rangeFunc_ownH (F := Fence.wide) rfl (by omega) (gf := 58) (lb := #[.pointer (some ⟨B, 0, none⟩)]) rfl trivial (enters_of Tryz.func58 (by kernel_rfl) rfl)
    (known_stops _ (by omega) B tb mb nn D w1 K1.out T1.out) walksK_t (fun W l o o' h1 h2 h3 h4 => walksK_b (w := w1) W l o o' h1 h2 h3 h4) (Below.refl _ _) (fun _ => rfl)
    (fun pre W => OI w1 A G (F pre) W)
    (fun c pre W => False) ?hI ?hIx ?h0
    (AtB w1.heap.size ?Fr)
    ?hAx ?assign ?body ?done ?stop
  case h0 =>
    show OI w1 A G (F []) w1
    rw [HF0.out]
    exact ⟨A1.out, ⟨none, 0, G1.out, World.ownsRow_nil _ _ _ _⟩, rfl, rfl, rfl, Nat.le_refl _, fun _ _ _ _ => rfl⟩
  case hI =>
    intro s X Y row h hg hr
    exact h.turned hg hr
  case hIx =>
    intro c s X Y row h hg hr
    exact h
  case hAx =>
    rintro x a' s X Y row ⟨q, h1, h2, h3⟩ hg hr
    refine ⟨q, h1, h2, (hg.block q (lt_of_block h3) ?_).trans h3⟩
    intro e
    obtain ⟨o, ho, hc⟩ := (hr q e.symm).2
    rw [h3] at ho; cases ho; cases hc
  case assign =>
    intro y pre x W K h hK
    have hc1 : x.c.size = 16 := rfl
    have hc2 : x.c.all (·.oneCell') = true := instC_one _ _ _ rfl rfl
    have hv : x.v = .agg x.c := rfl
    rw [hv]
    clear hv
    gi_wp2_with (first | (refine wplI_storeC rfl _ _ rfl W.heap.size x.c rfl rfl hc1 hc2 _ zeroI (.slice none 0 0) (.slice none 0 0) (heap_alloc_new _ _) ?_) | gi_in)
    have hb : Below W.heap.size W ((W.alloc (.cells (instC zeroI (.slice none 0 0) (.slice none 0 0)) 31)).setRow W.heap.size x.c) := below_row ((Below.refl _ _).alloc (Nat.le_refl _) _) (Nat.le_refl _) _
    have hrow : ((W.alloc (.cells (instC zeroI (.slice none 0 0) (.slice none 0 0)) 31)).setRow W.heap.size x.c).heap[W.heap.size]? = some (.cells x.c 31 (0, 0)) := setRow_heap _ _ _ _ _ _ (heap_alloc_new _ _)
    refine hK _ _ ((keeps_belowI hb).from _) (keeps_belowI hb).walks (h.below hb) ⟨W.heap.size, h.size, ?ax, hrow⟩
    case ax =>
      clear hK hb hrow
      obtain ⟨q, hq⟩ : ∃ q, q = W.heap.size := ⟨_, rfl⟩
      rw [← hq]
  case body =>
    rintro y pre x a' W hy _ hM ⟨q, hq, hfr, hx⟩ hlt'
    obtain rfl : a' = _ := hfr
    have hqA : q ≠ A ∧ q ≠ G := by omega
    obtain ⟨va0, vc0, hg0, ho0⟩ := hM.row
    have HX := hid hx
    have d0 : W.cell? ⟨q, 0, none⟩ = some (.int .i64 x.x.ref.1) := by rw [cell_of_row _ _ _ _ _ _ hx]; rfl
    have d1 : W.cell? ⟨q, 1, none⟩ = some (.int .i64 x.x.ref.2) := by rw [cell_of_row _ _ _ _ _ _ hx]; rfl
    have d6 : W.cell? ⟨q, 6, none⟩ = some (.int .i64 x.x.st) := by rw [cell_of_row _ _ _ _ _ _ hx]; rfl
    have d8 : W.cell? ⟨q, 8, none⟩ = some (.int .i64 x.x.cmd.op) := by rw [cell_of_row _ _ _ _ _ _ hx]; rfl
    have d9 : W.cell? ⟨q, 9, none⟩ = some (.int .i64 x.x.cmd.client) := by rw [cell_of_row _ _ _ _ _ _ hx]; rfl
    have d10 : W.cell? ⟨q, 10, none⟩ = some (.int .i64 x.x.cmd.seq) := by rw [cell_of_row _ _ _ _ _ _ hx]; rfl
    have d11 : W.cell? ⟨q, 11, none⟩ = some (.int .i64 x.x.cmd.from') := by rw [cell_of_row _ _ _ _ _ _ hx]; rfl
    have d12 : W.cell? ⟨q, 12, none⟩ = some (.int .i64 x.x.cmd.to) := by rw [cell_of_row _ _ _ _ _ _ hx]; rfl
    have d13 : W.cell? ⟨q, 13, none⟩ = some (.slice x.ua x.un x.uc) := by rw [cell_of_row _ _ _ _ _ _ hx]; rfl
    have hp := (hM.block P hlP hPA.1 hPA.2.1).trans P1.out
    have hz := (hM.block Z hlZ hPA.2.2.1 hPA.2.2.2.1).trans Q1.out
    have f0 : W.cell? ⟨P, 0, none⟩ = some (.int .i64 c0) := by rw [cell_of_row _ _ _ _ _ _ hp]; rfl
    have f1 : W.cell? ⟨P, 1, none⟩ = some (.int .i64 c1) := by rw [cell_of_row _ _ _ _ _ _ hp]; rfl
    have f2 : W.cell? ⟨P, 2, none⟩ = some (.int .i64 c2) := by rw [cell_of_row _ _ _ _ _ _ hp]; rfl
    have f3 : W.cell? ⟨P, 3, none⟩ = some (.int .i64 c3) := by rw [cell_of_row _ _ _ _ _ _ hp]; rfl
    have f4 : W.cell? ⟨P, 4, none⟩ = some (.int .i64 c4) := by rw [cell_of_row _ _ _ _ _ _ hp]; rfl
    have f5 : W.cell? ⟨P, 5, none⟩ = some (.slice ua un uc) := by rw [cell_of_row _ _ _ _ _ _ hp]; rfl
    have z0 : W.cell? ⟨Z, 0, none⟩ = some (.int .i64 s0) := by rw [cell_of_row _ _ _ _ _ _ hz]; rfl
    have z1 : W.cell? ⟨Z, 1, none⟩ = some (.int .i64 s1) := by rw [cell_of_row _ _ _ _ _ _ hz]; rfl
    have HM' := hid hM
    have HOW := hid ho0
    have HGW := hid hg0
    have HFX := hid (HF.out pre x)
    have HHX := hid (HH.out x.x)
    have HMX := hid (fun W => HM.out x.x.cmd x.ua x.un x.uc W)
    have HLP := hid (HFL.out pre)
    have HST := hid (HS.out (F pre) x)
    clear hM hx hp hz ho0 hg0
    generalize meddleB x.x.cmd ⟨c0, c1, c2, c3, c4, cd⟩ = md at *
    generalize F pre = Fp at *
    obtain ⟨Fp1, Fp2⟩ := Fp
    simp only at HLP HST HGW HOW
    have hne : (x.x.ref == (s0, s1)) = ((x.x.ref.1 == s0) && (x.x.ref.2 == s1)) := rfl
    cases hst : decide (1 ≤ x.x.st)
    · have HF2 : Hid (F (pre ++ [x]) = (Fp1, Fp2)) := hid (by rw [HFX.out, HST.out, HHX.out, hst]; rfl)
      gi_wp2_with (refine ⟨trivial, ?_⟩; rename_i hKu; refine hKu _ _ ?_; clear hKu)
      refine ⟨(KeepsOthers.refl _).from _, (KeepsOthers.refl _).walks, ?_⟩
      show OI w1 A G (F (pre ++ [x])) _
      rw [HF2.out]; exact HM'.out
    · cases h0 : (x.x.ref.1 == s0)
      · cases md with
        | false =>
          have HF2 : Hid (F (pre ++ [x]) = (Fp1, Fp2)) := hid (by rw [HFX.out, HST.out, HHX.out, hst, hne, h0]; rfl)
          gi_wp2_with (refine ⟨trivial, ?_⟩; gi_at_call 37; refine (CallsIn.inRound y (callsIn_wide.2 (HMX.out _))).mono ?_; rintro e W2 ⟨rfl, hb2⟩)
          refine ⟨(keeps_belowI hb2).from _, (keeps_belowI hb2).walks, ?_⟩
          show OI w1 A G (F (pre ++ [x])) _
          rw [HF2.out]; exact HM'.out.below hb2
        | true =>
          have HF2 : Hid (F (pre ++ [x]) = (max Fp1 x.x.seq, Fp2 ++ [x.x.ref])) := hid (by rw [HFX.out, HST.out, HHX.out, hst, hne, h0]; rfl)
          gi_upto_region 6 with (refine ⟨trivial, ?_⟩; gi_at_call 37; refine (CallsIn.inRound y (callsIn_wide.2 (HMX.out _))).mono ?_; rintro e W2 ⟨rfl, hb2⟩)
          have M2 := hid (HM'.out.below hb2)
          have hx2 := (hb2.block q (lt_of_block HX.out)).trans HX.out
          have O2 := hid (own_below HOW.out hb2)
          have hG2 := (hb2.block G (lt_of_block HGW.out)).trans HGW.out
          have HB2 := hid hb2
          have g14 : W2.cell? ⟨q, 14, none⟩ = some (.int .i64 x.x.seq) := by rw [cell_of_row _ _ _ _ _ _ hx2]; rfl
          have gA : W2.cell? ⟨A, 0, none⟩ = some (.int .i64 Fp1) := by rw [cell_of_row _ _ _ _ _ _ M2.out.box]; rfl
          have gF : W2.frozen? ⟨A, 0, none⟩ = false := frozen_of_row _ _ _ _ _ M2.out.box
          obtain ⟨m, hm⟩ : ∃ m, m = max Fp1 x.x.seq := ⟨_, rfl⟩
          obtain ⟨W3, hW3⟩ : ∃ W3, W3 = W2.setCell ⟨A, 0, none⟩ (.int .i64 m) := ⟨_, rfl⟩
          have M3 : Hid (OI w1 A G (m, Fp2) W3) := hid (by rw [hW3]; exact M2.out.put hlA m)
          have hx3 : W3.heap[q]? = some (.cells x.c 31 (0, 0)) := by rw [hW3, Below.heap_setCell W2 ⟨A, 0, none⟩ _ q hqA.1]; exact hx2
          have hG3 : W3.heap[G]? = some (.cells #[.slice va0 Fp2.length vc0] 29 (0, 0)) := by rw [hW3, Below.heap_setCell W2 ⟨A, 0, none⟩ _ G (fun e => hPA.2.2.2.2 e.symm)]; exact hG2
          have O3 : Hid (W3.ownsRow w1.heap.size 23 2 (.slice va0 Fp2.length vc0) Fp2.length (rvs Fp2)) := hid (by rw [hW3]; exact own_kept O2.out fun k cs hk _ => Below.heap_setCell W2 ⟨A, 0, none⟩ _ k (by have := (World.ownsRow.lt O2.out k hk).1; show k ≠ A; omega))
          have HW3 := hid hW3
          have HMM := hid hm
          clear hm hW3 hb2 hx2 hG2 O2 HOW HGW HX HM' HMX d0 d1 d6 d8 d9 d10 d11 d12 d13 f0 f1 f2 f3 f4 f5 z0 z1
          have g0 : W3.cell? ⟨q, 0, none⟩ = some (.int .i64 x.x.ref.1) := by rw [cell_of_row _ _ _ _ _ _ hx3]; rfl
          have g1 : W3.cell? ⟨q, 1, none⟩ = some (.int .i64 x.x.ref.2) := by rw [cell_of_row _ _ _ _ _ _ hx3]; rfl
          have gG : W3.cell? ⟨G, 0, none⟩ = some (.slice va0 Fp2.length vc0) := by rw [cell_of_row _ _ _ _ _ _ hG3]; rfl
          have gH : W3.frozen? ⟨G, 0, none⟩ = false := frozen_of_row _ _ _ _ _ hG3
          have K3 : Hid (KeepsOthers W W3) := hid ((keeps_belowI HB2.out).trans (by rw [HW3.out]; exact KeepsOthers.setCell _ _ _))
          gi_upto_region 7 with fail
          rw [← HMM.out, ← HW3.out]
          clear gA gF g14
          obtain ⟨W4, hW4⟩ : ∃ W4, W4 = W3.alloc (.cells #[.int .i64 x.x.ref.1, .int .i64 x.x.ref.2] 23) := ⟨_, rfl⟩
          have b4 : Below W3.heap.size W3 W4 := by rw [hW4]; exact (Below.refl _ _).alloc (Nat.le_refl _) _
          have r4 : W4.heap[W3.heap.size]? = some (.cells #[.int .i64 x.x.ref.1, .int .i64 x.x.ref.2] 23 (0, 0)) := by rw [hW4]; exact heap_alloc_new _ _
          have M4 := hid (M3.out.below b4)
          have O4 := hid (own_below O3.out b4)
          have R4 : Hid (∀ j u, [Value.int .i64 x.x.ref.1, .int .i64 x.x.ref.2][j]? = some u → W4.cell? ⟨W3.heap.size, j, none⟩ = some u) := hid fun j u hj => by
            match j, hj with
            | 0, hj => rw [cell_of_row _ _ _ _ _ _ r4]; simpa using hj
            | 1, hj => rw [cell_of_row _ _ _ _ _ _ r4]; simpa using hj
            | j + 2, hj => simp at hj
          have gG4 : W4.heap[G]? = some (.cells #[.slice va0 Fp2.length vc0] 29 (0, 0)) := (b4.block G (lt_of_block hG3)).trans hG3
          have K4 := hid (K3.out.trans (keeps_belowI b4))
          have HG4 := hid gG4
          have HW4 := hid hW4
          clear hW4 b4 r4 M3 O3 K3 gG4 HW3
          gi_wp2_with (gi_at_builtin; rw [← HW4.out]; refine wplI_app rowRf rfl (.tmp 33) (.tmp 36) rfl w1.heap.size (.slice va0 Fp2.length vc0) Fp2.length (rvs Fp2) rfl O4.out W3.heap.size 1 1 [.int .i64 x.x.ref.1, .int .i64 x.x.ref.2] rfl rfl R4.out (by intro u hu; simp at hu; rcases hu with rfl | rfl <;> rfl) (by have := HLP.out; omega) M4.out.size ?_; intro va5 vc5 W5 ho5 hg5; have gG5 := (hg5.block G (lt_of_block HG4.out) (fun e => by have := (World.ownsRow.lt O4.out G e.symm).1; omega)).trans HG4.out; have G5c : W5.cell? ⟨G, 0, none⟩ = some (.slice va0 Fp2.length vc0) := by { rw [cell_of_row _ _ _ _ _ _ gG5]; rfl }; have G5f : W5.frozen? ⟨G, 0, none⟩ = false := frozen_of_row _ _ _ _ _ gG5; have HO5 := hid ho5; have HG5 := hid hg5; clear gG5 ho5 hg5)
          have K5 : KeepsOthers W (W5.setCell ⟨G, 0, none⟩ (.slice va5 (Fp2.length + 1) vc5)) := (K4.out.trans (keeps_own O4.out HG5.out)).trans (KeepsOthers.setCell _ _ _)
          refine ⟨K5.from _, K5.walks, ?_⟩
          show OI w1 A G (F (pre ++ [x])) _
          rw [HF2.out, ← HMM.out]
          exact M4.out.more hlA hlG O4.out HG5.out (by simp) (by have := HO5.out; rw [show rvs (Fp2 ++ [x.x.ref]) = rvs Fp2 ++ [.int .i64 x.x.ref.1, .int .i64 x.x.ref.2] by simp [rvs]]; exact this)
      · cases h1 : (x.x.ref.2 == s1)
        · cases md with
          | false =>
            have HF2 : Hid (F (pre ++ [x]) = (Fp1, Fp2)) := hid (by rw [HFX.out, HST.out, HHX.out, hst, hne, h0, h1]; rfl)
            gi_wp2_with (refine ⟨trivial, ?_⟩; gi_at_call 37; refine (CallsIn.inRound y (callsIn_wide.2 (HMX.out _))).mono ?_; rintro e W2 ⟨rfl, hb2⟩)
            refine ⟨(keeps_belowI hb2).from _, (keeps_belowI hb2).walks, ?_⟩
            show OI w1 A G (F (pre ++ [x])) _
            rw [HF2.out]; exact HM'.out.below hb2
          | true =>
            have HF2 : Hid (F (pre ++ [x]) = (max Fp1 x.x.seq, Fp2 ++ [x.x.ref])) := hid (by rw [HFX.out, HST.out, HHX.out, hst, hne, h0, h1]; rfl)
            gi_upto_region 6 with (refine ⟨trivial, ?_⟩; gi_at_call 37; refine (CallsIn.inRound y (callsIn_wide.2 (HMX.out _))).mono ?_; rintro e W2 ⟨rfl, hb2⟩)
            have M2 := hid (HM'.out.below hb2)
            have hx2 := (hb2.block q (lt_of_block HX.out)).trans HX.out
            have O2 := hid (own_below HOW.out hb2)
            have hG2 := (hb2.block G (lt_of_block HGW.out)).trans HGW.out
            have HB2 := hid hb2
            have g14 : W2.cell? ⟨q, 14, none⟩ = some (.int .i64 x.x.seq) := by rw [cell_of_row _ _ _ _ _ _ hx2]; rfl
            have gA : W2.cell? ⟨A, 0, none⟩ = some (.int .i64 Fp1) := by rw [cell_of_row _ _ _ _ _ _ M2.out.box]; rfl
            have gF : W2.frozen? ⟨A, 0, none⟩ = false := frozen_of_row _ _ _ _ _ M2.out.box
            obtain ⟨m, hm⟩ : ∃ m, m = max Fp1 x.x.seq := ⟨_, rfl⟩
            obtain ⟨W3, hW3⟩ : ∃ W3, W3 = W2.setCell ⟨A, 0, none⟩ (.int .i64 m) := ⟨_, rfl⟩
            have M3 : Hid (OI w1 A G (m, Fp2) W3) := hid (by rw [hW3]; exact M2.out.put hlA m)
            have hx3 : W3.heap[q]? = some (.cells x.c 31 (0, 0)) := by rw [hW3, Below.heap_setCell W2 ⟨A, 0, none⟩ _ q hqA.1]; exact hx2
            have hG3 : W3.heap[G]? = some (.cells #[.slice va0 Fp2.length vc0] 29 (0, 0)) := by rw [hW3, Below.heap_setCell W2 ⟨A, 0, none⟩ _ G (fun e => hPA.2.2.2.2 e.symm)]; exact hG2
            have O3 : Hid (W3.ownsRow w1.heap.size 23 2 (.slice va0 Fp2.length vc0) Fp2.length (rvs Fp2)) := hid (by rw [hW3]; exact own_kept O2.out fun k cs hk _ => Below.heap_setCell W2 ⟨A, 0, none⟩ _ k (by have := (World.ownsRow.lt O2.out k hk).1; show k ≠ A; omega))
            have HW3 := hid hW3
            have HMM := hid hm
            clear hm hW3 hb2 hx2 hG2 O2 HOW HGW HX HM' HMX d0 d1 d6 d8 d9 d10 d11 d12 d13 f0 f1 f2 f3 f4 f5 z0 z1
            have g0 : W3.cell? ⟨q, 0, none⟩ = some (.int .i64 x.x.ref.1) := by rw [cell_of_row _ _ _ _ _ _ hx3]; rfl
            have g1 : W3.cell? ⟨q, 1, none⟩ = some (.int .i64 x.x.ref.2) := by rw [cell_of_row _ _ _ _ _ _ hx3]; rfl
            have gG : W3.cell? ⟨G, 0, none⟩ = some (.slice va0 Fp2.length vc0) := by rw [cell_of_row _ _ _ _ _ _ hG3]; rfl
            have gH : W3.frozen? ⟨G, 0, none⟩ = false := frozen_of_row _ _ _ _ _ hG3
            have K3 : Hid (KeepsOthers W W3) := hid ((keeps_belowI HB2.out).trans (by rw [HW3.out]; exact KeepsOthers.setCell _ _ _))
            gi_upto_region 7 with fail
            rw [← HMM.out, ← HW3.out]
            clear gA gF g14
            obtain ⟨W4, hW4⟩ : ∃ W4, W4 = W3.alloc (.cells #[.int .i64 x.x.ref.1, .int .i64 x.x.ref.2] 23) := ⟨_, rfl⟩
            have b4 : Below W3.heap.size W3 W4 := by rw [hW4]; exact (Below.refl _ _).alloc (Nat.le_refl _) _
            have r4 : W4.heap[W3.heap.size]? = some (.cells #[.int .i64 x.x.ref.1, .int .i64 x.x.ref.2] 23 (0, 0)) := by rw [hW4]; exact heap_alloc_new _ _
            have M4 := hid (M3.out.below b4)
            have O4 := hid (own_below O3.out b4)
            have R4 : Hid (∀ j u, [Value.int .i64 x.x.ref.1, .int .i64 x.x.ref.2][j]? = some u → W4.cell? ⟨W3.heap.size, j, none⟩ = some u) := hid fun j u hj => by
              match j, hj with
              | 0, hj => rw [cell_of_row _ _ _ _ _ _ r4]; simpa using hj
              | 1, hj => rw [cell_of_row _ _ _ _ _ _ r4]; simpa using hj
              | j + 2, hj => simp at hj
            have gG4 : W4.heap[G]? = some (.cells #[.slice va0 Fp2.length vc0] 29 (0, 0)) := (b4.block G (lt_of_block hG3)).trans hG3
            have K4 := hid (K3.out.trans (keeps_belowI b4))
            have HG4 := hid gG4
            have HW4 := hid hW4
            clear hW4 b4 r4 M3 O3 K3 gG4 HW3
            gi_wp2_with (gi_at_builtin; rw [← HW4.out]; refine wplI_app rowRf rfl (.tmp 33) (.tmp 36) rfl w1.heap.size (.slice va0 Fp2.length vc0) Fp2.length (rvs Fp2) rfl O4.out W3.heap.size 1 1 [.int .i64 x.x.ref.1, .int .i64 x.x.ref.2] rfl rfl R4.out (by intro u hu; simp at hu; rcases hu with rfl | rfl <;> rfl) (by have := HLP.out; omega) M4.out.size ?_; intro va5 vc5 W5 ho5 hg5; have gG5 := (hg5.block G (lt_of_block HG4.out) (fun e => by have := (World.ownsRow.lt O4.out G e.symm).1; omega)).trans HG4.out; have G5c : W5.cell? ⟨G, 0, none⟩ = some (.slice va0 Fp2.length vc0) := by { rw [cell_of_row _ _ _ _ _ _ gG5]; rfl }; have G5f : W5.frozen? ⟨G, 0, none⟩ = false := frozen_of_row _ _ _ _ _ gG5; have HO5 := hid ho5; have HG5 := hid hg5; clear gG5 ho5 hg5)
            have K5 : KeepsOthers W (W5.setCell ⟨G, 0, none⟩ (.slice va5 (Fp2.length + 1) vc5)) := (K4.out.trans (keeps_own O4.out HG5.out)).trans (KeepsOthers.setCell _ _ _)
            refine ⟨K5.from _, K5.walks, ?_⟩
            show OI w1 A G (F (pre ++ [x])) _
            rw [HF2.out, ← HMM.out]
            exact M4.out.more hlA hlG O4.out HG5.out (by simp) (by have := HO5.out; rw [show rvs (Fp2 ++ [x.x.ref]) = rvs Fp2 ++ [.int .i64 x.x.ref.1, .int .i64 x.x.ref.2] by simp [rvs]]; exact this)
        · have HF2 : Hid (F (pre ++ [x]) = (Fp1, Fp2)) := hid (by rw [HFX.out, HST.out, HHX.out, hst, hne, h0, h1]; rfl)
          have e0 : x.x.ref.1 = s0 := by simpa using h0
          have e1 : x.x.ref.2 = s1 := by simpa using h1
          rw [e0] at d0
          rw [e1] at d1
          clear h0 h1 hne e0 e1
          gi_wp2_with (refine ⟨trivial, ?_⟩; rename_i hKu; refine hKu _ _ ?_; clear hKu)
          refine ⟨(KeepsOthers.refl _).from _, (KeepsOthers.refl _).walks, ?_⟩
          show OI w1 A G (F (pre ++ [x])) _
          rw [HF2.out]; exact HM'.out
  case done =>
    intro Dd xs W hD hS hM hdf
    obtain ⟨va, vc, hg, ho⟩ := hM.row
    have gA : W.cell? ⟨A, 0, none⟩ = some (.int .i64 (F xs).1) := by rw [cell_of_row _ _ _ _ _ _ hM.box]; rfl
    have gG : W.cell? ⟨G, 0, none⟩ = some (.slice va (F xs).2.length vc) := by rw [cell_of_row _ _ _ _ _ _ hg]; rfl
    have HM' := hid hM
    have HSx := hid hS
    have HO := hid ho
    have HGr := hid hg
    clear hM hS ho hg
    have hlF : (F xs).2.length ≤ 1000000 := by have := HFL.out xs; have := HSx.out.len HL.out; omega
    have HNF := hid (HFN.out xs HSx.out)
    have HFX : Hid (F xs = ((F xs).1, (F xs).2)) := hid rfl
    generalize hf1 : (F xs).1 = f1 at *
    generalize hf2 : (F xs).2 = f2 at *
    have HF1 := hid hf1
    have HF2 := hid hf2
    clear hf1 hf2
    have SW : Hid (∀ X, Below W.heap.size W X → X.cell? ⟨A, 0, none⟩ = some (.int .i64 f1) ∧ X.cell? ⟨G, 0, none⟩ = some (.slice va f2.length vc)) := hid fun X hX => ⟨cell_later hX gA, cell_later hX gG⟩
    clear gA gG
    have hDl : Dd < W.heap.size := lt_of_block hdf
    gi_wp2
    go_wp2_with fail
    refine wp_region_noPanic ?_
    refine wp_region_held_drew (S := fun X => X.cell? ⟨A, 0, none⟩ = some (.int .i64 f1) ∧ X.cell? ⟨G, 0, none⟩ = some (.slice va f2.length vc)) (by kernel_rfl) (SW.out _ ((Below.refl _ _).drew)) (fun hHeld => ?_)
    refine wpAnyH_take (i := 0) (v := ?rv0) rfl (by kernel_rfl) (by kernel_rfl) (by kernel_rfl) (fun _ _ _ h => h) (Or.inl ⟨by rfl, ?ry0⟩) (by assumption) ?rr0
    case ry0 => (intro w hSw; (try dsimp only at hSw); go_simp; try with_reducible rfl)
    (try simp only [Act.put, List.setIfInBounds_toArray, List.set_cons_zero, List.set_cons_succ, List.getElem_toArray, List.getElem_cons_succ, List.getElem_cons_zero])
    refine wpAnyH_take (i := 1) (v := ?rv1) rfl (by kernel_rfl) (by kernel_rfl) (by kernel_rfl) (fun _ _ _ h => h) (Or.inl ⟨by rfl, ?ry1⟩) (by assumption) ?rr1
    case ry1 => (intro w hSw; (try dsimp only at hSw); go_simp; try with_reducible rfl)
    (try simp only [Act.put, List.setIfInBounds_toArray, List.set_cons_zero, List.set_cons_succ, List.getElem_toArray, List.getElem_cons_succ, List.getElem_cons_zero])
    refine wpAnyH_take (i := 2) (v := ?rv2) rfl (by kernel_rfl) (by kernel_rfl) (by kernel_rfl) (fun _ _ _ h => h) (Or.inl ⟨by rfl, ?ry2⟩) (by assumption) ?rr2
    case ry2 => (intro w hSw; (try dsimp only at hSw); go_simp; try with_reducible rfl)
    (try simp only [Act.put, List.setIfInBounds_toArray, List.set_cons_zero, List.set_cons_succ, List.getElem_toArray, List.getElem_cons_succ, List.getElem_cons_zero])
    refine wpAnyH_ready (rs := [3]) (by kernel_rfl) (by simp) ?_
    refine AllReadyH.cons rfl (fun K hK => ?_) AllReadyH.nil
    rw [if_pos (by rfl)]
    go_simp
    have B5 : Hid (Below W.heap.size W ((W.alloc (.cells #[.slice va f2.length vc] 29)).drew)) := hid (((Below.refl _ _).alloc (Nat.le_refl _) _).drew)
    refine hK.out _ _ (SW.out _ B5.out) (fun hHeld => ?_)
    try clear hK K
    (try simp only [Act.put, List.setIfInBounds_toArray, List.set_cons_zero, List.set_cons_succ, List.getElem_toArray, List.getElem_cons_succ, List.getElem_cons_zero])
    refine wpAnyH_ready (rs := [4]) (by kernel_rfl) (by simp) ?_
    refine AllReadyH.cons rfl (fun K hK => ?_) AllReadyH.nil
    rw [if_pos (by rfl)]
    go_wp2_with fail
    refine (refsD_any _ _ f2 _ (rfs_rvs (own_below HO.out B5.out)) (heap_alloc_new _ _) (by omega) HNF.out).mono ?_
    rintro e w6 ⟨va6, vc6, m6, rfl, hp6, hr6, ho6, hb6⟩
    have HP6 := hid hp6
    have HR6 := hid hr6
    have HO6 := hid ho6
    have B6 := hid (B5.out.trans (hb6.mono B5.out.size))
    clear hp6 hr6 ho6 hb6
    refine hK.out _ _ (SW.out _ B6.out) (fun hHeld => ?_)
    try clear hK K
    (try simp only [Act.put, List.setIfInBounds_toArray, List.set_cons_zero, List.set_cons_succ, List.getElem_toArray, List.getElem_cons_succ, List.getElem_cons_zero])
    refine wpAnyH_take (i := 5) (v := ?rv5) rfl (by kernel_rfl) (by kernel_rfl) (by kernel_rfl) (fun _ _ _ h => h) (Or.inl ⟨by rfl, ?ry5⟩) (by assumption) ?rr5
    case ry5 => (intro w hSw; (try dsimp only at hSw); go_simp; try with_reducible rfl)
    (try simp only [Act.put, List.setIfInBounds_toArray, List.set_cons_zero, List.set_cons_succ, List.getElem_toArray, List.getElem_cons_succ, List.getElem_cons_zero])
    refine wpAnyH_take (i := 6) (v := ?rv6) rfl (by kernel_rfl) (by kernel_rfl) (by kernel_rfl) (fun _ _ _ h => h) (Or.inl ⟨by rfl, ?ry6⟩) (by assumption) ?rr6
    case ry6 => (intro w hSw; (try dsimp only at hSw); go_simp; try with_reducible rfl)
    (try simp only [Act.put, List.setIfInBounds_toArray, List.set_cons_zero, List.set_cons_succ, List.getElem_toArray, List.getElem_cons_succ, List.getElem_cons_zero])
    refine wpAnyH_done (by kernel_rfl) ?_ _
    simp only [NoPanic]
    go_wp2_with fail
    have hdf6 : w6.heap[Dd]? = some (.deferred (some [])) := (B6.out.block Dd hDl).trans hdf
    refine ⟨by simp, .inl ⟨_, _, rfl, run_takeDeferred hdf6, ?_⟩⟩
    have hpo := grownBy_putObj' w6 Dd (.deferred none)
    have hlm : m6.length = f2.length := HP6.out.length_eq
    have hws := B1.out.size
    have hsW : w1.heap.size ≤ W.heap.size := HM'.out.size
    refine ⟨_, results_tmp2 rfl _ _ _, xs, m6, va6, vc6, HSx.out, by rw [HF1.out, hlm]; rfl, by rw [HF2.out]; exact HP6.out, HR6.out, ?_, ?_⟩
    · rw [hlm]
      refine own_kept (own_lower HO6.out (by have := B5.out.size; omega)) ?_
      intro q cs hq hh
      refine hpo.block q (lt_of_block hh) ?_
      intro e
      cases e
      rw [hdf6] at hh; cases hh
    · refine (Below.mk HM'.out.os HM'.out.tape HM'.out.output HM'.out.size (fun k hk => HM'.out.block k (by omega) (by have := HA.out; omega) (by have := HG.out; omega)) : Below w.heap.size w1 W) |> fun h1 => (B1.out.trans h1).trans ((B6.out.mono (by omega)).trans (belowK_b (w := w) (Nat.le_refl _) w6 Dd _ _ (by omega) hdf6 rfl rfl))
  case stop =>
    intro Dd c pre W hD hS hF hdf
    exact hF.elim
end Go.Proofs.YthhcpoafnmhnhaaGreat
