/- What rising of a table answers: its entries, by their Refs. Conditions: the table lies in memory, and has at most sixty instances. -/
import Derived.Test.YthhcpoafnmhnhaaInGet
import Derived.Test.YthhcpoafnmhnhaaInOrdL
namespace Go.Proofs.Ythhcpoafnmhnhaa
open Go.RowKit Go.Maps Go.Shelf
attribute [local go_sem] Oper.semAt_some
set_option linter.unusedVariables false
set_option linter.unusedSimpArgs false

def rfL (ss : List EnI) : List (Int × Int) := ss.map fun e => e.x.ref
/-- In the loop: the row lies at block G, all else is as it was. -/
structure RI (w1 : World) (G : Nat) (l : List (Int × Int)) (W : World) : Prop where
  row : ∃ va vc, W.heap[G]? = some (.cells #[.slice va l.length vc] 36 (0, 0)) ∧ W.ownsRow w1.heap.size 24 2 (.slice va l.length vc) l.length (rvs l)
  os : W.os = w1.os
  tape : W.tape = w1.tape
  output : W.output = w1.output
  size : w1.heap.size ≤ W.heap.size
  block : ∀ k, k < w1.heap.size → k ≠ G → W.heap[k]? = w1.heap[k]?
theorem RI.turned {w1 X Y : World} {G : Nat} {l : List (Int × Int)} {row : Option Nat} (h : RI w1 G l X) (hg : X.grownBy Y row) (hr : ∀ r, row = some r → w1.heap.size ≤ r ∧ ∃ o : Obj, X.heap[r]? = some o ∧ o.isCells = false) : RI w1 G l Y := by
  have key : ∀ {q : Nat} {cs : Array Value} {t : TypeId} {fr : Nat × Nat}, X.heap[q]? = some (.cells cs t fr) → Y.heap[q]? = X.heap[q]? := by
    intro q cs t fr hq
    refine hg.block q (lt_of_block hq) ?_
    intro e
    obtain ⟨o, ho, hc⟩ := (hr q e.symm).2
    rw [hq] at ho; cases ho; cases hc
  obtain ⟨va, vc, h1, h2⟩ := h.row
  refine ⟨⟨va, vc, (key h1).trans h1, own_kept h2 fun q cs _ hq => key hq⟩, hg.os.trans h.os, hg.tape.trans h.tape, hg.output.trans h.output, Nat.le_trans h.size hg.size, ?_⟩
  intro k hk h4
  refine (hg.block k (Nat.lt_of_lt_of_le hk h.size) ?_).trans (h.block k hk h4)
  intro e
  have := (hr k e.symm).1
  omega
theorem RI.below {w1 X Y : World} {G : Nat} {l : List (Int × Int)} (h : RI w1 G l X) (hb : Below X.heap.size X Y) : RI w1 G l Y := h.turned (row := none) ⟨hb.os, hb.tape, hb.output, hb.size, fun k hk _ => hb.block k hk⟩ (fun r e => by cases e)
theorem RI.more {w1 X Y : World} {G : Nat} {l : List (Int × Int)} (h : RI w1 G l X) (hG : G < w1.heap.size) {va0 : Option Addr} {vc0 : Nat} (ho : X.ownsRow w1.heap.size 24 2 (.slice va0 l.length vc0) l.length (rvs l)) (hg : X.grownBy Y (Value.slice va0 l.length vc0).ownBlock) {r : Int × Int} {va : Option Addr} {n vc : Nat} (hn : n = (l ++ [r]).length) (hy : Y.ownsRow w1.heap.size 24 2 (.slice va n vc) n (rvs (l ++ [r]))) :
    RI w1 G (l ++ [r]) (Y.setCell ⟨G, 0, none⟩ (.slice va n vc)) := by
  subst hn
  obtain ⟨va1, vc1, h1, h2⟩ := h.row
  have low : ∀ k, k < w1.heap.size → Y.heap[k]? = X.heap[k]? := fun k hk => hg.block k (Nat.lt_of_lt_of_le hk h.size) (fun e => by have := (World.ownsRow.lt ho k e.symm).1; omega)
  have key : ∀ k, k ≠ G → (Y.setCell ⟨G, 0, none⟩ (.slice va (l ++ [r]).length vc)).heap[k]? = Y.heap[k]? := fun k hk => Below.heap_setCell Y ⟨G, 0, none⟩ _ k hk
  refine ⟨⟨va, vc, ?_, own_kept hy fun q cs hq _ => key q (by have := (World.ownsRow.lt hy q hq).1; omega)⟩, hg.os.trans h.os, hg.tape.trans h.tape, hg.output.trans h.output, by have := h.size; have := hg.size; simp; omega, fun k hk h4 => (key k h4).trans ((low k hk).trans (h.block k hk h4))⟩
  exact heap_setCell_same _ _ _ _ _ _ ((low G hG).trans h1)
theorem once_eqR {L : List EnI} (h : L.Pairwise fun a b => a.x.ref ≠ b.x.ref) {a b : EnI} (ha : a ∈ L) (hb : b ∈ L) (he : a.x.ref = b.x.ref) : a = b := by
  induction h with
  | nil => simp at ha
  | cons hx hp ih =>
    rcases List.mem_cons.1 ha with ea | ha2
    · rcases List.mem_cons.1 hb with eb | hb2
      · rw [ea, eb]
      · exact absurd (by rw [← ea]; exact he) (hx b hb2)
    · rcases List.mem_cons.1 hb with eb | hb2
      · exact absurd (by rw [← eb]; exact he.symm) (hx a ha2)
      · exact ih ha2 hb2
/-- The entries by their Refs. -/
structure RisE (L R : List EnI) : Prop where
  rise : R.Pairwise fun a b => refLt a.x.ref b.x.ref = true
  sub : ∀ e ∈ R, e ∈ L
  all : ∀ e ∈ L, e ∈ R
/-- What rising leaves. -/
def RisP (L : List EnI) (w : World) (e : Ending) (w' : World) : Prop := ∃ R va vc, RisE L R ∧ e = .returned (.slice va R.length vc) ∧ w'.ownsRow w.heap.size 38 16 (.slice va R.length vc) R.length (ics R) ∧ Below w.heap.size w w'
theorem exec_lookF {f : Operand → Value} {o : Oper} {w : World} {t : TypeId} {m x : Operand} (hop : o.op = .lookup t m x false) {mv key r : Value} (hm : f m = mv) (hx : f x = key)
    (hrun : (Instr.lookup t mv key false).run Try.prog w = .ok r w) : (execOp f o).run Try.prog w = .ok (.value r) w := by
  simp [execOp, hop, hm, hx, hrun, Result.andThen]
theorem lookE {w : World} {tb mb n : Nat} {D : DataW Value} {L : List EnI} (hT : Tb w tb mb n D) (hL : TL D L) {e : EnI} (he : e ∈ L) :
    (Instr.lookup 60 (.map (some mb)) (.agg #[.int .i64 e.x.ref.1, .int .i64 e.x.ref.2]) false).run Try.prog w = .ok (.agg e.c) w := by
  have hr := hL.refs e he
  obtain ⟨lv, ps, hrun, hv⟩ := World.ownsMap.lookup (w := w) hT.own refLaw Try.underlyingTab (Try.zeroInst _) (RH_mk zeroSh) (keyOf_ref e.x.ref hr.1 hr.2)
  obtain ⟨-, hd2, -⟩ := RH_inv hv
  rw [hL.each e he] at hd2
  rw [hrun, ← DataW.held.inj hd2]
  rfl
theorem wp_buildI {o : Oper} {a : Act} {w : World} {K : Act → World → Prop} {Q : Exit → Act → World → Prop} (x : Operand) (ho : o.op = .buildSlice 22 1 #[(0, x)])
    (cs : Array Value) (hx : a.eval x = .agg cs) (hs : cs.size = 16)
    (h : K (a.put o.dst (.slice (some ⟨w.heap.size, 0, none⟩) 1 1)) (w.alloc (.cells cs 38))) : o.wp Try.prog a w K Q := by
  obtain ⟨i, hi, hz0, hz1, hz2⟩ := info_parts rowIn.i
  refine wp_buildSlice 22 38 1 #[(0, x)] ho cs i zI rowIn.u hi hz0 (by rw [hz1]; decide) (by rw [hz1]; decide) ?_ h
  rw [hz1]
  simp only [List.map_toArray, List.map_cons, List.map_nil, hx]
  exact fill16 cs hs
theorem Tb.grow {W W' : World} {tb mb n : Nat} {D : DataW Value} (h : Tb W tb mb n D) {B : Nat} {E : TypeId} {k n2 : Nat} {v : Value} {xs : List Value} (ho : W.ownsRow B E k v n2 xs) (hE : E ≠ 62) (hg : W.grownBy W' v.ownBlock) : Tb W' tb mb n D := by
  refine h.kept hg ?_ ?_
  · intro e
    obtain ⟨cur, hcur⟩ := own_typed ho e.symm
    rw [h.box] at hcur
    simp at hcur
    exact hE hcur.2.symm
  · intro e
    obtain ⟨cur, hcur⟩ := own_typed ho e.symm
    obtain ⟨es, clock, hm, -⟩ := h.own
    rw [hcur] at hm; cases hm
set_option maxRecDepth 100000 in
set_option maxHeartbeats 4000000 in
theorem irising_any (tb mb nn : Nat) (D : DataW Value) (L : List EnI) (w : World) (hT : Tb w tb mb nn D) (hL : TL D L) (hn : L.length ≤ 5000) :
    Calls Try.prog 22 #[.pointer (some ⟨tb, 0, none⟩)] w (RisP L w) := by
  have HT := hid hT
  have HL := hid hL
  clear hT hL
  have hDs := HL.out.size
  refine (callsIn_wide (n := 3)).1 ?_
  refine callsIn_of_wp_marks Try.func22 rfl trivial ?_ rfl
  simp only [Try.ntmps22, List.size_toArray, List.length_cons, List.length_nil, Nat.reduceAdd, Nat.reduceSub, Array.replicate_succ, Array.replicate_zero, List.push_toArray, List.append_toArray, List.nil_append, List.cons_append]
  refine wpIn_wide.2 ?_
  go_upto_region 2 with fail
  obtain ⟨w0, hw0⟩ : ∃ w0, w0 = w.alloc (.cells #[.slice none 0 0] 36) := ⟨_, rfl⟩
  have b0 : Below w.heap.size w w0 := by rw [hw0]; exact (Below.refl _ _).alloc (Nat.le_refl _) _
  have g0 : w0.heap[w.heap.size]? = some (.cells #[.slice none 0 0] 36 (0, 0)) := by rw [hw0]; exact heap_alloc_new _ _
  rw [← hw0]
  clear hw0
  obtain ⟨G, hG⟩ : ∃ G, G = w.heap.size := ⟨_, rfl⟩
  rw [← hG] at g0
  rw [← hG]
  have HG := hid hG
  have G0 := hid g0
  have B0 := hid b0
  clear hG g0 b0
  go_wp2_with fail
  refine (known_any _ w0 ⟨_, rfl⟩).mono ?_
  rintro e w1 ⟨rfl, hw1⟩
  have b1 : Below w0.heap.size w0 w1 := by rw [hw1]; exact (Below.refl _ _).alloc (Nat.le_refl _) _
  have K1 : Hid (w1.heap[w0.heap.size]? = some (.cells #[.pointer (some ⟨tb, 0, none⟩)] 25 (0, 0))) := hid (by rw [hw1]; exact heap_alloc_new _ _)
  have G1 := hid ((b1.block G (lt_of_block G0.out)).trans G0.out)
  have B1 := hid (B0.out.trans (b1.mono B0.out.size))
  have T1 := hid (HT.out.below B1.out)
  have hlG : G < w1.heap.size := lt_of_block G1.out
  obtain ⟨B, hB⟩ : ∃ B, B = w0.heap.size := ⟨_, rfl⟩
  rw [← hB] at K1
  rw [← hB]
  clear hw1 b1 G0 B0 hB
  go_wp2_with fail
  refine (wpIn_wide (n := 3)).1 ?_
  refine wpIn_rangeFunc_ownH (F := Fence.wide) rfl (by omega) (gf := 36) (lb := #[.pointer (some ⟨B, 0, none⟩)]) rfl trivial (enters_of Try.func36 (by kernel_rfl) rfl)
    (known_stops _ (by omega) B tb mb nn D w1 K1.out T1.out) walksK_t (fun W l o o' h1 h2 h3 h4 => walksK_b (w := w1) W l o o' h1 h2 h3 h4) (Below.refl _ _) (fun _ => rfl)
    (fun pre W => RI w1 G (rfL pre) W)
    (fun c pre W => False) ?hI ?hIx ?h0
    (AtB w1.heap.size ?Fr)
    ?hAx ?assign ?body ?done ?stop
  case h0 => exact ⟨⟨none, 0, G1.out, World.ownsRow_nil _ _ _ _⟩, rfl, rfl, rfl, Nat.le_refl _, fun _ _ _ => rfl⟩
  case hI =>
    intro s X Y row h hg hr
    exact h.turned hg hr
  case hIx =>
    intro c s X Y row h hg hr
    exact h
  case hAx =>
    rintro x a' s X Y row ⟨q, h1, h2, h3⟩ hg hr
    refine ⟨q, h1, h2, (hg.block q (lt_of_block h3) ?_).trans h3⟩
    intro e
    obtain ⟨o, ho, hc⟩ := (hr q e.symm).2
    rw [h3] at ho; cases ho; cases hc
  case assign =>
    intro y pre x W K h hK
    have hc1 : x.c.size = 16 := rfl
    have hc2 : x.c.all (·.oneCell') = true := instC_one _ _ _ rfl rfl
    have hv : x.v = .agg x.c := rfl
    rw [hv]
    clear hv
    gi_wp2_with (first | (refine wplI_storeC rfl _ _ rfl W.heap.size x.c rfl rfl hc1 hc2 _ zeroI (.slice none 0 0) (.slice none 0 0) (heap_alloc_new _ _) ?_) | gi_in)
    have hb : Below W.heap.size W ((W.alloc (.cells (instC zeroI (.slice none 0 0) (.slice none 0 0)) 38)).setRow W.heap.size x.c) := below_row ((Below.refl _ _).alloc (Nat.le_refl _) _) (Nat.le_refl _) _
    have hrow : ((W.alloc (.cells (instC zeroI (.slice none 0 0) (.slice none 0 0)) 38)).setRow W.heap.size x.c).heap[W.heap.size]? = some (.cells x.c 38 (0, 0)) := setRow_heap _ _ _ _ _ _ (heap_alloc_new _ _)
    refine hK _ _ ((keeps_belowI hb).from _) (keeps_belowI hb).walks (h.below hb) ⟨W.heap.size, h.size, ?ax, hrow⟩
    case ax =>
      clear hK hb hrow
      obtain ⟨q, hq⟩ : ∃ q, q = W.heap.size := ⟨_, rfl⟩
      rw [← hq]
  case body =>
    rintro y pre x a' W hy _ hM ⟨q, hq, hfr, hx⟩ hlt'
    obtain rfl : a' = _ := hfr
    have hqG : q ≠ G := by omega
    obtain ⟨va0, vc0, hg0, ho0⟩ := hM.row
    have d0 : W.cell? ⟨q, 0, none⟩ = some (.int .i64 x.x.ref.1) := by rw [cell_of_row _ _ _ _ _ _ hx]; rfl
    have d1 : W.cell? ⟨q, 1, none⟩ = some (.int .i64 x.x.ref.2) := by rw [cell_of_row _ _ _ _ _ _ hx]; rfl
    have gG : W.cell? ⟨G, 0, none⟩ = some (.slice va0 (rfL pre).length vc0) := by rw [cell_of_row _ _ _ _ _ _ hg0]; rfl
    have HFX : Hid (rfL (pre ++ [x]) = rfL pre ++ [x.x.ref]) := hid (by simp [rfL])
    have HPL : Hid ((rfL pre).length = pre.length) := hid (by simp [rfL])
    have hpl : (rfL pre).length + 1 ≤ 1000000 := by have := HPL.out; omega
    generalize rfL pre = fp at *
    obtain ⟨W4, hW4⟩ : ∃ W4, W4 = W.alloc (.cells #[.int .i64 x.x.ref.1, .int .i64 x.x.ref.2] 24) := ⟨_, rfl⟩
    have b4 : Below W.heap.size W W4 := by rw [hW4]; exact (Below.refl _ _).alloc (Nat.le_refl _) _
    have r4 : W4.heap[W.heap.size]? = some (.cells #[.int .i64 x.x.ref.1, .int .i64 x.x.ref.2] 24 (0, 0)) := by rw [hW4]; exact heap_alloc_new _ _
    have M4 := hid (hM.below b4)
    have O4 := hid (own_below ho0 b4)
    have R4 : Hid (∀ j u, [Value.int .i64 x.x.ref.1, .int .i64 x.x.ref.2][j]? = some u → W4.cell? ⟨W.heap.size, j, none⟩ = some u) := hid fun j u hj => by
      match j, hj with
      | 0, hj => rw [cell_of_row _ _ _ _ _ _ r4]; simpa using hj
      | 1, hj => rw [cell_of_row _ _ _ _ _ _ r4]; simpa using hj
      | j + 2, hj => simp at hj
    have HG4 := hid ((b4.block G (lt_of_block hg0)).trans hg0)
    have K4 := hid (keeps_belowI b4)
    have HW4 := hid hW4
    clear hW4 b4 r4 hM hx hg0 ho0
    gi_wp2_with (gi_at_builtin; rw [← HW4.out]; refine wplI_app rowRf rfl (.tmp 11) (.tmp 14) rfl w1.heap.size (.slice va0 fp.length vc0) fp.length (rvs fp) rfl O4.out W.heap.size 1 1 [.int .i64 x.x.ref.1, .int .i64 x.x.ref.2] rfl rfl R4.out (by intro u hu; simp at hu; rcases hu with rfl | rfl <;> rfl) (by omega) M4.out.size ?_; intro va5 vc5 W5 ho5 hg5; have gG5 := (hg5.block G (lt_of_block HG4.out) (fun e => by have := (World.ownsRow.lt O4.out G e.symm).1; omega)).trans HG4.out; have G5c : W5.cell? ⟨G, 0, none⟩ = some (.slice va0 fp.length vc0) := by { rw [cell_of_row _ _ _ _ _ _ gG5]; rfl }; have G5f : W5.frozen? ⟨G, 0, none⟩ = false := frozen_of_row _ _ _ _ _ gG5; have HO5 := hid ho5; have HG5 := hid hg5; clear gG5 ho5 hg5)
    have K5 : KeepsOthers W (W5.setCell ⟨G, 0, none⟩ (.slice va5 (fp.length + 1) vc5)) := (K4.out.trans (keeps_own O4.out HG5.out)).trans (KeepsOthers.setCell _ _ _)
    refine ⟨K5.from _, K5.walks, ?_⟩
    show RI w1 G (rfL (pre ++ [x])) _
    rw [HFX.out]
    exact M4.out.more hlG O4.out HG5.out (by simp) (by have := HO5.out; rw [show rvs (fp ++ [x.x.ref]) = rvs fp ++ [.int .i64 x.x.ref.1, .int .i64 x.x.ref.2] by simp [rvs]]; exact this)
  case done =>
    intro Dd xs W hD hS hM hdf
    obtain ⟨va, vc, hg, ho⟩ := hM.row
    have HND : Hid (rfL xs).Nodup := hid (List.pairwise_map.2 (hS.refs HL.out))
    have HLN : Hid ((rfL xs).length ≤ L.length) := hid (by have := hS.len HL.out; simpa [rfL] using this)
    have HIN : Hid (∀ r ∈ rfL xs, ∃ e ∈ L, e.x.ref = r) := hid fun r hr => by
      obtain ⟨e, he, rfl⟩ := List.mem_map.1 hr
      obtain ⟨y, hy, hv, -⟩ := hS.of HL.out he
      exact ⟨y, hy, (v_num hv).1.symm⟩
    have HAL : Hid (∀ e ∈ L, e.x.ref ∈ rfL xs) := hid fun e he => by
      obtain ⟨y, hy, hv, -⟩ := hS.to HL.out he
      exact List.mem_map.2 ⟨y, hy, (v_num hv).1⟩
    have gG : W.cell? ⟨G, 0, none⟩ = some (.slice va (rfL xs).length vc) := by rw [cell_of_row _ _ _ _ _ _ hg]; rfl
    have HM := hid hM
    have HO := hid ho
    generalize rfL xs = fl at *
    have BW : Hid (Below w.heap.size w W) := hid (B1.out.trans ⟨hM.os, hM.tape, hM.output, hM.size, fun k hk => hM.block k (by have := B1.out.size; omega) (by have := HG.out; omega)⟩)
    have hDl : Dd < W.heap.size := lt_of_block hdf
    have HDF := hid hdf
    clear hg ho hM hS hdf
    gi_wp2
    go_wp2_with fail
    refine (refsD_any _ _ fl _ ((rfs_rvs HO.out).below ((Below.refl _ _).alloc (Nat.le_refl _) _)) (heap_alloc_new _ _) (by have := HLN.out; omega) HND.out).mono ?_
    rintro e w2 ⟨va2, vc2, m, rfl, hp2, hr2, ho2, hb2⟩
    have hml : m.length = fl.length := hp2.length_eq
    have HRR := hid hr2
    have HMI : Hid (∀ r ∈ m, ∃ e ∈ L, e.x.ref = r) := hid fun r hr => HIN.out r (hp2.mem_iff.1 hr)
    have HMA : Hid (∀ e ∈ L, e.x.ref ∈ m) := hid fun e he => hp2.mem_iff.2 (HAL.out e he)
    have bwa : Below W.heap.size W (W.alloc (.cells #[.slice va fl.length vc] 36)) := (Below.refl _ _).alloc (Nat.le_refl _) _
    have B2 := hid (BW.out.trans ((bwa.trans (hb2.mono bwa.size)).mono BW.out.size))
    have hdf2 : Hid (w2.heap[Dd]? = some (.deferred (some []))) := hid (((bwa.trans (hb2.mono bwa.size)).block Dd hDl).trans HDF.out)
    have HMR := hid (rfs_rvs (l := m) (by rw [hml]; exact ho2))
    have T2 := hid (HT.out.below B2.out)
    have hm5 : m.length ≤ 5000 := by have := HLN.out; omega
    rw [← hml]
    rw [← hml] at HMR
    clear hp2 hr2 ho2 hb2 bwa hml gG HM HO BW HND HIN HAL HDF HLN
    go_wp2_with fail
    go_loopw [5, 20] (fun lv kv wr => ∃ (k : Nat) (R : List EnI) (ra : Option Addr) (rc : Nat), kv = .int .i64 k ∧ k ≤ m.length ∧ lv = .slice ra k rc ∧ (R.map fun e => e.x.ref) = m.take k ∧ (∀ e ∈ R, e ∈ L) ∧ wr.ownsRow w2.heap.size 38 16 (.slice ra k rc) k (ics R) ∧ Below w2.heap.size w2 wr) (fun _ kv _ => m.length - (intOf kv).toNat)
    case atStart => exact ⟨0, [], none, 0, rfl, Nat.zero_le _, rfl, by simp, by simp, World.ownsRow_nil _ _ _ _, Below.refl _ _⟩
    case round =>
      obtain ⟨k, R, ra, rc, rfl, hk, rfl, hRm, hRL, hRo, hbr⟩ := hrel
      have HRM := hid hRm
      have HRL := hid hRL
      have HRO := hid hRo
      have BR := hid hbr
      have HMr := hid (HMR.out.below hbr)
      clear hRm hRL hRo hbr
      by_cases hkl : (k : Int) < (m.length : Int)
      · have hkn : k < m.length := by omega
        obtain ⟨gd, od, rfl⟩ := HMr.out.addr (by omega)
        obtain ⟨c0, c1⟩ := HMr.out.lit k hkn
        obtain ⟨e, heL, her⟩ := HMI.out m[k] (List.getElem_mem hkn)
        have HTK := hid (show m.take (k + 1) = m.take k ++ [e.x.ref] by rw [List.take_succ_eq_append_getElem hkn, her])
        rw [← her] at c0 c1
        have HEL := hid heL
        clear her heL
        obtain ⟨er, her⟩ : ∃ er, er = e.x.ref := ⟨_, rfl⟩
        rw [← her] at c0 c1
        have HER := hid her
        clear her
        have hec : e.c.size = 16 := rfl
        have heo := e.one
        obtain ⟨ec, hec'⟩ : ∃ ec, ec = e.c := ⟨_, rfl⟩
        rw [← hec'] at hec heo
        have HEC := hid hec'
        clear hec'
        obtain ⟨wb, hwb⟩ : ∃ wb, wb = wr.alloc (.cells #[.int .i64 er.1, .int .i64 er.2] 24) := ⟨_, rfl⟩
        have bb : Below wr.heap.size wr wb := by rw [hwb]; exact (Below.refl _ _).alloc (Nat.le_refl _) _
        have hBx : wb.heap[wr.heap.size]? = some (.cells #[.int .i64 er.1, .int .i64 er.2] 24 (0, 0)) := by rw [hwb]; exact heap_alloc_new _ _
        have HWB := hid hwb
        have BBb := hid (BR.out.trans (bb.mono BR.out.size))
        have ROb := hid (own_below HRO.out bb)
        have Tb2 := hid (T2.out.below BBb.out)
        clear hwb bb
        go_upto_region 9 with fail
        rw [← HWB.out]
        obtain ⟨Bx, hBe⟩ : ∃ Bx, Bx = wr.heap.size := ⟨_, rfl⟩
        rw [← hBe] at hBx
        rw [← hBe]
        have HBX := hid hBx
        clear hBe HWB c0 c1 hBx
        have SK : Hid (∀ X, Tb X tb mb nn D → X.heap[Bx]? = some (.cells #[.int .i64 er.1, .int .i64 er.2] 24 (0, 0)) → X.cell? ⟨tb, 0, none⟩ = some (.map (some mb)) ∧ X.cell? ⟨Bx, 0, none⟩ = some (.int .i64 er.1) ∧ X.cell? ⟨Bx, 1, none⟩ = some (.int .i64 er.2) ∧ (Instr.lookup 60 (.map (some mb)) (.agg #[.int .i64 er.1, .int .i64 er.2]) false).run Try.prog X = .ok (.agg ec) X) := hid fun X h1 h2 => by
          refine ⟨?_, ?_, ?_, ?_⟩
          · rw [cell_of_row _ _ _ _ _ _ h1.box]; rfl
          · rw [cell_of_row _ _ _ _ _ _ h2]; rfl
          · rw [cell_of_row _ _ _ _ _ _ h2]; rfl
          · rw [HER.out, HEC.out]; exact lookE h1 HL.out HEL.out
        have SW : Hid (∀ X, Below wb.heap.size wb X → X.cell? ⟨tb, 0, none⟩ = some (.map (some mb)) ∧ X.cell? ⟨Bx, 0, none⟩ = some (.int .i64 er.1) ∧ X.cell? ⟨Bx, 1, none⟩ = some (.int .i64 er.2) ∧ (Instr.lookup 60 (.map (some mb)) (.agg #[.int .i64 er.1, .int .i64 er.2]) false).run Try.prog X = .ok (.agg ec) X) := hid fun X hX => SK.out X (Tb2.out.below hX) ((hX.block Bx (lt_of_block HBX.out)).trans HBX.out)
        refine wp_region_noPanic ?_
        refine wp_region_held_drew (S := fun X => X.cell? ⟨tb, 0, none⟩ = some (.map (some mb)) ∧ X.cell? ⟨Bx, 0, none⟩ = some (.int .i64 er.1) ∧ X.cell? ⟨Bx, 1, none⟩ = some (.int .i64 er.2) ∧ (Instr.lookup 60 (.map (some mb)) (.agg #[.int .i64 er.1, .int .i64 er.2]) false).run Try.prog X = .ok (.agg ec) X) (by kernel_rfl) (SW.out _ ((Below.refl _ _).drew)) (fun hHeld => ?_)
        refine wpAnyH_take (i := 0) (v := ?av0) rfl (by kernel_rfl) (by kernel_rfl) (by kernel_rfl) (fun _ _ _ h => h) (Or.inl ⟨by rfl, ?ay0⟩) (by assumption) ?ar0
        case ay0 => (intro w hSw; (try dsimp only at hSw); go_simp; try with_reducible rfl)
        (try simp only [Act.put, List.setIfInBounds_toArray, List.set_cons_zero, List.set_cons_succ, List.getElem_toArray, List.getElem_cons_succ, List.getElem_cons_zero])
        refine wpAnyH_take (i := 1) (v := ?av1) rfl (by kernel_rfl) (by kernel_rfl) (by kernel_rfl) (fun _ _ _ h => h) (Or.inl ⟨by rfl, ?ay1⟩) (by assumption) ?ar1
        case ay1 => (intro w hSw; (try dsimp only at hSw); go_simp; try with_reducible rfl)
        (try simp only [Act.put, List.setIfInBounds_toArray, List.set_cons_zero, List.set_cons_succ, List.getElem_toArray, List.getElem_cons_succ, List.getElem_cons_zero])
        refine wpAnyH_take (i := 2) (v := ?av2) rfl (by kernel_rfl) (by kernel_rfl) (by kernel_rfl) (fun _ _ _ h => h) (Or.inl ⟨by rfl, ?ay2⟩) (by assumption) ?ar2
        case ay2 => (intro w hSw; (try dsimp only at hSw); go_simp; try with_reducible rfl)
        (try simp only [Act.put, List.setIfInBounds_toArray, List.set_cons_zero, List.set_cons_succ, List.getElem_toArray, List.getElem_cons_succ, List.getElem_cons_zero])
        refine wpAnyH_take (i := 3) (v := ?av3) rfl (by kernel_rfl) (by kernel_rfl) (by kernel_rfl) (fun _ _ _ h => h) (Or.inl ⟨by rfl, ?ay3⟩) (by assumption) ?ar3
        case ay3 => (intro w hSw; (try dsimp only at hSw); go_simp; try with_reducible rfl)
        (try simp only [Act.put, List.setIfInBounds_toArray, List.set_cons_zero, List.set_cons_succ, List.getElem_toArray, List.getElem_cons_succ, List.getElem_cons_zero])
        refine wpAnyH_take (i := 4) (v := ?av4) rfl (by kernel_rfl) (by kernel_rfl) (by kernel_rfl) (fun _ _ _ h => h) (Or.inl ⟨by rfl, ?ay4⟩) (by assumption) ?ar4
        case ay4 => (intro w hSw; (try dsimp only at hSw); go_simp; try with_reducible rfl)
        (try simp only [Act.put, List.setIfInBounds_toArray, List.set_cons_zero, List.set_cons_succ, List.getElem_toArray, List.getElem_cons_succ, List.getElem_cons_zero])
        refine wpAnyH_take (i := 5) (v := ?av5) rfl (by kernel_rfl) (by kernel_rfl) (by kernel_rfl) (fun _ _ _ h => h) (Or.inl ⟨by rfl, ?ay5⟩) (by assumption) ?ar5
        case ay5 => (intro w hSw; (try dsimp only at hSw); go_simp; try with_reducible rfl)
        (try simp only [Act.put, List.setIfInBounds_toArray, List.set_cons_zero, List.set_cons_succ, List.getElem_toArray, List.getElem_cons_succ, List.getElem_cons_zero])
        refine wpAnyH_take (i := 6) (v := .agg ec) rfl (by kernel_rfl) (by kernel_rfl) (by kernel_rfl) (fun _ _ _ h => h) (Or.inl ⟨by rfl, ?ay6⟩) (by assumption) ?ar6
        case ay6 =>
          intro w hSw
          exact exec_lookF rfl rfl rfl hSw.2.2.2
        (try simp only [Act.put, List.setIfInBounds_toArray, List.set_cons_zero, List.set_cons_succ, List.getElem_toArray, List.getElem_cons_succ, List.getElem_cons_zero])
        refine wpAnyH_ready (rs := [7]) (by kernel_rfl) (by simp) ?_
        refine AllReadyH.cons rfl (fun K hK => ?_) AllReadyH.nil
        rw [if_pos (by rfl)]
        refine wp_buildI _ rfl ec rfl hec ?_
        have B5 : Hid (Below wb.heap.size wb ((wb.alloc (.cells ec 38)).drew)) := hid (((Below.refl _ _).alloc (Nat.le_refl _) _).drew)
        refine hK.out _ _ (SW.out _ B5.out) (fun hHeld => ?_)
        try clear hK K
        (try simp only [Act.put, List.setIfInBounds_toArray, List.set_cons_zero, List.set_cons_succ, List.getElem_toArray, List.getElem_cons_succ, List.getElem_cons_zero])
        refine wpAnyH_ready (rs := [8]) (by kernel_rfl) (by simp) ?_
        refine AllReadyH.cons rfl (fun K hK => ?_) AllReadyH.nil
        rw [if_pos (by rfl)]
        refine wp_app rowIn _ _ rfl w2.heap.size (.slice ra k rc) k (ics R) rfl (own_below ROb.out B5.out) wb.heap.size 1 1 ec.toList rfl (by simp [hec]) ?rcell (fun u hu => (Array.all_eq_true_iff_forall_mem.1 heo) u (by simpa using hu)) (by omega) (Nat.le_trans BBb.out.size B5.out.size) ?_
        case rcell =>
          intro j u hj
          show (wb.alloc (.cells ec 38)).cell? ⟨wb.heap.size, j, none⟩ = some u
          rw [cell_of_row _ _ _ _ _ _ (heap_alloc_new wb _), ← Array.getElem?_toList]; exact hj
        intro va6 vc6 w6 ho6 hg6
        have HO6 := hid ho6
        have B6 : Hid (Below w2.heap.size w2 w6) := hid ((BBb.out.trans (B5.out.mono BBb.out.size)).trans (own_bel (own_below ROb.out B5.out) hg6 (Nat.le_trans BBb.out.size B5.out.size)))
        have hS6 := SK.out w6 ((Tb2.out.below B5.out).grow (own_below ROb.out B5.out) (by decide) hg6) ((hg6.block Bx (Nat.lt_of_lt_of_le (lt_of_block HBX.out) B5.out.size) (fun e => by obtain ⟨cur, hcur⟩ := own_typed (own_below ROb.out B5.out) e.symm; rw [(B5.out.block Bx (lt_of_block HBX.out)).trans HBX.out] at hcur; simp at hcur)).trans ((B5.out.block Bx (lt_of_block HBX.out)).trans HBX.out))
        clear ho6 hg6
        refine hK.out _ _ hS6 (fun hHeld => ?_)
        try clear hK K
        (try simp only [Act.put, List.setIfInBounds_toArray, List.set_cons_zero, List.set_cons_succ, List.getElem_toArray, List.getElem_cons_succ, List.getElem_cons_zero])
        refine wpAnyH_take (i := 9) (v := ?av9) rfl (by kernel_rfl) (by kernel_rfl) (by kernel_rfl) (fun _ _ _ h => h) (Or.inl ⟨by rfl, ?ay9⟩) (by assumption) ?ar9
        case ay9 => (intro w hSw; (try dsimp only at hSw); go_simp; try with_reducible rfl)
        (try simp only [Act.put, List.setIfInBounds_toArray, List.set_cons_zero, List.set_cons_succ, List.getElem_toArray, List.getElem_cons_succ, List.getElem_cons_zero])
        refine wpAnyH_done (by kernel_rfl) ?_ _
        simp only [NoPanic]
        go_wp2_with fail
        go_roundw
        case rel => exact ⟨k + 1, R ++ [e], va6, vc6, by go_num, by omega, rfl, by rw [List.map_append, HRM.out, HTK.out]; rfl, fun y hy => by rcases List.mem_append.1 hy with hy | hy; exact HRL.out y hy; rw [List.mem_singleton.1 hy]; exact HEL.out, by rw [ics_snoc, ← HEC.out]; exact HO6.out, B6.out⟩
        case measure => simp [intOf]; omega
      · obtain rfl : k = m.length := by omega
        have hRm := HRM.out
        rw [List.take_length] at hRm
        have hRl : R.length = m.length := by rw [← hRm]; simp
        have HRE : Hid (RisE L R) := hid ⟨by have := HRR.out; unfold RiseR at this; rw [← hRm] at this; exact List.pairwise_map.1 this, HRL.out, fun e he => by
          have h1 := HMA.out e he
          rw [← hRm] at h1
          obtain ⟨y, hy, hye⟩ := List.mem_map.1 h1
          have h2 := HL.out.once
          rw [← once_eqR h2 (HRL.out y hy) he hye]; exact hy⟩
        have HRL2 := hid hRl
        clear hRm hRl
        go_wp2_with fail
        have hdr : wr.heap[Dd]? = some (.deferred (some [])) := (BR.out.block Dd (lt_of_block hdf2.out)).trans hdf2.out
        refine ⟨by simp, .inl ⟨_, _, rfl, run_takeDeferred hdr, ?_⟩⟩
        have hpo := grownBy_putObj' wr Dd (.deferred none)
        refine ⟨_, results_tmp rfl _ _ _, R, ra, rc, HRE.out, by rw [HRL2.out]; rfl, ?_, ?_⟩
        · rw [HRL2.out]
          refine own_kept (own_lower HRO.out B2.out.size) ?_
          intro q cs hq hh
          refine hpo.block q (lt_of_block hh) ?_
          intro e
          cases e
          rw [hdr] at hh; cases hh
        · exact (B2.out.trans (BR.out.mono B2.out.size)).trans (belowK_b (w := w) (Nat.le_refl _) wr Dd _ _ (by have := B1.out.size; omega) hdr rfl rfl)
  case stop =>
    intro Dd c pre W hD hS hF hdf
    exact hF.elim
end Go.Proofs.Ythhcpoafnmhnhaa
