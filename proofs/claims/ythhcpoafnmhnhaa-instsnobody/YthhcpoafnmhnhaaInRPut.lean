/- What the document's Put answers: a row with an instance in the place of the one of its Ref, or behind all. Conditions: the row lies in memory, of at most a thousand instances. -/
import Derived.Test.YthhcpoafnmhnhaaInOpen
import Derived.Test.YthhcpoafnmhnhaaInConcat
import Derived.Deep.MidRow
import Derived.Great.BuildSlice
namespace Go.Proofs.Ythhcpoafnmhnhaa
open Go.RowKit
set_option linter.unusedVariables false
set_option linter.unusedSimpArgs false
set_option maxRecDepth 100000

theorem rowIn : RowT 22 38 (.agg #[.int .i64 0, .int .i64 0, .int .i64 0, .int .i64 0, .int .i64 0, .int .i64 0, .int .i64 0, .bool false, .int .i64 0, .int .i64 0, .int .i64 0, .int .i64 0, .int .i64 0, .slice none 0 0, .int .i64 0, .slice none 0 0]) 16 160 := ⟨by kernel_rfl, by kernel_rfl, rfl, by decide, by decide⟩
def ics (l : List EnI) : List Value := l.flatMap fun e => e.c.toList
theorem ics_snoc (l : List EnI) (e : EnI) : ics (l ++ [e]) = ics l ++ e.c.toList := by simp [ics]
theorem ics_len (l : List EnI) : (ics l).length = l.length * 16 := by
  induction l with
  | nil => rfl
  | cons e t ih =>
    have : (ics (e :: t)).length = e.c.toList.length + (ics t).length := by simp [ics]
    rw [this, ih]
    have : e.c.toList.length = 16 := rfl
    simp only [List.length_cons]
    omega
theorem ics_at (l : List EnI) (j k : Nat) (hj : j < l.length) (hk : k < 16) : (ics l)[j * 16 + k]? = l[j].c[k]? := by
  induction l generalizing j with
  | nil => simp at hj
  | cons e t ih =>
    have e1 : ics (e :: t) = e.c.toList ++ ics t := by simp [ics]
    have e2 : e.c.toList.length = 16 := rfl
    rw [e1]
    cases j with
    | zero =>
      rw [List.getElem?_append_left (by omega)]
      simp
    | succ j =>
      rw [List.getElem?_append_right (by omega), e2, show (j + 1) * 16 + k - 16 = j * 16 + k by omega]
      simpa using ih j (by simpa using hj)
theorem EnI.one (e : EnI) : e.c.all (·.oneCell') = true := instC_one _ _ _ rfl rfl
theorem ins_own {w : World} {base : Nat} {v : Value} {l : List EnI} (h : w.ownsRow base 38 16 v l.length (ics l)) (hm : ∀ e ∈ l, InM w e.x e.u e.r) : Ins w v l := by
  have h' := h
  obtain ⟨h1, h2⟩ := h
  rcases h2 with ⟨rfl, h3⟩ | ⟨g, cap, cur, rfl, hbg, hh, hc, hmx, hs, ht⟩
  · have : l = [] := List.length_eq_zero_iff.1 h3
    subst this
    exact ⟨none, 0, 0, rfl, rfl, Nat.le_refl _, by omega, (fun _ => rfl), (fun ad h => by cases h)⟩
  · refine ⟨some ⟨g, 0, none⟩, l.length, cap, rfl, rfl, hc, by unfold maxLen at hmx; omega, (fun h => by cases h), ?_⟩
    intro ad had j hj
    obtain rfl := Option.some.inj had
    refine ⟨fun k u hk hu => ?_, hm _ (List.getElem_mem hj)⟩
    exact World.ownsRow.cells h' (g := g) rfl (j * 16 + k) u (by rw [ics_at l j k hj hk]; exact hu)
theorem Ins.range {w : World} {b o cap : Nat} {l : List EnI} (h : Ins w (.slice (some ⟨b, o, none⟩) l.length cap) l) (j : Nat) (hj : j < l.length) : w.rangeAt b (o + j * 16) l[j].c.toList := by
  intro k v hk
  have hk16 : k < 16 := by
    rcases Nat.lt_or_ge k 16 with h | h
    · exact h
    · rw [List.getElem?_eq_none (by show 16 ≤ k; exact h)] at hk; cases hk
  exact (h.lit j hj).1 k v hk16 (by rw [← Array.getElem?_toList]; exact hk)
theorem Try.rowInst : ∃ d, Try.prog.underlying 38 = some d ∧ d.isRow = true := by
  obtain ⟨d, hd1, hd2⟩ := Try.structInst
  exact ⟨d, hd1, by cases d <;> first | rfl | (simp at hd2)⟩
/-- A load of an instance that lies within a row. -/
theorem wpl_loadE {ops : Array Oper} {rest : List Oper} {o : Oper} {a : Act} {w : World} {Q : Exit → Act → World → Prop} (hgd : o.guard = none) (x : Operand) (ho : o.op = .load 38 x)
    (b f : Nat) (hx : a.eval x = .pointer (some ⟨b, f, none⟩)) (cs : Array Value) (hs : cs.size = 16) (hg : w.rangeAt b f cs.toList)
    (h : wpList Try.prog ops Q rest (a.put o.dst (.agg cs)) w) : wpList Try.prog ops Q (o :: rest) a w := by
  obtain ⟨d, hd1, hd2⟩ := Try.rowInst
  exact wpList_load_mid hgd _ x ho b f hx cs.toList d hg hd1 hd2 (by rw [Array.length_toList, hs]; exact Try.sizeInst) h
/-- A load of an instance from its own box. -/
theorem wpl_loadC {ops : Array Oper} {rest : List Oper} {o : Oper} {a : Act} {w : World} {Q : Exit → Act → World → Prop} (hgd : o.guard = none) (x : Operand) (ho : o.op = .load 38 x)
    (g : Nat) (hx : a.eval x = .pointer (some ⟨g, 0, none⟩)) (cs : Array Value) (hs : cs.size = 16) (t : TypeId) (fr : Nat × Nat) (hg : w.heap[g]? = some (.cells cs t fr))
    (h : wpList Try.prog ops Q rest (a.put o.dst (.agg cs)) w) : wpList Try.prog ops Q (o :: rest) a w := by
  obtain ⟨d, hd1, hd2⟩ := Try.structInst
  exact wpList_load_row hgd _ x ho g hx t _ fr d hg hd1 (by cases d <;> first | rfl | (simp at hd2)) (by rw [hs]; exact Try.sizeInst) h
def zI : Value := .agg #[.int .i64 0, .int .i64 0, .int .i64 0, .int .i64 0, .int .i64 0, .int .i64 0, .int .i64 0, .bool false, .int .i64 0, .int .i64 0, .int .i64 0, .int .i64 0, .int .i64 0, .slice none 0 0, .int .i64 0, .slice none 0 0]
theorem fill16' (c0 c1 c2 c3 c4 c5 c6 c7 c8 c9 c10 c11 c12 c13 c14 c15 : Value) : Instr.fill (fun i => some (i * 16, 16)) ((Array.range (1 * 16)).map (zI.cells[· % zI.cells.size]!)) [(0, .agg #[c0, c1, c2, c3, c4, c5, c6, c7, c8, c9, c10, c11, c12, c13, c14, c15])] = some #[c0, c1, c2, c3, c4, c5, c6, c7, c8, c9, c10, c11, c12, c13, c14, c15] := by kernel_rfl
theorem fill16 (cs : Array Value) (h : cs.size = 16) : Instr.fill (fun i => some (i * 16, 16)) ((Array.range (1 * 16)).map (zI.cells[· % zI.cells.size]!)) [(0, .agg cs)] = some cs := by
  obtain ⟨l⟩ := cs
  match l, h with
  | [c0, c1, c2, c3, c4, c5, c6, c7, c8, c9, c10, c11, c12, c13, c14, c15], _ => exact fill16' c0 c1 c2 c3 c4 c5 c6 c7 c8 c9 c10 c11 c12 c13 c14 c15
/-- A slice of one instance. -/
theorem wpl_buildI {ops : Array Oper} {rest : List Oper} {o : Oper} {a : Act} {w : World} {Q : Exit → Act → World → Prop} (hgd : o.guard = none) (x : Operand) (ho : o.op = .buildSlice 22 1 #[(0, x)])
    (cs : Array Value) (hx : a.eval x = .agg cs) (hs : cs.size = 16)
    (h : wpList Try.prog ops Q rest (a.put o.dst (.slice (some ⟨w.heap.size, 0, none⟩) 1 1)) (w.alloc (.cells cs 38))) : wpList Try.prog ops Q (o :: rest) a w := by
  obtain ⟨i, hi, hz0, hz1, hz2⟩ := info_parts rowIn.i
  refine wpList_buildSlice hgd 22 38 1 #[(0, x)] ho cs i zI rowIn.u hi hz0 (by rw [hz1]; decide) (by rw [hz1]; decide) ?_ h
  rw [hz1]
  simp only [List.map_toArray, List.map_cons, List.map_nil, hx]
  exact fill16 cs hs
def repL (e y : EnI) : EnI := if y.x.ref == e.x.ref then e else y
theorem putL_eq (l : List EnI) (e : EnI) : putL l e = if l.any (fun y => y.x.ref == e.x.ref) = true then l.map (repL e) else l.map (repL e) ++ [e] := by
  unfold putL
  split
  · rfl
  · rename_i hc
    congr 1
    symm
    refine (List.map_congr_left ?_).trans (List.map_id l)
    intro y hy
    unfold repL
    rw [if_neg]
    · rfl
    · intro h; exact hc (List.any_eq_true.2 ⟨y, hy, h⟩)
set_option maxHeartbeats 4000000 in
theorem rput_any (v : Value) (l : List EnI) (e : EnI) (w : World) (hv : Ins w v l) (hl : l.length ≤ 1000) :
    Calls Try.prog 20 #[v, .agg e.c] w fun r w' => ∃ va vc, r = .returned (.slice va (putL l e).length vc) ∧ w'.ownsRow w.heap.size 38 16 (.slice va (putL l e).length vc) (putL l e).length (ics (putL l e)) ∧ Below w.heap.size w w' := by
  have HPE := hid (putL_eq l e)
  have HV := hid hv
  obtain ⟨xa, xc, rfl⟩ := hv.shape
  clear hv
  have hce : e.c.size = 16 := rfl
  have hco := e.one
  have h0e : e.c[0]? = some (.int .i64 e.x.ref.1) := rfl
  have h1e : e.c[1]? = some (.int .i64 e.x.ref.2) := rfl
  obtain ⟨ce, hce'⟩ : ∃ ce, ce = e.c := ⟨_, rfl⟩
  rw [← hce'] at hce hco h0e h1e
  have HCE := hid hce'
  rw [← hce']
  clear hce'
  obtain ⟨w1, hw1⟩ : ∃ w1, w1 = w.alloc (.cells ce 38) := ⟨_, rfl⟩
  have b1 : Below w.heap.size w w1 := by rw [hw1]; exact (Below.refl _ _).alloc (Nat.le_refl _) _
  have hA : w1.heap[w.heap.size]? = some (.cells ce 38 (0, 0)) := by rw [hw1]; exact heap_alloc_new _ _
  have HW1 := hid hw1
  have B1 := hid b1
  have HA := hid hA
  clear hw1 b1 hA
  go_enter Try.func20, Try.ntmps20
  go_upto_region 3 with fail
  rw [← HW1.out]
  obtain ⟨A, hAe⟩ : ∃ A, A = w.heap.size := ⟨_, rfl⟩
  rw [← hAe] at HA
  rw [← hAe]
  have HAe := hid hAe
  clear hAe HW1
  go_wp2_with fail
  go_loopw [5, 6, 8, 11] (fun ov fv _ iv wr => ∃ (i : Nat) (va : Option Addr) (vc : Nat), iv = .int .i64 i ∧ i ≤ l.length ∧ fv = .bool ((l.take i).any (fun y => y.x.ref == e.x.ref)) ∧ ov = .slice va i vc ∧ wr.ownsRow w1.heap.size 38 16 (.slice va i vc) i (ics ((l.take i).map (repL e))) ∧ Below w1.heap.size w1 wr) (fun _ _ _ iv _ => l.length - (intOf iv).toNat)
  case atStart => exact ⟨0, none, 0, rfl, Nat.zero_le _, rfl, rfl, World.ownsRow_nil _ _ _ _, Below.refl _ _⟩
  case round =>
    obtain ⟨i, va, vc, rfl, hi, rfl, rfl, ho, hbr⟩ := hrel
    have HO := hid ho
    have BR := hid hbr
    have HAr := hid ((hbr.block A (lt_of_block HA.out)).trans HA.out)
    clear ho hbr
    by_cases hlt : i < l.length
    · have hltI : (i : Int) < (l.length : Int) := by omega
      have HVr := hid ((HV.out.below B1.out).below BR.out)
      obtain ⟨gb, go', rfl⟩ := HVr.out.addr (by omega)
      have HRG := hid (HVr.out.range i hlt)
      have HTK := hid (show l.take (i + 1) = l.take i ++ [l[i]] from List.take_succ_eq_append_getElem hlt)
      generalize hy : l[i] = y at HRG HTK
      clear hy
      have hcy : y.c.size = 16 := rfl
      have hyo := y.one
      have h0y : y.c[0]? = some (.int .i64 y.x.ref.1) := rfl
      have h1y : y.c[1]? = some (.int .i64 y.x.ref.2) := rfl
      have HRP : Hid (repL e y = if (y.x.ref == e.x.ref) = true then e else y) := hid rfl
      obtain ⟨cy, hcy'⟩ : ∃ cy, cy = y.c := ⟨_, rfl⟩
      rw [← hcy'] at hcy hyo h0y h1y HRG
      have HCY := hid hcy'
      clear hcy'
      generalize hfb : (l.take i).any (fun y => y.x.ref == e.x.ref) = fb
      have HFB := hid hfb
      clear hfb
      have hk0 : wr.cell? ⟨A, 0, none⟩ = some (.int .i64 e.x.ref.1) := by rw [cell_of_row _ _ _ _ _ _ HAr.out]; exact h0e
      go_upto_region 6 with (first | (refine wpl_loadE rfl _ rfl gb (go' + i * 16) rfl cy hcy HRG.out ?_) | (refine wpl_storeC rfl _ _ rfl wr.heap.size cy rfl rfl hcy hyo _ zeroI (.slice none 0 0) (.slice none 0 0) (heap_alloc_new _ _) ?_))
      obtain ⟨w2, hw2⟩ : ∃ w2, w2 = (wr.alloc (.cells (instC zeroI (.slice none 0 0) (.slice none 0 0)) 38)).setRow wr.heap.size cy := ⟨_, rfl⟩
      have b2 : Below wr.heap.size wr w2 := by rw [hw2]; exact below_row ((Below.refl _ _).alloc (Nat.le_refl _) _) (Nat.le_refl _) _
      have hY : w2.heap[wr.heap.size]? = some (.cells cy 38 (0, 0)) := by rw [hw2]; exact setRow_heap _ _ _ _ _ _ (heap_alloc_new _ _)
      have HW2 := hid hw2
      clear hw2
      unfold instC zeroI at HW2
      simp only at HW2
      rw [← HW2.out]
      obtain ⟨Y, hYe⟩ : ∃ Y, Y = wr.heap.size := ⟨_, rfl⟩
      rw [← hYe] at hY
      rw [← hYe]
      clear hYe HW2 hk0
      have hA2 := (b2.block A (lt_of_block HAr.out)).trans HAr.out
      have B2 := hid (BR.out.trans (b2.mono BR.out.size))
      have k0 : w2.cell? ⟨A, 0, none⟩ = some (.int .i64 e.x.ref.1) := by rw [cell_of_row _ _ _ _ _ _ hA2]; exact h0e
      have k1 : w2.cell? ⟨A, 1, none⟩ = some (.int .i64 e.x.ref.2) := by rw [cell_of_row _ _ _ _ _ _ hA2]; exact h1e
      have k2 : w2.cell? ⟨Y, 0, none⟩ = some (.int .i64 y.x.ref.1) := by rw [cell_of_row _ _ _ _ _ _ hY]; exact h0y
      have k3 : w2.cell? ⟨Y, 1, none⟩ = some (.int .i64 y.x.ref.2) := by rw [cell_of_row _ _ _ _ _ _ hY]; exact h1y
      have HFB1 : Hid ((l.take (i + 1)).any (fun y => y.x.ref == e.x.ref) = (fb || (y.x.ref == e.x.ref))) := hid (by rw [HTK.out, List.any_append, HFB.out]; simp)
      have HIC : Hid (ics ((l.take (i + 1)).map (repL e)) = ics ((l.take i).map (repL e)) ++ (repL e y).c.toList) := hid (by rw [HTK.out, List.map_append, List.map_singleton, ics_snoc])
      by_cases hxy : y.x.ref = e.x.ref
      · have HRE : Hid (repL e y = e) := hid (by rw [HRP.out, if_pos (by simp [hxy])])
        have HFT : Hid ((fb || (y.x.ref == e.x.ref)) = true) := hid (by simp [hxy])
        rw [hxy] at k2 k3
        clear hxy HRP
        have b3 : Below w2.heap.size w2 (w2.alloc (.cells ce 38)) := (Below.refl _ _).alloc (Nat.le_refl _) _
        have O3 := hid (own_below (own_below HO.out b2) b3)
        have R3 : Hid (∀ j u, ce.toList[j]? = some u → (w2.alloc (.cells ce 38)).cell? ⟨w2.heap.size, j, none⟩ = some u) := hid fun j u hj => by
          rw [cell_of_row _ _ _ _ _ _ (heap_alloc_new w2 _), ← Array.getElem?_toList]; exact hj
        have B3 := hid (B2.out.trans (b3.mono B2.out.size))
        clear b3
        go_wp2_with (first | (refine wpl_buildI rfl _ rfl ce rfl hce ?_) | (refine wpl_loadC rfl _ rfl A rfl ce hce _ _ hA2 ?_) | (at_builtin; refine wpl_app rowIn rfl (.tmp 20) (.tmp 22) rfl w1.heap.size (.slice va i vc) i _ rfl O3.out w2.heap.size 1 1 ce.toList rfl (by simp [hce]) R3.out (fun u hu => (Array.all_eq_true_iff_forall_mem.1 hco) u (by simpa using hu)) (by omega) B3.out.size ?_; intro va4 vc4 w4 ho4 hg4; have O4 := hid ho4; have B4 := hid (B3.out.trans (own_bel O3.out hg4 B3.out.size)); clear ho4 hg4))
        go_roundw
        case rel => exact ⟨i + 1, va4, vc4, by go_num, by omega, by rw [HFB1.out, HFT.out], rfl, by rw [HIC.out, HRE.out, ← HCE.out]; exact O4.out, B4.out⟩
        case measure => simp [intOf]; omega
      · have hne : ¬ (y.x.ref.1, y.x.ref.2) = (e.x.ref.1, e.x.ref.2) := fun h => hxy h
        have HRE : Hid (repL e y = y) := hid (by rw [HRP.out, if_neg (by simp [hxy])])
        have HFT : Hid ((fb || (y.x.ref == e.x.ref)) = fb) := hid (by simp [hxy])
        clear hxy HRP
        have b3 : Below w2.heap.size w2 (w2.alloc (.cells cy 38)) := (Below.refl _ _).alloc (Nat.le_refl _) _
        have O3 := hid (own_below (own_below HO.out b2) b3)
        have R3 : Hid (∀ j u, cy.toList[j]? = some u → (w2.alloc (.cells cy 38)).cell? ⟨w2.heap.size, j, none⟩ = some u) := hid fun j u hj => by
          rw [cell_of_row _ _ _ _ _ _ (heap_alloc_new w2 _), ← Array.getElem?_toList]; exact hj
        have B3 := hid (B2.out.trans (b3.mono B2.out.size))
        clear b3
        rcases pair_no hne with hn0 | ⟨hn1, hn2⟩
        · go_wp2_with (first | (refine wpl_buildI rfl _ rfl cy rfl hcy ?_) | (refine wpl_loadC rfl _ rfl Y rfl cy hcy _ _ hY ?_) | (at_builtin; refine wpl_app rowIn rfl (.tmp 24) (.tmp 26) rfl w1.heap.size (.slice va i vc) i _ rfl O3.out w2.heap.size 1 1 cy.toList rfl (by simp [hcy]) R3.out (fun u hu => (Array.all_eq_true_iff_forall_mem.1 hyo) u (by simpa using hu)) (by omega) B3.out.size ?_; intro va4 vc4 w4 ho4 hg4; have O4 := hid ho4; have B4 := hid (B3.out.trans (own_bel O3.out hg4 B3.out.size)); clear ho4 hg4))
          go_roundw
          case rel => exact ⟨i + 1, va4, vc4, by go_num, by omega, by rw [HFB1.out, HFT.out], rfl, by rw [HIC.out, HRE.out, ← HCY.out]; exact O4.out, B4.out⟩
          case measure => simp [intOf]; omega
        · rw [hn1] at k2
          clear hn1 hne
          go_wp2_with (first | (refine wpl_buildI rfl _ rfl cy rfl hcy ?_) | (refine wpl_loadC rfl _ rfl Y rfl cy hcy _ _ hY ?_) | (at_builtin; refine wpl_app rowIn rfl (.tmp 24) (.tmp 26) rfl w1.heap.size (.slice va i vc) i _ rfl O3.out w2.heap.size 1 1 cy.toList rfl (by simp [hcy]) R3.out (fun u hu => (Array.all_eq_true_iff_forall_mem.1 hyo) u (by simpa using hu)) (by omega) B3.out.size ?_; intro va4 vc4 w4 ho4 hg4; have O4 := hid ho4; have B4 := hid (B3.out.trans (own_bel O3.out hg4 B3.out.size)); clear ho4 hg4))
          go_roundw
          case rel => exact ⟨i + 1, va4, vc4, by go_num, by omega, by rw [HFB1.out, HFT.out], rfl, by rw [HIC.out, HRE.out, ← HCY.out]; exact O4.out, B4.out⟩
          case measure => simp [intOf]; omega
    · obtain rfl : i = l.length := by omega
      rw [List.take_length] at HO ⊢
      generalize hfb : l.any (fun y => y.x.ref == e.x.ref) = fb at *
      have HFB := hid hfb
      clear hfb
      cases fb with
      | true =>
        have HPX : Hid (putL l e = l.map (repL e)) := hid (by rw [HPE.out, if_pos rfl])
        go_wp2_with fail
        go_ret
        refine ⟨va, vc, ?_, ?_, B1.out.trans (BR.out.mono B1.out.size)⟩
        · rw [HPX.out]; simp
        · rw [HPX.out, List.length_map]; exact own_lower HO.out B1.out.size
      | false =>
        have HPX : Hid (putL l e = l.map (repL e) ++ [e]) := hid (by rw [HPE.out, if_neg (by simp)])
        have hA2 := HAr.out
        have b3 : Below wr.heap.size wr (wr.alloc (.cells ce 38)) := (Below.refl _ _).alloc (Nat.le_refl _) _
        have O3 := hid (own_below HO.out b3)
        have R3 : Hid (∀ j u, ce.toList[j]? = some u → (wr.alloc (.cells ce 38)).cell? ⟨wr.heap.size, j, none⟩ = some u) := hid fun j u hj => by
          rw [cell_of_row _ _ _ _ _ _ (heap_alloc_new wr _), ← Array.getElem?_toList]; exact hj
        have B3 := hid (BR.out.trans (b3.mono BR.out.size))
        clear b3
        go_wp2_with (first | (refine wpl_buildI rfl _ rfl ce rfl hce ?_) | (refine wpl_loadC rfl _ rfl A rfl ce hce _ _ hA2 ?_) | (at_builtin; refine wpl_app rowIn rfl (.tmp 31) (.tmp 33) rfl w1.heap.size (.slice va l.length vc) l.length _ rfl O3.out wr.heap.size 1 1 ce.toList rfl (by simp [hce]) R3.out (fun u hu => (Array.all_eq_true_iff_forall_mem.1 hco) u (by simpa using hu)) (by omega) B3.out.size ?_; intro va4 vc4 w4 ho4 hg4; have O4 := hid ho4; have B4 := hid (B3.out.trans (own_bel O3.out hg4 B3.out.size)); clear ho4 hg4))
        go_ret
        refine ⟨va4, vc4, ?_, ?_, B1.out.trans (B4.out.mono B1.out.size)⟩
        · rw [HPX.out]; simp
        · rw [HPX.out, List.length_append, List.length_map, ics_snoc, ← HCE.out]; exact own_lower O4.out B1.out.size
end Go.Proofs.Ythhcpoafnmhnhaa
