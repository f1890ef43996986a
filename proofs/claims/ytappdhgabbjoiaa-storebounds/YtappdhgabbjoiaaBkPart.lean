/- What Part of a store gives: the cells of its blocks, in a store of their own. -/
import Derived.Test.YtappdhgabbjoiaaBkTexts
import Derived.Test.YtappdhgabbjoiaaBkPartNo
namespace Go.Proofs.Ytappdhgabbjoiaa
open Go.RowKit Go.Shelf
attribute [local go_sem] Oper.semAt_some
set_option linter.unusedVariables false
set_option linter.unusedSimpArgs false

/-- The cells from d on, as far as pre tells. -/
def pcF (S : StD) (d : Nat) {cnt : Nat} (pre : List (Fin cnt)) : List CellD := pre.map fun i => S.cells.getD (d + i.val) zeroC
theorem pcF_snoc (S : StD) (d : Nat) {cnt : Nat} (pre : List (Fin cnt)) (x : Fin cnt) : pcF S d (pre ++ [x]) = pcF S d pre ++ [S.cells.getD (d + x.val) zeroC] := by simp [pcF]
theorem pcF_len (S : StD) (d : Nat) {cnt : Nat} (pre : List (Fin cnt)) : (pcF S d pre).length = pre.length := by simp [pcF]
/-- In the loop over cells: the store, the part at P with its row, and all else as it was. -/
structure PI (w5 : World) (b g P : Nat) (S : StD) (cf ct : Int) (l : List CellD) (W : World) : Prop where
  st : St W b g S
  grown : w5.grownBy W (some P)
  row : ∃ va vc, W.heap[P]? = some (.cells #[.int .i64 cf, .int .i64 ct, .bool false, .slice va l.length vc] 70 (0, 0)) ∧ W.ownsRow w5.heap.size 78 5 (.slice va l.length vc) l.length (flat5 l)
theorem PI.turned {w5 X Y : World} {b g P : Nat} {S : StD} {cf ct : Int} {l : List CellD} {row : Option Nat} (h : PI w5 b g P S cf ct l X) (hg : X.grownBy Y row) (hr : ∀ r, row = some r → w5.heap.size ≤ r ∧ ∃ o : Obj, X.heap[r]? = some o ∧ o.isCells = false) : PI w5 b g P S cf ct l Y := by
  obtain ⟨h1, h2, va, vc, h3, h4⟩ := h
  have hr2 := fun r e => (hr r e).2
  exact ⟨h1.turned hg hr2, h2.andThen hg fun j e => .inl (hr j e).1, va, vc, (cells_turned h3 hg hr2).trans h3, own_kept h4 fun q cs _ hh => cells_turned hh hg hr2⟩
theorem c5_one (c : CellD) : ∀ u ∈ c5 c, u.oneCell' = true := by
  intro u hu
  have := flat5_one [c] u (by simpa [flat5] using hu)
  exact this
theorem own_some' {w : World} {base : Nat} {E : TypeId} {sz n : Nat} {v : Value} {xs : List Value} (h : w.ownsRow base E sz v n xs) (hn : 0 < n) : ∃ g cap, v = .slice (some ⟨g, 0, none⟩) n cap ∧ base ≤ g := by
  obtain ⟨_, h2⟩ := h
  rcases h2 with ⟨rfl, rfl⟩ | ⟨g, cap, cur, rfl, hb, -⟩
  · omega
  · exact ⟨g, cap, rfl, hb⟩
/-- What Part gives. -/
def PartP (S : StD) (sp : Sp) (d cnt : Nat) (w : World) (e : Ending) (w' : World) : Prop := ∃ P g', e = .returned (.tuple #[.pointer (some ⟨P, 0, none⟩), .int .i64 0]) ∧ w.heap.size ≤ P ∧ w.heap.size ≤ g' ∧ St w' P g' ⟨sp.1, sp.2, false, pcF S d (List.finRange cnt)⟩ ∧ Below w.heap.size w w'
set_option maxRecDepth 100000 in
set_option maxHeartbeats 8000000 in
theorem part_in (b g : Nat) (S : StD) (sp : Sp) (d cnt : Nat) (w : World) (hS : St w b g S) (hf : sp.1 = S.from' + d) (ht : sp.2 = sp.1 + cnt) (hN : d + cnt ≤ S.cells.length) (hc0 : 0 < cnt) :
    Calls Try.prog 24 #[.pointer (some ⟨b, 0, none⟩), .agg #[.int .i64 sp.1, .int .i64 sp.2]] w (PartP S sp d cnt w) := by
  have HS := hid hS
  obtain ⟨cf, ct⟩ := sp
  simp only at hf ht ⊢
  have hi := hS.i
  have hif := hi.f
  have hit := hi.t
  have hin := hi.n
  have hlt := hS.lt
  have HF := hid hf
  have HT := hid ht
  have htI : ct ≤ 256 := by omega
  have hcI : cnt ≤ 256 := by omega
  have he : decide (ct ≤ cf) = false := decide_eq_false (by omega)
  have hh : (decide (S.from' ≤ cf) && decide (ct ≤ S.to)) = true := by simp; omega
  have HPI : Hid (StI ⟨cf, ct, false, pcF S d (List.finRange cnt)⟩) := hid ⟨by show 0 ≤ cf; omega, by show ct ≤ 256; omega, by show cf < ct; omega, by show ((pcF S d (List.finRange cnt)).length : Int) = ct - cf; rw [pcF_len]; simp; omega⟩
  clear hS hi hf ht hin
  refine (callsIn_wide (n := 3)).1 ?_
  refine callsIn_of_wp_marks Try.func24 rfl trivial ?_ rfl
  simp only [Try.ntmps24, List.size_toArray, List.length_cons, List.length_nil, Nat.reduceAdd, Nat.reduceSub, Array.replicate_succ, Array.replicate_zero, List.push_toArray, List.append_toArray, List.nil_append, List.cons_append]
  refine wpIn_wide.2 ?_
  obtain ⟨w0, hw0⟩ : ∃ w0, w0 = w.alloc (.cells #[.int .i64 cf, .int .i64 ct] 23) := ⟨_, rfl⟩
  have hb0 : Below w.heap.size w w0 := by rw [hw0]; exact (Below.refl _ _).alloc (Nat.le_refl _) _
  have h30 : w0.heap[w.heap.size]? = some (.cells #[.int .i64 cf, .int .i64 ct] 23 (0, 0)) := by rw [hw0]; exact heap_alloc_new _ _
  have HW0 := hid hw0
  have B0 := hid hb0
  clear hw0 hb0
  go_upto_region 3 with fail
  rw [← HW0.out]
  obtain ⟨B3, hB3⟩ : ∃ B, B = w.heap.size := ⟨_, rfl⟩
  rw [← hB3] at h30 ⊢
  have hbB : b < B3 ∧ g < B3 := by omega
  have HwB : Hid (w.heap.size = B3) := hid hB3.symm
  clear HW0 hB3
  have q0 : w0.cell? ⟨B3, 0, none⟩ = some (.int .i64 cf) := by rw [cell_of_row _ _ _ _ _ _ h30]; rfl
  have q1 : w0.cell? ⟨B3, 1, none⟩ = some (.int .i64 ct) := by rw [cell_of_row _ _ _ _ _ _ h30]; rfl
  have H30 := hid h30
  clear h30
  go_wp2_with fail
  refine (bempty_any (cf, ct) w0).mono ?_
  rintro e w1 ⟨rfl, hb1⟩
  simp only [he]
  have B1 := hid (B0.out.trans (hb1.mono B0.out.size))
  have H31 := hid ((hb1.block B3 (lt_of_block H30.out)).trans H30.out)
  clear hb1 q0 q1 H30 he
  obtain ⟨s0, s1, -, -⟩ := (HS.out.below B1.out).cellsAt
  have SW : Hid (∀ X, Below w1.heap.size w1 X → X.cell? ⟨B3, 0, none⟩ = some (.int .i64 cf) ∧ X.cell? ⟨B3, 1, none⟩ = some (.int .i64 ct) ∧ X.cell? ⟨b, 0, none⟩ = some (.int .i64 S.from') ∧ X.cell? ⟨b, 1, none⟩ = some (.int .i64 S.to)) := hid fun X hX => by
    have hb := (hX.block B3 (lt_of_block H31.out)).trans H31.out
    exact ⟨by rw [cell_of_row _ _ _ _ _ _ hb]; rfl, by rw [cell_of_row _ _ _ _ _ _ hb]; rfl, cell_later hX s0, cell_later hX s1⟩
  clear s0 s1
  go_upto_region 5 with fail
  refine wp_region_noPanic ?_
  refine wp_region_held_drew (S := fun X => X.cell? ⟨B3, 0, none⟩ = some (.int .i64 cf) ∧ X.cell? ⟨B3, 1, none⟩ = some (.int .i64 ct) ∧ X.cell? ⟨b, 0, none⟩ = some (.int .i64 S.from') ∧ X.cell? ⟨b, 1, none⟩ = some (.int .i64 S.to)) (by kernel_rfl) (SW.out _ ((Below.refl _ _).drew)) (fun hHeld => ?_)
  refine wpAnyH_take (i := 0) (v := ?hv0) rfl (by kernel_rfl) (by kernel_rfl) (by kernel_rfl) (fun _ _ _ h => h) (Or.inl ⟨by rfl, ?hy0⟩) (by assumption) ?hr0
  case hy0 => (intro w hSw; (try dsimp only at hSw); go_simp; try with_reducible rfl)
  (try simp only [Act.put, List.setIfInBounds_toArray, List.set_cons_zero, List.set_cons_succ, List.getElem_toArray, List.getElem_cons_succ, List.getElem_cons_zero])
  refine wpAnyH_take (i := 1) (v := ?hv1) rfl (by kernel_rfl) (by kernel_rfl) (by kernel_rfl) (fun _ _ _ h => h) (Or.inl ⟨by rfl, ?hy1⟩) (by assumption) ?hr1
  case hy1 => (intro w hSw; (try dsimp only at hSw); go_simp; try with_reducible rfl)
  (try simp only [Act.put, List.setIfInBounds_toArray, List.set_cons_zero, List.set_cons_succ, List.getElem_toArray, List.getElem_cons_succ, List.getElem_cons_zero])
  refine wpAnyH_take (i := 2) (v := ?hv2) rfl (by kernel_rfl) (by kernel_rfl) (by kernel_rfl) (fun _ _ _ h => h) (Or.inl ⟨by rfl, ?hy2⟩) (by assumption) ?hr2
  case hy2 => (intro w hSw; (try dsimp only at hSw); go_simp; try with_reducible rfl)
  (try simp only [Act.put, List.setIfInBounds_toArray, List.set_cons_zero, List.set_cons_succ, List.getElem_toArray, List.getElem_cons_succ, List.getElem_cons_zero])
  refine wpAnyH_take (i := 3) (v := ?hv3) rfl (by kernel_rfl) (by kernel_rfl) (by kernel_rfl) (fun _ _ _ h => h) (Or.inl ⟨by rfl, ?hy3⟩) (by assumption) ?hr3
  case hy3 => (intro w hSw; (try dsimp only at hSw); go_simp; try with_reducible rfl)
  (try simp only [Act.put, List.setIfInBounds_toArray, List.set_cons_zero, List.set_cons_succ, List.getElem_toArray, List.getElem_cons_succ, List.getElem_cons_zero])
  refine wpAnyH_take (i := 4) (v := ?hv4) rfl (by kernel_rfl) (by kernel_rfl) (by kernel_rfl) (fun _ _ _ h => h) (Or.inl ⟨by rfl, ?hy4⟩) (by assumption) ?hr4
  case hy4 => (intro w hSw; (try dsimp only at hSw); go_simp; try with_reducible rfl)
  (try simp only [Act.put, List.setIfInBounds_toArray, List.set_cons_zero, List.set_cons_succ, List.getElem_toArray, List.getElem_cons_succ, List.getElem_cons_zero])
  refine wpAnyH_ready (rs := [5]) (by kernel_rfl) (by simp) ?_
  refine AllReadyH.cons rfl (fun K hK => ?_) AllReadyH.nil
  rw [if_pos (by rfl)]
  go_wp2_with fail
  refine (holds_any (S.from', S.to) (cf, ct) _).mono ?_
  rintro e w2 ⟨rfl, hb2⟩
  simp only [hh]
  have B2 : Hid (Below w1.heap.size w1 w2) := hid (((Below.refl _ _).drew).trans hb2)
  clear hb2
  refine hK.out _ _ (SW.out _ B2.out) (fun hHeld => ?_)
  try clear hK K
  (try simp only [Act.put, List.setIfInBounds_toArray, List.set_cons_zero, List.set_cons_succ, List.getElem_toArray, List.getElem_cons_succ, List.getElem_cons_zero])
  refine wpAnyH_take (i := 6) (v := ?hv6) rfl (by kernel_rfl) (by kernel_rfl) (by kernel_rfl) (fun _ _ _ h => h) (Or.inl ⟨by rfl, ?hy6⟩) (by assumption) ?hr6
  case hy6 => (intro w hSw; (try dsimp only at hSw); go_simp; try with_reducible rfl)
  (try simp only [Act.put, List.setIfInBounds_toArray, List.set_cons_zero, List.set_cons_succ, List.getElem_toArray, List.getElem_cons_succ, List.getElem_cons_zero])
  refine wpAnyH_done (by kernel_rfl) ?_ _
  simp only [NoPanic]
  obtain ⟨p0, p1, -, -⟩ := SW.out w2 B2.out
  clear SW hHeld hh
  have B12 := hid (B1.out.trans (B2.out.mono B1.out.size))
  have H32 := hid ((B2.out.block B3 (lt_of_block H31.out)).trans H31.out)
  obtain ⟨w4, hw4⟩ : ∃ w4, w4 = (w2.alloc (.cells #[.int .i64 cf, .int .i64 ct, .bool false, .slice none 0 0] 70)).alloc (.cells #[.pointer (some ⟨w2.heap.size, 0, none⟩)] 25) := ⟨_, rfl⟩
  have b4 : Below w2.heap.size w2 w4 := by rw [hw4]; exact ((Below.refl _ _).alloc (Nat.le_refl _) _).alloc (by simp) _
  have hP4 : w4.heap[w2.heap.size]? = some (.cells #[.int .i64 cf, .int .i64 ct, .bool false, .slice none 0 0] 70 (0, 0)) := by rw [hw4]; exact heap_alloc2_old _ _ _
  have hV4 : w4.heap[w2.heap.size + 1]? = some (.cells #[.pointer (some ⟨w2.heap.size, 0, none⟩)] 25 (0, 0)) := by rw [hw4]; exact heap_alloc2_new _ _ _
  have hs4 : w4.heap.size = w2.heap.size + 2 := by rw [hw4]; simp
  have HW4 := hid hw4
  have B4 := hid (B12.out.trans (b4.mono B12.out.size))
  have h34 := (b4.block B3 (lt_of_block H32.out)).trans H32.out
  have hB3w2 := lt_of_block H32.out
  clear hw4 b4 H31 B1 B2 H32
  go_upto_region 8 with fail
  rw [← HW4.out]
  obtain ⟨P, hP⟩ : ∃ P, P = w2.heap.size := ⟨_, rfl⟩
  obtain ⟨V, hV⟩ : ∃ V, V = w2.heap.size + 1 := ⟨_, rfl⟩
  rw [← hV, ← hP] at hV4
  rw [← hP] at hP4
  rw [← hV, ← hP]
  have hPV : B3 < P ∧ P < V ∧ V < w4.heap.size := by omega
  have HPw : Hid (w.heap.size ≤ P) := hid (by have := B12.out.size; omega)
  clear HW4 hP hV hs4 p0 p1 hB3w2 B12
  have p0 : w4.cell? ⟨B3, 0, none⟩ = some (.int .i64 cf) := by rw [cell_of_row _ _ _ _ _ _ h34]; rfl
  have p1 : w4.cell? ⟨B3, 1, none⟩ = some (.int .i64 ct) := by rw [cell_of_row _ _ _ _ _ _ h34]; rfl
  have HP4 := hid hP4
  have HV4 := hid hV4
  clear hP4 hV4 h34
  go_wp2_with (go_at_call 42; refine (within_any b (cf, ct) _).mono ?_; rintro e w5 ⟨rfl, hw5⟩; have W5 := hid hw5; clear hw5)
  have b5 : Below w4.heap.size w4 w5 := by rw [W5.out]; exact ((Below.refl _ _).alloc (Nat.le_refl _) _).alloc (by simp) _
  have hs5 : w5.heap[w4.heap.size]? = some (.cells #[.pointer (some ⟨b, 0, none⟩)] 25 (0, 0)) := by rw [W5.out]; exact heap_alloc2_old _ _ _
  have ho5 : w5.heap[w4.heap.size + 1]? = some (.cells #[.int .i64 cf, .int .i64 ct] 23 (0, 0)) := by rw [W5.out]; exact heap_alloc2_new _ _ _
  have BW5 := hid (B4.out.trans (b5.mono B4.out.size))
  have St5 := hid (HS.out.below BW5.out)
  have HP5 := hid ((b5.block P (lt_of_block HP4.out)).trans HP4.out)
  have HV5 := hid ((b5.block V (lt_of_block HV4.out)).trans HV4.out)
  obtain ⟨Bs, hBs⟩ : ∃ A, A = w4.heap.size := ⟨_, rfl⟩
  obtain ⟨Bo, hBo⟩ : ∃ A, A = w4.heap.size + 1 := ⟨_, rfl⟩
  have hs5' : w5.heap.size = w4.heap.size + 2 := by rw [W5.out]; simp
  rw [← hBo, ← hBs]
  rw [← hBs] at hs5
  rw [← hBo] at ho5
  have hne : P < w5.heap.size ∧ V < w5.heap.size ∧ Bs < w5.heap.size ∧ Bo < w5.heap.size ∧ g < P ∧ b < P ∧ P < V ∧ V < Bs ∧ V < Bo := by omega
  clear b5 W5 hs5' hBs hBo p0 p1 B4 HP4 HV4 hPV
  obtain ⟨cap, hhd, -⟩ := St5.out.head
  go_wp2_with fail
  refine (wpIn_wide (n := 3)).1 ?_
  refine wpIn_rangeFunc_ownH (F := Fence.wide) rfl (by omega) (gf := 46) (lb := #[.pointer (some ⟨Bo, 0, none⟩), .pointer (some ⟨Bs, 0, none⟩)]) rfl trivial (enters_of Try.func46 (by kernel_rfl) rfl)
    (within_stops _ (by omega) Bo Bs b g d cnt S.cells.length cap cf ct S.from' S.to S.fr HF.out HT.out hif htI hN w5 ho5 hs5 hhd) KeptW.trans ?keptb (Below.refl _ _) (fun _ => rfl)
    (fun pre W => PI w5 b g P S cf ct (pcF S d pre) W)
    (fun _ _ _ => False) ?hI (fun _ _ _ _ _ h _ _ => h) ⟨St5.out, World.grownBy.refl _ _, none, 0, HP5.out, World.ownsRow_nil _ _ _ _⟩
    (AtF ?Fr)
    (fun _ _ _ _ _ _ h _ _ => h) ?assign ?body ?done (fun _ _ _ _ _ _ h _ => h.elim)
  case keptb =>
    intro W y o o' hy ho _ _ j hj
    have h2 := lt_of_block ho
    have h1 : j < w5.heap.size := by
      simp only [List.mem_cons, List.not_mem_nil, or_false] at hj
      rcases hj with rfl | rfl | rfl <;> omega
    refine (grownBy_putObj' W y o').block j (by omega) fun e => ?_
    have h3 : j = y := by simpa using e
    omega
  case hI =>
    intro s X Y row h hg hr
    exact h.turned hg hr
  case assign =>
    intro y pre x W K h hK
    unfold encW cellAt
    gi_wp2
    refine hK _ _ (KeepsFrom.refl _ _) (fun _ _ => rfl) h ?ax
    case ax =>
      clear hK
      show _ = _
      with_reducible rfl
  case body =>
    rintro y pre x a' W hy _ hTI hfr hlt'
    obtain rfl : a' = _ := hfr
    have HSN := hid (pcF_snoc S d pre x)
    have hLl := pcF_len S d pre
    obtain ⟨l, hl⟩ : ∃ l, l = pcF S d pre := ⟨_, rfl⟩
    rw [← hl] at hTI HSN hLl
    clear hl
    obtain ⟨j, hj⟩ : ∃ j, j = d + x.val := ⟨_, rfl⟩
    rw [← hj] at HSN
    have hjL : j < S.cells.length := by have := x.isLt; omega
    obtain ⟨ct0, cmm⟩ := hTI.st.row j hjL
    have cm0 := cmm 0
    have cm1 := cmm 1
    have cm2 := cmm 2
    have cm3 := cmm 3
    rw [show S.cells.getD j zeroC = S.cells[j] from by simp [List.getD, List.getElem?_eq_getElem hjL]] at HSN
    generalize S.cells[j] = cel at ct0 cm0 cm1 cm2 cm3 HSN
    obtain ⟨tx, m⟩ := cel
    simp only at ct0 cm0 cm1 cm2 cm3
    have d1 : W.cell? ⟨g, j * 5 + 1, none⟩ = some (.int .i64 (m 0)) := cm0
    have d2 : W.cell? ⟨g, j * 5 + 2, none⟩ = some (.int .i64 (m 1)) := cm1
    have d3 : W.cell? ⟨g, j * 5 + 3, none⟩ = some (.int .i64 (m 2)) := cm2
    have d4 : W.cell? ⟨g, j * 5 + 4, none⟩ = some (.int .i64 (m 3)) := cm3
    clear cmm cm0 cm1 cm2 cm3
    obtain ⟨va, vc, hb5, hr5⟩ := hTI.row
    have c5' : W.cell? ⟨P, 3, none⟩ = some (.slice va l.length vc) := by rw [cell_of_row _ _ _ _ _ _ hb5]; rfl
    have hsW := hTI.grown.size
    have hV : W.heap[V]? = _ := (hTI.grown.block V (by omega) (fun e => by cases e; omega)).trans HV5.out
    have cV : W.cell? ⟨V, 0, none⟩ = some (.pointer (some ⟨P, 0, none⟩)) := by rw [cell_of_row _ _ _ _ _ _ hV]; rfl
    have HROW : Hid (∀ q, q < w5.heap.size → some q ≠ (Value.slice va l.length vc).ownBlock) := hid fun q hq e => by have := (hr5.lt q e.symm).1; omega
    have hPw : P < w5.heap.size := by omega
    have hl256 : l.length ≤ 256 := by have := hLl; omega
    have HTI := hid hTI
    have HR := hid hr5
    have HP := hid hb5
    have HSP : Hid (∀ Y : World, (∀ q, q < w5.heap.size → q ≠ P → Y.heap[q]? = W.heap[q]?) → Y.cell? ⟨V, 0, none⟩ = some (.pointer (some ⟨P, 0, none⟩)) ∧ Y.cell? ⟨g, j * 5, none⟩ = some (.string tx) ∧ Y.cell? ⟨g, j * 5 + 1, none⟩ = some (.int .i64 (m 0)) ∧ Y.cell? ⟨g, j * 5 + 2, none⟩ = some (.int .i64 (m 1)) ∧ Y.cell? ⟨g, j * 5 + 3, none⟩ = some (.int .i64 (m 2)) ∧ Y.cell? ⟨g, j * 5 + 4, none⟩ = some (.int .i64 (m 3))) := hid fun Y hY => by
      have e1 := hY V (by omega) (by omega)
      have e2 := hY g (by omega) (by omega)
      exact ⟨(World.cell?_of_block (a := ⟨V, 0, none⟩) e1).trans cV, (World.cell?_of_block (a := ⟨g, j * 5, none⟩) e2).trans ct0, (World.cell?_of_block (a := ⟨g, j * 5 + 1, none⟩) e2).trans d1, (World.cell?_of_block (a := ⟨g, j * 5 + 2, none⟩) e2).trans d2, (World.cell?_of_block (a := ⟨g, j * 5 + 3, none⟩) e2).trans d3, (World.cell?_of_block (a := ⟨g, j * 5 + 4, none⟩) e2).trans d4⟩
    have HSL := hid fun (Y : World) (hY : ∀ q, q < w5.heap.size → Y.heap[q]? = W.heap[q]?) => HSP.out Y fun q hq _ => hY q hq
    have HSB := hid fun (Y : World) (hY : Below W.heap.size W Y) => HSP.out Y fun q hq _ => hY.block q (by omega)
    clear hTI hr5 hb5 hLl hV cV ct0 d1 d2 d3 d4
    simp only
    rw [← hj]
    clear hj
    gi_wp2
    refine region_held_round (S := fun Y => Y.cell? ⟨V, 0, none⟩ = some (.pointer (some ⟨P, 0, none⟩)) ∧ Y.cell? ⟨g, j * 5, none⟩ = some (.string tx) ∧ Y.cell? ⟨g, j * 5 + 1, none⟩ = some (.int .i64 (m 0)) ∧ Y.cell? ⟨g, j * 5 + 2, none⟩ = some (.int .i64 (m 1)) ∧ Y.cell? ⟨g, j * 5 + 3, none⟩ = some (.int .i64 (m 2)) ∧ Y.cell? ⟨g, j * 5 + 4, none⟩ = some (.int .i64 (m 3))) y (by rintro ⟨_, _, h⟩; exact h) (by kernel_rfl) (by kernel_rfl) (HSB.out _ ((Below.refl _ _).drew)) (fun hHeld => ?_)
    refine wpAnyH_take (i := 0) (v := ?rv0) rfl (by kernel_rfl) (by kernel_rfl) (by kernel_rfl) (fun _ _ _ h => h) (Or.inl ⟨by rfl, ?ry0⟩) (by assumption) ?rr0
    case ry0 => (intro w hSw; (try dsimp only at hSw); go_simp; try with_reducible rfl)
    (try simp only [Act.put, List.setIfInBounds_toArray, List.set_cons_zero, List.set_cons_succ, List.getElem_toArray, List.getElem_cons_succ, List.getElem_cons_zero])
    refine wpAnyH_take (i := 1) (v := ?rv1) rfl (by kernel_rfl) (by kernel_rfl) (by kernel_rfl) (fun _ _ _ h => h) (Or.inl ⟨by rfl, ?ry1⟩) (by assumption) ?rr1
    case ry1 => (intro w hSw; (try dsimp only at hSw); go_simp; try with_reducible rfl)
    (try simp only [Act.put, List.setIfInBounds_toArray, List.set_cons_zero, List.set_cons_succ, List.getElem_toArray, List.getElem_cons_succ, List.getElem_cons_zero])
    refine wpAnyH_take (i := 2) (v := ?rv2) rfl (by kernel_rfl) (by kernel_rfl) (by kernel_rfl) (fun _ _ _ h => h) (Or.inl ⟨by rfl, ?ry2⟩) (by assumption) ?rr2
    case ry2 => (intro w hSw; (try dsimp only at hSw); go_simp; try with_reducible rfl)
    (try simp only [Act.put, List.setIfInBounds_toArray, List.set_cons_zero, List.set_cons_succ, List.getElem_toArray, List.getElem_cons_succ, List.getElem_cons_zero])
    refine wpAnyH_take (i := 3) (v := ?rv3) rfl (by kernel_rfl) (by kernel_rfl) (by kernel_rfl) (fun _ _ _ h => h) (Or.inl ⟨by rfl, ?ry3⟩) (by assumption) ?rr3
    case ry3 => (intro w hSw; (try dsimp only at hSw); go_simp; try with_reducible rfl)
    (try simp only [Act.put, List.setIfInBounds_toArray, List.set_cons_zero, List.set_cons_succ, List.getElem_toArray, List.getElem_cons_succ, List.getElem_cons_zero])
    refine wpAnyH_take (i := 5) (v := ?rv5) rfl (by kernel_rfl) (by kernel_rfl) (by kernel_rfl) (fun _ _ _ h => h) (Or.inl ⟨by rfl, ?ry5⟩) (by assumption) ?rr5
    case ry5 => (intro w hSw; (try dsimp only at hSw); go_simp; try with_reducible rfl)
    (try simp only [Act.put, List.setIfInBounds_toArray, List.set_cons_zero, List.set_cons_succ, List.getElem_toArray, List.getElem_cons_succ, List.getElem_cons_zero])
    refine wpAnyH_take (i := 6) (v := ?rv6) rfl (by kernel_rfl) (by kernel_rfl) (by kernel_rfl) (fun _ _ _ h => h) (Or.inl ⟨by rfl, ?ry6⟩) (by assumption) ?rr6
    case ry6 => (intro w hSw; (try dsimp only at hSw); go_simp; try with_reducible rfl)
    (try simp only [Act.put, List.setIfInBounds_toArray, List.set_cons_zero, List.set_cons_succ, List.getElem_toArray, List.getElem_cons_succ, List.getElem_cons_zero])
    refine wpAnyH_take (i := 7) (v := ?rv7) rfl (by kernel_rfl) (by kernel_rfl) (by kernel_rfl) (fun _ _ _ h => h) (Or.inl ⟨by rfl, ?ry7⟩) (by assumption) ?rr7
    case ry7 => (intro w hSw; (try dsimp only at hSw); go_simp; try with_reducible rfl)
    (try simp only [Act.put, List.setIfInBounds_toArray, List.set_cons_zero, List.set_cons_succ, List.getElem_toArray, List.getElem_cons_succ, List.getElem_cons_zero])
    refine wpAnyH_ready (rs := [4, 8]) (by kernel_rfl) (by simp) ?_
    refine AllReadyH.cons rfl (fun K hK => ?_) (AllReadyH.cons rfl (fun K hK => ?_) AllReadyH.nil)
    · rw [if_pos (by rfl)]
      go_simp
      refine hK.out _ _ hHeld (fun hHeld => ?_)
      clear hK K
      (try simp only [Act.put, List.setIfInBounds_toArray, List.set_cons_zero, List.set_cons_succ, List.getElem_toArray, List.getElem_cons_succ, List.getElem_cons_zero])
      refine wpAnyH_ready (rs := [8]) (by kernel_rfl) (by simp) ?_
      refine AllReadyH.cons rfl (fun K hK => ?_) AllReadyH.nil
      rw [if_pos (by rfl)]
      go_simp
      refine hK.out _ _ (HSB.out _ (((Below.refl _ _).alloc (Nat.le_refl _) _).drew)) (fun hHeld => ?_)
      clear hK K
      (try simp only [Act.put, List.setIfInBounds_toArray, List.set_cons_zero, List.set_cons_succ, List.getElem_toArray, List.getElem_cons_succ, List.getElem_cons_zero])
      refine wpAnyH_ready (rs := [9]) (by kernel_rfl) (by simp) ?_
      refine AllReadyH.cons rfl (fun K hK => ?_) AllReadyH.nil
      rw [if_pos (by rfl)]
      refine wp_app rowCell _ _ rfl w5.heap.size (.slice va l.length vc) l.length (flat5 l) rfl (own_below HR.out (((Below.refl _ _).drew).alloc (Nat.le_refl _) _)) W.heap.size 1 1 (c5 ⟨tx, m⟩) rfl rfl ?ys (c5_one _) (by omega) (by simp; omega) ?_
      case ys =>
        intro j' u hj'
        have hn := heap_alloc_new W (.cells #[.string tx, .int .i64 (m 0), .int .i64 (m 1), .int .i64 (m 2), .int .i64 (m 3)] 78)
        show (W.alloc _).cell? _ = _
        match j' with
        | 0 => cases hj'; rw [cell_of_row _ _ _ _ _ _ hn]; rfl
        | 1 => cases hj'; rw [cell_of_row _ _ _ _ _ _ hn]; rfl
        | 2 => cases hj'; rw [cell_of_row _ _ _ _ _ _ hn]; rfl
        | 3 => cases hj'; rw [cell_of_row _ _ _ _ _ _ hn]; rfl
        | 4 => cases hj'; rw [cell_of_row _ _ _ _ _ _ hn]; rfl
        | j' + 5 => simp [c5] at hj'
      intro va' vc' W2 ho2 hg2
      have low2 : ∀ q, q < w5.heap.size → W2.heap[q]? = W.heap[q]? := fun q hq => (hg2.block q (by simp; omega) (HROW.out q hq)).trans (Below.heap_alloc _ _ _ (by omega))
      refine hK.out _ _ (HSL.out _ low2) (fun hHeld => ?_)
      clear hK K
      (try simp only [Act.put, List.setIfInBounds_toArray, List.set_cons_zero, List.set_cons_succ, List.getElem_toArray, List.getElem_cons_succ, List.getElem_cons_zero])
      refine wpAnyH_take (i := 10) (v := ?pv10) rfl (by kernel_rfl) (by kernel_rfl) (by kernel_rfl) (fun _ _ _ h => h) (Or.inl ⟨by rfl, ?py10⟩) (by assumption) ?pr10
      case py10 => (intro w hSw; (try dsimp only at hSw); go_simp; try with_reducible rfl)
      (try simp only [Act.put, List.setIfInBounds_toArray, List.set_cons_zero, List.set_cons_succ, List.getElem_toArray, List.getElem_cons_succ, List.getElem_cons_zero])
      refine wpAnyH_take (i := 11) (v := ?pv11) rfl (by kernel_rfl) (by kernel_rfl) (by kernel_rfl) (fun _ _ _ h => h) (Or.inl ⟨by rfl, ?py11⟩) (by assumption) ?pr11
      case py11 => (intro w hSw; (try dsimp only at hSw); go_simp; try with_reducible rfl)
      (try simp only [Act.put, List.setIfInBounds_toArray, List.set_cons_zero, List.set_cons_succ, List.getElem_toArray, List.getElem_cons_succ, List.getElem_cons_zero])
      have hP2 := low2 P hPw
      have cP2 : W2.cell? ⟨P, 3, none⟩ = some (.slice va l.length vc) := (World.cell?_of_block (a := ⟨P, 3, none⟩) hP2).trans c5'
      have fP2 : W2.frozen? ⟨P, 3, none⟩ = false := by simp [World.frozen?, hP2, HP.out]
      refine wpAnyH_ready (rs := [12]) (by kernel_rfl) (by simp) ?_
      refine AllReadyH.cons rfl (fun K hK => ?_) AllReadyH.nil
      rw [if_pos (by rfl)]
      go_simp
      refine hK.out _ _ (HSP.out _ (fun q hq hne => (Below.heap_setCell W2 ⟨P, 3, none⟩ _ q hne).trans (low2 q hq))) (fun hHeld => ?_)
      clear hK K
      (try simp only [Act.put, List.setIfInBounds_toArray, List.set_cons_zero, List.set_cons_succ, List.getElem_toArray, List.getElem_cons_succ, List.getElem_cons_zero])
      refine wpAnyH_done (by kernel_rfl) ?_ _
      have hK2 : KeepsOthers W W2 := ((KeepsOthers.drew _).trans (KeepsOthers.alloc _ _)).trans (keeps_grown hg2 (own_cells (own_below HR.out (((Below.refl _ _).drew).alloc (Nat.le_refl _) _))))
      have hg12 : W.grownBy W2 (Value.slice va l.length vc).ownBlock := ⟨hg2.os, hg2.tape, hg2.output, by have := hg2.size; simp at this; omega, fun k hk hne => (hg2.block k (by simp; omega) hne).trans (Below.heap_alloc _ _ _ hk)⟩
      have KK := hid hK2
      have OO := hid ho2
      have LL := hid low2
      have GG := hid hg12
      clear hK2 ho2 low2 hg12 hg2 hP2 cP2 fP2
      gi_wp2
      refine ⟨(KK.out.trans (KeepsOthers.setCell _ _ _)).from _, ?_, ?_⟩
      · intro q hq
        have hqb : q ≠ P ∧ q < w5.heap.size := by
          simp only [List.mem_cons, List.not_mem_nil, or_false] at hq
          rcases hq with rfl | rfl | rfl <;> omega
        rw [Below.heap_setCell W2 ⟨P, 3, none⟩ _ q hqb.1, LL.out q hqb.2]
      · show PI w5 b g P S cf ct (pcF S d (pre ++ [x])) _
        rw [HSN.out]
        have hst2 : St (W2.setCell ⟨P, 3, none⟩ (.slice va' (l.length + 1) vc')) b g S := HTI.out.st.kept ((Below.heap_setCell W2 ⟨P, 3, none⟩ _ b (show b ≠ P by omega)).trans (LL.out b (by omega))) ((Below.heap_setCell W2 ⟨P, 3, none⟩ _ g (show g ≠ P by omega)).trans (LL.out g (by omega)))
        refine ⟨hst2, ⟨GG.out.os.trans HTI.out.grown.os, GG.out.tape.trans HTI.out.grown.tape, GG.out.output.trans HTI.out.grown.output, by rw [show (W2.setCell ⟨P, 3, none⟩ (.slice va' (l.length + 1) vc')).heap.size = W2.heap.size from by simp]; exact Nat.le_trans HTI.out.grown.size GG.out.size, fun k hk hne => ?_⟩, va', vc', ?_, ?_⟩
        · rw [Below.heap_setCell W2 ⟨P, 3, none⟩ _ k (fun e => hne (by rw [show k = P from e])), LL.out k hk]
          exact HTI.out.grown.block k hk hne
        · have := heap_setCell_same W2 P 3 #[.int .i64 cf, .int .i64 ct, .bool false, .slice va l.length vc] 70 (.slice va' (l.length + 1) vc') ((LL.out P hPw).trans HP.out)
          rw [this]; simp
        · have e : (l ++ [(⟨tx, m⟩ : CellD)]).length = l.length + 1 := by simp
          rw [e, flat5_append]
          refine own_kept OO.out fun q cs hq hh => Below.heap_setCell W2 ⟨P, 3, none⟩ _ q fun e => ?_
          have := (OO.out.lt q hq).1
          subst e
          omega
    · rw [if_pos (by rfl)]
      go_simp
      refine hK.out _ _ (HSB.out _ (((Below.refl _ _).alloc (Nat.le_refl _) _).drew)) (fun hHeld => ?_)
      clear hK K
      (try simp only [Act.put, List.setIfInBounds_toArray, List.set_cons_zero, List.set_cons_succ, List.getElem_toArray, List.getElem_cons_succ, List.getElem_cons_zero])
      have c6' : ((W.alloc (.cells #[.string tx, .int .i64 (m 0), .int .i64 (m 1), .int .i64 (m 2), .int .i64 (m 3)] 78)).drew).cell? ⟨P, 3, none⟩ = some (.slice va l.length vc) := cell_later (((Below.refl _ _).alloc (Nat.le_refl W.heap.size) _).drew) c5'
      refine wpAnyH_ready (rs := [4]) (by kernel_rfl) (by simp) ?_
      refine AllReadyH.cons rfl (fun K hK => ?_) AllReadyH.nil
      rw [if_pos (by rfl)]
      go_simp
      refine hK.out _ _ hHeld (fun hHeld => ?_)
      clear hK K
      (try simp only [Act.put, List.setIfInBounds_toArray, List.set_cons_zero, List.set_cons_succ, List.getElem_toArray, List.getElem_cons_succ, List.getElem_cons_zero])
      clear c6'
      refine wpAnyH_ready (rs := [9]) (by kernel_rfl) (by simp) ?_
      refine AllReadyH.cons rfl (fun K hK => ?_) AllReadyH.nil
      rw [if_pos (by rfl)]
      refine wp_app rowCell _ _ rfl w5.heap.size (.slice va l.length vc) l.length (flat5 l) rfl (own_below HR.out (((Below.refl _ _).drew).alloc (Nat.le_refl _) _)) W.heap.size 1 1 (c5 ⟨tx, m⟩) rfl rfl ?ys (c5_one _) (by omega) (by simp; omega) ?_
      case ys =>
        intro j' u hj'
        have hn := heap_alloc_new W (.cells #[.string tx, .int .i64 (m 0), .int .i64 (m 1), .int .i64 (m 2), .int .i64 (m 3)] 78)
        show (W.alloc _).cell? _ = _
        match j' with
        | 0 => cases hj'; rw [cell_of_row _ _ _ _ _ _ hn]; rfl
        | 1 => cases hj'; rw [cell_of_row _ _ _ _ _ _ hn]; rfl
        | 2 => cases hj'; rw [cell_of_row _ _ _ _ _ _ hn]; rfl
        | 3 => cases hj'; rw [cell_of_row _ _ _ _ _ _ hn]; rfl
        | 4 => cases hj'; rw [cell_of_row _ _ _ _ _ _ hn]; rfl
        | j' + 5 => simp [c5] at hj'
      intro va' vc' W2 ho2 hg2
      have low2 : ∀ q, q < w5.heap.size → W2.heap[q]? = W.heap[q]? := fun q hq => (hg2.block q (by simp; omega) (HROW.out q hq)).trans (Below.heap_alloc _ _ _ (by omega))
      refine hK.out _ _ (HSL.out _ low2) (fun hHeld => ?_)
      clear hK K
      (try simp only [Act.put, List.setIfInBounds_toArray, List.set_cons_zero, List.set_cons_succ, List.getElem_toArray, List.getElem_cons_succ, List.getElem_cons_zero])
      refine wpAnyH_take (i := 10) (v := ?qv10) rfl (by kernel_rfl) (by kernel_rfl) (by kernel_rfl) (fun _ _ _ h => h) (Or.inl ⟨by rfl, ?qy10⟩) (by assumption) ?qr10
      case qy10 => (intro w hSw; (try dsimp only at hSw); go_simp; try with_reducible rfl)
      (try simp only [Act.put, List.setIfInBounds_toArray, List.set_cons_zero, List.set_cons_succ, List.getElem_toArray, List.getElem_cons_succ, List.getElem_cons_zero])
      refine wpAnyH_take (i := 11) (v := ?qv11) rfl (by kernel_rfl) (by kernel_rfl) (by kernel_rfl) (fun _ _ _ h => h) (Or.inl ⟨by rfl, ?qy11⟩) (by assumption) ?qr11
      case qy11 => (intro w hSw; (try dsimp only at hSw); go_simp; try with_reducible rfl)
      (try simp only [Act.put, List.setIfInBounds_toArray, List.set_cons_zero, List.set_cons_succ, List.getElem_toArray, List.getElem_cons_succ, List.getElem_cons_zero])
      have hP2 := low2 P hPw
      have cP2 : W2.cell? ⟨P, 3, none⟩ = some (.slice va l.length vc) := (World.cell?_of_block (a := ⟨P, 3, none⟩) hP2).trans c5'
      have fP2 : W2.frozen? ⟨P, 3, none⟩ = false := by simp [World.frozen?, hP2, HP.out]
      refine wpAnyH_ready (rs := [12]) (by kernel_rfl) (by simp) ?_
      refine AllReadyH.cons rfl (fun K hK => ?_) AllReadyH.nil
      rw [if_pos (by rfl)]
      go_simp
      refine hK.out _ _ (HSP.out _ (fun q hq hne => (Below.heap_setCell W2 ⟨P, 3, none⟩ _ q hne).trans (low2 q hq))) (fun hHeld => ?_)
      clear hK K
      (try simp only [Act.put, List.setIfInBounds_toArray, List.set_cons_zero, List.set_cons_succ, List.getElem_toArray, List.getElem_cons_succ, List.getElem_cons_zero])
      refine wpAnyH_done (by kernel_rfl) ?_ _
      have hK2 : KeepsOthers W W2 := ((KeepsOthers.drew _).trans (KeepsOthers.alloc _ _)).trans (keeps_grown hg2 (own_cells (own_below HR.out (((Below.refl _ _).drew).alloc (Nat.le_refl _) _))))
      have hg12 : W.grownBy W2 (Value.slice va l.length vc).ownBlock := ⟨hg2.os, hg2.tape, hg2.output, by have := hg2.size; simp at this; omega, fun k hk hne => (hg2.block k (by simp; omega) hne).trans (Below.heap_alloc _ _ _ hk)⟩
      have KK := hid hK2
      have OO := hid ho2
      have LL := hid low2
      have GG := hid hg12
      clear hK2 ho2 low2 hg12 hg2 hP2 cP2 fP2
      gi_wp2
      refine ⟨(KK.out.trans (KeepsOthers.setCell _ _ _)).from _, ?_, ?_⟩
      · intro q hq
        have hqb : q ≠ P ∧ q < w5.heap.size := by
          simp only [List.mem_cons, List.not_mem_nil, or_false] at hq
          rcases hq with rfl | rfl | rfl <;> omega
        rw [Below.heap_setCell W2 ⟨P, 3, none⟩ _ q hqb.1, LL.out q hqb.2]
      · show PI w5 b g P S cf ct (pcF S d (pre ++ [x])) _
        rw [HSN.out]
        have hst2 : St (W2.setCell ⟨P, 3, none⟩ (.slice va' (l.length + 1) vc')) b g S := HTI.out.st.kept ((Below.heap_setCell W2 ⟨P, 3, none⟩ _ b (show b ≠ P by omega)).trans (LL.out b (by omega))) ((Below.heap_setCell W2 ⟨P, 3, none⟩ _ g (show g ≠ P by omega)).trans (LL.out g (by omega)))
        refine ⟨hst2, ⟨GG.out.os.trans HTI.out.grown.os, GG.out.tape.trans HTI.out.grown.tape, GG.out.output.trans HTI.out.grown.output, by rw [show (W2.setCell ⟨P, 3, none⟩ (.slice va' (l.length + 1) vc')).heap.size = W2.heap.size from by simp]; exact Nat.le_trans HTI.out.grown.size GG.out.size, fun k hk hne => ?_⟩, va', vc', ?_, ?_⟩
        · rw [Below.heap_setCell W2 ⟨P, 3, none⟩ _ k (fun e => hne (by rw [show k = P from e])), LL.out k hk]
          exact HTI.out.grown.block k hk hne
        · have := heap_setCell_same W2 P 3 #[.int .i64 cf, .int .i64 ct, .bool false, .slice va l.length vc] 70 (.slice va' (l.length + 1) vc') ((LL.out P hPw).trans HP.out)
          rw [this]; simp
        · have e : (l ++ [(⟨tx, m⟩ : CellD)]).length = l.length + 1 := by simp
          rw [e, flat5_append]
          refine own_kept OO.out fun q cs hq hh => Below.heap_setCell W2 ⟨P, 3, none⟩ _ q fun e => ?_
          have := (OO.out.lt q hq).1
          subst e
          omega
  intro D ys W hD hys hTI hK
  rw [hys] at hTI
  have hDl := lt_of_block hK
  have HC := hid hTI
  have HK := hid hK
  clear hys hTI hK
  have hV : W.heap[V]? = _ := (HC.out.grown.block V (by omega) (fun e => by cases e; omega)).trans HV5.out
  have cV : W.cell? ⟨V, 0, none⟩ = some (.pointer (some ⟨P, 0, none⟩)) := by rw [cell_of_row _ _ _ _ _ _ hV]; rfl
  clear hV
  go_wp2_with fail
  have gp := grownBy_putObj' W D (.deferred none)
  have rp : ∀ r, some D = some r → w5.heap.size ≤ r ∧ ∃ o : Obj, W.heap[r]? = some o ∧ o.isCells = false := fun r e => by cases e; exact ⟨hD, _, HK.out, rfl⟩
  have C9 := HC.out.turned gp rp
  obtain ⟨va, vc, hb9, hr9⟩ := C9.row
  have hlen : (pcF S d (List.finRange cnt)).length = cnt := by rw [pcF_len]; simp
  obtain ⟨g9, cp9, e9, hg9⟩ := own_some' hr9 (by omega)
  cases e9
  refine ⟨by simp, .inl ⟨_, _, rfl, run_takeDeferred HK.out, _, results_tmp2 rfl _ _ _, P, g9, rfl, HPw.out, Nat.le_trans BW5.out.size hg9, ⟨HPI.out, _, hb9, own_lower hr9 (Nat.zero_le _)⟩, ?_⟩⟩
  exact ⟨C9.grown.os.trans BW5.out.os, C9.grown.tape.trans BW5.out.tape, C9.grown.output.trans BW5.out.output, Nat.le_trans BW5.out.size C9.grown.size, fun q hq => (C9.grown.block q (Nat.lt_of_lt_of_le hq BW5.out.size) (fun e => by cases e; have := HPw.out; omega)).trans (BW5.out.block q hq)⟩
end Go.Proofs.Ytappdhgabbjoiaa
