/- What the document's Apply answers where it goes over blocks. -/
import Derived.Test.YtabmnelenfghhaaBkRApplyA
import Derived.Test.YtabmnelenfghhaaBkChange
namespace Go.Proofs.Ytabmnelenfghhaa
open Go.RowKit
set_option linter.unusedVariables false
set_option linter.unusedSimpArgs false

theorem own_some {w : World} {base : Nat} {E : TypeId} {sz n : Nat} {v : Value} {xs : List Value} (h : w.ownsRow base E sz v n xs) (hn : 0 < n) : ∃ g cap, v = .slice (some ⟨g, 0, none⟩) n cap ∧ base ≤ g := by
  obtain ⟨_, h2⟩ := h
  rcases h2 with ⟨rfl, rfl⟩ | ⟨g, cap, cur, rfl, hb, -⟩
  · omega
  · exact ⟨g, cap, rfl, hb⟩
theorem RSt.textAt {w : World} {base X gt n cp : Nat} {vm : Value} {ks : List Nat} {S : StD} (h : RSt w base X (.slice (some ⟨gt, 0, none⟩) n cp) vm ks S) (j : Nat) (hj : j < S.cells.length) : w.cell? ⟨gt, j, none⟩ = some (.string S.cells[j].text) := by
  have := h.texts.cells (g := gt) rfl j (.string S.cells[j].text) (by simp [tvs, hj])
  rwa [Addr.add_lit, Nat.zero_add] at this
theorem RSt.rowAt {w : World} {base X gm n cp : Nat} {vt : Value} {ks : List Nat} {S : StD} (h : RSt w base X vt (.slice (some ⟨gm, 0, none⟩) n cp) ks S) (j : Nat) (hj : j < ks.length) : w.cell? ⟨gm, j, none⟩ = some (.slice (some ⟨ks[j], 0, none⟩) 4 4) := by
  have := h.rows.cells (g := gm) rfl j (.slice (some ⟨ks[j], 0, none⟩) 4 4) (by simp [kvs, hj])
  rwa [Addr.add_lit, Nat.zero_add] at this
theorem RSt.markAt {w : World} {base X : Nat} {vt vm : Value} {ks : List Nat} {S : StD} (h : RSt w base X vt vm ks S) (j : Nat) (hj : j < ks.length) (hj' : j < S.cells.length) (k : Fin 4) : w.cell? ⟨ks[j], k.val, none⟩ = some (.int .i64 (S.cells[j].m k)) := by
  rw [cell_of_row _ _ _ _ _ _ (h.marks j hj hj').2]
  match k with
  | ⟨0, _⟩ => rfl
  | ⟨1, _⟩ => rfl
  | ⟨2, _⟩ => rfl
  | ⟨3, _⟩ => rfl
theorem m4_set (c : CellD) (k : Fin 4) (n : Int) : (m4 c).setIfInBounds k.val (.int .i64 n) = m4 (setMark c k n) := by
  match k with
  | ⟨0, _⟩ => rfl
  | ⟨1, _⟩ => rfl
  | ⟨2, _⟩ => rfl
  | ⟨3, _⟩ => rfl
theorem map_text_mark (l : List CellD) (j : Nat) (hj : j < l.length) (k : Fin 4) (n : Int) : (l.set j (setMark l[j] k n)).map (·.text) = l.map (·.text) := by
  apply List.ext_getElem?
  intro i
  by_cases h : i = j
  · subst h; simp [hj, setMark]
  · simp [List.getElem?_set, show ¬ j = i from fun e => h e.symm]
theorem map_text_text (l : List CellD) (j : Nat) (hj : j < l.length) (s : ByteArray) : tvs ((l.set j (setText l[j] s)).map (·.text)) = (tvs (l.map (·.text))).set j (.string s) := by
  apply List.ext_getElem?
  intro i
  by_cases h : i = j
  · subst h; simp [tvs, hj, setText]
  · simp [tvs, List.getElem?_set, show ¬ j = i from fun e => h e.symm]
theorem RSt.mark {w : World} {base X : Nat} {vt vm : Value} {ks : List Nat} {S : StD} (h : RSt w base X vt vm ks S) (j : Nat) (hj : j < S.cells.length) (hk : j < ks.length) (k : Fin 4) (n : Int) : RSt (w.setCell ⟨ks[j], k.val, none⟩ (.int .i64 n)) base X vt vm ks (S.put (S.cells.set j (setMark S.cells[j] k n))) := by
  have hm := (h.marks j hk hj).2
  have kt : Kt [3] w (w.setCell ⟨ks[j], k.val, none⟩ (.int .i64 n)) := (Kt.refl _ _).set _ _ _ hm (by simp)
  refine ⟨(kt X _ _ _ h.head (by decide)).trans h.head, ?_, ?_, ?_, fun i h1 h2 => ?_, h.nd⟩
  · have := own_kt h.texts kt (by decide)
    simp only [StD.put, List.length_set]
    rw [map_text_mark _ _ hj]; exact this
  · simp only [StD.put, List.length_set]
    exact own_kt h.rows kt (by decide)
  · simp only [StD.put, List.length_set]; exact h.n
  · simp only [StD.put, List.length_set] at h2
    obtain ⟨a, b⟩ := h.marks i h1 h2
    refine ⟨a, ?_⟩
    by_cases e : i = j
    · subst e
      have := heap_setCell_same w ks[i] k.val _ 3 (.int .i64 n) b
      rw [this, m4_set]
      simp [StD.put]
    · have hne : ks[i] ≠ ks[j] := fun e' => e ((List.getElem_inj h.nd).1 e')
      rw [Below.heap_setCell w ⟨ks[j], k.val, none⟩ _ _ hne, b]
      have : (S.put (S.cells.set j (setMark S.cells[j] k n))).cells[i]'(by simpa [StD.put] using h2) = S.cells[i] := by
        simp [StD.put, List.getElem_set, show ¬ j = i from fun e' => e e'.symm]
      rw [this]
theorem RSt.text {w : World} {base X gt nn cp : Nat} {vm : Value} {ks : List Nat} {S : StD} (h : RSt w base X (.slice (some ⟨gt, 0, none⟩) nn cp) vm ks S) (j : Nat) (hj : j < S.cells.length) (s : ByteArray) : RSt (w.setCell ⟨gt, j, none⟩ (.string s)) base X (.slice (some ⟨gt, 0, none⟩) nn cp) vm ks (S.put (S.cells.set j (setText S.cells[j] s))) := by
  obtain rfl : nn = S.cells.length := by
    obtain ⟨va, vc, e⟩ := own_shape h.texts
    cases e; rfl
  obtain ⟨cur, hg⟩ := own_typed h.texts (q := gt) rfl
  have kt : Kt [9] w (w.setCell ⟨gt, j, none⟩ (.string s)) := (Kt.refl _ _).set _ _ _ hg (by simp)
  refine ⟨(kt X _ _ _ h.head (by decide)).trans h.head, ?_, ?_, ?_, fun i h1 h2 => ?_, h.nd⟩
  · simp only [StD.put, List.length_set]
    rw [map_text_text _ _ hj]
    exact (World.ownsRow.stored h.texts j (.string s)).1
  · simp only [StD.put, List.length_set]
    exact own_kt h.rows kt (by decide)
  · simp only [StD.put, List.length_set]; exact h.n
  · simp only [StD.put, List.length_set] at h2
    obtain ⟨a, b⟩ := h.marks i h1 h2
    refine ⟨a, ((kt _ _ _ _ b (by decide)).trans b).trans ?_⟩
    by_cases e : i = j
    · subst e; simp [StD.put, setText, m4]
    · have : (S.put (S.cells.set j (setText S.cells[j] s))).cells[i]'(by simpa [StD.put] using h2) = S.cells[i] := by
        simp [StD.put, List.getElem_set, show ¬ j = i from fun e' => e e'.symm]
      rw [this]
/-- What a round of the document's loop keeps. -/
structure RL (w : World) (base X B3 B4 Br : Nat) (vt vm : Value) (ks : List Nat) (cv : Array Value) (S : StD) (rv : Value) (W : World) : Prop where
  c : W.heap[B3]? = some (.cells cv 24 (0, 0))
  r : W.heap[B4]? = some (.cells #[.bool false, .slice none 0 0] 60 (0, 0))
  o : W.heap[Br]? = some (.cells #[.bool true, rv] 60 (0, 0))
  st : RSt W base X vt vm ks S
  but : ButR (RB X vt ks) w W
theorem RL.later {w X' Y : World} {base X B3 B4 Br : Nat} {vt vm rv : Value} {ks : List Nat} {cv : Array Value} {S : StD} (h : RL w base X B3 B4 Br vt vm ks cv S rv X') (hb : Below X'.heap.size X' Y) : RL w base X B3 B4 Br vt vm ks cv S rv Y :=
  ⟨(hb.block _ (lt_of_block h.c)).trans h.c, (hb.block _ (lt_of_block h.r)).trans h.r, (hb.block _ (lt_of_block h.o)).trans h.o, h.st.below hb, h.but.trans (ButR.of_below hb)⟩
theorem RL.mark {w W : World} {base X B3 B4 Br : Nat} {vt vm rv : Value} {ks : List Nat} {cv : Array Value} {S : StD} {L : List CellD} (h : RL w base X B3 B4 Br vt vm ks cv (S.put L) rv W) (j : Nat) (hj : j < L.length) (hk : j < ks.length) (k : Fin 4) (n : Int) : RL w base X B3 B4 Br vt vm ks cv (S.put (L.set j (setMark L[j] k n))) rv (W.setCell ⟨ks[j], k.val, none⟩ (.int .i64 n)) := by
  have hm := (h.st.marks j hk hj).2
  have kt : Kt [3] W (W.setCell ⟨ks[j], k.val, none⟩ (.int .i64 n)) := (Kt.refl _ _).set _ _ _ hm (by simp)
  exact ⟨(kt _ _ _ _ h.c (by decide)).trans h.c, (kt _ _ _ _ h.r (by decide)).trans h.r, (kt _ _ _ _ h.o (by decide)).trans h.o, h.st.mark j hj hk k n, h.but.setNew (.inr (.inr (.inr (List.getElem_mem hk)))) _ _⟩
theorem RL.text {w W : World} {base X B3 B4 Br gt nn cp : Nat} {vm rv : Value} {ks : List Nat} {cv : Array Value} {S : StD} {L : List CellD} (h : RL w base X B3 B4 Br (.slice (some ⟨gt, 0, none⟩) nn cp) vm ks cv (S.put L) rv W) (j : Nat) (hj : j < L.length) (s : ByteArray) : RL w base X B3 B4 Br (.slice (some ⟨gt, 0, none⟩) nn cp) vm ks cv (S.put (L.set j (setText L[j] s))) rv (W.setCell ⟨gt, j, none⟩ (.string s)) := by
  obtain ⟨cur, hg⟩ := own_typed h.st.texts (q := gt) rfl
  have kt : Kt [9] W (W.setCell ⟨gt, j, none⟩ (.string s)) := (Kt.refl _ _).set _ _ _ hg (by simp)
  exact ⟨(kt _ _ _ _ h.c (by decide)).trans h.c, (kt _ _ _ _ h.r (by decide)).trans h.r, (kt _ _ _ _ h.o (by decide)).trans h.o, h.st.text j hj s, h.but.setNew (.inr (.inr (.inl rfl))) _ _⟩
set_option linter.unusedSimpArgs false in
set_option maxRecDepth 100000 in
set_option maxHeartbeats 4000000 in
theorem rapply_flush (base X : Nat) (vt vm : Value) (ks : List Nat) (S : StD) (c : CmdD) (d cnt : Nat) (u : Value) (w : World) (hR : RSt w base X vt vm ks S) (hI : StI S) (hu : CmdOk w c u) (hm : mayB c = true) (hcl : c.op = 4) (hf : c.from' = S.from' + d) (ht : c.to = c.from' + cnt) (hN : d + cnt ≤ S.cells.length) (hfr : S.fr = false) :
    Calls Try.prog 39 #[.pointer (some ⟨X, 0, none⟩), cmdV c u] w (RApP base X vt vm ks S true 0 [] w) := by
  have HMB := hid hm
  have HCL := hid hcl
  have HF := hid hf
  have HT := hid ht
  have HN := hid hN
  have HFR := hid hfr
  have HI := hid hI
  have hbn := hI.n
  have hbf := hI.f
  have hbt := hI.t
  have hbft := hI.ft
  have hcnt : cnt ≤ 256 := by omega
  have hdN : d + cnt ≤ 256 := by omega
  clear hm hcl hf ht hN hfr hI
  have HR := hid hR
  have HU := hid hu
  obtain ⟨ua, uc, rfl⟩ := hu.u.shape
  have hXl := lt_of_block hR.head
  clear hR hu
  have hMay := hid fun W (hW : CmdOk W c (.slice ua c.data.length uc)) => rmay_any c _ W hW
  obtain ⟨op, client, seq, cf, ct, data⟩ := c
  unfold cmdV at hMay ⊢
  simp only at hMay ⊢
  obtain ⟨w0, hw0⟩ : ∃ w0, w0 = (w.alloc (.cells #[.int .i64 op, .int .i64 client, .int .i64 seq, .int .i64 cf, .int .i64 ct, .slice ua data.length uc] 24)).alloc (.cells #[.bool false, .slice none 0 0] 60) := ⟨_, rfl⟩
  have hb0 : Below w.heap.size w w0 := by rw [hw0]; exact ((Below.refl _ _).alloc (Nat.le_refl _) _).alloc (by simp) _
  have h30 : w0.heap[w.heap.size]? = some (.cells #[.int .i64 op, .int .i64 client, .int .i64 seq, .int .i64 cf, .int .i64 ct, .slice ua data.length uc] 24 (0, 0)) := by rw [hw0]; exact heap_alloc2_old _ _ _
  have h40 : w0.heap[w.heap.size + 1]? = some (.cells #[.bool false, .slice none 0 0] 60 (0, 0)) := by rw [hw0]; exact heap_alloc2_new _ _ _
  have HW0 := hid hw0
  clear hw0
  go_enter Try.func39, Try.ntmps39
  go_upto_region 1 with fail
  rw [← HW0.out]
  obtain ⟨B3, hB3⟩ : ∃ B, B = w.heap.size := ⟨_, rfl⟩
  obtain ⟨B4, hB4⟩ : ∃ B, B = w.heap.size + 1 := ⟨_, rfl⟩
  rw [← hB3] at h30
  rw [← hB4] at h40
  rw [← hB4, ← hB3]
  have hXB : X < B3 ∧ B3 < B4 := by omega
  have HwB : Hid (w.heap.size = B3) := hid hB3.symm
  clear hB3 hB4 HW0
  have q0 : w0.cell? ⟨B3, 0, none⟩ = some (.int .i64 op) := by rw [cell_of_row _ _ _ _ _ _ h30]; rfl
  have q1 : w0.cell? ⟨B3, 1, none⟩ = some (.int .i64 client) := by rw [cell_of_row _ _ _ _ _ _ h30]; rfl
  have q2 : w0.cell? ⟨B3, 2, none⟩ = some (.int .i64 seq) := by rw [cell_of_row _ _ _ _ _ _ h30]; rfl
  have q3 : w0.cell? ⟨B3, 3, none⟩ = some (.int .i64 cf) := by rw [cell_of_row _ _ _ _ _ _ h30]; rfl
  have q4 : w0.cell? ⟨B3, 4, none⟩ = some (.int .i64 ct) := by rw [cell_of_row _ _ _ _ _ _ h30]; rfl
  have q5 : w0.cell? ⟨B3, 5, none⟩ = some (.slice ua data.length uc) := by rw [cell_of_row _ _ _ _ _ _ h30]; rfl
  have H30 := hid h30
  have H40 := hid h40
  have B0 := hid hb0
  clear h30 h40 hb0
  go_wp2_with fail
  refine (hMay.out w0 (HU.out.below B0.out)).mono ?_
  rintro e w1 ⟨rfl, hb1⟩
  have H31 := hid ((hb1.block B3 (lt_of_block H30.out)).trans H30.out)
  have H41 := hid ((hb1.block B4 (lt_of_block H40.out)).trans H40.out)
  have B1 := hid (B0.out.trans (hb1.mono B0.out.size))
  clear hb1 q0 q1 q2 q3 q4 q5 H30 H40 B0 hMay
  have hm := HMB.out
  have hcl := HCL.out
  have hf := HF.out
  have ht := HT.out
  have hN := HN.out
  (try simp only at hf); (try simp only at ht); (try simp only at hcl)
  rw [hm]
  have R1 := hid (HR.out.below B1.out)
  obtain ⟨x0, x1, x2, x3, x4, x5, y0, y1, y2, y3, y4⟩ := rcells H31.out R1.out
  have d0 : w1.cell? ⟨B4, 0, none⟩ = some (.bool false) := by rw [cell_of_row _ _ _ _ _ _ H41.out]; rfl
  have d1 : w1.cell? ⟨B4, 1, none⟩ = some (.slice none 0 0) := by rw [cell_of_row _ _ _ _ _ _ H41.out]; rfl
  have e0 : w1.frozen? ⟨B4, 0, none⟩ = false := by simp [World.frozen?, H41.out]
  have e1 : w1.frozen? ⟨B4, 1, none⟩ = false := by simp [World.frozen?, H41.out]
  have hc1 : decide (1 ≤ op) = true := decide_eq_true (by omega)
  have hc2 : decide (op ≤ 4) = true := decide_eq_true (by omega)
  have hc5 : (op == 5) = false := by simp; omega
  have hd1 : decide (cf < S.from') = false := decide_eq_false (by omega)
  have hd2 : decide (S.to < ct) = false := decide_eq_false (by omega)
  have hwct : IntKind.i64.wrap (ct - cf) = (cnt : Int) := by rw [IntWalk.i64_in _ ⟨by omega, by omega⟩]; omega
  have ho1 : (op == 1) = false := by rw [hcl]; rfl
  have ho2 : (op == 2) = false := by rw [hcl]; rfl
  have ho3 : (op == 3) = false := by rw [hcl]; rfl
  clear hm HMB hcl hf ht
  go_upto_region 4 with fail
  go_quiet (fail)
  generalize hW : w1.drewN _ = W
  have hBW : Below w1.heap.size w1 W := by rw [← hW]; exact belowN _ _
  have BW := hid (B1.out.trans (hBW.mono B1.out.size))
  have RW := hid (R1.out.below hBW)
  have H3W := hid ((hBW.block B3 (lt_of_block H31.out)).trans H31.out)
  have H4W := hid ((hBW.block B4 (lt_of_block H41.out)).trans H41.out)
  clear hW hBW x0 x1 x2 x3 x4 x5 y0 y1 y2 y3 y4 d0 d1 e0 e1 H31 H41 R1 B1
  obtain ⟨x0, x1, x2, x3, x4, x5, y0, y1, y2, y3, y4⟩ := rcells H3W.out RW.out
  have d0 : W.cell? ⟨B4, 0, none⟩ = some (.bool false) := by rw [cell_of_row _ _ _ _ _ _ H4W.out]; rfl
  have d1 : W.cell? ⟨B4, 1, none⟩ = some (.slice none 0 0) := by rw [cell_of_row _ _ _ _ _ _ H4W.out]; rfl
  have e0 : W.frozen? ⟨B4, 0, none⟩ = false := by simp [World.frozen?, H4W.out]
  have e1 : W.frozen? ⟨B4, 1, none⟩ = false := by simp [World.frozen?, H4W.out]
  rw [HFR.out] at y2
  obtain ⟨w7, hw7⟩ : ∃ w7, w7 = W.alloc (.cells #[.bool true, .slice none 0 0] 60) := ⟨_, rfl⟩
  have b7 : Below W.heap.size W w7 := by rw [hw7]; exact (Below.refl _ _).alloc (Nat.le_refl _) _
  have h77 : w7.heap[W.heap.size]? = some (.cells #[.bool true, .slice none 0 0] 60 (0, 0)) := by rw [hw7]; exact heap_alloc_new _ _
  have H37 := hid ((b7.block B3 (lt_of_block H3W.out)).trans H3W.out)
  have H47 := hid ((b7.block B4 (lt_of_block H4W.out)).trans H4W.out)
  have B7 := hid (BW.out.trans (b7.mono BW.out.size))
  have R7 := hid (RW.out.below b7)
  have HW7 := hid hw7
  have H77 := hid h77
  have HB47 := hid (lt_of_block H4W.out)
  clear hw7 h77 b7
  go_upto_region 9 with fail
  rw [← HW7.out]
  obtain ⟨Br, hBr⟩ : ∃ B, B = W.heap.size := ⟨_, rfl⟩
  rw [← hBr] at H77 HB47 ⊢
  have HBrw : Hid (w.heap.size ≤ Br) := hid (by have := BW.out.size; omega)
  clear hBr HW7 x0 x1 x2 x3 x4 x5 y0 y1 y2 y3 y4 d0 d1 e0 e1 H3W H4W RW BW
  obtain ⟨x0, x1, x2, x3, x4, x5, y0, y1, y2, y3, y4⟩ := rcells H37.out R7.out
  clear hd1 hd2
  go_wp2_with fail
  have RL0 : Hid (RL w base X B3 B4 Br vt vm ks #[.int .i64 op, .int .i64 client, .int .i64 seq, .int .i64 cf, .int .i64 ct, .slice ua data.length uc] S (.slice none 0 0) w7) := hid ⟨H37.out, H47.out, H77.out, R7.out, ButR.of_below B7.out⟩
  clear x0 x1 x2 x3 x4 x5 y0 y1 y2 y3 y4 H37 H47 H77 R7 B7
  clear HCL hc1 hc2
  go_loopw [8, 9] (fun iv _ wr => ∃ i : Nat, iv = .int .i64 i ∧ i ≤ cnt ∧ RL w base X B3 B4 Br vt vm ks #[.int .i64 op, .int .i64 client, .int .i64 seq, .int .i64 cf, .int .i64 ct, .slice ua data.length uc] S (.slice none 0 0) wr) (fun iv _ _ => cnt - (intOf iv).toNat)
  case atStart => exact ⟨0, rfl, Nat.zero_le _, RL0.out⟩
  case round =>
    obtain ⟨i, rfl, hi, hRL⟩ := hrel
    have HRL := hid hRL
    clear hRL
    obtain ⟨x0, x1, x2, x3, x4, x5, y0, y1, y2, y3, y4⟩ := rcells HRL.out.c HRL.out.st
    have hf := HF.out
    have ht := HT.out
    (try simp only at hf); (try simp only at ht)
    have wci : IntKind.i64.wrap (cf + (i : Int)) = cf + (i : Int) := IntWalk.i64_in _ ⟨by omega, by omega⟩
    have wcj : IntKind.i64.wrap (cf + (i : Int) - S.from') = ((d + i : Nat) : Int) := by rw [IntWalk.i64_in _ ⟨by omega, by omega⟩]; omega
    clear hf ht
    by_cases hlt : i < cnt
    · have hltI : (i : Int) < (cnt : Int) := by omega
      go_wp2_with fail
      go_quiet (fail)
      generalize hW : wr.drewN _ = W
      have hBW : Below wr.heap.size wr W := by rw [← hW]; exact belowN _ _
      have HRLW := hid (HRL.out.later hBW)
      clear hW hBW x0 x1 x2 x3 x4 x5 y0 y1 y2 y3 y4
      obtain ⟨x0, x1, x2, x3, x4, x5, y0, y1, y2, y3, y4⟩ := rcells HRLW.out.c HRLW.out.st
      go_wp2_with fail
      go_quiet (fail)
      go_wp2_with fail
      go_roundw
      case rel => exact ⟨i + 1, by go_num, by omega, HRLW.out.later (belowN _ _)⟩
      case measure => simp [intOf]; omega
    · have hltI : ¬ (i : Int) < (cnt : Int) := by omega
      have a0 : wr.cell? ⟨Br, 0, none⟩ = some (.bool true) := by rw [cell_of_row _ _ _ _ _ _ HRL.out.o]; rfl
      have a1 : wr.cell? ⟨Br, 1, none⟩ = some (.slice none 0 0) := by rw [cell_of_row _ _ _ _ _ _ HRL.out.o]; rfl
      have d0 : wr.cell? ⟨B4, 0, none⟩ = some (.bool false) := by rw [cell_of_row _ _ _ _ _ _ HRL.out.r]; rfl
      have d1 : wr.cell? ⟨B4, 1, none⟩ = some (.slice none 0 0) := by rw [cell_of_row _ _ _ _ _ _ HRL.out.r]; rfl
      have e0 : wr.frozen? ⟨B4, 0, none⟩ = false := by simp [World.frozen?, HRL.out.r]
      have e1 : wr.frozen? ⟨B4, 1, none⟩ = false := by simp [World.frozen?, HRL.out.r]
      go_wp2_with fail
      have hE := rreply_end (w := w) (.bool true) (.slice none 0 0) HRL.out.r HRL.out.st HRL.out.but (by have := HwB.out; omega)
      (try simp only [Exit.inBlock, Exit.then])
      refine bodyPost_ret (results_reply rfl _ _ B4 _ _ _ _ rfl hE.1) rfl ?_
      exact ⟨none, 0, rfl, World.ownsRow_nil _ _ _ _, hE.2.1, hE.2.2.1⟩
end Go.Proofs.Ytabmnelenfghhaa
