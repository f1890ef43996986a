/- What change leaves of a store. -/
import Derived.Test.YtabmnelenfghhaaBkSeq
namespace Go.Proofs.Ytabmnelenfghhaa
open Go.RowKit Go.Shelf
attribute [local go_sem] Oper.semAt_some

/-- What a cell is behind the command, whose text for it is number i. -/
def chC (c : CmdD) (k : Fin 4) (i : Nat) (x : CellD) : CellD := if c.seq ≤ x.m k then x else { text := if c.op = 2 then c.data.getD i ⟨#[]⟩ else ⟨#[]⟩, m := fun j => if j = k then c.seq else x.m j }
def chStep (c : CmdD) (k : Fin 4) (d cnt : Nat) (cs : List CellD) (x : Fin cnt) : List CellD := cs.set (d + x.val) (chC c k x.val (cs.getD (d + x.val) zeroC))
def chF (c : CmdD) (k : Fin 4) (d cnt : Nat) (cs : List CellD) (pre : List (Fin cnt)) : List CellD := pre.foldl (chStep c k d cnt) cs
theorem chF_len (c : CmdD) (k : Fin 4) (d cnt : Nat) (cs : List CellD) (pre : List (Fin cnt)) : (chF c k d cnt cs pre).length = cs.length := by
  unfold chF
  induction pre generalizing cs with
  | nil => rfl
  | cons x pre ih => rw [List.foldl_cons, ih]; simp [chStep]
theorem chF_snoc (c : CmdD) (k : Fin 4) (d cnt : Nat) (cs : List CellD) (pre : List (Fin cnt)) (x : Fin cnt) : chF c k d cnt cs (pre ++ [x]) = chStep c k d cnt (chF c k d cnt cs pre) x := by simp [chF]
/-- The store with other cells. -/
def StD.put (S : StD) (l : List CellD) : StD := { S with cells := l }
theorem St.stored {w : World} {b g : Nat} {S : StD} (h : St w b g S) (o : Nat) (v : Value) (l : List CellD) (hl : l.length = S.cells.length) (hv : (flat5 S.cells).set o v = flat5 l) : St (w.setCell ⟨g, o, none⟩ v) b g (S.put l) := by
  have hlt := h.lt
  obtain ⟨i, cap, e1, e2⟩ := h
  refine ⟨⟨i.f, i.t, i.ft, by show (l.length : Int) = _; rw [hl]; exact i.n⟩, cap, ?_, ?_⟩
  · show (w.setCell ⟨g, o, none⟩ v).heap[b]? = some (.cells #[.int .i64 S.from', .int .i64 S.to, .bool S.fr, .slice (some ⟨g, 0, none⟩) l.length cap] 91 (0, 0))
    rw [hl, Below.heap_setCell w ⟨g, o, none⟩ _ b hlt.2.2]; exact e1
  · show (w.setCell ⟨g, o, none⟩ v).ownsRow 0 100 5 (.slice (some ⟨g, 0, none⟩) l.length cap) l.length (flat5 l)
    rw [hl, ← hv]
    exact (World.ownsRow.stored e2 o v).1
theorem St.mark {w : World} {b g : Nat} {S : StD} (h : St w b g S) (j : Nat) (hj : j < S.cells.length) (k : Fin 4) (n : Int) : St (w.setCell ⟨g, j * 5 + 1 + k.val, none⟩ (.int .i64 n)) b g (S.put (S.cells.set j (setMark S.cells[j] k n))) :=
  h.stored _ _ _ (by simp) (flat5_mark _ _ hj _ _)
theorem St.text {w : World} {b g : Nat} {S : StD} (h : St w b g S) (j : Nat) (hj : j < S.cells.length) (s : ByteArray) : St (w.setCell ⟨g, j * 5, none⟩ (.string s)) b g (S.put (S.cells.set j (setText S.cells[j] s))) :=
  h.stored _ _ _ (by simp) (flat5_text _ _ hj _)
theorem St.unfrozen {w : World} {b g : Nat} {S : StD} (h : St w b g S) (o : Nat) : w.frozen? ⟨g, o, none⟩ = false := by
  obtain ⟨_, cap, _, e2⟩ := h
  exact World.ownsRow.frozenAt e2 _
theorem St.turned {X Y : World} {b g : Nat} {S : StD} {row : Option Nat} (h : St X b g S) (hg : X.grownBy Y row) (hr : ∀ r, row = some r → ∃ o : Obj, X.heap[r]? = some o ∧ o.isCells = false) : St Y b g S := by
  have hlt := h.lt
  have cb : ∃ o : Obj, X.heap[b]? = some o ∧ o.isCells = true := by obtain ⟨_, cap, e1, _⟩ := h; exact ⟨_, e1, rfl⟩
  have cg : ∃ o : Obj, X.heap[g]? = some o ∧ o.isCells = true := by
    obtain ⟨_, cap, _, e2, e3⟩ := h
    rcases e3 with ⟨e4, _⟩ | ⟨g', c, cur, e, a1, hh, r⟩
    · cases e4
    · cases e; exact ⟨_, hh, rfl⟩
  have key : ∀ k, (∃ o : Obj, X.heap[k]? = some o ∧ o.isCells = true) → k < X.heap.size → Y.heap[k]? = X.heap[k]? := by
    rintro k ⟨o, ho, hc⟩ hk
    refine hg.block k hk fun e => ?_
    obtain ⟨o', ho', hc'⟩ := hr k e.symm
    rw [ho] at ho'; cases ho'; rw [hc] at hc'; cases hc'
  exact h.kept (key b cb hlt.1) (key g cg hlt.2.1)
/-- In the loop over cells: the store, and all but its row as it was. -/
structure CI (w5 : World) (b g : Nat) (S : StD) (W : World) : Prop where
  st : St W b g S
  grown : w5.grownBy W (some g)
theorem CI.turned {w5 X Y : World} {b g : Nat} {S : StD} {row : Option Nat} (h : CI w5 b g S X) (hg : X.grownBy Y row) (hr : ∀ r, row = some r → w5.heap.size ≤ r ∧ ∃ o : Obj, X.heap[r]? = some o ∧ o.isCells = false) : CI w5 b g S Y :=
  ⟨h.st.turned hg fun r e => (hr r e).2, h.grown.andThen hg fun j e => .inl (hr j e).1⟩
/-- The frame of a round. -/
def AtF {cnt : Nat} (Fr : Fin cnt → Act) (x : Fin cnt) (a' : Act) (_ : World) : Prop := a' = Fr x
theorem CI.put {w5 X : World} {b g : Nat} {S : StD} (h : CI w5 b g S X) (o : Nat) (v : Value) (l : List CellD) (hs : St (X.setCell ⟨g, o, none⟩ v) b g (S.put l)) : CI w5 b g (S.put l) (X.setCell ⟨g, o, none⟩ v) :=
  ⟨hs, ⟨h.grown.os, h.grown.tape, h.grown.output, by simpa using h.grown.size, fun k hk hne => (Below.heap_setCell X ⟨g, o, none⟩ _ k (fun e => hne (by rw [show k = g from e]))).trans (h.grown.block k hk hne)⟩⟩
theorem CI.mark {w5 X : World} {b g : Nat} {S : StD} {L : List CellD} (h : CI w5 b g (S.put L) X) (j : Nat) (hj : j < L.length) (k : Fin 4) (n : Int) : CI w5 b g (S.put (L.set j (setMark L[j] k n))) (X.setCell ⟨g, j * 5 + 1 + k.val, none⟩ (.int .i64 n)) := CI.put h _ _ _ (St.mark h.st j hj k n)
theorem CI.text {w5 X : World} {b g : Nat} {S : StD} {L : List CellD} (h : CI w5 b g (S.put L) X) (j : Nat) (hj : j < L.length) (s : ByteArray) : CI w5 b g (S.put (L.set j (setText L[j] s))) (X.setCell ⟨g, j * 5, none⟩ (.string s)) := CI.put h _ _ _ (St.text h.st j hj s)
theorem keeps_below {A B : World} (h : Below A.heap.size A B) : KeepsOthers A B := ⟨h.size, fun k _ hk _ => (h.block k (lt_of_block hk)).trans hk⟩
theorem CI.later {w5 X Y : World} {b g : Nat} {S : StD} (h : CI w5 b g S X) (hb : Below X.heap.size X Y) : CI w5 b g S Y := h.turned (row := none) ⟨hb.os, hb.tape, hb.output, hb.size, fun k hk _ => hb.block k hk⟩ (fun r e => by cases e)
theorem CI.drew {w5 X : World} {b g : Nat} {S : StD} (h : CI w5 b g S X) : CI w5 b g S X.drew := h.later ((Below.refl _ _).drew)
theorem set_two (L : List CellD) (j : Nat) (hj : j < L.length) (k : Fin 4) (n : Int) (s : ByteArray) : (L.set j (setMark L[j] k n)).set j (setText ((L.set j (setMark L[j] k n))[j]'(by simpa using hj)) s) = L.set j { text := s, m := fun i => if i = k then n else L[j].m i } := by
  simp [setText, setMark]
theorem set_three (L : List CellD) (j : Nat) (hj : j < L.length) (x : CellD) (s : ByteArray) : (L.set j x).set j (setText ((L.set j x)[j]'(by simpa using hj)) s) = L.set j (setText x s) := by
  simp
set_option linter.unusedSimpArgs false in
set_option maxRecDepth 100000 in
set_option maxHeartbeats 8000000 in
theorem change_any (b g : Nat) (S : StD) (c : CmdD) (k : Fin 4) (d cnt : Nat) (u : Value) (w : World) (hS : St w b g S) (hu : Strs w u c.data) (hk : c.client = (k.val : Int)) (hf : c.from' = S.from' + d) (ht : c.to = c.from' + cnt) (hN : d + cnt ≤ S.cells.length) (hdl : c.op = 2 → c.data.length = cnt) (hug : ∀ a n cp, u = .slice (some a) n cp → 0 < n → a.block ≠ g) :
    Calls Try.prog 64 #[.pointer (some ⟨b, 0, none⟩), cmdV c u] w fun e w' => e = .returned (.tuple #[]) ∧ St w' b g (S.put (chF c k d cnt S.cells (List.finRange cnt))) ∧ w.grownBy w' (some g) ∧ KeepsOthers w w' := by
  have HS := hid hS
  have HU := hid hu
  have HDL := hid hdl
  obtain ⟨ua, uc, rfl⟩ := hu.shape
  have HUG : Hid (∀ a, ua = some a → 0 < c.data.length → a.block ≠ g) := hid fun a ha h0 => hug a _ _ (by rw [ha]) h0
  clear hug
  obtain ⟨op, client, seq, cf, ct, data⟩ := c
  simp only at hk hf ht HU HDL
  subst hk
  have hi := hS.i
  have hif := hi.f
  have hit := hi.t
  have hin := hi.n
  have hlt := hS.lt
  have HF := hid hf
  have HT := hid ht
  have htI : ct ≤ 256 := by omega
  clear hu hS hdl hi hf ht
  unfold cmdV
  simp only
  refine (callsIn_wide (n := 3)).1 ?_
  refine callsIn_of_wp_marks Try.func64 rfl trivial ?_ rfl
  simp only [Try.ntmps64, List.size_toArray, List.length_cons, List.length_nil, Nat.reduceAdd, Nat.reduceSub, Array.replicate_succ, Array.replicate_zero, List.push_toArray, List.append_toArray, List.nil_append, List.cons_append]
  refine wpIn_wide.2 ?_
  go_wp2_with fail
  obtain ⟨w0, hw0⟩ : ∃ w0, w0 = w.alloc (.cells #[.int .i64 op, .int .i64 k.val, .int .i64 seq, .int .i64 cf, .int .i64 ct, .slice ua data.length uc] 24) := ⟨_, rfl⟩
  have hb0 : Below w.heap.size w w0 := by rw [hw0]; exact (Below.refl _ _).alloc (Nat.le_refl _) _
  have h30 : w0.heap[w.heap.size]? = some (.cells #[.int .i64 op, .int .i64 k.val, .int .i64 seq, .int .i64 cf, .int .i64 ct, .slice ua data.length uc] 24 (0, 0)) := by rw [hw0]; exact heap_alloc_new _ _
  rw [← hw0]
  have K0 : Hid (KeepsOthers w w0) := hid (by rw [hw0]; exact KeepsOthers.alloc _ _)
  clear hw0
  obtain ⟨B3, hB3⟩ : ∃ B, B = w.heap.size := ⟨_, rfl⟩
  rw [← hB3] at h30 ⊢
  have HB3 := hid hB3
  have hgB : g < B3 ∧ b < B3 := by omega
  clear hB3
  refine (spanOf_any ⟨op, k.val, seq, cf, ct, data⟩ ua data.length uc w0).mono ?_
  rintro e w1 ⟨rfl, hb1⟩
  have b1 := hb0.trans (hb1.mono hb0.size)
  have h31 := (hb1.block B3 (lt_of_block h30)).trans h30
  have B1 := hid b1
  have B01 := hid hb1
  have H31 := hid h31
  clear hb0 hb1 h30 h31 b1
  simp only
  go_wp2_with (go_at_call 43; refine (within_any b (cf, ct) _).mono ?_; rintro e w5 ⟨rfl, hw5⟩; have W5 := hid hw5; clear hw5)
  have b5 : Below w1.heap.size w1 w5 := by rw [W5.out]; exact ((Below.refl _ _).alloc (Nat.le_refl _) _).alloc (by simp) _
  have hs5 : w5.heap[w1.heap.size]? = some (.cells #[.pointer (some ⟨b, 0, none⟩)] 44 (0, 0)) := by rw [W5.out]; exact heap_alloc2_old _ _ _
  have ho5 : w5.heap[w1.heap.size + 1]? = some (.cells #[.int .i64 cf, .int .i64 ct] 42 (0, 0)) := by rw [W5.out]; exact heap_alloc2_new _ _ _
  have BW5 := hid (B1.out.trans (b5.mono B1.out.size))
  have St5 := hid (HS.out.below BW5.out)
  have U5 := hid (HU.out.below BW5.out)
  have H35 := hid ((b5.block B3 (lt_of_block H31.out)).trans H31.out)
  have hsz1 : B3 < w1.heap.size := lt_of_block H31.out
  obtain ⟨Bs, hBs⟩ : ∃ A, A = w1.heap.size := ⟨_, rfl⟩
  obtain ⟨Bo, hBo⟩ : ∃ A, A = w1.heap.size + 1 := ⟨_, rfl⟩
  have hs5' : w5.heap.size = w1.heap.size + 2 := by rw [W5.out]; simp
  rw [← hBo, ← hBs]
  rw [← hBs] at hs5
  rw [← hBo] at ho5
  have K5 : Hid (KeepsOthers w w5) := hid ⟨BW5.out.size, fun j o hj _ => (BW5.out.block j (lt_of_block hj)).trans hj⟩
  have hne : B3 < w5.heap.size ∧ Bs < w5.heap.size ∧ Bo < w5.heap.size ∧ g < B3 ∧ b < B3 ∧ g < Bs ∧ g < Bo ∧ B3 < Bs := by omega
  clear b5 W5 hs5' H31 B01 B1 hBs hBo hsz1
  obtain ⟨cap, hhd, -⟩ := St5.out.head
  go_wp2_with fail
  refine (wpIn_wide (n := 3)).1 ?_
  refine wpIn_rangeFunc_ownH (F := Fence.wide) rfl (by omega) (gf := 70) (lb := #[.pointer (some ⟨Bo, 0, none⟩), .pointer (some ⟨Bs, 0, none⟩)]) rfl trivial (enters_of Try.func70 (by kernel_rfl) rfl)
    (within_stops _ (by omega) Bo Bs b g d cnt S.cells.length cap cf ct S.from' S.to S.fr HF.out HT.out hif htI hN w5 ho5 hs5 hhd) KeptW.trans ?keptb (Below.refl _ _) (fun _ => rfl)
    (fun pre W => CI w5 b g (S.put (chF ⟨op, k.val, seq, cf, ct, data⟩ k d cnt S.cells pre)) W)
    (fun _ _ _ => False) ?hI (fun _ _ _ _ _ h _ _ => h) ⟨St5.out, World.grownBy.refl _ _⟩
    (AtF ?Fr)
    (fun _ _ _ _ _ _ h _ _ => h) ?assign ?body ?done (fun _ _ _ _ _ _ h _ => h.elim)
  case keptb =>
    intro W y o o' hy ho _ _ j hj
    have h2 := lt_of_block ho
    have h1 : j < w5.heap.size := by
      simp only [List.mem_cons, List.not_mem_nil, or_false] at hj
      rcases hj with rfl | rfl | rfl <;> omega
    refine (grownBy_putObj' W y o').block j (by omega) fun e => ?_
    have h3 : j = y := by simpa using e
    omega
  case hI =>
    intro s X Y row h hg hr
    exact h.turned hg hr
  case assign =>
    intro y pre x W K h hK
    unfold encW cellAt
    gi_wp2
    refine hK _ _ (KeepsFrom.refl _ _) (fun _ _ => rfl) h ?ax
    case ax =>
      clear hK
      show _ = _
      with_reducible rfl
  case body =>
    rintro y pre x a' W hy _ hCI hfr hlt'
    obtain rfl : a' = _ := hfr
    have hlow : ∀ q, q < w5.heap.size → q ≠ g → W.heap[q]? = w5.heap[q]? := fun q hq hne' => hCI.grown.block q hq fun e => hne' (Option.some.inj e)
    have hb3 := (hlow B3 (by omega) (by omega)).trans H35.out
    have hLl := chF_len ⟨op, k.val, seq, cf, ct, data⟩ k d cnt S.cells pre
    have HSN := hid (chF_snoc ⟨op, k.val, seq, cf, ct, data⟩ k d cnt S.cells pre x)
    obtain ⟨L, hL⟩ : ∃ L, L = chF ⟨op, k.val, seq, cf, ct, data⟩ k d cnt S.cells pre := ⟨_, rfl⟩
    rw [← hL] at hCI hLl HSN
    clear hL
    obtain ⟨j, hj⟩ : ∃ j, j = d + x.val := ⟨_, rfl⟩
    have hjL : j < L.length := by have := x.isLt; omega
    obtain ⟨ct0, cm0⟩ := hCI.st.row j hjL
    have cmk := cm0 k
    have hxl := x.isLt
    have hkl := k.isLt
    simp only [StD.put] at ct0 cmk
    have q0 : W.cell? ⟨B3, 0, none⟩ = some (.int .i64 op) := by rw [cell_of_row _ _ _ _ _ _ hb3]; rfl
    have q1 : W.cell? ⟨B3, 1, none⟩ = some (.int .i64 k.val) := by rw [cell_of_row _ _ _ _ _ _ hb3]; rfl
    have q2 : W.cell? ⟨B3, 2, none⟩ = some (.int .i64 seq) := by rw [cell_of_row _ _ _ _ _ _ hb3]; rfl
    have q5 : W.cell? ⟨B3, 5, none⟩ = some (.slice ua data.length uc) := by rw [cell_of_row _ _ _ _ _ _ hb3]; rfl
    have fz := hCI.st.unfrozen
    have HCI := hid hCI
    have HLOW := hid hlow
    have HB3c := hid hb3
    have HFZ := hid fz
    clear hCI hlow hb3 cm0 fz
    simp only
    rw [← hj]
    have HJ := hid hj
    clear hj
    obtain ⟨m, hm⟩ : ∃ m, m = L[j].m k := ⟨_, rfl⟩
    rw [← hm] at cmk
    have HM := hid hm
    clear hm
    have kn0 : (0 : Int) ≤ (k.val : Int) ∧ (k.val : Int) < 4 := by omega
    by_cases hms : seq ≤ m
    · have hd : decide (seq ≤ m) = true := decide_eq_true hms
      gi_wp2
      refine region_quiet_round y rfl (by kernel_rfl) (by kernel_rfl) (by kernel_rfl) ?_
      repeat (gi_big_quiet_step (fail))
      refine wpQuietIn_nil ?_
      intro W' hw'
      obtain ⟨nq, rfl⟩ := hw'
      gi_wp2
      refine ⟨(keeps_below (belowN W nq)).from _, fun _ _ => rfl, ?_⟩
      show CI w5 b g (S.put (chF ⟨op, k.val, seq, cf, ct, data⟩ k d cnt S.cells (pre ++ [x]))) (W.drewN nq)
      rw [HSN.out]
      have e : chStep ⟨op, k.val, seq, cf, ct, data⟩ k d cnt L x = L := by
        unfold chStep
        rw [← HJ.out]
        have e1 : L.getD j zeroC = L[j] := by simp [List.getD, List.getElem?_eq_getElem hjL]
        rw [e1, chC, if_pos (by rw [← HM.out]; exact hms)]
        simp
      rw [e]
      exact HCI.out.later (belowN W nq)
    · have hd : decide (seq ≤ m) = false := decide_eq_false hms
      gi_wp2
      refine region_quiet_round y rfl (by kernel_rfl) (by kernel_rfl) (by kernel_rfl) ?_
      repeat (gi_big_quiet_step (fail))
      refine wpQuietIn_nil ?_
      intro W' hw'
      obtain ⟨nq, rfl⟩ := hw'
      gi_wp2
      obtain ⟨W1, hW1⟩ : ∃ W1, W1 = W.drewN nq := ⟨_, rfl⟩
      have b1 : Below W.heap.size W W1 := by rw [hW1]; exact belowN W nq
      rw [← hW1]
      clear hW1
      have C1 := hid (HCI.out.later b1)
      have K1 := hid (keeps_below b1)
      have hb31 := (b1.block B3 (lt_of_block HB3c.out)).trans HB3c.out
      have p1 : W1.cell? ⟨B3, 1, none⟩ = some (.int .i64 k.val) := by rw [cell_of_row _ _ _ _ _ _ hb31]; rfl
      have p2 : W1.cell? ⟨B3, 2, none⟩ = some (.int .i64 seq) := by rw [cell_of_row _ _ _ _ _ _ hb31]; rfl
      have HB31 := hid hb31
      have HB1 := hid b1
      have hS1 : ∀ X : World, X.heap[B3]? = W1.heap[B3]? → X.cell? ⟨B3, 1, none⟩ = some (.int .i64 k.val) ∧ X.cell? ⟨B3, 2, none⟩ = some (.int .i64 seq) := fun X hX => ⟨(World.cell?_of_block (a := ⟨B3, 1, none⟩) hX).trans p1, (World.cell?_of_block (a := ⟨B3, 2, none⟩) hX).trans p2⟩
      have HS1 := hid hS1
      have cmk1 := cell_later b1 cmk
      have fzk : W1.drew.frozen? ⟨g, j * 5 + 1 + k.val, none⟩ = false := C1.out.st.unfrozen _
      have cmkd : W1.drew.cell? ⟨g, j * 5 + 1 + k.val, none⟩ = some (.int .i64 m) := cmk1
      have hgB3 : B3 ≠ g := by omega
      clear b1 hb31 hS1 q0 q1 q2 q5 ct0 cmk cmk1
      refine region_held_round (S := fun X => X.cell? ⟨B3, 1, none⟩ = some (.int .i64 k.val) ∧ X.cell? ⟨B3, 2, none⟩ = some (.int .i64 seq)) y (by rintro ⟨_, _, h⟩; exact h) (by kernel_rfl) (by kernel_rfl) (HS1.out _ rfl) (fun hHeld => ?_)
      refine wpAnyH_take (i := 0) (v := ?rv0) rfl (by kernel_rfl) (by kernel_rfl) (by kernel_rfl) (fun _ _ _ h => h) (Or.inl ⟨by rfl, ?ry0⟩) (by assumption) ?rr0
      case ry0 => (intro w hSw; (try dsimp only at hSw); go_simp; try with_reducible rfl)
      (try simp only [Act.put, List.setIfInBounds_toArray, List.set_cons_zero, List.set_cons_succ, List.getElem_toArray, List.getElem_cons_succ, List.getElem_cons_zero])
      refine wpAnyH_take (i := 1) (v := ?rv1) rfl (by kernel_rfl) (by kernel_rfl) (by kernel_rfl) (fun _ _ _ h => h) (Or.inl ⟨by rfl, ?ry1⟩) (by assumption) ?rr1
      case ry1 => (intro w hSw; (try dsimp only at hSw); go_simp; try with_reducible rfl)
      (try simp only [Act.put, List.setIfInBounds_toArray, List.set_cons_zero, List.set_cons_succ, List.getElem_toArray, List.getElem_cons_succ, List.getElem_cons_zero])
      refine wpAnyH_take (i := 2) (v := ?rv2) rfl (by kernel_rfl) (by kernel_rfl) (by kernel_rfl) (fun _ _ _ h => h) (Or.inl ⟨by rfl, ?ry2⟩) (by assumption) ?rr2
      case ry2 => (intro w hSw; (try dsimp only at hSw); go_simp; try with_reducible rfl)
      (try simp only [Act.put, List.setIfInBounds_toArray, List.set_cons_zero, List.set_cons_succ, List.getElem_toArray, List.getElem_cons_succ, List.getElem_cons_zero])
      refine wpAnyH_take (i := 3) (v := ?rv3) rfl (by kernel_rfl) (by kernel_rfl) (by kernel_rfl) (fun _ _ _ h => h) (Or.inl ⟨by rfl, ?ry3⟩) (by assumption) ?rr3
      case ry3 => (intro w hSw; (try dsimp only at hSw); go_simp; try with_reducible rfl)
      (try simp only [Act.put, List.setIfInBounds_toArray, List.set_cons_zero, List.set_cons_succ, List.getElem_toArray, List.getElem_cons_succ, List.getElem_cons_zero])
      refine wpAnyH_take (i := 4) (v := ?rv4) rfl (by kernel_rfl) (by kernel_rfl) (by kernel_rfl) (fun _ _ _ h => h) (Or.inl ⟨by rfl, ?ry4⟩) (by assumption) ?rr4
      case ry4 => (intro w hSw; (try dsimp only at hSw); go_simp; try with_reducible rfl)
      (try simp only [Act.put, List.setIfInBounds_toArray, List.set_cons_zero, List.set_cons_succ, List.getElem_toArray, List.getElem_cons_succ, List.getElem_cons_zero])
      refine wpAnyH_take (i := 5) (v := ?rv5) rfl (by kernel_rfl) (by kernel_rfl) (by kernel_rfl) (fun _ _ _ h => h) (Or.inl ⟨by rfl, ?ry5⟩) (by assumption) ?rr5
      case ry5 => (intro w hSw; (try dsimp only at hSw); go_simp; try with_reducible rfl)
      (try simp only [Act.put, List.setIfInBounds_toArray, List.set_cons_zero, List.set_cons_succ, List.getElem_toArray, List.getElem_cons_succ, List.getElem_cons_zero])
      refine wpAnyH_take (i := 6) (v := ?rv6) rfl (by kernel_rfl) (by kernel_rfl) (by kernel_rfl) (fun _ _ _ h => h) (Or.inl ⟨by rfl, ?ry6⟩) (by assumption) ?rr6
      case ry6 => (intro w hSw; (try dsimp only at hSw); go_simp; try with_reducible rfl)
      (try simp only [Act.put, List.setIfInBounds_toArray, List.set_cons_zero, List.set_cons_succ, List.getElem_toArray, List.getElem_cons_succ, List.getElem_cons_zero])
      refine wpAnyH_take (i := 7) (v := ?rv7) rfl (by kernel_rfl) (by kernel_rfl) (by kernel_rfl) (fun _ _ _ h => h) (Or.inl ⟨by rfl, ?ry7⟩) (by assumption) ?rr7
      case ry7 => (intro w hSw; (try dsimp only at hSw); go_simp; try with_reducible rfl)
      (try simp only [Act.put, List.setIfInBounds_toArray, List.set_cons_zero, List.set_cons_succ, List.getElem_toArray, List.getElem_cons_succ, List.getElem_cons_zero])
      refine wpAnyH_ready (rs := [8]) (by kernel_rfl) (by simp) ?_
      refine AllReadyH.cons rfl (fun K hK => ?_) AllReadyH.nil
      rw [if_pos (by rfl)]
      go_simp
      refine hK.out _ _ (HS1.out _ (Below.heap_setCell _ ⟨g, j * 5 + 1 + k.val, none⟩ _ B3 hgB3)) (fun hHeld => ?_)
      try clear hK K
      (try simp only [Act.put, List.setIfInBounds_toArray, List.set_cons_zero, List.set_cons_succ, List.getElem_toArray, List.getElem_cons_succ, List.getElem_cons_zero])
      refine wpAnyH_done (by kernel_rfl) ?_ _
      obtain ⟨W2, hW2⟩ : ∃ W2, W2 = (W1.setCell ⟨g, j * 5 + 1 + k.val, none⟩ (.int .i64 seq)).drew := ⟨_, rfl⟩
      have C2 : Hid (CI w5 b g (S.put (L.set j (setMark L[j] k seq))) W2) := hid (by rw [hW2]; exact (C1.out.mark j hjL k seq).drew)
      have K2 : Hid (KeepsOthers W W2) := hid (K1.out.trans (by rw [hW2]; exact (KeepsOthers.setCell _ _ _).trans (KeepsOthers.drew _)))
      have hb32 : W2.heap[B3]? = W1.heap[B3]? := by rw [hW2]; exact Below.heap_setCell W1 ⟨g, j * 5 + 1 + k.val, none⟩ _ B3 hgB3
      rw [← hW2]
      have H32 := hid (hb32.trans HB31.out)
      clear hW2 hb32 p1 p2 fzk cmkd
      have q0 : W2.cell? ⟨B3, 0, none⟩ = some (.int .i64 op) := by rw [cell_of_row _ _ _ _ _ _ H32.out]; rfl
      have hjL2 : j < (L.set j (setMark L[j] k seq)).length := by simpa using hjL
      obtain ⟨ct2, -⟩ := C2.out.st.row j hjL2
      simp only [StD.put] at ct2
      have f2 := C2.out.st.unfrozen (j * 5)
      have HE : Hid (∀ s : ByteArray, (s = if op = 2 then data.getD x.val ⟨#[]⟩ else ⟨#[]⟩) → chStep ⟨op, k.val, seq, cf, ct, data⟩ k d cnt L x = L.set j { text := s, m := fun i => if i = k then seq else L[j].m i }) := hid (by
        intro s hs
        unfold chStep
        rw [← HJ.out]
        have e1 : L.getD j zeroC = L[j] := by simp [List.getD, List.getElem?_eq_getElem hjL]
        rw [e1, chC, if_neg (by rw [← HM.out]; show ¬ seq ≤ m; omega), hs])
      by_cases hop : op = 2
      · have hopb : (op == 2) = true := by simpa using hop
        have hxd : x.val < data.length := by rw [HDL.out hop]; exact hxl
        have HS3 := hid (HE.out data[x.val] (by rw [if_pos hop]; simp [List.getD, List.getElem?_eq_getElem hxd]))
        obtain ⟨gd, od, rfl⟩ := U5.out.addr (by omega)
        have cd0 := U5.out.lit x.val hxd
        have hgd : gd ≠ g := HUG.out _ rfl (by show 0 < data.length; omega)
        have hgdl := World.block_lt_of_cell? _ _ cd0
        clear hop HE
        have cd2 : W2.cell? ⟨gd, od + x.val, none⟩ = some (.string data[x.val]) := (World.cell?_of_block (a := ⟨gd, od + x.val, none⟩) (C2.out.grown.block gd hgdl (fun e => hgd (Option.some.inj e)))).trans cd0
        obtain ⟨W3, hW3⟩ : ∃ W3, W3 = W2.setCell ⟨g, j * 5, none⟩ (.string ⟨#[]⟩) := ⟨_, rfl⟩
        have hC3 := C2.out.text j hjL2 ⟨#[]⟩
        rw [set_two L j hjL k seq, ← hW3] at hC3
        have hb33 : W3.heap[B3]? = W2.heap[B3]? := by rw [hW3]; exact Below.heap_setCell W2 ⟨g, j * 5, none⟩ _ B3 hgB3
        have hgd3 : W3.heap[gd]? = W2.heap[gd]? := by rw [hW3]; exact Below.heap_setCell W2 ⟨g, j * 5, none⟩ _ gd hgd
        have H33 := hid (hb33.trans H32.out)
        have r0 : W3.cell? ⟨B3, 0, none⟩ = some (.int .i64 op) := by rw [cell_of_row _ _ _ _ _ _ H33.out]; rfl
        have r5 : W3.cell? ⟨B3, 5, none⟩ = some (.slice (some ⟨gd, od, none⟩) data.length uc) := by rw [cell_of_row _ _ _ _ _ _ H33.out]; rfl
        have cd3 := (World.cell?_of_block (a := ⟨gd, od + x.val, none⟩) hgd3).trans cd2
        have C3 := hid hC3
        have hjL3 : j < (L.set j ({ text := ⟨#[]⟩, m := fun i => if i = k then seq else L[j].m i } : CellD)).length := by simpa using hjL
        obtain ⟨ct3, -⟩ := C3.out.st.row j hjL3
        simp only [StD.put] at ct3
        have f3 := C3.out.st.unfrozen (j * 5)
        have hxi : 0 ≤ (x.val : Int) ∧ (x.val : Int) < (data.length : Int) := by omega
        have HW3 := hid hW3
        clear hC3 hb33 hgd3 cd0 cd2
        rw [hW3] at r0 r5 cd3 ct3 f3
        clear hW3
        gi_wp2
        rw [← HW3.out]
        refine ⟨(K2.out.trans (by rw [HW3.out]; exact (KeepsOthers.setCell _ _ _).trans (KeepsOthers.setCell _ _ _))).from _, ?_, ?_⟩
        · intro q hq
          have hqg : q ≠ g ∧ q < w5.heap.size := by
            simp only [List.mem_cons, List.not_mem_nil, or_false] at hq
            rcases hq with rfl | rfl | rfl <;> omega
          rw [Below.heap_setCell W3 ⟨g, j * 5, none⟩ _ q hqg.1, C3.out.grown.block q hqg.2 (fun e => hqg.1 (Option.some.inj e)), HLOW.out q hqg.2 hqg.1]
        · show CI w5 b g (S.put (chF ⟨op, k.val, seq, cf, ct, data⟩ k d cnt S.cells (pre ++ [x]))) _
          rw [HSN.out, HS3.out]
          have := C3.out.text j hjL3 data[x.val]
          rw [set_three L j hjL] at this
          exact this
      · have hopb : (op == 2) = false := by simpa using hop
        have HS3 := hid (HE.out ⟨#[]⟩ (by rw [if_neg hop]))
        clear hop HE
        obtain ⟨W3, hW3⟩ : ∃ W3, W3 = W2.setCell ⟨g, j * 5, none⟩ (.string ⟨#[]⟩) := ⟨_, rfl⟩
        have hC3 := C2.out.text j hjL2 ⟨#[]⟩
        rw [set_two L j hjL k seq, ← hW3] at hC3
        have hb33 : W3.heap[B3]? = W2.heap[B3]? := by rw [hW3]; exact Below.heap_setCell W2 ⟨g, j * 5, none⟩ _ B3 hgB3
        have H33 := hid (hb33.trans H32.out)
        have r0 : W3.cell? ⟨B3, 0, none⟩ = some (.int .i64 op) := by rw [cell_of_row _ _ _ _ _ _ H33.out]; rfl
        have C3 := hid hC3
        have HW3 := hid hW3
        rw [hW3] at r0
        clear hC3 hb33 hW3
        gi_wp2
        rw [← HW3.out]
        refine ⟨(K2.out.trans (by rw [HW3.out]; exact KeepsOthers.setCell _ _ _)).from _, ?_, ?_⟩
        · intro q hq
          have hqg : q ≠ g ∧ q < w5.heap.size := by
            simp only [List.mem_cons, List.not_mem_nil, or_false] at hq
            rcases hq with rfl | rfl | rfl <;> omega
          rw [C3.out.grown.block q hqg.2 (fun e => hqg.1 (Option.some.inj e)), HLOW.out q hqg.2 hqg.1]
        · show CI w5 b g (S.put (chF ⟨op, k.val, seq, cf, ct, data⟩ k d cnt S.cells (pre ++ [x]))) _
          rw [HSN.out, HS3.out]
          exact C3.out
  intro D ys W hD hys hCI hK
  rw [hys] at hCI
  have hDl := lt_of_block hK
  have HC := hid hCI
  have HK := hid hK
  clear hys hCI hK
  go_wp2_with fail
  have gp := grownBy_putObj' W D (.deferred none)
  have rp : ∀ r, some D = some r → w5.heap.size ≤ r ∧ ∃ o : Obj, W.heap[r]? = some o ∧ o.isCells = false := fun r e => by cases e; exact ⟨hD, _, HK.out, rfl⟩
  have C9 := HC.out.turned gp rp
  refine ⟨by simp, .inl ⟨_, _, rfl, run_takeDeferred HK.out, _, results_none rfl _ _ _, rfl, C9.st, ?_, ?_⟩⟩
  · exact ⟨C9.grown.os.trans BW5.out.os, C9.grown.tape.trans BW5.out.tape, C9.grown.output.trans BW5.out.output, Nat.le_trans BW5.out.size C9.grown.size, fun q hq hne' => (C9.grown.block q (Nat.lt_of_lt_of_le hq BW5.out.size) hne').trans (BW5.out.block q hq)⟩
  · refine K5.out.trans (KeepsOthers.of_grownBy C9.grown fun j o hj hoj => ?_)
    cases hj
    obtain ⟨_, cap', _, _, e3⟩ := St5.out
    rcases e3 with ⟨e4, _⟩ | ⟨g', c, cur, e, a1, hh, r⟩
    · cases e4
    · cases e; rw [hh] at hoj; cases hoj; rfl
end Go.Proofs.Ytabmnelenfghhaa
