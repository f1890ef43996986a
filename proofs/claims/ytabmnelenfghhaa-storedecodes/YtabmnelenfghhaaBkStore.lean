/- Stores in memory; what New, Span, Frozen, Block and Mark answer. Conditions: the store lies in memory. -/
import Derived.Test.YtabmnelenfghhaaBkMay
import Derived.Laws.MakeOwn
import Derived.Laws.ResultCell
import Derived.Maps.AppendAt
namespace Go.Proofs.Ytabmnelenfghhaa
open Go.RowKit

/-- What is kept of a block. -/
structure CellD where
  text : ByteArray
  m : Fin 4 → Int
/-- A cell's cells. -/
def c5 (c : CellD) : List Value := [.string c.text, .int .i64 (c.m 0), .int .i64 (c.m 1), .int .i64 (c.m 2), .int .i64 (c.m 3)]
def flat5 (l : List CellD) : List Value := l.flatMap c5
theorem flat5_cons (x : CellD) (l : List CellD) : flat5 (x :: l) = .string x.text :: .int .i64 (x.m 0) :: .int .i64 (x.m 1) :: .int .i64 (x.m 2) :: .int .i64 (x.m 3) :: flat5 l := rfl
theorem flat5_append (a b : List CellD) : flat5 (a ++ b) = flat5 a ++ flat5 b := List.flatMap_append
theorem flat5_len (l : List CellD) : (flat5 l).length = l.length * 5 := by
  induction l with
  | nil => rfl
  | cons x l ih => rw [flat5_cons]; simp [ih]; omega
theorem flat5_one (l : List CellD) : ∀ u ∈ flat5 l, u.oneCell' = true := by
  induction l with
  | nil => intro u hu; cases hu
  | cons x l ih =>
    intro u hu
    rw [flat5_cons] at hu
    simp only [List.mem_cons] at hu
    rcases hu with rfl | rfl | rfl | rfl | rfl | hu
    all_goals first | rfl | exact ih u hu
theorem flat5_at (l : List CellD) (j : Nat) (h : j < l.length) : (flat5 l)[j * 5]? = some (.string l[j].text) ∧ ∀ k : Fin 4, (flat5 l)[j * 5 + 1 + k.val]? = some (.int .i64 (l[j].m k)) := by
  induction l generalizing j with
  | nil => cases h
  | cons x l ih =>
    cases j with
    | zero =>
      refine ⟨rfl, fun k => ?_⟩
      match k with
      | ⟨0, _⟩ => rfl
      | ⟨1, _⟩ => rfl
      | ⟨2, _⟩ => rfl
      | ⟨3, _⟩ => rfl
    | succ j =>
      have := ih j (by simpa using h)
      rw [flat5_cons, show (j + 1) * 5 = j * 5 + 1 + 1 + 1 + 1 + 1 from by omega]
      refine ⟨by simpa using this.1, fun k => ?_⟩
      rw [show j * 5 + 1 + 1 + 1 + 1 + 1 + 1 + k.val = (j * 5 + 1 + k.val) + 1 + 1 + 1 + 1 + 1 from by omega]
      simpa using this.2 k
def setText (c : CellD) (s : ByteArray) : CellD := { c with text := s }
def setMark (c : CellD) (k : Fin 4) (n : Int) : CellD := { c with m := fun i => if i = k then n else c.m i }
theorem flat5_text (l : List CellD) (j : Nat) (h : j < l.length) (s : ByteArray) : (flat5 l).set (j * 5) (.string s) = flat5 (l.set j (setText l[j] s)) := by
  induction l generalizing j with
  | nil => cases h
  | cons x l ih =>
    cases j with
    | zero => rfl
    | succ j =>
      have := ih j (by simpa using h)
      rw [flat5_cons, show (j + 1) * 5 = j * 5 + 1 + 1 + 1 + 1 + 1 from by omega]
      simp only [List.set_cons_succ, this]
      rfl
theorem flat5_mark (l : List CellD) (j : Nat) (h : j < l.length) (k : Fin 4) (n : Int) : (flat5 l).set (j * 5 + 1 + k.val) (.int .i64 n) = flat5 (l.set j (setMark l[j] k n)) := by
  induction l generalizing j with
  | nil => cases h
  | cons x l ih =>
    cases j with
    | zero =>
      match k with
      | ⟨0, _⟩ => rfl
      | ⟨1, _⟩ => rfl
      | ⟨2, _⟩ => rfl
      | ⟨3, _⟩ => rfl
    | succ j =>
      have := ih j (by simpa using h)
      rw [flat5_cons, show (j + 1) * 5 + 1 + k.val = (j * 5 + 1 + k.val) + 1 + 1 + 1 + 1 + 1 from by omega]
      simp only [List.set_cons_succ, this]
      rfl
theorem Try.underlyingCs : Try.prog.underlying 89 = some (.slice 100) := by kernel_rfl
def zeroV : Value := .agg #[.string ⟨#[]⟩, .int .i64 0, .int .i64 0, .int .i64 0, .int .i64 0]
theorem Try.infoCe : (Try.prog.info? 100).map (fun i => (i.zero, i.size, i.bytes)) = some (some zeroV, 5, 48) := by kernel_rfl
def zeroC : CellD := ⟨⟨#[]⟩, fun _ => 0⟩
theorem made5 (n : Nat) : (madeCells zeroV.cells (n * 5)).toList = flat5 (List.replicate n zeroC) := by
  apply List.ext_getElem?
  intro j
  by_cases hj : j < n * 5
  · have hl : (madeCells zeroV.cells (n * 5)).toList[j]? = some (zeroV.cells[j % 5]!) := by
      simp [madeCells, hj, zeroV, Value.cells]
    rw [hl]
    have hd := flat5_at (List.replicate n zeroC) (j / 5) (by simp; omega)
    have h5 : j % 5 = 0 ∨ j % 5 = 1 ∨ j % 5 = 2 ∨ j % 5 = 3 ∨ j % 5 = 4 := by omega
    rcases h5 with h | h | h | h | h
    · have := hd.1; rw [show j / 5 * 5 = j from by omega] at this; rw [this, h]; simp [zeroV, Value.cells, zeroC]
    · have := hd.2 0; rw [show j / 5 * 5 + 1 + (0 : Fin 4).val = j from by show j / 5 * 5 + 1 + 0 = j; omega] at this; rw [this, h]; simp [zeroV, Value.cells, zeroC]
    · have := hd.2 1; rw [show j / 5 * 5 + 1 + (1 : Fin 4).val = j from by show j / 5 * 5 + 1 + 1 = j; omega] at this; rw [this, h]; simp [zeroV, Value.cells, zeroC]
    · have := hd.2 2; rw [show j / 5 * 5 + 1 + (2 : Fin 4).val = j from by show j / 5 * 5 + 1 + 2 = j; omega] at this; rw [this, h]; simp [zeroV, Value.cells, zeroC]
    · have := hd.2 3; rw [show j / 5 * 5 + 1 + (3 : Fin 4).val = j from by show j / 5 * 5 + 1 + 3 = j; omega] at this; rw [this, h]; simp [zeroV, Value.cells, zeroC]
  · rw [List.getElem?_eq_none (by simp [madeCells]; omega), List.getElem?_eq_none (by rw [flat5_len]; simp; omega)]
/-- A store: its span, whether it is frozen, its cells. -/
structure StD where
  from' : Int
  to : Int
  fr : Bool
  cells : List CellD
structure StI (S : StD) : Prop where
  f : 0 ≤ S.from'
  t : S.to ≤ 256
  ft : S.from' < S.to
  n : (S.cells.length : Int) = S.to - S.from'
/-- A store lies at block b, its cells at block g. -/
structure St (w : World) (b g : Nat) (S : StD) : Prop where
  i : StI S
  head : ∃ cap, w.heap[b]? = some (.cells #[.int .i64 S.from', .int .i64 S.to, .bool S.fr, .slice (some ⟨g, 0, none⟩) S.cells.length cap] 91 (0, 0)) ∧ w.ownsRow 0 100 5 (.slice (some ⟨g, 0, none⟩) S.cells.length cap) S.cells.length (flat5 S.cells)
theorem St.cellsAt {w : World} {b g : Nat} {S : StD} (h : St w b g S) : w.cell? ⟨b, 0, none⟩ = some (.int .i64 S.from') ∧ w.cell? ⟨b, 1, none⟩ = some (.int .i64 S.to) ∧ w.cell? ⟨b, 2, none⟩ = some (.bool S.fr) ∧ ∃ cap, w.cell? ⟨b, 3, none⟩ = some (.slice (some ⟨g, 0, none⟩) S.cells.length cap) := by
  obtain ⟨cap, h1, h2⟩ := h.head
  refine ⟨?_, ?_, ?_, cap, ?_⟩ <;> (rw [cell_of_row _ _ _ _ _ _ h1]; rfl)
theorem St.row {w : World} {b g : Nat} {S : StD} (h : St w b g S) (j : Nat) (hj : j < S.cells.length) : w.cell? ⟨g, j * 5, none⟩ = some (.string S.cells[j].text) ∧ ∀ k : Fin 4, w.cell? ⟨g, j * 5 + 1 + k.val, none⟩ = some (.int .i64 (S.cells[j].m k)) := by
  obtain ⟨cap, h1, h2⟩ := h.head
  have e := flat5_at S.cells j hj
  refine ⟨?_, fun k => ?_⟩
  · have := h2.cells (g := g) rfl _ _ e.1; rw [Addr.add_lit] at this; simpa using this
  · have := h2.cells (g := g) rfl _ _ (e.2 k); rw [Addr.add_lit] at this; simpa using this
theorem St.lt {w : World} {b g : Nat} {S : StD} (h : St w b g S) : b < w.heap.size ∧ g < w.heap.size ∧ b ≠ g := by
  obtain ⟨cap, h1, h2⟩ := h.head
  refine ⟨lt_of_block h1, (World.ownsRow.lt h2 g rfl).2, ?_⟩
  rintro rfl
  obtain ⟨h3, h4⟩ := h2
  rcases h4 with ⟨h5, _⟩ | ⟨g, c, cur, e, _, hh, _⟩
  · cases h5
  · cases e
    rw [h1] at hh
    cases hh
theorem St.kept {w w' : World} {b g : Nat} {S : StD} (h : St w b g S) (h1 : w'.heap[b]? = w.heap[b]?) (h2 : w'.heap[g]? = w.heap[g]?) : St w' b g S := by
  obtain ⟨i, cap, e1, e2, e3⟩ := h
  refine ⟨i, cap, by rw [h1]; exact e1, e2, ?_⟩
  rcases e3 with ⟨e4, _⟩ | ⟨g', c, cur, e, a1, hh, r⟩
  · cases e4
  · cases e
    exact .inr ⟨g, cap, cur, rfl, a1, by rw [h2]; exact hh, r⟩
theorem St.below {w w' : World} {b g : Nat} {S : StD} (h : St w b g S) (hb : Below w.heap.size w w') : St w' b g S := h.kept (hb.block b h.lt.1) (hb.block g h.lt.2.1)
set_option maxRecDepth 100000 in
set_option maxHeartbeats 3200000 in
theorem new_no (x : Sp) (w : World) (hm : mayBeB x = false) :
    Calls Try.prog 24 #[.agg #[.int .i64 x.1, .int .i64 x.2]] w fun e w' => e = .returned (.tuple #[.pointer none, .int .i64 1]) ∧ Below w.heap.size w w' := by
  obtain ⟨f, t⟩ := x
  have B0 := hid ((Below.refl w.heap.size w).alloc (Nat.le_refl _) (.cells #[.int .i64 f, .int .i64 t] 42))
  go_enter Try.func24, Try.ntmps24
  go_wp2_with (first | (go_at_call 46; refine (mayBe_any (f, t) _).mono ?_; rintro e w2 ⟨rfl, hb2⟩; rw [hm]; have B2 := hid (B0.out.trans (hb2.mono B0.out.size)); clear hb2))
  go_ret2
  exact ⟨rfl, B2.out⟩
set_option maxRecDepth 100000 in
set_option maxHeartbeats 3200000 in
theorem new_yes (x : Sp) (w : World) (hm : mayBeB x = true) :
    Calls Try.prog 24 #[.agg #[.int .i64 x.1, .int .i64 x.2]] w fun e w' => ∃ b g, e = .returned (.tuple #[.pointer (some ⟨b, 0, none⟩), .int .i64 0]) ∧ w.heap.size ≤ b ∧ w.heap.size ≤ g ∧ St w' b g ⟨x.1, x.2, false, List.replicate (x.2 - x.1).toNat zeroC⟩ ∧ Below w.heap.size w w' := by
  obtain ⟨f, t⟩ := x
  have hb3 : 0 ≤ f ∧ t ≤ 256 ∧ f < t := by unfold mayBeB at hm; simp at hm; omega
  have B0 := hid ((Below.refl w.heap.size w).alloc (Nat.le_refl _) (.cells #[.int .i64 f, .int .i64 t] 42))
  have HN := hid (heap_alloc_new w (.cells #[.int .i64 f, .int .i64 t] 42))
  obtain ⟨n, hn⟩ : ∃ n : Nat, t - f = n := ⟨(t - f).toNat, by omega⟩
  have hwr : IntKind.i64.wrap (t - f) = (n : Int) := by rw [IntWalk.i64_in _ ⟨by omega, by omega⟩]; exact hn
  obtain ⟨i, hi, hz0, hz1, hz2⟩ := info_parts Try.infoCe
  have hmk : ∀ W : World, (Instr.makeSlice 89 (.int .i64 (n : Int)) (.int .i64 (n : Int))).run Try.prog W = .ok (.slice (some ⟨W.heap.size, 0, none⟩) n n) (W.alloc (.cells (madeCells zeroV.cells (n * 5)) 100)) := fun W => by
    have := run_make (P := Try.prog) W 89 100 i zeroV Try.underlyingCs hi hz0 .i64 .i64 n n (by omega) (by omega) (by rw [hz2]; omega) (by omega)
    simpa [hz1] using this
  have HST : Hid (∀ (W : World) (b : Nat), W.heap[b]? = some (.cells #[.int .i64 f, .int .i64 t, .bool false, .slice (some ⟨b - 1, 0, none⟩) n n] 91 (0, 0)) → 0 < b → W.heap[b - 1]? = some (.cells (madeCells zeroV.cells (n * 5)) 100 (0, 0)) → St W b (b - 1) ⟨f, t, false, List.replicate (t - f).toNat zeroC⟩) := hid (by
    intro W b h1 h0 h2
    have hnn : (t - f).toNat = n := by omega
    rw [hnn]
    refine ⟨⟨hb3.1, hb3.2.1, hb3.2.2, by simp; omega⟩, n, by simpa using h1, ?_⟩
    refine ⟨by rw [flat5_len], .inr ⟨b - 1, n, _, by simp, Nat.zero_le _, h2, by simp, by unfold maxLen; omega, by simp [size_madeCells], ?_⟩⟩
    rw [made5]
    exact List.take_of_length_le (by rw [flat5_len]; exact Nat.le_refl _))
  clear hi hz0 hz1 hz2 i hn
  generalize zeroV.cells = zc at hmk HST
  go_enter Try.func24, Try.ntmps24
  go_wp2_with (first | (go_at_call 46; refine (mayBe_any (f, t) _).mono ?_; rintro e w2 ⟨rfl, hb2⟩; rw [hm]; have hk := (hb2.block w.heap.size (by simp)).trans HN.out; have c0 : w2.cell? ⟨w.heap.size, 0, none⟩ = some (.int .i64 f) := (by rw [cell_of_row _ _ _ _ _ _ hk]; rfl); have c1 : w2.cell? ⟨w.heap.size, 1, none⟩ = some (.int .i64 t) := (by rw [cell_of_row _ _ _ _ _ _ hk]; rfl); have B2 := hid (B0.out.trans (hb2.mono B0.out.size)); clear hb2 hk))
  have SW : Hid (∀ X, Below w2.heap.size w2 X → X.cell? ⟨w.heap.size, 0, none⟩ = some (.int .i64 f) ∧ X.cell? ⟨w.heap.size, 1, none⟩ = some (.int .i64 t)) := hid fun X hX => ⟨cell_later hX c0, cell_later hX c1⟩
  clear c0 c1
  go_region_held3 (fun X => X.cell? ⟨w.heap.size, 0, none⟩ = some (.int .i64 f) ∧ X.cell? ⟨w.heap.size, 1, none⟩ = some (.int .i64 t)) (first | exact SW.out _ ((Below.refl _ _).drew) | exact SW.out _ (((Below.refl _ _).alloc (Nat.le_refl _) _).drew) | exact SW.out _ ((((Below.refl _ _).alloc (Nat.le_refl _) _).alloc (by simp) _).drew)) (fail)
  go_wp2_with fail
  go_ret2
  have hs2 := B2.out.size
  refine ⟨w2.heap.size + 1, w2.heap.size, rfl, by omega, hs2, ?_, ((B2.out.alloc hs2 _).alloc (by simp; omega) _).drew⟩
  exact HST.out _ (w2.heap.size + 1) (heap_alloc2_new w2 _ _) (by omega) (by show ((w2.alloc _).alloc _).heap[w2.heap.size]? = _; rw [Below.heap_alloc _ _ _ (by simp)]; exact heap_alloc_new _ _)
theorem Try.structCe0 : (Try.prog.underlying 100).map (fun d => match d with | .struct _ | .array _ _ => true | _ => false) = some true := by kernel_rfl
theorem Try.structCe : ∃ d, Try.prog.underlying 100 = some d ∧ (match d with | .struct _ | .array _ _ => true | _ => false) = true := by
  have h := Try.structCe0
  cases hd : Try.prog.underlying 100 with
  | none => rw [hd] at h; cases h
  | some d => rw [hd] at h; exact ⟨d, rfl, by simpa using h⟩
theorem Try.sizeCe : (Try.prog.info? 100).map (·.size) = some 5 := by kernel_rfl
def isAgg (d : TypeDesc) : Bool := match d with | .struct _ | .array _ _ => true | _ => false
/-- Two results, the first one a struct that lies in a block. -/
theorem results_pair {fn : Func} {p q : Tmp} {ty : TypeId} (h : fn.results = #[.cell p ty, .tmp q]) (tmps : Array Value) (w : World) (g : Nat) (t : TypeId) (cs : Array Value) (fr : Nat × Nat) (d : TypeDesc)
    (hp : tmps.getD p undef = .pointer (some ⟨g, 0, none⟩)) (hg : w.heap[g]? = some (.cells cs t fr))
    (hd : isAgg d = true) (hu : Try.prog.underlying ty = some d) (hi : (Try.prog.info? ty).map (·.size) = some cs.size) :
    (results fn tmps).run Try.prog w = .ok (.tuple #[.agg cs, tmps.getD q undef]) w := by
  have hp' : tmps[p]?.getD undef = .pointer (some ⟨g, 0, none⟩) := by simpa using hp
  have hl := run_loadVar_row w g t ty cs fr d hg hu (by cases d <;> first | rfl | (simp [isAgg] at hd)) hi
  simp [results, h, hp', asAddr, hl]
theorem results_cell5 {fn : Func} {p q : Tmp} (h : fn.results = #[.cell p 100, .tmp q]) (tmps : Array Value) (w : World) (g : Nat) (t : TypeId) (v0 v1 v2 v3 v4 : Value) (fr : Nat × Nat)
    (hp : tmps.getD p undef = .pointer (some ⟨g, 0, none⟩)) (hg : w.heap[g]? = some (.cells #[v0, v1, v2, v3, v4] t fr)) : (results fn tmps).run Try.prog w = .ok (.tuple #[.agg #[v0, v1, v2, v3, v4], tmps.getD q undef]) w := by
  obtain ⟨d, hd1, hd2⟩ := Try.structCe
  exact results_pair h tmps w g t _ fr d hp hg hd2 hd1 Try.sizeCe
def cellV (c : CellD) : Value := .agg #[.string c.text, .int .i64 (c.m 0), .int .i64 (c.m 1), .int .i64 (c.m 2), .int .i64 (c.m 3)]
set_option maxRecDepth 100000 in
set_option maxHeartbeats 1600000 in
theorem cell_nil (k : Int) (w : World) :
    Calls Try.prog 65 #[.pointer none, .int .i64 k] w fun e w' => e = .returned (.tuple #[cellV zeroC, .int .i64 8]) ∧ Below w.heap.size w w' := by
  go_enter Try.func65, Try.ntmps65
  go_wp2_with fail
  (try simp only [Exit.inBlock, Exit.then])
  refine bodyPost_ret (results_cell5 rfl _ _ w.heap.size _ _ _ _ _ _ _ rfl (heap_alloc_new _ _)) rfl ?_
  exact ⟨rfl, (Below.refl _ _).alloc (Nat.le_refl _) _⟩
set_option maxRecDepth 100000 in
set_option maxHeartbeats 1600000 in
theorem cell_out (b g : Nat) (S : StD) (k : Int) (w : World) (hS : St w b g S) (hk : k < S.from' ∨ S.to ≤ k) :
    Calls Try.prog 65 #[.pointer (some ⟨b, 0, none⟩), .int .i64 k] w fun e w' => e = .returned (.tuple #[cellV zeroC, .int .i64 9]) ∧ Below w.heap.size w w' := by
  have bA : Below w.heap.size w (w.alloc (.cells #[.string ⟨#[]⟩, .int .i64 0, .int .i64 0, .int .i64 0, .int .i64 0] 100)) := (Below.refl _ _).alloc (Nat.le_refl _) _
  obtain ⟨c0, c1, c2, cap, c3⟩ := (hS.below bA).cellsAt
  have B0 := hid bA
  obtain ⟨f, t, fr, cs⟩ := S
  simp only at hk c0 c1 c2 c3
  by_cases h1 : k < f
  · have hd : decide (k < f) = true := decide_eq_true h1
    clear hS bA hk
    go_enter Try.func65, Try.ntmps65
    go_wp2_with fail
    (try simp only [Exit.inBlock, Exit.then])
    refine bodyPost_ret (results_cell5 rfl _ _ w.heap.size _ _ _ _ _ _ _ rfl (heap_alloc_new _ _)) rfl ?_
    exact ⟨rfl, B0.out⟩
  · have hd : decide (k < f) = false := decide_eq_false h1
    have hd2 : decide (t ≤ k) = true := decide_eq_true (by omega)
    clear hS bA hk
    go_enter Try.func65, Try.ntmps65
    go_wp2_with fail
    (try simp only [Exit.inBlock, Exit.then])
    refine bodyPost_ret (results_cell5 rfl _ _ w.heap.size _ _ _ _ _ _ _ rfl (heap_alloc_new _ _)) rfl ?_
    exact ⟨rfl, B0.out⟩
set_option maxRecDepth 100000 in
set_option maxHeartbeats 3200000 in
theorem cell_in (b g : Nat) (S : StD) (j : Nat) (w : World) (hS : St w b g S) (hj : j < S.cells.length) :
    Calls Try.prog 65 #[.pointer (some ⟨b, 0, none⟩), .int .i64 (S.from' + j)] w fun e w' => e = .returned (.tuple #[cellV S.cells[j], .int .i64 0]) ∧ Below w.heap.size w w' := by
  have bA : Below w.heap.size w (w.alloc (.cells #[.string ⟨#[]⟩, .int .i64 0, .int .i64 0, .int .i64 0, .int .i64 0] 100)) := (Below.refl _ _).alloc (Nat.le_refl _) _
  have HSA := hid (hS.below bA)
  have hbl := hS.lt
  have hi := hS.i
  obtain ⟨c0, c1, c2, cap, c3⟩ := (hS.below bA).cellsAt
  have B0 := hid bA
  have hn := hi.n
  have hft := hi.ft
  have hf0 := hi.f
  have ht0 := hi.t
  have hd : decide (S.from' + (j : Int) < S.from') = false := decide_eq_false (by omega)
  have hd2 : decide (S.to ≤ S.from' + (j : Int)) = false := decide_eq_false (by omega)
  have hwr : IntKind.i64.wrap (S.from' + (j : Int) - S.from') = (j : Int) := by rw [IntWalk.i64_in _ ⟨by omega, by omega⟩]; omega
  have hix : (0 : Int) ≤ (j : Int) ∧ (j : Int) < (S.cells.length : Int) := by omega
  have hix1 : (j : Int) < (S.cells.length : Int) := by omega
  obtain ⟨r0, rm⟩ := (hS.below bA).row j hj
  have r1 := rm 0
  have r2 := rm 1
  have r3 := rm 2
  have r4 := rm 3
  obtain ⟨x, hx⟩ : ∃ x, x = S.cells[j] := ⟨_, rfl⟩
  rw [← hx] at r0 r1 r2 r3 r4 ⊢
  obtain ⟨f, hf⟩ : ∃ f, f = S.from' := ⟨_, rfl⟩
  obtain ⟨t, ht⟩ : ∃ t, t = S.to := ⟨_, rfl⟩
  obtain ⟨n, hnn⟩ : ∃ n, n = S.cells.length := ⟨_, rfl⟩
  rw [← hf] at c0 hd hd2 hwr ⊢
  rw [← ht] at c1 hd2
  rw [← hnn] at c3 hix hix1
  clear hx hf ht hnn hn hft hf0 ht0 hi hS bA rm c2
  obtain ⟨tx, m⟩ := x
  unfold cellV
  simp only at r0 r1 r2 r3 r4 ⊢
  have q1 : (w.alloc (.cells #[.string ⟨#[]⟩, .int .i64 0, .int .i64 0, .int .i64 0, .int .i64 0] 100)).cell? ⟨g, j * 5 + 1, none⟩ = some (.int .i64 (m 0)) := r1
  have q2 : (w.alloc (.cells #[.string ⟨#[]⟩, .int .i64 0, .int .i64 0, .int .i64 0, .int .i64 0] 100)).cell? ⟨g, j * 5 + 2, none⟩ = some (.int .i64 (m 1)) := r2
  have q3 : (w.alloc (.cells #[.string ⟨#[]⟩, .int .i64 0, .int .i64 0, .int .i64 0, .int .i64 0] 100)).cell? ⟨g, j * 5 + 3, none⟩ = some (.int .i64 (m 2)) := r3
  have q4 : (w.alloc (.cells #[.string ⟨#[]⟩, .int .i64 0, .int .i64 0, .int .i64 0, .int .i64 0] 100)).cell? ⟨g, j * 5 + 4, none⟩ = some (.int .i64 (m 3)) := r4
  generalize m 0 = m0 at *
  generalize m 1 = m1 at *
  generalize m 2 = m2 at *
  generalize m 3 = m3 at *
  clear r1 r2 r3 r4
  obtain ⟨W, hW⟩ : ∃ W, W = w.alloc (.cells #[.string ⟨#[]⟩, .int .i64 0, .int .i64 0, .int .i64 0, .int .i64 0] 100) := ⟨_, rfl⟩
  have SW : Hid (∀ X : World, Below w.heap.size W X → X.cell? ⟨b, 0, none⟩ = some (.int .i64 f) ∧ X.cell? ⟨b, 3, none⟩ = some (.slice (some ⟨g, 0, none⟩) n cap) ∧ X.cell? ⟨g, j * 5, none⟩ = some (.string tx) ∧ X.cell? ⟨g, j * 5 + 1, none⟩ = some (.int .i64 m0) ∧ X.cell? ⟨g, j * 5 + 2, none⟩ = some (.int .i64 m1) ∧ X.cell? ⟨g, j * 5 + 3, none⟩ = some (.int .i64 m2) ∧ X.cell? ⟨g, j * 5 + 4, none⟩ = some (.int .i64 m3)) := hid (by
    intro X hX
    rw [hW] at hX
    have e : ∀ (a : Addr) (v : Value), a.block < w.heap.size → (w.alloc (.cells #[.string ⟨#[]⟩, .int .i64 0, .int .i64 0, .int .i64 0, .int .i64 0] 100)).cell? a = some v → X.cell? a = some v := fun a v ha hv => (hX.cell ha).trans hv
    exact ⟨e _ _ hbl.1 c0, e _ _ hbl.1 c3, e _ _ hbl.2.1 r0, e _ _ hbl.2.1 q1, e _ _ hbl.2.1 q2, e _ _ hbl.2.1 q3, e _ _ hbl.2.1 q4⟩)
  rw [hW] at SW
  clear hW W HSA
  go_enter Try.func65, Try.ntmps65
  go_wp2_with fail
  go_region_held3 (fun X => X.cell? ⟨b, 0, none⟩ = some (.int .i64 f) ∧ X.cell? ⟨b, 3, none⟩ = some (.slice (some ⟨g, 0, none⟩) n cap) ∧ X.cell? ⟨g, j * 5, none⟩ = some (.string tx) ∧ X.cell? ⟨g, j * 5 + 1, none⟩ = some (.int .i64 m0) ∧ X.cell? ⟨g, j * 5 + 2, none⟩ = some (.int .i64 m1) ∧ X.cell? ⟨g, j * 5 + 3, none⟩ = some (.int .i64 m2) ∧ X.cell? ⟨g, j * 5 + 4, none⟩ = some (.int .i64 m3)) (first | exact SW.out _ ((Below.refl _ _).drew) | exact SW.out _ (by refine Below.drew ?_; exact ⟨rfl, rfl, rfl, by simp, fun k hk => by rw [Below.heap_alloc _ _ _ hk, Below.heap_alloc _ _ _ hk]⟩)) (fail)
  go_wp2_with fail
  (try simp only [Exit.inBlock, Exit.then])
  refine bodyPost_ret (results_cell5 rfl _ _ w.heap.size _ _ _ _ _ _ _ rfl (heap_alloc_new w _)) rfl ?_
  exact ⟨rfl, ((Below.refl _ _).alloc (Nat.le_refl _) _).drew⟩
/-- What Block answers: the text and the error. -/
def blockT (S : StD) (k : Int) : ByteArray := if k < S.from' ∨ S.to ≤ k then ⟨#[]⟩ else (S.cells.getD (k - S.from').toNat zeroC).text
def blockE (S : StD) (k : Int) : Int := if k < S.from' ∨ S.to ≤ k then 9 else 0
theorem cell_any (b g : Nat) (S : StD) (k : Int) (w : World) (hS : St w b g S) :
    Calls Try.prog 65 #[.pointer (some ⟨b, 0, none⟩), .int .i64 k] w fun e w' => e = .returned (.tuple #[cellV (if k < S.from' ∨ S.to ≤ k then zeroC else S.cells.getD (k - S.from').toNat zeroC), .int .i64 (blockE S k)]) ∧ Below w.heap.size w w' := by
  unfold blockE
  by_cases h : k < S.from' ∨ S.to ≤ k
  · rw [if_pos h, if_pos h]
    exact cell_out b g S k w hS h
  · rw [if_neg h, if_neg h]
    have hn := hS.i.n
    have hj : (k - S.from').toNat < S.cells.length := by omega
    have hk : k = S.from' + ((k - S.from').toNat : Int) := by omega
    have := cell_in b g S (k - S.from').toNat w hS hj
    rw [← hk] at this
    rw [show S.cells.getD (k - S.from').toNat zeroC = S.cells[(k - S.from').toNat] from by simp [List.getD, List.getElem?_eq_getElem hj]]
    exact this
set_option maxRecDepth 100000 in
set_option maxHeartbeats 1600000 in
theorem block_any (b g : Nat) (S : StD) (k : Int) (w : World) (hS : St w b g S) :
    Calls Try.prog 26 #[.pointer (some ⟨b, 0, none⟩), .int .i64 k] w fun e w' => e = .returned (.tuple #[.string (blockT S k), .int .i64 (blockE S k)]) ∧ Below w.heap.size w w' := by
  have HC := hid (cell_any b g S k w hS)
  have HT : Hid (blockT S k = (if k < S.from' ∨ S.to ≤ k then zeroC else S.cells.getD (k - S.from').toNat zeroC).text) := hid (by unfold blockT; split <;> rfl)
  generalize (if k < S.from' ∨ S.to ≤ k then zeroC else S.cells.getD (k - S.from').toNat zeroC) = x at HC HT
  generalize blockE S k = er at HC ⊢
  obtain ⟨tx, m⟩ := x
  simp only at HT
  rw [HT.out]
  unfold cellV at HC
  simp only at HC
  clear hS HT
  go_enter Try.func26, Try.ntmps26
  go_wp2_with fail
  refine HC.out.mono ?_
  rintro e w2 ⟨rfl, hb2⟩
  have B2 := hid hb2
  clear hb2
  go_wp2_with fail
  go_ret2
  exact ⟨rfl, B2.out.alloc B2.out.size _⟩
end Go.Proofs.Ytabmnelenfghhaa
