/- A change laid as a text, and taken again. Conditions: its numbers are ints. -/
import Derived.Test.YtplpbnglcfdaaaaAtLives
import Derived.Test.YtplpbnglcfdaaaaWkA
namespace Go.Proofs.Ytplpbnglcfdaaaa
open Go.RowKit Go.Maps Go.Shelf
set_option linter.unusedVariables false
set_option linter.unusedSimpArgs false

theorem Rd.turn {w w' : World} {b z : Nat} {s : Option (List UInt8)} {cs : Array Value} {t : TypeId} {fr : Nat × Nat} (h : Rd w b s) (hz : w.heap[z]? = some (.cells cs t fr)) (ht : t ≠ 113) (hn : ∀ n : Int, Value.int .u8 n ∉ cs) (hk : ∀ q, q < w.heap.size → q ≠ z → w'.heap[q]? = w.heap[q]?) : Rd w' b s := by
  have hlt := h.lt
  have hbz : b ≠ z := by
    intro e
    obtain ⟨ao, cap, hc⟩ := h.cells
    rw [e, hz] at hc; cases hc; exact ht rfl
  cases s with
  | none => show w'.heap[b]? = _; rw [hk b hlt hbz]; exact h
  | some l =>
    obtain ⟨ao, cap, h1, h2, h3⟩ := h
    refine ⟨ao, cap, by rw [hk b hlt hbz]; exact h1, ?_, h3⟩
    obtain ⟨ao', n', cap', e, g1, g2, g3, g4, g5⟩ := h2
    cases e
    refine ⟨ao, l.length, cap, rfl, g1, g2, g3, g4, fun ad had j hj => ?_⟩
    have hc := g5 ad had j hj
    have hne : (ad.add j).block ≠ z := by
      intro e
      unfold World.cell? at hc
      rw [e, hz] at hc
      simp only at hc
      split at hc
      · cases hc
      · exact hn _ (Array.mem_of_getElem? hc)
    exact (World.cell?_of_block (hk _ (World.block_lt_of_cell? _ _ hc) hne)).trans hc
theorem int_only (l r : List UInt8) (h : intS (some l) = some r) : l = intB (intV (some l)) ++ r ∧ I64 (intV (some l)) := by
  have hb : badO (intS (some l)) = false := by rw [h]; rfl
  unfold intV
  rw [hb, if_neg (by decide)]
  cases l with
  | nil =>
    unfold intS at h
    split at h
    · cases h
    · simp [byteS, numR] at h
  | cons c t =>
    replace h : (if 1 < c.toNat ∨ 9223372036854775807 < (numR (some t)).1 then none else (numR (some t)).2) = some r := h
    show c :: t = intB (if c.toNat = 1 then -1 - ((numR (some t)).1 : Int) else ((numR (some t)).1 : Int)) ++ r ∧ I64 (if c.toNat = 1 then -1 - ((numR (some t)).1 : Int) else ((numR (some t)).1 : Int))
    by_cases hn : 1 < c.toNat ∨ 9223372036854775807 < (numR (some t)).1
    · rw [if_pos hn] at h; cases h
    · rw [if_neg hn] at h
      have hc : ¬ 1 < c.toNat := fun e => hn (.inl e)
      have hbig : ¬ 9223372036854775807 < (numR (some t)).1 := fun e => hn (.inr e)
      have h3 : numR (some t) = ((numR (some t)).1, some r) := by rw [← h]
      obtain ⟨h4, -⟩ := numR_only t _ r h3
      generalize (numR (some t)).1 = n at *
      by_cases h1 : c.toNat = 1
      · rw [if_pos h1]
        have hc1 : c = 1 := UInt8.toNat_inj.1 h1
        refine ⟨?_, by constructor <;> omega⟩
        unfold intB
        rw [if_neg (by omega), show (-1 - (-1 - (n : Int))).toNat = n by omega, h4, hc1]
        rfl
      · rw [if_neg h1]
        have h0 : c.toNat = 0 := by omega
        have hc0 : c = 0 := UInt8.toNat_inj.1 h0
        refine ⟨?_, by constructor <;> omega⟩
        unfold intB
        rw [if_pos (by omega), Int.toNat_natCast, h4, hc0]
        rfl
theorem intB_lenM (n : Int) (h : I64 n) : (intB n).length ≤ 11 := by
  obtain ⟨h0, h1⟩ := h
  unfold intB
  split
  · have := numB_len n.toNat (by omega); simp only [List.length_cons]; omega
  · have := numB_len (-1 - n).toNat (by omega); simp only [List.length_cons]; omega
def numC (c : ChD) : List Int := [c.k, c.sh, c.ot, c.at', c.out, c.in']
def chBy (c : ChD) : List UInt8 := (numC c).flatMap intB
def ChJ (c : ChD) : Prop := ∀ x ∈ numC c, I64 x
theorem flen (l : List Int) (h : ∀ x ∈ l, I64 x) : (l.flatMap intB).length ≤ 11 * l.length := by
  induction l with
  | nil => simp
  | cons x l ih =>
    have h1 := intB_lenM x (h x (by simp))
    have h2 := ih fun y hy => h y (by simp [hy])
    rw [List.flatMap_cons, List.length_append, List.length_cons]
    omega
theorem num_at (c : ChD) (N : Nat) (w : World) (h : w.heap[N]? = some (.cells #[.int .i64 c.k, .int .i64 c.sh, .int .i64 c.ot, .int .i64 c.at', .int .i64 c.out, .int .i64 c.in'] 3 (0, 0))) (i : Nat) (hi : i < (numC c).length) : w.cell? ⟨N, i, none⟩ = some (.int .i64 (numC c)[i]) := by
  rw [cell_of_row _ _ _ _ _ _ h]
  match i, hi with
  | 0, _ => rfl
  | 1, _ => rfl
  | 2, _ => rfl
  | 3, _ => rfl
  | 4, _ => rfl
  | 5, _ => rfl
set_option maxRecDepth 100000 in
set_option maxHeartbeats 4000000 in
theorem alay_any (c : ChD) (w : World) (hj : ChJ c) :
    Calls Try.prog 18 #[chV c] w fun e w' => e = .returned (.string ⟨(chBy c).toArray⟩) ∧ Below w.heap.size w w' := by
  have HJ := hid hj
  obtain ⟨w2, hw2⟩ : ∃ w2, w2 = (w.alloc (.cells (chC c) 48)).alloc (.cells #[.slice none 0 0] 86) := ⟨_, rfl⟩
  obtain ⟨hA, -⟩ := heap_two w (.cells (chC c) 48) (.cells #[.slice none 0 0] 86)
  rw [← hw2] at hA
  have hWr : Wr w2 (w.heap.size + 1) [] := by rw [hw2]; have := Wr.new (w.alloc (.cells (chC c) 48)); simpa using this
  have hB2 : Below w.heap.size w w2 := by rw [hw2]; exact ((Below.refl _ _).alloc (Nat.le_refl _) _).alloc (by simp) _
  have hs2 : w2.heap.size = w.heap.size + 2 := by rw [hw2]; simp
  have a0 : w2.cell? ⟨w.heap.size, 0, none⟩ = some (.int .i64 c.k) := by rw [cell_of_row _ _ _ _ _ _ hA]; rfl
  have a1 : w2.cell? ⟨w.heap.size, 1, none⟩ = some (.int .i64 c.sh) := by rw [cell_of_row _ _ _ _ _ _ hA]; rfl
  have a2 : w2.cell? ⟨w.heap.size, 2, none⟩ = some (.int .i64 c.ot) := by rw [cell_of_row _ _ _ _ _ _ hA]; rfl
  have a3 : w2.cell? ⟨w.heap.size, 3, none⟩ = some (.int .i64 c.at') := by rw [cell_of_row _ _ _ _ _ _ hA]; rfl
  have a4 : w2.cell? ⟨w.heap.size, 4, none⟩ = some (.int .i64 c.out) := by rw [cell_of_row _ _ _ _ _ _ hA]; rfl
  have a5 : w2.cell? ⟨w.heap.size, 5, none⟩ = some (.int .i64 c.in') := by rw [cell_of_row _ _ _ _ _ _ hA]; rfl
  have HW2 := hid hw2
  have WR2 := hid hWr
  have B2 := hid hB2
  have HS2 := hid hs2
  clear hj hw2 hA hWr hB2 hs2
  unfold chC at HW2
  unfold chV
  go_enter Try.func18, Try.ntmps18
  go_upto_region 2 with fail
  rw [← HW2.out]
  clear HW2
  obtain ⟨W, hWe⟩ : ∃ W, W = w.heap.size + 1 := ⟨_, rfl⟩
  rw [← hWe] at WR2
  rw [← hWe]
  have HWE := hid hWe
  clear hWe
  go_upto_region 3 with fail
  have hb3 : Below w2.heap.size w2 (w2.alloc (.cells #[.int .i64 c.k, .int .i64 c.sh, .int .i64 c.ot, .int .i64 c.at', .int .i64 c.out, .int .i64 c.in'] 3)) := (Below.refl _ _).alloc (Nat.le_refl _) _
  have hg3 := heap_alloc_new w2 (.cells #[.int .i64 c.k, .int .i64 c.sh, .int .i64 c.ot, .int .i64 c.at', .int .i64 c.out, .int .i64 c.in'] 3)
  have WR3 := hid (WR2.out.below hb3)
  have B3 := hid (B2.out.trans (hb3.mono B2.out.size))
  have N3 := hid hg3
  clear hb3 hg3 WR2 a0 a1 a2 a3 a4 a5
  generalize w2.alloc (.cells #[.int .i64 c.k, .int .i64 c.sh, .int .i64 c.ot, .int .i64 c.at', .int .i64 c.out, .int .i64 c.in'] 3) = w3 at *
  generalize w2.heap.size = N at *
  go_loopw [5, 22] (fun _ iv wr => ∃ i : Nat, iv = .int .i64 i ∧ i ≤ 6 ∧ Wr wr W (((numC c).take i).flatMap intB) ∧ Wb W w3 wr) (fun _ iv _ => 6 - (intOf iv).toNat)
  case atStart => exact ⟨0, rfl, Nat.zero_le _, WR3.out, Wb.refl _ _⟩
  case round =>
    obtain ⟨i, rfl, hi, hwr, hbr⟩ := hrel
    have WR := hid hwr
    have BR := hid hbr
    have hfl := flen ((numC c).take i) fun x hx => HJ.out x (List.mem_of_mem_take hx)
    have hfl2 : ((numC c).take i).length ≤ 6 := by rw [List.length_take]; exact Nat.le_trans (Nat.min_le_right _ _) (Nat.le_refl 6)
    clear hwr hbr
    by_cases hlt : (i : Int) < 6
    · have hi6 : i < (numC c).length := by show i < 6; omega
      have hNr := (BR.out.kt _ _ _ _ N3.out (by decide)).trans N3.out
      have p0 := num_at c N wr hNr i hi6
      have HFT := hid (flat_take intB (numC c) i hi6)
      have hok := HJ.out _ (List.getElem_mem hi6)
      generalize (numC c)[i] = x at *
      obtain ⟨hx0, hx1⟩ := hok
      clear hNr
      go_wp2_with (go_at_call 38; refine (int_kt W _ x _ hx0 (by omega) WR.out (by omega)).mono ?_; rintro e w4 ⟨rfl, hw4, hb4⟩; have W4 := hid hw4; have B4 := hid (BR.out.trans hb4); clear hw4 hb4)
      go_roundw
      case rel => exact ⟨i + 1, by go_num, by omega, by rw [HFT.out]; exact W4.out, B4.out⟩
      case measure => simp [intOf]; omega
    · obtain rfl : i = 6 := by omega
      have W6 : Hid (Wr wr W (chBy c)) := hid WR.out
      have hcl : (chBy c).length ≤ 140737488340000 := by have := flen (numC c) HJ.out; have e : (numC c).length = 6 := rfl; unfold chBy; omega
      have HB := hid (B3.out.trans (BR.out.bel.mono (show w.heap.size ≤ W by have := HWE.out; omega)))
      clear WR hfl hfl2 hlt hi
      go_wp2_with (go_at_call 39; refine (bytes_any W (chBy c) _ W6.out hcl).mono ?_; rintro e w5 ⟨va5, vc5, rfl, ho5, hb5⟩; have k5 := conv_string _ _ _ ho5.bts; have B5 := hid (HB.out.trans (hb5.mono HB.out.size)); clear ho5 hb5)
      go_ret
      exact ⟨rfl, B5.out⟩
/-- What is left of bytes behind i ints; the change with its first i numbers read. -/
def tS (l : List UInt8) : Nat → Option (List UInt8)
  | 0 => some l
  | i + 1 => intS (tS l i)
def tkP (l : List UInt8) (i : Nat) : ChD := ⟨if 0 < i then intV (tS l 0) else 0, if 1 < i then intV (tS l 1) else 0, if 2 < i then intV (tS l 2) else 0, if 3 < i then intV (tS l 3) else 0, if 4 < i then intV (tS l 4) else 0, if 5 < i then intV (tS l 5) else 0⟩
theorem tkP_step (l : List UInt8) (i : Nat) (h : i < 6) : (chC (tkP l i)).setIfInBounds i (.int .i64 (intV (tS l i))) = chC (tkP l (i + 1)) := by
  match i, h with
  | 0, _ => simp [tkP, chC]
  | 1, _ => simp [tkP, chC]
  | 2, _ => simp [tkP, chC]
  | 3, _ => simp [tkP, chC]
  | 4, _ => simp [tkP, chC]
  | 5, _ => simp [tkP, chC]
def zC : ChD := ⟨0, 0, 0, 0, 0, 0⟩
def tkB (l : List UInt8) : Bool := endB (tS l 6)
def tkD (l : List UInt8) : ChD := if tkB l then tkP l 6 else zC
/-- What Take answers. -/
def TkP (l : List UInt8) (w : World) (e : Ending) (w' : World) : Prop := e = .returned (.tuple #[chV (tkD l), .int .i64 (if tkB l then 0 else 4)]) ∧ Below w.heap.size w w'
theorem chC_nou (c : ChD) (n : Int) : Value.int .u8 n ∉ chC c := by simp [chC]
theorem results_chB {fn : Func} {p q : Tmp} (h : fn.results = #[.cell p 48, .tmp q]) (tmps : Array Value) (w : World) (g : Nat) (t : TypeId) (cs : Array Value) (fr : Nat × Nat) (hs : cs.size = 6)
    (hp : tmps.getD p undef = .pointer (some ⟨g, 0, none⟩)) (hg : w.heap[g]? = some (.cells cs t fr)) : (results fn tmps).run Try.prog w = .ok (.tuple #[.agg cs, tmps.getD q undef]) w := by
  obtain ⟨d, hd1, hd2⟩ := Try.structCh
  have hp' : tmps[p]?.getD undef = .pointer (some ⟨g, 0, none⟩) := by simpa using hp
  have hl := run_loadVar_row w g t 48 cs fr d hg hd1 (by cases d <;> first | rfl | (simp at hd2)) (by rw [hs]; exact Try.sizeCh)
  simp [results, h, hp', asAddr, hl]
def pts (B : Nat) : Array Value := #[.pointer (some ⟨B, 0, none⟩), .pointer (some ⟨B, 1, none⟩), .pointer (some ⟨B, 2, none⟩), .pointer (some ⟨B, 3, none⟩), .pointer (some ⟨B, 4, none⟩), .pointer (some ⟨B, 5, none⟩)]
theorem pts_at (B i : Nat) (h : i < 6) : (pts B)[i]? = some (.pointer (some ⟨B, i, none⟩)) := by
  match i, h with
  | 0, _ => rfl
  | 1, _ => rfl
  | 2, _ => rfl
  | 3, _ => rfl
  | 4, _ => rfl
  | 5, _ => rfl
/-- Take under way. -/
structure TkI (w wr : World) (R r B N : Nat) (c : ChD) (s : Option (List UInt8)) : Prop where
  b : wr.heap[B]? = some (.cells (chC c) 48 (0, 0))
  d : Rd wr r s
  n : wr.heap[N]? = some (.cells (pts B) 81 (0, 0))
  rr : wr.heap[R]? = some (.cells z6 48 (0, 0))
  bel : Below w.heap.size w wr
  pR : w.heap.size ≤ R
  pr : w.heap.size ≤ r
  pB : w.heap.size ≤ B
  ne : R ≠ B
theorem TkI.read {w wr w' : World} {R r B N : Nat} {c : ChD} {s s' : Option (List UInt8)} (h : TkI w wr R r B N c s) (hd : Rd w' r s') (hg : wr.grownBy w' (some r)) : TkI w w' R r B N c s' := by
  obtain ⟨ao, cap, hx⟩ := h.d.cells
  have n1 : some B ≠ some r := fun e => by have hb := h.b; rw [Option.some.inj e, hx] at hb; cases hb
  have n2 : some N ≠ some r := fun e => by have hb := h.n; rw [Option.some.inj e, hx] at hb; cases hb
  have n3 : some R ≠ some r := fun e => by have hb := h.rr; rw [Option.some.inj e, hx] at hb; cases hb
  exact ⟨(hg.block B (lt_of_block h.b) n1).trans h.b, hd, (hg.block N (lt_of_block h.n) n2).trans h.n, (hg.block R (lt_of_block h.rr) n3).trans h.rr, h.bel.grown hg h.bel.size (fun k hk => by cases hk; exact h.pr), h.pR, h.pr, h.pB, h.ne⟩
theorem TkI.put {w wr : World} {R r B N : Nat} {c c' : ChD} {s : Option (List UInt8)} (h : TkI w wr R r B N c s) (i : Nat) (x : Int) (hc : (chC c).setIfInBounds i (.int .i64 x) = chC c') : TkI w (wr.setCell ⟨B, i, none⟩ (.int .i64 x)) R r B N c' s := by
  have n2 : N ≠ B := fun e => by have hb := h.n; rw [e, h.b] at hb; cases hb
  exact ⟨by rw [← hc]; exact heap_setCell_same _ _ _ _ _ _ h.b, h.d.turn h.b (by decide) (chC_nou c) (fun q _ hq => Below.heap_setCell _ _ _ _ hq), (Below.heap_setCell _ _ _ _ n2).trans h.n, (Below.heap_setCell _ _ _ _ h.ne).trans h.rr, below_set h.bel h.pB, h.pR, h.pr, h.pB, h.ne⟩
theorem TkI.cell {w wr : World} {R r B N : Nat} {c : ChD} {s : Option (List UInt8)} (h : TkI w wr R r B N c s) (i : Nat) : wr.cell? ⟨B, i, none⟩ = (chC c)[i]? := by rw [cell_of_row _ _ _ _ _ _ h.b]
theorem TkI.has {w wr : World} {R r B N : Nat} {c : ChD} {s : Option (List UInt8)} (h : TkI w wr R r B N c s) (i : Nat) (hi : i < 6) : ∃ u, wr.cell? ⟨B, i, none⟩ = some u := by
  rw [h.cell]
  exact ⟨_, Array.getElem?_eq_getElem (show i < (chC c).size from hi)⟩
set_option maxRecDepth 100000 in
set_option maxHeartbeats 4000000 in
theorem atake_any (s : ByteArray) (w : World) (hs : s.size ≤ 140737488355328) :
    Calls Try.prog 17 #[.string s] w (TkP s.data.toList w) := by
  obtain ⟨w1, hw1⟩ : ∃ w1, w1 = w.alloc (.cells z6 48) := ⟨_, rfl⟩
  have B1 : Below w.heap.size w w1 := by rw [hw1]; exact (Below.refl _ _).alloc (Nat.le_refl _) _
  have hR1 : w1.heap[w.heap.size]? = some (.cells z6 48 (0, 0)) := by rw [hw1]; exact heap_alloc_new _ _
  obtain ⟨cap, w2, hcv, hbt, hb2⟩ := conv_bytes w1 s (by omega)
  have hlen : s.data.toList.length = s.size := by rw [Array.length_toList]; rfl
  have HNR := hid (newReader_any _ s.data.toList w2 hbt (by rw [hlen]; omega))
  have B2 := hid (B1.trans (hb2.mono B1.size))
  have R2 := hid ((hb2.block _ (lt_of_block hR1)).trans hR1)
  have HW1 := hid hw1
  clear hw1 B1 hR1 hbt hb2 hlen hs
  generalize s.data.toList = l at *
  unfold z6 at HW1
  go_enter Try.func17, Try.ntmps17
  go_upto_region 1 with fail
  rw [← HW1.out]
  clear HW1
  obtain ⟨R, hRe⟩ : ∃ R, R = w.heap.size := ⟨_, rfl⟩
  rw [← hRe] at R2
  rw [← hRe]
  have HRE : Hid (w.heap.size ≤ R) := hid (by omega)
  clear hRe
  go_upto_region 2 with (go_at_call 35; refine HNR.out.mono ?_; rintro e w3 ⟨r, rfl, hr3, hd3, hb3⟩; have D3 := hid hd3; have B3 := hid (B2.out.trans (hb3.mono B2.out.size)); have R3 := hid ((hb3.block R (lt_of_block R2.out)).trans R2.out); have HR3 : Hid (w.heap.size ≤ r) := hid (Nat.le_trans B2.out.size hr3); clear hr3 hd3 hb3)
  clear hcv HNR R2 B2
  go_upto_region 4 with fail
  have HI : Hid (TkI w ((w3.alloc (.cells z6 48)).alloc (.cells (pts w3.heap.size) 81)) R r w3.heap.size (w3.heap.size + 1) (tkP l 0) (tS l 0)) := hid (by
    obtain ⟨h1, h2⟩ := heap_two w3 (.cells z6 48) (.cells (pts w3.heap.size) 81)
    have hb : Below w3.heap.size w3 ((w3.alloc (.cells z6 48)).alloc (.cells (pts w3.heap.size) 81)) := ((Below.refl _ _).alloc (Nat.le_refl _) _).alloc (by simp) _
    exact ⟨h1, D3.out.kept hb, h2, (hb.block R (lt_of_block R3.out)).trans R3.out, B3.out.trans (hb.mono B3.out.size), HRE.out, HR3.out, B3.out.size, fun e => by have := lt_of_block R3.out; omega⟩)
  clear D3 B3 R3 HRE HR3
  unfold z6 pts at HI
  generalize (w3.alloc (.cells #[.int .i64 0, .int .i64 0, .int .i64 0, .int .i64 0, .int .i64 0, .int .i64 0] 48)).alloc (.cells #[.pointer (some ⟨w3.heap.size, 0, none⟩), .pointer (some ⟨w3.heap.size, 1, none⟩), .pointer (some ⟨w3.heap.size, 2, none⟩), .pointer (some ⟨w3.heap.size, 3, none⟩), .pointer (some ⟨w3.heap.size, 4, none⟩), .pointer (some ⟨w3.heap.size, 5, none⟩)] 81) = w4 at HI ⊢
  obtain ⟨N, hNe⟩ : ∃ N, N = w3.heap.size + 1 := ⟨_, rfl⟩
  rw [← hNe] at HI
  rw [← hNe]
  clear hNe
  generalize w3.heap.size = B at *
  go_loopw [7, 19] (fun _ iv wr => ∃ i : Nat, iv = .int .i64 i ∧ i ≤ 6 ∧ TkI w wr R r B N (tkP l i) (tS l i)) (fun _ iv _ => 6 - (intOf iv).toNat)
  case atStart => exact ⟨0, rfl, Nat.zero_le _, HI.out⟩
  case round =>
    obtain ⟨i, rfl, hi, hI⟩ := hrel
    have IR := hid hI
    clear hI HI
    by_cases hlt : (i : Int) < 6
    · have hi6 : i < 6 := by omega
      have p0 : wr.cell? ⟨N, i, none⟩ = some (.pointer (some ⟨B, i, none⟩)) := by rw [cell_of_row _ _ _ _ _ _ IR.out.n]; exact pts_at B i hi6
      have HST := hid (tkP_step l i hi6)
      have HIN := hid (rint_any r (tS l i) wr IR.out.d)
      have HS : Hid (tS l (i + 1) = intS (tS l i)) := hid rfl
      generalize intV (tS l i) = x at HIN HST
      go_wp2_with (go_at_call 36; refine HIN.out.mono ?_; rintro e w5 ⟨rfl, hd5, hg5⟩; have I5 := hid (IR.out.read (s' := tS l (i + 1)) hd5 hg5); obtain ⟨u5, k5⟩ := I5.out.has i hi6; have f5 : w5.frozen? ⟨B, i, none⟩ = false := frozen_of_row _ _ _ _ _ I5.out.b; clear hd5 hg5)
      go_roundw
      case rel => exact ⟨i + 1, by go_num, by omega, I5.out.put i x HST.out⟩
      case measure => simp [intOf]; omega
    · obtain rfl : i = 6 := by omega
      have HEN := hid (end_any r (tS l 6) wr IR.out.d)
      have HTB : Hid (tkB l = endB (tS l 6)) := hid rfl
      have HTD : Hid (tkD l = if endB (tS l 6) then tkP l 6 else zC) := hid rfl
      have HTP : Hid (∀ e w', e = .returned (.tuple #[chV (tkD l), .int .i64 (if tkB l then 0 else 4)]) ∧ Below w.heap.size w w' → TkP l w e w') := hid fun e w' h => h
      have hR := IR.out.rr
      have hB := IR.out.b
      unfold z6 at hR
      unfold chC at hB
      generalize endB (tS l 6) = en at *
      cases en with
      | false =>
        go_wp2_with (first | (go_at_call 37; refine HEN.out.mono ?_; rintro e w6 ⟨rfl, hw6⟩; replace hw6 := hw6.symm; subst hw6) | (refine wpl_storeK rfl _ _ rfl R _ _ _ _ _ _ rfl rfl rfl rfl rfl rfl rfl rfl _ _ rfl hR ?_))
        (try simp only [Exit.inBlock, Exit.then])
        refine bodyPost_ret (results_chB rfl _ _ R _ _ _ rfl rfl (setRow_heap _ _ _ _ _ _ hR)) rfl ?_
        exact HTP.out _ _ ⟨by rw [HTD.out, HTB.out]; rfl, below_row IR.out.bel IR.out.pR _⟩
      | true =>
        go_wp2_with (first | (go_at_call 37; refine HEN.out.mono ?_; rintro e w6 ⟨rfl, hw6⟩; replace hw6 := hw6.symm; subst hw6) | (refine wpl_loadK rfl _ rfl B rfl _ _ _ rfl hB ?_) | (refine wpl_storeK rfl _ _ rfl R _ _ _ _ _ _ rfl rfl rfl rfl rfl rfl rfl rfl _ _ rfl hR ?_))
        (try simp only [Exit.inBlock, Exit.then])
        refine bodyPost_ret (results_chB rfl _ _ R _ _ _ rfl rfl (setRow_heap _ _ _ _ _ _ hR)) rfl ?_
        exact HTP.out _ _ ⟨by rw [HTD.out, HTB.out]; rfl, below_row IR.out.bel IR.out.pR _⟩
end Go.Proofs.Ytplpbnglcfdaaaa
