/- What takeCell and noBlock answer. Conditions: the Reader lies in memory. -/
import Derived.Test.YtabmnelenfghhaaBkCOk
import Derived.Test.YtabmnelenfghhaaBkTake
namespace Go.Proofs.Ytabmnelenfghhaa
open Go.RowKit
set_option linter.unusedVariables false
set_option linter.unusedSimpArgs false

def noMarkB (n : Int) : Bool := decide (n < 0) || decide (1099511627776 < n)
set_option maxHeartbeats 800000 in
theorem noMark_any (n : Int) (w : World) :
    Calls Try.prog 73 #[.int .i64 n] w fun e w' => e = .returned (.bool (noMarkB n)) ∧ w' = w := by
  unfold noMarkB
  cases h : decide (n < 0)
  all_goals
    go_enter Try.func73, Try.ntmps73
    go_wp2
    go_ret
    exact ⟨by simp, rfl⟩
theorem ent_noMark : Ent 73 := fun args w => by simp [go_sem]
set_option maxHeartbeats 1600000 in
theorem indexI_any (F : FuncId) (p : Int → Bool) (A o cap : Nat) (l : List Int) (w : World) (hef : Ent F) (hv : ∀ i (h : i < l.length), w.cell? ⟨A, o + i, none⟩ = some (.int .i64 l[i])) (hl : l.length ≤ 1000)
    (hf : ∀ x ∈ l, Calls Try.prog F (#[.int .i64 x]) w fun e w' => e = .returned (.bool (p x)) ∧ w' = w) :
    Calls Try.prog 79 #[.slice (some ⟨A, o, none⟩) l.length cap, .func (.func F) #[] #[]] w fun e w' => ∃ r : Int, e = .returned (.int .i64 r) ∧ decide (0 ≤ r) = l.any p ∧ w' = w := by
  have HV := hid hv
  have HF := hid hf
  have hef' : ∀ (args : Array Value) (w : World), (callFunc F args).run Try.prog w = .ok (.enter F args) w := hef
  clear hv hf hef
  have hlI : (l.length : Int) ≤ 1000 := by omega
  go_enter Try.func79, Try.ntmps79
  go_wp2_with fail
  go_loopw [5, 8] (fun _ iv wr => ∃ k : Nat, iv = .int .i64 k ∧ k ≤ l.length ∧ (l.take k).any p = false ∧ w = wr) (fun _ iv _ => l.length - (intOf iv).toNat)
  case atStart => exact ⟨0, rfl, Nat.zero_le _, by simp, rfl⟩
  case round =>
    obtain ⟨k, rfl, hk, hall, hwr⟩ := hrel
    subst hwr
    have HALL := hid hall
    clear hall
    by_cases hlt : k < l.length
    · have hc0 := HV.out k hlt
      have hkI : (k : Int) < (l.length : Int) := by omega
      have HC := hid (HF.out l[k] (List.getElem_mem hlt))
      have HNX : Hid ((l.take (k + 1)).any p = p l[k]) := hid (by rw [List.take_succ_eq_append_getElem hlt, List.any_append, HALL.out]; simp)
      have HAN : Hid (p l[k] = true → l.any p = true) := hid fun h => List.any_eq_true.2 ⟨l[k], List.getElem_mem hlt, h⟩
      obtain ⟨x, hx⟩ : ∃ x, x = l[k] := ⟨_, rfl⟩
      rw [← hx] at hc0 HC HNX HAN
      clear hx
      go_wp2_with fail
      refine HC.out.mono ?_
      rintro e w2 ⟨rfl, hw2⟩
      subst hw2
      cases hp : p x with
      | true =>
        have HA := hid (HAN.out hp)
        clear hp
        go_wp2_with fail
        go_ret
        exact ⟨(k : Int), rfl, by rw [HA.out]; simp, rfl⟩
      | false =>
        have HN : Hid ((l.take (k + 1)).any p = false) := hid (by rw [HNX.out]; exact hp)
        clear hp
        go_wp2_with fail
        go_roundw
        case rel => exact ⟨k + 1, by go_num, by omega, HN.out, trivial⟩
        case measure => simp [intOf]; omega
    · obtain rfl : k = l.length := by omega
      rw [List.take_length] at HALL
      go_wp2
      go_ret
      exact ⟨-1, rfl, by rw [HALL.out]; decide, rfl⟩
set_option maxHeartbeats 800000 in
theorem containsI_any (F : FuncId) (p : Int → Bool) (A o cap : Nat) (l : List Int) (w : World) (hef : Ent F) (hv : ∀ i (h : i < l.length), w.cell? ⟨A, o + i, none⟩ = some (.int .i64 l[i])) (hl : l.length ≤ 1000)
    (hf : ∀ x ∈ l, Calls Try.prog F (#[.int .i64 x]) w fun e w' => e = .returned (.bool (p x)) ∧ w' = w) :
    Calls Try.prog 75 #[.slice (some ⟨A, o, none⟩) l.length cap, .func (.func F) #[] #[]] w fun e w' => e = .returned (.bool (l.any p)) ∧ w' = w := by
  have HI := hid (indexI_any F p A o cap l w hef hv hl hf)
  clear hv hf hef
  go_enter Try.func75, Try.ntmps75
  go_wp2_with fail
  refine HI.out.mono ?_
  rintro e w2 ⟨r, rfl, hr, rfl⟩
  have HR := hid hr
  clear hr
  go_wp2_with fail
  go_ret
  exact ⟨by rw [← HR.out]; rfl, rfl⟩
/-- Can no block be so? -/
def noBlockB (c : CellD) : Bool := !isTextB c.text || [c.m 0, c.m 1, c.m 2, c.m 3].any noMarkB
theorem noBlock_ok (c : CellD) : noBlockB c = false ↔ COk c := by
  unfold noBlockB COk
  simp only [Bool.or_eq_false_iff, Bool.not_eq_false', List.any_cons, List.any_nil, noMarkB, decide_eq_false_iff_not]
  constructor
  · rintro ⟨h, h0, h1, h2, h3, -⟩
    refine ⟨h, fun k => ?_⟩
    match k with
    | ⟨0, _⟩ => show 0 ≤ c.m 0 ∧ c.m 0 ≤ _; omega
    | ⟨1, _⟩ => show 0 ≤ c.m 1 ∧ c.m 1 ≤ _; omega
    | ⟨2, _⟩ => show 0 ≤ c.m 2 ∧ c.m 2 ≤ _; omega
    | ⟨3, _⟩ => show 0 ≤ c.m 3 ∧ c.m 3 ≤ _; omega
  · rintro ⟨h, hk⟩
    have h0 := hk 0
    have h1 := hk 1
    have h2 := hk 2
    have h3 := hk 3
    exact ⟨h, by omega, by omega, by omega, by omega, trivial⟩
set_option maxRecDepth 100000 in
set_option maxHeartbeats 1600000 in
theorem noBlock_any (c : CellD) (w : World) (hs : (c.text.size : Int) ≤ 9223372036854775807) :
    Calls Try.prog 50 #[cellV c] w fun e w' => e = .returned (.bool (noBlockB c)) ∧ Below w.heap.size w w' := by
  obtain ⟨tx, m⟩ := c
  unfold cellV noBlockB
  simp only at hs ⊢
  generalize m 0 = y0
  generalize m 1 = y1
  generalize m 2 = y2
  generalize m 3 = y3
  obtain ⟨w1, hw1⟩ : ∃ w1, w1 = w.alloc (.cells #[.string tx, .int .i64 y0, .int .i64 y1, .int .i64 y2, .int .i64 y3] 100) := ⟨_, rfl⟩
  have hb1 : Below w.heap.size w w1 := by rw [hw1]; exact (Below.refl _ _).alloc (Nat.le_refl _) _
  have hA : w1.heap[w.heap.size]? = some (.cells #[.string tx, .int .i64 y0, .int .i64 y1, .int .i64 y2, .int .i64 y3] 100 (0, 0)) := by rw [hw1]; exact heap_alloc_new _ _
  have B1 := hid hb1
  have HW1 := hid hw1
  clear hb1 hw1
  cases hT : isTextB tx with
  | false =>
    go_enter Try.func50, Try.ntmps50
    go_upto_region 2 with fail
    rw [← HW1.out]
    have x0 : w1.cell? ⟨w.heap.size, 0, none⟩ = some (.string tx) := by rw [cell_of_row _ _ _ _ _ _ hA]; rfl
    go_wp2_with fail
    refine (isText_any tx _ hs).mono ?_
    rintro e w2 ⟨rfl, rfl⟩
    rw [hT]
    go_wp2_with fail
    go_ret
    exact ⟨rfl, B1.out⟩
  | true =>
    go_enter Try.func50, Try.ntmps50
    go_upto_region 2 with fail
    rw [← HW1.out]
    have x0 : w1.cell? ⟨w.heap.size, 0, none⟩ = some (.string tx) := by rw [cell_of_row _ _ _ _ _ _ hA]; rfl
    have HA := hid hA
    clear hA
    go_wp2_with fail
    refine (isText_any tx _ hs).mono ?_
    rintro e w2 ⟨rfl, rfl⟩
    rw [hT]
    go_wp2_with fail
    refine (containsI_any 73 noMarkB w.heap.size 1 4 [y0, y1, y2, y3] _ ent_noMark ?_ (by simp) (fun x _ => noMark_any x _)).mono ?_
    · intro i hi
      rw [cell_of_row _ _ _ _ _ _ HA.out]
      match i, hi with
      | 0, _ => rfl
      | 1, _ => rfl
      | 2, _ => rfl
      | 3, _ => rfl
    rintro e w3 ⟨rfl, rfl⟩
    obtain ⟨r, hr⟩ : ∃ r, r = [y0, y1, y2, y3].any noMarkB := ⟨_, rfl⟩
    rw [← hr]
    have HR := hid hr
    clear hr
    go_wp2_with fail
    go_ret
    exact ⟨by rw [← HR.out]; simp, B1.out⟩
theorem ent_noBlock : Ent 50 := fun args w => by simp [go_sem]
set_option maxRecDepth 100000 in
set_option maxHeartbeats 1600000 in
theorem indexC_any (g cap : Nat) (l : List CellD) (w : World) (hv : w.ownsRow 0 100 5 (.slice (some ⟨g, 0, none⟩) l.length cap) l.length (flat5 l)) (hl : l.length ≤ 1000) (hs : ∀ c ∈ l, (c.text.size : Int) ≤ 9223372036854775807) :
    Calls Try.prog 72 #[.slice (some ⟨g, 0, none⟩) l.length cap, .func (.func 50) #[] #[]] w fun e w' => ∃ r : Int, e = .returned (.int .i64 r) ∧ decide (0 ≤ r) = l.any noBlockB ∧ Below w.heap.size w w' := by
  have HV := hid hv
  have HF := hid hs
  have hef' : ∀ (args : Array Value) (w : World), (callFunc 50 args).run Try.prog w = .ok (.enter 50 args) w := ent_noBlock
  clear hv hs
  have hlI : (l.length : Int) ≤ 1000 := by omega
  go_enter Try.func72, Try.ntmps72
  go_wp2_with fail
  go_loopw [5, 8] (fun _ iv wr => ∃ k : Nat, iv = .int .i64 k ∧ k ≤ l.length ∧ (l.take k).any noBlockB = false ∧ Below w.heap.size w wr) (fun _ iv _ => l.length - (intOf iv).toNat)
  case atStart => exact ⟨0, rfl, Nat.zero_le _, by simp, Below.refl _ _⟩
  case round =>
    obtain ⟨k, rfl, hk, hall, hbr⟩ := hrel
    have HALL := hid hall
    have HB := hid hbr
    clear hall hbr
    by_cases hlt : k < l.length
    · have hkI : (k : Int) < (l.length : Int) := by omega
      have e5 := flat5_at l k hlt
      have hrow := own_below HV.out HB.out
      have d0 : wr.cell? ⟨g, k * 5, none⟩ = some (.string l[k].text) := by have := hrow.cells (g := g) rfl _ _ e5.1; rw [Addr.add_lit] at this; simpa using this
      have d1 : wr.cell? ⟨g, k * 5 + 1, none⟩ = some (.int .i64 (l[k].m 0)) := by have := hrow.cells (g := g) rfl _ _ (e5.2 0); rw [Addr.add_lit, Nat.zero_add] at this; exact this
      have d2 : wr.cell? ⟨g, k * 5 + 2, none⟩ = some (.int .i64 (l[k].m 1)) := by have := hrow.cells (g := g) rfl _ _ (e5.2 1); rw [Addr.add_lit, Nat.zero_add] at this; exact this
      have d3 : wr.cell? ⟨g, k * 5 + 3, none⟩ = some (.int .i64 (l[k].m 2)) := by have := hrow.cells (g := g) rfl _ _ (e5.2 2); rw [Addr.add_lit, Nat.zero_add] at this; exact this
      have d4 : wr.cell? ⟨g, k * 5 + 4, none⟩ = some (.int .i64 (l[k].m 3)) := by have := hrow.cells (g := g) rfl _ _ (e5.2 3); rw [Addr.add_lit, Nat.zero_add] at this; exact this
      have HC := hid (fun W => noBlock_any l[k] W (HF.out l[k] (List.getElem_mem hlt)))
      have HNX : Hid ((l.take (k + 1)).any noBlockB = noBlockB l[k]) := hid (by rw [List.take_succ_eq_append_getElem hlt, List.any_append, HALL.out]; simp)
      have HAN : Hid (noBlockB l[k] = true → l.any noBlockB = true) := hid fun h => List.any_eq_true.2 ⟨l[k], List.getElem_mem hlt, h⟩
      generalize l[k] = x at *
      clear e5 hrow
      unfold cellV at HC
      go_wp2_with fail
      refine (HC.out _).mono ?_
      rintro e w2 ⟨rfl, hb2⟩
      have HB2 := hid (HB.out.trans (hb2.mono HB.out.size))
      clear hb2
      cases hp : noBlockB x with
      | true =>
        have HA := hid (HAN.out hp)
        clear hp
        go_wp2_with fail
        go_ret
        exact ⟨(k : Int), rfl, by rw [HA.out]; simp, HB2.out⟩
      | false =>
        have HN : Hid ((l.take (k + 1)).any noBlockB = false) := hid (by rw [HNX.out]; exact hp)
        clear hp
        go_wp2_with fail
        go_roundw
        case rel => exact ⟨k + 1, by go_num, by omega, HN.out, HB2.out⟩
        case measure => simp [intOf]; omega
    · obtain rfl : k = l.length := by omega
      rw [List.take_length] at HALL
      go_wp2
      go_ret
      exact ⟨-1, rfl, by rw [HALL.out]; decide, HB.out⟩
set_option maxHeartbeats 800000 in
theorem containsC_any (g cap : Nat) (l : List CellD) (w : World) (hv : w.ownsRow 0 100 5 (.slice (some ⟨g, 0, none⟩) l.length cap) l.length (flat5 l)) (hl : l.length ≤ 1000) (hs : ∀ c ∈ l, (c.text.size : Int) ≤ 9223372036854775807) :
    Calls Try.prog 49 #[.slice (some ⟨g, 0, none⟩) l.length cap, .func (.func 50) #[] #[]] w fun e w' => e = .returned (.bool (l.any noBlockB)) ∧ Below w.heap.size w w' := by
  have HI := hid (indexC_any g cap l w hv hl hs)
  clear hv hs
  go_enter Try.func49, Try.ntmps49
  go_wp2_with fail
  refine HI.out.mono ?_
  rintro e w2 ⟨r, rfl, hr, hb⟩
  have HR := hid hr
  have HB := hid hb
  clear hr hb
  go_wp2_with fail
  go_ret
  exact ⟨by rw [← HR.out]; rfl, HB.out⟩
/-- The Reader behind the text and i numbers. -/
def tcS (s : Option (List UInt8)) : Nat → Option (List UInt8)
  | 0 => textS s
  | i + 1 => numS (tcS s i)
def tcN (s : Option (List UInt8)) (i : Nat) : Int := wrap64 (numV (tcS s i) : Int)
def tcY (f : Nat → Int) (i j : Nat) : Int := if j < i then f j else 0
/-- The cell that is read. -/
def tcC (s : Option (List UInt8)) : CellD := ⟨⟨(textV s).toArray⟩, fun k => tcN s k.val⟩
theorem cellF (tx : ByteArray) (f : Nat → Int) : cellV ⟨tx, fun k => f k.val⟩ = .agg #[.string tx, .int .i64 (f 0), .int .i64 (f 1), .int .i64 (f 2), .int .i64 (f 3)] := rfl
theorem tcV (s : Option (List UInt8)) (tx : ByteArray) (f : Nat → Int) (h1 : tx = ⟨(textV s).toArray⟩) (h2 : f = tcN s) : cellV (tcC s) = .agg #[.string tx, .int .i64 (f 0), .int .i64 (f 1), .int .i64 (f 2), .int .i64 (f 3)] := by
  rw [← cellF, h1, h2]; unfold tcC; with_reducible rfl
theorem results_cellR {fn : Func} {p : Tmp} (h : fn.results = #[.cell p 100]) (tmps : Array Value) (w : World) (g : Nat) (t : TypeId) (v0 v1 v2 v3 v4 : Value) (fr : Nat × Nat)
    (hp : tmps.getD p undef = .pointer (some ⟨g, 0, none⟩)) (hg : w.heap[g]? = some (.cells #[v0, v1, v2, v3, v4] t fr)) : (results fn tmps).run Try.prog w = .ok (.agg #[v0, v1, v2, v3, v4]) w := by
  obtain ⟨d, hd1, hd2⟩ := Try.structCe
  refine results_cell_row h tmps w g t _ fr d hp hg hd1 ?_ Try.sizeCe
  cases d <;> first | rfl | (simp [isAgg] at hd2)
/-- Five cells of a block are written. -/
theorem five_cells {w : World} {R : Nat} {t : TypeId} {a0 a1 a2 a3 a4 : Value} (h : w.heap[R]? = some (.cells #[a0, a1, a2, a3, a4] t (0, 0))) (v0 v1 v2 v3 v4 : Value) :
    w.cell? ⟨R, 0, none⟩ = some a0 ∧ w.frozen? ⟨R, 0, none⟩ = false ∧ (w.setCell ⟨R, 0, none⟩ v0).cell? ⟨R, 1, none⟩ = some a1 ∧ (w.setCell ⟨R, 0, none⟩ v0).frozen? ⟨R, 1, none⟩ = false ∧ ((w.setCell ⟨R, 0, none⟩ v0).setCell ⟨R, 1, none⟩ v1).cell? ⟨R, 2, none⟩ = some a2 ∧ ((w.setCell ⟨R, 0, none⟩ v0).setCell ⟨R, 1, none⟩ v1).frozen? ⟨R, 2, none⟩ = false ∧ (((w.setCell ⟨R, 0, none⟩ v0).setCell ⟨R, 1, none⟩ v1).setCell ⟨R, 2, none⟩ v2).cell? ⟨R, 3, none⟩ = some a3 ∧ (((w.setCell ⟨R, 0, none⟩ v0).setCell ⟨R, 1, none⟩ v1).setCell ⟨R, 2, none⟩ v2).frozen? ⟨R, 3, none⟩ = false ∧ ((((w.setCell ⟨R, 0, none⟩ v0).setCell ⟨R, 1, none⟩ v1).setCell ⟨R, 2, none⟩ v2).setCell ⟨R, 3, none⟩ v3).cell? ⟨R, 4, none⟩ = some a4 ∧ ((((w.setCell ⟨R, 0, none⟩ v0).setCell ⟨R, 1, none⟩ v1).setCell ⟨R, 2, none⟩ v2).setCell ⟨R, 3, none⟩ v3).frozen? ⟨R, 4, none⟩ = false ∧ (((((w.setCell ⟨R, 0, none⟩ v0).setCell ⟨R, 1, none⟩ v1).setCell ⟨R, 2, none⟩ v2).setCell ⟨R, 3, none⟩ v3).setCell ⟨R, 4, none⟩ v4).heap[R]? = some (.cells #[v0, v1, v2, v3, v4] t (0, 0)) := by
  have h1 := heap_setCell_same _ R 0 _ _ v0 h
  have h2 := heap_setCell_same _ R 1 _ _ v1 h1
  have h3 := heap_setCell_same _ R 2 _ _ v2 h2
  have h4 := heap_setCell_same _ R 3 _ _ v3 h3
  have h5 := heap_setCell_same _ R 4 _ _ v4 h4
  refine ⟨?_, ?_, ?_, ?_, ?_, ?_, ?_, ?_, ?_, ?_, ?_⟩
  · rw [cell_of_row _ _ _ _ _ _ h]; rfl
  · exact frozen_of_row _ _ _ _ _ h
  · rw [cell_of_row _ _ _ _ _ _ h1]; rfl
  · exact frozen_of_row _ _ _ _ _ h1
  · rw [cell_of_row _ _ _ _ _ _ h2]; rfl
  · exact frozen_of_row _ _ _ _ _ h2
  · rw [cell_of_row _ _ _ _ _ _ h3]; rfl
  · exact frozen_of_row _ _ _ _ _ h3
  · rw [cell_of_row _ _ _ _ _ _ h4]; rfl
  · exact frozen_of_row _ _ _ _ _ h4
  · exact h5
set_option maxRecDepth 100000 in
set_option maxHeartbeats 3200000 in
theorem takeCell_any (b : Nat) (s : Option (List UInt8)) (w : World) (hr : Rd w b s) :
    Calls Try.prog 47 #[.pointer (some ⟨b, 0, none⟩)] w fun e w' => e = .returned (cellV (tcC s)) ∧ Rd w' b (tcS s 4) ∧ w.grownBy w' (some b) := by
  have hlt := hr.lt
  have hbl : b ≠ w.heap.size := by omega
  have HR := hid hr
  clear hr
  go_enter Try.func47, Try.ntmps47
  go_upto_region 1 with fail
  go_wp2_with fail
  obtain ⟨w0, hw0⟩ : ∃ w0, w0 = w.alloc (.cells #[.string ⟨#[]⟩, .int .i64 0, .int .i64 0, .int .i64 0, .int .i64 0] 100) := ⟨_, rfl⟩
  have R0 : Hid (w0.heap[w.heap.size]? = some (.cells #[.string ⟨#[]⟩, .int .i64 0, .int .i64 0, .int .i64 0, .int .i64 0] 100 (0, 0))) := hid (by rw [hw0]; exact heap_alloc_new _ _)
  have hb0 : Below w.heap.size w w0 := by rw [hw0]; exact (Below.refl _ _).alloc (Nat.le_refl _) _
  have D0 := hid (HR.out.kept hb0)
  have G0 := hid (grown_of (r := some b) hb0)
  rw [show (w.alloc (.cells #[.string ⟨#[]⟩, .int .i64 0, .int .i64 0, .int .i64 0, .int .i64 0] 100)) = w0 from hw0.symm]
  clear hw0 hb0 HR
  refine (rtext_any _ _ _ D0.out).mono ?_
  rintro e w1 ⟨rfl, hr1, hg1⟩
  have D1 := hid hr1
  have R1 := hid ((hg1.block _ (lt_of_block R0.out) (by simp; omega)).trans R0.out)
  have G1 := hid (grown_trans G0.out hg1)
  clear hr1 hg1 R0 D0 G0
  obtain ⟨tx, htx⟩ : ∃ tx : ByteArray, tx = ⟨(textV s).toArray⟩ := ⟨_, rfl⟩
  rw [← htx]
  have HTX := hid htx
  clear htx
  obtain ⟨f, hf⟩ : ∃ f, f = tcN s := ⟨_, rfl⟩
  have HFN : Hid (∀ i, f i = wrap64 ((numR (tcS s i)).1 : Int)) := hid (fun i => by rw [hf]; unfold tcN numV; with_reducible rfl)
  have HT := hid (tcV s tx f HTX.out hf)
  clear hf
  go_wp2_with fail
  obtain ⟨w2, hw2⟩ : ∃ w2, w2 = w1.alloc (.cells #[.string tx, .int .i64 0, .int .i64 0, .int .i64 0, .int .i64 0] 100) := ⟨_, rfl⟩
  have hb2 : Below w1.heap.size w1 w2 := by rw [hw2]; exact (Below.refl _ _).alloc (Nat.le_refl _) _
  have C2 : Hid (w2.heap[w1.heap.size]? = some (.cells #[.string tx, .int .i64 0, .int .i64 0, .int .i64 0, .int .i64 0] 100 (0, 0))) := hid (by rw [hw2]; exact heap_alloc_new _ _)
  rw [← hw2]
  have D2 := hid (D1.out.kept hb2)
  have R2 := hid ((hb2.block _ (lt_of_block R1.out)).trans R1.out)
  have G2 := hid (grown_trans G1.out (grown_of (r := some b) hb2))
  have hRC : w.heap.size < w1.heap.size := lt_of_block R1.out
  clear hw2 hb2 D1 R1 G1
  generalize w1.heap.size = C at *
  have hbC : b < C := by omega
  have HBC := hid hbC
  have HRC := hid hRC
  clear hbC hRC
  go_loopw [4, 8] (fun _ iv wr => ∃ i : Nat, iv = .int .i64 i ∧ i ≤ 4 ∧ Rd wr b (tcS s i) ∧ w.grownBy wr (some b) ∧ wr.heap[w.heap.size]? = some (.cells #[.string ⟨#[]⟩, .int .i64 0, .int .i64 0, .int .i64 0, .int .i64 0] 100 (0, 0)) ∧
    wr.heap[C]? = some (.cells #[.string tx, .int .i64 (tcY f i 0), .int .i64 (tcY f i 1), .int .i64 (tcY f i 2), .int .i64 (tcY f i 3)] 100 (0, 0))) (fun _ iv _ => 4 - (intOf iv).toNat)
  case atStart => exact ⟨0, rfl, Nat.zero_le _, D2.out, G2.out, R2.out, C2.out⟩
  case round =>
    obtain ⟨i, rfl, hi, hrd, hgr, hR, hCb⟩ := hrel
    clear D2 G2 R2 C2
    have HRD := hid hrd
    have HGR := hid hgr
    have HRb := hid hR
    have HCb := hid hCb
    clear hrd hgr hR hCb
    by_cases hlt4 : (i : Int) < 4
    · go_wp2_with fail
      refine (rnum_any _ _ _ HRD.out).mono ?_
      rintro e w4 ⟨rfl, hr4, hg4⟩
      have D4 : Hid (Rd w4 b (tcS s (i + 1))) := hid hr4
      have G4 := hid (grown_trans HGR.out hg4)
      have R4 := hid ((hg4.block _ (lt_of_block HRb.out) (by simp; omega)).trans HRb.out)
      have C4 := hid ((hg4.block _ (lt_of_block HCb.out) (by have := HBC.out; simp; omega)).trans HCb.out)
      clear hr4 hg4 HRD HGR HRb HCb
      have HY := hid (HFN.out i)
      generalize (numR (tcS s i)).1 = n at HY ⊢
      have hc4 : ∃ old, w4.cell? ⟨C, i + 1, none⟩ = some old := by
        rw [cell_of_row _ _ _ _ _ _ C4.out]
        match i, (show i < 4 by omega) with
        | 0, _ => exact ⟨_, rfl⟩
        | 1, _ => exact ⟨_, rfl⟩
        | 2, _ => exact ⟨_, rfl⟩
        | 3, _ => exact ⟨_, rfl⟩
      obtain ⟨old, hold⟩ := hc4
      have hold' : w4.cell? ⟨C, 1 + i, none⟩ = some old := by rw [Nat.add_comm]; exact hold
      have hfz : w4.frozen? ⟨C, i + 1, none⟩ = false := frozen_of_row _ _ _ _ _ C4.out
      have hfz' : w4.frozen? ⟨C, 1 + i, none⟩ = false := frozen_of_row _ _ _ _ _ C4.out
      go_wp2_with fail
      go_roundw
      case rel =>
        refine ⟨i + 1, by go_num, by omega, D4.out.set HBC.out, grown_new G4.out _ _ _ (Nat.le_of_lt HRC.out), ?_, ?_⟩
        · rw [Below.heap_setCell _ _ _ _ (by have := HRC.out; simp; omega)]; exact R4.out
        · rw [heap_setCell_same _ _ _ _ _ _ C4.out, ← HY.out]
          match i, (show i < 4 by omega) with
          | 0, _ => rfl
          | 1, _ => rfl
          | 2, _ => rfl
          | 3, _ => rfl
      case measure => simp [intOf]; omega
    · obtain rfl : i = 4 := by omega
      have C8 : Hid (wr.heap[C]? = some (.cells #[.string tx, .int .i64 (f 0), .int .i64 (f 1), .int .i64 (f 2), .int .i64 (f 3)] 100 (0, 0))) := HCb
      clear HCb
      generalize f 0 = y0 at C8 HT
      generalize f 1 = y1 at C8 HT
      generalize f 2 = y2 at C8 HT
      generalize f 3 = y3 at C8 HT
      obtain ⟨f0, z0, f1, z1, f2, z2, f3, z3, f4, z4, hF⟩ := five_cells HRb.out (.string tx) (.int .i64 y0) (.int .i64 y1) (.int .i64 y2) (.int .i64 y3)
      have HF := hid hF
      clear hF
      have c0 : wr.cell? ⟨C, 0, none⟩ = some (.string tx) := by rw [cell_of_row _ _ _ _ _ _ C8.out]; rfl
      have c1 : wr.cell? ⟨C, 1, none⟩ = some (.int .i64 y0) := by rw [cell_of_row _ _ _ _ _ _ C8.out]; rfl
      have c2 : wr.cell? ⟨C, 2, none⟩ = some (.int .i64 y1) := by rw [cell_of_row _ _ _ _ _ _ C8.out]; rfl
      have c3 : wr.cell? ⟨C, 3, none⟩ = some (.int .i64 y2) := by rw [cell_of_row _ _ _ _ _ _ C8.out]; rfl
      have c4 : wr.cell? ⟨C, 4, none⟩ = some (.int .i64 y3) := by rw [cell_of_row _ _ _ _ _ _ C8.out]; rfl
      go_wp2_with fail
      (try simp only [Exit.inBlock, Exit.then])
      refine bodyPost_ret (results_cellR rfl _ _ w.heap.size _ _ _ _ _ _ _ rfl HF.out) rfl ?_
      rw [HT.out]
      refine ⟨rfl, ?_, ?_⟩
      · exact ((((HRD.out.set hlt).set hlt).set hlt).set hlt).set hlt
      · exact grown_new (grown_new (grown_new (grown_new (grown_new HGR.out _ _ _ (Nat.le_refl _)) _ _ _ (Nat.le_refl _)) _ _ _ (Nat.le_refl _)) _ _ _ (Nat.le_refl _)) _ _ _ (Nat.le_refl _)
end Go.Proofs.Ytabmnelenfghhaa
