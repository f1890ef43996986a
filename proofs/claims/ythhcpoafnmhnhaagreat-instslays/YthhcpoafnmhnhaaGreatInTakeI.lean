/- What Take of an instance answers: the instance that is read, or one of nothing. Conditions: the Reader lies in memory. -/
import Derived.Test.YthhcpoafnmhnhaaGreatInTakeR
import Derived.Test.YthhcpoafnmhnhaaGreatInHeads
import Derived.Test.YthhcpoafnmhnhaaGreatInKnown
import Derived.Test.YthhcpoafnmhnhaaGreatInLayI
import Derived.Test.YthhcpoafnmhnhaaGreatInRPut
namespace Go.Proofs.YthhcpoafnmhnhaaGreat
open Go.RowKit
set_option linter.unusedVariables false
set_option linter.unusedSimpArgs false

/-- The Reader behind i ints. -/
def hdS (s : Option (List UInt8)) : Nat → Option (List UInt8)
  | 0 => s
  | i + 1 => intS (hdS s i)
def hdY (f : Nat → Int) (i j : Nat) : Int := if j < i then f j else 0
def hdF (s : Option (List UInt8)) (j : Nat) : Int := intV (hdS s j)
def tiG (s : Option (List UInt8)) : Option (List (Int × Int)) × Option (List UInt8) := getR rfV rfS (intS (tkG (boolS (hdS s 7))).2)
/-- What is known behind i heads. -/
def tiH (f : Nat → Int) (i : Nat) : InD := ⟨(hdY f i 0, hdY f i 1), (hdY f i 2, hdY f i 3), (hdY f i 4, hdY f i 5), hdY f i 6, false, ⟨0, 0, 0, 0, 0, []⟩, 0, []⟩
theorem tiH_set (f : Nat → Int) (a b : Value) (i : Nat) (hi : i < 7) : (instC (tiH f i) a b).setIfInBounds i (.int .i64 (f i)) = instC (tiH f (i + 1)) a b := by
  match i, hi with
  | 0, _ => rfl
  | 1, _ => rfl
  | 2, _ => rfl
  | 3, _ => rfl
  | 4, _ => rfl
  | 5, _ => rfl
  | 6, _ => rfl
theorem tiH_cell (f : Nat → Int) (a b : Value) (i : Nat) (hi : i < 7) : ∃ old, (instC (tiH f i) a b)[i]? = some old := by
  match i, hi with
  | 0, _ => exact ⟨_, rfl⟩
  | 1, _ => exact ⟨_, rfl⟩
  | 2, _ => exact ⟨_, rfl⟩
  | 3, _ => exact ⟨_, rfl⟩
  | 4, _ => exact ⟨_, rfl⟩
  | 5, _ => exact ⟨_, rfl⟩
  | 6, _ => exact ⟨_, rfl⟩
theorem headP_at (C i : Nat) (hi : i < 7) : (headP C)[i]? = some (.pointer (some ⟨C, i, none⟩)) := by
  match i, hi with
  | 0, _ => rfl
  | 1, _ => rfl
  | 2, _ => rfl
  | 3, _ => rfl
  | 4, _ => rfl
  | 5, _ => rfl
  | 6, _ => rfl
theorem tiH_zero (f : Nat → Int) : tiH f 0 = zeroI := rfl
def mkX (x : InD) (s : Option (List UInt8)) : InD :=
  match (getR rfV rfS (intS (tkG (boolS s)).2)).1 with
  | none => zeroI
  | some acc => { x with same := boolV s, cmd := takeC (boolS s), seq := intV (tkG (boolS s)).2, deps := acc }
def takeX (s : Option (List UInt8)) : InD := mkX (tiH (hdF s) 7) (hdS s 7)
/-- The six cells of a command within an instance are written. -/
theorem cmd_cells {w : World} {C : Nat} {t : TypeId} {x : InD} {u v : Value} (h : w.heap[C]? = some (.cells (instC x u v) t (0, 0))) (v0 v1 v2 v3 v4 v5 : Value) :
    w.cell? ⟨C, 8, none⟩ = some (.int .i64 x.cmd.op) ∧ w.frozen? ⟨C, 8, none⟩ = false ∧ (w.setCell ⟨C, 8, none⟩ v0).cell? ⟨C, 9, none⟩ = some (.int .i64 x.cmd.client) ∧ (w.setCell ⟨C, 8, none⟩ v0).frozen? ⟨C, 9, none⟩ = false ∧ ((w.setCell ⟨C, 8, none⟩ v0).setCell ⟨C, 9, none⟩ v1).cell? ⟨C, 10, none⟩ = some (.int .i64 x.cmd.seq) ∧ ((w.setCell ⟨C, 8, none⟩ v0).setCell ⟨C, 9, none⟩ v1).frozen? ⟨C, 10, none⟩ = false ∧ (((w.setCell ⟨C, 8, none⟩ v0).setCell ⟨C, 9, none⟩ v1).setCell ⟨C, 10, none⟩ v2).cell? ⟨C, 11, none⟩ = some (.int .i64 x.cmd.from') ∧ (((w.setCell ⟨C, 8, none⟩ v0).setCell ⟨C, 9, none⟩ v1).setCell ⟨C, 10, none⟩ v2).frozen? ⟨C, 11, none⟩ = false ∧ ((((w.setCell ⟨C, 8, none⟩ v0).setCell ⟨C, 9, none⟩ v1).setCell ⟨C, 10, none⟩ v2).setCell ⟨C, 11, none⟩ v3).cell? ⟨C, 12, none⟩ = some (.int .i64 x.cmd.to) ∧ ((((w.setCell ⟨C, 8, none⟩ v0).setCell ⟨C, 9, none⟩ v1).setCell ⟨C, 10, none⟩ v2).setCell ⟨C, 11, none⟩ v3).frozen? ⟨C, 12, none⟩ = false ∧ (((((w.setCell ⟨C, 8, none⟩ v0).setCell ⟨C, 9, none⟩ v1).setCell ⟨C, 10, none⟩ v2).setCell ⟨C, 11, none⟩ v3).setCell ⟨C, 12, none⟩ v4).cell? ⟨C, 13, none⟩ = some (u) ∧ (((((w.setCell ⟨C, 8, none⟩ v0).setCell ⟨C, 9, none⟩ v1).setCell ⟨C, 10, none⟩ v2).setCell ⟨C, 11, none⟩ v3).setCell ⟨C, 12, none⟩ v4).frozen? ⟨C, 13, none⟩ = false ∧ ((((((w.setCell ⟨C, 8, none⟩ v0).setCell ⟨C, 9, none⟩ v1).setCell ⟨C, 10, none⟩ v2).setCell ⟨C, 11, none⟩ v3).setCell ⟨C, 12, none⟩ v4).setCell ⟨C, 13, none⟩ v5).heap[C]? = some (.cells #[.int .i64 x.ref.1, .int .i64 x.ref.2, .int .i64 x.bal.1, .int .i64 x.bal.2, .int .i64 x.vote.1, .int .i64 x.vote.2, .int .i64 x.st, .bool x.same, v0, v1, v2, v3, v4, v5, .int .i64 x.seq, v] t (0, 0)) := by
  unfold instC at h
  have h0 : (w.setCell ⟨C, 8, none⟩ v0).heap[C]? = some (.cells #[.int .i64 x.ref.1, .int .i64 x.ref.2, .int .i64 x.bal.1, .int .i64 x.bal.2, .int .i64 x.vote.1, .int .i64 x.vote.2, .int .i64 x.st, .bool x.same, v0, .int .i64 x.cmd.client, .int .i64 x.cmd.seq, .int .i64 x.cmd.from', .int .i64 x.cmd.to, u, .int .i64 x.seq, v] t (0, 0)) := by rw [heap_setCell_same _ C 8 _ _ v0 h]; rfl
  have h1 : ((w.setCell ⟨C, 8, none⟩ v0).setCell ⟨C, 9, none⟩ v1).heap[C]? = some (.cells #[.int .i64 x.ref.1, .int .i64 x.ref.2, .int .i64 x.bal.1, .int .i64 x.bal.2, .int .i64 x.vote.1, .int .i64 x.vote.2, .int .i64 x.st, .bool x.same, v0, v1, .int .i64 x.cmd.seq, .int .i64 x.cmd.from', .int .i64 x.cmd.to, u, .int .i64 x.seq, v] t (0, 0)) := by rw [heap_setCell_same _ C 9 _ _ v1 h0]; rfl
  have h2 : (((w.setCell ⟨C, 8, none⟩ v0).setCell ⟨C, 9, none⟩ v1).setCell ⟨C, 10, none⟩ v2).heap[C]? = some (.cells #[.int .i64 x.ref.1, .int .i64 x.ref.2, .int .i64 x.bal.1, .int .i64 x.bal.2, .int .i64 x.vote.1, .int .i64 x.vote.2, .int .i64 x.st, .bool x.same, v0, v1, v2, .int .i64 x.cmd.from', .int .i64 x.cmd.to, u, .int .i64 x.seq, v] t (0, 0)) := by rw [heap_setCell_same _ C 10 _ _ v2 h1]; rfl
  have h3 : ((((w.setCell ⟨C, 8, none⟩ v0).setCell ⟨C, 9, none⟩ v1).setCell ⟨C, 10, none⟩ v2).setCell ⟨C, 11, none⟩ v3).heap[C]? = some (.cells #[.int .i64 x.ref.1, .int .i64 x.ref.2, .int .i64 x.bal.1, .int .i64 x.bal.2, .int .i64 x.vote.1, .int .i64 x.vote.2, .int .i64 x.st, .bool x.same, v0, v1, v2, v3, .int .i64 x.cmd.to, u, .int .i64 x.seq, v] t (0, 0)) := by rw [heap_setCell_same _ C 11 _ _ v3 h2]; rfl
  have h4 : (((((w.setCell ⟨C, 8, none⟩ v0).setCell ⟨C, 9, none⟩ v1).setCell ⟨C, 10, none⟩ v2).setCell ⟨C, 11, none⟩ v3).setCell ⟨C, 12, none⟩ v4).heap[C]? = some (.cells #[.int .i64 x.ref.1, .int .i64 x.ref.2, .int .i64 x.bal.1, .int .i64 x.bal.2, .int .i64 x.vote.1, .int .i64 x.vote.2, .int .i64 x.st, .bool x.same, v0, v1, v2, v3, v4, u, .int .i64 x.seq, v] t (0, 0)) := by rw [heap_setCell_same _ C 12 _ _ v4 h3]; rfl
  have h5 : ((((((w.setCell ⟨C, 8, none⟩ v0).setCell ⟨C, 9, none⟩ v1).setCell ⟨C, 10, none⟩ v2).setCell ⟨C, 11, none⟩ v3).setCell ⟨C, 12, none⟩ v4).setCell ⟨C, 13, none⟩ v5).heap[C]? = some (.cells #[.int .i64 x.ref.1, .int .i64 x.ref.2, .int .i64 x.bal.1, .int .i64 x.bal.2, .int .i64 x.vote.1, .int .i64 x.vote.2, .int .i64 x.st, .bool x.same, v0, v1, v2, v3, v4, v5, .int .i64 x.seq, v] t (0, 0)) := by rw [heap_setCell_same _ C 13 _ _ v5 h4]; rfl
  refine ⟨?_, ?_, ?_, ?_, ?_, ?_, ?_, ?_, ?_, ?_, ?_, ?_, h5⟩
  · rw [cell_of_row _ _ _ _ _ _ h]; rfl
  · exact frozen_of_row _ _ _ _ _ h
  · rw [cell_of_row _ _ _ _ _ _ h0]; rfl
  · exact frozen_of_row _ _ _ _ _ h0
  · rw [cell_of_row _ _ _ _ _ _ h1]; rfl
  · exact frozen_of_row _ _ _ _ _ h1
  · rw [cell_of_row _ _ _ _ _ _ h2]; rfl
  · exact frozen_of_row _ _ _ _ _ h2
  · rw [cell_of_row _ _ _ _ _ _ h3]; rfl
  · exact frozen_of_row _ _ _ _ _ h3
  · rw [cell_of_row _ _ _ _ _ _ h4]; rfl
  · exact frozen_of_row _ _ _ _ _ h4
theorem Rd.row {w : World} {b R : Nat} {s : Option (List UInt8)} (h : Rd w b s) (hR : b < R) (cs : Array Value) : Rd (w.setRow R cs) b s := h.beyond fun k hk => setRow_other _ _ _ _ (by omega)
theorem grown_row {w w' : World} {r : Option Nat} (h : w.grownBy w' r) (R : Nat) (cs : Array Value) (hR : w.heap.size ≤ R) : w.grownBy (w'.setRow R cs) r :=
  ⟨h.os, h.tape, h.output, by simpa using h.size, fun k hk hr => (setRow_other _ _ _ _ (by omega)).trans (h.block k hk hr)⟩
theorem set_same (x : InD) (u v : Value) (c : Bool) : (instC x u v).setIfInBounds 7 (.bool c) = instC { x with same := c } u v := rfl
theorem set_seq (x : InD) (u v : Value) (c : Int) : (instC x u v).setIfInBounds 14 (.int .i64 c) = instC { x with seq := c } u v := rfl
theorem set_deps (x : InD) (u v v' : Value) (d : List (Int × Int)) : (instC x u v).setIfInBounds 15 v' = instC { x with deps := d } u v' := rfl
/-- A row of texts stands where a block that holds no text is turned. -/
theorem strs_turn {w w' : World} {z : Nat} {cs : Array Value} {t : TypeId} {fr : Nat × Nat} {v : Value} {l : List ByteArray} (hs : Strs w v l) (hz : w.heap[z]? = some (.cells cs t fr)) (hn : ∀ s, Value.string s ∉ cs) (hk : ∀ q, q < w.heap.size → q ≠ z → w'.heap[q]? = w.heap[q]?) : Strs w' v l := by
  obtain ⟨ao, n, cap, rfl, h1, h2, h3, h4, h5⟩ := hs
  refine ⟨ao, n, cap, rfl, h1, h2, h3, h4, fun ad had j hj => ?_⟩
  have hc := h5 ad had j hj
  have hne : (ad.add j).block ≠ z := by
    intro e
    unfold World.cell? at hc
    rw [e, hz] at hc
    simp only at hc
    split at hc
    · cases hc
    · exact hn _ (Array.mem_of_getElem? hc)
  exact (World.cell?_of_block (hk _ (World.block_lt_of_cell? _ _ hc) hne)).trans hc
theorem rd_turn {w w' : World} {b : Nat} {s : Option (List UInt8)} {v : Value} {l : List ByteArray} (hs : Strs w v l) (hr : Rd w b s) (hg : w.grownBy w' (some b)) : Strs w' v l := by
  obtain ⟨ao, cap, h⟩ := hr.cells
  refine strs_turn hs h (fun s hm => by simp at hm) fun q hq hne => hg.block q hq (fun e => hne (Option.some.inj e))
theorem inst_turn {w w' : World} {z : Nat} {x : InD} {ua va : Option Addr} {un uc vn vc : Nat} {t : TypeId} {fr : Nat × Nat} {v : Value} {l : List ByteArray} (hs : Strs w v l) (hz : w.heap[z]? = some (.cells (instC x (.slice ua un uc) (.slice va vn vc)) t fr)) (hk : ∀ q, q < w.heap.size → q ≠ z → w'.heap[q]? = w.heap[q]?) : Strs w' v l :=
  strs_turn hs hz (fun s hm => by simp [instC] at hm) hk
set_option maxRecDepth 100000 in
set_option maxHeartbeats 4000000 in
theorem takeInst_any (b : Nat) (s : Option (List UInt8)) (w : World) (hr : Rd w b s) :
    Calls Tryz.prog 10 #[.pointer (some ⟨b, 0, none⟩)] w fun e w' => ∃ u v, e = .returned (instV (takeX s) u v) ∧ InM w' (takeX s) u v ∧ Rd w' b (tiG s).2 ∧ w.grownBy w' (some b) := by
  have hlt := hr.lt
  obtain ⟨w0, hw0⟩ : ∃ w0, w0 = (w.alloc (.cells (instC zeroI (.slice none 0 0) (.slice none 0 0)) 31)).alloc (.cells (instC zeroI (.slice none 0 0) (.slice none 0 0)) 31) := ⟨_, rfl⟩
  have b0 : Below w.heap.size w w0 := by rw [hw0]; exact ((Below.refl _ _).alloc (Nat.le_refl _) _).alloc (by simp) _
  have hR0 : w0.heap[w.heap.size]? = some (.cells (instC zeroI (.slice none 0 0) (.slice none 0 0)) 31 (0, 0)) := by rw [hw0]; exact heap_alloc2_old _ _ _
  have hC0 : w0.heap[w.heap.size + 1]? = some (.cells (instC zeroI (.slice none 0 0) (.slice none 0 0)) 31 (0, 0)) := by rw [hw0]; exact heap_alloc2_new _ _ _
  have D0 := hid (hr.kept b0)
  have G0 := hid (grown_of (r := some b) b0)
  have HW0 := hid hw0
  clear hw0 b0 hr
  unfold instC zeroI at HW0
  simp only at HW0
  go_enter Tryz.func10, Tryz.ntmps10
  go_upto_region 2 with fail
  rw [← HW0.out]
  obtain ⟨R, hR⟩ : ∃ R, R = w.heap.size := ⟨_, rfl⟩
  obtain ⟨C, hC⟩ : ∃ C, C = w.heap.size + 1 := ⟨_, rfl⟩
  rw [← hR] at hR0
  rw [← hC] at hC0
  rw [← hC, ← hR]
  have HRC : Hid (w.heap.size ≤ R ∧ w.heap.size ≤ C ∧ R ≠ C ∧ b < R ∧ b < C) := hid (by omega)
  have R0 := hid hR0
  have C0 := hid hC0
  clear hR hC HW0 hR0 hC0
  go_wp2_with fail
  refine (heads_any C w0).mono ?_
  rintro e w1 ⟨rfl, hH, hb1⟩
  have D1 := hid (D0.out.kept hb1)
  have G1 := hid (grown_trans G0.out (grown_of (r := some b) hb1))
  have R1 := hid ((hb1.block R (lt_of_block R0.out)).trans R0.out)
  have C1 : Hid (w1.heap[C]? = some (.cells (instC (tiH (hdF s) 0) (.slice none 0 0) (.slice none 0 0)) 31 (0, 0))) := hid (by rw [tiH_zero]; exact (hb1.block C (lt_of_block C0.out)).trans C0.out)
  have HHC : Hid (C < w0.heap.size ∧ R < w0.heap.size ∧ b < w0.heap.size) := hid ⟨lt_of_block C0.out, lt_of_block R0.out, D0.out.lt⟩
  obtain ⟨H, hHe⟩ : ∃ H, H = w0.heap.size := ⟨_, rfl⟩
  rw [← hHe] at hH HHC
  rw [← hHe]
  have H1 := hid hH
  clear hH hb1 hHe D0 G0 R0 C0
  go_wp2_with fail
  go_loopw [5, 8] (fun _ iv wr => ∃ i : Nat, iv = .int .i64 i ∧ i ≤ 7 ∧ Rd wr b (hdS s i) ∧ w.grownBy wr (some b) ∧ wr.heap[R]? = some (.cells (instC zeroI (.slice none 0 0) (.slice none 0 0)) 31 (0, 0)) ∧
    wr.heap[C]? = some (.cells (instC (tiH (hdF s) i) (.slice none 0 0) (.slice none 0 0)) 31 (0, 0)) ∧ wr.heap[H]? = some (.cells (headP C) 58 (0, 0))) (fun _ iv _ => 7 - (intOf iv).toNat)
  case atStart => exact ⟨0, rfl, Nat.zero_le _, D1.out, G1.out, R1.out, C1.out, H1.out⟩
  case round =>
    obtain ⟨i, rfl, hi, hrd, hgr, hR, hCb, hHb⟩ := hrel
    have HRD := hid hrd
    have HGR := hid hgr
    have HRb := hid hR
    have HCb := hid hCb
    have HHb := hid hHb
    clear hrd hgr hR hCb hHb D1 G1 R1 C1 H1
    by_cases hlt7 : (i : Int) < 7
    · have hck : wr.cell? ⟨H, i, none⟩ = some (.pointer (some ⟨C, i, none⟩)) := by
        rw [cell_of_row _ _ _ _ _ _ HHb.out]; exact headP_at C i (by omega)
      go_wp2_with fail
      refine (rint_any _ _ _ HRD.out).mono ?_
      rintro e w4 ⟨rfl, hr4, hg4⟩
      have D4 : Hid (Rd w4 b (hdS s (i + 1))) := hid hr4
      have G4 := hid (grown_trans HGR.out hg4)
      have R4 := hid ((hg4.block R (lt_of_block HRb.out) (by have := HRC.out; simp; omega)).trans HRb.out)
      have C4 := hid ((hg4.block C (lt_of_block HCb.out) (by have := HRC.out; simp; omega)).trans HCb.out)
      have H4 := hid ((hg4.block H (lt_of_block HHb.out) (by have := HHC.out; simp; omega)).trans HHb.out)
      clear hr4 hg4 HRD HGR HRb HCb HHb hck
      obtain ⟨y, hy⟩ : ∃ y, y = hdF s i := ⟨_, rfl⟩
      rw [show intV (hdS s i) = hdF s i from rfl, ← hy]
      have HY := hid hy
      clear hy
      have hc4 : ∃ old, w4.cell? ⟨C, i, none⟩ = some old := by
        rw [cell_of_row _ _ _ _ _ _ C4.out]; exact tiH_cell _ _ _ i (by omega)
      obtain ⟨old, hold⟩ := hc4
      have hfz : w4.frozen? ⟨C, i, none⟩ = false := frozen_of_row _ _ _ _ _ C4.out
      go_wp2_with fail
      go_roundw
      case rel =>
        refine ⟨i + 1, by go_num, by omega, D4.out.set HRC.out.2.2.2.2, grown_new G4.out _ _ _ HRC.out.2.1, ?_, ?_, ?_⟩
        · rw [Below.heap_setCell _ _ _ _ (by have := HRC.out; simp; omega)]; exact R4.out
        · rw [heap_setCell_same _ _ _ _ _ _ C4.out, HY.out, tiH_set _ _ _ i (by omega)]
        · rw [Below.heap_setCell _ _ _ _ (by have := HHC.out; simp; omega)]; exact H4.out
      case measure => simp [intOf]; omega
    · obtain rfl : i = 7 := by omega
      obtain ⟨s7, x7, HX7, HTG, HS7, HE7⟩ : ∃ s7 x7, Hid (takeX s = mkX x7 s7) ∧ Hid ((tiG s).2 = (getR rfV rfS (intS (tkG (boolS s7)).2)).2) ∧ s7 = hdS s 7 ∧ x7 = tiH (hdF s) 7 := ⟨_, _, hid rfl, hid rfl, rfl, rfl⟩
      rw [← HS7] at HRD
      rw [← HE7] at HCb
      clear HS7 HE7
      unfold mkX at HX7
      go_wp2_with fail
      refine (rbool_any _ _ _ HRD.out).mono ?_
      rintro e w5 ⟨rfl, hr5, hg5⟩
      have D5 := hid hr5
      have G5 := hid (grown_trans HGR.out hg5)
      have R5 := hid ((hg5.block R (lt_of_block HRb.out) (by have := HRC.out; simp; omega)).trans HRb.out)
      have C5 := hid ((hg5.block C (lt_of_block HCb.out) (by have := HRC.out; simp; omega)).trans HCb.out)
      clear hr5 hg5 HRD HGR HRb HCb HHb
      generalize boolV s7 = bv at HX7 ⊢
      generalize boolS s7 = s8 at HX7 HTG D5
      have c7 : w5.cell? ⟨C, 7, none⟩ = some (.bool x7.same) := by rw [cell_of_row _ _ _ _ _ _ C5.out]; rfl
      have f7 : w5.frozen? ⟨C, 7, none⟩ = false := frozen_of_row _ _ _ _ _ C5.out
      obtain ⟨w6, hw6⟩ : ∃ w6, w6 = w5.setCell ⟨C, 7, none⟩ (.bool bv) := ⟨_, rfl⟩
      have C6 : Hid (w6.heap[C]? = some (.cells (instC { x7 with same := bv } (.slice none 0 0) (.slice none 0 0)) 31 (0, 0))) := hid (by rw [hw6, heap_setCell_same _ _ _ _ _ _ C5.out, set_same])
      have D6 : Hid (Rd w6 b s8) := hid (by rw [hw6]; exact D5.out.set HRC.out.2.2.2.2)
      have G6 : Hid (w.grownBy w6 (some b)) := hid (by rw [hw6]; exact grown_new G5.out _ _ _ HRC.out.2.1)
      have R6 : Hid (w6.heap[R]? = some (.cells (instC zeroI (.slice none 0 0) (.slice none 0 0)) 31 (0, 0))) := hid (by rw [hw6, Below.heap_setCell _ _ _ _ (by have := HRC.out; simp; omega)]; exact R5.out)
      have HW6 := hid hw6
      clear hw6 D5 G5 R5
      go_upto_region 8 with fail
      rw [← HW6.out]
      clear c7 f7 HW6 C5
      go_wp2_with fail
      refine (takeCmd_any b s8 w6 D6.out).mono ?_
      rintro e w7 ⟨u, rfl, hu7, hr7, hg7⟩
      obtain ⟨ua, uc, rfl⟩ := hu7.shape
      have U7 := hid hu7
      have D7 := hid hr7
      have G7 := hid (grown_trans G6.out hg7)
      have R7 := hid ((hg7.block R (lt_of_block R6.out) (by have := HRC.out; simp; omega)).trans R6.out)
      have C7 := hid ((hg7.block C (lt_of_block C6.out) (by have := HRC.out; simp; omega)).trans C6.out)
      clear hu7 hr7 hg7 D6 G6 R6 C6
      generalize takeC s8 = cm at HX7 U7 ⊢
      generalize (tkG s8).2 = s9 at HX7 HTG D7
      obtain ⟨m0, m1, m2, m3, m4, md⟩ := cm
      unfold cmdV
      simp only at U7 ⊢
      obtain ⟨f8, z8, f9, z9, f10, z10, f11, z11, f12, z12, f13, z13, hF⟩ := cmd_cells C7.out (.int .i64 m0) (.int .i64 m1) (.int .i64 m2) (.int .i64 m3) (.int .i64 m4) (.slice ua md.length uc)
      have hI7 : ∀ X, (∀ q, q < w7.heap.size → q ≠ C → X.heap[q]? = w7.heap[q]?) → Strs X (.slice ua md.length uc) md := fun X hX => inst_turn U7.out C7.out hX
      obtain ⟨w8, hw8⟩ : ∃ w8, w8 = ((((((w7.setCell ⟨C, 8, none⟩ (.int .i64 m0)).setCell ⟨C, 9, none⟩ (.int .i64 m1)).setCell ⟨C, 10, none⟩ (.int .i64 m2)).setCell ⟨C, 11, none⟩ (.int .i64 m3)).setCell ⟨C, 12, none⟩ (.int .i64 m4)).setCell ⟨C, 13, none⟩ (.slice ua md.length uc)) := ⟨_, rfl⟩
      have hoth : ∀ q, q ≠ C → w8.heap[q]? = w7.heap[q]? := fun q hq => by
        rw [hw8]
        exact (Below.heap_setCell _ _ _ _ hq).trans ((Below.heap_setCell _ _ _ _ hq).trans ((Below.heap_setCell _ _ _ _ hq).trans ((Below.heap_setCell _ _ _ _ hq).trans ((Below.heap_setCell _ _ _ _ hq).trans (Below.heap_setCell _ _ _ _ hq)))))
      have C8 : Hid (w8.heap[C]? = some (.cells (instC { x7 with same := bv, cmd := ⟨m0, m1, m2, m3, m4, md⟩ } (.slice ua md.length uc) (.slice none 0 0)) 31 (0, 0))) := hid (by rw [hw8, hF]; rfl)
      have D8 : Hid (Rd w8 b s9) := hid (by rw [hw8]; exact (((((D7.out.set HRC.out.2.2.2.2).set HRC.out.2.2.2.2).set HRC.out.2.2.2.2).set HRC.out.2.2.2.2).set HRC.out.2.2.2.2).set HRC.out.2.2.2.2)
      have G8 : Hid (w.grownBy w8 (some b)) := hid (by rw [hw8]; exact grown_new (grown_new (grown_new (grown_new (grown_new (grown_new G7.out _ _ _ HRC.out.2.1) _ _ _ HRC.out.2.1) _ _ _ HRC.out.2.1) _ _ _ HRC.out.2.1) _ _ _ HRC.out.2.1) _ _ _ HRC.out.2.1)
      have R8 : Hid (w8.heap[R]? = some (.cells (instC zeroI (.slice none 0 0) (.slice none 0 0)) 31 (0, 0))) := hid ((hoth R HRC.out.2.2.1).trans R7.out)
      have U8 : Hid (Strs w8 (.slice ua md.length uc) md) := hid (hI7 w8 fun q _ hq => hoth q hq)
      have HW8 := hid hw8
      clear hw8 hoth hI7 hF D7 G7 R7 U7
      have HTH : Hid (w7.there C 8 6) := hid fun j hj => by
        match j, hj with
        | 0, _ => exact ⟨by rw [f8]; rfl, frozen_of_row _ _ _ _ _ C7.out⟩
        | 1, _ => exact ⟨by rw [cell_of_row _ _ _ _ _ _ C7.out]; rfl, frozen_of_row _ _ _ _ _ C7.out⟩
        | 2, _ => exact ⟨by rw [cell_of_row _ _ _ _ _ _ C7.out]; rfl, frozen_of_row _ _ _ _ _ C7.out⟩
        | 3, _ => exact ⟨by rw [cell_of_row _ _ _ _ _ _ C7.out]; rfl, frozen_of_row _ _ _ _ _ C7.out⟩
        | 4, _ => exact ⟨by rw [cell_of_row _ _ _ _ _ _ C7.out]; rfl, frozen_of_row _ _ _ _ _ C7.out⟩
        | 5, _ => exact ⟨by rw [cell_of_row _ _ _ _ _ _ C7.out]; rfl, frozen_of_row _ _ _ _ _ C7.out⟩
      clear f8 z8 f9 z9 f10 z10 f11 z11 f12 z12 f13 z13
      obtain ⟨mc, hmc⟩ : ∃ mc : Array Value, mc = #[.int .i64 m0, .int .i64 m1, .int .i64 m2, .int .i64 m3, .int .i64 m4, .slice ua md.length uc] := ⟨_, rfl⟩
      rw [← hmc]
      have hm6 : mc.size = 6 := by rw [hmc]; rfl
      have hmo : mc.all (·.oneCell') = true := by rw [hmc]; simp [Value.oneCell']
      have HM8 : Hid (w7.setCells C 8 mc.toList = w8) := hid (by rw [HW8.out, hmc]; rfl)
      have HSC : Hid ((Tryz.prog.info? 28).map (·.size) = some mc.size) := hid (by rw [hm6]; exact Tryz.sizeCmd)
      rw [← hm6] at HTH
      clear hmc HW8
      go_upto_region 9 with (refine wpList_store_mid rfl 28 _ _ rfl C 8 mc rfl rfl HTH.out HSC.out hmo ?_)
      rw [HM8.out]
      clear HTH HM8 HSC C7
      obtain ⟨x8, hx8⟩ : ∃ x8 : InD, x8 = { x7 with same := bv, cmd := ⟨m0, m1, m2, m3, m4, md⟩ } := ⟨_, rfl⟩
      rw [← hx8] at C8
      have HX8 : Hid (takeX s = match (getR rfV rfS (intS s9)).1 with | none => zeroI | some acc => { x8 with seq := intV s9, deps := acc }) := hid (by rw [HX7.out, hx8])
      have HD8 : Hid (x8.cmd.data = md) := hid (by rw [hx8])
      clear hx8 HX7
      go_wp2_with fail
      refine (rint_any _ _ _ D8.out).mono ?_
      rintro e w9 ⟨rfl, hr9, hg9⟩
      have U9 := hid (rd_turn U8.out D8.out hg9)
      have D9 := hid hr9
      have G9 := hid (grown_trans G8.out hg9)
      have R9 := hid ((hg9.block R (lt_of_block R8.out) (by have := HRC.out; simp; omega)).trans R8.out)
      have C9 := hid ((hg9.block C (lt_of_block C8.out) (by have := HRC.out; simp; omega)).trans C8.out)
      clear hr9 hg9 D8 G8 R8 C8 U8
      generalize intV s9 = sq at HX8 ⊢
      generalize intS s9 = s10 at HX8 HTG D9
      have c14 : w9.cell? ⟨C, 14, none⟩ = some (.int .i64 x8.seq) := by rw [cell_of_row _ _ _ _ _ _ C9.out]; rfl
      have f14 : w9.frozen? ⟨C, 14, none⟩ = false := frozen_of_row _ _ _ _ _ C9.out
      obtain ⟨wa, hwa⟩ : ∃ wa, wa = w9.setCell ⟨C, 14, none⟩ (.int .i64 sq) := ⟨_, rfl⟩
      have Ca : Hid (wa.heap[C]? = some (.cells (instC { x8 with seq := sq } (.slice ua md.length uc) (.slice none 0 0)) 31 (0, 0))) := hid (by rw [hwa, heap_setCell_same _ _ _ _ _ _ C9.out, set_seq])
      have Da : Hid (Rd wa b s10) := hid (by rw [hwa]; exact D9.out.set HRC.out.2.2.2.2)
      have Ga : Hid (w.grownBy wa (some b)) := hid (by rw [hwa]; exact grown_new G9.out _ _ _ HRC.out.2.1)
      have Ra : Hid (wa.heap[R]? = some (.cells (instC zeroI (.slice none 0 0) (.slice none 0 0)) 31 (0, 0))) := hid (by rw [hwa, Below.heap_setCell _ _ _ _ (by have := HRC.out; simp; omega)]; exact R9.out)
      have Ua : Hid (Strs wa (.slice ua md.length uc) md) := hid (by rw [hwa]; exact inst_turn U9.out C9.out fun q _ hq => Below.heap_setCell _ _ _ _ hq)
      have HWa := hid hwa
      clear hwa D9 G9 R9 U9
      go_upto_region 10 with fail
      rw [← HWa.out]
      clear c14 f14 HWa C9
      go_wp2_with fail
      refine (getR_any _ _ _ Da.out).mono ?_
      rintro e wb ⟨va, n, vc, rfl, hv, hrb, hgb⟩
      have Ub := hid (rd_turn Ua.out Da.out hgb)
      have Vb := hid hv
      have Db := hid hrb
      have Gb := hid (grown_trans Ga.out hgb)
      have Rb := hid ((hgb.block R (lt_of_block Ra.out) (by have := HRC.out; simp; omega)).trans Ra.out)
      have Cb := hid ((hgb.block C (lt_of_block Ca.out) (by have := HRC.out; simp; omega)).trans Ca.out)
      have hCl := lt_of_block Ca.out
      have hRl0 := lt_of_block Ra.out
      clear hv hrb hgb Da Ga Ra Ca Ua
      have HGS := hid (getR_shape rfV rfS s10)
      generalize getR rfV rfS s10 = gg at HX8 HTG Vb Db HGS
      have c15 : wb.cell? ⟨C, 15, none⟩ = some (.slice none 0 0) := by rw [cell_of_row _ _ _ _ _ _ Cb.out]; rfl
      have f15 : wb.frozen? ⟨C, 15, none⟩ = false := frozen_of_row _ _ _ _ _ Cb.out
      obtain ⟨wc, hwc⟩ : ∃ wc, wc = wb.setCell ⟨C, 15, none⟩ (.slice va n vc) := ⟨_, rfl⟩
      have Cc : Hid (wc.heap[C]? = some (.cells (instC { x8 with seq := sq } (.slice ua md.length uc) (.slice va n vc)) 31 (0, 0))) := hid (by rw [hwc, heap_setCell_same _ _ _ _ _ _ Cb.out]; rfl)
      have Dc : Hid (Rd wc b gg.2) := hid (by rw [hwc]; exact Db.out.set HRC.out.2.2.2.2)
      have Gc : Hid (w.grownBy wc (some b)) := hid (by rw [hwc]; exact grown_new Gb.out _ _ _ HRC.out.2.1)
      have Rc : Hid (wc.heap[R]? = some (.cells (instC zeroI (.slice none 0 0) (.slice none 0 0)) 31 (0, 0))) := hid (by rw [hwc, Below.heap_setCell _ _ _ _ (by have := HRC.out; simp; omega)]; exact Rb.out)
      have Uc : Hid (Strs wc (.slice ua md.length uc) md) := hid (by rw [hwc]; exact inst_turn Ub.out Cb.out fun q _ hq => Below.heap_setCell _ _ _ _ hq)
      have Vc : Hid (∀ acc, gg.1 = some acc → wc.ownsRow wa.heap.size 23 2 (.slice va n vc) acc.length (rvs acc)) := hid fun acc hacc => by
        have h := Vb.out
        rw [hacc] at h
        rw [hwc]
        exact own_lt h hCl fun q hq => Below.heap_setCell _ _ _ _ hq
      have HWc := hid hwc
      clear hwc Db Gb Rb Ub Vb
      go_upto_region 11 with fail
      rw [← HWc.out]
      clear c15 f15 HWc Cb
      go_wp2_with fail
      refine (bad_any _ _ _ Dc.out).mono ?_
      rintro e wd ⟨rfl, hwd⟩
      subst hwd
      rcases HGS.out with hg | ⟨acc, t, hg⟩
      · have HT : Hid (takeX s = zeroI) := hid (by rw [HX8.out, hg])
        have hb : badO gg.2 = true := by rw [hg]; rfl
        rw [hb]
        clear hb hg
        obtain ⟨zc, hzc⟩ : ∃ zc : Array Value, zc = #[.int .i64 0, .int .i64 0, .int .i64 0, .int .i64 0, .int .i64 0, .int .i64 0, .int .i64 0, .bool false, .int .i64 0, .int .i64 0, .int .i64 0, .int .i64 0, .int .i64 0, .slice none 0 0, .int .i64 0, .slice none 0 0] := ⟨_, rfl⟩
        have hz6 : zc.size = 16 := by rw [hzc]; rfl
        have hzo : zc.all (·.oneCell') = true := by rw [hzc]; exact instC_one zeroI (.slice none 0 0) (.slice none 0 0) rfl rfl
        have HZC := hid hzc
        clear hzc
        go_wp2_with (refine wpl_storeC rfl _ _ rfl R zc rfl (by rw [HZC.out]; rfl) hz6 hzo _ zeroI (.slice none 0 0) (.slice none 0 0) Rc.out ?_)
        (try simp only [Exit.inBlock, Exit.then])
        have HF := setRow_heap _ R _ zc _ _ Rc.out
        rw [HZC.out] at HF ⊢
        refine bodyPost_ret (results_inst rfl _ _ R _ zeroI (.slice none 0 0) (.slice none 0 0) _ rfl HF) rfl ?_
        rw [HT.out, HTG.out]
        exact ⟨_, _, rfl, ⟨Strs.nil _, Rfs.nil _⟩, Dc.out.row HRC.out.2.2.2.1 _, grown_row Gc.out _ _ HRC.out.1⟩
      · have HT : Hid (takeX s = { x8 with seq := sq, deps := acc }) := hid (by rw [HX8.out, hg])
        have hb : badO gg.2 = false := by rw [hg]; rfl
        have HVc := hid (Vc.out acc (by rw [hg]))
        obtain ⟨va', vc', hve⟩ := own_shape HVc.out
        cases hve
        have HXU : Hid (Strs wd (.slice ua md.length uc) x8.cmd.data) := hid (by rw [HD8.out]; exact Uc.out)
        rw [hb]
        clear hb hg Vc
        obtain ⟨zc, hzc⟩ : ∃ zc : Array Value, zc = instC { x8 with seq := sq, deps := acc } (.slice ua md.length uc) (.slice va acc.length vc) := ⟨_, rfl⟩
        have hz6 : zc.size = 16 := by rw [hzc]; rfl
        have hzo : zc.all (·.oneCell') = true := by rw [hzc]; exact instC_one _ _ _ rfl rfl
        have HZC := hid hzc
        have Cz : Hid (wd.heap[C]? = some (.cells zc 31 (0, 0))) := hid (by rw [hzc]; exact Cc.out)
        clear hzc Cc
        go_wp2_with (first | (refine wpl_loadC rfl _ rfl C rfl zc hz6 _ _ Cz.out ?_) | (refine wpl_storeC rfl _ _ rfl R zc rfl rfl hz6 hzo _ zeroI (.slice none 0 0) (.slice none 0 0) Rc.out ?_))
        (try simp only [Exit.inBlock, Exit.then])
        have HF := setRow_heap _ R _ zc _ _ Rc.out
        rw [HZC.out] at HF
        refine bodyPost_ret (results_inst rfl _ _ R _ { x8 with seq := sq, deps := acc } (.slice ua md.length uc) (.slice va acc.length vc) _ rfl (by rw [HZC.out]; exact HF)) rfl ?_
        rw [HT.out, HTG.out]
        refine ⟨_, _, rfl, ⟨?_, ?_⟩, Dc.out.row HRC.out.2.2.2.1 _, grown_row Gc.out _ _ HRC.out.1⟩
        · exact inst_turn HXU.out Rc.out fun q _ hq => setRow_other _ _ _ _ hq
        · exact rfs_rvs (own_lt HVc.out hRl0 fun q hq => setRow_other _ _ _ _ hq)
end Go.Proofs.YthhcpoafnmhnhaaGreat
