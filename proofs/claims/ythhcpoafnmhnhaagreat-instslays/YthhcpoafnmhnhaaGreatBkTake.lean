/- What Take of a command answers: the command that is read, or one of nothing. Conditions: the Reader lies in memory. -/
import Derived.Test.YthhcpoafnmhnhaaGreatBkBase
import Derived.Test.YthhcpoafnmhnhaaGreatOct
import Derived.Test.YthhcpoafnmhnhaaGreatKt
import Derived.Deep.CutBlock
import Derived.Deep.CutRange
import Derived.BigQuiet
import Derived.Deep.RegionHeld3
namespace Go.Proofs.YthhcpoafnmhnhaaGreat
open Go.RowKit
set_option linter.unusedVariables false
set_option linter.unusedSimpArgs false

/-- The Reader behind the byte and i ints. -/
def tkS (s : Option (List UInt8)) : Nat → Option (List UInt8)
  | 0 => byteS s
  | i + 1 => intS (tkS s i)
def tkY (s : Option (List UInt8)) (i j : Nat) : Int := if j < i then intV (tkS s j) else 0
def tkG (s : Option (List UInt8)) : Option (List (List UInt8)) × Option (List UInt8) := getR textV textS (tkS s 4)
def zeroCmd : CmdD := ⟨0, 0, 0, 0, 0, []⟩
def takeC (s : Option (List UInt8)) : CmdD :=
  match (tkG s).1 with
  | none => zeroCmd
  | some acc => ⟨(byteR s).toNat, intV (tkS s 0), intV (tkS s 1), intV (tkS s 2), intV (tkS s 3), acc.map fun x => ⟨x.toArray⟩⟩
theorem getGo_shape {α : Type} (rv : Option (List UInt8) → α) (rs : Option (List UInt8) → Option (List UInt8)) (n : Nat) (l : List UInt8) (acc : List α) : getGo rv rs n (some l) acc = (none, none) ∨ ∃ a t, getGo rv rs n (some l) acc = (some a, some t) := by
  induction n generalizing l acc with
  | zero => exact .inr ⟨acc, l, rfl⟩
  | succ n ih =>
    show (if badO (rs (some l)) then _ else getGo rv rs n (rs (some l)) (acc ++ [rv (some l)])) = _ ∨ ∃ a t, (if badO (rs (some l)) then _ else getGo rv rs n (rs (some l)) (acc ++ [rv (some l)])) = _
    cases h : rs (some l) with
    | none => exact .inl rfl
    | some t => exact ih t _
theorem getR_shape {α : Type} (rv : Option (List UInt8) → α) (rs : Option (List UInt8) → Option (List UInt8)) (s : Option (List UInt8)) : getR rv rs s = (none, none) ∨ ∃ a t, getR rv rs s = (some a, some t) := by
  unfold getR
  cases h : (lenR 4096 s).2 with
  | none => exact .inl rfl
  | some l => exact getGo_shape rv rs _ l []
theorem strs_acc {w : World} {base : Nat} {v : Value} {acc : List (List UInt8)} (h : w.ownsRow base 9 1 v acc.length (acc.map evStr)) : Strs w v (acc.map fun x => ⟨x.toArray⟩) := by
  have h' := h
  obtain ⟨h1, h2⟩ := h
  rcases h2 with ⟨rfl, h0⟩ | ⟨g, cap, cur, rfl, -, hh, hc, hm, -⟩
  · have : acc = [] := List.length_eq_zero_iff.1 h0
    subst this; exact Strs.nil _
  · refine ⟨_, _, _, rfl, by simp, hc, by unfold maxLen at hm; omega, (fun h => by cases h), ?_⟩
    intro ad had j hj
    cases had
    exact h'.cells (g := g) rfl j _ (by simp [evStr])
theorem Tryz.sizeCmd : (Tryz.prog.info? 28).map (·.size) = some 6 := by kernel_rfl
theorem Tryz.structCmd0 : (Tryz.prog.underlying 28).map (fun d => match d with | .struct _ | .array _ _ => true | _ => false) = some true := by kernel_rfl
theorem Tryz.structCmd : ∃ d, Tryz.prog.underlying 28 = some d ∧ (match d with | .struct _ | .array _ _ => true | _ => false) = true := by
  have h := Tryz.structCmd0
  cases hd : Tryz.prog.underlying 28 with
  | none => rw [hd] at h; cases h
  | some d => rw [hd] at h; exact ⟨d, rfl, by simpa using h⟩
theorem results_cmd {fn : Func} {p : Tmp} (h : fn.results = #[.cell p 28]) (tmps : Array Value) (w : World) (g : Nat) (t : TypeId) (v0 v1 v2 v3 v4 v5 : Value) (fr : Nat × Nat)
    (hp : tmps.getD p undef = .pointer (some ⟨g, 0, none⟩)) (hg : w.heap[g]? = some (.cells #[v0, v1, v2, v3, v4, v5] t fr)) : (results fn tmps).run Tryz.prog w = .ok (.agg #[v0, v1, v2, v3, v4, v5]) w := by
  obtain ⟨d, hd1, hd2⟩ := Tryz.structCmd
  refine results_cell_row h tmps w g t _ fr d hp hg hd1 ?_ Tryz.sizeCmd
  cases d <;> first | rfl | (simp at hd2)
/-- Six cells of a block are written. -/
theorem six_cells {w : World} {R : Nat} {t : TypeId} {a0 a1 a2 a3 a4 a5 : Value} (h : w.heap[R]? = some (.cells #[a0, a1, a2, a3, a4, a5] t (0, 0))) (v0 v1 v2 v3 v4 v5 : Value) :
    w.cell? ⟨R, 0, none⟩ = some a0 ∧ w.frozen? ⟨R, 0, none⟩ = false ∧ (w.setCell ⟨R, 0, none⟩ v0).cell? ⟨R, 1, none⟩ = some a1 ∧ (w.setCell ⟨R, 0, none⟩ v0).frozen? ⟨R, 1, none⟩ = false ∧ ((w.setCell ⟨R, 0, none⟩ v0).setCell ⟨R, 1, none⟩ v1).cell? ⟨R, 2, none⟩ = some a2 ∧ ((w.setCell ⟨R, 0, none⟩ v0).setCell ⟨R, 1, none⟩ v1).frozen? ⟨R, 2, none⟩ = false ∧ (((w.setCell ⟨R, 0, none⟩ v0).setCell ⟨R, 1, none⟩ v1).setCell ⟨R, 2, none⟩ v2).cell? ⟨R, 3, none⟩ = some a3 ∧ (((w.setCell ⟨R, 0, none⟩ v0).setCell ⟨R, 1, none⟩ v1).setCell ⟨R, 2, none⟩ v2).frozen? ⟨R, 3, none⟩ = false ∧ ((((w.setCell ⟨R, 0, none⟩ v0).setCell ⟨R, 1, none⟩ v1).setCell ⟨R, 2, none⟩ v2).setCell ⟨R, 3, none⟩ v3).cell? ⟨R, 4, none⟩ = some a4 ∧ ((((w.setCell ⟨R, 0, none⟩ v0).setCell ⟨R, 1, none⟩ v1).setCell ⟨R, 2, none⟩ v2).setCell ⟨R, 3, none⟩ v3).frozen? ⟨R, 4, none⟩ = false ∧ (((((w.setCell ⟨R, 0, none⟩ v0).setCell ⟨R, 1, none⟩ v1).setCell ⟨R, 2, none⟩ v2).setCell ⟨R, 3, none⟩ v3).setCell ⟨R, 4, none⟩ v4).cell? ⟨R, 5, none⟩ = some a5 ∧ (((((w.setCell ⟨R, 0, none⟩ v0).setCell ⟨R, 1, none⟩ v1).setCell ⟨R, 2, none⟩ v2).setCell ⟨R, 3, none⟩ v3).setCell ⟨R, 4, none⟩ v4).frozen? ⟨R, 5, none⟩ = false ∧ ((((((w.setCell ⟨R, 0, none⟩ v0).setCell ⟨R, 1, none⟩ v1).setCell ⟨R, 2, none⟩ v2).setCell ⟨R, 3, none⟩ v3).setCell ⟨R, 4, none⟩ v4).setCell ⟨R, 5, none⟩ v5).heap[R]? = some (.cells #[v0, v1, v2, v3, v4, v5] t (0, 0)) := by
  have h1 := heap_setCell_same _ R 0 _ _ v0 h
  have h2 := heap_setCell_same _ R 1 _ _ v1 h1
  have h3 := heap_setCell_same _ R 2 _ _ v2 h2
  have h4 := heap_setCell_same _ R 3 _ _ v3 h3
  have h5 := heap_setCell_same _ R 4 _ _ v4 h4
  have h6 := heap_setCell_same _ R 5 _ _ v5 h5
  refine ⟨?_, ?_, ?_, ?_, ?_, ?_, ?_, ?_, ?_, ?_, ?_, ?_, ?_⟩
  · rw [cell_of_row _ _ _ _ _ _ h]; rfl
  · exact frozen_of_row _ _ _ _ _ h
  · rw [cell_of_row _ _ _ _ _ _ h1]; rfl
  · exact frozen_of_row _ _ _ _ _ h1
  · rw [cell_of_row _ _ _ _ _ _ h2]; rfl
  · exact frozen_of_row _ _ _ _ _ h2
  · rw [cell_of_row _ _ _ _ _ _ h3]; rfl
  · exact frozen_of_row _ _ _ _ _ h3
  · rw [cell_of_row _ _ _ _ _ _ h4]; rfl
  · exact frozen_of_row _ _ _ _ _ h4
  · rw [cell_of_row _ _ _ _ _ _ h5]; rfl
  · exact frozen_of_row _ _ _ _ _ h5
  · exact h6
theorem grown_of {w w' : World} {r : Option Nat} (h : Below w.heap.size w w') : w.grownBy w' r := ⟨h.os, h.tape, h.output, h.size, fun k hk _ => h.block k hk⟩
theorem grown_new {w w' : World} {r : Option Nat} (h : w.grownBy w' r) (C i : Nat) (v : Value) (hC : w.heap.size ≤ C) : w.grownBy (w'.setCell ⟨C, i, none⟩ v) r :=
  ⟨h.os, h.tape, h.output, by simpa [World.setCell] using h.size, fun k hk hr => (Below.heap_setCell _ _ _ _ (by simp; omega)).trans (h.block k hk hr)⟩
theorem grown_alloc {w w' : World} {r : Option Nat} (h : w.grownBy w' r) (o : Obj) : w.grownBy (w'.alloc o) r := grown_trans h (grown_of ((Below.refl _ _).alloc (Nat.le_refl _) _))
theorem Rd.set {w : World} {b C i : Nat} {v : Value} {s : Option (List UInt8)} (h : Rd w b s) (hC : b < C) : Rd (w.setCell ⟨C, i, none⟩ v) b s := h.beyond fun k hk => Below.heap_setCell _ _ _ _ (by simp; omega)
theorem Rd.alloc {w : World} {b : Nat} {s : Option (List UInt8)} (h : Rd w b s) (o : Obj) : Rd (w.alloc o) b s := h.kept ((Below.refl _ _).alloc (Nat.le_refl _) _)
set_option maxRecDepth 100000 in
set_option maxHeartbeats 3200000 in
theorem takeCmd_any (b : Nat) (s : Option (List UInt8)) (w : World) (hr : Rd w b s) :
    Calls Tryz.prog 29 #[.pointer (some ⟨b, 0, none⟩)] w fun e w' => ∃ u, e = .returned (cmdV (takeC s) u) ∧ Strs w' u (takeC s).data ∧ Rd w' b (tkG s).2 ∧ w.grownBy w' (some b) := by
  have hlt := hr.lt
  have hbl : b ≠ w.heap.size := by omega
  have HR := hid hr
  clear hr
  go_enter Tryz.func29, Tryz.ntmps29
  go_upto_region 1 with fail
  go_wp2_with fail
  obtain ⟨w0, hw0⟩ : ∃ w0, w0 = w.alloc (.cells #[.int .i64 0, .int .i64 0, .int .i64 0, .int .i64 0, .int .i64 0, .slice none 0 0] 28) := ⟨_, rfl⟩
  have R0 : Hid (w0.heap[w.heap.size]? = some (.cells #[.int .i64 0, .int .i64 0, .int .i64 0, .int .i64 0, .int .i64 0, .slice none 0 0] 28 (0, 0))) := hid (by rw [hw0]; exact heap_alloc_new _ _)
  have hb0 : Below w.heap.size w w0 := by rw [hw0]; exact (Below.refl _ _).alloc (Nat.le_refl _) _
  have D0 := hid (HR.out.kept hb0)
  have G0 := hid (grown_of (r := some b) hb0)
  rw [← hw0]
  clear hw0 hb0 HR
  refine (rbyte_any _ _ _ D0.out).mono ?_
  rintro e w1 ⟨rfl, hr1, hg1⟩
  have D1 := hid hr1
  have R1 := hid ((hg1.block _ (lt_of_block R0.out) (by simp; omega)).trans R0.out)
  have G1 := hid (grown_trans G0.out hg1)
  clear hr1 hg1 R0 D0 G0
  obtain ⟨k0, hk0⟩ : ∃ k0 : Nat, k0 = (byteR s).toNat := ⟨_, rfl⟩
  have hkl : (k0 : Int) ≤ 255 := by have := (byteR s).toNat_lt; omega
  rw [← hk0]
  have HK0 := hid hk0
  clear hk0
  go_wp2_with fail
  obtain ⟨w2, hw2⟩ : ∃ w2, w2 = (w1.alloc (.cells #[.int .i64 k0, .int .i64 0, .int .i64 0, .int .i64 0, .int .i64 0, .slice none 0 0] 28)).alloc (.cells #[.pointer (some ⟨w1.heap.size, 1, none⟩), .pointer (some ⟨w1.heap.size, 2, none⟩), .pointer (some ⟨w1.heap.size, 3, none⟩), .pointer (some ⟨w1.heap.size, 4, none⟩)] 58) := ⟨_, rfl⟩
  have hb2 : Below w1.heap.size w1 w2 := by rw [hw2]; exact ((Below.refl _ _).alloc (Nat.le_refl _) _).alloc (by simp) _
  have C2 : Hid (w2.heap[w1.heap.size]? = some (.cells #[.int .i64 k0, .int .i64 0, .int .i64 0, .int .i64 0, .int .i64 0, .slice none 0 0] 28 (0, 0))) := hid (by rw [hw2]; exact heap_alloc2_old _ _ _)
  have P2 : Hid (w2.heap[w1.heap.size + 1]? = some (.cells #[.pointer (some ⟨w1.heap.size, 1, none⟩), .pointer (some ⟨w1.heap.size, 2, none⟩), .pointer (some ⟨w1.heap.size, 3, none⟩), .pointer (some ⟨w1.heap.size, 4, none⟩)] 58 (0, 0))) := hid (by rw [hw2]; exact heap_alloc2_new _ _ _)
  rw [← hw2]
  have D2 := hid (D1.out.kept hb2)
  have R2 := hid ((hb2.block _ (lt_of_block R1.out)).trans R1.out)
  have G2 := hid (grown_trans G1.out (grown_of (r := some b) hb2))
  have hRC : w.heap.size < w1.heap.size := lt_of_block R1.out
  clear hw2 hb2 D1 R1 G1
  obtain ⟨C, hC⟩ : ∃ C, C = w1.heap.size := ⟨_, rfl⟩
  obtain ⟨P, hP⟩ : ∃ P, P = w1.heap.size + 1 := ⟨_, rfl⟩
  have hPC : C < P := by omega
  rw [← hP] at P2
  rw [← hC] at P2 C2 hRC
  rw [← hP, ← hC]
  clear hP hC
  have hbC : b < C := by omega
  have HPC := hid hPC
  have HBC := hid hbC
  have HRC := hid hRC
  clear hPC hbC hRC
  go_loopw [5, 16] (fun _ iv wr => ∃ i : Nat, iv = .int .i64 i ∧ i ≤ 4 ∧ Rd wr b (tkS s i) ∧ w.grownBy wr (some b) ∧ wr.heap[w.heap.size]? = some (.cells #[.int .i64 0, .int .i64 0, .int .i64 0, .int .i64 0, .int .i64 0, .slice none 0 0] 28 (0, 0)) ∧
    wr.heap[C]? = some (.cells #[.int .i64 k0, .int .i64 (tkY s i 0), .int .i64 (tkY s i 1), .int .i64 (tkY s i 2), .int .i64 (tkY s i 3), .slice none 0 0] 28 (0, 0)) ∧
    wr.heap[P]? = some (.cells #[.pointer (some ⟨C, 1, none⟩), .pointer (some ⟨C, 2, none⟩), .pointer (some ⟨C, 3, none⟩), .pointer (some ⟨C, 4, none⟩)] 58 (0, 0))) (fun _ iv _ => 4 - (intOf iv).toNat)
  case atStart => exact ⟨0, rfl, Nat.zero_le _, D2.out, G2.out, R2.out, C2.out, P2.out⟩
  case round =>
    obtain ⟨i, rfl, hi, hrd, hgr, hR, hCb, hPb⟩ := hrel
    clear D2 G2 R2 C2 P2
    by_cases hlt4 : (i : Int) < 4
    · have hck : wr.cell? ⟨P, i, none⟩ = some (.pointer (some ⟨C, i + 1, none⟩)) := by
        rw [cell_of_row _ _ _ _ _ _ hPb]
        match i, (show i < 4 by omega) with
        | 0, _ => rfl
        | 1, _ => rfl
        | 2, _ => rfl
        | 3, _ => rfl
      have HRD := hid hrd
      have HGR := hid hgr
      have HRb := hid hR
      have HCb := hid hCb
      have HPb := hid hPb
      clear hrd hgr hR hCb hPb
      go_wp2_with fail
      refine (rint_any _ _ _ HRD.out).mono ?_
      rintro e w4 ⟨rfl, hr4, hg4⟩
      have D4 : Hid (Rd w4 b (tkS s (i + 1))) := hid hr4
      have G4 := hid (grown_trans HGR.out hg4)
      have R4 := hid ((hg4.block _ (lt_of_block HRb.out) (by simp; omega)).trans HRb.out)
      have C4 := hid ((hg4.block _ (lt_of_block HCb.out) (by have := HBC.out; simp; omega)).trans HCb.out)
      have P4 := hid ((hg4.block _ (lt_of_block HPb.out) (by have := HBC.out; have := HPC.out; simp; omega)).trans HPb.out)
      clear hr4 hg4 HRD HGR HRb HCb HPb hck
      obtain ⟨y, hy⟩ : ∃ y, y = intV (tkS s i) := ⟨_, rfl⟩
      rw [← hy]
      have HY := hid hy
      clear hy
      have hc4 : ∃ old, w4.cell? ⟨C, i + 1, none⟩ = some old := by
        rw [cell_of_row _ _ _ _ _ _ C4.out]
        match i, (show i < 4 by omega) with
        | 0, _ => exact ⟨_, rfl⟩
        | 1, _ => exact ⟨_, rfl⟩
        | 2, _ => exact ⟨_, rfl⟩
        | 3, _ => exact ⟨_, rfl⟩
      obtain ⟨old, hold⟩ := hc4
      have hfz : w4.frozen? ⟨C, i + 1, none⟩ = false := frozen_of_row _ _ _ _ _ C4.out
      go_wp2_with fail
      go_roundw
      case rel =>
        refine ⟨i + 1, by go_num, by omega, D4.out.set HBC.out, grown_new G4.out _ _ _ (Nat.le_of_lt HRC.out), ?_, ?_, ?_⟩
        · rw [Below.heap_setCell _ _ _ _ (by have := HRC.out; simp; omega)]; exact R4.out
        · rw [heap_setCell_same _ _ _ _ _ _ C4.out, HY.out]
          match i, (show i < 4 by omega) with
          | 0, _ => rfl
          | 1, _ => rfl
          | 2, _ => rfl
          | 3, _ => rfl
        · rw [Below.heap_setCell _ _ _ _ (by have := HPC.out; simp; omega)]; exact P4.out
      case measure => simp [intOf]; omega
    · obtain rfl : i = 4 := by omega
      have HRD := hid hrd
      have HGR := hid hgr
      have HRb := hid hR
      have HCb := hid hCb
      clear hrd hgr hR hCb hPb
      go_wp2_with fail
      refine (getStr_any _ _ _ HRD.out).mono ?_
      rintro e w6 ⟨va, n, vc, rfl, hv, hr6, hg6⟩
      have D6 : Hid (Rd w6 b (tkG s).2) := hid hr6
      have V6 : Hid (GetV evStr 9 w6 wr.heap.size (.slice va n vc) (tkG s).1) := hid hv
      have G6 := hid (grown_trans HGR.out hg6)
      have R6 := hid ((hg6.block _ (lt_of_block HRb.out) (by simp; omega)).trans HRb.out)
      have C6 := hid ((hg6.block _ (lt_of_block HCb.out) (by have := HBC.out; simp; omega)).trans HCb.out)
      have hCl := lt_of_block HCb.out
      clear hv hr6 hg6 HRD HGR HRb HCb
      have hc6 : w6.cell? ⟨C, 5, none⟩ = some (.slice none 0 0) := by rw [cell_of_row _ _ _ _ _ _ C6.out]; rfl
      have hf6 : w6.frozen? ⟨C, 5, none⟩ = false := frozen_of_row _ _ _ _ _ C6.out
      go_wp2_with fail
      obtain ⟨w7, hw7⟩ : ∃ w7, w7 = w6.setCell ⟨C, 5, none⟩ (.slice va n vc) := ⟨_, rfl⟩
      have D7 : Hid (Rd w7 b (tkG s).2) := hid (by rw [hw7]; exact D6.out.set HBC.out)
      have G7 : Hid (w.grownBy w7 (some b)) := hid (by rw [hw7]; exact grown_new G6.out _ _ _ (Nat.le_of_lt HRC.out))
      have R7 : Hid (w7.heap[w.heap.size]? = some (.cells #[.int .i64 0, .int .i64 0, .int .i64 0, .int .i64 0, .int .i64 0, .slice none 0 0] 28 (0, 0))) := hid (by rw [hw7, Below.heap_setCell _ _ _ _ (by have := HRC.out; simp; omega)]; exact R6.out)
      have C7 : Hid (w7.heap[C]? = some (.cells #[.int .i64 k0, .int .i64 (tkY s 4 0), .int .i64 (tkY s 4 1), .int .i64 (tkY s 4 2), .int .i64 (tkY s 4 3), .slice va n vc] 28 (0, 0))) := hid (by rw [hw7]; exact heap_setCell_same _ _ _ _ _ _ C6.out)
      have V7 : Hid (GetV evStr 9 w7 wr.heap.size (.slice va n vc) (tkG s).1) := hid (by
        have := V6.out
        rw [hw7]
        cases hg : (tkG s).1 with
        | none => rw [hg] at this; exact this
        | some acc =>
          rw [hg] at this
          exact owns_kept (b := C) this hCl (grown_set _ _ _ _))
      rw [← hw7]
      clear hw7 D6 G6 R6 C6 V6 hc6 hf6
      refine (bad_any _ _ _ D7.out).mono ?_
      rintro e w8 ⟨rfl, rfl⟩
      rcases getR_shape textV textS (tkS s 4) with hg | ⟨acc, t, hg⟩
      · have hT : takeC s = zeroCmd := by unfold takeC tkG; rw [hg]
        have hb : badO (tkG s).2 = true := by unfold tkG; rw [hg]; rfl
        have HT := hid hT
        rw [hb]
        clear hT hb hg
        obtain ⟨f0, z0, f1, z1, f2, z2, f3, z3, f4, z4, f5, z5, hF⟩ := six_cells R7.out (.int .i64 0) (.int .i64 0) (.int .i64 0) (.int .i64 0) (.int .i64 0) (.slice none 0 0)
        have HF := hid hF
        clear hF
        go_wp2_with fail
        (try simp only [Exit.inBlock, Exit.then])
        refine bodyPost_ret (results_cmd rfl _ _ w.heap.size _ _ _ _ _ _ _ _ rfl HF.out) rfl ?_
        rw [HT.out]
        refine ⟨_, rfl, Strs.nil _, ?_, ?_⟩
        · exact (((((D7.out.set hlt).set hlt).set hlt).set hlt).set hlt).set hlt
        · exact grown_new (grown_new (grown_new (grown_new (grown_new (grown_new G7.out _ _ _ (Nat.le_refl _)) _ _ _ (Nat.le_refl _)) _ _ _ (Nat.le_refl _)) _ _ _ (Nat.le_refl _)) _ _ _ (Nat.le_refl _)) _ _ _ (Nat.le_refl _)
      · have hb : badO (tkG s).2 = false := by unfold tkG; rw [hg]; rfl
        rw [hb]
        have hT : takeC s = ⟨(byteR s).toNat, intV (tkS s 0), intV (tkS s 1), intV (tkS s 2), intV (tkS s 3), acc.map fun x => ⟨x.toArray⟩⟩ := by unfold takeC tkG; rw [hg]
        have HT := hid hT
        have V8 : Hid (w8.ownsRow wr.heap.size 9 1 (.slice va n vc) acc.length (acc.map evStr)) := hid (by have := V7.out; unfold tkG at this; rw [hg] at this; exact this)
        have hRw : w.heap.size < wr.heap.size := Nat.lt_trans HRC.out hCl
        clear hT hb hg V7
        have C8 : Hid (w8.heap[C]? = some (.cells #[.int .i64 k0, .int .i64 (intV (tkS s 0)), .int .i64 (intV (tkS s 1)), .int .i64 (intV (tkS s 2)), .int .i64 (intV (tkS s 3)), .slice va n vc] 28 (0, 0))) := C7
        clear C7
        generalize intV (tkS s 0) = y0 at C8 HT
        generalize intV (tkS s 1) = y1 at C8 HT
        generalize intV (tkS s 2) = y2 at C8 HT
        generalize intV (tkS s 3) = y3 at C8 HT
        obtain ⟨f0, z0, f1, z1, f2, z2, f3, z3, f4, z4, f5, z5, hF⟩ := six_cells R7.out (.int .i64 k0) (.int .i64 y0) (.int .i64 y1) (.int .i64 y2) (.int .i64 y3) (.slice va n vc)
        have HF := hid hF
        clear hF
        have c0 : w8.cell? ⟨C, 0, none⟩ = some (.int .i64 k0) := by rw [cell_of_row _ _ _ _ _ _ C8.out]; rfl
        have c1 : w8.cell? ⟨C, 1, none⟩ = some (.int .i64 y0) := by rw [cell_of_row _ _ _ _ _ _ C8.out]; rfl
        have c2 : w8.cell? ⟨C, 2, none⟩ = some (.int .i64 y1) := by rw [cell_of_row _ _ _ _ _ _ C8.out]; rfl
        have c3 : w8.cell? ⟨C, 3, none⟩ = some (.int .i64 y2) := by rw [cell_of_row _ _ _ _ _ _ C8.out]; rfl
        have c4 : w8.cell? ⟨C, 4, none⟩ = some (.int .i64 y3) := by rw [cell_of_row _ _ _ _ _ _ C8.out]; rfl
        have c5 : w8.cell? ⟨C, 5, none⟩ = some (.slice va n vc) := by rw [cell_of_row _ _ _ _ _ _ C8.out]; rfl
        go_wp2_with fail
        (try simp only [Exit.inBlock, Exit.then])
        refine bodyPost_ret (results_cmd rfl _ _ w.heap.size _ _ _ _ _ _ _ _ rfl HF.out) rfl ?_
        rw [HT.out, ← HK0.out]
        refine ⟨.slice va n vc, rfl, ?_, ?_, ?_⟩
        · refine strs_acc (base := wr.heap.size) ?_
          exact owns_kept (owns_kept (owns_kept (owns_kept (owns_kept (owns_kept V8.out hRw (grown_set _ _ _ _)) hRw (grown_set _ _ _ _)) hRw (grown_set _ _ _ _)) hRw (grown_set _ _ _ _)) hRw (grown_set _ _ _ _)) hRw (grown_set _ _ _ _)
        · exact (((((D7.out.set hlt).set hlt).set hlt).set hlt).set hlt).set hlt
        · exact grown_new (grown_new (grown_new (grown_new (grown_new (grown_new G7.out _ _ _ (Nat.le_refl _)) _ _ _ (Nat.le_refl _)) _ _ _ (Nat.le_refl _)) _ _ _ (Nat.le_refl _)) _ _ _ (Nat.le_refl _)) _ _ _ (Nat.le_refl _)
end Go.Proofs.YthhcpoafnmhnhaaGreat
