/- Load: the council that bytes tell, or none. Conditions: the bytes lie in memory; the text of the voters is not too long. -/
import Derived.Test.YtjimneaimnjanaaCoMay
namespace Go.Proofs.Ytjimneaimnjanaa
open Go.RowKit
set_option linter.unusedVariables false
set_option linter.unusedSimpArgs false

/-- A Reader stands where a block without bytes is turned. -/
theorem Rd.turn {w w' : World} {b z : Nat} {s : Option (List UInt8)} {cs : Array Value} {t : TypeId} {fr : Nat × Nat} (h : Rd w b s) (hz : w.heap[z]? = some (.cells cs t fr)) (ht : t ≠ 127) (hn : ∀ n : Int, Value.int .u8 n ∉ cs) (hk : ∀ q, q < w.heap.size → q ≠ z → w'.heap[q]? = w.heap[q]?) : Rd w' b s := by
  have hlt := h.lt
  have hbz : b ≠ z := by
    intro e
    obtain ⟨ao, cap, hc⟩ := h.cells
    rw [e, hz] at hc; cases hc; exact ht rfl
  cases s with
  | none => show w'.heap[b]? = _; rw [hk b hlt hbz]; exact h
  | some l =>
    obtain ⟨ao, cap, h1, h2, h3⟩ := h
    refine ⟨ao, cap, by rw [hk b hlt hbz]; exact h1, ?_, h3⟩
    obtain ⟨ao', n', cap', e, g1, g2, g3, g4, g5⟩ := h2
    cases e
    refine ⟨ao, l.length, cap, rfl, g1, g2, g3, g4, fun ad had j hj => ?_⟩
    have hc := g5 ad had j hj
    have hne : (ad.add j).block ≠ z := by
      intro e
      unfold World.cell? at hc
      rw [e, hz] at hc
      simp only at hc
      split at hc
      · cases hc
      · exact hn _ (Array.mem_of_getElem? hc)
    exact (World.cell?_of_block (hk _ (World.block_lt_of_cell? _ _ hc) hne)).trans hc
theorem Rd.co {w : World} {b C i : Nat} {s : Option (List UInt8)} {va : Option Addr} {vn vc : Nat} {D : CoD} {v : Value} (h : Rd w b s) (hc : Co w 0 C (.slice va vn vc) D) : Rd (w.setCell ⟨C, i, none⟩ v) b s :=
  h.turn hc.head (by decide) (fun n hm => by simp [coC] at hm) fun q hq hne => Below.heap_setCell _ _ _ _ hne
theorem Co.rd {w w' : World} {b C : Nat} {s : Option (List UInt8)} {lv : Value} {D : CoD} (h : Co w 0 C lv D) (hr : Rd w b s) (hg : w.grownBy w' (some b)) : Co w' 0 C lv D := by
  obtain ⟨ao, cap, hb⟩ := hr.cells
  refine ⟨(hg.block C (lt_of_block h.head) fun e => ?_).trans h.head, own_kept h.log fun q cs hq hh => hg.block q (lt_of_block hh) fun e => ?_⟩
  · rw [Option.some.inj e] at h; have := h.head; rw [hb] at this; cases this
  · rw [Option.some.inj e, hb] at hh; cases hh
theorem below_set {B : Nat} {a w : World} (h : Below B a w) {C i : Nat} {v : Value} (hC : B ≤ C) : Below B a (w.setCell ⟨C, i, none⟩ v) :=
  ⟨h.os, h.tape, h.output, by simpa using h.size, fun k hk => (Below.heap_setCell _ _ _ _ (show k ≠ C by omega)).trans (h.block k hk)⟩
/-- What is left of bytes behind i ints. -/
def nsS (l : List UInt8) : Nat → Option (List UInt8)
  | 0 => some l
  | i + 1 => intS (nsS l i)
def setN (D : CoD) (i : Nat) (x : Int) : CoD :=
  match i with
  | 0 => { D with term := x }
  | 1 => { D with vote := x }
  | 2 => { D with bi := x }
  | _ => { D with bt := x }
/-- The council with its first i numbers read. -/
def nsD (self : Int) (l : List UInt8) : Nat → CoD
  | 0 => freshD self
  | i + 1 => setN (nsD self l i) i (intV (nsS l i))
theorem coC_num (D : CoD) (lv : Value) (i : Nat) (hi : i < 4) (x : Int) : (coC D lv).setIfInBounds (1 + i) (.int .i64 x) = coC (setN D i x) lv := by
  match i, hi with
  | 0, _ => rfl
  | 1, _ => rfl
  | 2, _ => rfl
  | 3, _ => rfl
theorem setN_log (D : CoD) (i : Nat) (x : Int) : (setN D i x).log = D.log := by unfold setN; split <;> rfl
def ldV (l : List UInt8) : ByteArray := ⟨(textV (nsS l 4)).toArray⟩
def ldX (l : List UInt8) : ByteArray := ⟨(textV (textS (nsS l 4))).toArray⟩
def ldG (l : List UInt8) : Option (List En) × Option (List UInt8) := getR eV eS (textS (textS (nsS l 4)))
/-- What is read. -/
def ldD (self : Int) (l : List UInt8) : CoD := { nsD self l 4 with bv := ldV l, bx := ldX l, log := (ldG l).1.getD [] }
/-- Is it one that may be? -/
def ldB (self : Int) (l : List UInt8) : Bool := endB (ldG l).2 && mayD (ldD self l)
/-- What Load answers. -/
def LdP (self : Int) (l : List UInt8) (w : World) (e : Ending) (w' : World) : Prop :=
  ∃ C lv, e = .returned (.tuple #[.pointer (if ldB self l then some ⟨C, 0, none⟩ else none), .int .i64 (if ldB self l then 0 else 4)]) ∧ w.heap.size ≤ C ∧ Co w' 0 C lv { ldD self l with told := if ldB self l then (ldD self l).bi else 0 } ∧ (∀ q, lv.ownBlock = some q → w.heap.size ≤ q) ∧ Below w.heap.size w w'
set_option maxRecDepth 100000 in
set_option maxHeartbeats 1600000 in
theorem load_arg (self : Int) (v : Value) (w : World) (hn : nodeB self = false) :
    Calls Try.prog 8 #[.int .i64 self, v] w fun e w' => e = .returned (.tuple #[.pointer none, .int .i64 1]) ∧ w' = w := by
  go_enter Try.func8, Try.ntmps8
  go_wp2_with (go_at_call 31; refine (isNode_any _ _).mono ?_; rintro e w3 ⟨rfl, hw3⟩; replace hw3 := hw3.symm; subst hw3; rw [hn])
  go_ret2
  exact ⟨rfl, rfl⟩
set_option maxRecDepth 100000 in
set_option maxHeartbeats 8000000 in
theorem load_any (self : Int) (v : Value) (l : List UInt8) (w : World) (hv : Bts w v l) (hl : l.length ≤ 140737488355328) (hn : nodeB self = true) (hbv : (ldV l).size ≤ 999999) :
    Calls Try.prog 8 #[.int .i64 self, v] w (LdP self l w) := by
  have HV := hid hv
  have HNB := hid hn
  have HBV := hid hbv
  obtain ⟨w1, hw1⟩ : ∃ w1, w1 = w.alloc (.cells (coC (freshD self) (.slice none 0 0)) 92) := ⟨_, rfl⟩
  have B1 : Hid (Below w.heap.size w w1) := hid (by rw [hw1]; exact (Below.refl _ _).alloc (Nat.le_refl _) _)
  have hC : w1.heap[w.heap.size]? = some (.cells (coC (freshD self) (.slice none 0 0)) 92 (0, 0)) := by rw [hw1]; exact heap_alloc_new _ _
  have C1 : Hid (Co w1 0 w.heap.size (.slice none 0 0) (freshD self)) := hid ⟨hC, World.ownsRow_nil _ _ _ _⟩
  have HF := hid ((fresh_any self w).mono (fun e w' ⟨he, hw⟩ => show e = Ending.returned (.pointer (some ⟨w.heap.size, 0, none⟩)) ∧ w' = w1 from ⟨he, by rw [hw, hw1]⟩))
  have HNR := hid (newReader_any v l w1 (hv.below B1.out) hl)
  clear hv hn hbv hC hw1
  go_enter Try.func8, Try.ntmps8
  go_upto_region 5 with (first | (go_at_call 31; refine (isNode_any _ _).mono ?_; rintro e w3 ⟨rfl, hw3⟩; replace hw3 := hw3.symm; subst hw3; rw [HNB.out]) | (go_at_call 32; refine HF.out.mono ?_; rintro e wf ⟨rfl, hwf⟩; subst hwf) | (go_at_call 33; refine HNR.out.mono ?_; rintro e w2 ⟨r, rfl, hr2, hd2, hb2⟩; have D2 := hid hd2; have B2 := hid hb2; have HRL : Hid (∀ k, some r = some k → w.heap.size ≤ k) := hid (fun k hk => by have := B1.out.size; cases hk; omega); clear hr2 hd2 hb2))
  obtain ⟨C, hCe⟩ : ∃ C, C = w.heap.size := ⟨_, rfl⟩
  rw [← hCe] at C1
  rw [← hCe]
  have HCE : Hid (w.heap.size ≤ C) := hid (by omega)
  clear hCe HF HNR
  have C2 := hid (C1.out.below B2.out)
  have B02 := hid (B1.out.trans (B2.out.mono B1.out.size))
  have HNM := hid (numbers_any C w2)
  go_upto_region 6 with (go_at_call 34; refine HNM.out.mono ?_; rintro e w3 ⟨rfl, hn3, hb3⟩; have N3 := hid hn3; have C3 := hid (C2.out.below hb3); have D3 := hid (D2.out.kept hb3); have B3 := hid (B02.out.trans (hb3.mono B02.out.size)); clear hn3 hb3)
  obtain ⟨N, hNe⟩ : ∃ N, N = w2.heap.size := ⟨_, rfl⟩
  rw [← hNe] at N3
  rw [← hNe]
  have HNE : Hid (w.heap.size ≤ N) := hid (by have := B02.out.size; omega)
  clear hNe HNM C1 C2 D2
  go_loopw [9, 20] (fun _ iv wr => ∃ i : Nat, iv = .int .i64 i ∧ i ≤ 4 ∧ Co wr 0 C (.slice none 0 0) (nsD self l i) ∧ Rd wr r (nsS l i) ∧ wr.heap[N]? = some (.cells (nmP C) 84 (0, 0)) ∧ Below w.heap.size w wr) (fun _ iv _ => 4 - (intOf iv).toNat)
  case atStart => exact ⟨0, rfl, Nat.zero_le _, C3.out, D3.out, N3.out, B3.out⟩
  case round =>
    obtain ⟨i, rfl, hi, hc, hd, hn, hb⟩ := hrel
    have CR := hid hc
    have DR := hid hd
    have NR := hid hn
    have BR := hid hb
    clear hc hd hn hb C3 D3 N3 B3
    by_cases hlt : (i : Int) < 4
    · have hi4 : i < 4 := by omega
      have p0 : wr.cell? ⟨N, i, none⟩ = some (.pointer (some ⟨C, 1 + i, none⟩)) := by rw [cell_of_row _ _ _ _ _ _ NR.out]; exact nm_at C i hi4
      go_upto_region 8 with fail
      have HS : Hid (nsS l (i + 1) = intS (nsS l i)) := hid rfl
      have HD : Hid (nsD self l (i + 1) = setN (nsD self l i) i (intV (nsS l i))) := hid rfl
      have HI := hid (rint_any r (nsS l i) wr DR.out)
      generalize intV (nsS l i) = x at HI HD
      clear p0
      go_wp2_with (go_at_call 35; refine HI.out.mono ?_; rintro e w4 ⟨rfl, hd4, hg4⟩; have D4 : Hid (Rd w4 r (nsS l (i + 1))) := hid hd4; have C4 := hid (CR.out.rd DR.out hg4); have N4 : Hid (w4.heap[N]? = some (.cells (nmP C) 84 (0, 0))) := hid ((hg4.block N (lt_of_block NR.out) (fun e => by obtain ⟨ao, cap, hx⟩ := DR.out.cells; rw [← Option.some.inj e, NR.out] at hx; cases hx)).trans NR.out); have B4 : Hid (Below w.heap.size w w4) := hid (BR.out.grown hg4 BR.out.size (fun k hk => HRL.out k hk)); have k1 : ∃ u, w4.cell? ⟨C, 1 + i, none⟩ = some u := ⟨_, C4.out.num i hi4⟩; obtain ⟨u1, k1⟩ := k1; have f1 := C4.out.fz (1 + i); clear hd4 hg4)
      have hNC : N ≠ C := by
        intro e
        have h1 := N4.out; rw [e, C4.out.head] at h1; cases h1
      go_roundw
      case rel => exact ⟨i + 1, by go_num, by omega, by rw [HD.out]; exact C4.out.set (coC_num _ _ i hi4 x) (setN_log _ _ _), D4.out.co C4.out, (Below.heap_setCell _ _ _ _ hNC).trans N4.out, below_set B4.out HCE.out⟩
      case measure => simp [intOf]; omega
    · obtain rfl : i = 4 := by omega
      have HT1 := hid (rtext_any r (nsS l 4) wr DR.out)
      have HE1 : Hid (ldV l = ⟨(textV (nsS l 4)).toArray⟩ ∧ ldX l = ⟨(textV (textS (nsS l 4))).toArray⟩ ∧ ldG l = getR eV eS (textS (textS (nsS l 4)))) := hid ⟨rfl, rfl, rfl⟩
      rw [← HE1.out.1] at HT1
      clear NR
      go_upto_region 11 with (go_at_call 36; refine HT1.out.mono ?_; rintro e w4 ⟨rfl, hd4, hg4⟩; have D4 := hid hd4; have C4 := hid (CR.out.rd DR.out hg4); have B4 : Hid (Below w.heap.size w w4) := hid (BR.out.grown hg4 BR.out.size (fun k hk => HRL.out k hk)); obtain ⟨u5, k5⟩ : ∃ u, w4.cell? ⟨C, 5, none⟩ = some u := ⟨_, C4.out.cell 5⟩; have f5 := C4.out.fz 5; clear hd4 hg4)
      have C5 : Hid (Co (w4.setCell ⟨C, 5, none⟩ (.string (ldV l))) 0 C (.slice none 0 0) { nsD self l 4 with bv := ldV l }) := hid (C4.out.set rfl rfl)
      have D5 := hid (D4.out.co (i := 5) (v := .string (ldV l)) C4.out)
      have B5 := hid (below_set (C := C) (i := 5) (v := .string (ldV l)) B4.out HCE.out)
      generalize w4.setCell ⟨C, 5, none⟩ (.string (ldV l)) = w5 at C5 D5 B5 ⊢
      clear k5 f5 C4 D4 B4
      have HT2 := hid (rtext_any r (textS (nsS l 4)) w5 D5.out)
      rw [← HE1.out.2.1] at HT2
      go_upto_region 12 with (go_at_call 36; refine HT2.out.mono ?_; rintro e w6 ⟨rfl, hd6, hg6⟩; have D6 := hid hd6; have C6 := hid (C5.out.rd D5.out hg6); have B6 : Hid (Below w.heap.size w w6) := hid (B5.out.grown hg6 B5.out.size (fun k hk => HRL.out k hk)); obtain ⟨u6, k6⟩ : ∃ u, w6.cell? ⟨C, 6, none⟩ = some u := ⟨_, C6.out.cell 6⟩; have f6 := C6.out.fz 6; clear hd6 hg6)
      have C7 : Hid (Co (w6.setCell ⟨C, 6, none⟩ (.string (ldX l))) 0 C (.slice none 0 0) { nsD self l 4 with bv := ldV l, bx := ldX l }) := hid (C6.out.set rfl rfl)
      have D7 := hid (D6.out.co (i := 6) (v := .string (ldX l)) C6.out)
      have B7 := hid (below_set (C := C) (i := 6) (v := .string (ldX l)) B6.out HCE.out)
      generalize w6.setCell ⟨C, 6, none⟩ (.string (ldX l)) = w7 at C7 D7 B7 ⊢
      clear k6 f6 C6 D6 B6
      have HG := hid (getE_any r (textS (textS (nsS l 4))) w7 D7.out)
      rw [← HE1.out.2.2] at HG
      go_upto_region 13 with (go_at_call 37; refine HG.out.mono ?_; rintro e w8 ⟨va8, n8, vc8, rfl, hv8, hd8, hg8⟩; have V8 := hid hv8; have D8 := hid hd8; have C8 := hid (C7.out.rd D7.out hg8); have B8 : Hid (Below w.heap.size w w8) := hid (B7.out.grown hg8 B7.out.size (fun k hk => HRL.out k hk)); obtain ⟨u7, k7⟩ : ∃ u, w8.cell? ⟨C, 7, none⟩ = some u := ⟨_, C8.out.cell 7⟩; have f7 := C8.out.fz 7; clear hv8 hd8 hg8)
      have hO8 : w8.ownsRow w7.heap.size 73 3 (.slice va8 n8 vc8) ((ldG l).1.getD []).length (evs ((ldG l).1.getD [])) := by
        have := V8.out
        cases hg : (ldG l).1 with
        | none => rw [hg] at this; rw [show Value.slice va8 n8 vc8 = .slice none 0 0 from this]; exact World.ownsRow_nil _ _ _ _
        | some acc => rw [hg] at this; exact this
      have O8 := hid hO8
      have HE3 : Hid (ldD self l = { nsD self l 4 with bv := ldV l, bx := ldX l, log := (ldG l).1.getD [] }) := hid rfl
      have C9 : Hid (Co (w8.setCell ⟨C, 7, none⟩ (.slice va8 n8 vc8)) 0 C (.slice va8 n8 vc8) (ldD self l)) := hid ⟨heap_setCell_same _ _ _ _ _ _ C8.out.head, own_set (own_lower O8.out (Nat.zero_le _)) C8.out.head (by decide)⟩
      have D9 := hid (D8.out.co (i := 7) (v := .slice va8 n8 vc8) C8.out)
      have B9 := hid (below_set (C := C) (i := 7) (v := .slice va8 n8 vc8) B8.out HCE.out)
      have L9 : Hid (∀ q, (Value.slice va8 n8 vc8).ownBlock = some q → w.heap.size ≤ q) := hid fun q hq => Nat.le_trans B7.out.size (World.ownsRow.lt O8.out q hq).1
      generalize w8.setCell ⟨C, 7, none⟩ (.slice va8 n8 vc8) = w9 at C9 D9 B9 ⊢
      clear k7 f7 C8 D8 B8 hO8 O8 V8
      have HEN := hid (end_any r _ w9 D9.out)
      have HMY := hid (may_any C _ (ldD self l) w9 C9.out HBV.out)
      have HLB : Hid (ldB self l = (endB (ldG l).2 && mayD (ldD self l))) := hid rfl
      generalize endB (ldG l).2 = en at HEN HLB
      generalize mayD (ldD self l) = my at HMY HLB
      have HT0 : Hid ((ldD self l).told = 0) := hid rfl
      obtain ⟨DL, hDL⟩ : ∃ DL, DL = ldD self l := ⟨_, rfl⟩
      have HDL := hid hDL
      rw [← hDL] at C9 HT0
      clear hDL HE3
      have HD0 : Hid ({ DL with told := 0 } = DL) := hid (by have := HT0.out; cases DL; simp at this; simp [this])
      cases en with
      | false =>
        have HB : Hid (ldB self l = false) := hid HLB.out
        go_wp2_with (go_at_call 39; refine HEN.out.mono ?_; rintro e wz ⟨rfl, hz⟩; replace hz := hz.symm; subst hz)
        go_ret2
        exact ⟨C, _, by rw [HB.out]; rfl, HCE.out, by rw [HB.out]; show Co _ 0 C _ { ldD self l with told := 0 }; rw [← HDL.out, HD0.out]; exact C9.out, L9.out, B9.out⟩
      | true =>
        cases my with
        | false =>
          have HB : Hid (ldB self l = false) := hid HLB.out
          go_wp2_with (first | (go_at_call 39; refine HEN.out.mono ?_; rintro e wz ⟨rfl, hz⟩; replace hz := hz.symm; subst hz) | (go_at_call 40; refine HMY.out.mono ?_; rintro e wy ⟨rfl, hby⟩; have BY := hid hby; clear hby))
          go_ret2
          exact ⟨C, _, by rw [HB.out]; rfl, HCE.out, by rw [HB.out]; show Co _ 0 C _ { ldD self l with told := 0 }; rw [← HDL.out, HD0.out]; exact C9.out.below BY.out, L9.out, B9.out.trans (BY.out.mono B9.out.size)⟩
        | true =>
          have HB : Hid (ldB self l = true) := hid HLB.out
          go_upto_region 15 with (first | (go_at_call 39; refine HEN.out.mono ?_; rintro e wz ⟨rfl, hz⟩; replace hz := hz.symm; subst hz) | (go_at_call 40; refine HMY.out.mono ?_; rintro e wy ⟨rfl, hby⟩; have BY := hid hby; clear hby))
          have C10 := hid (C9.out.below BY.out)
          have k3 : wy.cell? ⟨C, 3, none⟩ = some (.int .i64 DL.bi) := C10.out.cell 3
          obtain ⟨u10, k10⟩ : ∃ u, wy.cell? ⟨C, 10, none⟩ = some u := ⟨_, C10.out.cell 10⟩
          have f10 := C10.out.fz 10
          have C11 : Hid (Co (wy.setCell ⟨C, 10, none⟩ (.int .i64 DL.bi)) 0 C (.slice va8 n8 vc8) { DL with told := DL.bi }) := hid (C10.out.set rfl rfl)
          go_wp2_with fail
          go_ret2
          exact ⟨C, _, by rw [HB.out]; rfl, HCE.out, by rw [HB.out]; show Co _ 0 C _ { ldD self l with told := (ldD self l).bi }; rw [← HDL.out]; exact C11.out, L9.out, below_set (B9.out.trans (BY.out.mono B9.out.size)) HCE.out⟩
end Go.Proofs.Ytjimneaimnjanaa
