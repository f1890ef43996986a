/- The law WardenCounts: for every input it returns true, and leaves its arguments as they were. No condition. -/
import Derived.Test.YtmgjjkcmgfpbdaaWdCold
import Derived.Test.YtmgjjkcmgfpbdaaAtRepl
import Derived.Test.YtmgjjkcmgfpbdaaAtFits
import Derived.Great.BuildSlice
import Derived.Great.Walk
import Derived.Laws.OwnMore
import Derived.Test.YtmgjjkcmgfpbdaaWdAll
import Derived.Test.YtmgjjkcmgfpbdaaAtBase
import Derived.ProofKit
import Derived.OpenShut
import Derived.ChangeOld
import Derived.Deep.SlicePairs
import Derived.Lib.SmallJoins
import Derived.Test.YtmgjjkcmgfpbdaaRows
import Derived.WalkKit
import Derived.ShutString
import Derived.Below
namespace Go.Proofs.Ytmgjjkcmgfpbdaa
open Go.RowKit Go.Maps Go.Shelf
set_option linter.unusedVariables false
set_option linter.unusedSimpArgs false

def mtC (n : Int) (C : List Int) : Array Value := (Value.int .i64 n :: nvs C).toArray
/-- A Meter: how many commands, and how many of each block. -/
structure Mt (w : World) (b : Nat) (n : Int) (C : List Int) : Prop where
  h : w.heap[b]? = some (.cells (mtC n C) 54 (0, 0))
  len : C.length = 256
theorem Mt.below {w w' : World} {b : Nat} {n : Int} {C : List Int} (h : Mt w b n C) (hb : Below w.heap.size w w') : Mt w' b n C := ⟨(hb.block b (lt_of_block h.h)).trans h.h, h.len⟩
theorem Mt.cmd {w : World} {b : Nat} {n : Int} {C : List Int} (h : Mt w b n C) : w.cell? ⟨b, 0, none⟩ = some (.int .i64 n) := by rw [cell_of_row _ _ _ _ _ _ h.h]; simp [mtC]
theorem Mt.at {w : World} {b : Nat} {n : Int} {C : List Int} (h : Mt w b n C) (j : Nat) (hj : j < C.length) : w.cell? ⟨b, j + 1, none⟩ = some (.int .i64 C[j]) := by rw [cell_of_row _ _ _ _ _ _ h.h]; simp [mtC, nvs, hj]
theorem Mt.fz {w : World} {b : Nat} {n : Int} {C : List Int} (h : Mt w b n C) (i : Nat) : w.frozen? ⟨b, i, none⟩ = false := frozen_of_row _ _ _ _ _ h.h
theorem Mt.setCmd {w : World} {b : Nat} {n : Int} {C : List Int} (h : Mt w b n C) (m : Int) : Mt (w.setCell ⟨b, 0, none⟩ (.int .i64 m)) b m C := ⟨by rw [heap_setCell_same _ _ _ _ _ _ h.h]; simp [mtC], h.len⟩
theorem Mt.setAt {w : World} {b : Nat} {n : Int} {C : List Int} (h : Mt w b n C) (j : Nat) (m : Int) : Mt (w.setCell ⟨b, j + 1, none⟩ (.int .i64 m)) b n (C.set j m) := ⟨by rw [heap_setCell_same _ _ _ _ _ _ h.h]; simp [mtC, nvs, List.map_set], by rw [List.length_set]; exact h.len⟩
theorem wpl_loadSpM {ops : Array Oper} {rest : List Oper} {o : Oper} {a : Act} {w : World} {Q : Exit → Act → World → Prop} (hgd : o.guard = none) (x : Operand) (ho : o.op = .load 51 x)
    (b f : Nat) (hx : a.eval x = .pointer (some ⟨b, f, none⟩)) (c0 c1 : Value) (hg : w.rangeAt b f [c0, c1])
    (h : wpList Try.prog ops Q rest (a.put o.dst (.agg #[c0, c1])) w) : wpList Try.prog ops Q (o :: rest) a w := by
  obtain ⟨d, hd1, hd2⟩ := Try.rowSp
  exact wpList_load_mid hgd _ x ho b f hx [c0, c1] d hg hd1 hd2 Try.sizeSp h
/-- From which block on, and up to which one. -/
def loD (s : Sp) : Int := min (max s.1 0) 256
def hiD (s : Sp) : Int := max (loD s) (min s.2 256)
theorem lo_b (s : Sp) : 0 ≤ loD s ∧ loD s ≤ 256 := by unfold loD; omega
theorem hi_b (s : Sp) : loD s ≤ hiD s ∧ hiD s ≤ 256 := by have := lo_b s; unfold hiD; omega
/-- What on tells: a part of the counts, and where it begins. -/
def OnP (b : Nat) (s : Sp) (w : World) (e : Ending) (w' : World) : Prop := ∃ lo hi o cap : Nat, e = .returned (.tuple #[.slice (some ⟨b, o, none⟩) (hi - lo) cap, .int .i64 lo]) ∧ (lo < hi → o = 1 + lo) ∧ (lo : Int) = loD s ∧ (hi : Int) = hiD s ∧ lo ≤ hi ∧ hi ≤ 256 ∧ hi - lo ≤ cap ∧ cap ≤ 256 ∧ Below w.heap.size w w'
theorem Try.underlyingMt : Try.prog.underlying 52 = some (.array 256 3) := by kernel_rfl
set_option maxRecDepth 100000 in
set_option maxHeartbeats 2000000 in
theorem on_any (b : Nat) (n : Int) (C : List Int) (s : Sp) (w : World) (h : Mt w b n C) :
    Calls Try.prog 53 #[.pointer (some ⟨b, 0, none⟩), .agg #[.int .i64 s.1, .int .i64 s.2]] w (OnP b s w) := by
  obtain ⟨fr, tt⟩ := s
  have B1 : Hid (Below w.heap.size w (w.alloc (.cells #[.int .i64 fr, .int .i64 tt] 51))) := hid ((Below.refl _ _).alloc (Nat.le_refl _) _)
  have HL := hid (lo_b (fr, tt))
  have HH := hid (hi_b (fr, tt))
  have hll : min (max fr 0) 256 = loD (fr, tt) := rfl
  have hhh : max (loD (fr, tt)) (min tt 256) = hiD (fr, tt) := rfl
  obtain ⟨lo, hlo⟩ : ∃ lo : Nat, (lo : Int) = loD (fr, tt) := ⟨(loD (fr, tt)).toNat, by have := HL.out.1; omega⟩
  obtain ⟨hi, hhi⟩ : ∃ hi : Nat, (hi : Int) = hiD (fr, tt) := ⟨(hiD (fr, tt)).toNat, by have := HL.out.1; have := HH.out.1; omega⟩
  have HLO := hid hlo
  have HHI := hid hhi
  rw [← hlo] at hll hhh HL HH
  rw [← hhi] at hhh HH
  have h1 : lo ≤ hi := by have := HH.out.1; omega
  have h2 : hi ≤ 256 := by have := HH.out.2; omega
  have h1i : (lo : Int) ≤ (hi : Int) := by omega
  have h2i : (hi : Int) ≤ 256 := by omega
  clear hlo hhi
  go_enter Try.func53, Try.ntmps53
  go_wp2_with fail
  · go_ret2
    exact ⟨lo, hi, _, _, rfl, (fun h => by omega), HLO.out, HHI.out, h1, h2, by omega, by omega, B1.out⟩
  · go_ret2
    exact ⟨lo, hi, _, _, rfl, (fun h => rfl), HLO.out, HHI.out, h1, h2, by omega, by omega, B1.out⟩
/-- The counts behind a command of the blocks from lo up to hi. -/
def upC (C : List Int) (lo : Nat) : Nat → List Int
  | 0 => C
  | k + 1 => (upC C lo k).set (lo + k) ((upC C lo k).getD (lo + k) 0 + 1)
theorem upC_len (C : List Int) (lo : Nat) : ∀ k, (upC C lo k).length = C.length
  | 0 => rfl
  | k + 1 => by rw [upC, List.length_set, upC_len C lo k]
theorem upC_get (C : List Int) (lo : Nat) : ∀ k j, (upC C lo k).getD j 0 = if lo ≤ j ∧ j < lo + k ∧ j < C.length then C.getD j 0 + 1 else C.getD j 0
  | 0, j => by rw [if_neg (by omega)]; rfl
  | k + 1, j => by
    rw [upC]
    by_cases h : j = lo + k
    · subst h
      by_cases hl : lo + k < C.length
      · rw [if_pos (by omega)]
        have hl' : lo + k < (upC C lo k).length := by rw [upC_len]; exact hl
        simp only [List.getD, List.getElem?_set_self hl', Option.getD_some]
        have := upC_get C lo k (lo + k)
        rw [if_neg (by omega)] at this
        simp only [List.getD] at this
        rw [this]
      · rw [if_neg (by omega)]
        have h1 : ((upC C lo k).set (lo + k) ((upC C lo k).getD (lo + k) 0 + 1))[lo + k]? = none := by rw [List.getElem?_eq_none (by rw [List.length_set, upC_len]; omega)]
        have h2 : C[lo + k]? = none := List.getElem?_eq_none (by omega)
        show (((upC C lo k).set (lo + k) ((upC C lo k).getD (lo + k) 0 + 1))[lo + k]?).getD 0 = (C[lo + k]?).getD 0
        rw [h1, h2]
    · have e : ((upC C lo k).set (lo + k) ((upC C lo k).getD (lo + k) 0 + 1)).getD j 0 = (upC C lo k).getD j 0 := by
        simp only [List.getD]
        rw [List.getElem?_set_ne (fun e => h e.symm)]
      rw [e, upC_get C lo k j]
      by_cases h2 : lo ≤ j ∧ j < lo + k ∧ j < C.length
      · rw [if_pos h2, if_pos (by omega)]
      · rw [if_neg h2, if_neg (by omega)]
/-- What Note leaves. -/
def NtP (b : Nat) (n : Int) (C : List Int) (s : Sp) (w : World) (e : Ending) (w' : World) : Prop := ∃ lo k : Nat, e = .returned (.tuple #[]) ∧ Mt w' b (n + 1) (upC C lo k) ∧ (lo : Int) = loD s ∧ ((lo + k : Nat) : Int) = hiD s ∧ Tr (fun q => q = b) w w'
set_option maxRecDepth 100000 in
set_option maxHeartbeats 4000000 in
theorem note_any (b : Nat) (n : Int) (C : List Int) (s : Sp) (w : World) (h : Mt w b n C) (hn : 0 ≤ n ∧ n ≤ 1000000) (hC : ∀ x ∈ C, 0 ≤ x ∧ x ≤ 1000000) :
    Calls Try.prog 20 #[.pointer (some ⟨b, 0, none⟩), .agg #[.int .i64 s.1, .int .i64 s.2]] w (NtP b n C s w) := by
  obtain ⟨fr, tt⟩ := s
  have b1 : Below w.heap.size w (w.alloc (.cells #[.int .i64 fr, .int .i64 tt] 51)) := (Below.refl _ _).alloc (Nat.le_refl _) _
  have hA := heap_alloc_new w (.cells #[.int .i64 fr, .int .i64 tt] 51)
  have H1 := hid (h.below b1)
  have B1 := hid b1
  have c0 : (w.alloc (.cells #[.int .i64 fr, .int .i64 tt] 51)).cell? ⟨b, 0, none⟩ = some (.int .i64 n) := H1.out.cmd
  have f0 : (w.alloc (.cells #[.int .i64 fr, .int .i64 tt] 51)).frozen? ⟨b, 0, none⟩ = false := H1.out.fz 0
  have hw1 : IntKind.i64.wrap (n + 1) = n + 1 := IntWalk.i64_in _ ⟨by omega, by omega⟩
  have hbA : b ≠ w.heap.size := fun e => by have := lt_of_block h.h; omega
  have HBA := hid hbA
  have HC := hid hC
  have HN := hid hn
  have HLEN := hid h.len
  obtain ⟨w1, hw⟩ : ∃ w1, w1 = w.alloc (.cells #[.int .i64 fr, .int .i64 tt] 51) := ⟨_, rfl⟩
  rw [← hw] at b1 hA H1 B1 c0 f0
  have HW := hid hw
  clear h hC hn hw b1 hbA
  go_enter Try.func20, Try.ntmps20
  go_upto_region 1 with fail
  rw [← HW.out]
  clear HW
  obtain ⟨A, hAe⟩ : ∃ A, A = w.heap.size := ⟨_, rfl⟩
  rw [← hAe] at hA HBA
  rw [← hAe]
  have HA := hid hA
  clear hA hAe
  go_upto_region 3 with fail
  have H2 := hid (H1.out.setCmd (n + 1))
  have T2 : Hid (Tr (fun q => q = b) w (w1.setCell ⟨b, 0, none⟩ (.int .i64 (n + 1)))) := hid ((Tr.below B1.out).trans (Tr.set rfl))
  have HA2 : Hid ((w1.setCell ⟨b, 0, none⟩ (.int .i64 (n + 1))).heap[A]? = some (.cells #[.int .i64 fr, .int .i64 tt] 51 (0, 0))) := hid ((Below.heap_setCell _ _ _ _ (fun e => HBA.out (by have e' : A = b := e; exact e'.symm))).trans HA.out)
  clear c0 f0
  generalize w1.setCell ⟨b, 0, none⟩ (.int .i64 (n + 1)) = w2 at *
  have hR2 : w2.rangeAt A 0 [.int .i64 fr, .int .i64 tt] := range_of_row HA2.out 0 _ fun j v hv => by rw [Nat.zero_add]; simpa using hv
  go_upto_region 4 with (first | (refine wpl_loadSpM rfl _ rfl A 0 rfl _ _ hR2 ?_) | (go_at_call 53; refine (on_any b (n + 1) C (fr, tt) _ H2.out).mono ?_; rintro e w3 ⟨lo, hi, o, cap, rfl, ho, hlo, hhi, h1, h2, hc1, hc2, hb3⟩; have HO := hid ho; have HLO := hid hlo; have HHI := hid hhi; have B3 := hid hb3; clear ho hlo hhi hb3))
  have H3 := hid (H2.out.below B3.out)
  have T3 := hid (T2.out.trans (Tr.below B3.out))
  obtain ⟨k, hk⟩ : ∃ k, k = hi - lo := ⟨_, rfl⟩
  rw [← hk] at hc1
  rw [← hk]
  have HK := hid hk
  have hk256 : (k : Int) ≤ 256 := by omega
  clear hk
  go_wp2_with fail
  go_loopw [6, 24] (fun _ iv wr => ∃ i : Nat, iv = .int .i64 i ∧ i ≤ k ∧ Mt wr b (n + 1) (upC C lo i) ∧ Tr (fun q => q = b) w wr) (fun _ iv _ => k - (intOf iv).toNat)
  case atStart => exact ⟨0, rfl, Nat.zero_le _, H3.out, T3.out⟩
  case round =>
    obtain ⟨i, rfl, hi', hm, htr⟩ := hrel
    have HM := hid hm
    have TR := hid htr
    clear hm htr
    by_cases hlt : (i : Int) < (k : Int)
    · have hik : i < k := by omega
      have hol : lo + i < C.length := by have := HK.out; have := HLEN.out; omega
      have hoo : o = 1 + lo := HO.out (by have := HK.out; omega)
      subst hoo
      have hul : lo + i < (upC C lo i).length := by rw [upC_len]; exact hol
      obtain ⟨x, hx⟩ : ∃ x, x = (upC C lo i).getD (lo + i) 0 := ⟨_, rfl⟩
      have hxv : (upC C lo i)[lo + i] = x := by rw [hx]; simp [List.getD, List.getElem?_eq_getElem hul]
      have hxC : x = C.getD (lo + i) 0 := by rw [hx, upC_get, if_neg (by omega)]
      have hxb : 0 ≤ x ∧ x ≤ 1000000 := by
        rw [hxC, show C.getD (lo + i) 0 = C[lo + i] from by simp [List.getD, List.getElem?_eq_getElem hol]]
        exact HC.out _ (List.getElem_mem hol)
      have c0 := HM.out.at (lo + i) hul
      rw [hxv, show lo + i + 1 = 1 + lo + i from by omega] at c0
      have f0 : wr.frozen? ⟨b, 1 + lo + i, none⟩ = false := HM.out.fz _
      have hwx : IntKind.i64.wrap (x + 1) = x + 1 := IntWalk.i64_in _ ⟨by omega, by omega⟩
      have HM2 : Hid (Mt (wr.setCell ⟨b, 1 + lo + i, none⟩ (.int .i64 (x + 1))) b (n + 1) (upC C lo (i + 1))) := hid (by
        have := HM.out.setAt (lo + i) (x + 1)
        rw [show lo + i + 1 = 1 + lo + i from by omega] at this
        rw [upC, ← hx]
        exact this)
      have TR2 : Hid (Tr (fun q => q = b) w (wr.setCell ⟨b, 1 + lo + i, none⟩ (.int .i64 (x + 1)))) := hid (TR.out.trans (Tr.set rfl))
      clear hx hxv hxC hxb
      go_wp2_with fail
      go_roundw
      case rel => exact ⟨i + 1, by go_num, by omega, HM2.out, TR2.out⟩
      case measure => simp [intOf]; omega
    · obtain rfl : i = k := by omega
      go_wp2_with fail
      go_end0
      exact ⟨lo, i, rfl, HM.out, HLO.out, by rw [← HHI.out]; have := HK.out; omega, TR.out⟩
/-- How much the first j of the counts from lo on are together. -/
def smC (C : List Int) (lo : Nat) : Nat → Int
  | 0 => 0
  | j + 1 => smC C lo j + C.getD (lo + j) 0
theorem smC_b (C : List Int) (lo : Nat) (hC : ∀ x ∈ C, 0 ≤ x ∧ x ≤ 1000000) : ∀ j, 0 ≤ smC C lo j ∧ smC C lo j ≤ 1000000 * j
  | 0 => ⟨Int.le_refl _, Int.le_refl _⟩
  | j + 1 => by
    have h := smC_b C lo hC j
    have hx : 0 ≤ C.getD (lo + j) 0 ∧ C.getD (lo + j) 0 ≤ 1000000 := by
      by_cases hl : lo + j < C.length
      · rw [show C.getD (lo + j) 0 = C[lo + j] from by simp [List.getD, List.getElem?_eq_getElem hl]]
        exact hC _ (List.getElem_mem hl)
      · rw [show C.getD (lo + j) 0 = 0 from by simp [List.getD, List.getElem?_eq_none (show C.length ≤ lo + j by omega)]]
        omega
    rw [smC]
    omega
/-- Which block is in the midst. -/
def MidR (C : List Int) (lo k : Nat) (fr v : Int) : Prop := (smC C lo k ≤ 0 ∧ v = fr) ∨ (0 < smC C lo k ∧ ∃ i : Nat, i < k ∧ v = ((lo + i : Nat) : Int) ∧ smC C lo k ≤ 2 * smC C lo (i + 1) ∧ ∀ j, j < i → 2 * smC C lo (j + 1) < smC C lo k)
def MdP (C : List Int) (s : Sp) (w : World) (e : Ending) (w' : World) : Prop := ∃ (lo k : Nat) (v : Int), e = .returned (.int .i64 v) ∧ (lo : Int) = loD s ∧ ((lo + k : Nat) : Int) = hiD s ∧ MidR C lo k s.1 v ∧ Below w.heap.size w w'
set_option maxRecDepth 100000 in
set_option maxHeartbeats 4000000 in
theorem mid_any (b : Nat) (n : Int) (C : List Int) (s : Sp) (w : World) (h : Mt w b n C) (hC : ∀ x ∈ C, 0 ≤ x ∧ x ≤ 1000000) :
    Calls Try.prog 22 #[.pointer (some ⟨b, 0, none⟩), .agg #[.int .i64 s.1, .int .i64 s.2]] w (MdP C s w) := by
  obtain ⟨fr, tt⟩ := s
  have b1 : Below w.heap.size w (w.alloc (.cells #[.int .i64 fr, .int .i64 tt] 51)) := (Below.refl _ _).alloc (Nat.le_refl _) _
  have hA := heap_alloc_new w (.cells #[.int .i64 fr, .int .i64 tt] 51)
  have H1 := hid (h.below b1)
  have B1 := hid b1
  have HSM := hid (fun lo j => smC_b C lo hC j)
  have HLEN := hid h.len
  obtain ⟨w1, hw⟩ : ∃ w1, w1 = w.alloc (.cells #[.int .i64 fr, .int .i64 tt] 51) := ⟨_, rfl⟩
  rw [← hw] at hA H1 B1
  have HW := hid hw
  clear h hC hw b1
  go_enter Try.func22, Try.ntmps22
  go_upto_region 1 with fail
  rw [← HW.out]
  clear HW
  obtain ⟨A, hAe⟩ : ∃ A, A = w.heap.size := ⟨_, rfl⟩
  rw [← hAe] at hA
  rw [← hAe]
  have HA := hid hA
  have hR1 : w1.rangeAt A 0 [.int .i64 fr, .int .i64 tt] := range_of_row hA 0 _ fun j v hv => by rw [Nat.zero_add]; simpa using hv
  clear hA hAe
  go_upto_region 5 with (first | (refine wpl_loadSpM rfl _ rfl A 0 rfl _ _ hR1 ?_) | (go_at_call 53; refine (on_any b n C (fr, tt) _ H1.out).mono ?_; rintro e w3 ⟨lo, hi, o, cap, rfl, ho, hlo, hhi, h1, h2, hc1, hc2, hb3⟩; have HO := hid ho; have HLO := hid hlo; have HHI := hid hhi; have B3 := hid hb3; clear ho hlo hhi hb3))
  have H3 := hid (H1.out.below B3.out)
  have B13 := hid (B1.out.trans (B3.out.mono B1.out.size))
  have HA3 := hid ((B3.out.block A (lt_of_block HA.out)).trans HA.out)
  obtain ⟨k, hk⟩ : ∃ k, k = hi - lo := ⟨_, rfl⟩
  rw [← hk] at hc1
  rw [← hk]
  have HK := hid hk
  have HHK : Hid (((lo + k : Nat) : Int) = hiD (fr, tt)) := hid (by rw [← HHI.out]; omega)
  have hk256 : (k : Int) ≤ 256 := by omega
  have hl256 : (lo : Int) ≤ 256 := by omega
  have HX : Hid (∀ i, i < k → ∃ x, C.getD (lo + i) 0 = x ∧ w3.cell? ⟨b, 1 + lo + i, none⟩ = some (.int .i64 x)) := hid fun i hi' => by
    have hl : lo + i < C.length := by have := HLEN.out; omega
    refine ⟨C[lo + i], by simp [List.getD, List.getElem?_eq_getElem hl], ?_⟩
    have := H3.out.at (lo + i) hl
    rwa [show lo + i + 1 = 1 + lo + i from by omega] at this
  clear hk HHI H1 HA hR1
  go_upto_region 6 with fail
  go_loopw [7, 9, 25] (fun av _ iv wr => ∃ i : Nat, iv = .int .i64 i ∧ i ≤ k ∧ av = .int .i64 (smC C lo i) ∧ wr = w3) (fun _ _ iv _ => k - (intOf iv).toNat)
  case atStart => exact ⟨0, rfl, Nat.zero_le _, rfl, rfl⟩
  case round =>
    obtain ⟨i, rfl, hi', rfl, rfl⟩ := hrel
    by_cases hlt : (i : Int) < (k : Int)
    · have hik : i < k := by omega
      have hoo : o = 1 + lo := HO.out (by have := HK.out; omega)
      subst hoo
      obtain ⟨x, hx, c0⟩ := HX.out i hik
      have hb := HSM.out lo i
      have hb1 := HSM.out lo (i + 1)
      have HS : Hid (smC C lo (i + 1) = smC C lo i + x) := hid (by rw [smC, hx])
      rw [HS.out] at hb1
      obtain ⟨y, hy⟩ : ∃ y, y = smC C lo i := ⟨_, rfl⟩
      rw [← hy] at hb hb1 HS
      have hwy : IntKind.i64.wrap (y + x) = y + x := IntWalk.i64_in _ ⟨by omega, by omega⟩
      rw [← hy]
      clear hb hb1 hx hy
      go_wp2_with fail
      go_roundw
      case rel => exact ⟨i + 1, by go_num, by omega, by rw [HS.out], by first | rfl | trivial⟩
      case measure => simp [intOf]; omega
    · obtain rfl : i = k := by omega
      obtain ⟨al, hal⟩ : ∃ al, al = smC C lo i := ⟨_, rfl⟩
      have HAL := hid hal
      have hab := HSM.out lo i
      rw [← hal] at hab
      rw [← hal]
      clear hal
      obtain ⟨wq, rfl⟩ : ∃ x, x = wr := ⟨_, rfl⟩
      go_upto_region 12 with fail
      go_loopw [10, 11, 12, 35] (fun uv _ _ iv wr => ∃ j : Nat, iv = .int .i64 j ∧ j ≤ i ∧ uv = .int .i64 (smC C lo j) ∧ (0 < al → ∀ m, m < j → 2 * smC C lo (m + 1) < al) ∧ wr = wq) (fun _ _ _ iv _ => i - (intOf iv).toNat)
      case atStart => exact ⟨0, rfl, Nat.zero_le _, rfl, (fun _ m hm => by omega), rfl⟩
      case round =>
        obtain ⟨j, rfl, hj, rfl, hall, rfl⟩ := hrel
        have HALL := hid hall
        clear hall
        by_cases hlt2 : (j : Int) < (i : Int)
        · have hik : j < i := by omega
          have hoo : o = 1 + lo := HO.out (by have := HK.out; omega)
          subst hoo
          obtain ⟨x, hx, c0⟩ := HX.out j hik
          have hb := HSM.out lo j
          have hb1 := HSM.out lo (j + 1)
          have HS : Hid (smC C lo (j + 1) = smC C lo j + x) := hid (by rw [smC, hx])
          have hsx : smC C lo (j + 1) = smC C lo j + x := HS.out
          rw [hsx] at hb1
          obtain ⟨y, hy⟩ : ∃ y, y = smC C lo j := ⟨_, rfl⟩
          rw [← hy] at hb hb1 HS
          rw [← hy]
          have hwy : IntKind.i64.wrap (y + x) = y + x := IntWalk.i64_in _ ⟨by omega, by omega⟩
          obtain ⟨z, hz⟩ : ∃ z, z = y + x := ⟨_, rfl⟩
          rw [← hz] at hwy hb1 HS
          have hwyz : IntKind.i64.wrap (y + x) = z := by rw [hz]; exact IntWalk.i64_in _ ⟨by omega, by omega⟩
          have hw2 : IntKind.i64.wrap (2 * z) = 2 * z := IntWalk.i64_in _ ⟨by omega, by omega⟩
          have hwl : IntKind.i64.wrap ((lo : Int) + (j : Int)) = (lo : Int) + (j : Int) := IntWalk.i64_in _ ⟨by omega, by omega⟩
          have HJI := hid hik
          clear hwy hx hy hz hsx hb hb1
          by_cases hp : 0 < al
          · by_cases hm : al ≤ 2 * z
            · have HM := hid hm
              have HP := hid hp
              go_wp2_with fail
              go_ret
              exact ⟨lo, i, _, rfl, HLO.out, HHK.out, .inr ⟨by rw [← HAL.out]; exact HP.out, j, HJI.out, by push_cast; rfl, by rw [← HAL.out, HS.out]; exact HM.out, by rw [← HAL.out]; exact HALL.out HP.out⟩, B13.out⟩
            · have hm' : 2 * z < al := by omega
              have HNX : Hid (0 < al → ∀ m, m < j + 1 → 2 * smC C lo (m + 1) < al) := hid fun h m hm2 => by
                rcases Nat.lt_or_ge m j with h3 | h3
                · exact HALL.out h m h3
                · have e : m = j := by omega
                  rw [e, HS.out]; exact hm'
              go_wp2_with fail
              go_roundw
              case rel => exact ⟨j + 1, by go_num, by omega, by rw [HS.out], HNX.out, by first | rfl | trivial⟩
              case measure => simp [intOf]; omega
          · have hp' : ¬ 0 < al := hp
            have HNX : Hid (0 < al → ∀ m, m < j + 1 → 2 * smC C lo (m + 1) < al) := hid fun h => absurd h hp'
            go_wp2_with fail
            go_roundw
            case rel => exact ⟨j + 1, by go_num, by omega, by rw [HS.out], HNX.out, by first | rfl | trivial⟩
            case measure => simp [intOf]; omega
        · obtain rfl : j = i := by omega
          have HEND : Hid (MidR C lo j fr fr) := hid (by
            by_cases hp : 0 < al
            · exfalso
              have hj0 : 0 < j := by
                rcases Nat.eq_zero_or_pos j with e | e
                · rw [e] at HAL
                  have h5 : al = 0 := HAL.out
                  omega
                · exact e
              have h6 := HALL.out hp (j - 1) (by omega)
              rw [show j - 1 + 1 = j from by omega, ← HAL.out] at h6
              omega
            · exact .inl ⟨by rw [← HAL.out]; omega, rfl⟩)
          have a0 : wr.cell? ⟨A, 0, none⟩ = some (.int .i64 fr) := by rw [cell_of_row _ _ _ _ _ _ HA3.out]; rfl
          go_wp2_with fail
          go_ret
          exact ⟨lo, j, fr, rfl, HLO.out, HHK.out, HEND.out, B13.out⟩
end Go.Proofs.Ytmgjjkcmgfpbdaa
namespace Go.Proofs.Ytmgjjkcmgfpbdaa
open Go.RowKit Go.Maps Go.Shelf
set_option linter.unusedVariables false
set_option linter.unusedSimpArgs false

def z256 : List Int := List.replicate 256 0
theorem z256_len : z256.length = 256 := List.length_replicate
theorem z256_mem : ∀ x ∈ z256, x = 0 := fun x hx => (List.mem_replicate.1 hx).2
def zM : Array Value := mtC 0 z256
set_option maxRecDepth 100000 in
theorem Try.builtMt : Try.prog.built 54 [] = some zM := by kernel_rfl
set_option maxRecDepth 100000 in
theorem Try.sizeMt : (Try.prog.info? 54).map (·.size) = some zM.size := by kernel_rfl
set_option maxRecDepth 100000 in
theorem zM_size : zM.size = 257 := by kernel_rfl
set_option maxRecDepth 100000 in
theorem zM_one : zM.all (·.oneCell') = true := by kernel_rfl
set_option maxHeartbeats 1000000 in
theorem commands_any (b : Nat) (n : Int) (C : List Int) (w : World) (h : Mt w b n C) :
    Calls Try.prog 21 #[.pointer (some ⟨b, 0, none⟩)] w fun e w' => e = .returned (.int .i64 n) ∧ w' = w := by
  have c0 := h.cmd
  clear h
  go_enter Try.func21, Try.ntmps21
  go_wp2_with fail
  go_ret
  exact ⟨rfl, rfl⟩
set_option maxHeartbeats 1000000 in
theorem commands_nil (w : World) :
    Calls Try.prog 21 #[.pointer none] w fun e w' => e = .returned (.int .i64 0) ∧ w' = w := by
  go_enter Try.func21, Try.ntmps21
  go_wp2_with fail
  go_ret
  exact ⟨rfl, rfl⟩
set_option maxHeartbeats 1000000 in
theorem note_nil (s : Sp) (w : World) :
    Calls Try.prog 20 #[.pointer none, .agg #[.int .i64 s.1, .int .i64 s.2]] w fun e w' => e = .returned (.tuple #[]) ∧ Below w.heap.size w w' := by
  obtain ⟨fr, tt⟩ := s
  go_enter Try.func20, Try.ntmps20
  go_wp2_with fail
  refine bodyPost_ret (results_none rfl _ _ _) rfl ?_
  exact ⟨rfl, (Below.refl _ _).alloc (Nat.le_refl _) _⟩
set_option maxHeartbeats 1000000 in
theorem mid_nil (s : Sp) (w : World) :
    Calls Try.prog 22 #[.pointer none, .agg #[.int .i64 s.1, .int .i64 s.2]] w fun e w' => e = .returned (.int .i64 s.1) ∧ Below w.heap.size w w' := by
  obtain ⟨fr, tt⟩ := s
  go_enter Try.func22, Try.ntmps22
  go_wp2_with fail
  go_ret
  exact ⟨rfl, (Below.refl _ _).alloc (Nat.le_refl _) _⟩
set_option maxHeartbeats 1000000 in
theorem clear_nil (w : World) :
    Calls Try.prog 23 #[.pointer none] w fun e w' => e = .returned (.tuple #[]) ∧ w' = w := by
  go_enter Try.func23, Try.ntmps23
  go_wp2_with fail
  go_end0
  exact ⟨rfl, rfl⟩
set_option maxRecDepth 100000 in
set_option maxHeartbeats 1000000 in
theorem clear_any (b : Nat) (n : Int) (C : List Int) (w : World) (h : Mt w b n C) :
    Calls Try.prog 23 #[.pointer (some ⟨b, 0, none⟩)] w fun e w' => e = .returned (.tuple #[]) ∧ Mt w' b 0 z256 ∧ Tr (fun q => q = b) w w' := by
  have hM := h.h
  have hsz : (mtC n C).size = 257 := by simp [mtC, nvs, h.len]
  obtain ⟨Z, hZ⟩ : ∃ Z, Z = zM := ⟨_, rfl⟩
  have hb : Try.prog.built 54 [] = some Z := by rw [hZ]; exact Try.builtMt
  have hs : (Try.prog.info? 54).map (·.size) = some Z.size := by rw [hZ]; exact Try.sizeMt
  have ho : Z.all (·.oneCell') = true := by rw [hZ]; exact zM_one
  have hold : (mtC n C).size = Z.size := by rw [hsz, hZ, zM_size]
  have HZ := hid hZ
  have HM := hid hM
  generalize mtC n C = old at *
  clear hZ hsz h
  go_enter Try.func23, Try.ntmps23
  go_wp2_with (first | (refine wpList_buildTo rfl _ _ rfl _ rfl Z (by simpa using hb) ?_) | (refine wpList_store_row rfl _ _ _ rfl b Z rfl rfl _ _ hM hs hold ho ?_))
  go_end0
  refine ⟨rfl, ⟨?_, z256_len⟩, ⟨rfl, rfl, rfl, by simp, fun q hq hr => setRow_other _ _ _ _ hr⟩⟩
  rw [setRow_heap _ _ _ _ _ _ HM.out, HZ.out]
  rfl
end Go.Proofs.Ytmgjjkcmgfpbdaa
namespace Go.Proofs.Ytmgjjkcmgfpbdaa
open Go.RowKit Go.Maps Go.Shelf
set_option linter.unusedVariables false
set_option linter.unusedSimpArgs false

set_option maxRecDepth 100000 in
theorem Try.infoMt : (Try.prog.info? 54).map (fun i => i.zero) = some (some (.agg zM)) := by kernel_rfl
theorem Try.zeroMt (w : World) : (zeroValue 54).run Try.prog w = .ok (.agg zM) w := by
  have hz := Try.infoMt
  obtain ⟨Z, hZ⟩ : ∃ Z, Z = zM := ⟨_, rfl⟩
  rw [← hZ] at hz ⊢
  clear hZ
  cases hi : Try.prog.info? 54 with
  | none => rw [hi] at hz; cases hz
  | some i =>
    rw [hi] at hz
    have h2 : i.zero = some (.agg Z) := by simpa using hz
    simp [zeroValue, typeInfo, hi, h2]
theorem alloc_mt {f : Operand → Value} {o : Oper} {w : World} (hop : o.op = .alloc 54) : (execOp f o).run Try.prog w = .ok (.value (.pointer (some ⟨w.heap.size, 0, none⟩))) (w.alloc (.cells zM 54)) := by
  have hz := Try.zeroMt w
  generalize zM = Z at *
  simp [execOp, hop, Instr.alloc, hz, go_sem, Result.andThen]
/-- make of a row of numbers. -/
theorem wpl_make256 {w : World} {ops : Array Oper} {rest : List Oper} {o : Oper} {a : Act} {Q : Exit → Act → World → Prop} (hgd : o.guard = none) (l c : Operand) (hop : o.op = Op.makeSlice 26 l c) (hl : a.eval l = .int .i64 256) (hc : a.eval c = .int .i64 256)
    (hK : ∀ w', w'.ownsRow w.heap.size 3 1 (.slice (some ⟨w.heap.size, 0, none⟩) 256 256) 256 (nvs z256) → Below w.heap.size w w' → wpList Try.prog ops Q rest (a.put o.dst (.slice (some ⟨w.heap.size, 0, none⟩) 256 256)) w') :
    wpList Try.prog ops Q (o :: rest) a w := by
  obtain ⟨i0, hi, hz0, hz1, hz2⟩ := info_parts rowNm.i
  refine wpList_plain hgd fun K hK' => ?_
  obtain ⟨w', hrun, r1, r2⟩ := run_make_full (P := Try.prog) w w.heap.size 26 3 i0 (.int .i64 0) 1 Try.underlyingIs hi hz0 hz1 .i64 .i64 256 (by rw [hz2]; omega) (by unfold maxLen; omega) (Nat.le_refl _)
  have h256 : ((256 : Nat) : Int) = 256 := rfl
  rw [h256] at hrun
  unfold Oper.wp
  simp only [execOp, hop, hl, hc]
  simp [hrun, Result.andThen]
  refine hK' _ _ (hK w' ?_ ⟨r2.os, r2.tape, r2.output, r2.size, fun k hk => r2.block k hk (by simp)⟩)
  have e : (madeCells (Value.int .i64 0).cells (256 * 1)).toList = nvs z256 := by kernel_rfl
  rw [e] at r1
  exact r1
end Go.Proofs.Ytmgjjkcmgfpbdaa
namespace Go.Proofs.Ytmgjjkcmgfpbdaa
open Go.RowKit Go.Maps Go.Shelf
set_option linter.unusedVariables false
set_option linter.unusedSimpArgs false

theorem Sps.addrW {w : World} {ao : Option Addr} {cap : Nat} {l : List Sp} (h : Sps w (.slice ao l.length cap) l) (hl : 0 < l.length) : ∃ b o, ao = some ⟨b, o, none⟩ := by
  obtain ⟨ao', n, cap', e, h1, h2, h3, h4, h5⟩ := h
  cases e
  cases ao with
  | none => have := h4 rfl; omega
  | some a =>
    have h0 := (h5 a rfl 0 hl).1
    have := World.cell?_spot h0
    obtain ⟨b, o, sp⟩ := a
    simp [Addr.add] at this
    subst this
    exact ⟨b, o, rfl⟩
theorem Sps.rangeW {w : World} {b o cap : Nat} {l : List Sp} (h : Sps w (.slice (some ⟨b, o, none⟩) l.length cap) l) (j : Nat) (hj : j < l.length) : w.rangeAt b (o + j * 2) [.int .i64 l[j].1, .int .i64 l[j].2] := fun k u hu => by
  obtain ⟨ao', n, cap', e, h1, h2, h3, h4, h5⟩ := h
  cases e
  have h0 := h5 _ rfl j hj
  rw [Addr.add_lit, Addr.add_lit] at h0
  match k, hu with
  | 0, hu => cases hu; exact h0.1
  | 1, hu => cases hu; rw [show o + j * 2 + 1 = o + (j * 2 + 1) from by omega]; exact h0.2
/-- The counts, where the first j of them have been looked at. -/
structure Cnt (C : List Int) (s : Sp) (j : Nat) (D : List Int) : Prop where
  len : D.length = C.length
  at' : ∀ m, m < C.length → D.getD m 0 = if m < j ∧ s.1 ≤ (m : Int) ∧ (m : Int) < s.2 then C.getD m 0 + 1 else C.getD m 0
theorem Cnt.start (C : List Int) (s : Sp) : Cnt C s 0 C := ⟨rfl, fun m _ => by rw [if_neg (by omega)]⟩
theorem Cnt.skip {C D : List Int} {s : Sp} {j : Nat} (h : Cnt C s j D) (hn : ¬ (s.1 ≤ (j : Int) ∧ (j : Int) < s.2)) : Cnt C s (j + 1) D := ⟨h.len, fun m hm => by
  rw [h.at' m hm]
  by_cases h1 : m < j ∧ s.1 ≤ (m : Int) ∧ (m : Int) < s.2
  · rw [if_pos h1, if_pos ⟨by omega, h1.2⟩]
  · rw [if_neg h1, if_neg]
    rintro ⟨h2, h3⟩
    by_cases h4 : m = j
    · subst h4; exact hn h3
    · exact h1 ⟨by omega, h3⟩⟩
theorem Cnt.take {C D : List Int} {s : Sp} {j : Nat} (h : Cnt C s j D) (hj : j < C.length) (hy : s.1 ≤ (j : Int) ∧ (j : Int) < s.2) : Cnt C s (j + 1) (D.set j (D.getD j 0 + 1)) := ⟨by rw [List.length_set]; exact h.len, fun m hm => by
  have hjl : j < D.length := by rw [h.len]; exact hj
  by_cases e : m = j
  · subst e
    rw [if_pos ⟨by omega, hy⟩]
    have h1 := h.at' m hm
    rw [if_neg (by omega)] at h1
    show ((D.set m (D.getD m 0 + 1))[m]?).getD 0 = _
    rw [List.getElem?_set_self hjl, Option.getD_some, h1]
  · show ((D.set j (D.getD j 0 + 1))[m]?).getD 0 = _
    rw [List.getElem?_set_ne (fun h => e h.symm)]
    have h1 := h.at' m hm
    show D.getD m 0 = _
    rw [h1]
    by_cases h2 : m < j ∧ s.1 ≤ (m : Int) ∧ (m : Int) < s.2
    · rw [if_pos h2, if_pos ⟨by omega, h2.2⟩]
    · rw [if_neg h2, if_neg fun h3 => h2 ⟨by omega, h3.2⟩]⟩
theorem Cnt.done {C D : List Int} {s : Sp} (h : Cnt C s C.length D) (hC : C.length = 256) (lo k : Nat) (hlo : (lo : Int) = loD s) (hhi : ((lo + k : Nat) : Int) = hiD s) : D = upC C lo k := by
  refine List.ext_getElem (by rw [h.len, upC_len]) fun m h1 h2 => ?_
  have hm : m < C.length := by rw [← h.len]; exact h1
  have e1 : D[m] = D.getD m 0 := by simp [List.getD, List.getElem?_eq_getElem h1]
  have e2 : (upC C lo k)[m] = (upC C lo k).getD m 0 := by simp [List.getD, List.getElem?_eq_getElem h2]
  rw [e1, e2, h.at' m hm, upC_get]
  have key : (m < C.length ∧ s.1 ≤ (m : Int) ∧ (m : Int) < s.2) ↔ (lo ≤ m ∧ m < lo + k ∧ m < C.length) := by
    unfold loD at hlo
    unfold hiD loD at hhi
    push_cast at hhi
    constructor
    · rintro ⟨a, b, c⟩; omega
    · rintro ⟨a, b, c⟩; omega
  by_cases hk : m < C.length ∧ s.1 ≤ (m : Int) ∧ (m : Int) < s.2
  · rw [if_pos hk, if_pos (key.1 hk)]
  · rw [if_neg hk, if_neg fun h3 => hk (key.2 h3)]
theorem upC_b {C : List Int} {lo k : Nat} {n : Int} (hC : ∀ x ∈ C, 0 ≤ x ∧ x ≤ n) : ∀ x ∈ upC C lo k, 0 ≤ x ∧ x ≤ n + 1 := fun x hx => by
  obtain ⟨m, hm, rfl⟩ := List.mem_iff_getElem.1 hx
  have hmc : m < C.length := by rw [upC_len] at hm; exact hm
  have e : (upC C lo k)[m] = (upC C lo k).getD m 0 := by simp [List.getD, List.getElem?_eq_getElem hm]
  have e2 : C.getD m 0 = C[m] := by simp [List.getD, List.getElem?_eq_getElem hmc]
  have hb := hC _ (List.getElem_mem hmc)
  rw [e, upC_get, e2]
  split <;> omega
/-- How the Meter and the law's row stand behind i spans. -/
structure HvI (w : World) (mb g : Nat) (i : Nat) (C : List Int) (wr : World) : Prop where
  mt : Mt wr mb i C
  row : wr.ownsRow w.heap.size 3 1 (.slice (some ⟨g, 0, none⟩) 256 256) 256 (nvs C)
  cb : ∀ x ∈ C, 0 ≤ x ∧ x ≤ i
  b : Below w.heap.size w wr
  m : w.heap.size ≤ mb
theorem row_set {w : World} {B g : Nat} {C : List Int} (h : w.ownsRow B 3 1 (.slice (some ⟨g, 0, none⟩) 256 256) 256 (nvs C)) (j : Nat) (hj : j < 256) (v : Int) : (w.setCell ⟨g, j, none⟩ (.int .i64 v)).ownsRow B 3 1 (.slice (some ⟨g, 0, none⟩) 256 256) 256 (nvs (C.set j v)) := by
  have := own_put (i := j) (u := .int .i64 v) h (by omega)
  rwa [show (nvs C).set j (.int .i64 v) = nvs (C.set j v) from by simp [nvs, List.map_set]] at this
theorem HvI.start (w : World) (w2 : World) (hb : Below (w.alloc (.cells zM 54)).heap.size (w.alloc (.cells zM 54)) w2) (ho : w2.ownsRow (w.alloc (.cells zM 54)).heap.size 3 1 (.slice (some ⟨(w.alloc (.cells zM 54)).heap.size, 0, none⟩) 256 256) 256 (nvs z256)) : HvI w w.heap.size (w.alloc (.cells zM 54)).heap.size 0 z256 w2 := by
  have b1 : Below w.heap.size w (w.alloc (.cells zM 54)) := (Below.refl _ _).alloc (Nat.le_refl _) _
  refine ⟨⟨?_, z256_len⟩, own_lower ho (by simp), (fun x hx => by rw [z256_mem x hx]; omega), b1.trans (hb.mono b1.size), Nat.le_refl _⟩
  exact (hb.block _ (by simp)).trans (heap_alloc_new _ _)
end Go.Proofs.Ytmgjjkcmgfpbdaa
namespace Go.Proofs.Ytmgjjkcmgfpbdaa
open Go.RowKit Go.Maps Go.Shelf
set_option linter.unusedVariables false
set_option linter.unusedSimpArgs false

/-- How much the first j counts are together that a span has. -/
def smI (C : List Int) (s : Sp) : Nat → Int
  | 0 => 0
  | j + 1 => smI C s j + if s.1 ≤ (j : Int) ∧ (j : Int) < s.2 then C.getD j 0 else 0
theorem smI_eq (C : List Int) (s : Sp) (lo k : Nat) (hlo : (lo : Int) = loD s) (hhi : ((lo + k : Nat) : Int) = hiD s) : ∀ j, j ≤ 256 → smI C s j = smC C lo (min j (lo + k) - lo)
  | 0, _ => by rw [Nat.zero_min, Nat.zero_sub]; rfl
  | j + 1, h => by
    rw [smI, smI_eq C s lo k hlo hhi j (by omega)]
    have key : (s.1 ≤ (j : Int) ∧ (j : Int) < s.2) ↔ (lo ≤ j ∧ j < lo + k) := by
      unfold loD at hlo
      unfold hiD loD at hhi
      push_cast at hhi
      constructor
      · rintro ⟨b, c⟩; omega
      · rintro ⟨a, b⟩; omega
    by_cases hk : s.1 ≤ (j : Int) ∧ (j : Int) < s.2
    · have h2 := key.1 hk
      rw [if_pos hk, show min (j + 1) (lo + k) - lo = (min j (lo + k) - lo) + 1 from by omega, smC, show lo + (min j (lo + k) - lo) = j from by omega]
    · rw [if_neg hk]
      have h2 : ¬ (lo ≤ j ∧ j < lo + k) := fun h3 => hk (key.2 h3)
      rw [show min (j + 1) (lo + k) - lo = min j (lo + k) - lo from by omega]
      omega
theorem smI_b (C : List Int) (s : Sp) (hC : ∀ x ∈ C, 0 ≤ x ∧ x ≤ 1000000) : ∀ j, 0 ≤ smI C s j ∧ smI C s j ≤ 1000000 * j
  | 0 => ⟨Int.le_refl _, Int.le_refl _⟩
  | j + 1 => by
    have h := smI_b C s hC j
    have hx : 0 ≤ C.getD j 0 ∧ C.getD j 0 ≤ 1000000 := by
      by_cases hl : j < C.length
      · rw [show C.getD j 0 = C[j] from by simp [List.getD, List.getElem?_eq_getElem hl]]
        exact hC _ (List.getElem_mem hl)
      · rw [show C.getD j 0 = 0 from by simp [List.getD, List.getElem?_eq_none (show C.length ≤ j by omega)]]
        omega
    rw [smI]
    split <;> omega
theorem smC_zero (lo : Nat) : ∀ j, smC z256 lo j = 0
  | 0 => rfl
  | j + 1 => by
    rw [smC, smC_zero lo j]
    by_cases hl : lo + j < z256.length
    · rw [show z256.getD (lo + j) 0 = z256[lo + j] from by simp [List.getD, List.getElem?_eq_getElem hl], z256_mem _ (List.getElem_mem hl)]; rfl
    · rw [show z256.getD (lo + j) 0 = 0 from by simp [List.getD, List.getElem?_eq_none (show z256.length ≤ lo + j by omega)]]; rfl
/-- What the law has found among the first j blocks. -/
def FdI (C : List Int) (s : Sp) (al : Int) (j : Nat) (p q : Int) (found : Bool) : Prop :=
  (found = true ∧ ∃ m : Nat, m < j ∧ (s.1 ≤ (m : Int) ∧ (m : Int) < s.2) ∧ q = (m : Int) ∧ 0 < al ∧ al ≤ 2 * smI C s (m + 1) ∧ ∀ r, r < m → (s.1 ≤ (r : Int) ∧ (r : Int) < s.2) → 2 * smI C s (r + 1) < al) ∨
  (found = false ∧ q = s.1 ∧ (0 < al → p = smI C s j) ∧ (0 < al → ∀ r, r < j → (s.1 ≤ (r : Int) ∧ (r : Int) < s.2) → 2 * smI C s (r + 1) < al))
theorem fd_end {C : List Int} {s : Sp} {lo k : Nat} {p q v : Int} {found : Bool} (hlo : (lo : Int) = loD s) (hhi : ((lo + k : Nat) : Int) = hiD s) (h : FdI C s (smI C s 256) 256 p q found) (hm : MidR C lo k s.1 v) : q = v := by
  have hb := hi_b s
  have hlb := lo_b s
  have hk : lo + k ≤ 256 := by omega
  have hall : smI C s 256 = smC C lo k := by
    have e : min 256 (lo + k) - lo = k := by omega
    rw [smI_eq C s lo k hlo hhi 256 (by omega), e]
  have key : ∀ j : Nat, j < 256 → ((s.1 ≤ (j : Int) ∧ (j : Int) < s.2) ↔ (lo ≤ j ∧ j < lo + k)) := fun j hj => by
    unfold loD at hlo
    unfold hiD loD at hhi
    push_cast at hhi
    constructor
    · rintro ⟨b, c⟩; omega
    · rintro ⟨a, b⟩; omega
  have hpart : ∀ i, i < k → smI C s (lo + i + 1) = smC C lo (i + 1) := fun i hi => by
    have e : min (lo + i + 1) (lo + k) - lo = i + 1 := by omega
    rw [smI_eq C s lo k hlo hhi (lo + i + 1) (by omega), e]
  rcases h with ⟨-, m, hm1, hm2, rfl, h0, h1, h2⟩ | ⟨-, rfl, -, h2⟩
  · have hml := (key m hm1).1 hm2
    rcases hm with ⟨h3, -⟩ | ⟨h3, i, hi, rfl, h4, h5⟩
    · omega
    · rcases Nat.lt_trichotomy m (lo + i) with h6 | h6 | h6
      · have h7 := h5 (m - lo) (by omega)
        have h8 := hpart (m - lo) (by omega)
        rw [show lo + (m - lo) + 1 = m + 1 from by omega] at h8
        omega
      · rw [h6]
      · have h7 := h2 (lo + i) h6 ((key (lo + i) (by omega)).2 ⟨by omega, by omega⟩)
        rw [hpart i hi] at h7
        omega
  · rcases hm with ⟨-, h4⟩ | ⟨h3, i, hi, rfl, h4, h5⟩
    · exact h4.symm
    · have h7 := h2 (by omega) (lo + i) (by omega) ((key (lo + i) (by omega)).2 ⟨by omega, by omega⟩)
      rw [hpart i hi] at h7
      omega
theorem fd_skip {C : List Int} {s : Sp} {al : Int} {j : Nat} {p q : Int} {fd : Bool} (h : FdI C s al j p q fd) (hn : ¬ (s.1 ≤ (j : Int) ∧ (j : Int) < s.2) ∨ al ≤ 0 ∨ fd = true) : FdI C s al (j + 1) p q fd := by
  rcases h with ⟨hf, m, h1, h2⟩ | ⟨hf, hq, hp, ha⟩
  · exact .inl ⟨hf, m, by omega, h2⟩
  · refine .inr ⟨hf, hq, fun h0 => ?_, fun h0 r hr hin => ?_⟩
    · rcases hn with h | h | h
      · rw [smI, if_neg h, hp h0]; omega
      · omega
      · rw [hf] at h; cases h
    · by_cases e : r = j
      · subst e
        rcases hn with h | h | h
        · exact absurd hin h
        · omega
        · rw [hf] at h; cases h
      · exact ha h0 r (by omega) hin
theorem fd_yes {C : List Int} {s : Sp} {al : Int} {j : Nat} {p p' q : Int} (h : FdI C s al j p q false) (hin : s.1 ≤ (j : Int) ∧ (j : Int) < s.2) (h0 : 0 < al) (hx : al ≤ 2 * smI C s (j + 1)) : FdI C s al (j + 1) p' (j : Int) true := by
  rcases h with ⟨hf, -⟩ | ⟨-, -, -, ha⟩
  · cases hf
  · exact .inl ⟨rfl, j, by omega, hin, rfl, h0, hx, fun r hr hi => ha h0 r hr hi⟩
theorem fd_no {C : List Int} {s : Sp} {al : Int} {j : Nat} {p p' q : Int} (h : FdI C s al j p q false) (hin : s.1 ≤ (j : Int) ∧ (j : Int) < s.2) (hp : p' = smI C s (j + 1)) (hx : 2 * smI C s (j + 1) < al) : FdI C s al (j + 1) p' q false := by
  rcases h with ⟨hf, -⟩ | ⟨-, hq, -, ha⟩
  · cases hf
  · refine .inr ⟨rfl, hq, fun _ => hp, fun h0 r hr hi => ?_⟩
    by_cases e : r = j
    · subst e; exact hx
    · exact ha h0 r (by omega) hi
theorem fd_p {C : List Int} {s : Sp} {al : Int} {j : Nat} {p q : Int} (h : FdI C s al j p q false) (h0 : 0 < al) : p = smI C s j := by
  rcases h with ⟨hf, -⟩ | ⟨-, -, hp, -⟩
  · cases hf
  · exact hp h0
theorem spcW {w : World} {A : Nat} {f t : Int} (h : w.heap[A]? = some (.cells #[.int .i64 f, .int .i64 t] 51 (0, 0))) : w.cell? ⟨A, 0, none⟩ = some (.int .i64 f) ∧ w.cell? ⟨A, 1, none⟩ = some (.int .i64 t) := by
  refine ⟨?_, ?_⟩ <;> (rw [cell_of_row _ _ _ _ _ _ h]; rfl)
set_option maxRecDepth 100000 in
set_option maxHeartbeats 8000000 in
theorem wardenCounts_any (L : List Sp) (v : Value) (q : Sp) (w : World) (hv : Sps w v L) :
    Calls Try.prog 7 #[v, .agg #[.int .i64 q.1, .int .i64 q.2]] w fun e w' => e = .returned (.bool true) ∧ Below w.heap.size w w' := by
  obtain ⟨va, vc, rfl⟩ := hv.shape
  obtain ⟨f2, t2⟩ := q
  have hL : (L.length : Int) ≤ 9223372036854775807 := by obtain ⟨_, _, _, e, h1, h2, h3, _⟩ := hv; omega
  have bA : Below w.heap.size w (w.alloc (.cells #[.int .i64 f2, .int .i64 t2] 51)) := (Below.refl _ _).alloc (Nat.le_refl _) _
  have hA := heap_alloc_new w (.cells #[.int .i64 f2, .int .i64 t2] 51)
  have HVA := hid (hv.below bA)
  obtain ⟨wA, hwA⟩ : ∃ wA, wA = w.alloc (.cells #[.int .i64 f2, .int .i64 t2] 51) := ⟨_, rfl⟩
  rw [← hwA] at bA hA HVA
  have HWA := hid hwA
  have BA := hid bA
  clear hv hwA bA
  go_enter Try.func7, Try.ntmps7
  go_upto_region 1 with fail
  rw [← HWA.out]
  clear HWA
  obtain ⟨A, hAe⟩ : ∃ A, A = w.heap.size := ⟨_, rfl⟩
  rw [← hAe] at hA
  rw [← hAe]
  have HA := hid hA
  clear hA hAe
  go_upto_region 4 with (first | (refine Go.Great.wpList_allocTo rfl _ rfl _ _ (alloc_mt rfl) ?_) | (refine wpl_make256 rfl _ _ rfl rfl rfl ?_; intro w2 ho2 hb2; have HI0 := hid (HvI.start wA w2 hb2 ho2); clear ho2 hb2))
  obtain ⟨mb, hmb⟩ : ∃ mb, mb = wA.heap.size := ⟨_, rfl⟩
  rw [← hmb]
  have HI2 : Hid (HvI wA mb (mb + 1) 0 z256 w2) := hid (by have := HI0.out; rw [← hmb] at this; simpa [← hmb] using this)
  clear HI0 hmb
  go_wp2_with fail
  obtain ⟨g, hg⟩ : ∃ g, g = mb + 1 := ⟨_, rfl⟩
  rw [← hg] at HI2
  rw [← hg]
  clear hg
  go_loopw [7, 8, 9, 10, 21] (fun nv _ _ _ iv wr => ∃ (i : Nat) (C : List Int), iv = .int .i64 i ∧ nv = .int .i64 i ∧ i ≤ L.length ∧ i ≤ 200 ∧ HvI wA mb g i C wr) (fun _ _ _ _ iv _ => L.length - (intOf iv).toNat)
  case atStart => exact ⟨0, _, rfl, rfl, Nat.zero_le _, by omega, HI2.out⟩
  case round =>
    obtain ⟨i, C, rfl, rfl, hi, hi2, hI⟩ := hrel
    have HI := hid hI
    have BR := hid hI.b
    clear hI
    by_cases hlt : (i : Int) < (L.length : Int)
    · have hil : i < L.length := by omega
      obtain ⟨sb, so, rfl⟩ := HVA.out.addrW (by omega)
      have hRG := (HVA.out.below BR.out).rangeW i hil
      obtain ⟨s, hs⟩ : ∃ s, s = L[i] := ⟨_, rfl⟩
      rw [← hs] at hRG
      clear hs
      obtain ⟨fr, tt⟩ := s
      simp only at hRG
      go_upto_region 7 with (refine wpl_loadSpM rfl _ rfl sb (so + i * 2) (by go_simp) _ _ hRG ?_)
      have hb3 : Below wr.heap.size wr (wr.alloc (.cells #[.int .i64 fr, .int .i64 tt] 51)) := (Below.refl _ _).alloc (Nat.le_refl _) _
      have hS3 := heap_alloc_new wr (.cells #[.int .i64 fr, .int .i64 tt] 51)
      have M3 := hid (HI.out.mt.below hb3)
      have O3 := hid (own_below HI.out.row hb3)
      have B3 := hid (BR.out.trans (hb3.mono BR.out.size))
      have HS3 := hid hS3
      clear hRG hb3 hS3
      generalize wr.alloc (.cells #[.int .i64 fr, .int .i64 tt] 51) = w3 at *
      generalize wr.heap.size = SP at *
      have hwi : IntKind.i64.wrap ((i : Int) + 1) = (i : Int) + 1 := IntWalk.i64_in _ ⟨by omega, by omega⟩
      by_cases h200 : 200 ≤ i
      · have h200i : (200 : Int) ≤ (i : Int) := by omega
        have HJ : Hid (HvI wA mb g i C w3) := hid ⟨M3.out, O3.out, HI.out.cb, B3.out, HI.out.m⟩
        clear M3 O3 HI
        obtain ⟨wz, rfl⟩ : ∃ x, x = w3 := ⟨_, rfl⟩
        have HMB : Hid (∀ x ∈ C, 0 ≤ x ∧ x ≤ 1000000) := hid fun x hx => ⟨(HJ.out.cb x hx).1, by have := (HJ.out.cb x hx).2; omega⟩
        have HSI := hid (fun j => smI_b C (f2, t2) HMB.out j)
        have HAZ := hid ((HJ.out.b.block A (lt_of_block HA.out)).trans HA.out)
        have RZ := hid HJ.out.row
        have HCL5 := hid HJ.out.mt.len
        obtain ⟨a0, a1⟩ := spcW HAZ.out
        go_upto_region 17 with fail
        go_quiet (fail)
        have BQ : Below wz.heap.size wz (wz.drewN nq) := belowN _ _
        have HJQ := hid (HJ.out.mt.below BQ)
        have RQ := hid (own_below HJ.out.row BQ)
        have BWQ := hid (BA.out.trans ((HJ.out.b.trans (BQ.mono HJ.out.b.size)).mono BA.out.size))
        have HAQ := hid ((BQ.block A (lt_of_block HAZ.out)).trans HAZ.out)
        clear BQ
        generalize wz.drewN nq = wd at *
        obtain ⟨a0, a1⟩ := spcW HAQ.out
        have HC0 : Hid (∀ j, j < 256 → wd.cell? ⟨g, j, none⟩ = some (.int .i64 (C.getD j 0))) := hid fun j hj => own_cell RQ.out (by
          have hjD : j < C.length := by have := HCL5.out; omega
          simp [nvs, hjD])
        go_upto_region 19 with fail
        go_loopw [11, 15, 59] (fun av _ iv wr => ∃ j : Nat, iv = .int .i64 j ∧ j ≤ 256 ∧ av = .int .i64 (smI C (f2, t2) j) ∧ wr = wd) (fun _ _ iv _ => 256 - (intOf iv).toNat)
        case atStart => exact ⟨0, rfl, by omega, rfl, rfl⟩
        case round =>
          obtain ⟨j, rfl, hj, rfl, rfl⟩ := hrel
          by_cases hlt3 : (j : Int) < 256
          · have hjl : j < 256 := by omega
            have c0 := HC0.out j hjl
            have hb0 := HSI.out j
            have hb1 := HSI.out (j + 1)
            by_cases hf : f2 ≤ (j : Int)
            · by_cases ht : (j : Int) < t2
              · have hS : smI C (f2, t2) (j + 1) = smI C (f2, t2) j + C.getD j 0 := by rw [smI, if_pos ⟨hf, ht⟩]
                have HS := hid hS
                rw [hS] at hb1
                generalize C.getD j 0 = x at *
                clear hS
                generalize smI C (f2, t2) j = y at *
                have hwy : IntKind.i64.wrap (y + x) = y + x := IntWalk.i64_in _ ⟨by omega, by omega⟩
                clear hb0 hb1
                go_wp2_with fail
                go_roundw
                case rel => exact ⟨j + 1, by go_num, by omega, by rw [HS.out], by first | rfl | trivial⟩
                case measure => simp [intOf]; omega
              · have ht' : t2 ≤ (j : Int) := by omega
                have HS : Hid (smI C (f2, t2) (j + 1) = smI C (f2, t2) j) := hid (by rw [smI, if_neg (fun h => ht h.2)]; omega)
                clear hb0 hb1
                go_wp2_with fail
                go_roundw
                case rel => exact ⟨j + 1, by go_num, by omega, by rw [HS.out], by first | rfl | trivial⟩
                case measure => simp [intOf]; omega
            · have hf' : (j : Int) < f2 := by omega
              have HS : Hid (smI C (f2, t2) (j + 1) = smI C (f2, t2) j) := hid (by rw [smI, if_neg (fun h => hf h.1)]; omega)
              clear hb0 hb1
              go_wp2_with fail
              go_roundw
              case rel => exact ⟨j + 1, by go_num, by omega, by rw [HS.out], by first | rfl | trivial⟩
              case measure => simp [intOf]; omega
          · obtain rfl : j = 256 := by omega
            obtain ⟨al, hal⟩ : ∃ al, al = smI C (f2, t2) 256 := ⟨_, rfl⟩
            have HAL := hid hal
            rw [← hal]
            clear hal
            obtain ⟨wq, rfl⟩ : ∃ x, x = wr := ⟨_, rfl⟩
            go_upto_region 25 with fail
            go_loopw [12, 13, 14, 16, 81] (fun pv qv fv _ iv wr => ∃ (j : Nat) (p q : Int) (fd : Bool), iv = .int .i64 j ∧ j ≤ 256 ∧ pv = .int .i64 p ∧ qv = .int .i64 q ∧ fv = .bool fd ∧ FdI C (f2, t2) al j p q fd ∧ wr = wq) (fun _ _ _ _ iv _ => 256 - (intOf iv).toNat)
            case atStart => exact ⟨0, 0, f2, false, rfl, by omega, rfl, rfl, rfl, .inr ⟨rfl, rfl, fun _ => rfl, fun _ r hr => by omega⟩, rfl⟩
            case round =>
              obtain ⟨j, p, q, fd, rfl, hj, rfl, rfl, rfl, hfd, rfl⟩ := hrel
              have HFD := hid hfd
              clear hfd
              by_cases hlt4 : (j : Int) < 256
              · have hjl : j < 256 := by omega
                have c0 := HC0.out j hjl
                by_cases hf : f2 ≤ (j : Int)
                · by_cases ht : (j : Int) < t2
                  · by_cases hp0 : 0 < al
                    · cases fd with
                      | true =>
                        have HN := hid (fd_skip HFD.out (.inr (.inr rfl)))
                        go_wp2_with fail
                        go_roundw
                        case rel => exact ⟨j + 1, p, q, true, by go_num, by omega, rfl, rfl, rfl, HN.out, by first | rfl | trivial⟩
                        case measure => simp [intOf]; omega
                      | false =>
                        have hpp := fd_p HFD.out hp0
                        have hS : smI C (f2, t2) (j + 1) = p + C.getD j 0 := by rw [smI, if_pos ⟨hf, ht⟩, hpp]
                        have hb1 := HSI.out (j + 1)
                        rw [hS] at hb1
                        have HS := hid hS
                        clear hS hpp
                        generalize C.getD j 0 = x at *
                        obtain ⟨z, hz⟩ : ∃ z, z = p + x := ⟨_, rfl⟩
                        have hwz : IntKind.i64.wrap (p + x) = z := by rw [hz]; exact IntWalk.i64_in _ ⟨by omega, by omega⟩
                        rw [← hz] at HS hb1
                        clear hz
                        have hw2 : IntKind.i64.wrap (2 * z) = 2 * z := IntWalk.i64_in _ ⟨by omega, by omega⟩
                        clear hb1
                        by_cases hm : al ≤ 2 * z
                        · have HN : Hid (FdI C (f2, t2) al (j + 1) z (j : Int) true) := hid (fd_yes HFD.out ⟨hf, ht⟩ hp0 (by rw [HS.out]; exact hm))
                          go_wp2_with fail
                          go_roundw
                          case rel => exact ⟨j + 1, z, j, true, by go_num, by omega, rfl, rfl, rfl, HN.out, by first | rfl | trivial⟩
                          case measure => simp [intOf]; omega
                        · have hm' : 2 * z < al := by omega
                          have HN : Hid (FdI C (f2, t2) al (j + 1) z q false) := hid (fd_no HFD.out ⟨hf, ht⟩ HS.out.symm (by rw [HS.out]; exact hm'))
                          go_wp2_with fail
                          go_roundw
                          case rel => exact ⟨j + 1, z, q, false, by go_num, by omega, rfl, rfl, rfl, HN.out, by first | rfl | trivial⟩
                          case measure => simp [intOf]; omega
                    · have HN := hid (fd_skip HFD.out (.inr (.inl (by omega))))
                      go_wp2_with fail
                      go_roundw
                      case rel => exact ⟨j + 1, p, q, fd, by go_num, by omega, rfl, rfl, rfl, HN.out, by first | rfl | trivial⟩
                      case measure => simp [intOf]; omega
                  · have ht' : t2 ≤ (j : Int) := by omega
                    have HN := hid (fd_skip HFD.out (.inl (fun h => ht h.2)))
                    go_wp2_with fail
                    go_roundw
                    case rel => exact ⟨j + 1, p, q, fd, by go_num, by omega, rfl, rfl, rfl, HN.out, by first | rfl | trivial⟩
                    case measure => simp [intOf]; omega
                · have hf' : (j : Int) < f2 := by omega
                  have HN := hid (fd_skip HFD.out (.inl (fun h => hf h.1)))
                  go_wp2_with fail
                  go_roundw
                  case rel => exact ⟨j + 1, p, q, fd, by go_num, by omega, rfl, rfl, rfl, HN.out, by first | rfl | trivial⟩
                  case measure => simp [intOf]; omega
              · obtain rfl : j = 256 := by omega
                have hRA : wr.rangeAt A 0 [.int .i64 f2, .int .i64 t2] := range_of_row HAQ.out 0 _ fun j v hv => by rw [Nat.zero_add]; simpa using hv
                have HFE : Hid (∀ (lo k : Nat) (v : Int), (lo : Int) = loD (f2, t2) → ((lo + k : Nat) : Int) = hiD (f2, t2) → MidR C lo k f2 v → q = v) := hid fun lo k v h1 h2 h3 => fd_end (s := (f2, t2)) h1 h2 (by have := HFD.out; rw [HAL.out] at this; exact this) h3
                clear HC0 HAL HFD
                go_upto_region 35 with (first | (go_at_call 21; refine (commands_any mb i C _ HJQ.out).mono ?_; rintro e wx ⟨rfl, hx⟩; replace hx := hx.symm; subst hx) | (refine wpl_loadSpM rfl _ rfl A 0 rfl _ _ hRA ?_) | (go_at_call 22; refine (mid_any mb i C (f2, t2) _ HJQ.out HMB.out).mono ?_; rintro e w5 ⟨lo, k, v, rfl, hlo, hhi, hmd, hb5⟩; have hvq := HFE.out lo k v hlo hhi hmd; subst hvq; have B5 := hid hb5; clear hlo hhi hmd hb5))
                have M5 := hid (HJQ.out.below B5.out)
                have HA5 := hid ((B5.out.block A (lt_of_block HAQ.out)).trans HAQ.out)
                have BW5 := hid (BWQ.out.trans (B5.out.mono BWQ.out.size))
                have hAm : A ≠ mb := fun e => by have h5 := HA5.out; rw [e] at h5; exact absurd (Obj.cells.inj (Option.some.inj (h5.symm.trans M5.out.h))).2.1 (by decide)
                have HAM := hid hAm
                have HMW : Hid (w.heap.size ≤ mb) := hid (Nat.le_trans BA.out.size HJ.out.m)
                clear HFE hRA hAm a0 a1
                go_upto_region 37 with (go_at_call 23; refine (clear_any mb i C _ M5.out).mono ?_; rintro e w6 ⟨rfl, hm6, ht6⟩; have M6 := hid hm6; have BW6 := hid (BW5.out.trans (ht6.to (fun q hq => by rw [show q = mb from hq]; exact HMW.out) BW5.out.size)); have HA6 := hid ((ht6.block A (lt_of_block HA5.out) HAM.out).trans HA5.out); clear hm6 ht6)
                have hR6 : w6.rangeAt A 0 [.int .i64 f2, .int .i64 t2] := range_of_row HA6.out 0 _ fun j v hv => by rw [Nat.zero_add]; simpa using hv
                go_upto_region 39 with (first | (refine wpl_loadSpM rfl _ rfl A 0 rfl _ _ hR6 ?_) | (go_at_call 20; refine (note_nil (f2, t2) _).mono ?_; rintro e w7 ⟨rfl, hb7⟩; have B7 := hid hb7; clear hb7) | (go_at_call 23; refine (clear_nil _).mono ?_; rintro e wx ⟨rfl, hx⟩; replace hx := hx.symm; subst hx))
                have M7 := hid (M6.out.below B7.out)
                have HA7 := hid ((B7.out.block A (lt_of_block HA6.out)).trans HA6.out)
                have BW7 := hid (BW6.out.trans (B7.out.mono BW6.out.size))
                clear hR6 M6 HA6 BW6 B7 M5 HA5 BW5
                obtain ⟨dS, hdS1, hdS2⟩ := Try.rowSp
                have SB : Hid (∀ Y, Below w7.heap.size w7 Y → Y.cell? ⟨A, 0, none⟩ = some (.int .i64 f2) ∧ Y.rangeAt A 0 [.int .i64 f2, .int .i64 t2]) := hid fun Y hY => ⟨(spcW ((hY.block A (lt_of_block HA7.out)).trans HA7.out)).1, range_of_row ((hY.block A (lt_of_block HA7.out)).trans HA7.out) 0 _ fun j v hv => by rw [Nat.zero_add]; simpa using hv⟩
                refine wp_region_held_drew (S := fun Y => Y.cell? ⟨A, 0, none⟩ = some (.int .i64 f2) ∧ Y.rangeAt A 0 [.int .i64 f2, .int .i64 t2]) (by kernel_rfl) (SB.out _ ((Below.refl _ _).drew)) (fun hHeld => ?_)
                refine wpAnyH_ready (rs := [0]) (by kernel_rfl) (by simp) ?_
                refine AllReadyH.cons rfl (fun K hK => ?_) AllReadyH.nil
                rw [if_pos (by rfl)]
                go_wp2_with fail
                refine (commands_any mb 0 z256 _ (M7.out.below ((Below.refl _ _).drew))).mono ?_
                rintro e w8 ⟨rfl, hw8⟩
                have B8 : Hid (Below w7.heap.size w7 w8) := hid (by rw [hw8]; exact (Below.refl _ _).drew)
                clear hw8
                refine hK.out _ _ (SB.out _ B8.out) (fun hHeld => ?_)
                try clear hK K
                (try simp only [Act.put, List.setIfInBounds_toArray, List.set_cons_zero, List.set_cons_succ, List.getElem_toArray, List.getElem_cons_succ, List.getElem_cons_zero])
                refine wpAnyH_take (i := 1) (v := .bool true) rfl (by kernel_rfl) (by kernel_rfl) (by kernel_rfl) (fun _ _ _ h => h) (Or.inl ⟨by rfl, ?ay1⟩) (by assumption) ?ar1
                case ay1 => (intro w hSw; (try dsimp only at hSw); go_simp; try with_reducible rfl)
                (try simp only [Act.put, List.setIfInBounds_toArray, List.set_cons_zero, List.set_cons_succ, List.getElem_toArray, List.getElem_cons_succ, List.getElem_cons_zero])
                refine wpAnyH_take (i := 2) (v := ?av2) rfl (by kernel_rfl) (by kernel_rfl) (by kernel_rfl) (fun _ _ _ h => h) (Or.inl ⟨by rfl, ?ay2⟩) (by assumption) ?ar2
                case ay2 => (intro w hSw; (try dsimp only at hSw); go_simp; try with_reducible rfl)
                (try simp only [Act.put, List.setIfInBounds_toArray, List.set_cons_zero, List.set_cons_succ, List.getElem_toArray, List.getElem_cons_succ, List.getElem_cons_zero])
                refine wpAnyH_take (i := 3) (v := .agg #[.int .i64 f2, .int .i64 t2]) rfl (by kernel_rfl) (by kernel_rfl) (by kernel_rfl) (fun _ _ _ h => h) (yieldsIf_load_mid rfl _ _ rfl A 0 rfl [.int .i64 f2, .int .i64 t2] dS (fun Y hY => hY.2) hdS1 hdS2 Try.sizeSp) (by assumption) ?_
                (try simp only [Act.put, List.setIfInBounds_toArray, List.set_cons_zero, List.set_cons_succ, List.getElem_toArray, List.getElem_cons_succ, List.getElem_cons_zero])
                refine wpAnyH_take (i := 5) (v := ?bv5) rfl (by kernel_rfl) (by kernel_rfl) (by kernel_rfl) (fun _ _ _ h => h) (Or.inl ⟨by rfl, ?by5⟩) (by assumption) ?br5
                case by5 => (intro w hSw; (try dsimp only at hSw); go_simp; try with_reducible rfl)
                (try simp only [Act.put, List.setIfInBounds_toArray, List.set_cons_zero, List.set_cons_succ, List.getElem_toArray, List.getElem_cons_succ, List.getElem_cons_zero])
                refine wpAnyH_take (i := 6) (v := ?bv6) rfl (by kernel_rfl) (by kernel_rfl) (by kernel_rfl) (fun _ _ _ h => h) (Or.inl ⟨by rfl, ?by6⟩) (by assumption) ?br6
                case by6 => (intro w hSw; (try dsimp only at hSw); go_simp; try with_reducible rfl)
                (try simp only [Act.put, List.setIfInBounds_toArray, List.set_cons_zero, List.set_cons_succ, List.getElem_toArray, List.getElem_cons_succ, List.getElem_cons_zero])
                refine wpAnyH_ready (rs := [4]) (by kernel_rfl) (by simp) ?_
                refine AllReadyH.cons rfl (fun K hK => ?_) AllReadyH.nil
                rw [if_pos (by rfl)]
                go_wp2_with fail
                refine (mid_any mb 0 z256 (f2, t2) _ (M7.out.below B8.out) (fun x hx => by rw [z256_mem x hx]; omega)).mono ?_
                rintro e w9 ⟨lo2, k2, v2, rfl, -, -, hmd2, hb9⟩
                have hv2 : v2 = f2 := by
                  rcases hmd2 with ⟨-, h⟩ | ⟨h, -⟩
                  · exact h
                  · rw [smC_zero] at h; omega
                rw [hv2]
                have B9 : Hid (Below w7.heap.size w7 w9) := hid (B8.out.trans (hb9.mono B8.out.size))
                clear hmd2 hb9
                refine hK.out _ _ (SB.out _ B9.out) (fun hHeld => ?_)
                try clear hK K
                (try simp only [Act.put, List.setIfInBounds_toArray, List.set_cons_zero, List.set_cons_succ, List.getElem_toArray, List.getElem_cons_succ, List.getElem_cons_zero])
                refine wpAnyH_take (i := 7) (v := .bool true) rfl (by kernel_rfl) (by kernel_rfl) (by kernel_rfl) (fun _ _ _ h => h) (Or.inl ⟨by rfl, ?by7⟩) (by assumption) ?br7
                case by7 => (intro w hSw; (try dsimp only at hSw); go_simp; try with_reducible rfl)
                (try simp only [Act.put, List.setIfInBounds_toArray, List.set_cons_zero, List.set_cons_succ, List.getElem_toArray, List.getElem_cons_succ, List.getElem_cons_zero])
                refine wpAnyH_take (i := 8) (v := ?bv8) rfl (by kernel_rfl) (by kernel_rfl) (by kernel_rfl) (fun _ _ _ h => h) (Or.inl ⟨by rfl, ?by8⟩) (by assumption) ?br8
                case by8 => (intro w hSw; (try dsimp only at hSw); go_simp; try with_reducible rfl)
                (try simp only [Act.put, List.setIfInBounds_toArray, List.set_cons_zero, List.set_cons_succ, List.getElem_toArray, List.getElem_cons_succ, List.getElem_cons_zero])
                refine wpAnyH_take (i := 9) (v := ?bv9) rfl (by kernel_rfl) (by kernel_rfl) (by kernel_rfl) (fun _ _ _ h => h) (Or.inl ⟨by rfl, ?by9⟩) (by assumption) ?br9
                case by9 => (intro w hSw; (try dsimp only at hSw); go_simp; try with_reducible rfl)
                (try simp only [Act.put, List.setIfInBounds_toArray, List.set_cons_zero, List.set_cons_succ, List.getElem_toArray, List.getElem_cons_succ, List.getElem_cons_zero])
                refine wpAnyH_take (i := 10) (v := ?bv10) rfl (by kernel_rfl) (by kernel_rfl) (by kernel_rfl) (fun _ _ _ h => h) (Or.inl ⟨by rfl, ?by10⟩) (by assumption) ?br10
                case by10 => (intro w hSw; (try dsimp only at hSw); go_simp; try with_reducible rfl)
                (try simp only [Act.put, List.setIfInBounds_toArray, List.set_cons_zero, List.set_cons_succ, List.getElem_toArray, List.getElem_cons_succ, List.getElem_cons_zero])
                refine wpAnyH_ready (rs := [11]) (by kernel_rfl) (by simp) ?_
                refine AllReadyH.cons rfl (fun K hK => ?_) AllReadyH.nil
                rw [if_pos (by rfl)]
                go_wp2_with fail
                refine (commands_nil _).mono ?_
                rintro e wx ⟨rfl, hx⟩
                replace hx := hx.symm
                subst hx
                refine hK.out _ _ (SB.out _ B9.out) (fun hHeld => ?_)
                try clear hK K
                (try simp only [Act.put, List.setIfInBounds_toArray, List.set_cons_zero, List.set_cons_succ, List.getElem_toArray, List.getElem_cons_succ, List.getElem_cons_zero])
                refine wpAnyH_take (i := 12) (v := .bool true) rfl (by kernel_rfl) (by kernel_rfl) (by kernel_rfl) (fun _ _ _ h => h) (Or.inl ⟨by rfl, ?by12⟩) (by assumption) ?br12
                case by12 => (intro w hSw; (try dsimp only at hSw); go_simp; try with_reducible rfl)
                (try simp only [Act.put, List.setIfInBounds_toArray, List.set_cons_zero, List.set_cons_succ, List.getElem_toArray, List.getElem_cons_succ, List.getElem_cons_zero])
                refine wpAnyH_take (i := 13) (v := ?bv13) rfl (by kernel_rfl) (by kernel_rfl) (by kernel_rfl) (fun _ _ _ h => h) (Or.inl ⟨by rfl, ?by13⟩) (by assumption) ?br13
                case by13 => (intro w hSw; (try dsimp only at hSw); go_simp; try with_reducible rfl)
                (try simp only [Act.put, List.setIfInBounds_toArray, List.set_cons_zero, List.set_cons_succ, List.getElem_toArray, List.getElem_cons_succ, List.getElem_cons_zero])
                refine wpAnyH_take (i := 14) (v := ?bv14) rfl (by kernel_rfl) (by kernel_rfl) (by kernel_rfl) (fun _ _ _ h => h) (Or.inl ⟨by rfl, ?by14⟩) (by assumption) ?br14
                case by14 => (intro w hSw; (try dsimp only at hSw); go_simp; try with_reducible rfl)
                (try simp only [Act.put, List.setIfInBounds_toArray, List.set_cons_zero, List.set_cons_succ, List.getElem_toArray, List.getElem_cons_succ, List.getElem_cons_zero])
                refine wpAnyH_take (i := 15) (v := ?bv15) rfl (by kernel_rfl) (by kernel_rfl) (by kernel_rfl) (fun _ _ _ h => h) (Or.inl ⟨by rfl, ?by15⟩) (by assumption) ?br15
                case by15 => (intro w hSw; (try dsimp only at hSw); go_simp; try with_reducible rfl)
                (try simp only [Act.put, List.setIfInBounds_toArray, List.set_cons_zero, List.set_cons_succ, List.getElem_toArray, List.getElem_cons_succ, List.getElem_cons_zero])
                refine wpAnyH_take (i := 16) (v := .agg #[.int .i64 f2, .int .i64 t2]) rfl (by kernel_rfl) (by kernel_rfl) (by kernel_rfl) (fun _ _ _ h => h) (yieldsIf_load_mid rfl _ _ rfl A 0 rfl [.int .i64 f2, .int .i64 t2] dS (fun Y hY => hY.2) hdS1 hdS2 Try.sizeSp) (by assumption) ?_
                (try simp only [Act.put, List.setIfInBounds_toArray, List.set_cons_zero, List.set_cons_succ, List.getElem_toArray, List.getElem_cons_succ, List.getElem_cons_zero])
                refine wpAnyH_take (i := 18) (v := ?dv18) rfl (by kernel_rfl) (by kernel_rfl) (by kernel_rfl) (fun _ _ _ h => h) (Or.inl ⟨by rfl, ?dy18⟩) (by assumption) ?dr18
                case dy18 => (intro w hSw; (try dsimp only at hSw); go_simp; try with_reducible rfl)
                (try simp only [Act.put, List.setIfInBounds_toArray, List.set_cons_zero, List.set_cons_succ, List.getElem_toArray, List.getElem_cons_succ, List.getElem_cons_zero])
                refine wpAnyH_take (i := 19) (v := ?dv19) rfl (by kernel_rfl) (by kernel_rfl) (by kernel_rfl) (fun _ _ _ h => h) (Or.inl ⟨by rfl, ?dy19⟩) (by assumption) ?dr19
                case dy19 => (intro w hSw; (try dsimp only at hSw); go_simp; try with_reducible rfl)
                (try simp only [Act.put, List.setIfInBounds_toArray, List.set_cons_zero, List.set_cons_succ, List.getElem_toArray, List.getElem_cons_succ, List.getElem_cons_zero])
                refine wpAnyH_ready (rs := [17]) (by kernel_rfl) (by simp) ?_
                refine AllReadyH.cons rfl (fun K hK => ?_) AllReadyH.nil
                rw [if_pos (by rfl)]
                go_wp2_with fail
                refine (mid_nil (f2, t2) _).mono ?_
                rintro e w10 ⟨rfl, hb10⟩
                have B10 : Hid (Below w7.heap.size w7 w10) := hid (B9.out.trans (hb10.mono B9.out.size))
                clear hb10
                refine hK.out _ _ (SB.out _ B10.out) (fun hHeld => ?_)
                try clear hK K
                (try simp only [Act.put, List.setIfInBounds_toArray, List.set_cons_zero, List.set_cons_succ, List.getElem_toArray, List.getElem_cons_succ, List.getElem_cons_zero])
                refine wpAnyH_take (i := 20) (v := .bool true) rfl (by kernel_rfl) (by kernel_rfl) (by kernel_rfl) (fun _ _ _ h => h) (Or.inl ⟨by rfl, ?dy20⟩) (by assumption) ?dr20
                case dy20 => (intro w hSw; (try dsimp only at hSw); go_simp; try with_reducible rfl)
                (try simp only [Act.put, List.setIfInBounds_toArray, List.set_cons_zero, List.set_cons_succ, List.getElem_toArray, List.getElem_cons_succ, List.getElem_cons_zero])
                refine wpAnyH_take (i := 21) (v := ?dv21) rfl (by kernel_rfl) (by kernel_rfl) (by kernel_rfl) (fun _ _ _ h => h) (Or.inl ⟨by rfl, ?dy21⟩) (by assumption) ?dr21
                case dy21 => (intro w hSw; (try dsimp only at hSw); go_simp; try with_reducible rfl)
                (try simp only [Act.put, List.setIfInBounds_toArray, List.set_cons_zero, List.set_cons_succ, List.getElem_toArray, List.getElem_cons_succ, List.getElem_cons_zero])
                refine wpAnyH_take (i := 22) (v := ?dv22) rfl (by kernel_rfl) (by kernel_rfl) (by kernel_rfl) (fun _ _ _ h => h) (Or.inl ⟨by rfl, ?dy22⟩) (by assumption) ?dr22
                case dy22 => (intro w hSw; (try dsimp only at hSw); go_simp; try with_reducible rfl)
                (try simp only [Act.put, List.setIfInBounds_toArray, List.set_cons_zero, List.set_cons_succ, List.getElem_toArray, List.getElem_cons_succ, List.getElem_cons_zero])
                refine wpAnyH_ready (rs := [23]) (by kernel_rfl) (by simp) ?_
                refine AllReadyH.cons rfl (fun K hK => ?_) AllReadyH.nil
                rw [if_pos (by rfl)]
                go_wp2_with fail
                refine (wlives_any _).mono ?_
                rintro e w11 ⟨rfl, hb11⟩
                have B11 : Hid (Below w7.heap.size w7 w11) := hid (B10.out.trans (hb11.mono B10.out.size))
                clear hb11
                refine hK.out _ _ (SB.out _ B11.out) (fun hHeld => ?_)
                try clear hK K
                (try simp only [Act.put, List.setIfInBounds_toArray, List.set_cons_zero, List.set_cons_succ, List.getElem_toArray, List.getElem_cons_succ, List.getElem_cons_zero])
                refine wpAnyH_take (i := 24) (v := ?dv24) rfl (by kernel_rfl) (by kernel_rfl) (by kernel_rfl) (fun _ _ _ h => h) (Or.inl ⟨by rfl, ?dy24⟩) (by assumption) ?dr24
                case dy24 => (intro w hSw; (try dsimp only at hSw); go_simp; try with_reducible rfl)
                (try simp only [Act.put, List.setIfInBounds_toArray, List.set_cons_zero, List.set_cons_succ, List.getElem_toArray, List.getElem_cons_succ, List.getElem_cons_zero])
                refine wpAnyH_take (i := 25) (v := ?dv25) rfl (by kernel_rfl) (by kernel_rfl) (by kernel_rfl) (fun _ _ _ h => h) (Or.inl ⟨by rfl, ?dy25⟩) (by assumption) ?dr25
                case dy25 => (intro w hSw; (try dsimp only at hSw); go_simp; try with_reducible rfl)
                (try simp only [Act.put, List.setIfInBounds_toArray, List.set_cons_zero, List.set_cons_succ, List.getElem_toArray, List.getElem_cons_succ, List.getElem_cons_zero])
                refine wpAnyH_done (by kernel_rfl) ?_ _
                go_wp2_with fail
                go_ret
                exact ⟨rfl, BW7.out.trans (B11.out.mono BW7.out.size)⟩
      · have h200i : ¬ (200 : Int) ≤ (i : Int) := by omega
        have hR3 : w3.rangeAt SP 0 [.int .i64 fr, .int .i64 tt] := range_of_row HS3.out 0 _ fun j v hv => by rw [Nat.zero_add]; simpa using hv
        have HNT := hid (note_any mb i C (fr, tt) w3 M3.out ⟨by omega, by omega⟩ (fun x hx => by have := HI.out.cb x hx; omega))
        go_upto_region 9 with (first | (refine wpl_loadSpM rfl _ rfl SP 0 rfl _ _ hR3 ?_) | (go_at_call 20; refine HNT.out.mono ?_; rintro e w4 ⟨lo, k, rfl, hm4, hlo, hhi, ht4⟩; have M4 := hid hm4; have HLO := hid hlo; have HHI := hid hhi; have T4 := hid ht4; clear hm4 hlo hhi ht4))
        have O4 : Hid (w4.ownsRow wA.heap.size 3 1 (.slice (some ⟨g, 0, none⟩) 256 256) 256 (nvs C)) := hid (own_kept O3.out fun q cs _ hh => T4.out.block q (lt_of_block hh) fun e => by rw [show q = mb from e] at hh; exact absurd (Obj.cells.inj (Option.some.inj (hh.symm.trans M3.out.h))).2.1 (by decide))
        have B4 := hid (B3.out.trans (T4.out.to (fun q hq => by rw [show q = mb from hq]; exact HI.out.m) B3.out.size))
        have hsm : SP ≠ mb := fun e => by have h5 := HS3.out; rw [e] at h5; exact absurd (Obj.cells.inj (Option.some.inj (h5.symm.trans M3.out.h))).2.1 (by decide)
        have HS4 := hid ((T4.out.block SP (lt_of_block HS3.out) hsm).trans HS3.out)
        have HCL := hid HI.out.mt.len
        clear hR3 HNT hsm T4 M3 O3 HS3 B3
        go_wp2_with fail
        obtain ⟨wq, rfl⟩ : ∃ x, x = wr := ⟨_, rfl⟩
        go_loopw [10, 34] (fun _ iv wr => ∃ (j : Nat) (D : List Int), iv = .int .i64 j ∧ j ≤ 256 ∧ Cnt C (fr, tt) j D ∧ wr.ownsRow wA.heap.size 3 1 (.slice (some ⟨g, 0, none⟩) 256 256) 256 (nvs D) ∧ Tr (fun q => q = g) w4 wr) (fun _ iv _ => 256 - (intOf iv).toNat)
        case atStart => exact ⟨0, C, rfl, by omega, Cnt.start _ _, O4.out, Tr.refl _ _⟩
        case round =>
          obtain ⟨j, D, rfl, hj, hcnt, hrow, htr⟩ := hrel
          have HCN := hid hcnt
          have HRW := hid hrow
          have TR := hid htr
          have hgm : g ≠ SP := fun e => by
            have h5 := O4.out
            obtain ⟨_, h6⟩ := h5
            rcases h6 with ⟨e6, _⟩ | ⟨g', cap, cur, e6, _, hh, _⟩
            · cases e6
            · cases e6
              have h7 := HS4.out
              rw [← e] at h7
              exact absurd (Obj.cells.inj (Option.some.inj (h7.symm.trans hh))).2.1 (by decide)
          have hSr := (TR.out.block SP (lt_of_block HS4.out) (fun e => hgm (by have e' : SP = g := e; exact e'.symm))).trans HS4.out
          have p0 : wr.cell? ⟨SP, 0, none⟩ = some (.int .i64 fr) := by rw [cell_of_row _ _ _ _ _ _ hSr]; rfl
          have p1 : wr.cell? ⟨SP, 1, none⟩ = some (.int .i64 tt) := by rw [cell_of_row _ _ _ _ _ _ hSr]; rfl
          clear hcnt hrow htr hSr hgm
          by_cases hlt2 : (j : Int) < 256
          · have hjl : j < 256 := by omega
            have hjC : j < C.length := by have := HCL.out; omega
            have hjD : j < D.length := by rw [HCN.out.len]; exact hjC
            by_cases hf : fr ≤ (j : Int)
            · by_cases ht : (j : Int) < tt
              · obtain ⟨x, hx⟩ : ∃ x, x = D.getD j 0 := ⟨_, rfl⟩
                have hxC : x = C.getD j 0 := by
                  rw [hx, HCN.out.at' j hjC, if_neg (by omega)]
                have hxb : 0 ≤ x ∧ x ≤ i := by
                  rw [hxC, show C.getD j 0 = C[j] from by simp [List.getD, List.getElem?_eq_getElem hjC]]
                  exact HI.out.cb _ (List.getElem_mem hjC)
                have c0 : wr.cell? ⟨g, j, none⟩ = some (.int .i64 x) := own_cell HRW.out (by simp [nvs, hjD]; rw [hx]; simp [List.getD, List.getElem?_eq_getElem hjD])
                have f0 : wr.frozen? ⟨g, j, none⟩ = false := by
                  obtain ⟨_, h6⟩ := HRW.out
                  rcases h6 with ⟨e6, _⟩ | ⟨g', cap, cur, e6, _, hh, _⟩
                  · cases e6
                  · cases e6; exact frozen_of_row _ _ _ _ _ hh
                have hwx : IntKind.i64.wrap (x + 1) = x + 1 := IntWalk.i64_in _ ⟨by omega, by omega⟩
                have HCX : Hid (Cnt C (fr, tt) (j + 1) (D.set j (x + 1))) := hid (by rw [hx]; exact HCN.out.take hjC ⟨hf, ht⟩)
                have HRX := hid (row_set HRW.out j hjl (x + 1))
                have HTX : Hid (Tr (fun q => q = g) w4 (wr.setCell ⟨g, j, none⟩ (.int .i64 (x + 1)))) := hid (TR.out.trans (Tr.set rfl))
                clear hx hxC hxb
                go_wp2_with fail
                go_roundw
                case rel => exact ⟨j + 1, _, by go_num, by omega, HCX.out, HRX.out, HTX.out⟩
                case measure => simp [intOf]; omega
              · have ht' : tt ≤ (j : Int) := by omega
                have HCX := hid (HCN.out.skip (fun h => ht h.2))
                go_wp2_with fail
                go_roundw
                case rel => exact ⟨j + 1, D, by go_num, by omega, HCX.out, HRW.out, TR.out⟩
                case measure => simp [intOf]; omega
            · have hf' : (j : Int) < fr := by omega
              have HCX := hid (HCN.out.skip (fun h => hf h.1))
              go_wp2_with fail
              go_roundw
              case rel => exact ⟨j + 1, D, by go_num, by omega, HCX.out, HRW.out, TR.out⟩
              case measure => simp [intOf]; omega
          · obtain rfl : j = 256 := by omega
            have hD : D = upC C lo k := by have h8 := HCN.out; rw [← HCL.out] at h8; exact h8.done HCL.out lo k HLO.out HHI.out
            subst hD
            have hgw : wA.heap.size ≤ g := (World.ownsRow.lt O4.out g rfl).1
            have hgmb : mb ≠ g := fun e => by
              obtain ⟨_, h6⟩ := O4.out
              rcases h6 with ⟨e6, _⟩ | ⟨g', cap, cur, e6, _, hh, _⟩
              · cases e6
              · cases e6
                have h7 := M4.out.h
                rw [e] at h7
                exact absurd (Obj.cells.inj (Option.some.inj (h7.symm.trans hh))).2.1 (by decide)
            have HNX : Hid (HvI wA mb g (i + 1) (upC C lo k) wr) := hid ⟨⟨(TR.out.block mb (lt_of_block M4.out.h) hgmb).trans (by have := M4.out.h; push_cast; exact this), by rw [upC_len]; exact HCL.out⟩, HRW.out, (by push_cast; exact upC_b HI.out.cb), B4.out.trans (TR.out.to (fun q hq => by rw [show q = g from hq]; exact hgw) B4.out.size), HI.out.m⟩
            clear hgw hgmb
            go_wp2_with fail
            go_roundw
            case rel => exact ⟨i + 1, _, by go_num, by go_num, by omega, by omega, HNX.out⟩
            case measure => simp [intOf]; omega
    · have HJ := HI
      clear HI
      obtain ⟨wz, rfl⟩ : ∃ x, x = wr := ⟨_, rfl⟩
      have HMB : Hid (∀ x ∈ C, 0 ≤ x ∧ x ≤ 1000000) := hid fun x hx => ⟨(HJ.out.cb x hx).1, by have := (HJ.out.cb x hx).2; omega⟩
      have HSI := hid (fun j => smI_b C (f2, t2) HMB.out j)
      have HAZ := hid ((HJ.out.b.block A (lt_of_block HA.out)).trans HA.out)
      have RZ := hid HJ.out.row
      have HCL5 := hid HJ.out.mt.len
      obtain ⟨a0, a1⟩ := spcW HAZ.out
      go_upto_region 17 with fail
      go_quiet (fail)
      have BQ : Below wz.heap.size wz (wz.drewN nq) := belowN _ _
      have HJQ := hid (HJ.out.mt.below BQ)
      have RQ := hid (own_below HJ.out.row BQ)
      have BWQ := hid (BA.out.trans ((HJ.out.b.trans (BQ.mono HJ.out.b.size)).mono BA.out.size))
      have HAQ := hid ((BQ.block A (lt_of_block HAZ.out)).trans HAZ.out)
      clear BQ
      generalize wz.drewN nq = wd at *
      obtain ⟨a0, a1⟩ := spcW HAQ.out
      have HC0 : Hid (∀ j, j < 256 → wd.cell? ⟨g, j, none⟩ = some (.int .i64 (C.getD j 0))) := hid fun j hj => own_cell RQ.out (by
        have hjD : j < C.length := by have := HCL5.out; omega
        simp [nvs, hjD])
      go_upto_region 19 with fail
      go_loopw [11, 15, 59] (fun av _ iv wr => ∃ j : Nat, iv = .int .i64 j ∧ j ≤ 256 ∧ av = .int .i64 (smI C (f2, t2) j) ∧ wr = wd) (fun _ _ iv _ => 256 - (intOf iv).toNat)
      case atStart => exact ⟨0, rfl, by omega, rfl, rfl⟩
      case round =>
        obtain ⟨j, rfl, hj, rfl, rfl⟩ := hrel
        by_cases hlt3 : (j : Int) < 256
        · have hjl : j < 256 := by omega
          have c0 := HC0.out j hjl
          have hb0 := HSI.out j
          have hb1 := HSI.out (j + 1)
          by_cases hf : f2 ≤ (j : Int)
          · by_cases ht : (j : Int) < t2
            · have hS : smI C (f2, t2) (j + 1) = smI C (f2, t2) j + C.getD j 0 := by rw [smI, if_pos ⟨hf, ht⟩]
              have HS := hid hS
              rw [hS] at hb1
              generalize C.getD j 0 = x at *
              clear hS
              generalize smI C (f2, t2) j = y at *
              have hwy : IntKind.i64.wrap (y + x) = y + x := IntWalk.i64_in _ ⟨by omega, by omega⟩
              clear hb0 hb1
              go_wp2_with fail
              go_roundw
              case rel => exact ⟨j + 1, by go_num, by omega, by rw [HS.out], by first | rfl | trivial⟩
              case measure => simp [intOf]; omega
            · have ht' : t2 ≤ (j : Int) := by omega
              have HS : Hid (smI C (f2, t2) (j + 1) = smI C (f2, t2) j) := hid (by rw [smI, if_neg (fun h => ht h.2)]; omega)
              clear hb0 hb1
              go_wp2_with fail
              go_roundw
              case rel => exact ⟨j + 1, by go_num, by omega, by rw [HS.out], by first | rfl | trivial⟩
              case measure => simp [intOf]; omega
          · have hf' : (j : Int) < f2 := by omega
            have HS : Hid (smI C (f2, t2) (j + 1) = smI C (f2, t2) j) := hid (by rw [smI, if_neg (fun h => hf h.1)]; omega)
            clear hb0 hb1
            go_wp2_with fail
            go_roundw
            case rel => exact ⟨j + 1, by go_num, by omega, by rw [HS.out], by first | rfl | trivial⟩
            case measure => simp [intOf]; omega
        · obtain rfl : j = 256 := by omega
          obtain ⟨al, hal⟩ : ∃ al, al = smI C (f2, t2) 256 := ⟨_, rfl⟩
          have HAL := hid hal
          rw [← hal]
          clear hal
          obtain ⟨wq, rfl⟩ : ∃ x, x = wr := ⟨_, rfl⟩
          go_upto_region 25 with fail
          go_loopw [12, 13, 14, 16, 81] (fun pv qv fv _ iv wr => ∃ (j : Nat) (p q : Int) (fd : Bool), iv = .int .i64 j ∧ j ≤ 256 ∧ pv = .int .i64 p ∧ qv = .int .i64 q ∧ fv = .bool fd ∧ FdI C (f2, t2) al j p q fd ∧ wr = wq) (fun _ _ _ _ iv _ => 256 - (intOf iv).toNat)
          case atStart => exact ⟨0, 0, f2, false, rfl, by omega, rfl, rfl, rfl, .inr ⟨rfl, rfl, fun _ => rfl, fun _ r hr => by omega⟩, rfl⟩
          case round =>
            obtain ⟨j, p, q, fd, rfl, hj, rfl, rfl, rfl, hfd, rfl⟩ := hrel
            have HFD := hid hfd
            clear hfd
            by_cases hlt4 : (j : Int) < 256
            · have hjl : j < 256 := by omega
              have c0 := HC0.out j hjl
              by_cases hf : f2 ≤ (j : Int)
              · by_cases ht : (j : Int) < t2
                · by_cases hp0 : 0 < al
                  · cases fd with
                    | true =>
                      have HN := hid (fd_skip HFD.out (.inr (.inr rfl)))
                      go_wp2_with fail
                      go_roundw
                      case rel => exact ⟨j + 1, p, q, true, by go_num, by omega, rfl, rfl, rfl, HN.out, by first | rfl | trivial⟩
                      case measure => simp [intOf]; omega
                    | false =>
                      have hpp := fd_p HFD.out hp0
                      have hS : smI C (f2, t2) (j + 1) = p + C.getD j 0 := by rw [smI, if_pos ⟨hf, ht⟩, hpp]
                      have hb1 := HSI.out (j + 1)
                      rw [hS] at hb1
                      have HS := hid hS
                      clear hS hpp
                      generalize C.getD j 0 = x at *
                      obtain ⟨z, hz⟩ : ∃ z, z = p + x := ⟨_, rfl⟩
                      have hwz : IntKind.i64.wrap (p + x) = z := by rw [hz]; exact IntWalk.i64_in _ ⟨by omega, by omega⟩
                      rw [← hz] at HS hb1
                      clear hz
                      have hw2 : IntKind.i64.wrap (2 * z) = 2 * z := IntWalk.i64_in _ ⟨by omega, by omega⟩
                      clear hb1
                      by_cases hm : al ≤ 2 * z
                      · have HN : Hid (FdI C (f2, t2) al (j + 1) z (j : Int) true) := hid (fd_yes HFD.out ⟨hf, ht⟩ hp0 (by rw [HS.out]; exact hm))
                        go_wp2_with fail
                        go_roundw
                        case rel => exact ⟨j + 1, z, j, true, by go_num, by omega, rfl, rfl, rfl, HN.out, by first | rfl | trivial⟩
                        case measure => simp [intOf]; omega
                      · have hm' : 2 * z < al := by omega
                        have HN : Hid (FdI C (f2, t2) al (j + 1) z q false) := hid (fd_no HFD.out ⟨hf, ht⟩ HS.out.symm (by rw [HS.out]; exact hm'))
                        go_wp2_with fail
                        go_roundw
                        case rel => exact ⟨j + 1, z, q, false, by go_num, by omega, rfl, rfl, rfl, HN.out, by first | rfl | trivial⟩
                        case measure => simp [intOf]; omega
                  · have HN := hid (fd_skip HFD.out (.inr (.inl (by omega))))
                    go_wp2_with fail
                    go_roundw
                    case rel => exact ⟨j + 1, p, q, fd, by go_num, by omega, rfl, rfl, rfl, HN.out, by first | rfl | trivial⟩
                    case measure => simp [intOf]; omega
                · have ht' : t2 ≤ (j : Int) := by omega
                  have HN := hid (fd_skip HFD.out (.inl (fun h => ht h.2)))
                  go_wp2_with fail
                  go_roundw
                  case rel => exact ⟨j + 1, p, q, fd, by go_num, by omega, rfl, rfl, rfl, HN.out, by first | rfl | trivial⟩
                  case measure => simp [intOf]; omega
              · have hf' : (j : Int) < f2 := by omega
                have HN := hid (fd_skip HFD.out (.inl (fun h => hf h.1)))
                go_wp2_with fail
                go_roundw
                case rel => exact ⟨j + 1, p, q, fd, by go_num, by omega, rfl, rfl, rfl, HN.out, by first | rfl | trivial⟩
                case measure => simp [intOf]; omega
            · obtain rfl : j = 256 := by omega
              have hRA : wr.rangeAt A 0 [.int .i64 f2, .int .i64 t2] := range_of_row HAQ.out 0 _ fun j v hv => by rw [Nat.zero_add]; simpa using hv
              have HFE : Hid (∀ (lo k : Nat) (v : Int), (lo : Int) = loD (f2, t2) → ((lo + k : Nat) : Int) = hiD (f2, t2) → MidR C lo k f2 v → q = v) := hid fun lo k v h1 h2 h3 => fd_end (s := (f2, t2)) h1 h2 (by have := HFD.out; rw [HAL.out] at this; exact this) h3
              clear HC0 HAL HFD
              go_upto_region 35 with (first | (go_at_call 21; refine (commands_any mb i C _ HJQ.out).mono ?_; rintro e wx ⟨rfl, hx⟩; replace hx := hx.symm; subst hx) | (refine wpl_loadSpM rfl _ rfl A 0 rfl _ _ hRA ?_) | (go_at_call 22; refine (mid_any mb i C (f2, t2) _ HJQ.out HMB.out).mono ?_; rintro e w5 ⟨lo, k, v, rfl, hlo, hhi, hmd, hb5⟩; have hvq := HFE.out lo k v hlo hhi hmd; subst hvq; have B5 := hid hb5; clear hlo hhi hmd hb5))
              have M5 := hid (HJQ.out.below B5.out)
              have HA5 := hid ((B5.out.block A (lt_of_block HAQ.out)).trans HAQ.out)
              have BW5 := hid (BWQ.out.trans (B5.out.mono BWQ.out.size))
              have hAm : A ≠ mb := fun e => by have h5 := HA5.out; rw [e] at h5; exact absurd (Obj.cells.inj (Option.some.inj (h5.symm.trans M5.out.h))).2.1 (by decide)
              have HAM := hid hAm
              have HMW : Hid (w.heap.size ≤ mb) := hid (Nat.le_trans BA.out.size HJ.out.m)
              clear HFE hRA hAm a0 a1
              go_upto_region 37 with (go_at_call 23; refine (clear_any mb i C _ M5.out).mono ?_; rintro e w6 ⟨rfl, hm6, ht6⟩; have M6 := hid hm6; have BW6 := hid (BW5.out.trans (ht6.to (fun q hq => by rw [show q = mb from hq]; exact HMW.out) BW5.out.size)); have HA6 := hid ((ht6.block A (lt_of_block HA5.out) HAM.out).trans HA5.out); clear hm6 ht6)
              have hR6 : w6.rangeAt A 0 [.int .i64 f2, .int .i64 t2] := range_of_row HA6.out 0 _ fun j v hv => by rw [Nat.zero_add]; simpa using hv
              go_upto_region 39 with (first | (refine wpl_loadSpM rfl _ rfl A 0 rfl _ _ hR6 ?_) | (go_at_call 20; refine (note_nil (f2, t2) _).mono ?_; rintro e w7 ⟨rfl, hb7⟩; have B7 := hid hb7; clear hb7) | (go_at_call 23; refine (clear_nil _).mono ?_; rintro e wx ⟨rfl, hx⟩; replace hx := hx.symm; subst hx))
              have M7 := hid (M6.out.below B7.out)
              have HA7 := hid ((B7.out.block A (lt_of_block HA6.out)).trans HA6.out)
              have BW7 := hid (BW6.out.trans (B7.out.mono BW6.out.size))
              clear hR6 M6 HA6 BW6 B7 M5 HA5 BW5
              obtain ⟨dS, hdS1, hdS2⟩ := Try.rowSp
              have SB : Hid (∀ Y, Below w7.heap.size w7 Y → Y.cell? ⟨A, 0, none⟩ = some (.int .i64 f2) ∧ Y.rangeAt A 0 [.int .i64 f2, .int .i64 t2]) := hid fun Y hY => ⟨(spcW ((hY.block A (lt_of_block HA7.out)).trans HA7.out)).1, range_of_row ((hY.block A (lt_of_block HA7.out)).trans HA7.out) 0 _ fun j v hv => by rw [Nat.zero_add]; simpa using hv⟩
              refine wp_region_held_drew (S := fun Y => Y.cell? ⟨A, 0, none⟩ = some (.int .i64 f2) ∧ Y.rangeAt A 0 [.int .i64 f2, .int .i64 t2]) (by kernel_rfl) (SB.out _ ((Below.refl _ _).drew)) (fun hHeld => ?_)
              refine wpAnyH_ready (rs := [0]) (by kernel_rfl) (by simp) ?_
              refine AllReadyH.cons rfl (fun K hK => ?_) AllReadyH.nil
              rw [if_pos (by rfl)]
              go_wp2_with fail
              refine (commands_any mb 0 z256 _ (M7.out.below ((Below.refl _ _).drew))).mono ?_
              rintro e w8 ⟨rfl, hw8⟩
              have B8 : Hid (Below w7.heap.size w7 w8) := hid (by rw [hw8]; exact (Below.refl _ _).drew)
              clear hw8
              refine hK.out _ _ (SB.out _ B8.out) (fun hHeld => ?_)
              try clear hK K
              (try simp only [Act.put, List.setIfInBounds_toArray, List.set_cons_zero, List.set_cons_succ, List.getElem_toArray, List.getElem_cons_succ, List.getElem_cons_zero])
              refine wpAnyH_take (i := 1) (v := .bool true) rfl (by kernel_rfl) (by kernel_rfl) (by kernel_rfl) (fun _ _ _ h => h) (Or.inl ⟨by rfl, ?ey1⟩) (by assumption) ?er1
              case ey1 => (intro w hSw; (try dsimp only at hSw); go_simp; try with_reducible rfl)
              (try simp only [Act.put, List.setIfInBounds_toArray, List.set_cons_zero, List.set_cons_succ, List.getElem_toArray, List.getElem_cons_succ, List.getElem_cons_zero])
              refine wpAnyH_take (i := 2) (v := ?ev2) rfl (by kernel_rfl) (by kernel_rfl) (by kernel_rfl) (fun _ _ _ h => h) (Or.inl ⟨by rfl, ?ey2⟩) (by assumption) ?er2
              case ey2 => (intro w hSw; (try dsimp only at hSw); go_simp; try with_reducible rfl)
              (try simp only [Act.put, List.setIfInBounds_toArray, List.set_cons_zero, List.set_cons_succ, List.getElem_toArray, List.getElem_cons_succ, List.getElem_cons_zero])
              refine wpAnyH_take (i := 3) (v := .agg #[.int .i64 f2, .int .i64 t2]) rfl (by kernel_rfl) (by kernel_rfl) (by kernel_rfl) (fun _ _ _ h => h) (yieldsIf_load_mid rfl _ _ rfl A 0 rfl [.int .i64 f2, .int .i64 t2] dS (fun Y hY => hY.2) hdS1 hdS2 Try.sizeSp) (by assumption) ?_
              (try simp only [Act.put, List.setIfInBounds_toArray, List.set_cons_zero, List.set_cons_succ, List.getElem_toArray, List.getElem_cons_succ, List.getElem_cons_zero])
              refine wpAnyH_take (i := 5) (v := ?fv5) rfl (by kernel_rfl) (by kernel_rfl) (by kernel_rfl) (fun _ _ _ h => h) (Or.inl ⟨by rfl, ?fy5⟩) (by assumption) ?fr5
              case fy5 => (intro w hSw; (try dsimp only at hSw); go_simp; try with_reducible rfl)
              (try simp only [Act.put, List.setIfInBounds_toArray, List.set_cons_zero, List.set_cons_succ, List.getElem_toArray, List.getElem_cons_succ, List.getElem_cons_zero])
              refine wpAnyH_take (i := 6) (v := ?fv6) rfl (by kernel_rfl) (by kernel_rfl) (by kernel_rfl) (fun _ _ _ h => h) (Or.inl ⟨by rfl, ?fy6⟩) (by assumption) ?fr6
              case fy6 => (intro w hSw; (try dsimp only at hSw); go_simp; try with_reducible rfl)
              (try simp only [Act.put, List.setIfInBounds_toArray, List.set_cons_zero, List.set_cons_succ, List.getElem_toArray, List.getElem_cons_succ, List.getElem_cons_zero])
              refine wpAnyH_ready (rs := [4]) (by kernel_rfl) (by simp) ?_
              refine AllReadyH.cons rfl (fun K hK => ?_) AllReadyH.nil
              rw [if_pos (by rfl)]
              go_wp2_with fail
              refine (mid_any mb 0 z256 (f2, t2) _ (M7.out.below B8.out) (fun x hx => by rw [z256_mem x hx]; omega)).mono ?_
              rintro e w9 ⟨lo2, k2, v2, rfl, -, -, hmd2, hb9⟩
              have hv2 : v2 = f2 := by
                rcases hmd2 with ⟨-, h⟩ | ⟨h, -⟩
                · exact h
                · rw [smC_zero] at h; omega
              rw [hv2]
              have B9 : Hid (Below w7.heap.size w7 w9) := hid (B8.out.trans (hb9.mono B8.out.size))
              clear hmd2 hb9
              refine hK.out _ _ (SB.out _ B9.out) (fun hHeld => ?_)
              try clear hK K
              (try simp only [Act.put, List.setIfInBounds_toArray, List.set_cons_zero, List.set_cons_succ, List.getElem_toArray, List.getElem_cons_succ, List.getElem_cons_zero])
              refine wpAnyH_take (i := 7) (v := .bool true) rfl (by kernel_rfl) (by kernel_rfl) (by kernel_rfl) (fun _ _ _ h => h) (Or.inl ⟨by rfl, ?fy7⟩) (by assumption) ?fr7
              case fy7 => (intro w hSw; (try dsimp only at hSw); go_simp; try with_reducible rfl)
              (try simp only [Act.put, List.setIfInBounds_toArray, List.set_cons_zero, List.set_cons_succ, List.getElem_toArray, List.getElem_cons_succ, List.getElem_cons_zero])
              refine wpAnyH_take (i := 8) (v := ?fv8) rfl (by kernel_rfl) (by kernel_rfl) (by kernel_rfl) (fun _ _ _ h => h) (Or.inl ⟨by rfl, ?fy8⟩) (by assumption) ?fr8
              case fy8 => (intro w hSw; (try dsimp only at hSw); go_simp; try with_reducible rfl)
              (try simp only [Act.put, List.setIfInBounds_toArray, List.set_cons_zero, List.set_cons_succ, List.getElem_toArray, List.getElem_cons_succ, List.getElem_cons_zero])
              refine wpAnyH_take (i := 9) (v := ?fv9) rfl (by kernel_rfl) (by kernel_rfl) (by kernel_rfl) (fun _ _ _ h => h) (Or.inl ⟨by rfl, ?fy9⟩) (by assumption) ?fr9
              case fy9 => (intro w hSw; (try dsimp only at hSw); go_simp; try with_reducible rfl)
              (try simp only [Act.put, List.setIfInBounds_toArray, List.set_cons_zero, List.set_cons_succ, List.getElem_toArray, List.getElem_cons_succ, List.getElem_cons_zero])
              refine wpAnyH_take (i := 10) (v := ?fv10) rfl (by kernel_rfl) (by kernel_rfl) (by kernel_rfl) (fun _ _ _ h => h) (Or.inl ⟨by rfl, ?fy10⟩) (by assumption) ?fr10
              case fy10 => (intro w hSw; (try dsimp only at hSw); go_simp; try with_reducible rfl)
              (try simp only [Act.put, List.setIfInBounds_toArray, List.set_cons_zero, List.set_cons_succ, List.getElem_toArray, List.getElem_cons_succ, List.getElem_cons_zero])
              refine wpAnyH_ready (rs := [11]) (by kernel_rfl) (by simp) ?_
              refine AllReadyH.cons rfl (fun K hK => ?_) AllReadyH.nil
              rw [if_pos (by rfl)]
              go_wp2_with fail
              refine (commands_nil _).mono ?_
              rintro e wx ⟨rfl, hx⟩
              replace hx := hx.symm
              subst hx
              refine hK.out _ _ (SB.out _ B9.out) (fun hHeld => ?_)
              try clear hK K
              (try simp only [Act.put, List.setIfInBounds_toArray, List.set_cons_zero, List.set_cons_succ, List.getElem_toArray, List.getElem_cons_succ, List.getElem_cons_zero])
              refine wpAnyH_take (i := 12) (v := .bool true) rfl (by kernel_rfl) (by kernel_rfl) (by kernel_rfl) (fun _ _ _ h => h) (Or.inl ⟨by rfl, ?fy12⟩) (by assumption) ?fr12
              case fy12 => (intro w hSw; (try dsimp only at hSw); go_simp; try with_reducible rfl)
              (try simp only [Act.put, List.setIfInBounds_toArray, List.set_cons_zero, List.set_cons_succ, List.getElem_toArray, List.getElem_cons_succ, List.getElem_cons_zero])
              refine wpAnyH_take (i := 13) (v := ?fv13) rfl (by kernel_rfl) (by kernel_rfl) (by kernel_rfl) (fun _ _ _ h => h) (Or.inl ⟨by rfl, ?fy13⟩) (by assumption) ?fr13
              case fy13 => (intro w hSw; (try dsimp only at hSw); go_simp; try with_reducible rfl)
              (try simp only [Act.put, List.setIfInBounds_toArray, List.set_cons_zero, List.set_cons_succ, List.getElem_toArray, List.getElem_cons_succ, List.getElem_cons_zero])
              refine wpAnyH_take (i := 14) (v := ?fv14) rfl (by kernel_rfl) (by kernel_rfl) (by kernel_rfl) (fun _ _ _ h => h) (Or.inl ⟨by rfl, ?fy14⟩) (by assumption) ?fr14
              case fy14 => (intro w hSw; (try dsimp only at hSw); go_simp; try with_reducible rfl)
              (try simp only [Act.put, List.setIfInBounds_toArray, List.set_cons_zero, List.set_cons_succ, List.getElem_toArray, List.getElem_cons_succ, List.getElem_cons_zero])
              refine wpAnyH_take (i := 15) (v := ?fv15) rfl (by kernel_rfl) (by kernel_rfl) (by kernel_rfl) (fun _ _ _ h => h) (Or.inl ⟨by rfl, ?fy15⟩) (by assumption) ?fr15
              case fy15 => (intro w hSw; (try dsimp only at hSw); go_simp; try with_reducible rfl)
              (try simp only [Act.put, List.setIfInBounds_toArray, List.set_cons_zero, List.set_cons_succ, List.getElem_toArray, List.getElem_cons_succ, List.getElem_cons_zero])
              refine wpAnyH_take (i := 16) (v := .agg #[.int .i64 f2, .int .i64 t2]) rfl (by kernel_rfl) (by kernel_rfl) (by kernel_rfl) (fun _ _ _ h => h) (yieldsIf_load_mid rfl _ _ rfl A 0 rfl [.int .i64 f2, .int .i64 t2] dS (fun Y hY => hY.2) hdS1 hdS2 Try.sizeSp) (by assumption) ?_
              (try simp only [Act.put, List.setIfInBounds_toArray, List.set_cons_zero, List.set_cons_succ, List.getElem_toArray, List.getElem_cons_succ, List.getElem_cons_zero])
              refine wpAnyH_take (i := 18) (v := ?hv18) rfl (by kernel_rfl) (by kernel_rfl) (by kernel_rfl) (fun _ _ _ h => h) (Or.inl ⟨by rfl, ?hy18⟩) (by assumption) ?hr18
              case hy18 => (intro w hSw; (try dsimp only at hSw); go_simp; try with_reducible rfl)
              (try simp only [Act.put, List.setIfInBounds_toArray, List.set_cons_zero, List.set_cons_succ, List.getElem_toArray, List.getElem_cons_succ, List.getElem_cons_zero])
              refine wpAnyH_take (i := 19) (v := ?hv19) rfl (by kernel_rfl) (by kernel_rfl) (by kernel_rfl) (fun _ _ _ h => h) (Or.inl ⟨by rfl, ?hy19⟩) (by assumption) ?hr19
              case hy19 => (intro w hSw; (try dsimp only at hSw); go_simp; try with_reducible rfl)
              (try simp only [Act.put, List.setIfInBounds_toArray, List.set_cons_zero, List.set_cons_succ, List.getElem_toArray, List.getElem_cons_succ, List.getElem_cons_zero])
              refine wpAnyH_ready (rs := [17]) (by kernel_rfl) (by simp) ?_
              refine AllReadyH.cons rfl (fun K hK => ?_) AllReadyH.nil
              rw [if_pos (by rfl)]
              go_wp2_with fail
              refine (mid_nil (f2, t2) _).mono ?_
              rintro e w10 ⟨rfl, hb10⟩
              have B10 : Hid (Below w7.heap.size w7 w10) := hid (B9.out.trans (hb10.mono B9.out.size))
              clear hb10
              refine hK.out _ _ (SB.out _ B10.out) (fun hHeld => ?_)
              try clear hK K
              (try simp only [Act.put, List.setIfInBounds_toArray, List.set_cons_zero, List.set_cons_succ, List.getElem_toArray, List.getElem_cons_succ, List.getElem_cons_zero])
              refine wpAnyH_take (i := 20) (v := .bool true) rfl (by kernel_rfl) (by kernel_rfl) (by kernel_rfl) (fun _ _ _ h => h) (Or.inl ⟨by rfl, ?hy20⟩) (by assumption) ?hr20
              case hy20 => (intro w hSw; (try dsimp only at hSw); go_simp; try with_reducible rfl)
              (try simp only [Act.put, List.setIfInBounds_toArray, List.set_cons_zero, List.set_cons_succ, List.getElem_toArray, List.getElem_cons_succ, List.getElem_cons_zero])
              refine wpAnyH_take (i := 21) (v := ?hv21) rfl (by kernel_rfl) (by kernel_rfl) (by kernel_rfl) (fun _ _ _ h => h) (Or.inl ⟨by rfl, ?hy21⟩) (by assumption) ?hr21
              case hy21 => (intro w hSw; (try dsimp only at hSw); go_simp; try with_reducible rfl)
              (try simp only [Act.put, List.setIfInBounds_toArray, List.set_cons_zero, List.set_cons_succ, List.getElem_toArray, List.getElem_cons_succ, List.getElem_cons_zero])
              refine wpAnyH_take (i := 22) (v := ?hv22) rfl (by kernel_rfl) (by kernel_rfl) (by kernel_rfl) (fun _ _ _ h => h) (Or.inl ⟨by rfl, ?hy22⟩) (by assumption) ?hr22
              case hy22 => (intro w hSw; (try dsimp only at hSw); go_simp; try with_reducible rfl)
              (try simp only [Act.put, List.setIfInBounds_toArray, List.set_cons_zero, List.set_cons_succ, List.getElem_toArray, List.getElem_cons_succ, List.getElem_cons_zero])
              refine wpAnyH_ready (rs := [23]) (by kernel_rfl) (by simp) ?_
              refine AllReadyH.cons rfl (fun K hK => ?_) AllReadyH.nil
              rw [if_pos (by rfl)]
              go_wp2_with fail
              refine (wlives_any _).mono ?_
              rintro e w11 ⟨rfl, hb11⟩
              have B11 : Hid (Below w7.heap.size w7 w11) := hid (B10.out.trans (hb11.mono B10.out.size))
              clear hb11
              refine hK.out _ _ (SB.out _ B11.out) (fun hHeld => ?_)
              try clear hK K
              (try simp only [Act.put, List.setIfInBounds_toArray, List.set_cons_zero, List.set_cons_succ, List.getElem_toArray, List.getElem_cons_succ, List.getElem_cons_zero])
              refine wpAnyH_take (i := 24) (v := ?hv24) rfl (by kernel_rfl) (by kernel_rfl) (by kernel_rfl) (fun _ _ _ h => h) (Or.inl ⟨by rfl, ?hy24⟩) (by assumption) ?hr24
              case hy24 => (intro w hSw; (try dsimp only at hSw); go_simp; try with_reducible rfl)
              (try simp only [Act.put, List.setIfInBounds_toArray, List.set_cons_zero, List.set_cons_succ, List.getElem_toArray, List.getElem_cons_succ, List.getElem_cons_zero])
              refine wpAnyH_take (i := 25) (v := ?hv25) rfl (by kernel_rfl) (by kernel_rfl) (by kernel_rfl) (fun _ _ _ h => h) (Or.inl ⟨by rfl, ?hy25⟩) (by assumption) ?hr25
              case hy25 => (intro w hSw; (try dsimp only at hSw); go_simp; try with_reducible rfl)
              (try simp only [Act.put, List.setIfInBounds_toArray, List.set_cons_zero, List.set_cons_succ, List.getElem_toArray, List.getElem_cons_succ, List.getElem_cons_zero])
              refine wpAnyH_done (by kernel_rfl) ?_ _
              go_wp2_with fail
              go_ret
              exact ⟨rfl, BW7.out.trans (B11.out.mono BW7.out.size)⟩
end Go.Proofs.Ytmgjjkcmgfpbdaa
namespace Go.Proofs.Ytmgjjkcmgfpbdaa
open Go.ChangeShapes Go.WideShapes Go.ChangeAt Go.RowKit Go.Deep
set_option maxRecDepth 100000

variable {H : Type} {enc : TypeId × Value → H} {w : World} {base : Nat} {spare : Nat → Bool} {held : Bool}

theorem Try.cellsI : Try.prog.cellsOf 3 = 1 := by kernel_rfl
theorem int_of {n : Nat} {v0 : Value} {y0 : DataW H × List MemPlace} (h0 : DataW.trod enc Try.prog w base spare held n 3 [v0] = some y0) : ∃ x : Int, v0 = .int .i64 x ∧ I64 x := by
  obtain ⟨a0, e0, rfl, w0⟩ := DataW.trod_int Try.underlying3 h0
  simp at e0
  subst e0
  have s0 : -9223372036854775808 ≤ a0 ∧ a0 ≤ 9223372036854775807 := by simpa [Lit.wf, IntKind.min, IntKind.max, IntKind.signed, IntKind.bits] using w0
  exact ⟨a0, rfl, s0⟩
/-- A slice of numbers that came in. -/
theorem nums_of {n : Nat} {v : Value} {y : DataW H × List MemPlace} (h : DataW.trod enc Try.prog w base spare held n 26 [v] = some y) : ∃ l, Nums w v l ∧ ∀ x ∈ l, I64 x := by
  rcases DataW.trod_slice Try.underlying26 h with ⟨hcs, _⟩ | ⟨a, len, cap, elems, rest, n', _, hcs, _, hb, hl, hm, hlen, hel, _, _⟩
  · simp at hcs
    subst hcs
    exact ⟨[], ⟨none, 0, 0, rfl, rfl, Nat.le_refl _, by omega, (fun _ => rfl), (fun ad h => by cases h)⟩, by simp⟩
  · simp at hcs
    subst hcs
    have each : ∀ i, i < len → ∃ q : Int, w.cell? (a.add i) = some (.int .i64 q) ∧ I64 q := by
      intro i hi
      have h1 := hel i hi
      rw [List.getElem?_eq_getElem (by omega), Try.cellsI] at h1
      obtain ⟨cs, h2, h3⟩ := Option.bind_eq_some_iff.1 h1
      obtain ⟨_, hcl, hcell⟩ := World.cells?_some h2
      match cs, hcl with
      | [v0], _ =>
        obtain ⟨x, rfl, hx⟩ := int_of h3
        have e0 := hcell 0 (by omega)
        rw [Addr.add_add] at e0
        exact ⟨x, by simpa using e0, hx⟩
    obtain ⟨q, hq⟩ := choose_lt each
    refine ⟨(List.range len).map q, ⟨some a, len, cap, rfl, by simp, hl, by unfold maxLen at hm; omega, (fun h => by cases h), fun ad had j hj => ?_⟩, ?_⟩
    · obtain rfl := Option.some.inj had
      have hj' : j < len := by simpa using hj
      simp only [List.getElem_map, List.getElem_range]
      exact (hq j hj').1
    · intro x hx
      simp only [List.mem_map, List.mem_range] at hx
      obtain ⟨i, hi, rfl⟩ := hx
      exact (hq i hi).2
end Go.Proofs.Ytmgjjkcmgfpbdaa
namespace Go.Proofs.Ytmgjjkcmgfpbdaa
open Go.ChangeShapes Go.WideShapes Go.ChangeAt Go.RowKit Go.Deep
set_option maxRecDepth 100000

variable {H : Type} {enc : TypeId × Value → H} {w : World} {base : Nat} {spare : Nat → Bool} {held : Bool}

def SpI (x : Sp) : Prop := I64 x.1 ∧ I64 x.2
theorem Try.cellsSp : Try.prog.cellsOf 51 = 2 := by kernel_rfl
theorem sp_of {n : Nat} {v0 v1 : Value} {y0 y1 : DataW H × List MemPlace} (h0 : DataW.trod enc Try.prog w base spare held n 3 [v0] = some y0) (h1 : DataW.trod enc Try.prog w base spare held n 3 [v1] = some y1) : ∃ x : Sp, v0 = .int .i64 x.1 ∧ v1 = .int .i64 x.2 ∧ SpI x := by
  obtain ⟨a0, e0, rfl, w0⟩ := DataW.trod_int Try.underlying3 h0
  obtain ⟨a1, e1, rfl, w1⟩ := DataW.trod_int Try.underlying3 h1
  simp at e0 e1
  subst e0 e1
  have s0 : -9223372036854775808 ≤ a0 ∧ a0 ≤ 9223372036854775807 := by simpa [Lit.wf, IntKind.min, IntKind.max, IntKind.signed, IntKind.bits] using w0
  have s1 : -9223372036854775808 ≤ a1 ∧ a1 ≤ 9223372036854775807 := by simpa [Lit.wf, IntKind.min, IntKind.max, IntKind.signed, IntKind.bits] using w1
  exact ⟨(a0, a1), rfl, rfl, s0, s1⟩
/-- A slice of spans that came in. -/
theorem sps_of {n : Nat} {v : Value} {y : DataW H × List MemPlace} (h : DataW.trod enc Try.prog w base spare held n 49 [v] = some y) : ∃ l, Sps w v l ∧ ∀ x ∈ l, SpI x := by
  rcases DataW.trod_slice Try.underlying49 h with ⟨hcs, _⟩ | ⟨a, len, cap, elems, rest, n', _, hcs, _, hb, hl, hm, hlen, hel, _, _⟩
  · simp at hcs
    subst hcs
    exact ⟨[], ⟨none, 0, 0, rfl, rfl, Nat.le_refl _, by omega, (fun _ => rfl), (fun ad h => by cases h)⟩, by simp⟩
  · simp at hcs
    subst hcs
    have each : ∀ i, i < len → ∃ q : Sp, w.cell? (a.add (i * 2)) = some (.int .i64 q.1) ∧ w.cell? (a.add (i * 2 + 1)) = some (.int .i64 q.2) ∧ SpI q := by
      intro i hi
      have h1 := hel i hi
      rw [List.getElem?_eq_getElem (by omega), Try.cellsSp] at h1
      obtain ⟨cs, h2, h3⟩ := Option.bind_eq_some_iff.1 h1
      obtain ⟨_, hcl, hcell⟩ := World.cells?_some h2
      obtain ⟨xs, k, hk, hxy, _, hxl, hf⟩ := DataW.trod_struct Try.underlying51 h3
      match cs, hcl, xs, hxl with
      | [v0, v1], _, [y0, y1], _ =>
        have g0 := hf 0 _ rfl
        have g1 := hf 1 _ rfl
        simp [Try.cellsI] at g0 g1
        obtain ⟨x, rfl, rfl, hx⟩ := sp_of g0 g1
        have e0 := hcell 0 (by omega)
        have e1 := hcell 1 (by omega)
        rw [Addr.add_add] at e0 e1
        exact ⟨x, by simpa using e0, by simpa using e1, hx⟩
    obtain ⟨q, hq⟩ := choose_lt each
    refine ⟨(List.range len).map q, ⟨some a, len, cap, rfl, by simp, hl, by unfold maxLen at hm; omega, (fun h => by cases h), fun ad had j hj => ?_⟩, ?_⟩
    · obtain rfl := Option.some.inj had
      have hj' : j < len := by simpa using hj
      simp only [List.getElem_map, List.getElem_range]
      exact ⟨(hq j hj').1, (hq j hj').2.1⟩
    · intro x hx
      simp only [List.mem_map, List.mem_range] at hx
      obtain ⟨i, hi, rfl⟩ := hx
      exact (hq i hi).2.2
/-- A span by value. -/
theorem span_of {r : Reach} {b0 : Nat} {v : Value} {d : DataW H} {p : List MemPlace} (hv : Value.okWide Try.prog w r b0 51 v) (h : DataW.Trod enc Try.prog w base spare held 51 v d p) : ∃ x : Sp, v = .agg #[.int .i64 x.1, .int .i64 x.2] ∧ SpI x := by
  obtain ⟨v0, v1, y0, y1, n, rfl, rfl, rfl, h0, h1⟩ := Go.Joins.open_agg2 Try.underlying51 (by kernel_rfl) Try.cellsSp hv h
  obtain ⟨x, rfl, rfl, hx⟩ := sp_of h0 h1
  exact ⟨x, rfl, hx⟩
end Go.Proofs.Ytmgjjkcmgfpbdaa
namespace Go.Proofs.Ytmgjjkcmgfpbdaa.wardenCounts
open Go.ChangeShapes Go.WideShapes Go.ChangeAt Go.RowKit
set_option linter.unusedVariables false

theorem own : ownKnob Try.prog.godebug = none := by kernel_rfl
theorem laidOut : laidOutB Try.prog = true := by kernel_rfl

set_option maxRecDepth 100000 in
set_option maxHeartbeats 1600000 in
theorem lifted (os : Os) (started : os.Started) (H : Type) (enc : TypeId × Value → H) :
    ReturnsInHanded {} Try.checked os 7 .any (Rows.wardenCountsSpec.pre6 enc Try.prog Try.f7 Rows.wardenCountsRow.domain false) (Rows.wardenCountsSpec.post enc Try.prog Try.f7 false true false false) := by
  refine returnsInHanded_of_change (C := Try.checked) own started (by kernel_rfl) Try.func7
    (ChangeSpec.witness6 (enc := enc) (C := Try.checked) false ⟨#[], #[.slice none 0 0, .agg #[.int .i64 0, .int .i64 0]], []⟩ 8 (by kernel_rfl) (by kernel_rfl) (by kernel_rfl) (by kernel_rfl)) ?_
  intro W base args ds gs before hval0 hW hcnd _
  have hval : ∀ (j : Nat) t v, Try.f7.params[j]? = some t → args[j]? = some v → Value.okWide Try.prog W .any base t v := hval0
  have hW' := hW
  obtain ⟨p, q, hA0, hV, rfl, hfz, hnd⟩ := hW
  have hA : DataW.TrodAll enc Try.prog W 0 (fun _ => true) true Try.f7.params.toList args.toList ds p := hA0
  rw [Try.params7] at hA hval
  obtain ⟨v0, vs0, d0, ds0, p0, q0, hargs, rfl, rfl, h0, r0⟩ := trodAll_cons hA
  obtain ⟨v1, vs1, d1, ds1, p1, q1, rfl, rfl, rfl, h1, r1⟩ := trodAll_cons r0
  obtain ⟨rfl, rfl, rfl⟩ := trodAll_nil r1
  obtain rfl : args = #[v0, v1] := by cases args; simp_all
  obtain ⟨rfl, rfl⟩ := trodVars_none hV
  have k0 := h0
  have lt0 : ∀ x ∈ p0, x.block < W.heap.size := by obtain ⟨m, hm⟩ := k0; exact DataW.trod_lt m _ _ _ hm
  obtain ⟨a0, len0, cap0, rfl⟩ := okWide_slice Try.underlying49 (hval 0 49 v0 rfl rfl)
  obtain ⟨f0, hf0⟩ := h0
  obtain ⟨l0, H0, J0⟩ := sps_of hf0
  have k1 := h1
  have lt1 : ∀ x ∈ p1, x.block < W.heap.size := by obtain ⟨m, hm⟩ := k1; exact DataW.trod_lt m _ _ _ hm
  obtain ⟨x1, rfl, J1⟩ := span_of (hval 1 51 v1 rfl rfl) h1
  clear hA0 hval0
  refine (wardenCounts_any l0 _ x1 W H0).mono fun e W' ⟨he, bel⟩ => ?_
  subst he
  have t0 := Below.trod laidOut (by kernel_rfl) (of_decide_eq_true (by kernel_rfl)) k0 bel lt0
  have t1 := Below.trod laidOut (by kernel_rfl) (of_decide_eq_true (by kernel_rfl)) k1 bel lt1
  have T := trodAll_cons_mk t0 (trodAll_cons_mk t1 trodAll_mk0)
  exact ⟨_, rfl, _, _, _, [], _, [], hW', trodAll_mk1 (shut_bool Try.underlying4 _), T, rfl, bel.frame _, fun h => by cases h⟩

theorem over : Rows.wardenCountsRow.holds Try.pinned (OpenSpec.ofChange Rows.wardenCountsSpec) :=
  OpenClaim.holds_of_wide 7 Try.f7 rfl rfl rfl rfl rfl rfl rfl ⟨rfl, rfl, rfl, rfl, rfl⟩ rfl rfl rfl rfl rfl (by kernel_rfl) Try.func7 (by kernel_rfl)
    (of_decide_eq_true (by kernel_rfl)) (by unfold Func.isWrapper; first | (rw [if_pos (by decide +kernel)]; kernel_rfl) | (rw [if_neg (by decide +kernel)]; exact ⟨rfl, rfl⟩))
    (fun os started H enc _ => lifted os started H enc)

theorem proved : Rows.WardenCountsSaid := over
end Go.Proofs.Ytmgjjkcmgfpbdaa.wardenCounts
namespace Go.Proofs.Ytmgjjkcmgfpbdaa
/-- The statement. -/
theorem wardenCounts_holds : Rows.WardenCountsSaid := wardenCounts.proved
end Go.Proofs.Ytmgjjkcmgfpbdaa
