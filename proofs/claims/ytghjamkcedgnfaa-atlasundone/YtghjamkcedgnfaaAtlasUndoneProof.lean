/- What is split, settled and merged again has the blocks of one shard as ahead, and what is replaced and replaced back has its members, behind any steps on a map of any number of blocks. -/
import Derived.Test.YtghjamkcedgnfaaAtChJ
import Derived.Test.YtghjamkcedgnfaaAtOf
import Derived.Test.YtghjamkcedgnfaaAtBase
import Derived.ProofKit
import Derived.OpenShut
import Derived.ChangeOld
import Derived.Deep.SlicePairs
import Derived.Lib.SmallJoins
import Derived.Test.YtghjamkcedgnfaaRows
import Derived.WalkKit
import Derived.ShutString
import Derived.Below
namespace Go.Proofs.Ytghjamkcedgnfaa
open Go.RowKit
def stC (x : ChD × Bool) : List Value := [.int .i64 x.1.k, .int .i64 x.1.sh, .int .i64 x.1.ot, .int .i64 x.1.at', .int .i64 x.1.out, .int .i64 x.1.in', .bool x.2]
/-- The value v is a slice of the steps l. -/
def Stps (w : World) (v : Value) (l : List (ChD × Bool)) : Prop :=
  ∃ ao n cap, v = .slice ao n cap ∧ n = l.length ∧ n ≤ cap ∧ cap ≤ 9223372036854775807 ∧ (ao = none → cap = 0) ∧ ∀ ad, ao = some ad → ∀ j, (h : j < l.length) → ∀ k u, (stC l[j])[k]? = some u → w.cell? (ad.add (j * 7 + k)) = some u
theorem Stps.below {w w' : World} {v : Value} {l : List (ChD × Bool)} (h : Stps w v l) (hb : Below w.heap.size w w') : Stps w' v l := by
  obtain ⟨ao, n, cap, rfl, h1, h2, h3, h4, h5⟩ := h
  exact ⟨ao, n, cap, rfl, h1, h2, h3, h4, fun ad had j hj k u hk => cell_later hb (h5 ad had j hj k u hk)⟩
theorem Stps.shape {w : World} {v : Value} {l : List (ChD × Bool)} (h : Stps w v l) : ∃ va vc, v = .slice va l.length vc := by
  obtain ⟨ao, n, cap, rfl, rfl, -⟩ := h; exact ⟨_, _, rfl⟩
theorem Stps.len {w : World} {v : Value} {l : List (ChD × Bool)} (h : Stps w v l) : (l.length : Int) ≤ 9223372036854775807 := by
  obtain ⟨ao, n, cap, rfl, h1, h2, h3, -⟩ := h; omega
theorem Stps.addr {w : World} {ao : Option Addr} {cap : Nat} {l : List (ChD × Bool)} (h : Stps w (.slice ao l.length cap) l) (hl : 0 < l.length) : ∃ b o, ao = some ⟨b, o, none⟩ := by
  obtain ⟨ao', n, cap', e, h1, h2, h3, h4, h5⟩ := h
  cases e
  cases ao with
  | none => have := h4 rfl; omega
  | some a =>
    have h0 := h5 a rfl 0 hl 0 _ rfl
    have := World.cell?_spot h0
    obtain ⟨b, o, sp⟩ := a
    simp [Addr.add] at this
    subst this
    exact ⟨b, o, rfl⟩
theorem Stps.range {w : World} {b o cap : Nat} {l : List (ChD × Bool)} (h : Stps w (.slice (some ⟨b, o, none⟩) l.length cap) l) (j : Nat) (hj : j < l.length) : w.rangeAt b (o + j * 7) (stC l[j]) := by
  obtain ⟨ao, n, cap', e, h1, h2, h3, h4, h5⟩ := h
  cases e
  intro k u hk
  have := h5 _ rfl j hj k u hk
  rw [Addr.add_lit, ← Nat.add_assoc] at this
  exact this
end Go.Proofs.Ytghjamkcedgnfaa
namespace Go.Proofs.Ytghjamkcedgnfaa
open Go.RowKit Go.Maps Go.Shelf
set_option linter.unusedVariables false
set_option linter.unusedSimpArgs false

/-- What the document's New leaves, in rows of its own. -/
def RNb (bl : Int) (l : List Int) (w : World) (e : Ending) (w' : World) : Prop := ∃ b sv X, e = .returned (.pointer (some ⟨b, 0, none⟩)) ∧ RB w' b ⟨bl, 1, 2, []⟩ (.slice none 0 0) sv X ∧ X.map (·.s) = [⟨1, 0, bl, l, []⟩] ∧ Below w.heap.size w w' ∧ w.heap.size ≤ b
set_option maxRecDepth 100000 in
set_option maxHeartbeats 4000000 in
theorem rnewB_any (bl : Int) (l : List Int) (va : Option Addr) (vc : Nat) (w : World) (hv : w.ownsRow 0 3 1 (.slice va l.length vc) l.length (nvs l)) :
    Calls Try.prog 20 #[.int .i64 bl, .slice va l.length vc] w (RNb bl l w) := by
  have HV := hid hv
  clear hv
  obtain ⟨h1, h2⟩ := heap_two w (.cells #[.int .i64 1, .int .i64 0, .int .i64 bl, .slice va l.length vc, .slice none 0 0] 46) (.cells #[.int .i64 bl, .int .i64 1, .int .i64 2, .slice none 0 0, .slice (some ⟨w.heap.size, 0, none⟩) 1 1] 71)
  have hb : Below w.heap.size w ((w.alloc (.cells #[.int .i64 1, .int .i64 0, .int .i64 bl, .slice va l.length vc, .slice none 0 0] 46)).alloc (.cells #[.int .i64 bl, .int .i64 1, .int .i64 2, .slice none 0 0, .slice (some ⟨w.heap.size, 0, none⟩) 1 1] 71)) := ((Below.refl _ _).alloc (Nat.le_refl _) _).alloc (by simp) _
  have HF : Hid (RNb bl l w (.returned (.pointer (some ⟨w.heap.size + 1, 0, none⟩))) ((w.alloc (.cells #[.int .i64 1, .int .i64 0, .int .i64 bl, .slice va l.length vc, .slice none 0 0] 46)).alloc (.cells #[.int .i64 bl, .int .i64 1, .int .i64 2, .slice none 0 0, .slice (some ⟨w.heap.size, 0, none⟩) 1 1] 71))) := hid (by
    refine ⟨w.heap.size + 1, .slice (some ⟨w.heap.size, 0, none⟩) 1 1, [⟨⟨1, 0, bl, l, []⟩, .slice va l.length vc, .slice none 0 0⟩], rfl, ⟨h2, World.ownsRow_nil _ _ _ _, ?_, ?_, fun _ => rfl⟩, rfl, hb, by omega⟩
    · exact ⟨rfl, .inr ⟨w.heap.size, 1, _, rfl, Nat.zero_le _, h1, Nat.le_refl _, by unfold maxLen; omega, rfl, rfl⟩⟩
    · intro x hx
      rw [List.mem_singleton.1 hx]
      exact ⟨own_below HV.out hb, [], rfl, World.ownsRow_nil _ _ _ _, fun x hx => by cases hx⟩)
  clear h1 h2 hb
  go_enter Try.func20, Try.ntmps20
  go_wp2_with fail
  go_ret
  simpa using HF.out
/-- What play leaves. -/
def PlyP (w : World) (e : Ending) (w' : World) : Prop := ∃ b wb mb n ov D N X xb rv sv Y, e = .returned (.tuple #[.pointer (some ⟨b, 0, none⟩), .pointer (some ⟨xb, 0, none⟩), .bool true]) ∧ At w' b wb mb n ov D N X ∧ RB w' xb N rv sv Y ∧ Y.map (·.s) = X.map (·.s) ∧ Gd 100 N (X.map (·.s)) ∧ n ≤ 100 ∧ Below w.heap.size w w' ∧ (∀ q, AtR b wb mb q → w.heap.size ≤ q) ∧ w.heap.size ≤ xb ∧ ∀ S ∈ X.map (·.s), S.mem.length = 3
/-- Members stay three. -/
theorem three_step {B : Nat} {N N' : AtN} {Z Z' : List ShD} {c : ChD} {r : Int} (g : Gd B N Z) (h : ∀ S ∈ Z, S.mem.length = 3) (hs : StepR N Z c r N' Z') : ∀ S ∈ Z', S.mem.length = 3 := by
  cases hs with
  | bad _ => exact h
  | calm _ _ _ _ => exact h
  | settle _ _ _ _ => exact h
  | down _ _ _ _ => exact h
  | miss _ _ _ _ _ => exact h
  | miss2 _ _ _ _ _ _ _ _ _ _ => exact h
  | unfit _ _ _ _ _ _ _ _ _ _ _ => exact h
  | unfit2 _ _ _ _ _ _ _ _ _ _ _ _ _ _ _ => exact h
  | one hk hn h5 h2 ho P Q S hZ hi hf =>
    subst hZ
    have hS := h S (by simp)
    have hm := g.mb S (by simp)
    have hl : (mlD c S).length = 3 := by
      unfold mlD
      split
      · rename_i hk3
        unfold fit1 at hf
        rw [if_neg (by omega), if_pos hk3] at hf
        obtain ⟨hr, hnn, -⟩ := mem_rise hm
        have hs3 : c.out ∈ S.mem ∧ c.in' ∉ S.mem ∧ (0 ≤ c.in' ∧ c.in' < 7) := by simpa [swB, nodeB] using hf
        obtain ⟨k, hk', hke⟩ := List.mem_iff_getElem.1 hs3.1
        rw [swD_len S.mem c.out c.in' k hk' hke hr hnn hs3.2.2 hs3.2.1]; exact hS
      · exact hS
    intro T hT
    rcases List.mem_append.1 hT with hT | hT
    · rcases List.mem_append.1 hT with hT | hT
      · exact h T (by simp [hT])
      · rw [(nwD_mem _ _ _ _ T hT).1]; exact hl
    · exact h T (by simp [hT])
  | two hk hn h2 ho P Q S U hZ hi hj =>
    subst hZ
    intro T hT
    rcases List.mem_append.1 hT with hT | hT
    · rcases List.mem_append.1 hT with hT | hT
      · exact h T (by simp [hT])
      · rw [(nwD_mem _ _ _ _ T hT).1]; exact h S (by simp)
    · exact h T (by simp [hT])
/-- Both maps side by side, behind i steps. -/
structure PlI (w : World) (b wb mb xb i : Nat) (wr : World) : Prop where
  both : ∃ n ov D N X rv sv Y, At wr b wb mb n ov D N X ∧ RB wr xb N rv sv Y ∧ Y.map (·.s) = X.map (·.s) ∧ Gd (2 + 2 * i) N (X.map (·.s)) ∧ n ≤ 1 + 2 * i ∧ ∀ S ∈ X.map (·.s), S.mem.length = 3
  bel : Below w.heap.size w wr
  ra : ∀ q, AtR b wb mb q → w.heap.size ≤ q
  rx : w.heap.size ≤ xb
theorem mem012 : memB [0, 1, 2] = true := by decide
theorem gd_new (bl : Int) (h : 1 ≤ bl ∧ bl ≤ 256) : Gd 2 ⟨bl, 1, 2, []⟩ [⟨1, 0, bl, [0, 1, 2], []⟩] :=
  ⟨⟨rfl, by show (0 : Int) < bl; omega, rfl⟩, by intro S hS; rw [List.mem_singleton.1 hS]; exact mem012, by intro S hS; rw [List.mem_singleton.1 hS]; exact ⟨by simp, by intro o ho; cases ho⟩, by intro S hS; rw [List.mem_singleton.1 hS]; exact ⟨by show (1 : Int) ≤ 1; omega, by show (1 : Int) < 2; omega⟩, List.pairwise_singleton _ _, ⟨by show (2 : Int) ≤ 2; omega, by show (2 : Int) ≤ 2; omega⟩, ⟨by show (1 : Int) ≤ 1; omega, by show (1 : Int) ≤ 2; omega⟩, by simp, by simp, h⟩
theorem Try.rowSt : ∃ d : TypeDesc, Try.prog.underlying 26 = some d ∧ d.isRow = true := by
  obtain ⟨d, h1, h2⟩ : ∃ d, Try.prog.underlying 26 = some d ∧ d.isRow = true := by
    have h : (Try.prog.underlying 26).map (·.isRow) = some true := by kernel_rfl
    cases hu : Try.prog.underlying 26 with
    | none => rw [hu] at h; cases h
    | some d => rw [hu] at h; exact ⟨d, rfl, by simpa using h⟩
  exact ⟨d, h1, h2⟩
theorem Try.sizeSt : (Try.prog.info? 26).map (·.size) = some 7 := by kernel_rfl
theorem rest_in64 (t m : Int) (h0 : 1 ≤ m) (h1 : m ≤ 1000000000) : 0 ≤ wrap64 ((IntKind.u64.wrap t).tmod m) ∧ wrap64 ((IntKind.u64.wrap t).tmod m) < m := by
  rw [u64_mod, Int.tmod_eq_emod_of_nonneg (by omega)]
  have a := Int.emod_nonneg (t % 18446744073709551616) (b := m) (by omega)
  have b := Int.emod_lt_of_pos (t % 18446744073709551616) (b := m) (by omega)
  rw [IntWalk.wrap64_in _ (by omega)]
  exact ⟨a, b⟩
set_option maxRecDepth 100000 in
set_option maxHeartbeats 8000000 in
theorem play_any (bl : Int) (L : List (ChD × Bool)) (v : Value) (w : World) (hv : Stps w v L) (hj : ∀ x ∈ L, ChJ x.1) :
    Calls Try.prog 5 #[.int .i64 bl, v] w (PlyP w) := by
  have HV := hid hv
  have HJ := hid hj
  have hL := hv.len
  obtain ⟨va, vc, rfl⟩ := hv.shape
  clear hv hj
  have hrr := rest_in64 bl 60 (by omega) (by omega)
  obtain ⟨nb, hnb⟩ : ∃ nb, nb = wrap64 (1 + wrap64 ((IntKind.u64.wrap bl).tmod 60)) := ⟨_, rfl⟩
  have HNB : Hid (1 ≤ nb ∧ nb ≤ 256) := hid (by rw [hnb, IntWalk.wrap64_in _ (by omega)]; omega)
  have HQ := hid hnb
  clear hnb hrr
  have HO : Hid (∀ W : World, (W.alloc (.cells #[.int .i64 0, .int .i64 1, .int .i64 2] 3)).ownsRow 0 3 1 (.slice (some ⟨W.heap.size, 0, none⟩) 3 3) 3 (nvs [0, 1, 2])) := hid fun W => own_many W 3 #[.int .i64 0, .int .i64 1, .int .i64 2] 1 3 (Nat.zero_le _) rfl (by omega)
  have HN1 := hid (anew_yes nb [0, 1, 2] (.slice (some ⟨w.heap.size, 0, none⟩) 3 3) (w.alloc (.cells #[.int .i64 0, .int .i64 1, .int .i64 2] 3)) (nums_own (HO.out w) rfl) (by simp) (by unfold anewB; rw [decide_eq_true HNB.out.1, decide_eq_true HNB.out.2, mem012]; rfl))
  have HN3 := hid fun W : World => rnewB_any nb [0, 1, 2] (some ⟨W.heap.size, 0, none⟩) 3 (W.alloc (.cells #[.int .i64 0, .int .i64 1, .int .i64 2] 3)) (HO.out W)
  go_enter Try.func5, Try.ntmps5
  go_upto_region 2 with fail
  rw [← HQ.out]
  clear HQ
  go_upto_region 3 with (go_at_call 19; refine HN1.out.mono ?_; rintro e w2 ⟨b, wb, mb, D, mv, pv, rfl, ha2, hb2, hr2⟩; have A2 := hid ha2; have HR2 := hid hr2; have B2 := hid (((Below.refl w.heap.size w).alloc (Nat.le_refl _) (.cells #[.int .i64 0, .int .i64 1, .int .i64 2] 3)).trans (hb2.mono (by simp))); clear ha2 hb2 hr2)
  go_upto_region 4 with (go_at_call 20; refine (HN3.out w2).mono ?_; rintro e w3 ⟨xb, sv, Y0, rfl, hr3, hy3, hb3, hx3⟩; have R3 := hid hr3; have HY3 := hid hy3; have HX3 : Hid (w.heap.size ≤ xb) := hid (Nat.le_trans B2.out.size (Nat.le_trans (by simp) hx3)); have HB3 := hid (((Below.refl w2.heap.size w2).alloc (Nat.le_refl _) (.cells #[.int .i64 0, .int .i64 1, .int .i64 2] 3)).trans (hb3.mono (by simp))); clear hr3 hy3 hb3 hx3)
  have HPI : Hid (PlI w b wb mb xb 0 w3) := hid ⟨⟨1, _, D, ⟨nb, 1, 2, []⟩, _, _, sv, Y0, A2.out.below HB3.out, R3.out, HY3.out, gd_new nb HNB.out, by omega, by intro S hS; rw [List.mem_singleton.1 hS]; rfl⟩, B2.out.trans (HB3.out.mono B2.out.size), fun q hq => Nat.le_trans (by simp) (HR2.out q hq), HX3.out⟩
  clear A2 HR2 B2 R3 HY3 HX3 HB3 HN1 HN3 HO
  go_wp2_with fail
  go_loopw [11, 12, 13, 32] (fun _ _ _ iv wr => ∃ i : Nat, iv = .int .i64 i ∧ i ≤ L.length ∧ i ≤ 40 ∧ PlI w b wb mb xb i wr) (fun _ _ _ iv _ => L.length - (intOf iv).toNat)
  case atStart => exact ⟨0, rfl, Nat.zero_le _, by omega, HPI.out⟩
  case round =>
    obtain ⟨i, rfl, hi, hi40, hpi⟩ := hrel
    have P := hid hpi
    have HFIN : Hid (PlyP w (.returned (.tuple #[.pointer (some ⟨b, 0, none⟩), .pointer (some ⟨xb, 0, none⟩), .bool true])) wr) := hid (by
      obtain ⟨⟨n, ov, D, N, X, rv, sv, Y, h1, h2, h3, h4, h5, h9⟩, h6, h7, h8⟩ := hpi
      exact ⟨b, wb, mb, n, ov, D, N, X, xb, rv, sv, Y, rfl, h1, h2, h3, h4.mono (by omega), by omega, h6, h7, h8, h9⟩)
    clear hpi
    by_cases hlt : (i : Int) < (L.length : Int)
    · have hil : i < L.length := by omega
      have HVR := hid (HV.out.below P.out.bel)
      obtain ⟨gs, os, rfl⟩ := HVR.out.addr (by omega)
      have hrg := HVR.out.range i hil
      have HXJ := hid (HJ.out L[i] (List.getElem_mem hil))
      obtain ⟨⟨⟨k0, k1, k2, k3, k4, k5⟩, nr⟩, hx⟩ : ∃ x, x = L[i] := ⟨_, rfl⟩
      rw [← hx] at hrg HXJ
      clear hx
      unfold stC at hrg
      obtain ⟨dT, hdT1, hdT2⟩ := Try.rowSt
      obtain ⟨w3, hw3⟩ : ∃ w3, w3 = wr.alloc (.cells #[.int .i64 k0, .int .i64 k1, .int .i64 k2, .int .i64 k3, .int .i64 k4, .int .i64 k5, .bool nr] 26) := ⟨_, rfl⟩
      have HB3 : Hid (Below wr.heap.size wr w3) := hid (by rw [hw3]; exact (Below.refl _ _).alloc (Nat.le_refl _) _)
      have HS3 : Hid (w3.heap[wr.heap.size]? = some (.cells #[.int .i64 k0, .int .i64 k1, .int .i64 k2, .int .i64 k3, .int .i64 k4, .int .i64 k5, .bool nr] 26 (0, 0))) := hid (by rw [hw3]; exact heap_alloc_new _ _)
      have HW3 := hid hw3
      clear hw3
      go_upto_region 9 with (refine wpList_load_mid rfl _ _ rfl gs (os + i * 7) (by go_simp) [.int .i64 k0, .int .i64 k1, .int .i64 k2, .int .i64 k3, .int .i64 k4, .int .i64 k5, .bool nr] dT hrg hdT1 hdT2 Try.sizeSt ?_)
      rw [← HW3.out]
      clear HW3 hrg
      by_cases h40 : (40 : Int) ≤ (i : Int)
      · have HF3 : Hid (PlyP w (.returned (.tuple #[.pointer (some ⟨b, 0, none⟩), .pointer (some ⟨xb, 0, none⟩), .bool true])) w3) := hid (by
          obtain ⟨⟨n, ov, D, N, X, rv, sv, Y, h1, h2, h3, h4, h5, h9⟩, h6, h7, h8⟩ := P.out
          exact ⟨b, wb, mb, n, ov, D, N, X, xb, rv, sv, Y, rfl, h1.below HB3.out, h2.below HB3.out, h3, h4.mono (by omega), by omega, h6.trans (HB3.out.mono h6.size), h7, h8, h9⟩)
        go_wp2_with fail
        go_ret3
        exact HF3.out
      · have HI40 : Hid (i < 40) := hid (by omega)
        obtain ⟨⟨n, ov, D, N, X, rv, sv, Y, h1, h2, h3, h4, h5, h9⟩, h6, h7, h8⟩ := P.out
        have A3 := hid (h1.below HB3.out)
        have R3 := hid (h2.below HB3.out)
        have HYX := hid h3
        have HGX := hid h4
        have HGY : Hid (Gd (2 + 2 * i) N (Y.map (·.s))) := hid (by rw [h3]; exact h4)
        have HNI := hid h5
        have B3 := hid (h6.trans (HB3.out.mono h6.size))
        have HRA := hid h7
        have HRX := hid h8
        have HT9 := hid h9
        clear h1 h2 h3 h4 h5 h6 h7 h8 h9 HVR P HFIN
        have HOF := hid (of_any ⟨k0, k1, k2, k3, k4, k5⟩ nr xb (2 + 2 * i) rv sv N Y w3 HXJ.out R3.out HGY.out (by have := HI40.out; omega))
        unfold stV at HOF
        have hrg3 : w3.rangeAt wr.heap.size 0 [.int .i64 k0, .int .i64 k1, .int .i64 k2, .int .i64 k3, .int .i64 k4, .int .i64 k5, .bool nr] := range_of_row HS3.out 0 _ fun j v hv => by rw [Nat.zero_add]; simpa using hv
        generalize wr.heap.size = S3 at *
        go_upto_region 11 with (first | (refine wpList_load_mid rfl _ _ rfl S3 0 (by go_simp) [.int .i64 k0, .int .i64 k1, .int .i64 k2, .int .i64 k3, .int .i64 k4, .int .i64 k5, .bool nr] dT hrg3 hdT1 hdT2 Try.sizeSt ?_) | (go_at_call 7; refine HOF.out.mono ?_; rintro e w4 ⟨⟨c0, c1, c2, c3, c4, c5⟩, rfl, hcj, hb4⟩; unfold chV; have HCJ := hid hcj; have HB4 := hid hb4; clear hcj hb4))
        obtain ⟨w5, hw5⟩ : ∃ w5, w5 = w4.alloc (.cells #[.int .i64 c0, .int .i64 c1, .int .i64 c2, .int .i64 c3, .int .i64 c4, .int .i64 c5] 24) := ⟨_, rfl⟩
        have HB5 : Hid (Below w4.heap.size w4 w5) := hid (by rw [hw5]; exact (Below.refl _ _).alloc (Nat.le_refl _) _)
        have HC5 : Hid (w5.heap[w4.heap.size]? = some (.cells #[.int .i64 c0, .int .i64 c1, .int .i64 c2, .int .i64 c3, .int .i64 c4, .int .i64 c5] 24 (0, 0))) := hid (by rw [hw5]; exact heap_alloc_new _ _)
        rw [← hw5]
        clear hw5
        have HB35 := hid (HB4.out.trans (HB5.out.mono HB4.out.size))
        have A5 := hid (A3.out.below HB35.out)
        have R5 := hid (R3.out.below HB35.out)
        have B5 := hid (B3.out.trans (HB35.out.mono B3.out.size))
        generalize w4.heap.size = C5 at *
        obtain ⟨r, N', Z', hst⟩ := step_ex N (X.map (·.s)) ⟨c0, c1, c2, c3, c4, c5⟩ HGX.out.ne
        have HST := hid hst
        have HG2 := hid (gd_step HGX.out hst)
        have HT2 := hid (three_step HGX.out HT9.out hst)
        clear hst HB4 HB5 HB35 A3 R3 B3 HOF hrg3 HS3 HB3
        obtain ⟨dC, hdC1, hdC2⟩ := Try.rowCh
        have HSW : Hid (∀ Y : World, Y.heap[C5]? = some (.cells #[.int .i64 c0, .int .i64 c1, .int .i64 c2, .int .i64 c3, .int .i64 c4, .int .i64 c5] 24 (0, 0)) → Y.rangeAt C5 0 [.int .i64 c0, .int .i64 c1, .int .i64 c2, .int .i64 c3, .int .i64 c4, .int .i64 c5]) := hid fun Y hY => range_of_row hY 0 _ fun j v hv => by rw [Nat.zero_add]; simpa using hv
        refine wp_region_held_drew (S := fun Y => Y.rangeAt C5 0 [.int .i64 c0, .int .i64 c1, .int .i64 c2, .int .i64 c3, .int .i64 c4, .int .i64 c5]) (by kernel_rfl) (HSW.out _ HC5.out) (fun hHeld => ?_)
        refine wpAnyH_take (i := 0) (v := ?av0) rfl (by kernel_rfl) (by kernel_rfl) (by kernel_rfl) (fun _ _ _ h => h) (Or.inl ⟨by rfl, ?ay0⟩) (by assumption) ?ar0
        case ay0 => (intro w hSw; (try dsimp only at hSw); go_simp; try with_reducible rfl)
        (try simp only [Act.put, List.setIfInBounds_toArray, List.set_cons_zero, List.set_cons_succ, List.getElem_toArray, List.getElem_cons_succ, List.getElem_cons_zero])
        refine wpAnyH_take (i := 1) (v := .agg #[.int .i64 c0, .int .i64 c1, .int .i64 c2, .int .i64 c3, .int .i64 c4, .int .i64 c5]) rfl (by kernel_rfl) (by kernel_rfl) (by kernel_rfl) (fun _ _ _ h => h) (yieldsIf_load_mid rfl _ _ rfl C5 0 rfl [.int .i64 c0, .int .i64 c1, .int .i64 c2, .int .i64 c3, .int .i64 c4, .int .i64 c5] dC (fun Y hY => hY) hdC1 hdC2 Try.sizeCh) (by assumption) ?_
        (try simp only [Act.put, List.setIfInBounds_toArray, List.set_cons_zero, List.set_cons_succ, List.getElem_toArray, List.getElem_cons_succ, List.getElem_cons_zero])
        refine wpAnyH_take (i := 3) (v := ?bv3) rfl (by kernel_rfl) (by kernel_rfl) (by kernel_rfl) (fun _ _ _ h => h) (Or.inl ⟨by rfl, ?by3⟩) (by assumption) ?br3
        case by3 => (intro w hSw; (try dsimp only at hSw); go_simp; try with_reducible rfl)
        (try simp only [Act.put, List.setIfInBounds_toArray, List.set_cons_zero, List.set_cons_succ, List.getElem_toArray, List.getElem_cons_succ, List.getElem_cons_zero])
        refine wpAnyH_take (i := 4) (v := .agg #[.int .i64 c0, .int .i64 c1, .int .i64 c2, .int .i64 c3, .int .i64 c4, .int .i64 c5]) rfl (by kernel_rfl) (by kernel_rfl) (by kernel_rfl) (fun _ _ _ h => h) (yieldsIf_load_mid rfl _ _ rfl C5 0 rfl [.int .i64 c0, .int .i64 c1, .int .i64 c2, .int .i64 c3, .int .i64 c4, .int .i64 c5] dC (fun Y hY => hY) hdC1 hdC2 Try.sizeCh) (by assumption) ?_
        (try simp only [Act.put, List.setIfInBounds_toArray, List.set_cons_zero, List.set_cons_succ, List.getElem_toArray, List.getElem_cons_succ, List.getElem_cons_zero])
        refine wpAnyH_ready (rs := [2]) (by kernel_rfl) (by simp) ?_
        refine AllReadyH.cons rfl (fun K hK => ?_) AllReadyH.nil
        rw [if_pos (by rfl)]
        go_wp2_with fail
        refine (aapply_any b wb mb n (2 + 2 * i) ov D N N' X Z' ⟨c0, c1, c2, c3, c4, c5⟩ r _ (A5.out.below ((Below.refl _ _).drew)) HGX.out HST.out HCJ.out (by have := HI40.out; omega) (by have := HI40.out; have := HNI.out; omega)).mono ?_
        rintro e w6 ⟨n6, ov6, D6, X6, rfl, ha6, hx6, hn6, ht6⟩
        have T6 := hid ((Tr.below (R := AtR b wb mb) ((Below.refl w5.heap.size w5).drew)).trans ht6)
        have A6 := hid ha6
        have HX6 := hid hx6
        have HN6 := hid hn6
        have R6 := hid (R5.out.away A5.out.m T6.out)
        have C6 := hid ((T6.out.block C5 (lt_of_block HC5.out) (A5.out.m.nob HC5.out (by decide) (by decide))).trans HC5.out)
        clear ha6 hx6 hn6 ht6
        refine hK.out _ _ (HSW.out _ C6.out) (fun hHeld => ?_)
        try clear hK K
        (try simp only [Act.put, List.setIfInBounds_toArray, List.set_cons_zero, List.set_cons_succ, List.getElem_toArray, List.getElem_cons_succ, List.getElem_cons_zero])
        refine wpAnyH_ready (rs := [5]) (by kernel_rfl) (by simp) ?_
        refine AllReadyH.cons rfl (fun K hK => ?_) AllReadyH.nil
        rw [if_pos (by rfl)]
        go_wp2_with fail
        refine (rapply_any xb (2 + 2 * i) rv sv N N' Y Z' ⟨c0, c1, c2, c3, c4, c5⟩ r _ R6.out HGY.out (by rw [HYX.out]; exact HST.out) (by have := HI40.out; omega)).mono ?_
        rintro e w7 ⟨rv7, sv7, Y7, rfl, hr7, hy7, ht7⟩
        have R7 := hid hr7
        have HY7 := hid hy7
        have A7 := hid (A6.out.away R6.out.box ht7)
        have C7 : Hid (w7.heap[C5]? = some (.cells #[.int .i64 c0, .int .i64 c1, .int .i64 c2, .int .i64 c3, .int .i64 c4, .int .i64 c5] 24 (0, 0))) := hid ((ht7.block C5 (lt_of_block C6.out) (fun e => by
          have e' : C5 = xb := e
          have h1 := C6.out
          rw [e', R6.out.box] at h1
          cases h1)).trans C6.out)
        have T7 := hid ht7
        clear hr7 hy7 ht7
        refine hK.out _ _ (HSW.out _ C7.out) (fun hHeld => ?_)
        try clear hK K
        (try simp only [Act.put, List.setIfInBounds_toArray, List.set_cons_zero, List.set_cons_succ, List.getElem_toArray, List.getElem_cons_succ, List.getElem_cons_zero])
        refine wpAnyH_take (i := 6) (v := ?dv6) rfl (by kernel_rfl) (by kernel_rfl) (by kernel_rfl) (fun _ _ _ h => h) (Or.inl ⟨by rfl, ?dy6⟩) (by assumption) ?dr6
        case dy6 => (intro w hSw; (try dsimp only at hSw); go_simp; try with_reducible rfl)
        (try simp only [Act.put, List.setIfInBounds_toArray, List.set_cons_zero, List.set_cons_succ, List.getElem_toArray, List.getElem_cons_succ, List.getElem_cons_zero])
        refine wpAnyH_done (by kernel_rfl) ?_ _
        have HREL : Hid (PlI w b wb mb xb (i + 1) w7) := hid ⟨⟨n6, ov6, D6, N', X6, rv7, sv7, Y7, A7.out, R7.out, by rw [HY7.out, HX6.out], by rw [HX6.out]; exact HG2.out.mono (by omega), by have := HN6.out; have := HNI.out; omega, by rw [HX6.out]; exact HT2.out⟩, (B5.out.trans (T6.out.to HRA.out B5.out.size)).trans (T7.out.to (fun q hq => by have e : q = xb := hq; rw [e]; exact HRX.out) (Nat.le_trans B5.out.size T6.out.size)), HRA.out, HRX.out⟩
        go_wp2_with fail
        go_roundw
        case rel => exact ⟨i + 1, by go_num, by omega, by omega, HREL.out⟩
        case measure => simp [intOf]; omega
    · go_wp2_with fail
      go_ret3
      exact HFIN.out
end Go.Proofs.Ytghjamkcedgnfaa
namespace Go.Proofs.Ytghjamkcedgnfaa
open Go.RowKit Go.Maps Go.Shelf
set_option linter.unusedVariables false
set_option linter.unusedSimpArgs false

theorem ain_of {B : Nat} {N : AtN} {X : List SX} (g : Gd B N (X.map (·.s))) (hB : B ≤ 1000) : AIn N X := by
  have hm : ∀ x ∈ X, x.s ∈ X.map (·.s) := fun x hx => List.mem_map.2 ⟨x, hx, rfl⟩
  refine ⟨(chn_d X 0 N.bl).2 g.ch, fun x hx => ⟨?_, ?_, fun o ho => ?_⟩, fun x hx => ?_, one_of (ne_map g.ne), ?_, ?_, ?_⟩
  · have := mem7 (g.mb x.s (hm x hx)); omega
  · have := (g.pa x.s (hm x hx)).1; omega
  · have := mem7 ((g.pa x.s (hm x hx)).2 o ho); omega
  · have := g.id x.s (hm x hx); have := g.nx; omega
  · have := g.len; rw [List.length_map] at this; omega
  · have := g.opl; omega
  · have := g.bl; omega
end Go.Proofs.Ytghjamkcedgnfaa
namespace Go.Proofs.Ytghjamkcedgnfaa
open Go.RowKit Go.Maps Go.Shelf
set_option linter.unusedVariables false
set_option linter.unusedSimpArgs false

theorem sw_back (l : List Int) (m0 x : Int) (hm : memB l = true) (h0 : m0 ∈ l) (hx : x ∉ l) (hxn : 0 ≤ x ∧ x < 7) : swD (swD l m0 x) x m0 = l := by
  obtain ⟨hr, hn, -⟩ := mem_rise hm
  have hl2 : ∀ z ∈ swD l m0 x, 0 ≤ z ∧ z < 7 := fun z hz => by
    rcases (mem_swD l m0 x z hxn hn).1 hz with h | rfl
    · exact hn z h.1
    · exact hxn
  refine rise_eq _ _ (swD_rise _ _ _) hr fun y => ?_
  rw [mem_swD _ x m0 y (hn m0 h0) hl2, mem_swD l m0 x y hxn hn]
  constructor
  · rintro (⟨(h | h), h2⟩ | rfl)
    · exact h.1
    · exact absurd h h2
    · exact h0
  · intro h
    by_cases e : y = m0
    · exact .inr e
    · exact .inl ⟨.inl ⟨h, e⟩, fun e2 => hx (by rw [← e2]; exact h)⟩
theorem sw_yes (l : List Int) (m0 x : Int) (h0 : m0 ∈ l) (hx : x ∉ l) (hxn : 0 ≤ x ∧ x < 7) : swB l m0 x = true := by
  simp [swB, nodeB, h0, hx, hxn.1, hxn.2]
theorem sw_yes2 (l : List Int) (m0 x : Int) (hm : memB l = true) (h0 : m0 ∈ l) (hx : x ∉ l) (hxn : 0 ≤ x ∧ x < 7) : swB (swD l m0 x) x m0 = true := by
  obtain ⟨hr, hn, -⟩ := mem_rise hm
  have h1 : x ∈ swD l m0 x := (mem_swD l m0 x x hxn hn).2 (.inr rfl)
  have h2 : m0 ∉ swD l m0 x := fun h => by
    rcases (mem_swD l m0 x m0 hxn hn).1 h with h | h
    · exact h.2 rfl
    · exact hx (by rw [← h]; exact h0)
  exact sw_yes _ _ _ h1 h2 (hn m0 h0)
def calmN (N : AtN) : AtN := { N with op := [] }
theorem st_settle (N : AtN) (Z : List ShD) (h : N.op ≠ []) : StepR N Z ⟨5, 0, 0, 0, 0, 0⟩ 0 (calmN N) Z := .settle rfl rfl rfl h
theorem st_calm (N : AtN) (Z : List ShD) (h : N.op = []) : StepR N Z ⟨5, 0, 0, 0, 0, 0⟩ 8 N Z := .calm rfl rfl rfl h
theorem st_any (N : AtN) (Z : List ShD) : ∃ r, StepR N Z ⟨5, 0, 0, 0, 0, 0⟩ r (calmN N) Z := by
  by_cases h : N.op = []
  · have e : calmN N = N := by
      obtain ⟨a, b, c, d⟩ := N
      have h' : d = [] := h
      subst h'; rfl
    rw [e]
    exact ⟨8, st_calm N Z h⟩
  · exact ⟨0, st_settle N Z h⟩
theorem st_split (N : AtN) (P Q : List ShD) (S : ShD) (k : Int) (ho : N.op = []) (hk : S.fr < k ∧ k < S.to) : StepR N (P ++ S :: Q) ⟨1, S.id, 0, k, 0, 0⟩ 0 (afD N [(S.fr, k), (k, S.to)]) (P ++ [⟨N.nx, S.fr, k, S.mem, [S.or]⟩, ⟨N.nx + 1, k, S.to, S.mem, [S.or]⟩] ++ Q) :=
  StepR.one (c := ⟨1, S.id, 0, k, 0, 0⟩) rfl rfl (show (1 : Int) ≠ 5 by decide) (show (1 : Int) ≠ 2 by decide) ho P Q S rfl rfl (by unfold fit1; rw [if_pos rfl]; simp [hk.1, hk.2])
theorem st_merge (N : AtN) (P Q : List ShD) (A B : ShD) (ho : N.op = []) : StepR N (P ++ [A, B] ++ Q) ⟨2, A.id, B.id, 0, 0, 0⟩ 0 (afD N [(A.fr, B.to)]) (P ++ [⟨N.nx, A.fr, B.to, A.mem, [A.or, B.or]⟩] ++ Q) :=
  StepR.two (c := ⟨2, A.id, B.id, 0, 0, 0⟩) rfl rfl rfl ho P Q A B (by simp) rfl rfl
theorem st_rep (N : AtN) (P Q : List ShD) (A : ShD) (out in' : Int) (ho : N.op = []) (hs : swB A.mem out in' = true) : StepR N (P ++ [A] ++ Q) ⟨3, A.id, 0, 0, out, in'⟩ 0 (afD N [(A.fr, A.to)]) (P ++ [⟨N.nx, A.fr, A.to, swD A.mem out in', [A.or]⟩] ++ Q) :=
  StepR.one (c := ⟨3, A.id, 0, 0, out, in'⟩) rfl rfl (show (3 : Int) ≠ 5 by decide) (show (3 : Int) ≠ 2 by decide) ho P Q A (by simp) rfl (by unfold fit1; rw [if_neg (show ¬ (3 : Int) = 1 by decide), if_pos rfl]; exact hs)
/-- What Get finds. -/
theorem get_mid {B : Nat} {N : AtN} {X : List SX} {P Q : List ShD} {S : ShD} {w w' : World} {e : Ending} (g : Gd B N (X.map (·.s))) (h : X.map (·.s) = P ++ [S] ++ Q) (hg : GtP X S.id w e w') : GtS S true w e w' := by
  have hS : S ∈ X.map (·.s) := by rw [h]; simp
  obtain ⟨x, hx, rfl⟩ := List.mem_map.1 hS
  rcases hg with ⟨y, hy, hi, hgt⟩ | ⟨hn, -⟩
  · obtain rfl := one_of (ne_map g.ne) x hx y hy hi
    exact hgt
  · exact absurd rfl (hn x hx)
end Go.Proofs.Ytghjamkcedgnfaa
namespace Go.Proofs.Ytghjamkcedgnfaa
open Go.RowKit Go.Maps Go.Shelf
set_option linter.unusedVariables false
set_option linter.unusedSimpArgs false

theorem chj5 : ChJ ⟨5, 0, 0, 0, 0, 0⟩ := by
  intro x hx
  simp [numC] at hx
  rcases hx with rfl | rfl <;> constructor <;> omega
theorem three_no (l : List Int) (h : l.length = 3) : ¬ ∀ y : Nat, y < 7 → (y : Int) ∈ l := by
  match l, h with
  | [a, b, c], _ =>
    intro hh
    have h0 := hh 0 (by omega)
    have h1 := hh 1 (by omega)
    have h2 := hh 2 (by omega)
    have h3 := hh 3 (by omega)
    simp only [List.mem_cons, List.not_mem_nil, or_false] at h0 h1 h2 h3
    omega
set_option maxRecDepth 100000 in
set_option maxHeartbeats 8000000 in
theorem atlasUndone_any (bl : Int) (L : List (ChD × Bool)) (v : Value) (p0 p1 : Nat) (w : World) (hv : Stps w v L) (hj : ∀ x ∈ L, ChJ x.1) (hp0 : p0 < 18446744073709551616) (hp1 : p1 < 18446744073709551616) :
    Calls Try.prog 4 #[.int .i64 bl, v, .agg #[.int .u64 p0, .int .u64 p1]] w fun e w' => e = .returned (.bool true) ∧ Below w.heap.size w w' := by
  obtain ⟨va, vc, rfl⟩ := hv.shape
  obtain ⟨w1, hw1⟩ : ∃ w1, w1 = w.alloc (.cells #[.int .u64 p0, .int .u64 p1] 57) := ⟨_, rfl⟩
  have HB1 : Hid (Below w.heap.size w w1) := hid (by rw [hw1]; exact (Below.refl _ _).alloc (Nat.le_refl _) _)
  have HQ1 : Hid (w1.heap[w.heap.size]? = some (.cells #[.int .u64 p0, .int .u64 p1] 57 (0, 0))) := hid (by rw [hw1]; exact heap_alloc_new _ _)
  have HW1 := hid hw1
  have HPL := hid (play_any bl L _ w1 (hv.below HB1.out) hj)
  have HP0 := hid hp0
  have HP1 := hid hp1
  clear hv hj hw1 hp0 hp1
  go_enter Try.func4, Try.ntmps4
  go_upto_region 1 with fail
  rw [← HW1.out]
  clear HW1
  obtain ⟨Q5, hQ5⟩ : ∃ Q5, Q5 = w.heap.size := ⟨_, rfl⟩
  rw [← hQ5] at HQ1
  rw [← hQ5]
  have HQE : Hid (w.heap.size ≤ Q5) := hid (by omega)
  clear hQ5
  go_upto_region 4 with (go_at_call 5; refine HPL.out.mono ?_; rintro e w2 ⟨b, wb, mb, n0, ov0, D0, N, X0, xb, rv, sv, Y, rfl, ha, hr, hy, hg, hn, hb, hra, -, h3⟩; have A0 := hid ha; have G0 := hid hg; have HN0 := hid hn; have B2 := hid (HB1.out.trans (hb.mono HB1.out.size)); have HRA : Hid (∀ q, AtR b wb mb q → w.heap.size ≤ q) := hid (fun q hq => Nat.le_trans HB1.out.size (hra q hq)); have HT3 := hid h3; have HQ2 := hid ((hb.block Q5 (lt_of_block HQ1.out)).trans HQ1.out); clear ha hr hy hg hn hb hra h3)
  clear HQ1 HPL
  obtain ⟨Z0, hZ0⟩ : ∃ Z0, Z0 = X0.map (·.s) := ⟨_, rfl⟩
  have HX0 : Hid (X0.map (·.s) = Z0) := hid hZ0.symm
  rw [← hZ0] at HT3
  clear hZ0
  have HNQ : Hid (¬ AtR b wb mb Q5) := hid (A0.out.m.nob HQ2.out (by decide) (by decide))
  have T0 : Hid (Tr (AtR b wb mb) w2 w2) := hid (Tr.refl _ _)
  obtain ⟨r0, hr0⟩ := st_any N Z0
  have HS1 := hid hr0
  clear hr0
  have HPA := hid (aapply_any b wb mb n0 100 ov0 D0 N (calmN N) X0 Z0 ⟨5, 0, 0, 0, 0, 0⟩ r0 w2 A0.out G0.out (by rw [HX0.out]; exact HS1.out) chj5 (by omega) (by have := HN0.out; omega))
  unfold chV at HPA
  go_upto_region 5 with (go_at_call 8; refine HPA.out.mono ?_; rintro e w3 ⟨n1, ov1, D1, X1, rfl, ha, hx, hnn, ht⟩; have A1 := hid ha; have HX1 := hid hx; have HN1 : Hid (n1 ≤ 102) := hid (by have := HN0.out; omega); have T1 := hid ht; clear ha hx hnn ht)
  have G1 : Hid (Gd 102 (calmN N) (X1.map (·.s))) := hid (by rw [HX1.out]; exact gd_step (by have := G0.out; rw [HX0.out] at this; exact this) HS1.out)
  clear HPA HS1 A0 HX0 HN0 T0 G0
  have AI1 := hid (ain_of G1.out (by omega))
  have HQ3 := hid ((T1.out.block Q5 (lt_of_block HQ2.out) HNQ.out).trans HQ2.out)
  have B3 : Hid (Below w.heap.size w w3) := hid (B2.out.trans (T1.out.to HRA.out B2.out.size))
  clear HQ2 T1 B2
  go_upto_region 6 with (go_at_call 14; refine (shards_any b wb mb n1 ov1 D1 (calmN N) X1 _ A1.out AI1.out.shb AI1.out.i64 AI1.out.one AI1.out.len).mono ?_; rintro e w4 ⟨Yr, ra, rc, rfl, hy4, ho4, hm4, hb4⟩; have O4 := hid ho4; have HY4 := hid hy4; have M4 := hid hm4; have A2 := hid (A1.out.below hb4); have B4 := hid (B3.out.trans (hb4.mono B3.out.size)); have HQ4 := hid ((hb4.block Q5 (lt_of_block HQ3.out)).trans HQ3.out); clear hy4 ho4 hm4 hb4)
  clear HQ3 A1 B3
  have HYL : Hid (Yr.length = (X1.map (·.s)).length) := hid (by have := congrArg List.length HY4.out; simpa using this)
  have HY0 : Hid (0 < Yr.length) := hid (by
    rw [HYL.out]
    cases hX : X1.map (·.s) with
    | nil =>
      have h0 : ChnD 0 (X1.map (·.s)) N.bl := G1.out.ch
      rw [hX] at h0
      have h1 : (0 : Int) = N.bl := h0
      have h2 : 1 ≤ N.bl ∧ N.bl ≤ 256 := G1.out.bl
      omega
    | cons y l => simp)
  have hyn : ¬ Yr = [] := fun e => by have := HY0.out; rw [e] at this; simp at this
  have hyb : (Yr.length : Int) ≤ 102 := by have := G1.out.len; have := HYL.out; omega
  have hwl : IntKind.u64.wrap (Yr.length : Int) = (Yr.length : Int) := IntWalk.u64_in _ ⟨by omega, by omega⟩
  obtain ⟨i, hi⟩ : ∃ i, i = p0 % Yr.length := ⟨_, rfl⟩
  have HIL : Hid (i < Yr.length) := hid (by rw [hi]; exact Nat.mod_lt _ HY0.out)
  have hmod : (p0 : Int).tmod (Yr.length : Int) = (i : Int) := by rw [hi]; rfl
  have hwi : IntKind.i64.wrap (i : Int) = (i : Int) := IntWalk.i64_in _ ⟨by omega, by have := HIL.out; omega⟩
  have hil : (i : Int) < (Yr.length : Int) := by have := HIL.out; omega
  obtain ⟨g, rfl⟩ : ∃ g, ra = some ⟨g, 0, none⟩ := own_some O4.out HY0.out
  have hRG : w4.rangeAt g (i * 5) (Yr[i]'HIL.out).c := own_range O4.out (i * 5) _ fun k v hv => shvs_part Yr i HIL.out k v hv
  have HSM := hid (M4.out (Yr[i]'HIL.out) (List.getElem_mem _))
  obtain ⟨⟨sma, smc, hmv⟩, ⟨spa, spc, hpv⟩⟩ := HSM.out.shape
  have HSE : Hid ((X1.map (·.s))[i]? = some (Yr[i]'HIL.out).s) := hid (by rw [← HY4.out, List.getElem?_map, List.getElem?_eq_getElem HIL.out]; rfl)
  unfold SX.c at hRG
  rw [hmv, hpv] at hRG
  have HSN : Hid (w4.ownsRow 0 3 1 (.slice sma (Yr[i]'HIL.out).s.mem.length smc) (Yr[i]'HIL.out).s.mem.length (nvs (Yr[i]'HIL.out).s.mem)) := hid (by have := HSM.out.m; rw [hmv] at this; exact this)
  clear hi hmv hpv HSM
  generalize (Yr[i]'HIL.out).s = S at *
  have h0 : w4.cell? ⟨Q5, 0, none⟩ = some (.int .u64 p0) := (cell_of_row _ _ _ _ _ _ HQ4.out).trans rfl
  obtain ⟨w5, hw5⟩ : ∃ w5, w5 = w4.alloc (.cells #[.int .i64 S.id, .int .i64 S.fr, .int .i64 S.to, .slice sma S.mem.length smc, .slice spa S.past.length spc] 46) := ⟨_, rfl⟩
  have HB5 : Hid (Below w4.heap.size w4 w5) := hid (by rw [hw5]; exact (Below.refl _ _).alloc (Nat.le_refl _) _)
  have HS5 : Hid (w5.heap[w4.heap.size]? = some (.cells #[.int .i64 S.id, .int .i64 S.fr, .int .i64 S.to, .slice sma S.mem.length smc, .slice spa S.past.length spc] 46 (0, 0))) := hid (by rw [hw5]; exact heap_alloc_new _ _)
  have HW5 := hid hw5
  clear hw5
  go_upto_region 9 with (refine wpl_loadM rfl _ rfl g (i * 5) (by go_simp) _ _ _ _ _ hRG ?_)
  rw [← HW5.out]
  clear HW5 hRG h0
  obtain ⟨S11, hS11⟩ : ∃ S11, S11 = w4.heap.size := ⟨_, rfl⟩
  rw [← hS11] at HS5
  rw [← hS11]
  clear hS11
  have A5 := hid (A2.out.below HB5.out)
  have B5 := hid (B4.out.trans (HB5.out.mono B4.out.size))
  have HQ5 := hid ((HB5.out.block Q5 (lt_of_block HQ4.out)).trans HQ4.out)
  have HM5 := hid (own_below HSN.out HB5.out)
  clear A2 B4 HQ4 HSN O4 M4 HB5
  have HSG : Hid (0 ≤ S.fr ∧ S.fr < S.to ∧ S.to ≤ 256 ∧ 1 ≤ S.id ∧ S.id < N.nx ∧ memB S.mem = true ∧ S.mem.length = 3) := hid (by
    have hS : S ∈ X1.map (·.s) := List.mem_of_getElem? HSE.out
    have h1 := ChnD.mem _ _ _ G1.out.ch S hS
    have h2 := G1.out.bl
    have h3 : 1 ≤ S.id ∧ S.id < N.nx := G1.out.id S hS
    have h4 : (calmN N).bl = N.bl := rfl
    exact ⟨h1.1, h1.2.1, by omega, h3.1, h3.2, G1.out.mb S hS, HT3.out S (by rw [← HX1.out]; exact hS)⟩)
  have s1 : w5.cell? ⟨S11, 1, none⟩ = some (.int .i64 S.fr) := (cell_of_row _ _ _ _ _ _ HS5.out).trans rfl
  have s2 : w5.cell? ⟨S11, 2, none⟩ = some (.int .i64 S.to) := (cell_of_row _ _ _ _ _ _ HS5.out).trans rfl
  have hs1 : IntKind.i64.wrap (S.to - S.fr) = S.to - S.fr := IntWalk.i64_in _ ⟨by have := HSG.out; omega, by have := HSG.out; omega⟩
  by_cases hsz : S.to - S.fr < 2
  · go_wp2_with (go_at_call 10; refine (lives_any _).mono ?_; rintro e w9 ⟨rfl, hb9⟩; have B9 := hid (B5.out.trans (hb9.mono B5.out.size)); clear hb9)
    go_ret
    exact ⟨rfl, B9.out⟩
  go_upto_region 11 with fail
  have q1 : w5.cell? ⟨Q5, 1, none⟩ = some (.int .u64 p1) := (cell_of_row _ _ _ _ _ _ HQ5.out).trans rfl
  have hs2 : IntKind.i64.wrap (S.to - S.fr - 1) = S.to - S.fr - 1 := IntWalk.i64_in _ ⟨by have := HSG.out; omega, by have := HSG.out; omega⟩
  have hs3 : IntKind.i64.wrap (S.fr + 1) = S.fr + 1 := IntWalk.i64_in _ ⟨by have := HSG.out; omega, by have := HSG.out; omega⟩
  have hu2 : IntKind.u64.wrap (S.to - S.fr - 1) = S.to - S.fr - 1 := IntWalk.u64_in _ ⟨by omega, by have := HSG.out; omega⟩
  have hm0 : ¬ S.to - S.fr - 1 = 0 := by omega
  obtain ⟨j, hj⟩ : ∃ j : Int, (p1 : Int).tmod (S.to - S.fr - 1) = j := ⟨_, rfl⟩
  have HJB : Hid (0 ≤ j ∧ j < S.to - S.fr - 1) := hid (by
    rw [← hj, Int.tmod_eq_emod_of_nonneg (by omega)]
    exact ⟨Int.emod_nonneg _ (by omega), Int.emod_lt_of_pos _ (by omega)⟩)
  have hwj : IntKind.i64.wrap j = j := IntWalk.i64_in _ ⟨by have := HJB.out; omega, by have := HJB.out; have := HSG.out; omega⟩
  have hwk : IntKind.i64.wrap (S.fr + 1 + j) = S.fr + 1 + j := IntWalk.i64_in _ ⟨by have := HJB.out; have := HSG.out; omega, by have := HJB.out; have := HSG.out; omega⟩
  refine wp_region_held_drew (S := fun W => W.cell? ⟨S11, 1, none⟩ = some (.int .i64 S.fr) ∧ W.cell? ⟨S11, 2, none⟩ = some (.int .i64 S.to) ∧ W.cell? ⟨Q5, 1, none⟩ = some (.int .u64 p1)) (by kernel_rfl) ⟨s1, s2, q1⟩ (fun hHeld => ?_)
  refine wpAnyH_take (i := 0) (v := ?av0) rfl (by kernel_rfl) (by kernel_rfl) (by kernel_rfl) (fun _ _ _ h => h) (Or.inl ⟨by rfl, ?ay0⟩) (by assumption) ?ar0
  case ay0 => (intro w hSw; (try dsimp only at hSw); go_simp; try with_reducible rfl)
  (try simp only [Act.put, List.setIfInBounds_toArray, List.set_cons_zero, List.set_cons_succ, List.getElem_toArray, List.getElem_cons_succ, List.getElem_cons_zero])
  refine wpAnyH_take (i := 1) (v := ?av1) rfl (by kernel_rfl) (by kernel_rfl) (by kernel_rfl) (fun _ _ _ h => h) (Or.inl ⟨by rfl, ?ay1⟩) (by assumption) ?ar1
  case ay1 => (intro w hSw; (try dsimp only at hSw); go_simp; try with_reducible rfl)
  (try simp only [Act.put, List.setIfInBounds_toArray, List.set_cons_zero, List.set_cons_succ, List.getElem_toArray, List.getElem_cons_succ, List.getElem_cons_zero])
  refine wpAnyH_take (i := 2) (v := ?av2) rfl (by kernel_rfl) (by kernel_rfl) (by kernel_rfl) (fun _ _ _ h => h) (Or.inl ⟨by rfl, ?ay2⟩) (by assumption) ?ar2
  case ay2 => (intro w hSw; (try dsimp only at hSw); go_simp; try with_reducible rfl)
  (try simp only [Act.put, List.setIfInBounds_toArray, List.set_cons_zero, List.set_cons_succ, List.getElem_toArray, List.getElem_cons_succ, List.getElem_cons_zero])
  refine wpAnyH_take (i := 3) (v := ?av3) rfl (by kernel_rfl) (by kernel_rfl) (by kernel_rfl) (fun _ _ _ h => h) (Or.inl ⟨by rfl, ?ay3⟩) (by assumption) ?ar3
  case ay3 => (intro w hSw; (try dsimp only at hSw); go_simp; try with_reducible rfl)
  (try simp only [Act.put, List.setIfInBounds_toArray, List.set_cons_zero, List.set_cons_succ, List.getElem_toArray, List.getElem_cons_succ, List.getElem_cons_zero])
  refine wpAnyH_take (i := 4) (v := ?av4) rfl (by kernel_rfl) (by kernel_rfl) (by kernel_rfl) (fun _ _ _ h => h) (Or.inl ⟨by rfl, ?ay4⟩) (by assumption) ?ar4
  case ay4 => (intro w hSw; (try dsimp only at hSw); go_simp; try with_reducible rfl)
  (try simp only [Act.put, List.setIfInBounds_toArray, List.set_cons_zero, List.set_cons_succ, List.getElem_toArray, List.getElem_cons_succ, List.getElem_cons_zero])
  refine wpAnyH_take (i := 5) (v := ?av5) rfl (by kernel_rfl) (by kernel_rfl) (by kernel_rfl) (fun _ _ _ h => h) (Or.inl ⟨by rfl, ?ay5⟩) (by assumption) ?ar5
  case ay5 => (intro w hSw; (try dsimp only at hSw); go_simp; try with_reducible rfl)
  (try simp only [Act.put, List.setIfInBounds_toArray, List.set_cons_zero, List.set_cons_succ, List.getElem_toArray, List.getElem_cons_succ, List.getElem_cons_zero])
  refine wpAnyH_take (i := 6) (v := ?av6) rfl (by kernel_rfl) (by kernel_rfl) (by kernel_rfl) (fun _ _ _ h => h) (Or.inl ⟨by rfl, ?ay6⟩) (by assumption) ?ar6
  case ay6 => (intro w hSw; (try dsimp only at hSw); go_simp; try with_reducible rfl)
  (try simp only [Act.put, List.setIfInBounds_toArray, List.set_cons_zero, List.set_cons_succ, List.getElem_toArray, List.getElem_cons_succ, List.getElem_cons_zero])
  refine wpAnyH_take (i := 7) (v := ?av7) rfl (by kernel_rfl) (by kernel_rfl) (by kernel_rfl) (fun _ _ _ h => h) (Or.inl ⟨by rfl, ?ay7⟩) (by assumption) ?ar7
  case ay7 => (intro w hSw; (try dsimp only at hSw); go_simp; try with_reducible rfl)
  (try simp only [Act.put, List.setIfInBounds_toArray, List.set_cons_zero, List.set_cons_succ, List.getElem_toArray, List.getElem_cons_succ, List.getElem_cons_zero])
  refine wpAnyH_take (i := 8) (v := ?av8) rfl (by kernel_rfl) (by kernel_rfl) (by kernel_rfl) (fun _ _ _ h => h) (Or.inl ⟨by rfl, ?ay8⟩) (by assumption) ?ar8
  case ay8 => (intro w hSw; (try dsimp only at hSw); go_simp; try with_reducible rfl)
  (try simp only [Act.put, List.setIfInBounds_toArray, List.set_cons_zero, List.set_cons_succ, List.getElem_toArray, List.getElem_cons_succ, List.getElem_cons_zero])
  refine wpAnyH_take (i := 9) (v := ?av9) rfl (by kernel_rfl) (by kernel_rfl) (by kernel_rfl) (fun _ _ _ h => h) (Or.inl ⟨by rfl, ?ay9⟩) (by assumption) ?ar9
  case ay9 => (intro w hSw; (try dsimp only at hSw); go_simp; try with_reducible rfl)
  (try simp only [Act.put, List.setIfInBounds_toArray, List.set_cons_zero, List.set_cons_succ, List.getElem_toArray, List.getElem_cons_succ, List.getElem_cons_zero])
  refine wpAnyH_take (i := 10) (v := ?av10) rfl (by kernel_rfl) (by kernel_rfl) (by kernel_rfl) (fun _ _ _ h => h) (Or.inl ⟨by rfl, ?ay10⟩) (by assumption) ?ar10
  case ay10 => (intro w hSw; (try dsimp only at hSw); go_simp; try with_reducible rfl)
  (try simp only [Act.put, List.setIfInBounds_toArray, List.set_cons_zero, List.set_cons_succ, List.getElem_toArray, List.getElem_cons_succ, List.getElem_cons_zero])
  refine wpAnyH_take (i := 11) (v := ?av11) rfl (by kernel_rfl) (by kernel_rfl) (by kernel_rfl) (fun _ _ _ h => h) (Or.inl ⟨by rfl, ?ay11⟩) (by assumption) ?ar11
  case ay11 => (intro w hSw; (try dsimp only at hSw); go_simp; try with_reducible rfl)
  (try simp only [Act.put, List.setIfInBounds_toArray, List.set_cons_zero, List.set_cons_succ, List.getElem_toArray, List.getElem_cons_succ, List.getElem_cons_zero])
  refine wpAnyH_take (i := 12) (v := ?av12) rfl (by kernel_rfl) (by kernel_rfl) (by kernel_rfl) (fun _ _ _ h => h) (Or.inl ⟨by rfl, ?ay12⟩) (by assumption) ?ar12
  case ay12 => (intro w hSw; (try dsimp only at hSw); go_simp; try with_reducible rfl)
  (try simp only [Act.put, List.setIfInBounds_toArray, List.set_cons_zero, List.set_cons_succ, List.getElem_toArray, List.getElem_cons_succ, List.getElem_cons_zero])
  refine wpAnyH_take (i := 13) (v := ?av13) rfl (by kernel_rfl) (by kernel_rfl) (by kernel_rfl) (fun _ _ _ h => h) (Or.inl ⟨by rfl, ?ay13⟩) (by assumption) ?ar13
  case ay13 => (intro w hSw; (try dsimp only at hSw); go_simp; try with_reducible rfl)
  (try simp only [Act.put, List.setIfInBounds_toArray, List.set_cons_zero, List.set_cons_succ, List.getElem_toArray, List.getElem_cons_succ, List.getElem_cons_zero])
  refine wpAnyH_take (i := 14) (v := ?av14) rfl (by kernel_rfl) (by kernel_rfl) (by kernel_rfl) (fun _ _ _ h => h) (Or.inl ⟨by rfl, ?ay14⟩) (by assumption) ?ar14
  case ay14 => (intro w hSw; (try dsimp only at hSw); go_simp; try with_reducible rfl)
  (try simp only [Act.put, List.setIfInBounds_toArray, List.set_cons_zero, List.set_cons_succ, List.getElem_toArray, List.getElem_cons_succ, List.getElem_cons_zero])
  refine wpAnyH_take (i := 15) (v := ?av15) rfl (by kernel_rfl) (by kernel_rfl) (by kernel_rfl) (fun _ _ _ h => h) (Or.inl ⟨by rfl, ?ay15⟩) (by assumption) ?ar15
  case ay15 => (intro w hSw; (try dsimp only at hSw); go_simp; try with_reducible rfl)
  (try simp only [Act.put, List.setIfInBounds_toArray, List.set_cons_zero, List.set_cons_succ, List.getElem_toArray, List.getElem_cons_succ, List.getElem_cons_zero])
  refine wpAnyH_take (i := 16) (v := ?av16) rfl (by kernel_rfl) (by kernel_rfl) (by kernel_rfl) (fun _ _ _ h => h) (Or.inl ⟨by rfl, ?ay16⟩) (by assumption) ?ar16
  case ay16 => (intro w hSw; (try dsimp only at hSw); go_simp; try with_reducible rfl)
  (try simp only [Act.put, List.setIfInBounds_toArray, List.set_cons_zero, List.set_cons_succ, List.getElem_toArray, List.getElem_cons_succ, List.getElem_cons_zero])
  refine wpAnyH_take (i := 17) (v := ?av17) rfl (by kernel_rfl) (by kernel_rfl) (by kernel_rfl) (fun _ _ _ h => h) (Or.inl ⟨by rfl, ?ay17⟩) (by assumption) ?ar17
  case ay17 => (intro w hSw; (try dsimp only at hSw); go_simp; try with_reducible rfl)
  (try simp only [Act.put, List.setIfInBounds_toArray, List.set_cons_zero, List.set_cons_succ, List.getElem_toArray, List.getElem_cons_succ, List.getElem_cons_zero])
  refine wpAnyH_take (i := 18) (v := ?av18) rfl (by kernel_rfl) (by kernel_rfl) (by kernel_rfl) (fun _ _ _ h => h) (Or.inl ⟨by rfl, ?ay18⟩) (by assumption) ?ar18
  case ay18 => (intro w hSw; (try dsimp only at hSw); go_simp; try with_reducible rfl)
  (try simp only [Act.put, List.setIfInBounds_toArray, List.set_cons_zero, List.set_cons_succ, List.getElem_toArray, List.getElem_cons_succ, List.getElem_cons_zero])
  refine wpAnyH_done (by kernel_rfl) ?_ _
  obtain ⟨k, hk⟩ : ∃ k, k = S.fr + 1 + j := ⟨_, rfl⟩
  have HK : Hid (S.fr < k ∧ k < S.to) := hid (by have := HJB.out; omega)
  rw [← hk]
  clear hHeld hs1 hs2 hs3 hu2 hm0 hj hwj hwk hk s1 s2 q1 hyn hyb hwl hmod hwi hil
  have A6 := hid (A5.out.below ((Below.refl w5.heap.size w5).drew))
  have B6 := hid (B5.out.drew)
  have HSX6 : Hid (w5.drew.heap[S11]? = _) := hid HS5.out
  have HM6 := hid (own_below HM5.out ((Below.refl w5.heap.size w5).drew))
  clear A5 B5 HS5 HM5 HQ5
  generalize w5.drew = w6 at *
  have HNS : Hid (¬ AtR b wb mb S11) := hid (A6.out.m.nob HSX6.out (by decide) (by decide))
  obtain ⟨P, hP⟩ : ∃ P, P = (X1.map (·.s)).take i := ⟨_, rfl⟩
  obtain ⟨Q, hQ⟩ : ∃ Q, Q = (X1.map (·.s)).drop (i + 1) := ⟨_, rfl⟩
  have HZ1 : Hid (X1.map (·.s) = P ++ S :: Q) := hid (by
    have h1 : i < (X1.map (·.s)).length := (List.getElem?_eq_some_iff.1 HSE.out).1
    have h2 := (List.getElem?_eq_some_iff.1 HSE.out).2
    rw [hP, hQ, ← h2, ← List.drop_eq_getElem_cons h1, List.take_append_drop])
  clear hP hQ
  have HNXB : Hid (1 ≤ N.nx ∧ N.nx ≤ 102) := hid (by have h : 2 ≤ N.nx ∧ N.nx ≤ ((102 : Nat) : Int) := G1.out.nx; omega)
  have HNX := hid fun (W : World) (hW : At W b wb mb n1 ov1 D1 (calmN N) X1) => (show Calls Try.prog 13 #[.pointer (some ⟨b, 0, none⟩)] W fun e w' => e = .returned (.int .i64 N.nx) ∧ w' = W from anext_any b wb mb n1 ov1 D1 (calmN N) _ X1 W hW.m)
  go_upto_region 13 with (go_at_call 13; refine (HNX.out _ A6.out).mono ?_; rintro e wx ⟨rfl, hx⟩; replace hx := hx.symm; subst hx)
  have s0 : w6.cell? ⟨S11, 0, none⟩ = some (.int .i64 S.id) := (cell_of_row _ _ _ _ _ _ HSX6.out).trans rfl
  have T1 : Hid (Tr (AtR b wb mb) w6 w6) := hid (Tr.refl _ _)
  obtain ⟨Z2, hZ2⟩ : ∃ Z2, Z2 = P ++ [⟨N.nx, S.fr, k, S.mem, [S.or]⟩, ⟨N.nx + 1, k, S.to, S.mem, [S.or]⟩] ++ Q := ⟨_, rfl⟩
  have HZ2 := hid hZ2
  obtain ⟨N2, hN2⟩ : ∃ N2, N2 = afD (calmN N) [(S.fr, k), (k, S.to)] := ⟨_, rfl⟩
  have HN2x : Hid (N2.nx = N.nx + 2 ∧ N2.op ≠ []) := hid (by rw [hN2]; exact ⟨rfl, by simp [afD, opD]⟩)
  have HJ2 : Hid (ChJ ⟨1, S.id, 0, k, 0, 0⟩) := hid (by
    have h1 := HSG.out
    have h2 := HK.out
    have h3 := HNXB.out
    intro x hx
    simp only [numC, List.mem_cons, List.not_mem_nil, or_false] at hx
    rcases hx with rfl | rfl | rfl | rfl | rfl | rfl <;> constructor <;> omega)
  have HS2 : Hid (StepR (calmN N) (P ++ S :: Q) ⟨1, S.id, 0, k, 0, 0⟩ 0 N2 Z2) := hid (by rw [hZ2, hN2]; exact st_split (calmN N) P Q S k rfl HK.out)
  have HP2 := hid fun (W : World) (hW : At W b wb mb n1 ov1 D1 (calmN N) X1) => (show Calls Try.prog 8 #[.pointer (some ⟨b, 0, none⟩), chV ⟨1, S.id, 0, k, 0, 0⟩] W (ApP b wb mb n1 N2 Z2 0 W) from aapply_any b wb mb n1 102 ov1 D1 (calmN N) N2 X1 Z2 ⟨1, S.id, 0, k, 0, 0⟩ 0 W hW G1.out (by rw [HZ1.out]; exact HS2.out) HJ2.out (by omega) (by have := HN1.out; omega))
  unfold chV at HP2
  go_upto_region 14 with (go_at_call 8; refine (HP2.out _ A6.out).mono ?_; rintro e v2 ⟨n2, ov2, D2, X2, rfl, ha, hx, hnn, ht⟩; have A2 := hid ha; have HX2 := hid hx; have HN2 : Hid (n2 ≤ 104) := hid (by have := HN1.out; omega); have T2 := hid (T1.out.trans ht); clear ha hx hnn ht)
  have G2 : Hid (Gd 104 N2 (X2.map (·.s))) := hid (by rw [HX2.out]; exact gd_step (by have := G1.out; rw [HZ1.out] at this; exact this) HS2.out)
  clear HP2 HJ2
  have HMK := hid fun (W : World) (hW : Tr (AtR b wb mb) w6 W) => own_tr A6.out.m hW HM6.out (by decide) (by decide)
  clear s0 A6 hZ2 hN2 HNX
  have HJ3 : Hid (ChJ ⟨5, 0, 0, 0, 0, 0⟩) := hid (chj5)
  have HS3 : Hid (StepR N2 Z2 ⟨5, 0, 0, 0, 0, 0⟩ 0 (calmN N2) Z2) := hid (st_settle N2 Z2 HN2x.out.2)
  have HP3 := hid fun (W : World) (hW : At W b wb mb n2 ov2 D2 N2 X2) => (show Calls Try.prog 8 #[.pointer (some ⟨b, 0, none⟩), chV ⟨5, 0, 0, 0, 0, 0⟩] W (ApP b wb mb n2 (calmN N2) Z2 0 W) from aapply_any b wb mb n2 104 ov2 D2 N2 (calmN N2) X2 Z2 ⟨5, 0, 0, 0, 0, 0⟩ 0 W hW G2.out (by rw [HX2.out]; exact HS3.out) HJ3.out (by omega) (by have := HN2.out; omega))
  unfold chV at HP3
  go_upto_region 15 with (go_at_call 8; refine (HP3.out _ A2.out).mono ?_; rintro e v3 ⟨n3, ov3, D3, X3, rfl, ha, hx, hnn, ht⟩; have A3 := hid ha; have HX3 := hid hx; have HN3 : Hid (n3 ≤ 106) := hid (by have := HN2.out; omega); have T3 := hid (T2.out.trans ht); clear ha hx hnn ht)
  have G3 : Hid (Gd 106 (calmN N2) (X3.map (·.s))) := hid (by rw [HX3.out]; exact gd_step (by have := G2.out; rw [HX2.out] at this; exact this) HS3.out)
  clear HP3 HJ3
  clear A2
  have hw1 : IntKind.i64.wrap (N.nx + 1) = N.nx + 1 := IntWalk.i64_in _ ⟨by have := HNXB.out; omega, by have := HNXB.out; omega⟩
  obtain ⟨Z4, hZ4⟩ : ∃ Z4, Z4 = P ++ [⟨N.nx + 2, S.fr, S.to, S.mem, [⟨N.nx, S.fr, k, S.mem⟩, ⟨N.nx + 1, k, S.to, S.mem⟩]⟩] ++ Q := ⟨_, rfl⟩
  have HZ4 := hid hZ4
  obtain ⟨N4, hN4⟩ : ∃ N4, N4 = afD (calmN N2) [(S.fr, S.to)] := ⟨_, rfl⟩
  have HN4x : Hid (N4.nx = N.nx + 3 ∧ N4.op ≠ []) := hid (by rw [hN4]; exact ⟨by show N2.nx + 1 = N.nx + 3; have := HN2x.out.1; omega, by simp [afD, opD]⟩)
  have HJ4 : Hid (ChJ ⟨2, N.nx, N.nx + 1, 0, 0, 0⟩) := hid (by
    have h1 := HSG.out
    have h2 := HK.out
    have h3 := HNXB.out
    intro x hx
    simp only [numC, List.mem_cons, List.not_mem_nil, or_false] at hx
    rcases hx with rfl | rfl | rfl | rfl | rfl | rfl <;> constructor <;> omega)
  have HS4 : Hid (StepR (calmN N2) Z2 ⟨2, N.nx, N.nx + 1, 0, 0, 0⟩ 0 N4 Z4) := hid (by
    rw [hZ4, hN4, HZ2.out]
    have := st_merge (calmN N2) P Q ⟨N.nx, S.fr, k, S.mem, [S.or]⟩ ⟨N.nx + 1, k, S.to, S.mem, [S.or]⟩ rfl
    rw [show (calmN N2).nx = N.nx + 2 from HN2x.out.1] at this
    exact this)
  have HP4 := hid fun (W : World) (hW : At W b wb mb n3 ov3 D3 (calmN N2) X3) => (show Calls Try.prog 8 #[.pointer (some ⟨b, 0, none⟩), chV ⟨2, N.nx, N.nx + 1, 0, 0, 0⟩] W (ApP b wb mb n3 N4 Z4 0 W) from aapply_any b wb mb n3 106 ov3 D3 (calmN N2) N4 X3 Z4 ⟨2, N.nx, N.nx + 1, 0, 0, 0⟩ 0 W hW G3.out (by rw [HX3.out]; exact HS4.out) HJ4.out (by omega) (by have := HN3.out; omega))
  unfold chV at HP4
  go_upto_region 16 with (go_at_call 8; refine (HP4.out _ A3.out).mono ?_; rintro e v4 ⟨n4, ov4, D4, X4, rfl, ha, hx, hnn, ht⟩; have A4 := hid ha; have HX4 := hid hx; have HN4 : Hid (n4 ≤ 108) := hid (by have := HN3.out; omega); have T4 := hid (T3.out.trans ht); clear ha hx hnn ht)
  have G4 : Hid (Gd 108 N4 (X4.map (·.s))) := hid (by rw [HX4.out]; exact gd_step (by have := G3.out; rw [HX3.out] at this; exact this) HS4.out)
  clear HP4 HJ4
  clear A3 hZ4 hN4 hw1
  have HJ5 : Hid (ChJ ⟨5, 0, 0, 0, 0, 0⟩) := hid (chj5)
  have HS5 : Hid (StepR N4 Z4 ⟨5, 0, 0, 0, 0, 0⟩ 0 (calmN N4) Z4) := hid (st_settle N4 Z4 HN4x.out.2)
  have HP5 := hid fun (W : World) (hW : At W b wb mb n4 ov4 D4 N4 X4) => (show Calls Try.prog 8 #[.pointer (some ⟨b, 0, none⟩), chV ⟨5, 0, 0, 0, 0, 0⟩] W (ApP b wb mb n4 (calmN N4) Z4 0 W) from aapply_any b wb mb n4 108 ov4 D4 N4 (calmN N4) X4 Z4 ⟨5, 0, 0, 0, 0, 0⟩ 0 W hW G4.out (by rw [HX4.out]; exact HS5.out) HJ5.out (by omega) (by have := HN4.out; omega))
  unfold chV at HP5
  go_upto_region 17 with (go_at_call 8; refine (HP5.out _ A4.out).mono ?_; rintro e v5 ⟨n5, ov5, D5, X5, rfl, ha, hx, hnn, ht⟩; have A5 := hid ha; have HX5 := hid hx; have HN5 : Hid (n5 ≤ 110) := hid (by have := HN4.out; omega); have T5 := hid (T4.out.trans ht); clear ha hx hnn ht)
  have G5 : Hid (Gd 110 (calmN N4) (X5.map (·.s))) := hid (by rw [HX5.out]; exact gd_step (by have := G4.out; rw [HX4.out] at this; exact this) HS5.out)
  clear HP5 HJ5
  clear A4
  have hw2 : IntKind.i64.wrap (N.nx + 2) = N.nx + 2 := IntWalk.i64_in _ ⟨by have := HNXB.out; omega, by have := HNXB.out; omega⟩
  have AI5 := hid (ain_of G5.out (by omega))
  have HGT := hid fun (W : World) (hW : At W b wb mb n5 ov5 D5 (calmN N4) X5) => (aget_any b wb mb n5 ov5 D5 (calmN N4) _ X5 (N.nx + 2) W hW.m (by have := HNXB.out; constructor <;> omega) AI5.out.shb).mono (fun e w' hg => get_mid (S := ⟨N.nx + 2, S.fr, S.to, S.mem, [⟨N.nx, S.fr, k, S.mem⟩, ⟨N.nx + 1, k, S.to, S.mem⟩]⟩) G5.out (by rw [HX5.out, HZ4.out]) hg)
  go_upto_region 18 with (go_at_call 15; refine (HGT.out _ A5.out).mono ?_; rintro e w7 ⟨mv7, pv7, rfl, hm7, hb7⟩; obtain ⟨⟨ma, mc, rfl⟩, ⟨pa, pc, rfl⟩⟩ := hm7.shape; unfold shV; have HM7 := hid hm7.m; have HB7 := hid hb7; clear hm7 hb7)
  have T7 := hid (T5.out.bel HB7.out)
  have A7 := hid (A5.out.below HB7.out)
  have HS7 := hid ((T7.out.block S11 (lt_of_block HSX6.out) HNS.out).trans HSX6.out)
  obtain ⟨w8, hw8⟩ : ∃ w8, w8 = w7.alloc (.cells #[.int .i64 (N.nx + 2), .int .i64 S.fr, .int .i64 S.to, .slice ma S.mem.length mc, .slice pa 2 pc] 46) := ⟨_, rfl⟩
  have HB8 : Hid (Below w7.heap.size w7 w8) := hid (by rw [hw8]; exact (Below.refl _ _).alloc (Nat.le_refl _) _)
  have HU8 : Hid (w8.heap[w7.heap.size]? = some (.cells #[.int .i64 (N.nx + 2), .int .i64 S.fr, .int .i64 S.to, .slice ma S.mem.length mc, .slice pa 2 pc] 46 (0, 0))) := hid (by rw [hw8]; exact heap_alloc_new _ _)
  rw [← hw8]
  clear hw8
  have T8 := hid (T7.out.bel HB8.out)
  have A8 := hid (A7.out.below HB8.out)
  have HS8 := hid ((HB8.out.block S11 (lt_of_block HS7.out)).trans HS7.out)
  have HM8 := hid (own_below HM7.out HB8.out)
  have HN8 := hid (nums_own HM8.out rfl)
  have HNS8 := hid (nums_own (HMK.out _ T8.out) rfl)
  clear T7 A7 HS7 HM7 HB7 HB8 T5 A5 hw2
  generalize w7.heap.size = S18 at *
  have p1 : w8.cell? ⟨S18, 1, none⟩ = some (.int .i64 S.fr) := (cell_of_row _ _ _ _ _ _ HU8.out).trans rfl
  have p2 : w8.cell? ⟨S18, 2, none⟩ = some (.int .i64 S.to) := (cell_of_row _ _ _ _ _ _ HU8.out).trans rfl
  have p3 : w8.cell? ⟨S18, 3, none⟩ = some (.slice ma S.mem.length mc) := (cell_of_row _ _ _ _ _ _ HU8.out).trans rfl
  have s1 : w8.cell? ⟨S11, 1, none⟩ = some (.int .i64 S.fr) := (cell_of_row _ _ _ _ _ _ HS8.out).trans rfl
  have s2 : w8.cell? ⟨S11, 2, none⟩ = some (.int .i64 S.to) := (cell_of_row _ _ _ _ _ _ HS8.out).trans rfl
  have s3 : w8.cell? ⟨S11, 3, none⟩ = some (.slice sma S.mem.length smc) := (cell_of_row _ _ _ _ _ _ HS8.out).trans rfl
  have hsm : ((S.mem.length : Int) == 0) = false := by rw [HSG.out.2.2.2.2.2.2]; rfl
  have HSI := hid fun (W : World) (hW : Below w8.heap.size w8 W) => sameInts_eq S.mem (.slice ma S.mem.length mc) (.slice sma S.mem.length smc) W (HN8.out.below hW) (HNS8.out.below hW)
  go_upto_region 20 with (go_at_call 17; refine (HSI.out _ (Below.refl _ _)).mono ?_; rintro e w9 ⟨rfl, hb9⟩; have HB9 := hid hb9; have p39 := cell_later hb9 p3; clear hb9)
  clear p39
  have T9 := hid (T8.out.bel HB9.out)
  have A9 := hid (A8.out.below HB9.out)
  have HU9 := hid ((HB9.out.block S18 (lt_of_block HU8.out)).trans HU8.out)
  have HS9 := hid ((HB9.out.block S11 (lt_of_block HS8.out)).trans HS8.out)
  have HN9 := hid (HN8.out.below HB9.out)
  have HNU : Hid (¬ AtR b wb mb S18) := hid (A9.out.m.nob HU9.out (by decide) (by decide))
  have HM9 := hid (own_below HM8.out HB9.out)
  clear T8 A8 HS8 HN8 HNS8 HB9 HU8 p1 p2 p3 s1 s2 s3 HSI hsm HM8
  have p3 : w9.cell? ⟨S18, 3, none⟩ = some (.slice ma S.mem.length mc) := (cell_of_row _ _ _ _ _ _ HU9.out).trans rfl
  go_wp2_with fail
  go_loopw [20, 21, 22, 24, 150, 156] (fun cv _ _ _ nv _ wr => ∃ (n : Nat) (c : Int), nv = .int .i64 n ∧ cv = .int .i64 c ∧ n ≤ 7 ∧ ((∀ y : Nat, y < n → (y : Int) ∈ S.mem) ∨ (0 ≤ c ∧ c < n ∧ c ∉ S.mem)) ∧ wr = w9) (fun _ _ _ _ nv _ _ => 7 - (intOf nv).toNat)
  case atStart => exact ⟨0, 0, rfl, rfl, by omega, .inl (fun y hy => by omega), rfl⟩
  case round =>
    obtain ⟨n, c, rfl, rfl, hn7, hor, rfl⟩ := hrel
    have HOR := hid hor
    clear hor
    by_cases hlt : (n : Int) < 7
    · go_wp2_with fail
      go_loopw [22, 24, 156] (fun iv _ jv w2 => ∃ j : Nat, jv = .int .i64 j ∧ j ≤ S.mem.length ∧ iv = .bool (decide ((n : Int) ∈ S.mem.take j)) ∧ w2 = wr) (fun _ _ jv _ => S.mem.length - (intOf jv).toNat)
      case atStart => exact ⟨0, rfl, Nat.zero_le _, by simp, rfl⟩
      case round =>
        obtain ⟨j, rfl, hj, rfl, rfl⟩ := hrel
        have hmb : (S.mem.length : Int) ≤ 10 := by have := HSG.out.2.2.2.2.2.2; omega
        by_cases hjl : (j : Int) < (S.mem.length : Int)
        · have hjn : j < S.mem.length := by omega
          obtain ⟨gd, od, rfl⟩ := HN9.out.addr (by omega)
          have c0 := HN9.out.lit j hjn
          have HT : Hid (S.mem.take (j + 1) = S.mem.take j ++ [S.mem[j]]) := hid (by rw [List.take_add_one, List.getElem?_eq_getElem hjn]; rfl)
          generalize S.mem[j] = z at *
          obtain ⟨q, hq⟩ : ∃ q, q = decide ((n : Int) ∈ S.mem.take j) := ⟨_, rfl⟩
          have HQ := hid hq
          rw [← hq]
          clear hq
          by_cases hz : z = (n : Int)
          · have HD : Hid (decide ((n : Int) ∈ S.mem.take (j + 1)) = true) := hid (decide_eq_true (by rw [HT.out, hz]; simp))
            have hg : (z == (n : Int)) = true := by simpa using hz
            clear hz
            cases q with
            | true =>
              go_wp2_with fail
              go_roundw
              case rel => exact ⟨j + 1, by go_num, by omega, by rw [HD.out], by first | rfl | trivial⟩
              case measure => simp [intOf]; omega
            | false =>
              go_wp2_with fail
              go_roundw
              case rel => exact ⟨j + 1, by go_num, by omega, by rw [HD.out], by first | rfl | trivial⟩
              case measure => simp [intOf]; omega
          · have HD : Hid (decide ((n : Int) ∈ S.mem.take (j + 1)) = q) := hid (by
              rw [HQ.out, Bool.eq_iff_iff, decide_eq_true_eq, decide_eq_true_eq, HT.out, List.mem_append, List.mem_singleton]
              exact ⟨fun h => h.elim id fun e => absurd e.symm hz, .inl⟩)
            have hg : (z == (n : Int)) = false := by simpa using hz
            clear hz
            cases q with
            | true =>
              go_wp2_with fail
              go_roundw
              case rel => exact ⟨j + 1, by go_num, by omega, by rw [HD.out], by first | rfl | trivial⟩
              case measure => simp [intOf]; omega
            | false =>
              go_wp2_with fail
              go_roundw
              case rel => exact ⟨j + 1, by go_num, by omega, by rw [HD.out], by first | rfl | trivial⟩
              case measure => simp [intOf]; omega
        · obtain rfl : j = S.mem.length := by omega
          rw [List.take_length]
          by_cases hmn : (n : Int) ∈ S.mem
          · have HD : Hid (decide ((n : Int) ∈ S.mem) = true) := hid (decide_eq_true hmn)
            have HR : Hid ((∀ y : Nat, y < n + 1 → (y : Int) ∈ S.mem) ∨ (0 ≤ c ∧ c < ((n + 1 : Nat) : Int) ∧ c ∉ S.mem)) := hid (by
              rcases HOR.out with h | h
              · refine .inl fun y hy => ?_
                rcases Nat.lt_or_ge y n with h1 | h1
                · exact h y h1
                · have e : y = n := by omega
                  rw [e]; exact hmn
              · exact .inr ⟨h.1, by omega, h.2.2⟩)
            rw [HD.out]
            clear hmn
            go_wp2_with fail
            go_roundw
            case rel => exact ⟨n + 1, c, by go_num, rfl, by omega, HR.out, by first | rfl | trivial⟩
            case measure => simp [intOf]; omega
          · have HD : Hid (decide ((n : Int) ∈ S.mem) = false) := hid (decide_eq_false hmn)
            have HR : Hid ((∀ y : Nat, y < n + 1 → (y : Int) ∈ S.mem) ∨ (0 ≤ (n : Int) ∧ (n : Int) < ((n + 1 : Nat) : Int) ∧ (n : Int) ∉ S.mem)) := hid (.inr ⟨by omega, by omega, hmn⟩)
            rw [HD.out]
            clear hmn
            go_wp2_with fail
            go_roundw
            case rel => exact ⟨n + 1, n, by go_num, rfl, by omega, HR.out, by first | rfl | trivial⟩
            case measure => simp [intOf]; omega
    · have e7 : n = 7 := by omega
      subst e7
      have HCX : Hid (0 ≤ c ∧ c < 7 ∧ c ∉ S.mem) := hid (by
        rcases HOR.out with h | h
        · exact absurd h (three_no S.mem HSG.out.2.2.2.2.2.2)
        · exact ⟨h.1, by have := h.2.1; omega, h.2.2⟩)
      clear HOR
      have h3l : 0 < S.mem.length := by rw [HSG.out.2.2.2.2.2.2]; omega
      have hml : (0 : Int) < (S.mem.length : Int) := by omega
      obtain ⟨gm, om, rfl⟩ := HN9.out.addr h3l
      obtain ⟨m0, hm0⟩ : ∃ m0, m0 = S.mem[0]'h3l := ⟨_, rfl⟩
      have HM0 : Hid (m0 ∈ S.mem ∧ 0 ≤ m0 ∧ m0 < 7) := hid (by
        have h1 : m0 ∈ S.mem := by rw [hm0]; exact List.getElem_mem _
        exact ⟨h1, (mem_rise HSG.out.2.2.2.2.2.1).2.1 m0 h1⟩)
      have HMC := hid fun (W : World) (hW : Tr (AtR b wb mb) wr W) => (show W.cell? ⟨gm, om, none⟩ = some (.int .i64 m0) by
        have := (nums_own (own_tr A9.out.m hW HM9.out (by decide) (by decide)) rfl : Nums W _ S.mem).lit 0 h3l
        rw [← hm0] at this
        exact this)
      have HUC := hid fun (W : World) (hW : Tr (AtR b wb mb) wr W) => (show W.cell? ⟨S18, 3, none⟩ = some (.slice (some ⟨gm, om, none⟩) S.mem.length mc) from (cell_of_row _ _ _ _ _ _ ((hW.block S18 (lt_of_block HU9.out) HNU.out).trans HU9.out)).trans rfl)
      have m9 := HMC.out _ (Tr.refl _ _)
      clear hm0 h3l
      have hw2 : IntKind.i64.wrap (N.nx + 2) = N.nx + 2 := IntWalk.i64_in _ ⟨by have := HNXB.out; omega, by have := HNXB.out; omega⟩
      have TT0 : Hid (Tr (AtR b wb mb) wr wr) := hid (Tr.refl _ _)
      obtain ⟨Z6, hZ6⟩ : ∃ Z6, Z6 = P ++ [⟨N.nx + 3, S.fr, S.to, swD S.mem m0 c, [⟨N.nx + 2, S.fr, S.to, S.mem⟩]⟩] ++ Q := ⟨_, rfl⟩
      have HZ6 := hid hZ6
      obtain ⟨N6, hN6⟩ : ∃ N6, N6 = afD (calmN N4) [(S.fr, S.to)] := ⟨_, rfl⟩
      have HN6x : Hid (N6.nx = N.nx + 4 ∧ N6.op ≠ []) := hid (by rw [hN6]; exact ⟨by show N4.nx + 1 = N.nx + 4; have := HN4x.out.1; omega, by simp [afD, opD]⟩)
      have HJ6 : Hid (ChJ ⟨3, N.nx + 2, 0, 0, m0, c⟩) := hid (by
        have h2 := HCX.out
        have h3 := HNXB.out
        have h4 := HM0.out
        intro x hx
        simp only [numC, List.mem_cons, List.not_mem_nil, or_false] at hx
        rcases hx with rfl | rfl | rfl | rfl | rfl | rfl <;> constructor <;> omega)
      have HS6 : Hid (StepR (calmN N4) Z4 ⟨3, N.nx + 2, 0, 0, m0, c⟩ 0 N6 Z6) := hid (by
        rw [hZ6, hN6, HZ4.out]
        have := st_rep (calmN N4) P Q ⟨N.nx + 2, S.fr, S.to, S.mem, [⟨N.nx, S.fr, k, S.mem⟩, ⟨N.nx + 1, k, S.to, S.mem⟩]⟩ m0 c rfl (sw_yes S.mem m0 c HM0.out.1 HCX.out.2.2 ⟨HCX.out.1, HCX.out.2.1⟩)
        rw [show (calmN N4).nx = N.nx + 3 from HN4x.out.1] at this
        exact this)
      have HP6 := hid fun (W : World) (hW : At W b wb mb n5 ov5 D5 (calmN N4) X5) => (show Calls Try.prog 8 #[.pointer (some ⟨b, 0, none⟩), chV ⟨3, N.nx + 2, 0, 0, m0, c⟩] W (ApP b wb mb n5 N6 Z6 0 W) from aapply_any b wb mb n5 110 ov5 D5 (calmN N4) N6 X5 Z6 ⟨3, N.nx + 2, 0, 0, m0, c⟩ 0 W hW G5.out (by rw [HX5.out]; exact HS6.out) HJ6.out (by omega) (by have := HN5.out; omega))
      unfold chV at HP6
      go_upto_region 34 with (go_at_call 8; refine (HP6.out _ A9.out).mono ?_; rintro e v6 ⟨n6, ov6, D6, X6, rfl, ha, hx, hnn, ht⟩; have A6 := hid ha; have HX6 := hid hx; have HN6 : Hid (n6 ≤ 112) := hid (by have := HN5.out; omega); have T6 := hid (TT0.out.trans ht); clear ha hx hnn ht)
      have G6 : Hid (Gd 112 N6 (X6.map (·.s))) := hid (by rw [HX6.out]; exact gd_step (by have := G5.out; rw [HX5.out] at this; exact this) HS6.out)
      clear HP6 HJ6
      clear A9 hZ6 hN6 hw2 m9 p3
      have HJ7 : Hid (ChJ ⟨5, 0, 0, 0, 0, 0⟩) := hid (chj5)
      have HS7 : Hid (StepR N6 Z6 ⟨5, 0, 0, 0, 0, 0⟩ 0 (calmN N6) Z6) := hid (st_settle N6 Z6 HN6x.out.2)
      have HP7 := hid fun (W : World) (hW : At W b wb mb n6 ov6 D6 N6 X6) => (show Calls Try.prog 8 #[.pointer (some ⟨b, 0, none⟩), chV ⟨5, 0, 0, 0, 0, 0⟩] W (ApP b wb mb n6 (calmN N6) Z6 0 W) from aapply_any b wb mb n6 112 ov6 D6 N6 (calmN N6) X6 Z6 ⟨5, 0, 0, 0, 0, 0⟩ 0 W hW G6.out (by rw [HX6.out]; exact HS7.out) HJ7.out (by omega) (by have := HN6.out; omega))
      unfold chV at HP7
      go_upto_region 35 with (go_at_call 8; refine (HP7.out _ A6.out).mono ?_; rintro e v7 ⟨n7, ov7, D7, X7, rfl, ha, hx, hnn, ht⟩; have A7 := hid ha; have HX7 := hid hx; have HN7 : Hid (n7 ≤ 114) := hid (by have := HN6.out; omega); have T7 := hid (T6.out.trans ht); clear ha hx hnn ht)
      have G7 : Hid (Gd 114 (calmN N6) (X7.map (·.s))) := hid (by rw [HX7.out]; exact gd_step (by have := G6.out; rw [HX6.out] at this; exact this) HS7.out)
      clear HP7 HJ7
      clear A6
      have m9 := HMC.out _ T7.out
      have p3 := HUC.out _ T7.out
      have hw3 : IntKind.i64.wrap (N.nx + 3) = N.nx + 3 := IntWalk.i64_in _ ⟨by have := HNXB.out; omega, by have := HNXB.out; omega⟩
      obtain ⟨Z8, hZ8⟩ : ∃ Z8, Z8 = P ++ [⟨N.nx + 4, S.fr, S.to, S.mem, [⟨N.nx + 3, S.fr, S.to, swD S.mem m0 c⟩]⟩] ++ Q := ⟨_, rfl⟩
      have HZ8 := hid hZ8
      obtain ⟨N8, hN8⟩ : ∃ N8, N8 = afD (calmN N6) [(S.fr, S.to)] := ⟨_, rfl⟩
      have HJ8 : Hid (ChJ ⟨3, N.nx + 3, 0, 0, c, m0⟩) := hid (by
        have h2 := HCX.out
        have h3 := HNXB.out
        have h4 := HM0.out
        intro x hx
        simp only [numC, List.mem_cons, List.not_mem_nil, or_false] at hx
        rcases hx with rfl | rfl | rfl | rfl | rfl | rfl <;> constructor <;> omega)
      have HS8 : Hid (StepR (calmN N6) Z6 ⟨3, N.nx + 3, 0, 0, c, m0⟩ 0 N8 Z8) := hid (by
        rw [hZ8, hN8, HZ6.out]
        have := st_rep (calmN N6) P Q ⟨N.nx + 3, S.fr, S.to, swD S.mem m0 c, [⟨N.nx + 2, S.fr, S.to, S.mem⟩]⟩ c m0 rfl (sw_yes2 S.mem m0 c HSG.out.2.2.2.2.2.1 HM0.out.1 HCX.out.2.2 ⟨HCX.out.1, HCX.out.2.1⟩)
        rw [show (calmN N6).nx = N.nx + 4 from HN6x.out.1] at this
        simp only [sw_back S.mem m0 c HSG.out.2.2.2.2.2.1 HM0.out.1 HCX.out.2.2 ⟨HCX.out.1, HCX.out.2.1⟩] at this
        exact this)
      have HP8 := hid fun (W : World) (hW : At W b wb mb n7 ov7 D7 (calmN N6) X7) => (show Calls Try.prog 8 #[.pointer (some ⟨b, 0, none⟩), chV ⟨3, N.nx + 3, 0, 0, c, m0⟩] W (ApP b wb mb n7 N8 Z8 0 W) from aapply_any b wb mb n7 114 ov7 D7 (calmN N6) N8 X7 Z8 ⟨3, N.nx + 3, 0, 0, c, m0⟩ 0 W hW G7.out (by rw [HX7.out]; exact HS8.out) HJ8.out (by omega) (by have := HN7.out; omega))
      unfold chV at HP8
      go_upto_region 36 with (go_at_call 8; refine (HP8.out _ A7.out).mono ?_; rintro e v8 ⟨n8, ov8, D8, X8, rfl, ha, hx, hnn, ht⟩; have A8 := hid ha; have HX8 := hid hx; have HN8 : Hid (n8 ≤ 116) := hid (by have := HN7.out; omega); have T8 := hid (T7.out.trans ht); clear ha hx hnn ht)
      have G8 : Hid (Gd 116 N8 (X8.map (·.s))) := hid (by rw [HX8.out]; exact gd_step (by have := G7.out; rw [HX7.out] at this; exact this) HS8.out)
      clear HP8 HJ8
      clear A7 hZ8 hN8 hw3 m9 p3
      have hw4 : IntKind.i64.wrap (N.nx + 4) = N.nx + 4 := IntWalk.i64_in _ ⟨by have := HNXB.out; omega, by have := HNXB.out; omega⟩
      have AI8 := hid (ain_of G8.out (by omega))
      have HGT8 := hid fun (W : World) (hW : At W b wb mb n8 ov8 D8 N8 X8) => (aget_any b wb mb n8 ov8 D8 N8 _ X8 (N.nx + 4) W hW.m (by have := HNXB.out; constructor <;> omega) AI8.out.shb).mono (fun e w' hg => get_mid (S := ⟨N.nx + 4, S.fr, S.to, S.mem, [⟨N.nx + 3, S.fr, S.to, swD S.mem m0 c⟩]⟩) G8.out (by rw [HX8.out, HZ8.out]) hg)
      go_upto_region 37 with (go_at_call 15; refine (HGT8.out _ A8.out).mono ?_; rintro e w10 ⟨mv7, pv7, rfl, hm7, hb7⟩; obtain ⟨⟨ua, uc, rfl⟩, ⟨qa, qc, rfl⟩⟩ := hm7.shape; unfold shV; have HM10 := hid hm7.m; have HB10 := hid hb7; clear hm7 hb7)
      have T10 := hid (T9.out.trans (T8.out.bel HB10.out))
      have HS10 := hid ((T10.out.block S11 (lt_of_block HSX6.out) HNS.out).trans HSX6.out)
      obtain ⟨w11, hw11⟩ : ∃ w11, w11 = w10.alloc (.cells #[.int .i64 (N.nx + 4), .int .i64 S.fr, .int .i64 S.to, .slice ua S.mem.length uc, .slice qa 1 qc] 46) := ⟨_, rfl⟩
      have HB11 : Hid (Below w10.heap.size w10 w11) := hid (by rw [hw11]; exact (Below.refl _ _).alloc (Nat.le_refl _) _)
      have HU11 : Hid (w11.heap[w10.heap.size]? = some (.cells #[.int .i64 (N.nx + 4), .int .i64 S.fr, .int .i64 S.to, .slice ua S.mem.length uc, .slice qa 1 qc] 46 (0, 0))) := hid (by rw [hw11]; exact heap_alloc_new _ _)
      rw [← hw11]
      clear hw11
      have T11 := hid (T10.out.bel HB11.out)
      have HS11' := hid ((HB11.out.block S11 (lt_of_block HS10.out)).trans HS10.out)
      have HN11 := hid (nums_own (own_below HM10.out HB11.out) rfl)
      have HNS11 := hid (nums_own (HMK.out _ T11.out) rfl)
      have B11 : Hid (Below w.heap.size w w11) := hid (B6.out.trans (T11.out.to HRA.out B6.out.size))
      generalize w10.heap.size = S28 at *
      have u1 : w11.cell? ⟨S28, 1, none⟩ = some (.int .i64 S.fr) := (cell_of_row _ _ _ _ _ _ HU11.out).trans rfl
      have u2 : w11.cell? ⟨S28, 2, none⟩ = some (.int .i64 S.to) := (cell_of_row _ _ _ _ _ _ HU11.out).trans rfl
      have u3 : w11.cell? ⟨S28, 3, none⟩ = some (.slice ua S.mem.length uc) := (cell_of_row _ _ _ _ _ _ HU11.out).trans rfl
      have s1 : w11.cell? ⟨S11, 1, none⟩ = some (.int .i64 S.fr) := (cell_of_row _ _ _ _ _ _ HS11'.out).trans rfl
      have s2 : w11.cell? ⟨S11, 2, none⟩ = some (.int .i64 S.to) := (cell_of_row _ _ _ _ _ _ HS11'.out).trans rfl
      have s3 : w11.cell? ⟨S11, 3, none⟩ = some (.slice sma S.mem.length smc) := (cell_of_row _ _ _ _ _ _ HS11'.out).trans rfl
      have HSI := hid (sameInts_eq S.mem (.slice ua S.mem.length uc) (.slice sma S.mem.length smc) w11 HN11.out HNS11.out)
      go_wp2_with (first | (go_at_call 17; refine HSI.out.mono ?_; rintro e w12 ⟨rfl, hb12⟩; have k1 := cell_later hb12 u1; have k2 := cell_later hb12 u2; have k3 := cell_later hb12 s1; have k4 := cell_later hb12 s2; have B12 := hid (B11.out.trans (hb12.mono B11.out.size)); clear hb12) | (go_at_call 10; refine (lives_any _).mono ?_; rintro e w13 ⟨rfl, hb13⟩; have B13 := hid (B12.out.trans (hb13.mono B12.out.size)); clear hb13))
      go_ret
      exact ⟨rfl, B13.out⟩
end Go.Proofs.Ytghjamkcedgnfaa
namespace Go.Proofs.Ytghjamkcedgnfaa
open Go.ChangeShapes Go.WideShapes Go.ChangeAt Go.RowKit Go.Deep
set_option maxRecDepth 100000

variable {H : Type} {enc : TypeId × Value → H} {w : World} {base : Nat} {spare : Nat → Bool} {held : Bool}

theorem Try.cellsI : Try.prog.cellsOf 3 = 1 := by kernel_rfl
theorem int_of {n : Nat} {v0 : Value} {y0 : DataW H × List MemPlace} (h0 : DataW.trod enc Try.prog w base spare held n 3 [v0] = some y0) : ∃ x : Int, v0 = .int .i64 x ∧ I64 x := by
  obtain ⟨a0, e0, rfl, w0⟩ := DataW.trod_int Try.underlying3 h0
  simp at e0
  subst e0
  have s0 : -9223372036854775808 ≤ a0 ∧ a0 ≤ 9223372036854775807 := by simpa [Lit.wf, IntKind.min, IntKind.max, IntKind.signed, IntKind.bits] using w0
  exact ⟨a0, rfl, s0⟩
/-- A slice of numbers that came in. -/
theorem nums_of {n : Nat} {v : Value} {y : DataW H × List MemPlace} (h : DataW.trod enc Try.prog w base spare held n 38 [v] = some y) : ∃ l, Nums w v l ∧ ∀ x ∈ l, I64 x := by
  rcases DataW.trod_slice Try.underlying38 h with ⟨hcs, _⟩ | ⟨a, len, cap, elems, rest, n', _, hcs, _, hb, hl, hm, hlen, hel, _, _⟩
  · simp at hcs
    subst hcs
    exact ⟨[], ⟨none, 0, 0, rfl, rfl, Nat.le_refl _, by omega, (fun _ => rfl), (fun ad h => by cases h)⟩, by simp⟩
  · simp at hcs
    subst hcs
    have each : ∀ i, i < len → ∃ q : Int, w.cell? (a.add i) = some (.int .i64 q) ∧ I64 q := by
      intro i hi
      have h1 := hel i hi
      rw [List.getElem?_eq_getElem (by omega), Try.cellsI] at h1
      obtain ⟨cs, h2, h3⟩ := Option.bind_eq_some_iff.1 h1
      obtain ⟨_, hcl, hcell⟩ := World.cells?_some h2
      match cs, hcl with
      | [v0], _ =>
        obtain ⟨x, rfl, hx⟩ := int_of h3
        have e0 := hcell 0 (by omega)
        rw [Addr.add_add] at e0
        exact ⟨x, by simpa using e0, hx⟩
    obtain ⟨q, hq⟩ := choose_lt each
    refine ⟨(List.range len).map q, ⟨some a, len, cap, rfl, by simp, hl, by unfold maxLen at hm; omega, (fun h => by cases h), fun ad had j hj => ?_⟩, ?_⟩
    · obtain rfl := Option.some.inj had
      have hj' : j < len := by simpa using hj
      simp only [List.getElem_map, List.getElem_range]
      exact (hq j hj').1
    · intro x hx
      simp only [List.mem_map, List.mem_range] at hx
      obtain ⟨i, hi, rfl⟩ := hx
      exact (hq i hi).2
end Go.Proofs.Ytghjamkcedgnfaa
namespace Go.Proofs.Ytghjamkcedgnfaa
open Go.ChangeShapes Go.WideShapes Go.ChangeAt Go.RowKit Go.Deep
set_option maxRecDepth 100000

variable {H : Type} {enc : TypeId × Value → H} {w : World} {base : Nat} {spare : Nat → Bool} {held : Bool}
theorem Try.cellsCh : Try.prog.cellsOf 24 = 6 := by kernel_rfl
theorem ch6_of {n : Nat} {v0 v1 v2 v3 v4 v5 : Value} {y : DataW H × List MemPlace} (h : DataW.trod enc Try.prog w base spare held n 24 [v0, v1, v2, v3, v4, v5] = some y) : ∃ c : ChD, v0 = .int .i64 c.k ∧ v1 = .int .i64 c.sh ∧ v2 = .int .i64 c.ot ∧ v3 = .int .i64 c.at' ∧ v4 = .int .i64 c.out ∧ v5 = .int .i64 c.in' ∧ ChJ c := by
  obtain ⟨xs, k, hk, hxy, _, hxl, hf⟩ := DataW.trod_struct Try.underlying24 h
  match xs, hxl with
  | [y0, y1, y2, y3, y4, y5], _ =>
    have g0 := hf 0 _ rfl
    have g1 := hf 1 _ rfl
    have g2 := hf 2 _ rfl
    have g3 := hf 3 _ rfl
    have g4 := hf 4 _ rfl
    have g5 := hf 5 _ rfl
    simp [Try.cellsI] at g0 g1 g2 g3 g4 g5
    obtain ⟨x0, rfl, i0⟩ := int_of g0
    obtain ⟨x1, rfl, i1⟩ := int_of g1
    obtain ⟨x2, rfl, i2⟩ := int_of g2
    obtain ⟨x3, rfl, i3⟩ := int_of g3
    obtain ⟨x4, rfl, i4⟩ := int_of g4
    obtain ⟨x5, rfl, i5⟩ := int_of g5
    refine ⟨⟨x0, x1, x2, x3, x4, x5⟩, rfl, rfl, rfl, rfl, rfl, rfl, ?_⟩
    intro x hx
    simp only [numC, List.mem_cons, List.not_mem_nil, or_false] at hx
    rcases hx with rfl | rfl | rfl | rfl | rfl | rfl <;> assumption
/-- A change by value. -/
theorem ch_of {r : Reach} {b0 : Nat} {v : Value} {d : DataW H} {p : List MemPlace} (hv : Value.okWide Try.prog w r b0 24 v) (h : DataW.Trod enc Try.prog w base spare held 24 v d p) : ∃ c : ChD, v = chV c ∧ ChJ c := by
  simp only [Value.okWide, Try.underlying24] at hv
  obtain ⟨cs, rfl, h2, -⟩ := hv
  rw [Try.cellsCh] at h2
  obtain ⟨l⟩ := cs
  obtain ⟨fuel, hf⟩ := h
  match l, h2 with
  | [c0, c1, c2, c3, c4, c5], _ =>
    obtain ⟨c, rfl, rfl, rfl, rfl, rfl, rfl, hj⟩ := ch6_of hf
    exact ⟨c, rfl, hj⟩
end Go.Proofs.Ytghjamkcedgnfaa
namespace Go.Proofs.Ytghjamkcedgnfaa
open Go.ChangeShapes Go.WideShapes Go.ChangeAt Go.RowKit Go.Deep
set_option maxRecDepth 100000
set_option linter.unusedVariables false

variable {H : Type} {enc : TypeId × Value → H} {w : World} {base : Nat} {spare : Nat → Bool} {held : Bool}
theorem Try.cellsBs : Try.prog.cellsOf 4 = 1 := by kernel_rfl
theorem Try.cellsSt : Try.prog.cellsOf 26 = 7 := by kernel_rfl
theorem choose_ltT {α : Type} [Inhabited α] {n : Nat} {P : Nat → α → Prop} (h : ∀ i, i < n → ∃ x, P i x) : ∃ f : Nat → α, ∀ i, i < n → P i (f i) :=
  Classical.axiomOfChoice (r := fun i x => i < n → P i x) fun i => by
    by_cases hi : i < n
    · obtain ⟨x, hx⟩ := h i hi; exact ⟨x, fun _ => hx⟩
    · exact ⟨default, fun hh => absurd hh hi⟩
theorem st7_of {n : Nat} {v0 v1 v2 v3 v4 v5 v6 : Value} {y : DataW H × List MemPlace} (h : DataW.trod enc Try.prog w base spare held n 26 [v0, v1, v2, v3, v4, v5, v6] = some y) : ∃ (c : ChD) (nr : Bool), v0 = .int .i64 c.k ∧ v1 = .int .i64 c.sh ∧ v2 = .int .i64 c.ot ∧ v3 = .int .i64 c.at' ∧ v4 = .int .i64 c.out ∧ v5 = .int .i64 c.in' ∧ v6 = .bool nr ∧ ChJ c := by
  obtain ⟨xs, k, hk, hxy, _, hxl, hf⟩ := DataW.trod_struct Try.underlying26 h
  match xs, hxl with
  | [y0, y1], _ =>
    have g0 := hf 0 _ rfl
    have g1 := hf 1 _ rfl
    simp [Try.cellsCh, Try.cellsBs] at g0 g1
    obtain ⟨c, e0, e1, e2, e3, e4, e5, hj⟩ := ch6_of g0
    obtain ⟨nr, hb, _⟩ := DataW.trod_bool Try.underlying4 g1
    exact ⟨c, nr, e0, e1, e2, e3, e4, e5, by simpa using hb, hj⟩
/-- A step by value. -/
theorem st_of {r : Reach} {b0 : Nat} {v : Value} {d : DataW H} {p : List MemPlace} (hv : Value.okWide Try.prog w r b0 26 v) (h : DataW.Trod enc Try.prog w base spare held 26 v d p) : ∃ x : ChD × Bool, v = .agg (stC x).toArray ∧ ChJ x.1 := by
  simp only [Value.okWide, Try.underlying26] at hv
  obtain ⟨cs, rfl, h2, -⟩ := hv
  rw [Try.cellsSt] at h2
  obtain ⟨l⟩ := cs
  obtain ⟨fuel, hf⟩ := h
  match l, h2 with
  | [c0, c1, c2, c3, c4, c5, c6], _ =>
    obtain ⟨c, nr, rfl, rfl, rfl, rfl, rfl, rfl, rfl, hj⟩ := st7_of hf
    exact ⟨(c, nr), rfl, hj⟩
/-- A slice of steps that came in. -/
theorem stps_of {n : Nat} {v : Value} {y : DataW H × List MemPlace} (h : DataW.trod enc Try.prog w base spare held n 22 [v] = some y) : ∃ l, Stps w v l ∧ ∀ x ∈ l, ChJ x.1 := by
  rcases DataW.trod_slice Try.underlying22 h with ⟨hcs, _⟩ | ⟨a, len, cap, elems, rest, n', _, hcs, _, hb, hl, hm, hlen, hel, _, _⟩
  · simp at hcs
    subst hcs
    exact ⟨[], ⟨none, 0, 0, rfl, rfl, Nat.le_refl _, by omega, (fun _ => rfl), (fun ad h => by cases h)⟩, by simp⟩
  · simp at hcs
    subst hcs
    have each : ∀ i, i < len → ∃ q : ChD × Bool, (∀ k u, (stC q)[k]? = some u → w.cell? (a.add (i * 7 + k)) = some u) ∧ ChJ q.1 := by
      intro i hi
      have h1 := hel i hi
      rw [List.getElem?_eq_getElem (by omega), Try.cellsSt] at h1
      obtain ⟨cs, h2, h3⟩ := Option.bind_eq_some_iff.1 h1
      obtain ⟨_, hcl, hcell⟩ := World.cells?_some h2
      match cs, hcl with
      | [v0, v1, v2, v3, v4, v5, v6], _ =>
        obtain ⟨c, nr, rfl, rfl, rfl, rfl, rfl, rfl, rfl, hj⟩ := st7_of h3
        refine ⟨(c, nr), fun k u hk => ?_, hj⟩
        have hk7 : k < 7 := (List.getElem?_eq_some_iff.1 hk).1
        have e := hcell k (by simpa using hk7)
        rw [Addr.add_add] at e
        rw [e]
        have : (stC (c, nr))[k]? = _ := hk
        unfold stC at this
        simpa using this
    haveI : Inhabited (ChD × Bool) := ⟨(⟨0, 0, 0, 0, 0, 0⟩, false)⟩
    obtain ⟨q, hq⟩ := choose_ltT each
    refine ⟨(List.range len).map q, ⟨some a, len, cap, rfl, by simp, hl, by unfold maxLen at hm; omega, (fun h => by cases h), fun ad had j hj => ?_⟩, ?_⟩
    · obtain rfl := Option.some.inj had
      have hj' : j < len := by simpa using hj
      simp only [List.getElem_map, List.getElem_range]
      exact (hq j hj').1
    · intro x hx
      simp only [List.mem_map, List.mem_range] at hx
      obtain ⟨i, hi, rfl⟩ := hx
      exact (hq i hi).2
end Go.Proofs.Ytghjamkcedgnfaa
namespace Go.Proofs.Ytghjamkcedgnfaa
open Go.ChangeShapes Go.WideShapes Go.ChangeAt Go.RowKit Go.Deep
set_option maxRecDepth 100000

variable {H : Type} {enc : TypeId × Value → H} {w : World} {base : Nat} {spare : Nat → Bool} {held : Bool}
theorem Try.cellsUi : Try.prog.cellsOf 56 = 1 := by kernel_rfl
theorem uint_of {n : Nat} {v0 : Value} {y0 : DataW H × List MemPlace} (h0 : DataW.trod enc Try.prog w base spare held n 56 [v0] = some y0) : ∃ x : Nat, v0 = .int .u64 x ∧ x < 18446744073709551616 := by
  have hu : Try.prog.underlying 56 = some (.int .u64) := by kernel_rfl
  obtain ⟨z, e, -, hw⟩ := DataW.trod_int hu h0
  simp at e
  subst e
  have hs : 0 ≤ z ∧ z ≤ 18446744073709551615 := by simpa [Lit.wf, IntKind.min, IntKind.max, IntKind.signed, IntKind.bits] using hw
  exact ⟨z.toNat, by rw [Int.toNat_of_nonneg hs.1], by omega⟩
theorem uint2_of {r : Reach} {b0 : Nat} {v : Value} {d : DataW H} {p : List MemPlace} (hv : Value.okWide Try.prog w r b0 57 v) (h : DataW.Trod enc Try.prog w base spare held 57 v d p) : ∃ x : Nat × Nat, v = .agg #[.int .u64 x.1, .int .u64 x.2] ∧ x.1 < 18446744073709551616 ∧ x.2 < 18446744073709551616 := by
  have hu : Try.prog.underlying 57 = some (.array 2 56) := by kernel_rfl
  have hc : Try.prog.cellsOf 57 = 2 := by kernel_rfl
  simp only [Value.okWide, hu] at hv
  obtain ⟨cs, rfl, h2, -⟩ := hv
  rw [hc] at h2
  obtain ⟨l⟩ := cs
  obtain ⟨fuel, hf⟩ := h
  obtain ⟨xs, m, -, -, -, hxl, hel⟩ := DataW.trod_array hu hf
  match l, h2, xs, hxl with
  | [c0, c1], _, [y0, y1], _ =>
    have g0 := hel 0 (by omega)
    have g1 := hel 1 (by omega)
    simp [Value.cells, Try.cellsUi] at g0 g1
    obtain ⟨x, rfl, hx⟩ := uint_of g0
    obtain ⟨y, rfl, hy⟩ := uint_of g1
    exact ⟨(x, y), rfl, hx, hy⟩
end Go.Proofs.Ytghjamkcedgnfaa
namespace Go.Proofs.Ytghjamkcedgnfaa.atlasUndone
open Go.ChangeShapes Go.WideShapes Go.ChangeAt Go.RowKit
set_option linter.unusedVariables false

theorem own : ownKnob Try.prog.godebug = none := by kernel_rfl
theorem laidOut : laidOutB Try.prog = true := by kernel_rfl

set_option maxRecDepth 100000 in
set_option maxHeartbeats 1600000 in
theorem lifted (os : Os) (started : os.Started) (H : Type) (enc : TypeId × Value → H) :
    ReturnsInHanded {} Try.checked os 4 .any (Rows.atlasUndoneSpec.pre6 enc Try.prog Try.f4 Rows.atlasUndoneRow.domain false) (Rows.atlasUndoneSpec.post enc Try.prog Try.f4 false true false false) := by
  refine returnsInHanded_of_change (C := Try.checked) own started (by kernel_rfl) Try.func4
    (ChangeSpec.witness6 (enc := enc) (C := Try.checked) false ⟨#[], #[.int .i64 0, .slice none 0 0, .agg #[.int .u64 0, .int .u64 0]], []⟩ 8 (by kernel_rfl) (by kernel_rfl) (by kernel_rfl) (by kernel_rfl)) ?_
  intro W base args ds gs before hval0 hW hcnd _
  have hval : ∀ (j : Nat) t v, Try.f4.params[j]? = some t → args[j]? = some v → Value.okWide Try.prog W .any base t v := hval0
  have hW' := hW
  obtain ⟨p, q, hA0, hV, rfl, hfz, hnd⟩ := hW
  have hA : DataW.TrodAll enc Try.prog W 0 (fun _ => true) true Try.f4.params.toList args.toList ds p := hA0
  rw [Try.params4] at hA hval
  obtain ⟨v0, vs0, d0, ds0, p0, q0, hargs, rfl, rfl, h0, r0⟩ := trodAll_cons hA
  obtain ⟨v1, vs1, d1, ds1, p1, q1, rfl, rfl, rfl, h1, r1⟩ := trodAll_cons r0
  obtain ⟨v2, vs2, d2, ds2, p2, q2, rfl, rfl, rfl, h2, r2⟩ := trodAll_cons r1
  obtain ⟨rfl, rfl, rfl⟩ := trodAll_nil r2
  obtain rfl : args = #[v0, v1, v2] := by cases args; simp_all
  obtain ⟨rfl, rfl⟩ := trodVars_none hV
  have k0 := h0
  have lt0 : ∀ x ∈ p0, x.block < W.heap.size := by obtain ⟨m, hm⟩ := k0; exact DataW.trod_lt m _ _ _ hm
  obtain ⟨x0, rfl⟩ := okWide_int Try.underlying3 (hval 0 3 v0 rfl rfl)
  obtain ⟨f0, hf0⟩ := h0
  obtain ⟨z0, e0, -, w0⟩ := DataW.trod_int Try.underlying3 hf0
  simp [Value.cells] at e0
  subst e0
  have s0 : -9223372036854775808 ≤ x0 ∧ x0 ≤ 9223372036854775807 := by simpa [Lit.wf, IntKind.min, IntKind.max, IntKind.signed, IntKind.bits] using w0
  have k1 := h1
  have lt1 : ∀ x ∈ p1, x.block < W.heap.size := by obtain ⟨m, hm⟩ := k1; exact DataW.trod_lt m _ _ _ hm
  obtain ⟨a1, len1, cap1, rfl⟩ := okWide_slice Try.underlying22 (hval 1 22 v1 rfl rfl)
  obtain ⟨f1, hf1⟩ := h1
  obtain ⟨l1, H1, J1⟩ := stps_of hf1
  have k2 := h2
  have lt2 : ∀ x ∈ p2, x.block < W.heap.size := by obtain ⟨m, hm⟩ := k2; exact DataW.trod_lt m _ _ _ hm
  obtain ⟨x2, rfl, J2⟩ := uint2_of (hval 2 57 v2 rfl rfl) h2
  clear hA0 hval0
  refine (atlasUndone_any x0 l1 (.slice a1 len1 cap1) x2.1 x2.2 W H1 J1 J2.1 J2.2).mono fun e W' ⟨he, bel⟩ => ?_
  subst he
  have t0 := Below.trod laidOut (by kernel_rfl) (of_decide_eq_true (by kernel_rfl)) k0 bel lt0
  have t1 := Below.trod laidOut (by kernel_rfl) (of_decide_eq_true (by kernel_rfl)) k1 bel lt1
  have t2 := Below.trod laidOut (by kernel_rfl) (of_decide_eq_true (by kernel_rfl)) k2 bel lt2
  have T := trodAll_cons_mk t0 (trodAll_cons_mk t1 (trodAll_cons_mk t2 trodAll_mk0))
  exact ⟨_, rfl, _, _, _, [], _, [], hW', trodAll_mk1 (shut_bool Try.underlying4 _), T, rfl, bel.frame _, fun h => by cases h⟩

theorem over : Rows.atlasUndoneRow.holds Try.pinned (OpenSpec.ofChange Rows.atlasUndoneSpec) :=
  OpenClaim.holds_of_wide 4 Try.f4 rfl rfl rfl rfl rfl rfl rfl ⟨rfl, rfl, rfl, rfl, rfl⟩ rfl rfl rfl rfl rfl (by kernel_rfl) Try.func4 (by kernel_rfl)
    (of_decide_eq_true (by kernel_rfl)) (by unfold Func.isWrapper; first | (rw [if_pos (by decide +kernel)]; kernel_rfl) | (rw [if_neg (by decide +kernel)]; exact ⟨rfl, rfl⟩))
    (fun os started H enc _ => lifted os started H enc)

theorem proved : Rows.AtlasUndoneSaid := over
end Go.Proofs.Ytghjamkcedgnfaa.atlasUndone
namespace Go.Proofs.Ytghjamkcedgnfaa
/-- The statement. -/
theorem atlasUndone_holds : Rows.AtlasUndoneSaid := atlasUndone.proved
end Go.Proofs.Ytghjamkcedgnfaa
