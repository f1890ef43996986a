/- What a change makes new of a map of shards has as its past shards that were there, with all its blocks, and what it doesn't name stays as it is, for any number of blocks, any steps and any change. No condition. -/
import Derived.Test.YtnkjkaofgninnaaAtChJ
import Derived.Test.YtnkjkaofgninnaaStD
import Derived.Test.YtnkjkaofgninnaaStA
import Derived.Test.YtnkjkaofgninnaaStC
import Derived.Test.YtnkjkaofgninnaaStB
import Derived.Test.YtnkjkaofgninnaaAtBase
import Derived.ProofKit
import Derived.OpenShut
import Derived.ChangeOld
import Derived.Deep.SlicePairs
import Derived.Lib.SmallJoins
import Derived.Test.YtnkjkaofgninnaaRows
import Derived.WalkKit
import Derived.ShutString
import Derived.Below
namespace Go.Proofs.Ytnkjkaofgninnaa
open Go.RowKit
def stC (x : ChD × Bool) : List Value := [.int .i64 x.1.k, .int .i64 x.1.sh, .int .i64 x.1.ot, .int .i64 x.1.at', .int .i64 x.1.out, .int .i64 x.1.in', .bool x.2]
/-- The value v is a slice of the steps l. -/
def Stps (w : World) (v : Value) (l : List (ChD × Bool)) : Prop :=
  ∃ ao n cap, v = .slice ao n cap ∧ n = l.length ∧ n ≤ cap ∧ cap ≤ 9223372036854775807 ∧ (ao = none → cap = 0) ∧ ∀ ad, ao = some ad → ∀ j, (h : j < l.length) → ∀ k u, (stC l[j])[k]? = some u → w.cell? (ad.add (j * 7 + k)) = some u
theorem Stps.below {w w' : World} {v : Value} {l : List (ChD × Bool)} (h : Stps w v l) (hb : Below w.heap.size w w') : Stps w' v l := by
  obtain ⟨ao, n, cap, rfl, h1, h2, h3, h4, h5⟩ := h
  exact ⟨ao, n, cap, rfl, h1, h2, h3, h4, fun ad had j hj k u hk => cell_later hb (h5 ad had j hj k u hk)⟩
theorem Stps.shape {w : World} {v : Value} {l : List (ChD × Bool)} (h : Stps w v l) : ∃ va vc, v = .slice va l.length vc := by
  obtain ⟨ao, n, cap, rfl, rfl, -⟩ := h; exact ⟨_, _, rfl⟩
theorem Stps.len {w : World} {v : Value} {l : List (ChD × Bool)} (h : Stps w v l) : (l.length : Int) ≤ 9223372036854775807 := by
  obtain ⟨ao, n, cap, rfl, h1, h2, h3, -⟩ := h; omega
theorem Stps.addr {w : World} {ao : Option Addr} {cap : Nat} {l : List (ChD × Bool)} (h : Stps w (.slice ao l.length cap) l) (hl : 0 < l.length) : ∃ b o, ao = some ⟨b, o, none⟩ := by
  obtain ⟨ao', n, cap', e, h1, h2, h3, h4, h5⟩ := h
  cases e
  cases ao with
  | none => have := h4 rfl; omega
  | some a =>
    have h0 := h5 a rfl 0 hl 0 _ rfl
    have := World.cell?_spot h0
    obtain ⟨b, o, sp⟩ := a
    simp [Addr.add] at this
    subst this
    exact ⟨b, o, rfl⟩
theorem Stps.range {w : World} {b o cap : Nat} {l : List (ChD × Bool)} (h : Stps w (.slice (some ⟨b, o, none⟩) l.length cap) l) (j : Nat) (hj : j < l.length) : w.rangeAt b (o + j * 7) (stC l[j]) := by
  obtain ⟨ao, n, cap', e, h1, h2, h3, h4, h5⟩ := h
  cases e
  intro k u hk
  have := h5 _ rfl j hj k u hk
  rw [Addr.add_lit, ← Nat.add_assoc] at this
  exact this
end Go.Proofs.Ytnkjkaofgninnaa
namespace Go.Proofs.Ytnkjkaofgninnaa
open Go.RowKit Go.Maps Go.Shelf
set_option linter.unusedVariables false
set_option linter.unusedSimpArgs false

/-- What the document's New leaves, in rows of its own. -/
def RNb (bl : Int) (l : List Int) (w : World) (e : Ending) (w' : World) : Prop := ∃ b sv X, e = .returned (.pointer (some ⟨b, 0, none⟩)) ∧ RB w' b ⟨bl, 1, 2, []⟩ (.slice none 0 0) sv X ∧ X.map (·.s) = [⟨1, 0, bl, l, []⟩] ∧ Below w.heap.size w w' ∧ w.heap.size ≤ b
set_option maxRecDepth 100000 in
set_option maxHeartbeats 4000000 in
theorem rnewB_any (bl : Int) (l : List Int) (va : Option Addr) (vc : Nat) (w : World) (hv : w.ownsRow 0 3 1 (.slice va l.length vc) l.length (nvs l)) :
    Calls Try.prog 19 #[.int .i64 bl, .slice va l.length vc] w (RNb bl l w) := by
  have HV := hid hv
  clear hv
  obtain ⟨h1, h2⟩ := heap_two w (.cells #[.int .i64 1, .int .i64 0, .int .i64 bl, .slice va l.length vc, .slice none 0 0] 46) (.cells #[.int .i64 bl, .int .i64 1, .int .i64 2, .slice none 0 0, .slice (some ⟨w.heap.size, 0, none⟩) 1 1] 69)
  have hb : Below w.heap.size w ((w.alloc (.cells #[.int .i64 1, .int .i64 0, .int .i64 bl, .slice va l.length vc, .slice none 0 0] 46)).alloc (.cells #[.int .i64 bl, .int .i64 1, .int .i64 2, .slice none 0 0, .slice (some ⟨w.heap.size, 0, none⟩) 1 1] 69)) := ((Below.refl _ _).alloc (Nat.le_refl _) _).alloc (by simp) _
  have HF : Hid (RNb bl l w (.returned (.pointer (some ⟨w.heap.size + 1, 0, none⟩))) ((w.alloc (.cells #[.int .i64 1, .int .i64 0, .int .i64 bl, .slice va l.length vc, .slice none 0 0] 46)).alloc (.cells #[.int .i64 bl, .int .i64 1, .int .i64 2, .slice none 0 0, .slice (some ⟨w.heap.size, 0, none⟩) 1 1] 69))) := hid (by
    refine ⟨w.heap.size + 1, .slice (some ⟨w.heap.size, 0, none⟩) 1 1, [⟨⟨1, 0, bl, l, []⟩, .slice va l.length vc, .slice none 0 0⟩], rfl, ⟨h2, World.ownsRow_nil _ _ _ _, ?_, ?_, fun _ => rfl⟩, rfl, hb, by omega⟩
    · exact ⟨rfl, .inr ⟨w.heap.size, 1, _, rfl, Nat.zero_le _, h1, Nat.le_refl _, by unfold maxLen; omega, rfl, rfl⟩⟩
    · intro x hx
      rw [List.mem_singleton.1 hx]
      exact ⟨own_below HV.out hb, [], rfl, World.ownsRow_nil _ _ _ _, fun x hx => by cases hx⟩)
  clear h1 h2 hb
  go_enter Try.func19, Try.ntmps19
  go_wp2_with fail
  go_ret
  simpa using HF.out
/-- What play leaves. -/
def PlyP (w : World) (e : Ending) (w' : World) : Prop := ∃ b wb mb n ov D N X xb rv sv Y, e = .returned (.tuple #[.pointer (some ⟨b, 0, none⟩), .pointer (some ⟨xb, 0, none⟩), .bool true]) ∧ At w' b wb mb n ov D N X ∧ RB w' xb N rv sv Y ∧ Y.map (·.s) = X.map (·.s) ∧ Gd 100 N (X.map (·.s)) ∧ n ≤ 100 ∧ Below w.heap.size w w' ∧ (∀ q, AtR b wb mb q → w.heap.size ≤ q) ∧ w.heap.size ≤ xb ∧ ∀ S ∈ X.map (·.s), S.mem.length = 3
/-- Members stay three. -/
theorem three_step {B : Nat} {N N' : AtN} {Z Z' : List ShD} {c : ChD} {r : Int} (g : Gd B N Z) (h : ∀ S ∈ Z, S.mem.length = 3) (hs : StepR N Z c r N' Z') : ∀ S ∈ Z', S.mem.length = 3 := by
  cases hs with
  | bad _ => exact h
  | calm _ _ _ _ => exact h
  | settle _ _ _ _ => exact h
  | down _ _ _ _ => exact h
  | miss _ _ _ _ _ => exact h
  | miss2 _ _ _ _ _ _ _ _ _ _ => exact h
  | unfit _ _ _ _ _ _ _ _ _ _ _ => exact h
  | unfit2 _ _ _ _ _ _ _ _ _ _ _ _ _ _ _ => exact h
  | one hk hn h5 h2 ho P Q S hZ hi hf =>
    subst hZ
    have hS := h S (by simp)
    have hm := g.mb S (by simp)
    have hl : (mlD c S).length = 3 := by
      unfold mlD
      split
      · rename_i hk3
        unfold fit1 at hf
        rw [if_neg (by omega), if_pos hk3] at hf
        obtain ⟨hr, hnn, -⟩ := mem_rise hm
        have hs3 : c.out ∈ S.mem ∧ c.in' ∉ S.mem ∧ (0 ≤ c.in' ∧ c.in' < 7) := by simpa [swB, nodeB] using hf
        obtain ⟨k, hk', hke⟩ := List.mem_iff_getElem.1 hs3.1
        rw [swD_len S.mem c.out c.in' k hk' hke hr hnn hs3.2.2 hs3.2.1]; exact hS
      · exact hS
    intro T hT
    rcases List.mem_append.1 hT with hT | hT
    · rcases List.mem_append.1 hT with hT | hT
      · exact h T (by simp [hT])
      · rw [(nwD_mem _ _ _ _ T hT).1]; exact hl
    · exact h T (by simp [hT])
  | two hk hn h2 ho P Q S U hZ hi hj =>
    subst hZ
    intro T hT
    rcases List.mem_append.1 hT with hT | hT
    · rcases List.mem_append.1 hT with hT | hT
      · exact h T (by simp [hT])
      · rw [(nwD_mem _ _ _ _ T hT).1]; exact h S (by simp)
    · exact h T (by simp [hT])
/-- Both maps side by side, behind i steps. -/
structure PlI (w : World) (b wb mb xb i : Nat) (wr : World) : Prop where
  both : ∃ n ov D N X rv sv Y, At wr b wb mb n ov D N X ∧ RB wr xb N rv sv Y ∧ Y.map (·.s) = X.map (·.s) ∧ Gd (2 + 2 * i) N (X.map (·.s)) ∧ n ≤ 1 + 2 * i ∧ ∀ S ∈ X.map (·.s), S.mem.length = 3
  bel : Below w.heap.size w wr
  ra : ∀ q, AtR b wb mb q → w.heap.size ≤ q
  rx : w.heap.size ≤ xb
theorem mem012 : memB [0, 1, 2] = true := by decide
theorem gd_new (bl : Int) (h : 1 ≤ bl ∧ bl ≤ 256) : Gd 2 ⟨bl, 1, 2, []⟩ [⟨1, 0, bl, [0, 1, 2], []⟩] :=
  ⟨⟨rfl, by show (0 : Int) < bl; omega, rfl⟩, by intro S hS; rw [List.mem_singleton.1 hS]; exact mem012, by intro S hS; rw [List.mem_singleton.1 hS]; exact ⟨by simp, by intro o ho; cases ho⟩, by intro S hS; rw [List.mem_singleton.1 hS]; exact ⟨by show (1 : Int) ≤ 1; omega, by show (1 : Int) < 2; omega⟩, List.pairwise_singleton _ _, ⟨by show (2 : Int) ≤ 2; omega, by show (2 : Int) ≤ 2; omega⟩, ⟨by show (1 : Int) ≤ 1; omega, by show (1 : Int) ≤ 2; omega⟩, by simp, by simp, h⟩
theorem Try.rowSt : ∃ d : TypeDesc, Try.prog.underlying 26 = some d ∧ d.isRow = true := by
  obtain ⟨d, h1, h2⟩ : ∃ d, Try.prog.underlying 26 = some d ∧ d.isRow = true := by
    have h : (Try.prog.underlying 26).map (·.isRow) = some true := by kernel_rfl
    cases hu : Try.prog.underlying 26 with
    | none => rw [hu] at h; cases h
    | some d => rw [hu] at h; exact ⟨d, rfl, by simpa using h⟩
  exact ⟨d, h1, h2⟩
theorem Try.sizeSt : (Try.prog.info? 26).map (·.size) = some 7 := by kernel_rfl
theorem rest_in64 (t m : Int) (h0 : 1 ≤ m) (h1 : m ≤ 1000000000) : 0 ≤ wrap64 ((IntKind.u64.wrap t).tmod m) ∧ wrap64 ((IntKind.u64.wrap t).tmod m) < m := by
  rw [u64_mod, Int.tmod_eq_emod_of_nonneg (by omega)]
  have a := Int.emod_nonneg (t % 18446744073709551616) (b := m) (by omega)
  have b := Int.emod_lt_of_pos (t % 18446744073709551616) (b := m) (by omega)
  rw [IntWalk.wrap64_in _ (by omega)]
  exact ⟨a, b⟩
set_option maxRecDepth 100000 in
set_option maxHeartbeats 8000000 in
theorem play_any (bl : Int) (L : List (ChD × Bool)) (v : Value) (w : World) (hv : Stps w v L) (hj : ∀ x ∈ L, ChJ x.1) :
    Calls Try.prog 4 #[.int .i64 bl, v] w (PlyP w) := by
  have HV := hid hv
  have HJ := hid hj
  have hL := hv.len
  obtain ⟨va, vc, rfl⟩ := hv.shape
  clear hv hj
  have hrr := rest_in64 bl 60 (by omega) (by omega)
  obtain ⟨nb, hnb⟩ : ∃ nb, nb = wrap64 (1 + wrap64 ((IntKind.u64.wrap bl).tmod 60)) := ⟨_, rfl⟩
  have HNB : Hid (1 ≤ nb ∧ nb ≤ 256) := hid (by rw [hnb, IntWalk.wrap64_in _ (by omega)]; omega)
  have HQ := hid hnb
  clear hnb hrr
  have HO : Hid (∀ W : World, (W.alloc (.cells #[.int .i64 0, .int .i64 1, .int .i64 2] 3)).ownsRow 0 3 1 (.slice (some ⟨W.heap.size, 0, none⟩) 3 3) 3 (nvs [0, 1, 2])) := hid fun W => own_many W 3 #[.int .i64 0, .int .i64 1, .int .i64 2] 1 3 (Nat.zero_le _) rfl (by omega)
  have HN1 := hid (anew_yes nb [0, 1, 2] (.slice (some ⟨w.heap.size, 0, none⟩) 3 3) (w.alloc (.cells #[.int .i64 0, .int .i64 1, .int .i64 2] 3)) (nums_own (HO.out w) rfl) (by simp) (by unfold anewB; rw [decide_eq_true HNB.out.1, decide_eq_true HNB.out.2, mem012]; rfl))
  have HN3 := hid fun W : World => rnewB_any nb [0, 1, 2] (some ⟨W.heap.size, 0, none⟩) 3 (W.alloc (.cells #[.int .i64 0, .int .i64 1, .int .i64 2] 3)) (HO.out W)
  go_enter Try.func4, Try.ntmps4
  go_upto_region 2 with fail
  rw [← HQ.out]
  clear HQ
  go_upto_region 3 with (go_at_call 18; refine HN1.out.mono ?_; rintro e w2 ⟨b, wb, mb, D, mv, pv, rfl, ha2, hb2, hr2⟩; have A2 := hid ha2; have HR2 := hid hr2; have B2 := hid (((Below.refl w.heap.size w).alloc (Nat.le_refl _) (.cells #[.int .i64 0, .int .i64 1, .int .i64 2] 3)).trans (hb2.mono (by simp))); clear ha2 hb2 hr2)
  go_upto_region 4 with (go_at_call 19; refine (HN3.out w2).mono ?_; rintro e w3 ⟨xb, sv, Y0, rfl, hr3, hy3, hb3, hx3⟩; have R3 := hid hr3; have HY3 := hid hy3; have HX3 : Hid (w.heap.size ≤ xb) := hid (Nat.le_trans B2.out.size (Nat.le_trans (by simp) hx3)); have HB3 := hid (((Below.refl w2.heap.size w2).alloc (Nat.le_refl _) (.cells #[.int .i64 0, .int .i64 1, .int .i64 2] 3)).trans (hb3.mono (by simp))); clear hr3 hy3 hb3 hx3)
  have HPI : Hid (PlI w b wb mb xb 0 w3) := hid ⟨⟨1, _, D, ⟨nb, 1, 2, []⟩, _, _, sv, Y0, A2.out.below HB3.out, R3.out, HY3.out, gd_new nb HNB.out, by omega, by intro S hS; rw [List.mem_singleton.1 hS]; rfl⟩, B2.out.trans (HB3.out.mono B2.out.size), fun q hq => Nat.le_trans (by simp) (HR2.out q hq), HX3.out⟩
  clear A2 HR2 B2 R3 HY3 HX3 HB3 HN1 HN3 HO
  go_wp2_with fail
  go_loopw [11, 12, 13, 32] (fun _ _ _ iv wr => ∃ i : Nat, iv = .int .i64 i ∧ i ≤ L.length ∧ i ≤ 40 ∧ PlI w b wb mb xb i wr) (fun _ _ _ iv _ => L.length - (intOf iv).toNat)
  case atStart => exact ⟨0, rfl, Nat.zero_le _, by omega, HPI.out⟩
  case round =>
    obtain ⟨i, rfl, hi, hi40, hpi⟩ := hrel
    have P := hid hpi
    have HFIN : Hid (PlyP w (.returned (.tuple #[.pointer (some ⟨b, 0, none⟩), .pointer (some ⟨xb, 0, none⟩), .bool true])) wr) := hid (by
      obtain ⟨⟨n, ov, D, N, X, rv, sv, Y, h1, h2, h3, h4, h5, h9⟩, h6, h7, h8⟩ := hpi
      exact ⟨b, wb, mb, n, ov, D, N, X, xb, rv, sv, Y, rfl, h1, h2, h3, h4.mono (by omega), by omega, h6, h7, h8, h9⟩)
    clear hpi
    by_cases hlt : (i : Int) < (L.length : Int)
    · have hil : i < L.length := by omega
      have HVR := hid (HV.out.below P.out.bel)
      obtain ⟨gs, os, rfl⟩ := HVR.out.addr (by omega)
      have hrg := HVR.out.range i hil
      have HXJ := hid (HJ.out L[i] (List.getElem_mem hil))
      obtain ⟨⟨⟨k0, k1, k2, k3, k4, k5⟩, nr⟩, hx⟩ : ∃ x, x = L[i] := ⟨_, rfl⟩
      rw [← hx] at hrg HXJ
      clear hx
      unfold stC at hrg
      obtain ⟨dT, hdT1, hdT2⟩ := Try.rowSt
      obtain ⟨w3, hw3⟩ : ∃ w3, w3 = wr.alloc (.cells #[.int .i64 k0, .int .i64 k1, .int .i64 k2, .int .i64 k3, .int .i64 k4, .int .i64 k5, .bool nr] 26) := ⟨_, rfl⟩
      have HB3 : Hid (Below wr.heap.size wr w3) := hid (by rw [hw3]; exact (Below.refl _ _).alloc (Nat.le_refl _) _)
      have HS3 : Hid (w3.heap[wr.heap.size]? = some (.cells #[.int .i64 k0, .int .i64 k1, .int .i64 k2, .int .i64 k3, .int .i64 k4, .int .i64 k5, .bool nr] 26 (0, 0))) := hid (by rw [hw3]; exact heap_alloc_new _ _)
      have HW3 := hid hw3
      clear hw3
      go_upto_region 9 with (refine wpList_load_mid rfl _ _ rfl gs (os + i * 7) (by go_simp) [.int .i64 k0, .int .i64 k1, .int .i64 k2, .int .i64 k3, .int .i64 k4, .int .i64 k5, .bool nr] dT hrg hdT1 hdT2 Try.sizeSt ?_)
      rw [← HW3.out]
      clear HW3 hrg
      by_cases h40 : (40 : Int) ≤ (i : Int)
      · have HF3 : Hid (PlyP w (.returned (.tuple #[.pointer (some ⟨b, 0, none⟩), .pointer (some ⟨xb, 0, none⟩), .bool true])) w3) := hid (by
          obtain ⟨⟨n, ov, D, N, X, rv, sv, Y, h1, h2, h3, h4, h5, h9⟩, h6, h7, h8⟩ := P.out
          exact ⟨b, wb, mb, n, ov, D, N, X, xb, rv, sv, Y, rfl, h1.below HB3.out, h2.below HB3.out, h3, h4.mono (by omega), by omega, h6.trans (HB3.out.mono h6.size), h7, h8, h9⟩)
        go_wp2_with fail
        go_ret3
        exact HF3.out
      · have HI40 : Hid (i < 40) := hid (by omega)
        obtain ⟨⟨n, ov, D, N, X, rv, sv, Y, h1, h2, h3, h4, h5, h9⟩, h6, h7, h8⟩ := P.out
        have A3 := hid (h1.below HB3.out)
        have R3 := hid (h2.below HB3.out)
        have HYX := hid h3
        have HGX := hid h4
        have HGY : Hid (Gd (2 + 2 * i) N (Y.map (·.s))) := hid (by rw [h3]; exact h4)
        have HNI := hid h5
        have B3 := hid (h6.trans (HB3.out.mono h6.size))
        have HRA := hid h7
        have HRX := hid h8
        have HT9 := hid h9
        clear h1 h2 h3 h4 h5 h6 h7 h8 h9 HVR P HFIN
        have HOF := hid (of_any ⟨k0, k1, k2, k3, k4, k5⟩ nr xb (2 + 2 * i) rv sv N Y w3 HXJ.out R3.out HGY.out (by have := HI40.out; omega))
        unfold stV at HOF
        have hrg3 : w3.rangeAt wr.heap.size 0 [.int .i64 k0, .int .i64 k1, .int .i64 k2, .int .i64 k3, .int .i64 k4, .int .i64 k5, .bool nr] := range_of_row HS3.out 0 _ fun j v hv => by rw [Nat.zero_add]; simpa using hv
        generalize wr.heap.size = S3 at *
        go_upto_region 11 with (first | (refine wpList_load_mid rfl _ _ rfl S3 0 (by go_simp) [.int .i64 k0, .int .i64 k1, .int .i64 k2, .int .i64 k3, .int .i64 k4, .int .i64 k5, .bool nr] dT hrg3 hdT1 hdT2 Try.sizeSt ?_) | (go_at_call 6; refine HOF.out.mono ?_; rintro e w4 ⟨⟨c0, c1, c2, c3, c4, c5⟩, rfl, hcj, hb4⟩; unfold chV; have HCJ := hid hcj; have HB4 := hid hb4; clear hcj hb4))
        obtain ⟨w5, hw5⟩ : ∃ w5, w5 = w4.alloc (.cells #[.int .i64 c0, .int .i64 c1, .int .i64 c2, .int .i64 c3, .int .i64 c4, .int .i64 c5] 24) := ⟨_, rfl⟩
        have HB5 : Hid (Below w4.heap.size w4 w5) := hid (by rw [hw5]; exact (Below.refl _ _).alloc (Nat.le_refl _) _)
        have HC5 : Hid (w5.heap[w4.heap.size]? = some (.cells #[.int .i64 c0, .int .i64 c1, .int .i64 c2, .int .i64 c3, .int .i64 c4, .int .i64 c5] 24 (0, 0))) := hid (by rw [hw5]; exact heap_alloc_new _ _)
        rw [← hw5]
        clear hw5
        have HB35 := hid (HB4.out.trans (HB5.out.mono HB4.out.size))
        have A5 := hid (A3.out.below HB35.out)
        have R5 := hid (R3.out.below HB35.out)
        have B5 := hid (B3.out.trans (HB35.out.mono B3.out.size))
        generalize w4.heap.size = C5 at *
        obtain ⟨r, N', Z', hst⟩ := step_ex N (X.map (·.s)) ⟨c0, c1, c2, c3, c4, c5⟩ HGX.out.ne
        have HST := hid hst
        have HG2 := hid (gd_step HGX.out hst)
        have HT2 := hid (three_step HGX.out HT9.out hst)
        clear hst HB4 HB5 HB35 A3 R3 B3 HOF hrg3 HS3 HB3
        obtain ⟨dC, hdC1, hdC2⟩ := Try.rowCh
        have HSW : Hid (∀ Y : World, Y.heap[C5]? = some (.cells #[.int .i64 c0, .int .i64 c1, .int .i64 c2, .int .i64 c3, .int .i64 c4, .int .i64 c5] 24 (0, 0)) → Y.rangeAt C5 0 [.int .i64 c0, .int .i64 c1, .int .i64 c2, .int .i64 c3, .int .i64 c4, .int .i64 c5]) := hid fun Y hY => range_of_row hY 0 _ fun j v hv => by rw [Nat.zero_add]; simpa using hv
        refine wp_region_held_drew (S := fun Y => Y.rangeAt C5 0 [.int .i64 c0, .int .i64 c1, .int .i64 c2, .int .i64 c3, .int .i64 c4, .int .i64 c5]) (by kernel_rfl) (HSW.out _ HC5.out) (fun hHeld => ?_)
        refine wpAnyH_take (i := 0) (v := ?av0) rfl (by kernel_rfl) (by kernel_rfl) (by kernel_rfl) (fun _ _ _ h => h) (Or.inl ⟨by rfl, ?ay0⟩) (by assumption) ?ar0
        case ay0 => (intro w hSw; (try dsimp only at hSw); go_simp; try with_reducible rfl)
        (try simp only [Act.put, putS])
        refine wpAnyH_take (i := 1) (v := .agg #[.int .i64 c0, .int .i64 c1, .int .i64 c2, .int .i64 c3, .int .i64 c4, .int .i64 c5]) rfl (by kernel_rfl) (by kernel_rfl) (by kernel_rfl) (fun _ _ _ h => h) (yieldsIf_load_mid rfl _ _ rfl C5 0 rfl [.int .i64 c0, .int .i64 c1, .int .i64 c2, .int .i64 c3, .int .i64 c4, .int .i64 c5] dC (fun Y hY => hY) hdC1 hdC2 Try.sizeCh) (by assumption) ?_
        (try simp only [Act.put, putS])
        refine wpAnyH_take (i := 3) (v := ?bv3) rfl (by kernel_rfl) (by kernel_rfl) (by kernel_rfl) (fun _ _ _ h => h) (Or.inl ⟨by rfl, ?by3⟩) (by assumption) ?br3
        case by3 => (intro w hSw; (try dsimp only at hSw); go_simp; try with_reducible rfl)
        (try simp only [Act.put, putS])
        refine wpAnyH_take (i := 4) (v := .agg #[.int .i64 c0, .int .i64 c1, .int .i64 c2, .int .i64 c3, .int .i64 c4, .int .i64 c5]) rfl (by kernel_rfl) (by kernel_rfl) (by kernel_rfl) (fun _ _ _ h => h) (yieldsIf_load_mid rfl _ _ rfl C5 0 rfl [.int .i64 c0, .int .i64 c1, .int .i64 c2, .int .i64 c3, .int .i64 c4, .int .i64 c5] dC (fun Y hY => hY) hdC1 hdC2 Try.sizeCh) (by assumption) ?_
        (try simp only [Act.put, putS])
        refine wpAnyH_ready (rs := [2]) (by kernel_rfl) (by simp) ?_
        refine AllReadyH.cons rfl (fun K hK => ?_) AllReadyH.nil
        rw [if_pos (by rfl)]
        go_wp2_with fail
        refine (aapply_any b wb mb n (2 + 2 * i) ov D N N' X Z' ⟨c0, c1, c2, c3, c4, c5⟩ r _ (A5.out.below ((Below.refl _ _).drew)) HGX.out HST.out HCJ.out (by have := HI40.out; omega) (by have := HI40.out; have := HNI.out; omega)).mono ?_
        rintro e w6 ⟨n6, ov6, D6, X6, rfl, ha6, hx6, hn6, ht6⟩
        have T6 := hid ((Tr.below (R := AtR b wb mb) ((Below.refl w5.heap.size w5).drew)).trans ht6)
        have A6 := hid ha6
        have HX6 := hid hx6
        have HN6 := hid hn6
        have R6 := hid (R5.out.away A5.out.m T6.out)
        have C6 := hid ((T6.out.block C5 (lt_of_block HC5.out) (A5.out.m.nob HC5.out (by decide) (by decide))).trans HC5.out)
        clear ha6 hx6 hn6 ht6
        refine hK.out _ _ (HSW.out _ C6.out) (fun hHeld => ?_)
        try clear hK K
        (try simp only [Act.put, putS])
        refine wpAnyH_ready (rs := [5]) (by kernel_rfl) (by simp) ?_
        refine AllReadyH.cons rfl (fun K hK => ?_) AllReadyH.nil
        rw [if_pos (by rfl)]
        go_wp2_with fail
        refine (rapply_any xb (2 + 2 * i) rv sv N N' Y Z' ⟨c0, c1, c2, c3, c4, c5⟩ r _ R6.out HGY.out (by rw [HYX.out]; exact HST.out) (by have := HI40.out; omega)).mono ?_
        rintro e w7 ⟨rv7, sv7, Y7, rfl, hr7, hy7, ht7⟩
        have R7 := hid hr7
        have HY7 := hid hy7
        have A7 := hid (A6.out.away R6.out.box ht7)
        have C7 : Hid (w7.heap[C5]? = some (.cells #[.int .i64 c0, .int .i64 c1, .int .i64 c2, .int .i64 c3, .int .i64 c4, .int .i64 c5] 24 (0, 0))) := hid ((ht7.block C5 (lt_of_block C6.out) (fun e => by
          have e' : C5 = xb := e
          have h1 := C6.out
          rw [e', R6.out.box] at h1
          cases h1)).trans C6.out)
        have T7 := hid ht7
        clear hr7 hy7 ht7
        refine hK.out _ _ (HSW.out _ C7.out) (fun hHeld => ?_)
        try clear hK K
        (try simp only [Act.put, putS])
        refine wpAnyH_take (i := 6) (v := ?dv6) rfl (by kernel_rfl) (by kernel_rfl) (by kernel_rfl) (fun _ _ _ h => h) (Or.inl ⟨by rfl, ?dy6⟩) (by assumption) ?dr6
        case dy6 => (intro w hSw; (try dsimp only at hSw); go_simp; try with_reducible rfl)
        (try simp only [Act.put, putS])
        refine wpAnyH_done (by kernel_rfl) ?_ _
        have HREL : Hid (PlI w b wb mb xb (i + 1) w7) := hid ⟨⟨n6, ov6, D6, N', X6, rv7, sv7, Y7, A7.out, R7.out, by rw [HY7.out, HX6.out], by rw [HX6.out]; exact HG2.out.mono (by omega), by have := HN6.out; have := HNI.out; omega, by rw [HX6.out]; exact HT2.out⟩, (B5.out.trans (T6.out.to HRA.out B5.out.size)).trans (T7.out.to (fun q hq => by have e : q = xb := hq; rw [e]; exact HRX.out) (Nat.le_trans B5.out.size T6.out.size)), HRA.out, HRX.out⟩
        go_wp2_with fail
        go_roundw
        case rel => exact ⟨i + 1, by go_num, by omega, by omega, HREL.out⟩
        case measure => simp [intOf]; omega
    · go_wp2_with fail
      go_ret3
      exact HFIN.out
end Go.Proofs.Ytnkjkaofgninnaa
namespace Go.Proofs.Ytnkjkaofgninnaa
open Go.RowKit Go.Maps Go.Shelf
set_option linter.unusedVariables false
set_option linter.unusedSimpArgs false

theorem ain_of {B : Nat} {N : AtN} {X : List SX} (g : Gd B N (X.map (·.s))) (hB : B ≤ 1000) : AIn N X := by
  have hm : ∀ x ∈ X, x.s ∈ X.map (·.s) := fun x hx => List.mem_map.2 ⟨x, hx, rfl⟩
  refine ⟨(chn_d X 0 N.bl).2 g.ch, fun x hx => ⟨?_, ?_, fun o ho => ?_⟩, fun x hx => ?_, one_of (ne_map g.ne), ?_, ?_, ?_⟩
  · have := mem7 (g.mb x.s (hm x hx)); omega
  · have := (g.pa x.s (hm x hx)).1; omega
  · have := mem7 ((g.pa x.s (hm x hx)).2 o ho); omega
  · have := g.id x.s (hm x hx); have := g.nx; omega
  · have := g.len; rw [List.length_map] at this; omega
  · have := g.opl; omega
  · have := g.bl; omega
end Go.Proofs.Ytnkjkaofgninnaa
namespace Go.Proofs.Ytnkjkaofgninnaa
open Go.RowKit Go.Maps Go.Shelf
set_option linter.unusedVariables false
set_option linter.unusedSimpArgs false

structure Gp (N : AtN) (Z : List ShD) : Prop where
  p : ∀ S ∈ Z, ∀ o ∈ S.past, (1 ≤ o.id ∧ o.id < N.nx) ∧ (0 ≤ o.fr ∧ o.fr ≤ 256) ∧ (0 ≤ o.to ∧ o.to ≤ 256)
  o : ∀ n ∈ N.op, 1 ≤ n ∧ n < N.nx
  q : ∀ S ∈ Z, (∀ o ∈ S.past, o.id < S.id ∧ o.fr < o.to) ∧ ∀ i (h : i + 1 < S.past.length), S.past[i].to = S.past[i + 1].fr
  r : ∀ i (h : i + 1 < N.op.length), N.op[i] < N.op[i + 1]
  x : ∀ k ∈ N.op, ∃ S ∈ Z, S.id = k
theorem ChnD.next : ∀ (G : List ShD) (a b : Int), ChnD a G b → ∀ i (h : i + 1 < G.length), G[i].to = G[i + 1].fr
  | [], _, _, _, i, h => by cases h
  | [x], _, _, _, i, h => by simp at h
  | x :: y :: l, a, b, ⟨h1, h2, h3⟩, i, h => by
    cases i with
    | zero => exact h3.1.symm
    | succ i => exact ChnD.next (y :: l) x.to b h3 i (by simpa using h)
theorem nwD_has (ml : List Int) (ps : List OrD) : ∀ (l : List Sp) (nx : Int) (i : Nat), i < l.length → ∃ S ∈ nwD nx ml ps l, S.id = nx + i
  | [], nx, i, h => by cases h
  | t :: l, nx, i, h => by
    cases i with
    | zero => exact ⟨_, List.mem_cons_self .., by simp⟩
    | succ i =>
      obtain ⟨S, hS, e⟩ := nwD_has ml ps l (nx + 1) i (by simpa using h)
      exact ⟨S, List.mem_cons_of_mem _ hS, by rw [e]; omega⟩
theorem or_small {B : Nat} {N : AtN} {Z : List ShD} (g : Gd B N Z) (S : ShD) (hS : S ∈ Z) : (1 ≤ S.or.id ∧ S.or.id < N.nx) ∧ (0 ≤ S.or.fr ∧ S.or.fr ≤ 256) ∧ (0 ≤ S.or.to ∧ S.or.to ≤ 256) := by
  have h1 := g.id S hS
  have h2 := ChnD.mem Z 0 N.bl g.ch S hS
  have h3 := g.bl
  exact ⟨h1, ⟨by show 0 ≤ S.fr; omega, by show S.fr ≤ 256; omega⟩, ⟨by show 0 ≤ S.to; omega, by show S.to ≤ 256; omega⟩⟩
theorem opD_mem (nx : Int) (j : Nat) (n : Int) (h : n ∈ opD nx j) : nx ≤ n ∧ n < nx + j := by
  obtain ⟨i, hi, rfl⟩ := List.mem_map.1 h
  have := List.mem_range.1 hi
  constructor <;> omega
theorem Gp.put {B : Nat} {N : AtN} {P G Q : List ShD} {ml : List Int} {sp : List Sp} (g : Gd B N (P ++ G ++ Q)) (h : Gp N (P ++ G ++ Q)) : Gp (afD N sp) (P ++ nwD N.nx ml (G.map ShD.or) sp ++ Q) := by
  have hnx := g.nx
  have hcase : ∀ S ∈ P ++ nwD N.nx ml (G.map ShD.or) sp ++ Q, S ∈ P ++ G ++ Q ∨ S ∈ nwD N.nx ml (G.map ShD.or) sp := fun S hS => by
    rcases List.mem_append.1 hS with hS | hS
    · rcases List.mem_append.1 hS with hS | hS
      · exact .inl (by simp [hS])
      · exact .inr hS
    · exact .inl (by simp [hS])
  refine ⟨fun S hS o ho => ?_, fun n hn => ?_, fun S hS => ?_, fun i h => ?_, fun k hk => ?_⟩
  · show (1 ≤ o.id ∧ o.id < N.nx + sp.length) ∧ _
    rcases hcase S hS with h1 | h1
    · have := h.p S h1 o ho
      exact ⟨by omega, this.2⟩
    · rw [(nwD_mem _ _ _ _ S h1).2.1] at ho
      obtain ⟨T, hT, rfl⟩ := List.mem_map.1 ho
      have := or_small g T (by simp [hT])
      exact ⟨by omega, this.2⟩
  · have := opD_mem _ _ n hn
    show 1 ≤ n ∧ n < N.nx + sp.length
    omega
  · rcases hcase S hS with h1 | h1
    · exact h.q S h1
    · obtain ⟨h2, h3, h4, h5⟩ := nwD_mem _ _ _ _ S h1
      have key : ∀ ps : List OrD, ps = G.map ShD.or → (∀ o ∈ ps, o.id < S.id ∧ o.fr < o.to) ∧ ∀ i (h : i + 1 < ps.length), ps[i].to = ps[i + 1].fr := ?_
      · exact key _ h3
      rintro _ rfl
      refine ⟨fun o ho => ?_, fun i hi => ?_⟩
      · obtain ⟨T, hT, rfl⟩ := List.mem_map.1 ho
        have h6 := or_small g T (by simp [hT])
        have h7 := ChnD.mem _ _ _ g.ch T (by simp [hT])
        refine ⟨by omega, ?_⟩
        show T.fr < T.to
        exact h7.2.1
      · obtain ⟨m1, hP, hm1⟩ := (ChnD.append (P ++ G) Q _ _).1 g.ch
        obtain ⟨m2, hP2, hG2⟩ := (ChnD.append P G _ _).1 hP
        have := ChnD.next G _ _ hG2 i (by simpa using hi)
        simpa [ShD.or] using this
  · simp only [afD, opD, List.length_map, List.length_range, List.getElem_map, List.getElem_range] at h ⊢
    omega
  · obtain ⟨i, hi, rfl⟩ := List.mem_map.1 hk
    obtain ⟨S, hS, e⟩ := nwD_has ml (G.map ShD.or) sp N.nx i (List.mem_range.1 hi)
    exact ⟨S, by simp [hS], e⟩
theorem gp_step {B : Nat} {N N' : AtN} {Z Z' : List ShD} {c : ChD} {r : Int} (g : Gd B N Z) (h : Gp N Z) (hs : StepR N Z c r N' Z') : Gp N' Z' := by
  cases hs with
  | bad _ => exact h
  | calm _ _ _ _ => exact h
  | settle _ _ _ _ => exact ⟨h.p, fun n hn => (by cases hn), h.q, fun i hi => (by simp at hi), fun k hk => (by cases hk)⟩
  | down _ _ _ _ => exact h
  | miss _ _ _ _ _ => exact h
  | miss2 _ _ _ _ _ _ _ _ _ _ => exact h
  | unfit _ _ _ _ _ _ _ _ _ _ _ => exact h
  | unfit2 _ _ _ _ _ _ _ _ _ _ _ _ _ _ _ => exact h
  | one hk hn h5 h2 ho P Q S hZ hi hf =>
    have e : Z = P ++ [S] ++ Q := by rw [hZ]; simp
    rw [e] at g h
    exact Gp.put (G := [S]) g h
  | two hk hn h2 ho P Q S U hZ hi hj =>
    have e : Z = P ++ [S, U] ++ Q := by rw [hZ]; simp
    rw [e] at g h
    exact Gp.put (G := [S, U]) g h
theorem Gp.new (N : AtN) (Z : List ShD) (h : N.op = []) (hp : ∀ S ∈ Z, S.past = []) : Gp N Z := by
  refine ⟨fun S hS o ho => ?_, fun n hn => ?_, fun S hS => ⟨fun o ho => ?_, fun i hi => ?_⟩, fun i hi => ?_, fun k hk => ?_⟩
  · rw [hp S hS] at ho; cases ho
  · rw [h] at hn; cases hn
  · rw [hp S hS] at ho; cases ho
  · exfalso; simp [hp S hS] at hi
  · exfalso; simp [h] at hi
  · rw [h] at hk; cases hk
theorem mem_small {l : List Int} (h : memB l = true) : (∀ n ∈ l, 0 ≤ n ∧ n < 7) ∧ l.length ≤ 7 := ⟨(mem_rise h).2.1, by have := mem7 h; omega⟩
/-- Such a map may be laid. -/
theorem enj_of {B : Nat} {N : AtN} {X : List SX} (g : Gd B N (X.map (·.s))) (h : Gp N (X.map (·.s))) (hB : B ≤ 1000) : EnJ N X := by
  have hnx := g.nx
  have hep := g.ep
  have hbl := g.bl
  have hol := g.opl
  refine ⟨by omega, by omega, by omega, fun n hn => by have := h.o n hn; omega, by omega, fun x hx => ?_⟩
  have hm : x.s ∈ X.map (·.s) := List.mem_map.2 ⟨x, hx, rfl⟩
  obtain ⟨m1, m2⟩ := mem_small (g.mb x.s hm)
  have ho := or_small g x.s hm
  have h0 : (1 ≤ x.s.id ∧ x.s.id < N.nx) ∧ (0 ≤ x.s.fr ∧ x.s.fr ≤ 256) ∧ (0 ≤ x.s.to ∧ x.s.to ≤ 256) := ho
  refine ⟨⟨⟨?_, ?_⟩, h0.2.1, h0.2.2, m1, m2⟩, fun o hop => ?_, (g.pa x.s hm).1⟩
  · show 0 ≤ x.s.id; omega
  · show x.s.id ≤ 2000000000; omega
  · obtain ⟨n1, n2⟩ := mem_small ((g.pa x.s hm).2 o hop)
    have hp := h.p x.s hm o hop
    exact ⟨by omega, hp.2.1, hp.2.2, n1, n2⟩
end Go.Proofs.Ytnkjkaofgninnaa
namespace Go.Proofs.Ytnkjkaofgninnaa
open Go.RowKit Go.Maps Go.Shelf
set_option linter.unusedVariables false
set_option linter.unusedSimpArgs false

/-- What play leaves. -/
def PlyG (w : World) (e : Ending) (w' : World) : Prop := ∃ b wb mb n ov D N X xb rv sv Y, e = .returned (.tuple #[.pointer (some ⟨b, 0, none⟩), .pointer (some ⟨xb, 0, none⟩), .bool true]) ∧ At w' b wb mb n ov D N X ∧ RB w' xb N rv sv Y ∧ Y.map (·.s) = X.map (·.s) ∧ Gd 100 N (X.map (·.s)) ∧ n ≤ 100 ∧ Below w.heap.size w w' ∧ (∀ q, AtR b wb mb q → w.heap.size ≤ q) ∧ w.heap.size ≤ xb ∧ Gp N (X.map (·.s))
/-- Both maps side by side, behind i steps. -/
structure PlG (w : World) (b wb mb xb i : Nat) (wr : World) : Prop where
  both : ∃ n ov D N X rv sv Y, At wr b wb mb n ov D N X ∧ RB wr xb N rv sv Y ∧ Y.map (·.s) = X.map (·.s) ∧ Gd (2 + 2 * i) N (X.map (·.s)) ∧ n ≤ 1 + 2 * i ∧ Gp N (X.map (·.s))
  bel : Below w.heap.size w wr
  ra : ∀ q, AtR b wb mb q → w.heap.size ≤ q
  rx : w.heap.size ≤ xb
set_option maxRecDepth 100000 in
set_option maxHeartbeats 8000000 in
theorem playG_any (bl : Int) (L : List (ChD × Bool)) (v : Value) (w : World) (hv : Stps w v L) (hj : ∀ x ∈ L, ChJ x.1) :
    Calls Try.prog 4 #[.int .i64 bl, v] w (PlyG w) := by
  have HV := hid hv
  have HJ := hid hj
  have hL := hv.len
  obtain ⟨va, vc, rfl⟩ := hv.shape
  clear hv hj
  have hrr := rest_in64 bl 60 (by omega) (by omega)
  obtain ⟨nb, hnb⟩ : ∃ nb, nb = wrap64 (1 + wrap64 ((IntKind.u64.wrap bl).tmod 60)) := ⟨_, rfl⟩
  have HNB : Hid (1 ≤ nb ∧ nb ≤ 256) := hid (by rw [hnb, IntWalk.wrap64_in _ (by omega)]; omega)
  have HQ := hid hnb
  clear hnb hrr
  have HO : Hid (∀ W : World, (W.alloc (.cells #[.int .i64 0, .int .i64 1, .int .i64 2] 3)).ownsRow 0 3 1 (.slice (some ⟨W.heap.size, 0, none⟩) 3 3) 3 (nvs [0, 1, 2])) := hid fun W => own_many W 3 #[.int .i64 0, .int .i64 1, .int .i64 2] 1 3 (Nat.zero_le _) rfl (by omega)
  have HN1 := hid (anew_yes nb [0, 1, 2] (.slice (some ⟨w.heap.size, 0, none⟩) 3 3) (w.alloc (.cells #[.int .i64 0, .int .i64 1, .int .i64 2] 3)) (nums_own (HO.out w) rfl) (by simp) (by unfold anewB; rw [decide_eq_true HNB.out.1, decide_eq_true HNB.out.2, mem012]; rfl))
  have HN3 := hid fun W : World => rnewB_any nb [0, 1, 2] (some ⟨W.heap.size, 0, none⟩) 3 (W.alloc (.cells #[.int .i64 0, .int .i64 1, .int .i64 2] 3)) (HO.out W)
  go_enter Try.func4, Try.ntmps4
  go_upto_region 2 with fail
  rw [← HQ.out]
  clear HQ
  go_upto_region 3 with (go_at_call 18; refine HN1.out.mono ?_; rintro e w2 ⟨b, wb, mb, D, mv, pv, rfl, ha2, hb2, hr2⟩; have A2 := hid ha2; have HR2 := hid hr2; have B2 := hid (((Below.refl w.heap.size w).alloc (Nat.le_refl _) (.cells #[.int .i64 0, .int .i64 1, .int .i64 2] 3)).trans (hb2.mono (by simp))); clear ha2 hb2 hr2)
  go_upto_region 4 with (go_at_call 19; refine (HN3.out w2).mono ?_; rintro e w3 ⟨xb, sv, Y0, rfl, hr3, hy3, hb3, hx3⟩; have R3 := hid hr3; have HY3 := hid hy3; have HX3 : Hid (w.heap.size ≤ xb) := hid (Nat.le_trans B2.out.size (Nat.le_trans (by simp) hx3)); have HB3 := hid (((Below.refl w2.heap.size w2).alloc (Nat.le_refl _) (.cells #[.int .i64 0, .int .i64 1, .int .i64 2] 3)).trans (hb3.mono (by simp))); clear hr3 hy3 hb3 hx3)
  have HPI : Hid (PlG w b wb mb xb 0 w3) := hid ⟨⟨1, _, D, ⟨nb, 1, 2, []⟩, _, _, sv, Y0, A2.out.below HB3.out, R3.out, HY3.out, gd_new nb HNB.out, by omega, Gp.new _ _ rfl (by intro S hS; rw [List.mem_singleton.1 hS])⟩, B2.out.trans (HB3.out.mono B2.out.size), fun q hq => Nat.le_trans (by simp) (HR2.out q hq), HX3.out⟩
  clear A2 HR2 B2 R3 HY3 HX3 HB3 HN1 HN3 HO
  go_wp2_with fail
  go_loopw [11, 12, 13, 32] (fun _ _ _ iv wr => ∃ i : Nat, iv = .int .i64 i ∧ i ≤ L.length ∧ i ≤ 40 ∧ PlG w b wb mb xb i wr) (fun _ _ _ iv _ => L.length - (intOf iv).toNat)
  case atStart => exact ⟨0, rfl, Nat.zero_le _, by omega, HPI.out⟩
  case round =>
    obtain ⟨i, rfl, hi, hi40, hpi⟩ := hrel
    have P := hid hpi
    have HFIN : Hid (PlyG w (.returned (.tuple #[.pointer (some ⟨b, 0, none⟩), .pointer (some ⟨xb, 0, none⟩), .bool true])) wr) := hid (by
      obtain ⟨⟨n, ov, D, N, X, rv, sv, Y, h1, h2, h3, h4, h5, h9⟩, h6, h7, h8⟩ := hpi
      exact ⟨b, wb, mb, n, ov, D, N, X, xb, rv, sv, Y, rfl, h1, h2, h3, h4.mono (by omega), by omega, h6, h7, h8, h9⟩)
    clear hpi
    by_cases hlt : (i : Int) < (L.length : Int)
    · have hil : i < L.length := by omega
      have HVR := hid (HV.out.below P.out.bel)
      obtain ⟨gs, os, rfl⟩ := HVR.out.addr (by omega)
      have hrg := HVR.out.range i hil
      have HXJ := hid (HJ.out L[i] (List.getElem_mem hil))
      obtain ⟨⟨⟨k0, k1, k2, k3, k4, k5⟩, nr⟩, hx⟩ : ∃ x, x = L[i] := ⟨_, rfl⟩
      rw [← hx] at hrg HXJ
      clear hx
      unfold stC at hrg
      obtain ⟨dT, hdT1, hdT2⟩ := Try.rowSt
      obtain ⟨w3, hw3⟩ : ∃ w3, w3 = wr.alloc (.cells #[.int .i64 k0, .int .i64 k1, .int .i64 k2, .int .i64 k3, .int .i64 k4, .int .i64 k5, .bool nr] 26) := ⟨_, rfl⟩
      have HB3 : Hid (Below wr.heap.size wr w3) := hid (by rw [hw3]; exact (Below.refl _ _).alloc (Nat.le_refl _) _)
      have HS3 : Hid (w3.heap[wr.heap.size]? = some (.cells #[.int .i64 k0, .int .i64 k1, .int .i64 k2, .int .i64 k3, .int .i64 k4, .int .i64 k5, .bool nr] 26 (0, 0))) := hid (by rw [hw3]; exact heap_alloc_new _ _)
      have HW3 := hid hw3
      clear hw3
      go_upto_region 9 with (refine wpList_load_mid rfl _ _ rfl gs (os + i * 7) (by go_simp) [.int .i64 k0, .int .i64 k1, .int .i64 k2, .int .i64 k3, .int .i64 k4, .int .i64 k5, .bool nr] dT hrg hdT1 hdT2 Try.sizeSt ?_)
      rw [← HW3.out]
      clear HW3 hrg
      by_cases h40 : (40 : Int) ≤ (i : Int)
      · have HF3 : Hid (PlyG w (.returned (.tuple #[.pointer (some ⟨b, 0, none⟩), .pointer (some ⟨xb, 0, none⟩), .bool true])) w3) := hid (by
          obtain ⟨⟨n, ov, D, N, X, rv, sv, Y, h1, h2, h3, h4, h5, h9⟩, h6, h7, h8⟩ := P.out
          exact ⟨b, wb, mb, n, ov, D, N, X, xb, rv, sv, Y, rfl, h1.below HB3.out, h2.below HB3.out, h3, h4.mono (by omega), by omega, h6.trans (HB3.out.mono h6.size), h7, h8, h9⟩)
        go_wp2_with fail
        go_ret3
        exact HF3.out
      · have HI40 : Hid (i < 40) := hid (by omega)
        obtain ⟨⟨n, ov, D, N, X, rv, sv, Y, h1, h2, h3, h4, h5, h9⟩, h6, h7, h8⟩ := P.out
        have A3 := hid (h1.below HB3.out)
        have R3 := hid (h2.below HB3.out)
        have HYX := hid h3
        have HGX := hid h4
        have HGY : Hid (Gd (2 + 2 * i) N (Y.map (·.s))) := hid (by rw [h3]; exact h4)
        have HNI := hid h5
        have B3 := hid (h6.trans (HB3.out.mono h6.size))
        have HRA := hid h7
        have HRX := hid h8
        have HT9 := hid h9
        clear h1 h2 h3 h4 h5 h6 h7 h8 h9 HVR P HFIN
        have HOF := hid (of_any ⟨k0, k1, k2, k3, k4, k5⟩ nr xb (2 + 2 * i) rv sv N Y w3 HXJ.out R3.out HGY.out (by have := HI40.out; omega))
        unfold stV at HOF
        have hrg3 : w3.rangeAt wr.heap.size 0 [.int .i64 k0, .int .i64 k1, .int .i64 k2, .int .i64 k3, .int .i64 k4, .int .i64 k5, .bool nr] := range_of_row HS3.out 0 _ fun j v hv => by rw [Nat.zero_add]; simpa using hv
        generalize wr.heap.size = S3 at *
        go_upto_region 11 with (first | (refine wpList_load_mid rfl _ _ rfl S3 0 (by go_simp) [.int .i64 k0, .int .i64 k1, .int .i64 k2, .int .i64 k3, .int .i64 k4, .int .i64 k5, .bool nr] dT hrg3 hdT1 hdT2 Try.sizeSt ?_) | (go_at_call 6; refine HOF.out.mono ?_; rintro e w4 ⟨⟨c0, c1, c2, c3, c4, c5⟩, rfl, hcj, hb4⟩; unfold chV; have HCJ := hid hcj; have HB4 := hid hb4; clear hcj hb4))
        obtain ⟨w5, hw5⟩ : ∃ w5, w5 = w4.alloc (.cells #[.int .i64 c0, .int .i64 c1, .int .i64 c2, .int .i64 c3, .int .i64 c4, .int .i64 c5] 24) := ⟨_, rfl⟩
        have HB5 : Hid (Below w4.heap.size w4 w5) := hid (by rw [hw5]; exact (Below.refl _ _).alloc (Nat.le_refl _) _)
        have HC5 : Hid (w5.heap[w4.heap.size]? = some (.cells #[.int .i64 c0, .int .i64 c1, .int .i64 c2, .int .i64 c3, .int .i64 c4, .int .i64 c5] 24 (0, 0))) := hid (by rw [hw5]; exact heap_alloc_new _ _)
        rw [← hw5]
        clear hw5
        have HB35 := hid (HB4.out.trans (HB5.out.mono HB4.out.size))
        have A5 := hid (A3.out.below HB35.out)
        have R5 := hid (R3.out.below HB35.out)
        have B5 := hid (B3.out.trans (HB35.out.mono B3.out.size))
        generalize w4.heap.size = C5 at *
        obtain ⟨r, N', Z', hst⟩ := step_ex N (X.map (·.s)) ⟨c0, c1, c2, c3, c4, c5⟩ HGX.out.ne
        have HST := hid hst
        have HG2 := hid (gd_step HGX.out hst)
        have HT2 := hid (gp_step HGX.out HT9.out hst)
        clear hst HB4 HB5 HB35 A3 R3 B3 HOF hrg3 HS3 HB3
        obtain ⟨dC, hdC1, hdC2⟩ := Try.rowCh
        have HSW : Hid (∀ Y : World, Y.heap[C5]? = some (.cells #[.int .i64 c0, .int .i64 c1, .int .i64 c2, .int .i64 c3, .int .i64 c4, .int .i64 c5] 24 (0, 0)) → Y.rangeAt C5 0 [.int .i64 c0, .int .i64 c1, .int .i64 c2, .int .i64 c3, .int .i64 c4, .int .i64 c5]) := hid fun Y hY => range_of_row hY 0 _ fun j v hv => by rw [Nat.zero_add]; simpa using hv
        refine wp_region_held_drew (S := fun Y => Y.rangeAt C5 0 [.int .i64 c0, .int .i64 c1, .int .i64 c2, .int .i64 c3, .int .i64 c4, .int .i64 c5]) (by kernel_rfl) (HSW.out _ HC5.out) (fun hHeld => ?_)
        refine wpAnyH_take (i := 0) (v := ?av0) rfl (by kernel_rfl) (by kernel_rfl) (by kernel_rfl) (fun _ _ _ h => h) (Or.inl ⟨by rfl, ?ay0⟩) (by assumption) ?ar0
        case ay0 => (intro w hSw; (try dsimp only at hSw); go_simp; try with_reducible rfl)
        (try simp only [Act.put, putS])
        refine wpAnyH_take (i := 1) (v := .agg #[.int .i64 c0, .int .i64 c1, .int .i64 c2, .int .i64 c3, .int .i64 c4, .int .i64 c5]) rfl (by kernel_rfl) (by kernel_rfl) (by kernel_rfl) (fun _ _ _ h => h) (yieldsIf_load_mid rfl _ _ rfl C5 0 rfl [.int .i64 c0, .int .i64 c1, .int .i64 c2, .int .i64 c3, .int .i64 c4, .int .i64 c5] dC (fun Y hY => hY) hdC1 hdC2 Try.sizeCh) (by assumption) ?_
        (try simp only [Act.put, putS])
        refine wpAnyH_take (i := 3) (v := ?bv3) rfl (by kernel_rfl) (by kernel_rfl) (by kernel_rfl) (fun _ _ _ h => h) (Or.inl ⟨by rfl, ?by3⟩) (by assumption) ?br3
        case by3 => (intro w hSw; (try dsimp only at hSw); go_simp; try with_reducible rfl)
        (try simp only [Act.put, putS])
        refine wpAnyH_take (i := 4) (v := .agg #[.int .i64 c0, .int .i64 c1, .int .i64 c2, .int .i64 c3, .int .i64 c4, .int .i64 c5]) rfl (by kernel_rfl) (by kernel_rfl) (by kernel_rfl) (fun _ _ _ h => h) (yieldsIf_load_mid rfl _ _ rfl C5 0 rfl [.int .i64 c0, .int .i64 c1, .int .i64 c2, .int .i64 c3, .int .i64 c4, .int .i64 c5] dC (fun Y hY => hY) hdC1 hdC2 Try.sizeCh) (by assumption) ?_
        (try simp only [Act.put, putS])
        refine wpAnyH_ready (rs := [2]) (by kernel_rfl) (by simp) ?_
        refine AllReadyH.cons rfl (fun K hK => ?_) AllReadyH.nil
        rw [if_pos (by rfl)]
        go_wp2_with fail
        refine (aapply_any b wb mb n (2 + 2 * i) ov D N N' X Z' ⟨c0, c1, c2, c3, c4, c5⟩ r _ (A5.out.below ((Below.refl _ _).drew)) HGX.out HST.out HCJ.out (by have := HI40.out; omega) (by have := HI40.out; have := HNI.out; omega)).mono ?_
        rintro e w6 ⟨n6, ov6, D6, X6, rfl, ha6, hx6, hn6, ht6⟩
        have T6 := hid ((Tr.below (R := AtR b wb mb) ((Below.refl w5.heap.size w5).drew)).trans ht6)
        have A6 := hid ha6
        have HX6 := hid hx6
        have HN6 := hid hn6
        have R6 := hid (R5.out.away A5.out.m T6.out)
        have C6 := hid ((T6.out.block C5 (lt_of_block HC5.out) (A5.out.m.nob HC5.out (by decide) (by decide))).trans HC5.out)
        clear ha6 hx6 hn6 ht6
        refine hK.out _ _ (HSW.out _ C6.out) (fun hHeld => ?_)
        try clear hK K
        (try simp only [Act.put, putS])
        refine wpAnyH_ready (rs := [5]) (by kernel_rfl) (by simp) ?_
        refine AllReadyH.cons rfl (fun K hK => ?_) AllReadyH.nil
        rw [if_pos (by rfl)]
        go_wp2_with fail
        refine (rapply_any xb (2 + 2 * i) rv sv N N' Y Z' ⟨c0, c1, c2, c3, c4, c5⟩ r _ R6.out HGY.out (by rw [HYX.out]; exact HST.out) (by have := HI40.out; omega)).mono ?_
        rintro e w7 ⟨rv7, sv7, Y7, rfl, hr7, hy7, ht7⟩
        have R7 := hid hr7
        have HY7 := hid hy7
        have A7 := hid (A6.out.away R6.out.box ht7)
        have C7 : Hid (w7.heap[C5]? = some (.cells #[.int .i64 c0, .int .i64 c1, .int .i64 c2, .int .i64 c3, .int .i64 c4, .int .i64 c5] 24 (0, 0))) := hid ((ht7.block C5 (lt_of_block C6.out) (fun e => by
          have e' : C5 = xb := e
          have h1 := C6.out
          rw [e', R6.out.box] at h1
          cases h1)).trans C6.out)
        have T7 := hid ht7
        clear hr7 hy7 ht7
        refine hK.out _ _ (HSW.out _ C7.out) (fun hHeld => ?_)
        try clear hK K
        (try simp only [Act.put, putS])
        refine wpAnyH_take (i := 6) (v := ?dv6) rfl (by kernel_rfl) (by kernel_rfl) (by kernel_rfl) (fun _ _ _ h => h) (Or.inl ⟨by rfl, ?dy6⟩) (by assumption) ?dr6
        case dy6 => (intro w hSw; (try dsimp only at hSw); go_simp; try with_reducible rfl)
        (try simp only [Act.put, putS])
        refine wpAnyH_done (by kernel_rfl) ?_ _
        have HREL : Hid (PlG w b wb mb xb (i + 1) w7) := hid ⟨⟨n6, ov6, D6, N', X6, rv7, sv7, Y7, A7.out, R7.out, by rw [HY7.out, HX6.out], by rw [HX6.out]; exact HG2.out.mono (by omega), by have := HN6.out; have := HNI.out; omega, by rw [HX6.out]; exact HT2.out⟩, (B5.out.trans (T6.out.to HRA.out B5.out.size)).trans (T7.out.to (fun q hq => by have e : q = xb := hq; rw [e]; exact HRX.out) (Nat.le_trans B5.out.size T6.out.size)), HRA.out, HRX.out⟩
        go_wp2_with fail
        go_roundw
        case rel => exact ⟨i + 1, by go_num, by omega, by omega, HREL.out⟩
        case measure => simp [intOf]; omega
    · go_wp2_with fail
      go_ret3
      exact HFIN.out
end Go.Proofs.Ytnkjkaofgninnaa
namespace Go.Proofs.Ytnkjkaofgninnaa
open Go.RowKit Go.Maps Go.Shelf
set_option linter.unusedVariables false
set_option linter.unusedSimpArgs false

set_option maxRecDepth 100000 in
set_option maxHeartbeats 1600000 in
theorem bytesEq_any (v u : Value) (l m : List UInt8) (w : World) (hv : Bts w v l) (hu : Bts w u m) :
    Calls Try.prog 32 #[v, u] w fun e w' => e = .returned (.bool (decide (l = m))) ∧ w' = w := by
  have h1 := conv_string w v l hv
  have h2 := conv_string w u m hu
  clear hv hu
  go_enter Try.func32, Try.ntmps32
  go_wp2_with fail
  go_ret
  exact ⟨by simp; exact Bool.eq_iff_iff.2 (by simp), rfl⟩
set_option maxRecDepth 100000 in
set_option maxHeartbeats 4000000 in
theorem samAW_any (b wb mb n : Nat) (ov : Value) (D : DataW Value) (b2 wb2 mb2 n2 : Nat) (ov2 : Value) (D2 : DataW Value) (N : AtN) (X X2 : List SX) (w : World) (h : Aw w b wb mb n ov D N X) (h2 : Aw w b2 wb2 mb2 n2 ov2 D2 N X2)
    (hin : AIn N X) (hj : EnJ N X) (hin2 : AIn N X2) (hj2 : EnJ N X2) (he : X2.map (·.s) = X.map (·.s)) :
    Calls Try.prog 8 #[.pointer (some ⟨b, 0, none⟩), .pointer (some ⟨b2, 0, none⟩)] w fun e w' => e = .returned (.bool true) ∧ Below w.heap.size w w' := by
  have H1 := hid (encodeW_any b wb mb n ov D N X w h hin hj)
  have H2 := hid (fun W (hW : Aw W b2 wb2 mb2 n2 ov2 D2 N X2) => encodeW_any b2 wb2 mb2 n2 ov2 D2 N X2 W hW hin2 hj2)
  rw [he] at H2
  have A2 := hid h2
  clear h h2 hin hj hin2 hj2 he
  go_enter Try.func8, Try.ntmps8
  go_wp2_with (first
    | (go_at_call 33; refine H1.out.mono ?_; rintro e w1 ⟨va1, vc1, rfl, ho1, hb1⟩; have O1 := hid ho1; have B1 := hid hb1; clear ho1 hb1 H1)
    | (go_at_call 33; refine (H2.out _ (A2.out.below B1.out)).mono ?_; rintro e w2 ⟨va2, vc2, rfl, ho2, hb2⟩; have O2 := hid ho2; have P2 := hid (O1.out.bts.below hb2); have B2 := hid (B1.out.trans (hb2.mono B1.out.size)); clear ho2 hb2)
    | (go_at_call 32; refine (bytesEq_any _ _ _ _ _ P2.out O2.out.bts).mono ?_; rintro e w3 ⟨rfl, rfl⟩))
  go_ret
  exact ⟨by simp, B2.out⟩
theorem samA_any (b wb mb n : Nat) (ov : Value) (D : DataW Value) (b2 wb2 mb2 n2 : Nat) (ov2 : Value) (D2 : DataW Value) (N : AtN) (X X2 : List SX) (w : World) (h : At w b wb mb n ov D N X) (h2 : At w b2 wb2 mb2 n2 ov2 D2 N X2)
    (hin : AIn N X) (hj : EnJ N X) (hin2 : AIn N X2) (hj2 : EnJ N X2) (he : X2.map (·.s) = X.map (·.s)) :
    Calls Try.prog 8 #[.pointer (some ⟨b, 0, none⟩), .pointer (some ⟨b2, 0, none⟩)] w fun e w' => e = .returned (.bool true) ∧ Below w.heap.size w w' :=
  samAW_any b wb mb n ov D b2 wb2 mb2 n2 ov2 D2 N X X2 w h.aw h2.aw hin hj hin2 hj2 he
end Go.Proofs.Ytnkjkaofgninnaa
namespace Go.Proofs.Ytnkjkaofgninnaa
open Go.RowKit Go.Maps Go.Shelf
set_option linter.unusedVariables false
set_option linter.unusedSimpArgs false

/-- A new shard's past. -/
structure StN (Z Z' : List ShD) (N N' : AtN) (T : ShD) : Prop where
  no : ∀ S ∈ Z, S.id ≠ T.id
  ge : N.nx ≤ T.id
  lt : T.id < N'.nx
  l : 1 ≤ T.past.length ∧ T.past.length ≤ 2
  p : ∀ o ∈ T.past, (∃ S ∈ Z, S.or = o) ∧ ∀ U ∈ Z', U.id ≠ o.id
  c : ∀ k, T.fr ≤ k → k < T.to → ∃ o ∈ T.past, o.fr ≤ k ∧ k < o.to
/-- What a change makes that is taken, and no settling. -/
structure StF (N N' : AtN) (Z Z' : List ShD) : Prop where
  ep : N'.ep = N.ep + 1
  op : ∃ l, N'.op = N.nx :: l
  nx : N.nx ≤ N'.nx ∧ N'.nx ≤ N.nx + 2
  t : ∀ T ∈ Z', T ∈ Z ∨ StN Z Z' N N' T
theorem nwD_in (ml : List Int) (ps : List OrD) : ∀ (l : List Sp) (nx : Int), ∀ S ∈ nwD nx ml ps l, (S.fr, S.to) ∈ l
  | [], nx, S, h => by cases h
  | t :: l, nx, S, h => by
    rcases List.mem_cons.1 h with rfl | h
    · exact List.mem_cons_self ..
    · exact List.mem_cons_of_mem _ (nwD_in ml ps l (nx + 1) S h)
theorem stf_put {B : Nat} {N : AtN} {P G Q : List ShD} {ml : List Int} {sp : List Sp} (g : Gd B N (P ++ G ++ Q)) (hG : 1 ≤ G.length ∧ G.length ≤ 2) (hs : 1 ≤ sp.length ∧ sp.length ≤ 2) (hc : ∀ s ∈ sp, ∀ k, s.1 ≤ k → k < s.2 → ∃ S ∈ G, S.fr ≤ k ∧ k < S.to) : StF N (afD N sp) (P ++ G ++ Q) (P ++ nwD N.nx ml (G.map ShD.or) sp ++ Q) := by
  have hlt : ∀ S ∈ P ++ G ++ Q, S.id < N.nx := fun S hS => (g.id S hS).2
  refine ⟨rfl, ?_, ?_, fun T hT => ?_⟩
  · obtain ⟨n, hn⟩ : ∃ n, sp.length = n + 1 := ⟨sp.length - 1, by omega⟩
    refine ⟨(opD N.nx (n + 1)).tail, ?_⟩
    show opD N.nx sp.length = _
    rw [hn]
    simp [opD, List.range_succ_eq_map]
  · show N.nx ≤ N.nx + sp.length ∧ N.nx + (sp.length : Int) ≤ N.nx + 2
    omega
  · have hcase : T ∈ P ++ G ++ Q ∨ T ∈ nwD N.nx ml (G.map ShD.or) sp := by
      rcases List.mem_append.1 hT with hS | hS
      · rcases List.mem_append.1 hS with hS | hS
        · exact .inl (by simp [hS])
        · exact .inr hS
      · exact .inl (by simp [hS])
    rcases hcase with h1 | h1
    · exact .inl h1
    · right
      obtain ⟨h2, h3, h4, h5⟩ := nwD_mem _ _ _ _ T h1
      have h6 := nwD_in _ _ _ _ T h1
      refine ⟨fun S hS e => ?_, h4, h5, ?_, fun o ho => ?_, fun k hk1 hk2 => ?_⟩
      · have := hlt S hS; omega
      · rw [h3, List.length_map]; exact hG
      · rw [h3] at ho
        obtain ⟨S, hS, rfl⟩ := List.mem_map.1 ho
        have hSZ : S ∈ P ++ G ++ Q := by simp [hS]
        refine ⟨⟨S, hSZ, rfl⟩, fun U hU e => ?_⟩
        have e : U.id = S.id := e
        have hne := g.ne
        rw [List.pairwise_append, List.pairwise_append] at hne
        obtain ⟨⟨n1, n2, n3⟩, n4, n5⟩ := hne
        rcases List.mem_append.1 hU with hU | hU
        · rcases List.mem_append.1 hU with hU | hU
          · exact n3 U hU S hS e
          · have := (nwD_mem _ _ _ _ U hU).2.2.1
            have := hlt S hSZ
            omega
        · exact n5 S (by simp [hS]) U hU e.symm
      · obtain ⟨S, hS, h7⟩ := hc _ h6 k hk1 hk2
        rw [h3]
        exact ⟨S.or, List.mem_map.2 ⟨S, hS, rfl⟩, h7⟩
theorem stf_of {B : Nat} {N N' : AtN} {Z Z' : List ShD} {c : ChD} (g : Gd B N Z) (h : StepR N Z c 0 N' Z') (h5 : c.k ≠ 5) : StF N N' Z Z' := by
  generalize hr : (0 : Int) = r at h
  cases h with
  | bad _ => omega
  | calm _ _ _ _ => omega
  | settle _ _ h _ => exact absurd h h5
  | down _ _ _ _ => omega
  | miss _ _ _ _ _ => omega
  | miss2 _ _ _ _ _ _ _ _ _ _ => omega
  | unfit _ _ _ _ _ _ _ _ _ _ _ => omega
  | unfit2 _ _ _ _ _ _ _ _ _ _ _ _ _ _ _ => omega
  | one hk hn h5 h2 ho P Q S hZ hi hf =>
    have e : Z = P ++ [S] ++ Q := by rw [hZ]; simp
    subst e
    refine stf_put (G := [S]) g (by simp) ?_ fun s hs k h1 h2 => ?_
    · unfold spD; split <;> simp
    · refine ⟨S, by simp, ?_⟩
      unfold fit1 at hf
      unfold spD at hs
      split at hs
      · next hk1 =>
        rw [if_pos hk1] at hf
        simp only [Bool.and_eq_true, decide_eq_true_eq] at hf
        simp only [List.mem_cons, List.not_mem_nil, or_false] at hs
        rcases hs with rfl | rfl
        · simp only at h1 h2; omega
        · simp only at h1 h2; omega
      · simp only [List.mem_cons, List.not_mem_nil, or_false] at hs
        rw [hs] at h1 h2
        exact ⟨h1, h2⟩
  | two hk hn h2 ho P Q S U hZ hi hj =>
    have e : Z = P ++ [S, U] ++ Q := by rw [hZ]; simp
    subst e
    refine stf_put (G := [S, U]) g (by simp) (by simp) fun s hs k h1 h2 => ?_
    simp only [List.mem_cons, List.not_mem_nil, or_false] at hs
    subst hs
    obtain ⟨m1, hP, hm1⟩ := (ChnD.append (P ++ [S, U]) Q _ _).1 g.ch
    obtain ⟨m2, hP2, hG2⟩ := (ChnD.append P [S, U] _ _).1 hP
    have hn := ChnD.next [S, U] _ _ hG2 0 (by simp)
    simp only [List.getElem_cons_zero, List.getElem_cons_succ] at hn
    simp only at h1 h2
    by_cases hk : k < S.to
    · exact ⟨S, by simp, h1, hk⟩
    · exact ⟨U, by simp, by omega, h2⟩
end Go.Proofs.Ytnkjkaofgninnaa
namespace Go.Proofs.Ytnkjkaofgninnaa
open Go.RowKit Go.Maps Go.Shelf
set_option linter.unusedVariables false
set_option linter.unusedSimpArgs false

theorem row6St {w : World} {A : Nat} {c0 c1 c2 c3 c4 c5 : Value} {t : TypeId} (h : w.heap[A]? = some (.cells #[c0, c1, c2, c3, c4, c5] t (0, 0))) : w.rangeAt A 0 [c0, c1, c2, c3, c4, c5] := range_of_row h 0 _ fun j v hv => by
  rw [Nat.zero_add]; simpa using hv
theorem wpl_loadChT {ops : Array Oper} {rest : List Oper} {o : Oper} {a : Act} {w : World} {Q : Exit → Act → World → Prop} (hgd : Region.wanted o (yielded ops a.tmps) = true) (x : Operand) (ho : o.op = .load 24 x)
    (b f : Nat) (hx : a.eval x = .pointer (some ⟨b, f, none⟩)) (c0 c1 c2 c3 c4 c5 : Value) (hg : w.rangeAt b f [c0, c1, c2, c3, c4, c5])
    (h : wpList Try.prog ops Q rest (a.put o.dst (.agg #[c0, c1, c2, c3, c4, c5])) w) : wpList Try.prog ops Q (o :: rest) a w := by
  obtain ⟨d, hd1, hd2⟩ := Try.rowCh
  exact wpList_step fun K hK => by rw [if_pos hgd]; exact wp_load_mid _ x ho b f hx [c0, c1, c2, c3, c4, c5] d hg hd1 hd2 Try.sizeCh (hK _ _ h)
/-- A change that is refused leaves all as it was. -/
theorem step_err {N N' : AtN} {Z Z' : List ShD} {c : ChD} {r : Int} (h : StepR N Z c r N' Z') (hr : r ≠ 0) : N' = N ∧ Z' = Z := by
  cases h with
  | bad _ => exact ⟨rfl, rfl⟩
  | calm _ _ _ _ => exact ⟨rfl, rfl⟩
  | settle _ _ _ _ => exact absurd rfl hr
  | down _ _ _ _ => exact ⟨rfl, rfl⟩
  | miss _ _ _ _ _ => exact ⟨rfl, rfl⟩
  | miss2 _ _ _ _ _ _ _ _ _ _ => exact ⟨rfl, rfl⟩
  | unfit _ _ _ _ _ _ _ _ _ _ _ => exact ⟨rfl, rfl⟩
  | unfit2 _ _ _ _ _ _ _ _ _ _ _ _ _ _ _ => exact ⟨rfl, rfl⟩
  | one _ _ _ _ _ _ _ _ _ _ _ => exact absurd rfl hr
  | two _ _ _ _ _ _ _ _ _ _ _ => exact absurd rfl hr
theorem rowSpT : RowT 50 43 (.agg #[.int .i64 0, .int .i64 0]) 2 16 := ⟨by kernel_rfl, by kernel_rfl, rfl, by decide, by decide⟩
theorem wpl_loadSpT {ops : Array Oper} {rest : List Oper} {o : Oper} {a : Act} {w : World} {Q : Exit → Act → World → Prop} (hgd : Region.wanted o (yielded ops a.tmps) = true) (x : Operand) (ho : o.op = .load 43 x)
    (b f : Nat) (hx : a.eval x = .pointer (some ⟨b, f, none⟩)) (c0 c1 : Value) (hg : w.rangeAt b f [c0, c1])
    (h : wpList Try.prog ops Q rest (a.put o.dst (.agg #[c0, c1])) w) : wpList Try.prog ops Q (o :: rest) a w := by
  obtain ⟨d, hd1, hd2⟩ := Try.rowSp
  exact wpList_step fun K hK => by rw [if_pos hgd]; exact wp_load_mid _ x ho b f hx [c0, c1] d hg hd1 hd2 Try.sizeSp (hK _ _ h)
theorem span_in {w : World} {A : Nat} {c0 c1 c2 : Value} {cs : List Value} {t : TypeId} (h : w.heap[A]? = some (.cells (c0 :: c1 :: c2 :: cs).toArray t (0, 0))) : w.rangeAt A 1 [c1, c2] := range_of_row h 1 _ fun j v hv => by
  match j, hv with
  | 0, hv => simpa using hv
  | 1, hv => simpa using hv
def spO (x : OrX) : Sp := (x.o.fr, x.o.to)
theorem of_none (a b : List Sp) (h : ∀ k, InL a k → InL b k) : ofL a b (keepF 2 a b) = [] := by
  have hp := ofL_plain a b (keepF 2 a b) (fun p q => p ∧ ¬ q) (by simp) fun k => by
    have h2 := hasB_iff b k
    simp only [keepF, keepK]
    simp
    rw [hasB_iff a k]
    rw [← h2]; simp
  exact plain_unique hp.1 ⟨(fun x hx => by cases hx), List.Pairwise.nil⟩ fun k => by
    rw [hp.2 k]
    constructor
    · rintro ⟨h1, h2⟩; exact absurd (h k h1) h2
    · rintro ⟨x, hx, -⟩; cases hx
set_option maxRecDepth 100000 in
set_option maxHeartbeats 8000000 in
theorem atlasStems_any (bl : Int) (L : List (ChD × Bool)) (v : Value) (x : ChD × Bool) (w : World) (hv : Stps w v L) (hj : ∀ x ∈ L, ChJ x.1) (hx : ChJ x.1) :
    Calls Try.prog 3 #[.int .i64 bl, v, .agg (stC x).toArray] w fun e w' => e = .returned (.bool true) ∧ Below w.heap.size w w' := by
  obtain ⟨⟨k, sh, ot, at', out, in'⟩, nr⟩ := x
  obtain ⟨sa, sc, rfl⟩ := hv.shape
  obtain ⟨w1, hw1⟩ : ∃ w1, w1 = w.alloc (.cells #[.int .i64 k, .int .i64 sh, .int .i64 ot, .int .i64 at', .int .i64 out, .int .i64 in', .bool nr] 26) := ⟨_, rfl⟩
  have B1 : Hid (Below w.heap.size w w1) := hid (by rw [hw1]; exact (Below.refl _ _).alloc (Nat.le_refl _) _)
  have hA1 : w1.heap[w.heap.size]? = some (.cells #[.int .i64 k, .int .i64 sh, .int .i64 ot, .int .i64 at', .int .i64 out, .int .i64 in', .bool nr] 26 (0, 0)) := by rw [hw1]; exact heap_alloc_new _ _
  have HW1 := hid hw1
  have HPL := hid (playG_any bl L _ w1 (hv.below B1.out) hj)
  have HCJ := hid hx
  obtain ⟨dT, hdT1, hdT2⟩ := Try.rowSt
  clear hv hj hw1 hx
  unfold stC
  simp only
  go_enter Try.func3, Try.ntmps3
  go_upto_region 1 with fail
  rw [← HW1.out]
  clear HW1
  obtain ⟨A, hA⟩ : ∃ A, A = w.heap.size := ⟨_, rfl⟩
  rw [← hA] at hA1
  rw [← hA]
  have HA1 := hid hA1
  clear hA hA1
  go_upto_region 4 with (go_at_call 4; refine HPL.out.mono ?_; rintro e w2 ⟨b, wb, mb, n, ov, D, N, X, xb, rv, sv, Yx, rfl, ha, hr, hy, hg, hn, hb, -, -, hgp⟩; have A0 := hid ha; have R0 := hid hr; have HYX := hid hy; have HG := hid hg; have HGP := hid hgp; have HN := hid hn; have HGY : Hid (Gd 100 N (Yx.map (·.s))) := hid (by rw [hy]; exact hg); have HA2 := hid ((hb.block A (lt_of_block HA1.out)).trans HA1.out); have B2 := hid (B1.out.trans (hb.mono B1.out.size)); clear ha hr hy hg hn hb hgp)
  clear HPL HA1 B1
  have AI := hid (ain_of HG.out (by omega))
  go_upto_region 5 with (go_at_call 5; refine (aclone_any b wb mb n ov D N X _ A0.out (by have := HG.out.opl; omega) (by have := AI.out.len; omega)).mono ?_; rintro e w3 ⟨c, cw, cm, ov1, rfl, hac, hb3, hrc⟩; have C3 := hid hac; have B3 := hid hb3; have HRC := hid hrc; clear hac hb3 hrc)
  have HA3 := hid ((B3.out.block A (lt_of_block HA2.out)).trans HA2.out)
  have HOF := hid (of_any ⟨k, sh, ot, at', out, in'⟩ nr xb 100 rv sv N Yx w3 HCJ.out (R0.out.below B3.out) HGY.out (by omega))
  unfold stV at HOF
  have hrA : w3.rangeAt A 0 [.int .i64 k, .int .i64 sh, .int .i64 ot, .int .i64 at', .int .i64 out, .int .i64 in', .bool nr] := range_of_row HA3.out 0 _ fun j v hv => by rw [Nat.zero_add]; simpa using hv
  go_upto_region 6 with (first | (refine wpList_load_mid rfl _ _ rfl A 0 (by go_simp) [.int .i64 k, .int .i64 sh, .int .i64 ot, .int .i64 at', .int .i64 out, .int .i64 in', .bool nr] dT hrA hdT1 hdT2 Try.sizeSt ?_) | (go_at_call 6; refine HOF.out.mono ?_; rintro e w4 ⟨⟨k0, k1, k2, k3, k4, k5⟩, rfl, hcj, hb4⟩; unfold chV; have HC4 := hid hcj; have B4 := hid (B3.out.trans (hb4.mono B3.out.size)); have B34 := hid hb4; clear hcj hb4))
  obtain ⟨w5, hw5⟩ : ∃ w5, w5 = w4.alloc (.cells #[.int .i64 k0, .int .i64 k1, .int .i64 k2, .int .i64 k3, .int .i64 k4, .int .i64 k5] 24) := ⟨_, rfl⟩
  have HB5 : Hid (Below w4.heap.size w4 w5) := hid (by rw [hw5]; exact (Below.refl _ _).alloc (Nat.le_refl _) _)
  have HC5 : Hid (w5.heap[w4.heap.size]? = some (.cells #[.int .i64 k0, .int .i64 k1, .int .i64 k2, .int .i64 k3, .int .i64 k4, .int .i64 k5] 24 (0, 0))) := hid (by rw [hw5]; exact heap_alloc_new _ _)
  rw [← hw5]
  clear hw5 hrA HOF HA3 HA2
  have B5 := hid (B4.out.trans (HB5.out.mono B4.out.size))
  have C5 := hid (C3.out.below (B34.out.trans (HB5.out.mono B34.out.size)))
  have HRC5 : Hid (w2.heap.size ≤ w5.heap.size) := hid B5.out.size
  obtain ⟨K5, hK5⟩ : ∃ K, K = w4.heap.size := ⟨_, rfl⟩
  rw [← hK5] at HC5
  rw [← hK5]
  clear hK5
  obtain ⟨r, N', Z', hst⟩ := step_ex N (X.map (·.s)) ⟨k0, k1, k2, k3, k4, k5⟩ HG.out.ne
  have HST := hid hst
  clear hst
  have hr6 := row6St HC5.out
  go_upto_region 7 with (first | (refine wpl_loadChT (by rfl) _ rfl K5 0 rfl _ _ _ _ _ _ hr6 ?_) | (go_at_call 7; refine (aapply_any c cw cm n 100 ov1 D N N' X Z' ⟨k0, k1, k2, k3, k4, k5⟩ r _ C5.out HG.out HST.out HC4.out (by omega) (by have := HN.out; omega)).mono ?_; rintro e w6 ⟨n6, ov6, D6, X6, rfl, ha6, hx6, hn6, ht6⟩; have C6 := hid ha6; have HX6 := hid hx6; have B6 := hid (B5.out.trans (ht6.to HRC.out B5.out.size)); have HC6 := hid ((ht6.block K5 (lt_of_block HC5.out) (C5.out.m.nob HC5.out (by decide) (by decide))).trans HC5.out); clear ha6 hx6 hn6 ht6))
  clear hr6 HC5 C5 C3 B34 B3 B4 B5 HB5 HRC5
  have A6 := hid (A0.out.below B6.out)
  have k6 : w6.cell? ⟨K5, 0, none⟩ = some (.int .i64 k0) := by rw [cell_of_row _ _ _ _ _ _ HC6.out]; rfl
  by_cases hr0 : r = 0
  · subst hr0
    by_cases hk5 : k0 = 5
    · subst hk5
      go_wp2_with (go_at_call 9; refine (lives_any _).mono ?_; rintro e w7 ⟨rfl, hb7⟩; have B7 := hid (B6.out.trans (hb7.mono B6.out.size)); clear hb7)
      go_ret
      exact ⟨rfl, B2.out.trans (B7.out.mono B2.out.size)⟩
    · have HSF := hid (stf_of HG.out HST.out hk5)
      have hk5b : (k0 == 5) = false := by simpa using hk5
      have HOL : Hid (N'.op.length ≤ 1000000) := hid (by have := (gd_step HG.out HST.out).opl; omega)
      have HOP : Hid (0 < N'.op.length ∧ (nvs N'.op)[0]? = some (.int .i64 N.nx)) := hid (by
        obtain ⟨l, hl⟩ := HSF.out.op
        rw [hl]
        exact ⟨by simp, by simp [nvs]⟩)
      have hol : (0 : Int) < (N'.op.length : Int) := by have := HOP.out.1; omega
      have hol3 : 0 < N'.op.length := HOP.out.1
      have hol2 : ¬ N'.op = [] := fun e => by rw [e] at hol3; cases hol3
      have HEP : Hid (N'.ep = N.ep + 1) := hid HSF.out.ep
      have hep2 : IntKind.i64.wrap (N.ep + 1) = N.ep + 1 := IntWalk.i64_in _ ⟨by have := HG.out.ep; omega, by have := HG.out.ep; omega⟩
      go_upto_region 9 with fail
      go_cut [78] from 58 to 77 (fun v wx => v = .bool false ∧ Below w6.heap.size w6 wx)
      case first =>
        have BT : Hid (Below w6.heap.size w6 w6.drew) := hid ((Below.refl _ _).drew)
        refine wp_region_held_drew (S := fun _ => True) (by kernel_rfl) trivial (fun hHeld => ?_)
        refine wpAnyH_take (i := 0) (v := ?n1xv0) rfl (by kernel_rfl) (by kernel_rfl) (by kernel_rfl) (fun _ _ _ h => h) (Or.inl ⟨by rfl, ?n1xy0⟩) (by assumption) ?n1xr0
        case n1xy0 => (intro w hSw; (try dsimp only at hSw); go_simp; try with_reducible rfl)
        (try simp only [Act.put, putS])
        refine wpAnyH_take (i := 2) (v := ?n2xv2) rfl (by kernel_rfl) (by kernel_rfl) (by kernel_rfl) (fun _ _ _ h => h) (Or.inl ⟨by rfl, ?n2xy2⟩) (by assumption) ?n2xr2
        case n2xy2 => (intro w hSw; (try dsimp only at hSw); go_simp; try with_reducible rfl)
        (try simp only [Act.put, putS])
        refine wpAnyH_ready (rs := [1]) (by kernel_rfl) (by simp) ?_
        refine AllReadyH.cons rfl (fun K hK => ?_) AllReadyH.nil
        rw [if_pos (by rfl)]
        go_wp2_with fail
        refine (aepoch_any c cw cm n6 ov6 D6 N' _ X6 _ (C6.out.below BT.out).m).mono ?_
        rw [HEP.out]
        rintro e wx ⟨rfl, hx⟩
        replace hx := hx.symm
        subst hx
        refine hK.out _ _ trivial (fun hHeld => ?_)
        try clear hK K
        (try simp only [Act.put, putS])
        refine wpAnyH_ready (rs := [3]) (by kernel_rfl) (by simp) ?_
        refine AllReadyH.cons rfl (fun K hK => ?_) AllReadyH.nil
        rw [if_pos (by rfl)]
        go_wp2_with fail
        refine (aepoch_any b wb mb n ov D N _ X _ (A6.out.below BT.out).m).mono ?_
        rintro e wx ⟨rfl, hx⟩
        replace hx := hx.symm
        subst hx
        refine hK.out _ _ trivial (fun hHeld => ?_)
        try clear hK K
        (try simp only [Act.put, putS])
        refine wpAnyH_take (i := 4) (v := (.int .i64 (N.ep + 1))) rfl (by kernel_rfl) (by kernel_rfl) (by kernel_rfl) (fun _ _ _ h => h) (Or.inl ⟨by rfl, ?n3xy4⟩) (by assumption) ?n3xr4
        case n3xy4 => (intro w hSw; (try dsimp only at hSw); go_simp; try with_reducible rfl)
        (try simp only [Act.put, putS])
        refine wpAnyH_take (i := 5) (v := (.bool false)) rfl (by kernel_rfl) (by kernel_rfl) (by kernel_rfl) (fun _ _ _ h => h) (Or.inl ⟨by rfl, ?n4xy5⟩) (by assumption) ?n4xr5
        case n4xy5 => (intro w hSw; (try dsimp only at hSw); go_simp; try with_reducible rfl)
        (try simp only [Act.put, putS])
        refine wpAnyH_take (i := 6) (v := ?n5xv6) rfl (by kernel_rfl) (by kernel_rfl) (by kernel_rfl) (fun _ _ _ h => h) (Or.inl ⟨by rfl, ?n5xy6⟩) (by assumption) ?n5xr6
        case n5xy6 => (intro w hSw; (try dsimp only at hSw); go_simp; try with_reducible rfl)
        (try simp only [Act.put, putS])
        refine wpAnyH_take (i := 7) (v := ?n6xv7) rfl (by kernel_rfl) (by kernel_rfl) (by kernel_rfl) (fun _ _ _ h => h) (Or.inl ⟨by rfl, ?n6xy7⟩) (by assumption) ?n6xr7
        case n6xy7 => (intro w hSw; (try dsimp only at hSw); go_simp; try with_reducible rfl)
        (try simp only [Act.put, putS])
        refine wpAnyH_ready (rs := [8]) (by kernel_rfl) (by simp) ?_
        refine AllReadyH.cons rfl (fun K hK => ?_) AllReadyH.nil
        rw [if_pos (by rfl)]
        go_wp2_with fail
        refine (aopen_any c cw cm n6 ov6 D6 N' _ X6 _ (C6.out.below BT.out).m HOL.out).mono ?_
        rintro e w7 ⟨oa, oc, rfl, -, hb7⟩
        replace BT := hid (BT.out.trans (hb7.mono BT.out.size))
        clear hb7
        refine hK.out _ _ trivial (fun hHeld => ?_)
        try clear hK K
        (try simp only [Act.put, putS])
        refine wpAnyH_take (i := 9) (v := ?n7xv9) rfl (by kernel_rfl) (by kernel_rfl) (by kernel_rfl) (fun _ _ _ h => h) (Or.inl ⟨by rfl, ?n7xy9⟩) (by assumption) ?n7xr9
        case n7xy9 => (intro w hSw; (try dsimp only at hSw); go_simp; try with_reducible rfl)
        (try simp only [Act.put, putS])
        refine wpAnyH_take (i := 10) (v := (.bool false)) rfl (by kernel_rfl) (by kernel_rfl) (by kernel_rfl) (fun _ _ _ h => h) (Or.inl ⟨by rfl, ?n8xy10⟩) (by assumption) ?n8xr10
        case n8xy10 => (intro w hSw; (try dsimp only at hSw); go_simp; try with_reducible rfl)
        (try simp only [Act.put, putS])
        refine wpAnyH_take (i := 11) (v := ?n9xv11) rfl (by kernel_rfl) (by kernel_rfl) (by kernel_rfl) (fun _ _ _ h => h) (Or.inl ⟨by rfl, ?n9xy11⟩) (by assumption) ?n9xr11
        case n9xy11 => (intro w hSw; (try dsimp only at hSw); go_simp; try with_reducible rfl)
        (try simp only [Act.put, putS])
        refine wpAnyH_take (i := 12) (v := ?n10xv12) rfl (by kernel_rfl) (by kernel_rfl) (by kernel_rfl) (fun _ _ _ h => h) (Or.inl ⟨by rfl, ?n10xy12⟩) (by assumption) ?n10xr12
        case n10xy12 => (intro w hSw; (try dsimp only at hSw); go_simp; try with_reducible rfl)
        (try simp only [Act.put, putS])
        refine wpAnyH_take (i := 13) (v := ?n11xv13) rfl (by kernel_rfl) (by kernel_rfl) (by kernel_rfl) (fun _ _ _ h => h) (Or.inl ⟨by rfl, ?n11xy13⟩) (by assumption) ?n11xr13
        case n11xy13 => (intro w hSw; (try dsimp only at hSw); go_simp; try with_reducible rfl)
        (try simp only [Act.put, putS])
        refine wpAnyH_take (i := 17) (v := ?n12xv17) rfl (by kernel_rfl) (by kernel_rfl) (by kernel_rfl) (fun _ _ _ h => h) (Or.inl ⟨by rfl, ?n12xy17⟩) (by assumption) ?n12xr17
        case n12xy17 => (intro w hSw; (try dsimp only at hSw); go_simp; try with_reducible rfl)
        (try simp only [Act.put, putS])
        refine wpAnyH_ready (rs := [14]) (by kernel_rfl) (by simp) ?_
        refine AllReadyH.cons rfl (fun K hK => ?_) AllReadyH.nil
        rw [if_pos (by rfl)]
        go_wp2_with fail
        refine (aopen_any c cw cm n6 ov6 D6 N' _ X6 _ (C6.out.below BT.out).m HOL.out).mono ?_
        rintro e w8 ⟨ob, od, rfl, ho8, hb8⟩
        obtain ⟨go, rfl⟩ : ∃ g, ob = some ⟨g, 0, none⟩ := own_some ho8 HOP.out.1
        have K8 : Hid (w8.cell? ⟨go, 0, none⟩ = some (.int .i64 N.nx)) := hid (own_cell ho8 HOP.out.2)
        replace BT := hid (BT.out.trans (hb8.mono BT.out.size))
        clear hb8 ho8
        refine hK.out _ _ trivial (fun hHeld => ?_)
        try clear hK K
        (try simp only [Act.put, putS])
        refine wpAnyH_take (i := 15) (v := ?n13xv15) rfl (by kernel_rfl) (by kernel_rfl) (by kernel_rfl) (fun _ _ _ h => h) (Or.inl ⟨by rfl, ?n13xy15⟩) (by assumption) ?n13xr15
        case n13xy15 => (intro w hSw; (try dsimp only at hSw); go_simp; try with_reducible rfl)
        (try simp only [Act.put, putS])
        refine wpAnyH_ready (rs := [16, 18]) (by kernel_rfl) (by simp) ?_
        refine AllReadyH.cons rfl (fun K hK => ?_) (AllReadyH.cons rfl (fun K hK => ?_) AllReadyH.nil)
        · rw [if_pos (by rfl)]
          have k8 := K8.out
          go_simp
          refine hK.out _ _ trivial (fun hHeld => ?_)
          clear k8
          try clear hK K
          (try simp only [Act.put, putS])
          refine wpAnyH_ready (rs := [18]) (by kernel_rfl) (by simp) ?_
          refine AllReadyH.cons rfl (fun K hK => ?_) AllReadyH.nil
          rw [if_pos (by rfl)]
          go_wp2_with fail
          refine (anext_any b wb mb n ov D N _ X _ (A6.out.below BT.out).m).mono ?_
          rintro e wx ⟨rfl, hx⟩
          replace hx := hx.symm
          subst hx
          refine hK.out _ _ trivial (fun hHeld => ?_)
          try clear hK K
          (try simp only [Act.put, putS])
          refine wpAnyH_take (i := 19) (v := (.bool false)) rfl (by kernel_rfl) (by kernel_rfl) (by kernel_rfl) (fun _ _ _ h => h) (Or.inl ⟨by rfl, ?n14xy19⟩) (by assumption) ?n14xr19
          case n14xy19 => (intro w hSw; (try dsimp only at hSw); go_simp; try with_reducible rfl)
          (try simp only [Act.put, putS])
          refine wpAnyH_take (i := 20) (v := ?n15xv20) rfl (by kernel_rfl) (by kernel_rfl) (by kernel_rfl) (fun _ _ _ h => h) (Or.inl ⟨by rfl, ?n15xy20⟩) (by assumption) ?n15xr20
          case n15xy20 => (intro w hSw; (try dsimp only at hSw); go_simp; try with_reducible rfl)
          (try simp only [Act.put, putS])
          refine wpAnyH_done (by kernel_rfl) ?_ _
          go_wp2_with fail
          go_meet
          case rel => exact ⟨rfl, BT.out⟩
        · rw [if_pos (by rfl)]
          go_wp2_with fail
          refine (anext_any b wb mb n ov D N _ X _ (A6.out.below BT.out).m).mono ?_
          rintro e wx ⟨rfl, hx⟩
          replace hx := hx.symm
          subst hx
          refine hK.out _ _ trivial (fun hHeld => ?_)
          try clear hK K
          (try simp only [Act.put, putS])
          refine wpAnyH_ready (rs := [16]) (by kernel_rfl) (by simp) ?_
          refine AllReadyH.cons rfl (fun K hK => ?_) AllReadyH.nil
          rw [if_pos (by rfl)]
          have k8 := K8.out
          go_simp
          refine hK.out _ _ trivial (fun hHeld => ?_)
          clear k8
          try clear hK K
          (try simp only [Act.put, putS])
          refine wpAnyH_take (i := 19) (v := (.bool false)) rfl (by kernel_rfl) (by kernel_rfl) (by kernel_rfl) (fun _ _ _ h => h) (Or.inl ⟨by rfl, ?n16xy19⟩) (by assumption) ?n16xr19
          case n16xy19 => (intro w hSw; (try dsimp only at hSw); go_simp; try with_reducible rfl)
          (try simp only [Act.put, putS])
          refine wpAnyH_take (i := 20) (v := ?n17xv20) rfl (by kernel_rfl) (by kernel_rfl) (by kernel_rfl) (fun _ _ _ h => h) (Or.inl ⟨by rfl, ?n17xy20⟩) (by assumption) ?n17xr20
          case n17xy20 => (intro w hSw; (try dsimp only at hSw); go_simp; try with_reducible rfl)
          (try simp only [Act.put, putS])
          refine wpAnyH_done (by kernel_rfl) ?_ _
          go_wp2_with fail
          go_meet
          case rel => exact ⟨rfl, BT.out⟩
      case rest =>
        obtain ⟨rfl, hbc⟩ := hcut
        have BC := hid hbc
        clear hbc
        have C7 := hid (C6.out.below BC.out)
        have B7 := hid (B6.out.trans (BC.out.mono B6.out.size))
        have HG6 := hid (gd_step HG.out HST.out)
        have I6 : Hid (AIn N' X6) := hid (ain_of (by rw [HX6.out]; exact HG6.out) (by omega))
        clear HOL HOP hol hol2 hol3 hep2 HEP hk5b BC C6 B6 A6 HC6 k6 HRC
        go_upto_region 12 with fail
        refine (shards_any c cw cm n6 ov6 D6 N' X6 _ C7.out I6.out.shb I6.out.i64 I6.out.one I6.out.len).mono ?_
        rintro e w8 ⟨Y, ya, yc, rfl, hy8, ho8, hm8, hb8⟩
        have HY8 := hid (hy8.trans HX6.out)
        have O8 := hid (own_low ho8 (Nat.zero_le _))
        have M8 := hid hm8
        have B8 := hid (B7.out.trans (hb8.mono B7.out.size))
        have C8 := hid (C7.out.below hb8)
        clear hy8 ho8 hm8 hb8
        go_upto_region 12 with fail
        have A8 := hid (A0.out.below B8.out)
        have hyl : (Y.length : Int) ≤ 1000 := by
          have e := congrArg List.length HY8.out
          rw [List.length_map] at e
          have := HG6.out.len
          omega
        clear C7 B7 A0 R0
        go_loopw [14, 15, 16, 17, 19, 20, 21, 22, 23, 82] (fun _ _ _ _ _ _ _ _ _ iv wr => ∃ i : Nat, iv = .int .i64 i ∧ i ≤ Y.length ∧ Below w8.heap.size w8 wr) (fun _ _ _ _ _ _ _ _ _ iv _ => Y.length - (intOf iv).toNat)
        case atStart => exact ⟨0, rfl, Nat.zero_le _, Below.refl _ _⟩
        case round =>
          obtain ⟨i, rfl, hi, hbr⟩ := hrel
          have BR := hid hbr
          clear hbr
          by_cases hlt : (i : Int) < (Y.length : Int)
          · have hil : i < Y.length := by omega
            have OR := hid (own_below O8.out BR.out)
            obtain ⟨g, rfl⟩ : ∃ g, ya = some ⟨g, 0, none⟩ := own_some OR.out (by omega)
            have hRG : wr.rangeAt g (i * 5) Y[i].c := own_range OR.out (i * 5) _ (shvs_part Y i hil)
            have HM := hid ((M8.out Y[i] (List.getElem_mem hil)).below BR.out)
            have HTZ : Hid (Y[i].s ∈ Z') := hid (by rw [← HY8.out]; exact List.mem_map_of_mem (List.getElem_mem hil))
            generalize Y[i] = y at *
            obtain ⟨T, mv, pv⟩ := y
            obtain ⟨⟨ma, mc', rfl⟩, ⟨pa, pc, rfl⟩⟩ := (show ShM wr T mv pv from HM.out).shape
            have HTZ : Hid (T ∈ Z') := HTZ
            unfold SX.c at hRG
            simp only at hRG
            go_upto_region 14 with (refine wpl_loadM rfl _ rfl g (i * 5) (by go_simp) _ _ _ _ _ hRG ?_)
            have hb9 : Below wr.heap.size wr (wr.alloc (.cells #[.int .i64 T.id, .int .i64 T.fr, .int .i64 T.to, .slice ma T.mem.length mc', .slice pa T.past.length pc] 46)) := (Below.refl _ _).alloc (Nat.le_refl _) _
            have hP9 := heap_alloc_new wr (.cells #[.int .i64 T.id, .int .i64 T.fr, .int .i64 T.to, .slice ma T.mem.length mc', .slice pa T.past.length pc] 46)
            have B9 := hid (BR.out.trans (hb9.mono BR.out.size))
            have M9 := hid ((show ShM wr T _ _ from HM.out).below hb9)
            have P9 := hid hP9
            have HB9 := hid hb9
            clear hb9 hP9 hRG HM OR
            generalize wr.alloc (.cells #[.int .i64 T.id, .int .i64 T.fr, .int .i64 T.to, .slice ma T.mem.length mc', .slice pa T.past.length pc] 46) = w9 at *
            have t0 : w9.cell? ⟨wr.heap.size, 0, none⟩ = some (.int .i64 T.id) := by rw [cell_of_row _ _ _ _ _ _ P9.out]; rfl
            have HTI : Hid (I64 T.id) := hid (by have h1 := HG6.out.id T HTZ.out; have h2 := HG6.out.nx; constructor <;> omega)
            rcases HSF.out.t T HTZ.out with hin | hnew
            · obtain ⟨x, hx, hxT⟩ := List.mem_map.1 hin
              have HGA : Hid (∀ W, At W b wb mb n ov D N X → Calls Try.prog 14 #[.pointer (some ⟨b, 0, none⟩), .int .i64 T.id] W (GtS T true W)) := hid fun W hW => (aget_any b wb mb n ov D N _ X T.id W hW.m HTI.out AI.out.shb).mono fun e w' hg => by
                rcases hg with ⟨y, hy, hyi, h⟩ | ⟨hno, h⟩
                · have e2 : y = x := AI.out.one x hx y hy (by rw [hyi, ← hxT])
                  rw [e2] at h
                  have hxT : x.s = T := hxT
                  rw [hxT] at h
                  exact h
                · exact absurd (show x.s.id = T.id by rw [← hxT]) (hno x hx)
              have HPL : Hid (T.past.length ≤ 1000000) := hid (by have := (HG6.out.pa T HTZ.out).1; omega)
              clear hx hxT hin
              go_upto_region 15 with (go_at_call 14; refine (HGA.out _ (A8.out.below B9.out)).mono ?_; rintro e wa ⟨mg, pg, rfl, hsg, hbg⟩; obtain ⟨⟨ga, gc, rfl⟩, ⟨gp, gq, rfl⟩⟩ := hsg.shape; have SG := hid hsg; have BG := hid hbg; unfold shV; clear hsg hbg)
              have hb10 : Below wa.heap.size wa (wa.alloc (.cells #[.int .i64 T.id, .int .i64 T.fr, .int .i64 T.to, .slice ga T.mem.length gc, .slice gp T.past.length gq] 46)) := (Below.refl _ _).alloc (Nat.le_refl _) _
              have hPA := heap_alloc_new wa (.cells #[.int .i64 T.id, .int .i64 T.fr, .int .i64 T.to, .slice ga T.mem.length gc, .slice gp T.past.length gq] 46)
              have B10 := hid (B9.out.trans ((BG.out.trans (hb10.mono BG.out.size)).mono B9.out.size))
              have SG10 := hid (SG.out.below hb10)
              have M10 := hid (M9.out.below (BG.out.trans (hb10.mono BG.out.size)))
              have hP10 := (hb10.block _ (Nat.lt_of_lt_of_le (lt_of_block P9.out) BG.out.size)).trans ((BG.out.block _ (lt_of_block P9.out)).trans P9.out)
              have HSS := hid (fun W (hW : Below (wa.alloc (.cells #[.int .i64 T.id, .int .i64 T.fr, .int .i64 T.to, .slice ga T.mem.length gc, .slice gp T.past.length gq] 46)).heap.size (wa.alloc (.cells #[.int .i64 T.id, .int .i64 T.fr, .int .i64 T.to, .slice ga T.mem.length gc, .slice gp T.past.length gq] 46)) W) => sameShard_eq T _ _ _ _ W (SG10.out.below hW).n (M10.out.below hW).n HPL.out)
              unfold shV at HSS
              clear hb10 SG M9 BG SG10 M10 t0
              generalize wa.alloc (.cells #[.int .i64 T.id, .int .i64 T.fr, .int .i64 T.to, .slice ga T.mem.length gc, .slice gp T.past.length gq] 46) = w10 at *
              go_wp2_with (first | (refine wpl_loadH rfl _ rfl wa.heap.size rfl _ _ _ rfl hPA ?_) | (refine wpl_loadH rfl _ rfl wr.heap.size rfl _ _ _ rfl hP10 ?_) | (go_at_call 15; refine (HSS.out _ (Below.refl _ _)).mono ?_; rintro e wb' ⟨rfl, hb11⟩; have B11 := hid (B10.out.trans (hb11.mono B10.out.size)); clear hb11))
              go_roundw
              case rel => exact ⟨i + 1, by go_num, by omega, B11.out⟩
              case measure => simp [intOf]; omega
            · have HGN : Hid (∀ W, At W b wb mb n ov D N X → Calls Try.prog 14 #[.pointer (some ⟨b, 0, none⟩), .int .i64 T.id] W (GtS zS false W)) := hid fun W hW => (aget_any b wb mb n ov D N _ X T.id W hW.m HTI.out AI.out.shb).mono fun e w' hg => by
                rcases hg with ⟨y, hy, hyi, h⟩ | ⟨hno, h⟩
                · exact absurd hyi (hnew.no y.s (List.mem_map_of_mem hy))
                · exact h
              have HNW := hid hnew
              clear hnew
              go_upto_region 15 with (go_at_call 14; refine (HGN.out _ (A8.out.below B9.out)).mono ?_; rintro e wa ⟨mg, pg, rfl, hsg, hbg⟩; have hsh := hsg.shape; simp only [zS, List.length_nil] at hsh; obtain ⟨⟨ga, gc, rfl⟩, ⟨gp, gq, rfl⟩⟩ := hsh; have BG := hid hbg; unfold shV zS; dsimp only; clear hsg hbg)
              have hb10 : Below wa.heap.size wa (wa.alloc (.cells #[.int .i64 0, .int .i64 0, .int .i64 0, .slice ga 0 gc, .slice gp 0 gq] 46)) := (Below.refl _ _).alloc (Nat.le_refl _) _
              have B10 := hid (B9.out.trans ((BG.out.trans (hb10.mono BG.out.size)).mono B9.out.size))
              have M10 := hid (M9.out.below (BG.out.trans (hb10.mono BG.out.size)))
              have P10 := hid ((hb10.block _ (Nat.lt_of_lt_of_le (lt_of_block P9.out) BG.out.size)).trans ((BG.out.block _ (lt_of_block P9.out)).trans P9.out))
              clear hb10 M9 BG P9 B9 t0 HGN
              generalize wa.alloc (.cells #[.int .i64 0, .int .i64 0, .int .i64 0, .slice ga 0 gc, .slice gp 0 gq] 46) = w10 at *
              have hlt1 : ¬ T.id < N.nx := by have := HNW.out.ge; omega
              have hlt2 : ¬ N'.nx ≤ T.id := by have := HNW.out.lt; omega
              have hpl : 0 < T.past.length := HNW.out.l.1
              have hpn : ¬ T.past = [] := fun e => by rw [e] at hpl; cases hpl
              have SW : Hid (∀ Y, Below w10.heap.size w10 Y → Y.cell? ⟨wr.heap.size, 0, none⟩ = some (.int .i64 T.id) ∧ Y.cell? ⟨wr.heap.size, 4, none⟩ = some (.slice pa T.past.length pc)) := hid fun Y hY => by
                have h1 := (hY.block _ (lt_of_block P10.out)).trans P10.out
                exact ⟨by rw [cell_of_row _ _ _ _ _ _ h1]; rfl, by rw [cell_of_row _ _ _ _ _ _ h1]; rfl⟩
              go_upto_region 18 with fail
              refine wp_region_held_drew (S := fun Y => Y.cell? ⟨wr.heap.size, 0, none⟩ = some (.int .i64 T.id) ∧ Y.cell? ⟨wr.heap.size, 4, none⟩ = some (.slice pa T.past.length pc)) (by kernel_rfl) (SW.out _ ((Below.refl _ _).drew)) (fun hHeld => ?_)
              refine wpAnyH_take (i := 0) (v := ?sv0) rfl (by kernel_rfl) (by kernel_rfl) (by kernel_rfl) (fun _ _ _ h => h) (Or.inl ⟨by rfl, ?sy0⟩) (by assumption) ?sr0
              case sy0 => (intro w hSw; (try dsimp only at hSw); go_simp; try with_reducible rfl)
              (try simp only [Act.put, putS])
              refine wpAnyH_take (i := 1) (v := ?sv1) rfl (by kernel_rfl) (by kernel_rfl) (by kernel_rfl) (fun _ _ _ h => h) (Or.inl ⟨by rfl, ?sy1⟩) (by assumption) ?sr1
              case sy1 => (intro w hSw; (try dsimp only at hSw); go_simp; try with_reducible rfl)
              (try simp only [Act.put, putS])
              refine wpAnyH_take (i := 2) (v := ?sv2) rfl (by kernel_rfl) (by kernel_rfl) (by kernel_rfl) (fun _ _ _ h => h) (Or.inl ⟨by rfl, ?sy2⟩) (by assumption) ?sr2
              case sy2 => (intro w hSw; (try dsimp only at hSw); go_simp; try with_reducible rfl)
              (try simp only [Act.put, putS])
              refine wpAnyH_ready (rs := [3]) (by kernel_rfl) (by simp) ?_
              refine AllReadyH.cons rfl (fun K hK => ?_) AllReadyH.nil
              rw [if_pos (by rfl)]
              go_wp2_with fail
              refine (anext_any b wb mb n ov D N _ X _ (A8.out.below (B10.out.trans (((Below.refl w10.heap.size w10).drew).mono B10.out.size))).m).mono ?_
              rintro e wx ⟨rfl, hx⟩
              replace hx := hx.symm
              subst hx
              refine hK.out _ _ (SW.out _ ((Below.refl _ _).drew)) (fun hHeld => ?_)
              try clear hK K
              (try simp only [Act.put, putS])
              refine wpAnyH_take (i := 4) (v := (.bool false)) rfl (by kernel_rfl) (by kernel_rfl) (by kernel_rfl) (fun _ _ _ h => h) (Or.inl ⟨by rfl, ?sy4⟩) (by assumption) ?sr4
              case sy4 => (intro w hSw; (try dsimp only at hSw); go_simp; try with_reducible rfl)
              (try simp only [Act.put, putS])
              refine wpAnyH_take (i := 5) (v := ?sv5) rfl (by kernel_rfl) (by kernel_rfl) (by kernel_rfl) (fun _ _ _ h => h) (Or.inl ⟨by rfl, ?sy5⟩) (by assumption) ?sr5
              case sy5 => (intro w hSw; (try dsimp only at hSw); go_simp; try with_reducible rfl)
              (try simp only [Act.put, putS])
              refine wpAnyH_take (i := 6) (v := ?sv6) rfl (by kernel_rfl) (by kernel_rfl) (by kernel_rfl) (fun _ _ _ h => h) (Or.inl ⟨by rfl, ?sy6⟩) (by assumption) ?sr6
              case sy6 => (intro w hSw; (try dsimp only at hSw); go_simp; try with_reducible rfl)
              (try simp only [Act.put, putS])
              refine wpAnyH_take (i := 7) (v := ?sv7) rfl (by kernel_rfl) (by kernel_rfl) (by kernel_rfl) (fun _ _ _ h => h) (Or.inl ⟨by rfl, ?sy7⟩) (by assumption) ?sr7
              case sy7 => (intro w hSw; (try dsimp only at hSw); go_simp; try with_reducible rfl)
              (try simp only [Act.put, putS])
              refine wpAnyH_take (i := 8) (v := ?sv8) rfl (by kernel_rfl) (by kernel_rfl) (by kernel_rfl) (fun _ _ _ h => h) (Or.inl ⟨by rfl, ?sy8⟩) (by assumption) ?sr8
              case sy8 => (intro w hSw; (try dsimp only at hSw); go_simp; try with_reducible rfl)
              (try simp only [Act.put, putS])
              refine wpAnyH_ready (rs := [9]) (by kernel_rfl) (by simp) ?_
              refine AllReadyH.cons rfl (fun K hK => ?_) AllReadyH.nil
              rw [if_pos (by rfl)]
              go_wp2_with fail
              refine (anext_any c cw cm n6 ov6 D6 N' _ X6 _ (C8.out.below (B10.out.trans (((Below.refl w10.heap.size w10).drew).mono B10.out.size))).m).mono ?_
              rintro e wx ⟨rfl, hx⟩
              replace hx := hx.symm
              subst hx
              refine hK.out _ _ (SW.out _ ((Below.refl _ _).drew)) (fun hHeld => ?_)
              try clear hK K
              (try simp only [Act.put, putS])
              refine wpAnyH_take (i := 10) (v := (.bool false)) rfl (by kernel_rfl) (by kernel_rfl) (by kernel_rfl) (fun _ _ _ h => h) (Or.inl ⟨by rfl, ?sy10⟩) (by assumption) ?sr10
              case sy10 => (intro w hSw; (try dsimp only at hSw); go_simp; try with_reducible rfl)
              (try simp only [Act.put, putS])
              refine wpAnyH_take (i := 11) (v := ?sv11) rfl (by kernel_rfl) (by kernel_rfl) (by kernel_rfl) (fun _ _ _ h => h) (Or.inl ⟨by rfl, ?sy11⟩) (by assumption) ?sr11
              case sy11 => (intro w hSw; (try dsimp only at hSw); go_simp; try with_reducible rfl)
              (try simp only [Act.put, putS])
              refine wpAnyH_take (i := 12) (v := ?sv12) rfl (by kernel_rfl) (by kernel_rfl) (by kernel_rfl) (fun _ _ _ h => h) (Or.inl ⟨by rfl, ?sy12⟩) (by assumption) ?sr12
              case sy12 => (intro w hSw; (try dsimp only at hSw); go_simp; try with_reducible rfl)
              (try simp only [Act.put, putS])
              refine wpAnyH_take (i := 13) (v := ?sv13) rfl (by kernel_rfl) (by kernel_rfl) (by kernel_rfl) (fun _ _ _ h => h) (Or.inl ⟨by rfl, ?sy13⟩) (by assumption) ?sr13
              case sy13 => (intro w hSw; (try dsimp only at hSw); go_simp; try with_reducible rfl)
              (try simp only [Act.put, putS])
              refine wpAnyH_take (i := 14) (v := ?sv14) rfl (by kernel_rfl) (by kernel_rfl) (by kernel_rfl) (fun _ _ _ h => h) (Or.inl ⟨by rfl, ?sy14⟩) (by assumption) ?sr14
              case sy14 => (intro w hSw; (try dsimp only at hSw); go_simp; try with_reducible rfl)
              (try simp only [Act.put, putS])
              refine wpAnyH_take (i := 15) (v := ?sv15) rfl (by kernel_rfl) (by kernel_rfl) (by kernel_rfl) (fun _ _ _ h => h) (Or.inl ⟨by rfl, ?sy15⟩) (by assumption) ?sr15
              case sy15 => (intro w hSw; (try dsimp only at hSw); go_simp; try with_reducible rfl)
              (try simp only [Act.put, putS])
              refine wpAnyH_take (i := 16) (v := (.bool false)) rfl (by kernel_rfl) (by kernel_rfl) (by kernel_rfl) (fun _ _ _ h => h) (Or.inl ⟨by rfl, ?sy16⟩) (by assumption) ?sr16
              case sy16 => (intro w hSw; (try dsimp only at hSw); go_simp; try with_reducible rfl)
              (try simp only [Act.put, putS])
              refine wpAnyH_take (i := 17) (v := ?sv17) rfl (by kernel_rfl) (by kernel_rfl) (by kernel_rfl) (fun _ _ _ h => h) (Or.inl ⟨by rfl, ?sy17⟩) (by assumption) ?sr17
              case sy17 => (intro w hSw; (try dsimp only at hSw); go_simp; try with_reducible rfl)
              (try simp only [Act.put, putS])
              refine wpAnyH_done (by kernel_rfl) ?_ _
              clear hHeld hlt1 hlt2 hpl hpn
              have hb11 : Below w10.heap.size w10 w10.drew := (Below.refl _ _).drew
              have B11 := hid (B10.out.trans (hb11.mono B10.out.size))
              have M11 := hid (M10.out.below hb11)
              have P11 := hid ((hb11.block _ (lt_of_block P10.out)).trans P10.out)
              clear hb11 M10 P10 B10 SW
              generalize w10.drew = w11 at *
              obtain ⟨LP, hL1, hL2, hL3⟩ := M11.out.p
              have hLL : T.past.length = LP.length := by rw [← hL1]; simp
              have HLL := hid hLL
              have HLM : Hid (LP.map (·.o) = T.past) := hid hL1
              have OP : Hid (w11.ownsRow 0 52 4 (.slice pa LP.length pc) LP.length (orvs LP)) := hid (by have h := hL2; rw [hLL] at h; exact h)
              have EP : Hid (Mems w11 LP) := hid hL3
              have hpb : (T.past.length : Int) ≤ 2 := by have := HNW.out.l.2; omega
              clear hL1 hL2 hL3 hLL M11
              have c4 : w11.cell? ⟨wr.heap.size, 4, none⟩ = some (.slice pa T.past.length pc) := by rw [cell_of_row _ _ _ _ _ _ P11.out]; rfl
              go_upto_region 22 with fail
              clear c4
              obtain ⟨wk, rfl⟩ : ∃ x, x = wr := ⟨_, rfl⟩
              go_loopw [17, 19, 20, 21, 22, 23, 119] (fun sv _ _ _ _ _ jv wx => ∃ (j : Nat) (va : Option Addr) (vc : Nat), jv = .int .i64 j ∧ j ≤ T.past.length ∧ sv = .slice va j vc ∧ wx.ownsRow w11.heap.size 43 2 (.slice va j vc) j (flat ((LP.take j).map spO)) ∧ Below w11.heap.size w11 wx) (fun _ _ _ _ _ _ jv _ => T.past.length - (intOf jv).toNat)
              case atStart => exact ⟨0, none, 0, rfl, Nat.zero_le _, rfl, World.ownsRow_nil _ _ _ _, Below.refl _ _⟩
              case round =>
                obtain ⟨j, va, vc, rfl, hj, rfl, hrow, hbx⟩ := hrel
                have BX := hid hbx
                have RX := hid hrow
                clear hbx hrow
                by_cases hltj : (j : Int) < (T.past.length : Int)
                · have hjl : j < LP.length := by have := HLL.out; omega
                  have OR := hid (own_below OP.out BX.out)
                  obtain ⟨go, rfl⟩ : ∃ g, pa = some ⟨g, 0, none⟩ := own_some OR.out (by omega)
                  have hRO := own_range OR.out (j * 4) (orC LP[j]) (orvs_part LP j hjl)
                  have HM0 := hid (own_below (EP.out LP[j] (List.getElem_mem hjl)) BX.out)
                  have HPO := HNW.out.p LP[j].o (by rw [← HLM.out]; exact List.mem_map_of_mem (List.getElem_mem hjl))
                  have HTK : Hid (flat ((LP.take (j + 1)).map spO) = flat ((LP.take j).map spO) ++ [.int .i64 LP[j].o.fr, .int .i64 LP[j].o.to]) := hid (by rw [List.take_succ_eq_append_getElem hjl, List.map_append, flat_append]; rfl)
                  obtain ⟨oa, oc, hoe⟩ := own_shape HM0.out
                  obtain ⟨⟨⟨oi, of', ot, om⟩, omv⟩, hx⟩ : ∃ x, x = LP[j] := ⟨_, rfl⟩
                  rw [← hx] at hRO HM0 HPO hoe HTK
                  simp only at hoe HTK
                  subst hoe
                  clear hx
                  unfold orC at hRO
                  simp only at hRO
                  have HM0 : Hid (wr.ownsRow 0 3 1 (.slice oa om.length oc) om.length (nvs om)) := HM0
                  obtain ⟨⟨⟨si, sf, st, sm, sp⟩, hSZ, hSo⟩, hNU⟩ := HPO
                  have hSo : (⟨si, sf, st, sm⟩ : OrD) = ⟨oi, of', ot, om⟩ := hSo
                  cases hSo
                  obtain ⟨x, hx, hxS⟩ := List.mem_map.1 hSZ
                  have HOI : Hid (I64 oi) := hid (by have h1 := HG.out.id _ hSZ; have h2 := HG.out.nx; simp only at h1; constructor <;> omega)
                  have HGS : Hid (∀ W, At W b wb mb n ov D N X → Calls Try.prog 14 #[.pointer (some ⟨b, 0, none⟩), .int .i64 oi] W (GtS ⟨oi, of', ot, om, sp⟩ true W)) := hid fun W hW => (aget_any b wb mb n ov D N _ X oi W hW.m HOI.out AI.out.shb).mono fun e w' hg => by
                    rcases hg with ⟨y, hy, hyi, h⟩ | ⟨hno, h⟩
                    · have e2 : y = x := AI.out.one x hx y hy (by rw [hyi]; show oi = x.s.id; rw [show x.s = _ from hxS])
                      rw [e2, show x.s = _ from hxS] at h
                      exact h
                    · exact absurd (show x.s.id = oi by rw [show x.s = _ from hxS]) (hno x hx)
                  have HGB : Hid (∀ W, At W c cw cm n6 ov6 D6 N' X6 → Calls Try.prog 14 #[.pointer (some ⟨c, 0, none⟩), .int .i64 oi] W (GtS zS false W)) := hid fun W hW => (aget_any c cw cm n6 ov6 D6 N' _ X6 oi W hW.m HOI.out I6.out.shb).mono fun e w' hg => by
                    rcases hg with ⟨y, hy, hyi, h⟩ | ⟨hno, h⟩
                    · exact absurd hyi (hNU y.s (by rw [← HX6.out]; exact List.mem_map_of_mem hy))
                    · exact h
                  clear hx hxS hSZ hNU x
                  go_upto_region 24 with (first | (refine wpl_loadO rfl _ rfl go (j * 4) (by go_simp) _ _ _ _ hRO ?_) | (refine wpl_newO (w3 := wr) rfl _ _ rfl _ _ _ _ rfl rfl rfl rfl rfl rfl rfl ?_; intro w12 hg12 hb12; have O12 := hid hg12; have B12 := hid (BX.out.trans (hb12.mono BX.out.size)); have M12 := hid (own_below HM0.out hb12); have R12 := hid (own_below RX.out hb12); clear hg12 hb12))
                  have o0 : w12.cell? ⟨wr.heap.size, 0, none⟩ = some (.int .i64 oi) := by rw [cell_of_row _ _ _ _ _ _ O12.out]; rfl
                  clear hRO HM0 OR BX RX
                  have B12' := hid (B11.out.trans (B12.out.mono B11.out.size))
                  go_upto_region 25 with (go_at_call 14; refine (HGS.out _ (A8.out.below B12'.out)).mono ?_; rintro e wd ⟨mg, pg, rfl, hsg, hbg⟩; obtain ⟨⟨ga, gc, rfl⟩, ⟨gp, gq, rfl⟩⟩ := hsg.shape; have SG := hid hsg; have BG := hid hbg; unfold shV; dsimp only; clear hsg hbg)
                  have SG : Hid (ShM wd ⟨oi, of', ot, om, sp⟩ (.slice ga om.length gc) (.slice gp sp.length gq)) := SG
                  have hb13 : Below wd.heap.size wd (wd.alloc (.cells #[.int .i64 oi, .int .i64 of', .int .i64 ot, .slice ga om.length gc, .slice gp sp.length gq] 46)) := (Below.refl _ _).alloc (Nat.le_refl _) _
                  have P13 := hid (heap_alloc_new wd (.cells #[.int .i64 oi, .int .i64 of', .int .i64 ot, .slice ga om.length gc, .slice gp sp.length gq] 46))
                  have b1213 := BG.out.trans (hb13.mono BG.out.size)
                  have B13 := hid (B12.out.trans (b1213.mono B12.out.size))
                  have O13 := hid ((b1213.block _ (lt_of_block O12.out)).trans O12.out)
                  have M13 := hid (own_below M12.out b1213)
                  have R13 := hid (own_below R12.out b1213)
                  have G13 := hid (own_below SG.out.m hb13)
                  clear b1213 hb13 o0 B12 B12' O12 M12 R12 SG BG HGS
                  generalize wd.alloc (.cells #[.int .i64 oi, .int .i64 of', .int .i64 ot, .slice ga om.length gc, .slice gp sp.length gq] 46) = w13 at *
                  have o0 : w13.cell? ⟨wr.heap.size, 0, none⟩ = some (.int .i64 oi) := by rw [cell_of_row _ _ _ _ _ _ O13.out]; rfl
                  have B13' := hid (B11.out.trans (B13.out.mono B11.out.size))
                  go_upto_region 26 with (go_at_call 14; refine (HGB.out _ (C8.out.below B13'.out)).mono ?_; rintro e we ⟨mh, ph, rfl, hsg, hbg⟩; have hsh := hsg.shape; simp only [zS, List.length_nil] at hsh; obtain ⟨⟨ha, hc, rfl⟩, ⟨hp, hq, rfl⟩⟩ := hsh; have BG := hid hbg; unfold shV zS; dsimp only; clear hsg hbg)
                  have hb14 : Below we.heap.size we (we.alloc (.cells #[.int .i64 0, .int .i64 0, .int .i64 0, .slice ha 0 hc, .slice hp 0 hq] 46)) := (Below.refl _ _).alloc (Nat.le_refl _) _
                  have b1314 := BG.out.trans (hb14.mono BG.out.size)
                  have B14 := hid (B13.out.trans (b1314.mono B13.out.size))
                  have O14 := hid ((b1314.block _ (lt_of_block O13.out)).trans O13.out)
                  have P14 := hid ((b1314.block _ (lt_of_block P13.out)).trans P13.out)
                  have M14 := hid (own_below M13.out b1314)
                  have R14 := hid (own_below R13.out b1314)
                  have G14 := hid (own_below G13.out b1314)
                  clear b1314 hb14 o0 B13 B13' O13 P13 M13 R13 G13 BG HGB
                  generalize we.alloc (.cells #[.int .i64 0, .int .i64 0, .int .i64 0, .slice ha 0 hc, .slice hp 0 hq] 46) = w14 at *
                  have rO := span_in O14.out
                  have rP := span_in P14.out
                  have m1 : w14.cell? ⟨wd.heap.size, 3, none⟩ = some (.slice ga om.length gc) := by rw [cell_of_row _ _ _ _ _ _ P14.out]; rfl
                  have m2 : w14.cell? ⟨wr.heap.size, 3, none⟩ = some (.slice oa om.length oc) := by rw [cell_of_row _ _ _ _ _ _ O14.out]; rfl
                  have HSI := hid (sameInts_eq om _ _ w14 (nums_own G14.out rfl) (nums_own M14.out rfl))
                  clear G14 M14
                  go_upto_region 28 with (first | (refine wpl_loadSpT (by rfl) _ rfl wd.heap.size 1 rfl _ _ rP ?_) | (refine wpl_loadSpT (by rfl) _ rfl wr.heap.size 1 rfl _ _ rO ?_) | (go_at_call 16; refine HSI.out.mono ?_; rintro e w15 ⟨rfl, hb15⟩; have B15 := hid (B14.out.trans (hb15.mono B14.out.size)); have O15 := hid ((hb15.block _ (lt_of_block O14.out)).trans O14.out); have R15 := hid (own_below R14.out hb15); clear hb15))
                  clear rP m1 m2 HSI rO
                  have rO := span_in O15.out
                  have HR15 := R15.out
                  have hb16 : Below w15.heap.size w15 (w15.alloc (.cells #[.int .i64 of', .int .i64 ot] 43)) := (Below.refl _ _).alloc (Nat.le_refl _) _
                  have B16 := hid (B15.out.trans (hb16.mono B15.out.size))
                  have R16 := hid (own_below HR15 hb16)
                  have C16 : Hid (∀ q u, [Value.int .i64 of', .int .i64 ot][q]? = some u → (w15.alloc (.cells #[.int .i64 of', .int .i64 ot] 43)).cell? ⟨w15.heap.size, q, none⟩ = some u) := hid fun q u hq => by
                    rw [cell_of_row _ _ _ _ _ _ (heap_alloc_new w15 (.cells #[.int .i64 of', .int .i64 ot] 43))]; simpa using hq
                  clear hb16 HR15 B14 B15 O14 P14 R14 R15 O15
                  go_wp2_with (first | (refine wpl_loadSpT (by rfl) _ rfl wr.heap.size 1 rfl _ _ rO ?_) | (at_builtin; refine wpl_app rowSpT rfl _ _ rfl w11.heap.size (.slice va j vc) j (flat ((LP.take j).map spO)) rfl R16.out w15.heap.size 1 1 [.int .i64 of', .int .i64 ot] rfl rfl C16.out (by simp [Value.oneCell']) (by omega) B16.out.size ?_; intro va17 vc17 w17 ho17 hg17; have R17 := hid ho17; have B17 := hid (B16.out.grown hg17 B16.out.size fun q hq => (World.ownsRow.lt R16.out q hq).1); clear ho17 hg17))
                  go_roundw
                  case rel => exact ⟨j + 1, va17, vc17, by go_num, by omega, rfl, by rw [HTK.out]; exact R17.out, B17.out⟩
                  case measure => simp [intOf]; omega
                · have hjn : j = LP.length := by have := HLL.out; omega
                  have rT := span_in ((BX.out.block _ (lt_of_block P11.out)).trans P11.out)
                  have hlen : ((LP.take j).map spO).length = j := by rw [List.length_map, List.length_take]; omega
                  have hb16 : Below wr.heap.size wr (wr.alloc (.cells #[.int .i64 T.fr, .int .i64 T.to] 43)) := (Below.refl _ _).alloc (Nat.le_refl _) _
                  have hsp : Sps (wr.alloc (.cells #[.int .i64 T.fr, .int .i64 T.to] 43)) (.slice va j vc) ((LP.take j).map spO) := OwnS.sps (base := w11.heap.size) (by unfold OwnS; rw [hlen]; exact own_below RX.out hb16)
                  have hcov : ∀ q, InL [(T.fr, T.to)] q → InL ((LP.take j).map spO) q := by
                    rintro q ⟨x, hx, h1, h2⟩
                    rw [List.mem_singleton.1 hx] at h1 h2
                    obtain ⟨o, ho, h3, h4⟩ := HNW.out.c q h1 h2
                    rw [← HLM.out] at ho
                    obtain ⟨y, hy, rfl⟩ := List.mem_map.1 ho
                    refine ⟨spO y, List.mem_map.2 ⟨y, ?_, rfl⟩, h3, h4⟩
                    rw [List.take_of_length_le (by omega)]; exact hy
                  have HOF2 := rof_2 (.slice (some ⟨wr.heap.size, 0, none⟩) 1 1) (.slice va j vc) [(T.fr, T.to)] ((LP.take j).map spO) (wr.alloc (.cells #[.int .i64 T.fr, .int .i64 T.to] 43)) (sps_one (heap_alloc_new _ _)) hsp (by simp) (by rw [hlen]; omega)
                  rw [of_none _ _ hcov, List.length_nil] at HOF2
                  have HOF2 := hid HOF2
                  have B16 := hid (B11.out.trans ((BX.out.trans (hb16.mono BX.out.size)).mono B11.out.size))
                  clear hsp hcov hlen hb16 RX hjn
                  go_wp2_with (first | (refine wpl_loadSpT (by rfl) _ rfl wk.heap.size 1 rfl _ _ rT ?_) | (go_at_call 17; refine HOF2.out.mono ?_; rintro e w18 ⟨ra, rc, rfl, -, hb18⟩; have B18 := hid (B16.out.trans (hb18.mono B16.out.size)); clear hb18))
                  go_roundw
                  case rel => exact ⟨i + 1, by go_num, by omega, B18.out⟩
                  case measure => simp [intOf]; omega
          · have A9 := BR.out
            go_wp2_with (go_at_call 9; refine (lives_any _).mono ?_; rintro e w9 ⟨rfl, hb9⟩; have B9 := hid (A9.trans (hb9.mono A9.size)); clear hb9)
            go_ret
            exact ⟨rfl, B2.out.trans ((B8.out.trans (B9.out.mono B8.out.size)).mono B2.out.size)⟩
  · obtain ⟨rfl, rfl⟩ := step_err HST.out hr0
    have hr1 : (r == 0) = false := by simpa using hr0
    have JX := hid (enj_of HG.out HGP.out (by omega))
    have A6' : Hid (AIn N' X6) := hid (ain_of (by rw [HX6.out]; exact HG.out) (by omega))
    have J6' : Hid (EnJ N' X6) := hid (enj_of (by rw [HX6.out]; exact HG.out) (by rw [HX6.out]; exact HGP.out) (by omega))
    go_wp2_with (first | (go_at_call 8; refine (samA_any b wb mb n ov D c cw cm n6 ov6 D6 N' X X6 _ A6.out C6.out AI.out JX.out A6'.out J6'.out HX6.out).mono ?_; rintro e w7 ⟨rfl, hb7⟩; have B7 := hid (B6.out.trans (hb7.mono B6.out.size)); clear hb7) | (go_at_call 9; refine (lives_any _).mono ?_; rintro e w8 ⟨rfl, hb8⟩; have B8 := hid (B7.out.trans (hb8.mono B7.out.size)); clear hb8))
    go_ret
    exact ⟨rfl, B2.out.trans (B8.out.mono B2.out.size)⟩
end Go.Proofs.Ytnkjkaofgninnaa
namespace Go.Proofs.Ytnkjkaofgninnaa
open Go.ChangeShapes Go.WideShapes Go.ChangeAt Go.RowKit Go.Deep
set_option maxRecDepth 100000

variable {H : Type} {enc : TypeId × Value → H} {w : World} {base : Nat} {spare : Nat → Bool} {held : Bool}

theorem Try.cellsI : Try.prog.cellsOf 3 = 1 := by kernel_rfl
theorem int_of {n : Nat} {v0 : Value} {y0 : DataW H × List MemPlace} (h0 : DataW.trod enc Try.prog w base spare held n 3 [v0] = some y0) : ∃ x : Int, v0 = .int .i64 x ∧ I64 x := by
  obtain ⟨a0, e0, rfl, w0⟩ := DataW.trod_int Try.underlying3 h0
  simp at e0
  subst e0
  have s0 : -9223372036854775808 ≤ a0 ∧ a0 ≤ 9223372036854775807 := by simpa [Lit.wf, IntKind.min, IntKind.max, IntKind.signed, IntKind.bits] using w0
  exact ⟨a0, rfl, s0⟩
/-- A slice of numbers that came in. -/
theorem nums_of {n : Nat} {v : Value} {y : DataW H × List MemPlace} (h : DataW.trod enc Try.prog w base spare held n 38 [v] = some y) : ∃ l, Nums w v l ∧ ∀ x ∈ l, I64 x := by
  rcases DataW.trod_slice Try.underlying38 h with ⟨hcs, _⟩ | ⟨a, len, cap, elems, rest, n', _, hcs, _, hb, hl, hm, hlen, hel, _, _⟩
  · simp at hcs
    subst hcs
    exact ⟨[], ⟨none, 0, 0, rfl, rfl, Nat.le_refl _, by omega, (fun _ => rfl), (fun ad h => by cases h)⟩, by simp⟩
  · simp at hcs
    subst hcs
    have each : ∀ i, i < len → ∃ q : Int, w.cell? (a.add i) = some (.int .i64 q) ∧ I64 q := by
      intro i hi
      have h1 := hel i hi
      rw [List.getElem?_eq_getElem (by omega), Try.cellsI] at h1
      obtain ⟨cs, h2, h3⟩ := Option.bind_eq_some_iff.1 h1
      obtain ⟨_, hcl, hcell⟩ := World.cells?_some h2
      match cs, hcl with
      | [v0], _ =>
        obtain ⟨x, rfl, hx⟩ := int_of h3
        have e0 := hcell 0 (by omega)
        rw [Addr.add_add] at e0
        exact ⟨x, by simpa using e0, hx⟩
    obtain ⟨q, hq⟩ := choose_lt each
    refine ⟨(List.range len).map q, ⟨some a, len, cap, rfl, by simp, hl, by unfold maxLen at hm; omega, (fun h => by cases h), fun ad had j hj => ?_⟩, ?_⟩
    · obtain rfl := Option.some.inj had
      have hj' : j < len := by simpa using hj
      simp only [List.getElem_map, List.getElem_range]
      exact (hq j hj').1
    · intro x hx
      simp only [List.mem_map, List.mem_range] at hx
      obtain ⟨i, hi, rfl⟩ := hx
      exact (hq i hi).2
end Go.Proofs.Ytnkjkaofgninnaa
namespace Go.Proofs.Ytnkjkaofgninnaa
open Go.ChangeShapes Go.WideShapes Go.ChangeAt Go.RowKit Go.Deep
set_option maxRecDepth 100000

variable {H : Type} {enc : TypeId × Value → H} {w : World} {base : Nat} {spare : Nat → Bool} {held : Bool}
theorem Try.cellsCh : Try.prog.cellsOf 24 = 6 := by kernel_rfl
theorem ch6_of {n : Nat} {v0 v1 v2 v3 v4 v5 : Value} {y : DataW H × List MemPlace} (h : DataW.trod enc Try.prog w base spare held n 24 [v0, v1, v2, v3, v4, v5] = some y) : ∃ c : ChD, v0 = .int .i64 c.k ∧ v1 = .int .i64 c.sh ∧ v2 = .int .i64 c.ot ∧ v3 = .int .i64 c.at' ∧ v4 = .int .i64 c.out ∧ v5 = .int .i64 c.in' ∧ ChJ c := by
  obtain ⟨xs, k, hk, hxy, _, hxl, hf⟩ := DataW.trod_struct Try.underlying24 h
  match xs, hxl with
  | [y0, y1, y2, y3, y4, y5], _ =>
    have g0 := hf 0 _ rfl
    have g1 := hf 1 _ rfl
    have g2 := hf 2 _ rfl
    have g3 := hf 3 _ rfl
    have g4 := hf 4 _ rfl
    have g5 := hf 5 _ rfl
    simp [Try.cellsI] at g0 g1 g2 g3 g4 g5
    obtain ⟨x0, rfl, i0⟩ := int_of g0
    obtain ⟨x1, rfl, i1⟩ := int_of g1
    obtain ⟨x2, rfl, i2⟩ := int_of g2
    obtain ⟨x3, rfl, i3⟩ := int_of g3
    obtain ⟨x4, rfl, i4⟩ := int_of g4
    obtain ⟨x5, rfl, i5⟩ := int_of g5
    refine ⟨⟨x0, x1, x2, x3, x4, x5⟩, rfl, rfl, rfl, rfl, rfl, rfl, ?_⟩
    intro x hx
    simp only [numC, List.mem_cons, List.not_mem_nil, or_false] at hx
    rcases hx with rfl | rfl | rfl | rfl | rfl | rfl <;> assumption
/-- A change by value. -/
theorem ch_of {r : Reach} {b0 : Nat} {v : Value} {d : DataW H} {p : List MemPlace} (hv : Value.okWide Try.prog w r b0 24 v) (h : DataW.Trod enc Try.prog w base spare held 24 v d p) : ∃ c : ChD, v = chV c ∧ ChJ c := by
  simp only [Value.okWide, Try.underlying24] at hv
  obtain ⟨cs, rfl, h2, -⟩ := hv
  rw [Try.cellsCh] at h2
  obtain ⟨l⟩ := cs
  obtain ⟨fuel, hf⟩ := h
  match l, h2 with
  | [c0, c1, c2, c3, c4, c5], _ =>
    obtain ⟨c, rfl, rfl, rfl, rfl, rfl, rfl, hj⟩ := ch6_of hf
    exact ⟨c, rfl, hj⟩
end Go.Proofs.Ytnkjkaofgninnaa
namespace Go.Proofs.Ytnkjkaofgninnaa
open Go.ChangeShapes Go.WideShapes Go.ChangeAt Go.RowKit Go.Deep
set_option maxRecDepth 100000
set_option linter.unusedVariables false

variable {H : Type} {enc : TypeId × Value → H} {w : World} {base : Nat} {spare : Nat → Bool} {held : Bool}
theorem Try.cellsBs : Try.prog.cellsOf 4 = 1 := by kernel_rfl
theorem Try.cellsSt : Try.prog.cellsOf 26 = 7 := by kernel_rfl
theorem choose_ltT {α : Type} [Inhabited α] {n : Nat} {P : Nat → α → Prop} (h : ∀ i, i < n → ∃ x, P i x) : ∃ f : Nat → α, ∀ i, i < n → P i (f i) :=
  Classical.axiomOfChoice (r := fun i x => i < n → P i x) fun i => by
    by_cases hi : i < n
    · obtain ⟨x, hx⟩ := h i hi; exact ⟨x, fun _ => hx⟩
    · exact ⟨default, fun hh => absurd hh hi⟩
theorem st7_of {n : Nat} {v0 v1 v2 v3 v4 v5 v6 : Value} {y : DataW H × List MemPlace} (h : DataW.trod enc Try.prog w base spare held n 26 [v0, v1, v2, v3, v4, v5, v6] = some y) : ∃ (c : ChD) (nr : Bool), v0 = .int .i64 c.k ∧ v1 = .int .i64 c.sh ∧ v2 = .int .i64 c.ot ∧ v3 = .int .i64 c.at' ∧ v4 = .int .i64 c.out ∧ v5 = .int .i64 c.in' ∧ v6 = .bool nr ∧ ChJ c := by
  obtain ⟨xs, k, hk, hxy, _, hxl, hf⟩ := DataW.trod_struct Try.underlying26 h
  match xs, hxl with
  | [y0, y1], _ =>
    have g0 := hf 0 _ rfl
    have g1 := hf 1 _ rfl
    simp [Try.cellsCh, Try.cellsBs] at g0 g1
    obtain ⟨c, e0, e1, e2, e3, e4, e5, hj⟩ := ch6_of g0
    obtain ⟨nr, hb, _⟩ := DataW.trod_bool Try.underlying4 g1
    exact ⟨c, nr, e0, e1, e2, e3, e4, e5, by simpa using hb, hj⟩
/-- A step by value. -/
theorem st_of {r : Reach} {b0 : Nat} {v : Value} {d : DataW H} {p : List MemPlace} (hv : Value.okWide Try.prog w r b0 26 v) (h : DataW.Trod enc Try.prog w base spare held 26 v d p) : ∃ x : ChD × Bool, v = .agg (stC x).toArray ∧ ChJ x.1 := by
  simp only [Value.okWide, Try.underlying26] at hv
  obtain ⟨cs, rfl, h2, -⟩ := hv
  rw [Try.cellsSt] at h2
  obtain ⟨l⟩ := cs
  obtain ⟨fuel, hf⟩ := h
  match l, h2 with
  | [c0, c1, c2, c3, c4, c5, c6], _ =>
    obtain ⟨c, nr, rfl, rfl, rfl, rfl, rfl, rfl, rfl, hj⟩ := st7_of hf
    exact ⟨(c, nr), rfl, hj⟩
/-- A slice of steps that came in. -/
theorem stps_of {n : Nat} {v : Value} {y : DataW H × List MemPlace} (h : DataW.trod enc Try.prog w base spare held n 22 [v] = some y) : ∃ l, Stps w v l ∧ ∀ x ∈ l, ChJ x.1 := by
  rcases DataW.trod_slice Try.underlying22 h with ⟨hcs, _⟩ | ⟨a, len, cap, elems, rest, n', _, hcs, _, hb, hl, hm, hlen, hel, _, _⟩
  · simp at hcs
    subst hcs
    exact ⟨[], ⟨none, 0, 0, rfl, rfl, Nat.le_refl _, by omega, (fun _ => rfl), (fun ad h => by cases h)⟩, by simp⟩
  · simp at hcs
    subst hcs
    have each : ∀ i, i < len → ∃ q : ChD × Bool, (∀ k u, (stC q)[k]? = some u → w.cell? (a.add (i * 7 + k)) = some u) ∧ ChJ q.1 := by
      intro i hi
      have h1 := hel i hi
      rw [List.getElem?_eq_getElem (by omega), Try.cellsSt] at h1
      obtain ⟨cs, h2, h3⟩ := Option.bind_eq_some_iff.1 h1
      obtain ⟨_, hcl, hcell⟩ := World.cells?_some h2
      match cs, hcl with
      | [v0, v1, v2, v3, v4, v5, v6], _ =>
        obtain ⟨c, nr, rfl, rfl, rfl, rfl, rfl, rfl, rfl, hj⟩ := st7_of h3
        refine ⟨(c, nr), fun k u hk => ?_, hj⟩
        have hk7 : k < 7 := (List.getElem?_eq_some_iff.1 hk).1
        have e := hcell k (by simpa using hk7)
        rw [Addr.add_add] at e
        rw [e]
        have : (stC (c, nr))[k]? = _ := hk
        unfold stC at this
        simpa using this
    haveI : Inhabited (ChD × Bool) := ⟨(⟨0, 0, 0, 0, 0, 0⟩, false)⟩
    obtain ⟨q, hq⟩ := choose_ltT each
    refine ⟨(List.range len).map q, ⟨some a, len, cap, rfl, by simp, hl, by unfold maxLen at hm; omega, (fun h => by cases h), fun ad had j hj => ?_⟩, ?_⟩
    · obtain rfl := Option.some.inj had
      have hj' : j < len := by simpa using hj
      simp only [List.getElem_map, List.getElem_range]
      exact (hq j hj').1
    · intro x hx
      simp only [List.mem_map, List.mem_range] at hx
      obtain ⟨i, hi, rfl⟩ := hx
      exact (hq i hi).2
end Go.Proofs.Ytnkjkaofgninnaa
namespace Go.Proofs.Ytnkjkaofgninnaa.atlasStems
open Go.ChangeShapes Go.WideShapes Go.ChangeAt Go.RowKit
set_option linter.unusedVariables false

theorem own : ownKnob Try.prog.godebug = none := by kernel_rfl
theorem laidOut : laidOutB Try.prog = true := by kernel_rfl

set_option maxRecDepth 100000 in
set_option maxHeartbeats 1600000 in
theorem lifted (os : Os) (started : os.Started) (H : Type) (enc : TypeId × Value → H) :
    ReturnsInHanded {} Try.checked os 3 .any (Rows.atlasStemsSpec.pre6 enc Try.prog Try.f3 Rows.atlasStemsRow.domain false) (Rows.atlasStemsSpec.post enc Try.prog Try.f3 false true false false) := by
  refine returnsInHanded_of_change (C := Try.checked) own started (by kernel_rfl) Try.func3
    (ChangeSpec.witness6 (enc := enc) (C := Try.checked) false ⟨#[], #[.int .i64 0, .slice none 0 0, .agg #[.int .i64 0, .int .i64 0, .int .i64 0, .int .i64 0, .int .i64 0, .int .i64 0, .bool false]], []⟩ 8 (by kernel_rfl) (by kernel_rfl) (by kernel_rfl) (by kernel_rfl)) ?_
  intro W base args ds gs before hval0 hW hcnd _
  have hval : ∀ (j : Nat) t v, Try.f3.params[j]? = some t → args[j]? = some v → Value.okWide Try.prog W .any base t v := hval0
  have hW' := hW
  obtain ⟨p, q, hA0, hV, rfl, hfz, hnd⟩ := hW
  have hA : DataW.TrodAll enc Try.prog W 0 (fun _ => true) true Try.f3.params.toList args.toList ds p := hA0
  rw [Try.params3] at hA hval
  obtain ⟨v0, vs0, d0, ds0, p0, q0, hargs, rfl, rfl, h0, r0⟩ := trodAll_cons hA
  obtain ⟨v1, vs1, d1, ds1, p1, q1, rfl, rfl, rfl, h1, r1⟩ := trodAll_cons r0
  obtain ⟨v2, vs2, d2, ds2, p2, q2, rfl, rfl, rfl, h2, r2⟩ := trodAll_cons r1
  obtain ⟨rfl, rfl, rfl⟩ := trodAll_nil r2
  obtain rfl : args = #[v0, v1, v2] := by cases args; simp_all
  obtain ⟨rfl, rfl⟩ := trodVars_none hV
  have k0 := h0
  have lt0 : ∀ x ∈ p0, x.block < W.heap.size := by obtain ⟨m, hm⟩ := k0; exact DataW.trod_lt m _ _ _ hm
  obtain ⟨x0, rfl⟩ := okWide_int Try.underlying3 (hval 0 3 v0 rfl rfl)
  obtain ⟨f0, hf0⟩ := h0
  obtain ⟨z0, e0, -, w0⟩ := DataW.trod_int Try.underlying3 hf0
  simp [Value.cells] at e0
  subst e0
  have s0 : -9223372036854775808 ≤ x0 ∧ x0 ≤ 9223372036854775807 := by simpa [Lit.wf, IntKind.min, IntKind.max, IntKind.signed, IntKind.bits] using w0
  have k1 := h1
  have lt1 : ∀ x ∈ p1, x.block < W.heap.size := by obtain ⟨m, hm⟩ := k1; exact DataW.trod_lt m _ _ _ hm
  obtain ⟨a1, len1, cap1, rfl⟩ := okWide_slice Try.underlying22 (hval 1 22 v1 rfl rfl)
  obtain ⟨f1, hf1⟩ := h1
  obtain ⟨l1, H1, J1⟩ := stps_of hf1
  have k2 := h2
  have lt2 : ∀ x ∈ p2, x.block < W.heap.size := by obtain ⟨m, hm⟩ := k2; exact DataW.trod_lt m _ _ _ hm
  obtain ⟨x2, rfl, J2⟩ := st_of (hval 2 26 v2 rfl rfl) h2
  clear hA0 hval0
  refine (atlasStems_any x0 l1 _ x2 W H1 J1 J2).mono fun e W' ⟨he, bel⟩ => ?_
  subst he
  have t0 := Below.trod laidOut (by kernel_rfl) (of_decide_eq_true (by kernel_rfl)) k0 bel lt0
  have t1 := Below.trod laidOut (by kernel_rfl) (of_decide_eq_true (by kernel_rfl)) k1 bel lt1
  have t2 := Below.trod laidOut (by kernel_rfl) (of_decide_eq_true (by kernel_rfl)) k2 bel lt2
  have T := trodAll_cons_mk t0 (trodAll_cons_mk t1 (trodAll_cons_mk t2 trodAll_mk0))
  exact ⟨_, rfl, _, _, _, [], _, [], hW', trodAll_mk1 (shut_bool Try.underlying4 _), T, rfl, bel.frame _, fun h => by cases h⟩

theorem over : Rows.atlasStemsRow.holds Try.pinned (OpenSpec.ofChange Rows.atlasStemsSpec) :=
  OpenClaim.holds_of_wide 3 Try.f3 rfl rfl rfl rfl rfl rfl rfl ⟨rfl, rfl, rfl, rfl, rfl⟩ rfl rfl rfl rfl rfl (by kernel_rfl) Try.func3 (by kernel_rfl)
    (of_decide_eq_true (by kernel_rfl)) (by unfold Func.isWrapper; first | (rw [if_pos (by decide +kernel)]; kernel_rfl) | (rw [if_neg (by decide +kernel)]; exact ⟨rfl, rfl⟩))
    (fun os started H enc _ => lifted os started H enc)

theorem proved : Rows.AtlasStemsSaid := over
end Go.Proofs.Ytnkjkaofgninnaa.atlasStems
namespace Go.Proofs.Ytnkjkaofgninnaa
/-- The statement. -/
theorem atlasStems_holds : Rows.AtlasStemsSaid := atlasStems.proved
end Go.Proofs.Ytnkjkaofgninnaa
