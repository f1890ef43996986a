/- Behind any changes the shards of a map have all blocks of the disk, each block one, and what is found for a block has it, for any number of blocks and any steps. -/
import Derived.Test.YtplpbnglcfdaaaaAtChJ
import Derived.Test.YtplpbnglcfdaaaaAtOf
import Derived.Test.YtplpbnglcfdaaaaAtBase
import Derived.ProofKit
import Derived.OpenShut
import Derived.ChangeOld
import Derived.Deep.SlicePairs
import Derived.Lib.SmallJoins
import Derived.Test.YtplpbnglcfdaaaaRows
import Derived.WalkKit
import Derived.ShutString
import Derived.Below
namespace Go.Proofs.Ytplpbnglcfdaaaa
open Go.RowKit
def stC (x : ChD × Bool) : List Value := [.int .i64 x.1.k, .int .i64 x.1.sh, .int .i64 x.1.ot, .int .i64 x.1.at', .int .i64 x.1.out, .int .i64 x.1.in', .bool x.2]
/-- The value v is a slice of the steps l. -/
def Stps (w : World) (v : Value) (l : List (ChD × Bool)) : Prop :=
  ∃ ao n cap, v = .slice ao n cap ∧ n = l.length ∧ n ≤ cap ∧ cap ≤ 9223372036854775807 ∧ (ao = none → cap = 0) ∧ ∀ ad, ao = some ad → ∀ j, (h : j < l.length) → ∀ k u, (stC l[j])[k]? = some u → w.cell? (ad.add (j * 7 + k)) = some u
theorem Stps.below {w w' : World} {v : Value} {l : List (ChD × Bool)} (h : Stps w v l) (hb : Below w.heap.size w w') : Stps w' v l := by
  obtain ⟨ao, n, cap, rfl, h1, h2, h3, h4, h5⟩ := h
  exact ⟨ao, n, cap, rfl, h1, h2, h3, h4, fun ad had j hj k u hk => cell_later hb (h5 ad had j hj k u hk)⟩
theorem Stps.shape {w : World} {v : Value} {l : List (ChD × Bool)} (h : Stps w v l) : ∃ va vc, v = .slice va l.length vc := by
  obtain ⟨ao, n, cap, rfl, rfl, -⟩ := h; exact ⟨_, _, rfl⟩
theorem Stps.len {w : World} {v : Value} {l : List (ChD × Bool)} (h : Stps w v l) : (l.length : Int) ≤ 9223372036854775807 := by
  obtain ⟨ao, n, cap, rfl, h1, h2, h3, -⟩ := h; omega
theorem Stps.addr {w : World} {ao : Option Addr} {cap : Nat} {l : List (ChD × Bool)} (h : Stps w (.slice ao l.length cap) l) (hl : 0 < l.length) : ∃ b o, ao = some ⟨b, o, none⟩ := by
  obtain ⟨ao', n, cap', e, h1, h2, h3, h4, h5⟩ := h
  cases e
  cases ao with
  | none => have := h4 rfl; omega
  | some a =>
    have h0 := h5 a rfl 0 hl 0 _ rfl
    have := World.cell?_spot h0
    obtain ⟨b, o, sp⟩ := a
    simp [Addr.add] at this
    subst this
    exact ⟨b, o, rfl⟩
theorem Stps.range {w : World} {b o cap : Nat} {l : List (ChD × Bool)} (h : Stps w (.slice (some ⟨b, o, none⟩) l.length cap) l) (j : Nat) (hj : j < l.length) : w.rangeAt b (o + j * 7) (stC l[j]) := by
  obtain ⟨ao, n, cap', e, h1, h2, h3, h4, h5⟩ := h
  cases e
  intro k u hk
  have := h5 _ rfl j hj k u hk
  rw [Addr.add_lit, ← Nat.add_assoc] at this
  exact this
end Go.Proofs.Ytplpbnglcfdaaaa
namespace Go.Proofs.Ytplpbnglcfdaaaa
open Go.RowKit Go.Maps Go.Shelf
set_option linter.unusedVariables false
set_option linter.unusedSimpArgs false

/-- What the document's New leaves, in rows of its own. -/
def RNb (bl : Int) (l : List Int) (w : World) (e : Ending) (w' : World) : Prop := ∃ b sv X, e = .returned (.pointer (some ⟨b, 0, none⟩)) ∧ RB w' b ⟨bl, 1, 2, []⟩ (.slice none 0 0) sv X ∧ X.map (·.s) = [⟨1, 0, bl, l, []⟩] ∧ Below w.heap.size w w' ∧ w.heap.size ≤ b
set_option maxRecDepth 100000 in
set_option maxHeartbeats 4000000 in
theorem rnewB_any (bl : Int) (l : List Int) (va : Option Addr) (vc : Nat) (w : World) (hv : w.ownsRow 0 3 1 (.slice va l.length vc) l.length (nvs l)) :
    Calls Try.prog 13 #[.int .i64 bl, .slice va l.length vc] w (RNb bl l w) := by
  have HV := hid hv
  clear hv
  obtain ⟨h1, h2⟩ := heap_two w (.cells #[.int .i64 1, .int .i64 0, .int .i64 bl, .slice va l.length vc, .slice none 0 0] 43) (.cells #[.int .i64 bl, .int .i64 1, .int .i64 2, .slice none 0 0, .slice (some ⟨w.heap.size, 0, none⟩) 1 1] 60)
  have hb : Below w.heap.size w ((w.alloc (.cells #[.int .i64 1, .int .i64 0, .int .i64 bl, .slice va l.length vc, .slice none 0 0] 43)).alloc (.cells #[.int .i64 bl, .int .i64 1, .int .i64 2, .slice none 0 0, .slice (some ⟨w.heap.size, 0, none⟩) 1 1] 60)) := ((Below.refl _ _).alloc (Nat.le_refl _) _).alloc (by simp) _
  have HF : Hid (RNb bl l w (.returned (.pointer (some ⟨w.heap.size + 1, 0, none⟩))) ((w.alloc (.cells #[.int .i64 1, .int .i64 0, .int .i64 bl, .slice va l.length vc, .slice none 0 0] 43)).alloc (.cells #[.int .i64 bl, .int .i64 1, .int .i64 2, .slice none 0 0, .slice (some ⟨w.heap.size, 0, none⟩) 1 1] 60))) := hid (by
    refine ⟨w.heap.size + 1, .slice (some ⟨w.heap.size, 0, none⟩) 1 1, [⟨⟨1, 0, bl, l, []⟩, .slice va l.length vc, .slice none 0 0⟩], rfl, ⟨h2, World.ownsRow_nil _ _ _ _, ?_, ?_, fun _ => rfl⟩, rfl, hb, by omega⟩
    · exact ⟨rfl, .inr ⟨w.heap.size, 1, _, rfl, Nat.zero_le _, h1, Nat.le_refl _, by unfold maxLen; omega, rfl, rfl⟩⟩
    · intro x hx
      rw [List.mem_singleton.1 hx]
      exact ⟨own_below HV.out hb, [], rfl, World.ownsRow_nil _ _ _ _, fun x hx => by cases hx⟩)
  clear h1 h2 hb
  go_enter Try.func13, Try.ntmps13
  go_wp2_with fail
  go_ret
  simpa using HF.out
/-- What play leaves. -/
def PlyP (w : World) (e : Ending) (w' : World) : Prop := ∃ b wb mb n ov D N X xb rv sv Y, e = .returned (.tuple #[.pointer (some ⟨b, 0, none⟩), .pointer (some ⟨xb, 0, none⟩), .bool true]) ∧ At w' b wb mb n ov D N X ∧ RB w' xb N rv sv Y ∧ Y.map (·.s) = X.map (·.s) ∧ Gd 100 N (X.map (·.s)) ∧ n ≤ 100 ∧ Below w.heap.size w w' ∧ (∀ q, AtR b wb mb q → w.heap.size ≤ q) ∧ w.heap.size ≤ xb
/-- Both maps side by side, behind i steps. -/
structure PlI (w : World) (b wb mb xb i : Nat) (wr : World) : Prop where
  both : ∃ n ov D N X rv sv Y, At wr b wb mb n ov D N X ∧ RB wr xb N rv sv Y ∧ Y.map (·.s) = X.map (·.s) ∧ Gd (2 + 2 * i) N (X.map (·.s)) ∧ n ≤ 1 + 2 * i
  bel : Below w.heap.size w wr
  ra : ∀ q, AtR b wb mb q → w.heap.size ≤ q
  rx : w.heap.size ≤ xb
theorem mem012 : memB [0, 1, 2] = true := by decide
theorem gd_new (bl : Int) (h : 1 ≤ bl ∧ bl ≤ 256) : Gd 2 ⟨bl, 1, 2, []⟩ [⟨1, 0, bl, [0, 1, 2], []⟩] :=
  ⟨⟨rfl, by show (0 : Int) < bl; omega, rfl⟩, by intro S hS; rw [List.mem_singleton.1 hS]; exact mem012, by intro S hS; rw [List.mem_singleton.1 hS]; exact ⟨by simp, by intro o ho; cases ho⟩, by intro S hS; rw [List.mem_singleton.1 hS]; exact ⟨by show (1 : Int) ≤ 1; omega, by show (1 : Int) < 2; omega⟩, List.pairwise_singleton _ _, ⟨by show (2 : Int) ≤ 2; omega, by show (2 : Int) ≤ 2; omega⟩, ⟨by show (1 : Int) ≤ 1; omega, by show (1 : Int) ≤ 2; omega⟩, by simp, by simp, h⟩
theorem Try.rowSt : ∃ d : TypeDesc, Try.prog.underlying 55 = some d ∧ d.isRow = true := by
  obtain ⟨d, h1, h2⟩ : ∃ d, Try.prog.underlying 55 = some d ∧ d.isRow = true := by
    have h : (Try.prog.underlying 55).map (·.isRow) = some true := by kernel_rfl
    cases hu : Try.prog.underlying 55 with
    | none => rw [hu] at h; cases h
    | some d => rw [hu] at h; exact ⟨d, rfl, by simpa using h⟩
  exact ⟨d, h1, h2⟩
theorem Try.sizeSt : (Try.prog.info? 55).map (·.size) = some 7 := by kernel_rfl
theorem rest_in64 (t m : Int) (h0 : 1 ≤ m) (h1 : m ≤ 1000000000) : 0 ≤ wrap64 ((IntKind.u64.wrap t).tmod m) ∧ wrap64 ((IntKind.u64.wrap t).tmod m) < m := by
  rw [u64_mod, Int.tmod_eq_emod_of_nonneg (by omega)]
  have a := Int.emod_nonneg (t % 18446744073709551616) (b := m) (by omega)
  have b := Int.emod_lt_of_pos (t % 18446744073709551616) (b := m) (by omega)
  rw [IntWalk.wrap64_in _ (by omega)]
  exact ⟨a, b⟩
set_option maxRecDepth 100000 in
set_option maxHeartbeats 8000000 in
theorem play_any (bl : Int) (L : List (ChD × Bool)) (v : Value) (w : World) (hv : Stps w v L) (hj : ∀ x ∈ L, ChJ x.1) :
    Calls Try.prog 7 #[.int .i64 bl, v] w (PlyP w) := by
  have HV := hid hv
  have HJ := hid hj
  have hL := hv.len
  obtain ⟨va, vc, rfl⟩ := hv.shape
  clear hv hj
  have hrr := rest_in64 bl 60 (by omega) (by omega)
  obtain ⟨nb, hnb⟩ : ∃ nb, nb = wrap64 (1 + wrap64 ((IntKind.u64.wrap bl).tmod 60)) := ⟨_, rfl⟩
  have HNB : Hid (1 ≤ nb ∧ nb ≤ 256) := hid (by rw [hnb, IntWalk.wrap64_in _ (by omega)]; omega)
  have HQ := hid hnb
  clear hnb hrr
  have HO : Hid (∀ W : World, (W.alloc (.cells #[.int .i64 0, .int .i64 1, .int .i64 2] 3)).ownsRow 0 3 1 (.slice (some ⟨W.heap.size, 0, none⟩) 3 3) 3 (nvs [0, 1, 2])) := hid fun W => own_many W 3 #[.int .i64 0, .int .i64 1, .int .i64 2] 1 3 (Nat.zero_le _) rfl (by omega)
  have HN1 := hid (anew_yes nb [0, 1, 2] (.slice (some ⟨w.heap.size, 0, none⟩) 3 3) (w.alloc (.cells #[.int .i64 0, .int .i64 1, .int .i64 2] 3)) (nums_own (HO.out w) rfl) (by simp) (by unfold anewB; rw [decide_eq_true HNB.out.1, decide_eq_true HNB.out.2, mem012]; rfl))
  have HN3 := hid fun W : World => rnewB_any nb [0, 1, 2] (some ⟨W.heap.size, 0, none⟩) 3 (W.alloc (.cells #[.int .i64 0, .int .i64 1, .int .i64 2] 3)) (HO.out W)
  go_enter Try.func7, Try.ntmps7
  go_upto_region 2 with fail
  rw [← HQ.out]
  clear HQ
  go_upto_region 3 with (go_at_call 10; refine HN1.out.mono ?_; rintro e w2 ⟨b, wb, mb, D, mv, pv, rfl, ha2, hb2, hr2⟩; have A2 := hid ha2; have HR2 := hid hr2; have B2 := hid (((Below.refl w.heap.size w).alloc (Nat.le_refl _) (.cells #[.int .i64 0, .int .i64 1, .int .i64 2] 3)).trans (hb2.mono (by simp))); clear ha2 hb2 hr2)
  go_upto_region 4 with (go_at_call 13; refine (HN3.out w2).mono ?_; rintro e w3 ⟨xb, sv, Y0, rfl, hr3, hy3, hb3, hx3⟩; have R3 := hid hr3; have HY3 := hid hy3; have HX3 : Hid (w.heap.size ≤ xb) := hid (Nat.le_trans B2.out.size (Nat.le_trans (by simp) hx3)); have HB3 := hid (((Below.refl w2.heap.size w2).alloc (Nat.le_refl _) (.cells #[.int .i64 0, .int .i64 1, .int .i64 2] 3)).trans (hb3.mono (by simp))); clear hr3 hy3 hb3 hx3)
  have HPI : Hid (PlI w b wb mb xb 0 w3) := hid ⟨⟨1, _, D, ⟨nb, 1, 2, []⟩, _, _, sv, Y0, A2.out.below HB3.out, R3.out, HY3.out, gd_new nb HNB.out, by omega⟩, B2.out.trans (HB3.out.mono B2.out.size), fun q hq => Nat.le_trans (by simp) (HR2.out q hq), HX3.out⟩
  clear A2 HR2 B2 R3 HY3 HX3 HB3 HN1 HN3 HO
  go_wp2_with fail
  go_loopw [11, 12, 13, 32] (fun _ _ _ iv wr => ∃ i : Nat, iv = .int .i64 i ∧ i ≤ L.length ∧ i ≤ 40 ∧ PlI w b wb mb xb i wr) (fun _ _ _ iv _ => L.length - (intOf iv).toNat)
  case atStart => exact ⟨0, rfl, Nat.zero_le _, by omega, HPI.out⟩
  case round =>
    obtain ⟨i, rfl, hi, hi40, hpi⟩ := hrel
    have P := hid hpi
    have HFIN : Hid (PlyP w (.returned (.tuple #[.pointer (some ⟨b, 0, none⟩), .pointer (some ⟨xb, 0, none⟩), .bool true])) wr) := hid (by
      obtain ⟨⟨n, ov, D, N, X, rv, sv, Y, h1, h2, h3, h4, h5⟩, h6, h7, h8⟩ := hpi
      exact ⟨b, wb, mb, n, ov, D, N, X, xb, rv, sv, Y, rfl, h1, h2, h3, h4.mono (by omega), by omega, h6, h7, h8⟩)
    clear hpi
    by_cases hlt : (i : Int) < (L.length : Int)
    · have hil : i < L.length := by omega
      have HVR := hid (HV.out.below P.out.bel)
      obtain ⟨gs, os, rfl⟩ := HVR.out.addr (by omega)
      have hrg := HVR.out.range i hil
      have HXJ := hid (HJ.out L[i] (List.getElem_mem hil))
      obtain ⟨⟨⟨k0, k1, k2, k3, k4, k5⟩, nr⟩, hx⟩ : ∃ x, x = L[i] := ⟨_, rfl⟩
      rw [← hx] at hrg HXJ
      clear hx
      unfold stC at hrg
      obtain ⟨dT, hdT1, hdT2⟩ := Try.rowSt
      obtain ⟨w3, hw3⟩ : ∃ w3, w3 = wr.alloc (.cells #[.int .i64 k0, .int .i64 k1, .int .i64 k2, .int .i64 k3, .int .i64 k4, .int .i64 k5, .bool nr] 55) := ⟨_, rfl⟩
      have HB3 : Hid (Below wr.heap.size wr w3) := hid (by rw [hw3]; exact (Below.refl _ _).alloc (Nat.le_refl _) _)
      have HS3 : Hid (w3.heap[wr.heap.size]? = some (.cells #[.int .i64 k0, .int .i64 k1, .int .i64 k2, .int .i64 k3, .int .i64 k4, .int .i64 k5, .bool nr] 55 (0, 0))) := hid (by rw [hw3]; exact heap_alloc_new _ _)
      have HW3 := hid hw3
      clear hw3
      go_upto_region 9 with (refine wpList_load_mid rfl _ _ rfl gs (os + i * 7) (by go_simp) [.int .i64 k0, .int .i64 k1, .int .i64 k2, .int .i64 k3, .int .i64 k4, .int .i64 k5, .bool nr] dT hrg hdT1 hdT2 Try.sizeSt ?_)
      rw [← HW3.out]
      clear HW3 hrg
      by_cases h40 : (40 : Int) ≤ (i : Int)
      · have HF3 : Hid (PlyP w (.returned (.tuple #[.pointer (some ⟨b, 0, none⟩), .pointer (some ⟨xb, 0, none⟩), .bool true])) w3) := hid (by
          obtain ⟨⟨n, ov, D, N, X, rv, sv, Y, h1, h2, h3, h4, h5⟩, h6, h7, h8⟩ := P.out
          exact ⟨b, wb, mb, n, ov, D, N, X, xb, rv, sv, Y, rfl, h1.below HB3.out, h2.below HB3.out, h3, h4.mono (by omega), by omega, h6.trans (HB3.out.mono h6.size), h7, h8⟩)
        go_wp2_with fail
        go_ret3
        exact HF3.out
      · have HI40 : Hid (i < 40) := hid (by omega)
        obtain ⟨⟨n, ov, D, N, X, rv, sv, Y, h1, h2, h3, h4, h5⟩, h6, h7, h8⟩ := P.out
        have A3 := hid (h1.below HB3.out)
        have R3 := hid (h2.below HB3.out)
        have HYX := hid h3
        have HGX := hid h4
        have HGY : Hid (Gd (2 + 2 * i) N (Y.map (·.s))) := hid (by rw [h3]; exact h4)
        have HNI := hid h5
        have B3 := hid (h6.trans (HB3.out.mono h6.size))
        have HRA := hid h7
        have HRX := hid h8
        clear h1 h2 h3 h4 h5 h6 h7 h8 HVR P HFIN
        have HOF := hid (of_any ⟨k0, k1, k2, k3, k4, k5⟩ nr xb (2 + 2 * i) rv sv N Y w3 HXJ.out R3.out HGY.out (by have := HI40.out; omega))
        unfold stV at HOF
        have hrg3 : w3.rangeAt wr.heap.size 0 [.int .i64 k0, .int .i64 k1, .int .i64 k2, .int .i64 k3, .int .i64 k4, .int .i64 k5, .bool nr] := range_of_row HS3.out 0 _ fun j v hv => by rw [Nat.zero_add]; simpa using hv
        generalize wr.heap.size = S3 at *
        go_upto_region 11 with (first | (refine wpList_load_mid rfl _ _ rfl S3 0 (by go_simp) [.int .i64 k0, .int .i64 k1, .int .i64 k2, .int .i64 k3, .int .i64 k4, .int .i64 k5, .bool nr] dT hrg3 hdT1 hdT2 Try.sizeSt ?_) | (go_at_call 19; refine HOF.out.mono ?_; rintro e w4 ⟨⟨c0, c1, c2, c3, c4, c5⟩, rfl, hcj, hb4⟩; unfold chV; have HCJ := hid hcj; have HB4 := hid hb4; clear hcj hb4))
        obtain ⟨w5, hw5⟩ : ∃ w5, w5 = w4.alloc (.cells #[.int .i64 c0, .int .i64 c1, .int .i64 c2, .int .i64 c3, .int .i64 c4, .int .i64 c5] 48) := ⟨_, rfl⟩
        have HB5 : Hid (Below w4.heap.size w4 w5) := hid (by rw [hw5]; exact (Below.refl _ _).alloc (Nat.le_refl _) _)
        have HC5 : Hid (w5.heap[w4.heap.size]? = some (.cells #[.int .i64 c0, .int .i64 c1, .int .i64 c2, .int .i64 c3, .int .i64 c4, .int .i64 c5] 48 (0, 0))) := hid (by rw [hw5]; exact heap_alloc_new _ _)
        rw [← hw5]
        clear hw5
        have HB35 := hid (HB4.out.trans (HB5.out.mono HB4.out.size))
        have A5 := hid (A3.out.below HB35.out)
        have R5 := hid (R3.out.below HB35.out)
        have B5 := hid (B3.out.trans (HB35.out.mono B3.out.size))
        generalize w4.heap.size = C5 at *
        obtain ⟨r, N', Z', hst⟩ := step_ex N (X.map (·.s)) ⟨c0, c1, c2, c3, c4, c5⟩ HGX.out.ne
        have HST := hid hst
        have HG2 := hid (gd_step HGX.out hst)
        clear hst HB4 HB5 HB35 A3 R3 B3 HOF hrg3 HS3 HB3
        obtain ⟨dC, hdC1, hdC2⟩ := Try.rowCh
        have HSW : Hid (∀ Y : World, Y.heap[C5]? = some (.cells #[.int .i64 c0, .int .i64 c1, .int .i64 c2, .int .i64 c3, .int .i64 c4, .int .i64 c5] 48 (0, 0)) → Y.rangeAt C5 0 [.int .i64 c0, .int .i64 c1, .int .i64 c2, .int .i64 c3, .int .i64 c4, .int .i64 c5]) := hid fun Y hY => range_of_row hY 0 _ fun j v hv => by rw [Nat.zero_add]; simpa using hv
        refine wp_region_held_drew (S := fun Y => Y.rangeAt C5 0 [.int .i64 c0, .int .i64 c1, .int .i64 c2, .int .i64 c3, .int .i64 c4, .int .i64 c5]) (by kernel_rfl) (HSW.out _ HC5.out) (fun hHeld => ?_)
        refine wpAnyH_take (i := 0) (v := ?av0) rfl (by kernel_rfl) (by kernel_rfl) (by kernel_rfl) (fun _ _ _ h => h) (Or.inl ⟨by rfl, ?ay0⟩) (by assumption) ?ar0
        case ay0 => (intro w hSw; (try dsimp only at hSw); go_simp; try with_reducible rfl)
        (try simp only [Act.put, List.setIfInBounds_toArray, List.set_cons_zero, List.set_cons_succ, List.getElem_toArray, List.getElem_cons_succ, List.getElem_cons_zero])
        refine wpAnyH_take (i := 1) (v := .agg #[.int .i64 c0, .int .i64 c1, .int .i64 c2, .int .i64 c3, .int .i64 c4, .int .i64 c5]) rfl (by kernel_rfl) (by kernel_rfl) (by kernel_rfl) (fun _ _ _ h => h) (yieldsIf_load_mid rfl _ _ rfl C5 0 rfl [.int .i64 c0, .int .i64 c1, .int .i64 c2, .int .i64 c3, .int .i64 c4, .int .i64 c5] dC (fun Y hY => hY) hdC1 hdC2 Try.sizeCh) (by assumption) ?_
        (try simp only [Act.put, List.setIfInBounds_toArray, List.set_cons_zero, List.set_cons_succ, List.getElem_toArray, List.getElem_cons_succ, List.getElem_cons_zero])
        refine wpAnyH_take (i := 3) (v := ?bv3) rfl (by kernel_rfl) (by kernel_rfl) (by kernel_rfl) (fun _ _ _ h => h) (Or.inl ⟨by rfl, ?by3⟩) (by assumption) ?br3
        case by3 => (intro w hSw; (try dsimp only at hSw); go_simp; try with_reducible rfl)
        (try simp only [Act.put, List.setIfInBounds_toArray, List.set_cons_zero, List.set_cons_succ, List.getElem_toArray, List.getElem_cons_succ, List.getElem_cons_zero])
        refine wpAnyH_take (i := 4) (v := .agg #[.int .i64 c0, .int .i64 c1, .int .i64 c2, .int .i64 c3, .int .i64 c4, .int .i64 c5]) rfl (by kernel_rfl) (by kernel_rfl) (by kernel_rfl) (fun _ _ _ h => h) (yieldsIf_load_mid rfl _ _ rfl C5 0 rfl [.int .i64 c0, .int .i64 c1, .int .i64 c2, .int .i64 c3, .int .i64 c4, .int .i64 c5] dC (fun Y hY => hY) hdC1 hdC2 Try.sizeCh) (by assumption) ?_
        (try simp only [Act.put, List.setIfInBounds_toArray, List.set_cons_zero, List.set_cons_succ, List.getElem_toArray, List.getElem_cons_succ, List.getElem_cons_zero])
        refine wpAnyH_ready (rs := [2]) (by kernel_rfl) (by simp) ?_
        refine AllReadyH.cons rfl (fun K hK => ?_) AllReadyH.nil
        rw [if_pos (by rfl)]
        go_wp2_with fail
        refine (aapply_any b wb mb n (2 + 2 * i) ov D N N' X Z' ⟨c0, c1, c2, c3, c4, c5⟩ r _ (A5.out.below ((Below.refl _ _).drew)) HGX.out HST.out HCJ.out (by have := HI40.out; omega) (by have := HI40.out; have := HNI.out; omega)).mono ?_
        rintro e w6 ⟨n6, ov6, D6, X6, rfl, ha6, hx6, hn6, ht6⟩
        have T6 := hid ((Tr.below (R := AtR b wb mb) ((Below.refl w5.heap.size w5).drew)).trans ht6)
        have A6 := hid ha6
        have HX6 := hid hx6
        have HN6 := hid hn6
        have R6 := hid (R5.out.away A5.out.m T6.out)
        have C6 := hid ((T6.out.block C5 (lt_of_block HC5.out) (A5.out.m.nob HC5.out (by decide) (by decide))).trans HC5.out)
        clear ha6 hx6 hn6 ht6
        refine hK.out _ _ (HSW.out _ C6.out) (fun hHeld => ?_)
        try clear hK K
        (try simp only [Act.put, List.setIfInBounds_toArray, List.set_cons_zero, List.set_cons_succ, List.getElem_toArray, List.getElem_cons_succ, List.getElem_cons_zero])
        refine wpAnyH_ready (rs := [5]) (by kernel_rfl) (by simp) ?_
        refine AllReadyH.cons rfl (fun K hK => ?_) AllReadyH.nil
        rw [if_pos (by rfl)]
        go_wp2_with fail
        refine (rapply_any xb (2 + 2 * i) rv sv N N' Y Z' ⟨c0, c1, c2, c3, c4, c5⟩ r _ R6.out HGY.out (by rw [HYX.out]; exact HST.out) (by have := HI40.out; omega)).mono ?_
        rintro e w7 ⟨rv7, sv7, Y7, rfl, hr7, hy7, ht7⟩
        have R7 := hid hr7
        have HY7 := hid hy7
        have A7 := hid (A6.out.away R6.out.box ht7)
        have C7 : Hid (w7.heap[C5]? = some (.cells #[.int .i64 c0, .int .i64 c1, .int .i64 c2, .int .i64 c3, .int .i64 c4, .int .i64 c5] 48 (0, 0))) := hid ((ht7.block C5 (lt_of_block C6.out) (fun e => by
          have e' : C5 = xb := e
          have h1 := C6.out
          rw [e', R6.out.box] at h1
          cases h1)).trans C6.out)
        have T7 := hid ht7
        clear hr7 hy7 ht7
        refine hK.out _ _ (HSW.out _ C7.out) (fun hHeld => ?_)
        try clear hK K
        (try simp only [Act.put, List.setIfInBounds_toArray, List.set_cons_zero, List.set_cons_succ, List.getElem_toArray, List.getElem_cons_succ, List.getElem_cons_zero])
        refine wpAnyH_take (i := 6) (v := ?dv6) rfl (by kernel_rfl) (by kernel_rfl) (by kernel_rfl) (fun _ _ _ h => h) (Or.inl ⟨by rfl, ?dy6⟩) (by assumption) ?dr6
        case dy6 => (intro w hSw; (try dsimp only at hSw); go_simp; try with_reducible rfl)
        (try simp only [Act.put, List.setIfInBounds_toArray, List.set_cons_zero, List.set_cons_succ, List.getElem_toArray, List.getElem_cons_succ, List.getElem_cons_zero])
        refine wpAnyH_done (by kernel_rfl) ?_ _
        have HREL : Hid (PlI w b wb mb xb (i + 1) w7) := hid ⟨⟨n6, ov6, D6, N', X6, rv7, sv7, Y7, A7.out, R7.out, by rw [HY7.out, HX6.out], by rw [HX6.out]; exact HG2.out.mono (by omega), by have := HN6.out; have := HNI.out; omega⟩, (B5.out.trans (T6.out.to HRA.out B5.out.size)).trans (T7.out.to (fun q hq => by have e : q = xb := hq; rw [e]; exact HRX.out) (Nat.le_trans B5.out.size T6.out.size)), HRA.out, HRX.out⟩
        go_wp2_with fail
        go_roundw
        case rel => exact ⟨i + 1, by go_num, by omega, by omega, HREL.out⟩
        case measure => simp [intOf]; omega
    · go_wp2_with fail
      go_ret3
      exact HFIN.out
end Go.Proofs.Ytplpbnglcfdaaaa
namespace Go.Proofs.Ytplpbnglcfdaaaa
open Go.RowKit Go.Maps Go.Shelf
set_option linter.unusedVariables false
set_option linter.unusedSimpArgs false

theorem ain_of {B : Nat} {N : AtN} {X : List SX} (g : Gd B N (X.map (·.s))) (hB : B ≤ 1000) : AIn N X := by
  have hm : ∀ x ∈ X, x.s ∈ X.map (·.s) := fun x hx => List.mem_map.2 ⟨x, hx, rfl⟩
  refine ⟨(chn_d X 0 N.bl).2 g.ch, fun x hx => ⟨?_, ?_, fun o ho => ?_⟩, fun x hx => ?_, one_of (ne_map g.ne), ?_, ?_, ?_⟩
  · have := mem7 (g.mb x.s (hm x hx)); omega
  · have := (g.pa x.s (hm x hx)).1; omega
  · have := mem7 ((g.pa x.s (hm x hx)).2 o ho); omega
  · have := g.id x.s (hm x hx); have := g.nx; omega
  · have := g.len; rw [List.length_map] at this; omega
  · have := g.opl; omega
  · have := g.bl; omega
set_option maxRecDepth 100000 in
set_option maxHeartbeats 4000000 in
theorem atlasApplies_any (bl : Int) (L : List (ChD × Bool)) (v : Value) (w : World) (hv : Stps w v L) (hj : ∀ x ∈ L, ChJ x.1) :
    Calls Try.prog 3 #[.int .i64 bl, v] w fun e w' => e = .returned (.bool true) ∧ Below w.heap.size w w' := by
  obtain ⟨va, vc, rfl⟩ := hv.shape
  have HP := hid (play_any bl L _ w hv hj)
  clear hv hj
  go_enter Try.func3, Try.ntmps3
  go_wp2_with (first | (go_at_call 7; refine HP.out.mono ?_; rintro e w2 ⟨b, wb, mb, n, ov, D, N, X, xb, rv, sv, Y, rfl, ha, hr, hy, hg, hn, hb, -, -⟩; have A := hid ha; have R := hid hr.ra; have HY := hid hy; have G := hid (ain_of hg (by omega)); have B2 := hid hb; clear ha hr hy hg hn hb) | (go_at_call 8; refine (alike_any b wb mb n xb ov rv sv D N X Y _ A.out G.out R.out HY.out).mono ?_; rintro e w3 ⟨rfl, hb3⟩; have B3 := hid (B2.out.trans (hb3.mono B2.out.size)); clear hb3) | (go_at_call 9; refine (lives_any _).mono ?_; rintro e w4 ⟨rfl, hb4⟩; have B4 := hid (B3.out.trans (hb4.mono B3.out.size)); clear hb4))
  go_ret
  exact ⟨rfl, B4.out⟩
end Go.Proofs.Ytplpbnglcfdaaaa
namespace Go.Proofs.Ytplpbnglcfdaaaa
open Go.RowKit Go.Maps Go.Shelf
set_option linter.unusedVariables false
set_option linter.unusedSimpArgs false

/-- Up to where the first i shards go. -/
def upD (Z : List ShD) : Nat → Int
  | 0 => 0
  | i + 1 => (Z[i]?.map (·.to)).getD 0
theorem upD_zero (Z : List ShD) : upD Z 0 = 0 := rfl
theorem upD_succ (Z : List ShD) (i : Nat) (h : i < Z.length) : upD Z (i + 1) = Z[i].to := by
  show (Z[i]?.map (·.to)).getD 0 = Z[i].to
  rw [List.getElem?_eq_getElem h]
  rfl
theorem chn_at : ∀ (Z : List ShD) (a b : Int), ChnD a Z b → ∀ i, (h : i < Z.length) → (i = 0 → Z[i].fr = a) ∧ (∀ j, (hj : j < Z.length) → i = j + 1 → Z[i].fr = Z[j].to)
  | [], a, b, _, i, h => by simp at h
  | x :: l, a, b, ⟨h1, h2, h3⟩, i, h => by
    cases i with
    | zero => exact ⟨fun _ => h1, fun j hj e => by omega⟩
    | succ i =>
      refine ⟨fun e => by omega, fun j hj e => ?_⟩
      obtain rfl : i = j := by omega
      have hi : i < l.length := by simpa using h
      have ih := chn_at l x.to b h3 i hi
      cases i with
      | zero => simpa using ih.1 rfl
      | succ i => simpa using ih.2 i (by omega) rfl
theorem upD_fr {Z : List ShD} {b : Int} (h : ChnD 0 Z b) (i : Nat) (hi : i < Z.length) : Z[i].fr = upD Z i := by
  have := chn_at Z 0 b h i hi
  cases i with
  | zero => rw [upD_zero]; exact this.1 rfl
  | succ i => rw [upD_succ Z i (by omega)]; exact this.2 i (by omega) rfl
theorem chn_end : ∀ (Z : List ShD) (a b : Int), ChnD a Z b → 0 < Z.length → upD Z Z.length = b
  | [], a, b, _, h => by simp at h
  | x :: l, a, b, ⟨h1, h2, h3⟩, _ => by
    rw [List.length_cons, upD_succ _ _ (by simp)]
    cases l with
    | nil => have e : x.to = b := h3; simpa using e
    | cons y t =>
      have ih := chn_end (y :: t) x.to b h3 (by simp)
      rw [List.length_cons, upD_succ _ _ (by simp)] at ih
      simpa using ih
set_option maxRecDepth 100000 in
set_option maxHeartbeats 8000000 in
theorem atlasWhole_any (bl : Int) (L : List (ChD × Bool)) (v : Value) (w : World) (hv : Stps w v L) (hj : ∀ x ∈ L, ChJ x.1) :
    Calls Try.prog 5 #[.int .i64 bl, v] w fun e w' => e = .returned (.bool true) ∧ Below w.heap.size w w' := by
  obtain ⟨va, vc, rfl⟩ := hv.shape
  have HP := hid (play_any bl L _ w hv hj)
  clear hv hj
  go_enter Try.func5, Try.ntmps5
  go_upto_region 6 with (first | (go_at_call 7; refine HP.out.mono ?_; rintro e w2 ⟨b, wb, mb, n, ov, D, N, X, xb, rv, sv, Y, rfl, ha, hr, hy, hg, hn, hb, -, -⟩; have A := hid ha; have G := hid (ain_of hg (by omega)); have GG := hid hg; have B2 := hid hb; clear ha hr hy hg hn hb) | (go_at_call 14; refine (shards_any b wb mb n ov D N X _ A.out G.out.shb G.out.i64 G.out.one G.out.len).mono ?_; rintro e w3 ⟨Z, va3, vc3, rfl, hz3, ho3, hm3, hb3⟩; have O3 := hid ho3; have HZ3 := hid hz3; have M3 := hid hm3; have A3 := hid (A.out.below hb3); have B3 := hid (B2.out.trans (hb3.mono B2.out.size)); clear hz3 ho3 hm3 hb3))
  have HLZ : Hid (Z.length = X.length) := hid (by have := congrArg List.length HZ3.out; simpa using this)
  have hZL : (Z.length : Int) ≤ 100000 := by have := HLZ.out; have := G.out.len; omega
  have HSD : Hid (∀ i, (h : i < Z.length) → Z[i].s.fr = upD (X.map (·.s)) i ∧ Z[i].s.to = upD (X.map (·.s)) (i + 1) ∧ Z[i].s.fr < Z[i].s.to ∧ memB Z[i].s.mem = true) := hid fun i h => by
    have hx : i < (X.map (·.s)).length := by rw [List.length_map, ← HLZ.out]; exact h
    have e : Z[i].s = (X.map (·.s))[i] := by
      have h1 : (Z.map (·.s))[i]? = (X.map (·.s))[i]? := by rw [HZ3.out]
      rw [List.getElem?_eq_getElem (by simpa using h), List.getElem?_eq_getElem hx] at h1
      simpa using h1
    rw [e]
    refine ⟨upD_fr GG.out.ch i hx, (upD_succ _ i hx).symm, (ChnD.mem _ _ _ GG.out.ch _ (List.getElem_mem hx)).2.1, GG.out.mb _ (List.getElem_mem hx)⟩
  have HEND : Hid (upD (X.map (·.s)) Z.length = N.bl) := hid (by
    have hp : 0 < (X.map (·.s)).length := by
      cases hX : X.map (·.s) with
      | nil =>
        have h0 : ChnD 0 (X.map (·.s)) N.bl := GG.out.ch
        rw [hX] at h0
        have h1 : (0 : Int) = N.bl := h0
        have := GG.out.bl
        omega
      | cons y l => simp
    have := chn_end _ 0 N.bl GG.out.ch hp
    rw [List.length_map] at this
    rw [HLZ.out]
    exact this)
  have HU0 : Hid (upD (X.map (·.s)) 0 = 0) := hid rfl
  obtain ⟨U, hU⟩ : ∃ U, U = upD (X.map (·.s)) := ⟨_, rfl⟩
  rw [← hU] at HSD HEND HU0
  clear hU
  go_loopw [8, 10, 26] (fun av _ iv wr => ∃ i : Nat, iv = .int .i64 i ∧ i ≤ Z.length ∧ av = .int .i64 (U i) ∧ Below w3.heap.size w3 wr) (fun _ _ iv _ => Z.length - (intOf iv).toNat)
  case atStart => exact ⟨0, rfl, Nat.zero_le _, by rw [HU0.out], Below.refl _ _⟩
  case round =>
    obtain ⟨i, rfl, hi, rfl, hb⟩ := hrel
    have BB := hid hb
    clear hb
    by_cases hlt : (i : Int) < (Z.length : Int)
    · have hil : i < Z.length := by omega
      obtain ⟨g, rfl⟩ : ∃ g, va3 = some ⟨g, 0, none⟩ := own_some O3.out (by omega)
      have hRG : wr.rangeAt g (i * 5) Z[i].c := own_range (own_below O3.out BB.out) (i * 5) _ fun k v hv => shvs_part Z i hil k v hv
      have HM := hid ((M3.out Z[i] (List.getElem_mem hil)).below BB.out)
      obtain ⟨⟨ma, mc, hmv⟩, ⟨pa, pc, hpv⟩⟩ := HM.out.shape
      obtain ⟨hd1, hd2, hd3, hd4⟩ := HSD.out i hil
      have HMB := hid hd4
      have HTO := hid hd2
      unfold SX.c at hRG
      rw [hmv, hpv] at hRG
      have HMN : Hid (Nums wr (.slice ma Z[i].s.mem.length mc) Z[i].s.mem) := hid (by have := nums_own HM.out.m rfl; rw [hmv] at this; exact this)
      clear hmv hpv hd4 hd2 HM
      generalize Z[i].s = S at *
      rw [hd1] at hRG hd3
      clear hd1
      have hn1 : (U i != U i) = false := by simp
      have hn2 : ¬ S.to ≤ U i := by omega
      have HB9 : Hid (Below w3.heap.size w3 (wr.alloc (.cells #[.int .i64 S.id, .int .i64 (U i), .int .i64 S.to, .slice ma S.mem.length mc, .slice pa S.past.length pc] 43))) := hid (BB.out.trans (((Below.refl wr.heap.size wr).alloc (Nat.le_refl _) _).mono BB.out.size))
      have h9 := heap_alloc_new wr (.cells #[.int .i64 S.id, .int .i64 (U i), .int .i64 S.to, .slice ma S.mem.length mc, .slice pa S.past.length pc] 43)
      have c1 : (wr.alloc (.cells #[.int .i64 S.id, .int .i64 (U i), .int .i64 S.to, .slice ma S.mem.length mc, .slice pa S.past.length pc] 43)).cell? ⟨wr.heap.size, 1, none⟩ = some (.int .i64 (U i)) := (cell_of_row _ _ _ _ _ _ h9).trans rfl
      have c2 : (wr.alloc (.cells #[.int .i64 S.id, .int .i64 (U i), .int .i64 S.to, .slice ma S.mem.length mc, .slice pa S.past.length pc] 43)).cell? ⟨wr.heap.size, 2, none⟩ = some (.int .i64 S.to) := (cell_of_row _ _ _ _ _ _ h9).trans rfl
      have c3 : (wr.alloc (.cells #[.int .i64 S.id, .int .i64 (U i), .int .i64 S.to, .slice ma S.mem.length mc, .slice pa S.past.length pc] 43)).cell? ⟨wr.heap.size, 3, none⟩ = some (.slice ma S.mem.length mc) := (cell_of_row _ _ _ _ _ _ h9).trans rfl
      have HMA := hid (HMN.out.below ((Below.refl wr.heap.size wr).alloc (Nat.le_refl _) (.cells #[.int .i64 S.id, .int .i64 (U i), .int .i64 S.to, .slice ma S.mem.length mc, .slice pa S.past.length pc] 43)))
      clear h9
      go_upto_region 8 with (refine wpl_loadM rfl _ rfl g (i * 5) (by go_simp) _ _ _ _ _ hRG ?_)
      generalize wr.alloc (.cells #[.int .i64 S.id, .int .i64 (U i), .int .i64 S.to, .slice ma S.mem.length mc, .slice pa S.past.length pc] 43) = w9 at *
      generalize wr.heap.size = S9 at *
      generalize hui : U i = ui at *
      clear hui
      go_wp2_with (go_at_call 12; refine (isMembers_any S.mem _ _ HMA.out).mono ?_; rw [HMB.out]; rintro e wx ⟨rfl, hx⟩; replace hx := hx.symm; subst hx)
      go_roundw
      case rel => exact ⟨i + 1, by go_num, by omega, by rw [HTO.out], HB9.out⟩
      case measure => simp [intOf]; omega
    · obtain rfl : Z.length = i := by omega
      have A5 := hid (A3.out.below BB.out)
      have B5 := hid (B3.out.trans (BB.out.mono B3.out.size))
      rw [HEND.out]
      have HBL : Hid (1 ≤ N.bl ∧ N.bl ≤ 256) := hid GG.out.bl
      obtain ⟨wa, hwa⟩ : ∃ wa, wa = wr := ⟨_, rfl⟩
      rw [← hwa] at A5 B5
      rw [← hwa]
      clear hwa BB O3 M3 A3 B3 HSD HEND HU0
      have HAB := hid fun W : World => fun (hW : Below wa.heap.size wa W) => ablocks_any b wb mb n ov D N _ X W (A5.out.below hW).m
      go_upto_region 13 with fail
      go_loopw [11, 12, 13, 58] (fun kv _ _ _ wr => ∃ k : Int, kv = .int .i64 k ∧ -1 ≤ k ∧ k ≤ N.bl + 1 ∧ Below wa.heap.size wa wr) (fun kv _ _ _ _ => (N.bl + 1 - intOf kv).toNat)
      case atStart => exact ⟨-1, rfl, by omega, by have := HBL.out; omega, Below.refl _ _⟩
      case round =>
        obtain ⟨k, rfl, hk1, hk2, hb⟩ := hrel
        have BB2 := hid hb
        have A6 := hid (A5.out.below hb)
        clear hb
        have hwk : k ≤ N.bl → IntKind.i64.wrap (k + 1) = k + 1 := fun h => IntWalk.i64_in _ ⟨by have := HBL.out; omega, by have := HBL.out; omega⟩
        by_cases hle : k ≤ N.bl
        · replace hwk := hwk hle
          by_cases hin : 0 ≤ k ∧ k < N.bl
          · obtain ⟨h0, hkb⟩ := hin
            obtain ⟨x, hx, hx1, hx2⟩ := Chn.cover X 0 N.bl G.out.ch k h0 hkb
            have HFD := hid fun (W : World) (hW : At W b wb mb n ov D N X) => find_yes b wb mb n ov D N X k x 0 N.bl W hW G.out.ch hx ⟨hx1, hx2⟩ (G.out.shb x hx) (G.out.i64 x hx) (fun y hy e => G.out.one x hx y hy e) (by have := G.out.len; omega) (chn_one X 0 N.bl k G.out.ch)
            generalize x.s = S at *
            clear hx
            have hn1 : ¬ k < S.fr := by omega
            have hn2 : ¬ S.to ≤ k := by omega
            clear hx1 hx2
            go_upto_region 16 with (first | (go_at_call 15; refine (HAB.out _ BB2.out).mono ?_; rintro e wx ⟨rfl, hx⟩; replace hx := hx.symm; subst hx)
                                          | (go_at_call 16; refine (HFD.out _ A6.out).mono ?_; rintro e w6 ⟨mv, pv, rfl, hm6, hb6⟩; obtain ⟨⟨ma, mc, rfl⟩, ⟨pa, pc, rfl⟩⟩ := hm6.shape; unfold shV; have B6 := hid (BB2.out.trans (hb6.mono BB2.out.size)); clear hm6 hb6))
            obtain ⟨w7, hw7⟩ : ∃ w7, w7 = w6.alloc (.cells #[.int .i64 S.id, .int .i64 S.fr, .int .i64 S.to, .slice ma S.mem.length mc, .slice pa S.past.length pc] 43) := ⟨_, rfl⟩
            have HB7 : Hid (Below w6.heap.size w6 w7) := hid (by rw [hw7]; exact (Below.refl _ _).alloc (Nat.le_refl _) _)
            have h7 : w7.heap[w6.heap.size]? = some (.cells #[.int .i64 S.id, .int .i64 S.fr, .int .i64 S.to, .slice ma S.mem.length mc, .slice pa S.past.length pc] 43 (0, 0)) := by rw [hw7]; exact heap_alloc_new _ _
            rw [← hw7]
            clear hw7
            have c1 : w7.cell? ⟨w6.heap.size, 1, none⟩ = some (.int .i64 S.fr) := (cell_of_row _ _ _ _ _ _ h7).trans rfl
            have c2 : w7.cell? ⟨w6.heap.size, 2, none⟩ = some (.int .i64 S.to) := (cell_of_row _ _ _ _ _ _ h7).trans rfl
            have B7 := hid (B6.out.trans (HB7.out.mono B6.out.size))
            generalize w6.heap.size = S6 at *
            go_wp2_with (go_at_call 15; refine (HAB.out _ B7.out).mono ?_; rintro e wx ⟨rfl, hx⟩; replace hx := hx.symm; subst hx)
            go_roundw
            case rel => exact ⟨k + 1, rfl, by omega, by omega, B7.out⟩
            case measure => simp [intOf]; omega
          · have HFD := hid fun (W : World) (hW : At W b wb mb n ov D N X) => find_no b wb mb n ov D N X k W hW (fun x hx hxk => hin (by have := Chn.mem X 0 N.bl G.out.ch x hx; omega)) (fun y hy => by have := G.out.id y hy; omega) (by have := G.out.len; omega)
            obtain ⟨S, hS⟩ : ∃ S, S = zS := ⟨_, rfl⟩
            rw [← hS] at HFD
            clear hS
            by_cases h0 : 0 ≤ k
            · have hkb : ¬ k < N.bl := fun h => hin ⟨h0, h⟩
              clear hin
              go_upto_region 16 with (first | (go_at_call 15; refine (HAB.out _ BB2.out).mono ?_; rintro e wx ⟨rfl, hx⟩; replace hx := hx.symm; subst hx)
                                            | (go_at_call 16; refine (HFD.out _ A6.out).mono ?_; rintro e w6 ⟨mv, pv, rfl, hm6, hb6⟩; obtain ⟨⟨ma, mc, rfl⟩, ⟨pa, pc, rfl⟩⟩ := hm6.shape; unfold shV; have B6 := hid (BB2.out.trans (hb6.mono BB2.out.size)); clear hm6 hb6))
              obtain ⟨w7, hw7⟩ : ∃ w7, w7 = w6.alloc (.cells #[.int .i64 S.id, .int .i64 S.fr, .int .i64 S.to, .slice ma S.mem.length mc, .slice pa S.past.length pc] 43) := ⟨_, rfl⟩
              have HB7 : Hid (Below w6.heap.size w6 w7) := hid (by rw [hw7]; exact (Below.refl _ _).alloc (Nat.le_refl _) _)
              have h7 : w7.heap[w6.heap.size]? = some (.cells #[.int .i64 S.id, .int .i64 S.fr, .int .i64 S.to, .slice ma S.mem.length mc, .slice pa S.past.length pc] 43 (0, 0)) := by rw [hw7]; exact heap_alloc_new _ _
              rw [← hw7]
              clear hw7
              have c1 : w7.cell? ⟨w6.heap.size, 1, none⟩ = some (.int .i64 S.fr) := (cell_of_row _ _ _ _ _ _ h7).trans rfl
              have c2 : w7.cell? ⟨w6.heap.size, 2, none⟩ = some (.int .i64 S.to) := (cell_of_row _ _ _ _ _ _ h7).trans rfl
              have B7 := hid (B6.out.trans (HB7.out.mono B6.out.size))
              generalize w6.heap.size = S6 at *
              go_wp2_with (go_at_call 15; refine (HAB.out _ B7.out).mono ?_; rintro e wx ⟨rfl, hx⟩; replace hx := hx.symm; subst hx)
              go_roundw
              case rel => exact ⟨k + 1, rfl, by omega, by omega, B7.out⟩
              case measure => simp [intOf]; omega
            · clear hin
              go_upto_region 16 with (first | (go_at_call 15; refine (HAB.out _ BB2.out).mono ?_; rintro e wx ⟨rfl, hx⟩; replace hx := hx.symm; subst hx)
                                            | (go_at_call 16; refine (HFD.out _ A6.out).mono ?_; rintro e w6 ⟨mv, pv, rfl, hm6, hb6⟩; obtain ⟨⟨ma, mc, rfl⟩, ⟨pa, pc, rfl⟩⟩ := hm6.shape; unfold shV; have B6 := hid (BB2.out.trans (hb6.mono BB2.out.size)); clear hm6 hb6))
              obtain ⟨w7, hw7⟩ : ∃ w7, w7 = w6.alloc (.cells #[.int .i64 S.id, .int .i64 S.fr, .int .i64 S.to, .slice ma S.mem.length mc, .slice pa S.past.length pc] 43) := ⟨_, rfl⟩
              have HB7 : Hid (Below w6.heap.size w6 w7) := hid (by rw [hw7]; exact (Below.refl _ _).alloc (Nat.le_refl _) _)
              have h7 : w7.heap[w6.heap.size]? = some (.cells #[.int .i64 S.id, .int .i64 S.fr, .int .i64 S.to, .slice ma S.mem.length mc, .slice pa S.past.length pc] 43 (0, 0)) := by rw [hw7]; exact heap_alloc_new _ _
              rw [← hw7]
              clear hw7
              have c1 : w7.cell? ⟨w6.heap.size, 1, none⟩ = some (.int .i64 S.fr) := (cell_of_row _ _ _ _ _ _ h7).trans rfl
              have c2 : w7.cell? ⟨w6.heap.size, 2, none⟩ = some (.int .i64 S.to) := (cell_of_row _ _ _ _ _ _ h7).trans rfl
              have B7 := hid (B6.out.trans (HB7.out.mono B6.out.size))
              generalize w6.heap.size = S6 at *
              go_wp2_with (go_at_call 15; refine (HAB.out _ B7.out).mono ?_; rintro e wx ⟨rfl, hx⟩; replace hx := hx.symm; subst hx)
              go_roundw
              case rel => exact ⟨k + 1, rfl, by omega, by omega, B7.out⟩
              case measure => simp [intOf]; omega
        · clear hwk
          go_wp2_with (first | (go_at_call 15; refine (HAB.out _ BB2.out).mono ?_; rintro e wx ⟨rfl, hx⟩; replace hx := hx.symm; subst hx)
                             | (go_at_call 9; refine (lives_any _).mono ?_; rintro e w9 ⟨rfl, hb9⟩; have B9 := hid (B5.out.trans ((BB2.out.trans (hb9.mono BB2.out.size)).mono B5.out.size)); clear hb9))
          go_ret
          exact ⟨rfl, B9.out⟩
end Go.Proofs.Ytplpbnglcfdaaaa
namespace Go.Proofs.Ytplpbnglcfdaaaa
open Go.ChangeShapes Go.WideShapes Go.ChangeAt Go.RowKit Go.Deep
set_option maxRecDepth 100000

variable {H : Type} {enc : TypeId × Value → H} {w : World} {base : Nat} {spare : Nat → Bool} {held : Bool}

theorem Try.cellsI : Try.prog.cellsOf 3 = 1 := by kernel_rfl
theorem int_of {n : Nat} {v0 : Value} {y0 : DataW H × List MemPlace} (h0 : DataW.trod enc Try.prog w base spare held n 3 [v0] = some y0) : ∃ x : Int, v0 = .int .i64 x ∧ I64 x := by
  obtain ⟨a0, e0, rfl, w0⟩ := DataW.trod_int Try.underlying3 h0
  simp at e0
  subst e0
  have s0 : -9223372036854775808 ≤ a0 ∧ a0 ≤ 9223372036854775807 := by simpa [Lit.wf, IntKind.min, IntKind.max, IntKind.signed, IntKind.bits] using w0
  exact ⟨a0, rfl, s0⟩
/-- A slice of numbers that came in. -/
theorem nums_of {n : Nat} {v : Value} {y : DataW H × List MemPlace} (h : DataW.trod enc Try.prog w base spare held n 30 [v] = some y) : ∃ l, Nums w v l ∧ ∀ x ∈ l, I64 x := by
  rcases DataW.trod_slice Try.underlying30 h with ⟨hcs, _⟩ | ⟨a, len, cap, elems, rest, n', _, hcs, _, hb, hl, hm, hlen, hel, _, _⟩
  · simp at hcs
    subst hcs
    exact ⟨[], ⟨none, 0, 0, rfl, rfl, Nat.le_refl _, by omega, (fun _ => rfl), (fun ad h => by cases h)⟩, by simp⟩
  · simp at hcs
    subst hcs
    have each : ∀ i, i < len → ∃ q : Int, w.cell? (a.add i) = some (.int .i64 q) ∧ I64 q := by
      intro i hi
      have h1 := hel i hi
      rw [List.getElem?_eq_getElem (by omega), Try.cellsI] at h1
      obtain ⟨cs, h2, h3⟩ := Option.bind_eq_some_iff.1 h1
      obtain ⟨_, hcl, hcell⟩ := World.cells?_some h2
      match cs, hcl with
      | [v0], _ =>
        obtain ⟨x, rfl, hx⟩ := int_of h3
        have e0 := hcell 0 (by omega)
        rw [Addr.add_add] at e0
        exact ⟨x, by simpa using e0, hx⟩
    obtain ⟨q, hq⟩ := choose_lt each
    refine ⟨(List.range len).map q, ⟨some a, len, cap, rfl, by simp, hl, by unfold maxLen at hm; omega, (fun h => by cases h), fun ad had j hj => ?_⟩, ?_⟩
    · obtain rfl := Option.some.inj had
      have hj' : j < len := by simpa using hj
      simp only [List.getElem_map, List.getElem_range]
      exact (hq j hj').1
    · intro x hx
      simp only [List.mem_map, List.mem_range] at hx
      obtain ⟨i, hi, rfl⟩ := hx
      exact (hq i hi).2
end Go.Proofs.Ytplpbnglcfdaaaa
namespace Go.Proofs.Ytplpbnglcfdaaaa
open Go.ChangeShapes Go.WideShapes Go.ChangeAt Go.RowKit Go.Deep
set_option maxRecDepth 100000

variable {H : Type} {enc : TypeId × Value → H} {w : World} {base : Nat} {spare : Nat → Bool} {held : Bool}
theorem Try.cellsCh : Try.prog.cellsOf 48 = 6 := by kernel_rfl
theorem ch6_of {n : Nat} {v0 v1 v2 v3 v4 v5 : Value} {y : DataW H × List MemPlace} (h : DataW.trod enc Try.prog w base spare held n 48 [v0, v1, v2, v3, v4, v5] = some y) : ∃ c : ChD, v0 = .int .i64 c.k ∧ v1 = .int .i64 c.sh ∧ v2 = .int .i64 c.ot ∧ v3 = .int .i64 c.at' ∧ v4 = .int .i64 c.out ∧ v5 = .int .i64 c.in' ∧ ChJ c := by
  obtain ⟨xs, k, hk, hxy, _, hxl, hf⟩ := DataW.trod_struct Try.underlying48 h
  match xs, hxl with
  | [y0, y1, y2, y3, y4, y5], _ =>
    have g0 := hf 0 _ rfl
    have g1 := hf 1 _ rfl
    have g2 := hf 2 _ rfl
    have g3 := hf 3 _ rfl
    have g4 := hf 4 _ rfl
    have g5 := hf 5 _ rfl
    simp [Try.cellsI] at g0 g1 g2 g3 g4 g5
    obtain ⟨x0, rfl, i0⟩ := int_of g0
    obtain ⟨x1, rfl, i1⟩ := int_of g1
    obtain ⟨x2, rfl, i2⟩ := int_of g2
    obtain ⟨x3, rfl, i3⟩ := int_of g3
    obtain ⟨x4, rfl, i4⟩ := int_of g4
    obtain ⟨x5, rfl, i5⟩ := int_of g5
    refine ⟨⟨x0, x1, x2, x3, x4, x5⟩, rfl, rfl, rfl, rfl, rfl, rfl, ?_⟩
    intro x hx
    simp only [numC, List.mem_cons, List.not_mem_nil, or_false] at hx
    rcases hx with rfl | rfl | rfl | rfl | rfl | rfl <;> assumption
/-- A change by value. -/
theorem ch_of {r : Reach} {b0 : Nat} {v : Value} {d : DataW H} {p : List MemPlace} (hv : Value.okWide Try.prog w r b0 48 v) (h : DataW.Trod enc Try.prog w base spare held 48 v d p) : ∃ c : ChD, v = chV c ∧ ChJ c := by
  simp only [Value.okWide, Try.underlying48] at hv
  obtain ⟨cs, rfl, h2, -⟩ := hv
  rw [Try.cellsCh] at h2
  obtain ⟨l⟩ := cs
  obtain ⟨fuel, hf⟩ := h
  match l, h2 with
  | [c0, c1, c2, c3, c4, c5], _ =>
    obtain ⟨c, rfl, rfl, rfl, rfl, rfl, rfl, hj⟩ := ch6_of hf
    exact ⟨c, rfl, hj⟩
end Go.Proofs.Ytplpbnglcfdaaaa
namespace Go.Proofs.Ytplpbnglcfdaaaa
open Go.ChangeShapes Go.WideShapes Go.ChangeAt Go.RowKit Go.Deep
set_option maxRecDepth 100000
set_option linter.unusedVariables false

variable {H : Type} {enc : TypeId × Value → H} {w : World} {base : Nat} {spare : Nat → Bool} {held : Bool}
theorem Try.cellsBs : Try.prog.cellsOf 4 = 1 := by kernel_rfl
theorem Try.cellsSt : Try.prog.cellsOf 55 = 7 := by kernel_rfl
theorem choose_ltT {α : Type} [Inhabited α] {n : Nat} {P : Nat → α → Prop} (h : ∀ i, i < n → ∃ x, P i x) : ∃ f : Nat → α, ∀ i, i < n → P i (f i) :=
  Classical.axiomOfChoice (r := fun i x => i < n → P i x) fun i => by
    by_cases hi : i < n
    · obtain ⟨x, hx⟩ := h i hi; exact ⟨x, fun _ => hx⟩
    · exact ⟨default, fun hh => absurd hh hi⟩
theorem st7_of {n : Nat} {v0 v1 v2 v3 v4 v5 v6 : Value} {y : DataW H × List MemPlace} (h : DataW.trod enc Try.prog w base spare held n 55 [v0, v1, v2, v3, v4, v5, v6] = some y) : ∃ (c : ChD) (nr : Bool), v0 = .int .i64 c.k ∧ v1 = .int .i64 c.sh ∧ v2 = .int .i64 c.ot ∧ v3 = .int .i64 c.at' ∧ v4 = .int .i64 c.out ∧ v5 = .int .i64 c.in' ∧ v6 = .bool nr ∧ ChJ c := by
  obtain ⟨xs, k, hk, hxy, _, hxl, hf⟩ := DataW.trod_struct Try.underlying55 h
  match xs, hxl with
  | [y0, y1], _ =>
    have g0 := hf 0 _ rfl
    have g1 := hf 1 _ rfl
    simp [Try.cellsCh, Try.cellsBs] at g0 g1
    obtain ⟨c, e0, e1, e2, e3, e4, e5, hj⟩ := ch6_of g0
    obtain ⟨nr, hb, _⟩ := DataW.trod_bool Try.underlying4 g1
    exact ⟨c, nr, e0, e1, e2, e3, e4, e5, by simpa using hb, hj⟩
/-- A step by value. -/
theorem st_of {r : Reach} {b0 : Nat} {v : Value} {d : DataW H} {p : List MemPlace} (hv : Value.okWide Try.prog w r b0 55 v) (h : DataW.Trod enc Try.prog w base spare held 55 v d p) : ∃ x : ChD × Bool, v = .agg (stC x).toArray ∧ ChJ x.1 := by
  simp only [Value.okWide, Try.underlying55] at hv
  obtain ⟨cs, rfl, h2, -⟩ := hv
  rw [Try.cellsSt] at h2
  obtain ⟨l⟩ := cs
  obtain ⟨fuel, hf⟩ := h
  match l, h2 with
  | [c0, c1, c2, c3, c4, c5, c6], _ =>
    obtain ⟨c, nr, rfl, rfl, rfl, rfl, rfl, rfl, rfl, hj⟩ := st7_of hf
    exact ⟨(c, nr), rfl, hj⟩
/-- A slice of steps that came in. -/
theorem stps_of {n : Nat} {v : Value} {y : DataW H × List MemPlace} (h : DataW.trod enc Try.prog w base spare held n 22 [v] = some y) : ∃ l, Stps w v l ∧ ∀ x ∈ l, ChJ x.1 := by
  rcases DataW.trod_slice Try.underlying22 h with ⟨hcs, _⟩ | ⟨a, len, cap, elems, rest, n', _, hcs, _, hb, hl, hm, hlen, hel, _, _⟩
  · simp at hcs
    subst hcs
    exact ⟨[], ⟨none, 0, 0, rfl, rfl, Nat.le_refl _, by omega, (fun _ => rfl), (fun ad h => by cases h)⟩, by simp⟩
  · simp at hcs
    subst hcs
    have each : ∀ i, i < len → ∃ q : ChD × Bool, (∀ k u, (stC q)[k]? = some u → w.cell? (a.add (i * 7 + k)) = some u) ∧ ChJ q.1 := by
      intro i hi
      have h1 := hel i hi
      rw [List.getElem?_eq_getElem (by omega), Try.cellsSt] at h1
      obtain ⟨cs, h2, h3⟩ := Option.bind_eq_some_iff.1 h1
      obtain ⟨_, hcl, hcell⟩ := World.cells?_some h2
      match cs, hcl with
      | [v0, v1, v2, v3, v4, v5, v6], _ =>
        obtain ⟨c, nr, rfl, rfl, rfl, rfl, rfl, rfl, rfl, hj⟩ := st7_of h3
        refine ⟨(c, nr), fun k u hk => ?_, hj⟩
        have hk7 : k < 7 := (List.getElem?_eq_some_iff.1 hk).1
        have e := hcell k (by simpa using hk7)
        rw [Addr.add_add] at e
        rw [e]
        have : (stC (c, nr))[k]? = _ := hk
        unfold stC at this
        simpa using this
    haveI : Inhabited (ChD × Bool) := ⟨(⟨0, 0, 0, 0, 0, 0⟩, false)⟩
    obtain ⟨q, hq⟩ := choose_ltT each
    refine ⟨(List.range len).map q, ⟨some a, len, cap, rfl, by simp, hl, by unfold maxLen at hm; omega, (fun h => by cases h), fun ad had j hj => ?_⟩, ?_⟩
    · obtain rfl := Option.some.inj had
      have hj' : j < len := by simpa using hj
      simp only [List.getElem_map, List.getElem_range]
      exact (hq j hj').1
    · intro x hx
      simp only [List.mem_map, List.mem_range] at hx
      obtain ⟨i, hi, rfl⟩ := hx
      exact (hq i hi).2
end Go.Proofs.Ytplpbnglcfdaaaa
namespace Go.Proofs.Ytplpbnglcfdaaaa.atlasWhole
open Go.ChangeShapes Go.WideShapes Go.ChangeAt Go.RowKit
set_option linter.unusedVariables false

theorem own : ownKnob Try.prog.godebug = none := by kernel_rfl
theorem laidOut : laidOutB Try.prog = true := by kernel_rfl

set_option maxRecDepth 100000 in
set_option maxHeartbeats 1600000 in
theorem lifted (os : Os) (started : os.Started) (H : Type) (enc : TypeId × Value → H) :
    ReturnsInHanded {} Try.checked os 5 .any (Rows.atlasWholeSpec.pre6 enc Try.prog Try.f5 Rows.atlasWholeRow.domain false) (Rows.atlasWholeSpec.post enc Try.prog Try.f5 false true false false) := by
  refine returnsInHanded_of_change (C := Try.checked) own started (by kernel_rfl) Try.func5
    (ChangeSpec.witness6 (enc := enc) (C := Try.checked) false ⟨#[], #[.int .i64 0, .slice none 0 0], []⟩ 8 (by kernel_rfl) (by kernel_rfl) (by kernel_rfl) (by kernel_rfl)) ?_
  intro W base args ds gs before hval0 hW hcnd _
  have hval : ∀ (j : Nat) t v, Try.f5.params[j]? = some t → args[j]? = some v → Value.okWide Try.prog W .any base t v := hval0
  have hW' := hW
  obtain ⟨p, q, hA0, hV, rfl, hfz, hnd⟩ := hW
  have hA : DataW.TrodAll enc Try.prog W 0 (fun _ => true) true Try.f5.params.toList args.toList ds p := hA0
  rw [Try.params5] at hA hval
  obtain ⟨v0, vs0, d0, ds0, p0, q0, hargs, rfl, rfl, h0, r0⟩ := trodAll_cons hA
  obtain ⟨v1, vs1, d1, ds1, p1, q1, rfl, rfl, rfl, h1, r1⟩ := trodAll_cons r0
  obtain ⟨rfl, rfl, rfl⟩ := trodAll_nil r1
  obtain rfl : args = #[v0, v1] := by cases args; simp_all
  obtain ⟨rfl, rfl⟩ := trodVars_none hV
  have k0 := h0
  have lt0 : ∀ x ∈ p0, x.block < W.heap.size := by obtain ⟨m, hm⟩ := k0; exact DataW.trod_lt m _ _ _ hm
  obtain ⟨x0, rfl⟩ := okWide_int Try.underlying3 (hval 0 3 v0 rfl rfl)
  obtain ⟨f0, hf0⟩ := h0
  obtain ⟨z0, e0, -, w0⟩ := DataW.trod_int Try.underlying3 hf0
  simp [Value.cells] at e0
  subst e0
  have s0 : -9223372036854775808 ≤ x0 ∧ x0 ≤ 9223372036854775807 := by simpa [Lit.wf, IntKind.min, IntKind.max, IntKind.signed, IntKind.bits] using w0
  have k1 := h1
  have lt1 : ∀ x ∈ p1, x.block < W.heap.size := by obtain ⟨m, hm⟩ := k1; exact DataW.trod_lt m _ _ _ hm
  obtain ⟨a1, len1, cap1, rfl⟩ := okWide_slice Try.underlying22 (hval 1 22 v1 rfl rfl)
  obtain ⟨f1, hf1⟩ := h1
  obtain ⟨l1, H1, J1⟩ := stps_of hf1
  clear hA0 hval0
  refine (atlasWhole_any x0 l1 (.slice a1 len1 cap1) W H1 J1).mono fun e W' ⟨he, bel⟩ => ?_
  subst he
  have t0 := Below.trod laidOut (by kernel_rfl) (of_decide_eq_true (by kernel_rfl)) k0 bel lt0
  have t1 := Below.trod laidOut (by kernel_rfl) (of_decide_eq_true (by kernel_rfl)) k1 bel lt1
  have T := trodAll_cons_mk t0 (trodAll_cons_mk t1 trodAll_mk0)
  exact ⟨_, rfl, _, _, _, [], _, [], hW', trodAll_mk1 (shut_bool Try.underlying4 _), T, rfl, bel.frame _, fun h => by cases h⟩

theorem over : Rows.atlasWholeRow.holds Try.pinned (OpenSpec.ofChange Rows.atlasWholeSpec) :=
  OpenClaim.holds_of_wide 5 Try.f5 rfl rfl rfl rfl rfl rfl rfl ⟨rfl, rfl, rfl, rfl, rfl⟩ rfl rfl rfl rfl rfl (by kernel_rfl) Try.func5 (by kernel_rfl)
    (of_decide_eq_true (by kernel_rfl)) (by unfold Func.isWrapper; first | (rw [if_pos (by decide +kernel)]; kernel_rfl) | (rw [if_neg (by decide +kernel)]; exact ⟨rfl, rfl⟩))
    (fun os started H enc _ => lifted os started H enc)

theorem proved : Rows.AtlasWholeSaid := over
end Go.Proofs.Ytplpbnglcfdaaaa.atlasWhole
namespace Go.Proofs.Ytplpbnglcfdaaaa
/-- The statement. -/
theorem atlasWhole_holds : Rows.AtlasWholeSaid := atlasWhole.proved
end Go.Proofs.Ytplpbnglcfdaaaa
