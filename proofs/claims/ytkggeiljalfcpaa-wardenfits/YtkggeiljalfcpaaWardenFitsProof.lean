/- WardenFits: what a decision comes to, the map takes it, and no map is touched by deciding. No condition: for every input. -/
import Derived.Test.YtkggeiljalfcpaaWdAll
import Derived.Test.YtkggeiljalfcpaaAtBase
import Derived.ProofKit
import Derived.OpenShut
import Derived.ChangeOld
import Derived.Deep.SlicePairs
import Derived.Lib.SmallJoins
import Derived.Test.YtkggeiljalfcpaaRows
import Derived.WalkKit
import Derived.ShutString
import Derived.Below
namespace Go.Proofs.Ytkggeiljalfcpaa
open Go.RowKit
def stC (x : ChD × Bool) : List Value := [.int .i64 x.1.k, .int .i64 x.1.sh, .int .i64 x.1.ot, .int .i64 x.1.at', .int .i64 x.1.out, .int .i64 x.1.in', .bool x.2]
/-- The value v is a slice of the steps l. -/
def Stps (w : World) (v : Value) (l : List (ChD × Bool)) : Prop :=
  ∃ ao n cap, v = .slice ao n cap ∧ n = l.length ∧ n ≤ cap ∧ cap ≤ 9223372036854775807 ∧ (ao = none → cap = 0) ∧ ∀ ad, ao = some ad → ∀ j, (h : j < l.length) → ∀ k u, (stC l[j])[k]? = some u → w.cell? (ad.add (j * 7 + k)) = some u
theorem Stps.below {w w' : World} {v : Value} {l : List (ChD × Bool)} (h : Stps w v l) (hb : Below w.heap.size w w') : Stps w' v l := by
  obtain ⟨ao, n, cap, rfl, h1, h2, h3, h4, h5⟩ := h
  exact ⟨ao, n, cap, rfl, h1, h2, h3, h4, fun ad had j hj k u hk => cell_later hb (h5 ad had j hj k u hk)⟩
theorem Stps.shape {w : World} {v : Value} {l : List (ChD × Bool)} (h : Stps w v l) : ∃ va vc, v = .slice va l.length vc := by
  obtain ⟨ao, n, cap, rfl, rfl, -⟩ := h; exact ⟨_, _, rfl⟩
theorem Stps.len {w : World} {v : Value} {l : List (ChD × Bool)} (h : Stps w v l) : (l.length : Int) ≤ 9223372036854775807 := by
  obtain ⟨ao, n, cap, rfl, h1, h2, h3, -⟩ := h; omega
theorem Stps.addr {w : World} {ao : Option Addr} {cap : Nat} {l : List (ChD × Bool)} (h : Stps w (.slice ao l.length cap) l) (hl : 0 < l.length) : ∃ b o, ao = some ⟨b, o, none⟩ := by
  obtain ⟨ao', n, cap', e, h1, h2, h3, h4, h5⟩ := h
  cases e
  cases ao with
  | none => have := h4 rfl; omega
  | some a =>
    have h0 := h5 a rfl 0 hl 0 _ rfl
    have := World.cell?_spot h0
    obtain ⟨b, o, sp⟩ := a
    simp [Addr.add] at this
    subst this
    exact ⟨b, o, rfl⟩
theorem Stps.range {w : World} {b o cap : Nat} {l : List (ChD × Bool)} (h : Stps w (.slice (some ⟨b, o, none⟩) l.length cap) l) (j : Nat) (hj : j < l.length) : w.rangeAt b (o + j * 7) (stC l[j]) := by
  obtain ⟨ao, n, cap', e, h1, h2, h3, h4, h5⟩ := h
  cases e
  intro k u hk
  have := h5 _ rfl j hj k u hk
  rw [Addr.add_lit, ← Nat.add_assoc] at this
  exact this
end Go.Proofs.Ytkggeiljalfcpaa
namespace Go.Proofs.Ytkggeiljalfcpaa
open Go.RowKit Go.Maps Go.Shelf
set_option linter.unusedVariables false
set_option linter.unusedSimpArgs false

theorem u64_mod (n : Int) : IntKind.u64.wrap n = n % 18446744073709551616 := by simp [IntKind.wrap, IntKind.bits, IntKind.signed]
theorem rest_in2 (t m : Int) (h0 : 1 ≤ m) (h1 : m ≤ 1000000000) : 0 ≤ IntKind.i64.wrap ((IntKind.u64.wrap t).tmod m) ∧ IntKind.i64.wrap ((IntKind.u64.wrap t).tmod m) < m := by
  rw [u64_mod, Int.tmod_eq_emod_of_nonneg (by omega)]
  have a := Int.emod_nonneg (t % 18446744073709551616) (b := m) (by omega)
  have b := Int.emod_lt_of_pos (t % 18446744073709551616) (b := m) (by omega)
  rw [IntWalk.i64_in _ ⟨by omega, by omega⟩]
  exact ⟨a, b⟩
def stV (c : ChD) (nr : Bool) : Value := .agg #[.int .i64 c.k, .int .i64 c.sh, .int .i64 c.ot, .int .i64 c.at', .int .i64 c.out, .int .i64 c.in', .bool nr]
/-- What Of answers. -/
def OfP (w : World) (e : Ending) (w' : World) : Prop := ∃ c : ChD, e = .returned (chV c) ∧ ChJ c ∧ Below w.heap.size w w'
theorem heap_three (w : World) (A B C : Obj) : (((w.alloc A).alloc B).alloc C).heap[w.heap.size]? = some A ∧ (((w.alloc A).alloc B).alloc C).heap[w.heap.size + 1]? = some B ∧ (((w.alloc A).alloc B).alloc C).heap[w.heap.size + 2]? = some C := by
  obtain ⟨h1, h2⟩ := heap_two w A B
  refine ⟨?_, ?_, ?_⟩
  · rw [Below.heap_alloc _ _ _ (by simp; omega)]; exact h1
  · rw [Below.heap_alloc _ _ _ (by simp)]; exact h2
  · have := heap_alloc_new ((w.alloc A).alloc B) C
    simpa using this
set_option maxRecDepth 100000 in
set_option maxHeartbeats 8000000 in
theorem of_any (c : ChD) (nr : Bool) (xb B : Nat) (rv sv : Value) (N : AtN) (Y : List SX) (w : World) (hc : ChJ c) (h : RB w xb N rv sv Y) (g : Gd B N (Y.map (·.s))) (hB : B ≤ 1000) :
    Calls Try.prog 15 #[stV c nr, .pointer (some ⟨xb, 0, none⟩)] w (OfP w) := by
  obtain ⟨k, sh, ot, at', out, in'⟩ := c
  cases nr with
  | false =>
    obtain ⟨nr, hnr⟩ : ∃ nr, nr = false := ⟨_, rfl⟩
    rw [← hnr]
    have HNR := hid hnr
    have HJ := hid hc
    clear hnr h g hc
    obtain ⟨w1, hw1⟩ : ∃ w1, w1 = ((w.alloc (.cells #[.int .i64 k, .int .i64 sh, .int .i64 ot, .int .i64 at', .int .i64 out, .int .i64 in', .bool nr] 51)).alloc (.cells z6 35)).alloc (.cells #[.int .i64 k, .int .i64 sh, .int .i64 ot, .int .i64 at', .int .i64 out, .int .i64 in'] 35) := ⟨_, rfl⟩
    obtain ⟨hC1, hR1, hA1⟩ := heap_three w (.cells #[.int .i64 k, .int .i64 sh, .int .i64 ot, .int .i64 at', .int .i64 out, .int .i64 in', .bool nr] 51) (.cells z6 35) (.cells #[.int .i64 k, .int .i64 sh, .int .i64 ot, .int .i64 at', .int .i64 out, .int .i64 in'] 35)
    rw [← hw1] at hC1 hR1 hA1
    have HB1 : Hid (Below w.heap.size w w1) := hid (by rw [hw1]; exact (((Below.refl _ _).alloc (Nat.le_refl _) _).alloc (by simp) _).alloc (by simp; omega) _)
    have HW1 := hid hw1
    have HC1 := hid hC1
    have HR1 := hid hR1
    have HA1 := hid hA1
    obtain ⟨w0, hw0⟩ : ∃ w0, w0 = (w.alloc (.cells #[.int .i64 k, .int .i64 sh, .int .i64 ot, .int .i64 at', .int .i64 out, .int .i64 in', .bool nr] 51)).alloc (.cells z6 35) := ⟨_, rfl⟩
    have hrg : w0.rangeAt w.heap.size 0 [.int .i64 k, .int .i64 sh, .int .i64 ot, .int .i64 at', .int .i64 out, .int .i64 in'] := by
      rw [hw0]
      refine range_of_row (heap_two w _ _).1 0 _ fun j v hv => ?_
      match j, hv with
      | 0, hv => exact hv
      | 1, hv => exact hv
      | 2, hv => exact hv
      | 3, hv => exact hv
      | 4, hv => exact hv
      | 5, hv => exact hv
    have HW0 := hid hw0
    have HS0 : Hid (w0.heap.size = w.heap.size + 2) := hid (by rw [hw0]; simp)
    rw [← hw0] at HW1
    clear hw1 hw0 hC1 hR1 hA1
    unfold z6 at HW0
    obtain ⟨dC, hdC1, hdC2⟩ := Try.rowCh
    unfold stV
    go_enter Try.func15, Try.ntmps15
    go_upto_region 1 with fail
    rw [← HW0.out]
    clear HW0
    go_upto_region 2 with (refine wpList_load_mid rfl _ _ rfl w.heap.size 0 (by go_simp) [.int .i64 k, .int .i64 sh, .int .i64 ot, .int .i64 at', .int .i64 out, .int .i64 in'] dC hrg hdC1 hdC2 Try.sizeCh ?_)
    rw [← HW1.out]
    rw [HS0.out]
    clear HW1 hrg HS0
    obtain ⟨C, hC⟩ : ∃ C, C = w.heap.size := ⟨_, rfl⟩
    rw [← hC] at HC1 HR1 HA1
    rw [← hC]
    have HCE : Hid (w.heap.size ≤ C) := hid (by omega)
    clear hC
    have c6 : w1.cell? ⟨C, 6, none⟩ = some (.bool nr) := (cell_of_row _ _ _ _ _ _ HC1.out).trans rfl
    obtain rfl := HNR.out
    have hA9 := HA1.out
    have hR9 := HR1.out
    have HB9 := HB1
    unfold z6 at hR9
    clear HA1 HR1
    go_wp2_with (first | (refine wpl_loadK rfl _ rfl (C + 2) rfl _ _ _ rfl hA9 ?_) | (refine wpl_storeK rfl _ _ rfl (C + 1) _ _ _ _ _ _ rfl rfl rfl rfl rfl rfl rfl rfl _ _ rfl hR9 ?_))
    (try simp only [Exit.inBlock, Exit.then])
    refine bodyPost_ret (results_ch rfl _ _ (C + 1) _ _ _ rfl rfl (setRow_heap _ _ _ _ _ _ hR9)) rfl ?_
    exact ⟨⟨_, _, _, _, _, _⟩, rfl, HJ.out, below_row HB9.out (by have := HCE.out; omega) _⟩
  | true =>
    obtain ⟨nr, hnr⟩ : ∃ nr, nr = true := ⟨_, rfl⟩
    rw [← hnr]
    have HNR := hid hnr
    have HJ := hid hc
    have H := hid h
    have G := hid g
    obtain ⟨-, sva, svc, rfl⟩ := h.shapes
    have HYL : Hid (0 < Y.length) := hid (by
      cases Y with
      | nil => have := g.bl; have h0 : (0 : Int) = N.bl := g.ch; omega
      | cons y l => simp)
    clear hnr h g hc
    obtain ⟨w1, hw1⟩ : ∃ w1, w1 = ((w.alloc (.cells #[.int .i64 k, .int .i64 sh, .int .i64 ot, .int .i64 at', .int .i64 out, .int .i64 in', .bool nr] 51)).alloc (.cells z6 35)).alloc (.cells #[.int .i64 k, .int .i64 sh, .int .i64 ot, .int .i64 at', .int .i64 out, .int .i64 in'] 35) := ⟨_, rfl⟩
    obtain ⟨hC1, hR1, hA1⟩ := heap_three w (.cells #[.int .i64 k, .int .i64 sh, .int .i64 ot, .int .i64 at', .int .i64 out, .int .i64 in', .bool nr] 51) (.cells z6 35) (.cells #[.int .i64 k, .int .i64 sh, .int .i64 ot, .int .i64 at', .int .i64 out, .int .i64 in'] 35)
    rw [← hw1] at hC1 hR1 hA1
    have HB1 : Hid (Below w.heap.size w w1) := hid (by rw [hw1]; exact (((Below.refl _ _).alloc (Nat.le_refl _) _).alloc (by simp) _).alloc (by simp; omega) _)
    have HW1 := hid hw1
    have HC1 := hid hC1
    have HR1 := hid hR1
    have HA1 := hid hA1
    obtain ⟨w0, hw0⟩ : ∃ w0, w0 = (w.alloc (.cells #[.int .i64 k, .int .i64 sh, .int .i64 ot, .int .i64 at', .int .i64 out, .int .i64 in', .bool nr] 51)).alloc (.cells z6 35) := ⟨_, rfl⟩
    have hrg : w0.rangeAt w.heap.size 0 [.int .i64 k, .int .i64 sh, .int .i64 ot, .int .i64 at', .int .i64 out, .int .i64 in'] := by
      rw [hw0]
      refine range_of_row (heap_two w _ _).1 0 _ fun j v hv => ?_
      match j, hv with
      | 0, hv => exact hv
      | 1, hv => exact hv
      | 2, hv => exact hv
      | 3, hv => exact hv
      | 4, hv => exact hv
      | 5, hv => exact hv
    have HW0 := hid hw0
    have HS0 : Hid (w0.heap.size = w.heap.size + 2) := hid (by rw [hw0]; simp)
    rw [← hw0] at HW1
    clear hw1 hw0 hC1 hR1 hA1
    unfold z6 at HW0
    obtain ⟨dC, hdC1, hdC2⟩ := Try.rowCh
    unfold stV
    go_enter Try.func15, Try.ntmps15
    go_upto_region 1 with fail
    rw [← HW0.out]
    clear HW0
    go_upto_region 2 with (refine wpList_load_mid rfl _ _ rfl w.heap.size 0 (by go_simp) [.int .i64 k, .int .i64 sh, .int .i64 ot, .int .i64 at', .int .i64 out, .int .i64 in'] dC hrg hdC1 hdC2 Try.sizeCh ?_)
    rw [← HW1.out]
    rw [HS0.out]
    clear HW1 hrg HS0
    obtain ⟨C, hC⟩ : ∃ C, C = w.heap.size := ⟨_, rfl⟩
    rw [← hC] at HC1 HR1 HA1
    rw [← hC]
    have HCE : Hid (w.heap.size ≤ C) := hid (by omega)
    clear hC
    have c6 : w1.cell? ⟨C, 6, none⟩ = some (.bool nr) := (cell_of_row _ _ _ _ _ _ HC1.out).trans rfl
    obtain rfl := HNR.out
    have a1 : w1.cell? ⟨C + 2, 1, none⟩ = some (.int .i64 sh) := (cell_of_row _ _ _ _ _ _ HA1.out).trans rfl
    have H1 := hid (H.out.below HB1.out)
    have x4 : w1.cell? ⟨xb, 4, none⟩ = some (.slice sva Y.length svc) := H1.out.cell 4
    go_upto_region 4 with fail
    refine wp_region_held_drew (S := fun Z => Z.cell? ⟨C + 2, 1, none⟩ = some (.int .i64 sh) ∧ Z.cell? ⟨xb, 4, none⟩ = some (.slice sva Y.length svc)) (by kernel_rfl) ⟨a1, x4⟩ (fun hHeld => ?_)
    have hwl : IntKind.u64.wrap (Y.length : Int) = (Y.length : Int) := IntWalk.u64_in _ ⟨by omega, by have := G.out.len; rw [List.length_map] at this; omega⟩
    have hwl0 : ¬ (Y.length : Int) = 0 := by have := HYL.out; omega
    have hyn : ¬ Y = [] := fun e => by have := HYL.out; rw [e] at this; simp at this
    refine wpAnyH_take (i := 0) (v := ?av0) rfl (by kernel_rfl) (by kernel_rfl) (by kernel_rfl) (fun _ _ _ h => h) (Or.inl ⟨by rfl, ?ay0⟩) (by assumption) ?ar0
    case ay0 => (intro w hSw; (try dsimp only at hSw); go_simp; try with_reducible rfl)
    (try simp only [Act.put, putS])
    refine wpAnyH_take (i := 1) (v := ?av1) rfl (by kernel_rfl) (by kernel_rfl) (by kernel_rfl) (fun _ _ _ h => h) (Or.inl ⟨by rfl, ?ay1⟩) (by assumption) ?ar1
    case ay1 => (intro w hSw; (try dsimp only at hSw); go_simp; try with_reducible rfl)
    (try simp only [Act.put, putS])
    refine wpAnyH_take (i := 2) (v := ?av2) rfl (by kernel_rfl) (by kernel_rfl) (by kernel_rfl) (fun _ _ _ h => h) (Or.inl ⟨by rfl, ?ay2⟩) (by assumption) ?ar2
    case ay2 => (intro w hSw; (try dsimp only at hSw); go_simp; try with_reducible rfl)
    (try simp only [Act.put, putS])
    refine wpAnyH_take (i := 3) (v := ?av3) rfl (by kernel_rfl) (by kernel_rfl) (by kernel_rfl) (fun _ _ _ h => h) (Or.inl ⟨by rfl, ?ay3⟩) (by assumption) ?ar3
    case ay3 => (intro w hSw; (try dsimp only at hSw); go_simp; try with_reducible rfl)
    (try simp only [Act.put, putS])
    refine wpAnyH_take (i := 4) (v := ?av4) rfl (by kernel_rfl) (by kernel_rfl) (by kernel_rfl) (fun _ _ _ h => h) (Or.inl ⟨by rfl, ?ay4⟩) (by assumption) ?ar4
    case ay4 => (intro w hSw; (try dsimp only at hSw); go_simp; try with_reducible rfl)
    (try simp only [Act.put, putS])
    refine wpAnyH_take (i := 5) (v := ?av5) rfl (by kernel_rfl) (by kernel_rfl) (by kernel_rfl) (fun _ _ _ h => h) (Or.inl ⟨by rfl, ?ay5⟩) (by assumption) ?ar5
    case ay5 => (intro w hSw; (try dsimp only at hSw); go_simp; try with_reducible rfl)
    (try simp only [Act.put, putS])
    refine wpAnyH_take (i := 6) (v := ?av6) rfl (by kernel_rfl) (by kernel_rfl) (by kernel_rfl) (fun _ _ _ h => h) (Or.inl ⟨by rfl, ?ay6⟩) (by assumption) ?ar6
    case ay6 => (intro w hSw; (try dsimp only at hSw); go_simp; try with_reducible rfl)
    (try simp only [Act.put, putS])
    refine wpAnyH_take (i := 7) (v := ?av7) rfl (by kernel_rfl) (by kernel_rfl) (by kernel_rfl) (fun _ _ _ h => h) (Or.inl ⟨by rfl, ?ay7⟩) (by assumption) ?ar7
    case ay7 => (intro w hSw; (try dsimp only at hSw); go_simp; try with_reducible rfl)
    (try simp only [Act.put, putS])
    refine wpAnyH_take (i := 8) (v := ?av8) rfl (by kernel_rfl) (by kernel_rfl) (by kernel_rfl) (fun _ _ _ h => h) (Or.inl ⟨by rfl, ?ay8⟩) (by assumption) ?ar8
    case ay8 => (intro w hSw; (try dsimp only at hSw); go_simp; try with_reducible rfl)
    (try simp only [Act.put, putS])
    refine wpAnyH_take (i := 9) (v := ?av9) rfl (by kernel_rfl) (by kernel_rfl) (by kernel_rfl) (fun _ _ _ h => h) (Or.inl ⟨by rfl, ?ay9⟩) (by assumption) ?ar9
    case ay9 => (intro w hSw; (try dsimp only at hSw); go_simp; try with_reducible rfl)
    (try simp only [Act.put, putS])
    refine wpAnyH_take (i := 10) (v := ?av10) rfl (by kernel_rfl) (by kernel_rfl) (by kernel_rfl) (fun _ _ _ h => h) (Or.inl ⟨by rfl, ?ay10⟩) (by assumption) ?ar10
    case ay10 => (intro w hSw; (try dsimp only at hSw); go_simp; try with_reducible rfl)
    (try simp only [Act.put, putS])
    refine wpAnyH_take (i := 11) (v := ?av11) rfl (by kernel_rfl) (by kernel_rfl) (by kernel_rfl) (fun _ _ _ h => h) (Or.inl ⟨by rfl, ?ay11⟩) (by assumption) ?ar11
    case ay11 => (intro w hSw; (try dsimp only at hSw); go_simp; try with_reducible rfl)
    (try simp only [Act.put, putS])
    refine wpAnyH_done (by kernel_rfl) ?_ _
    have hrr := rest_in2 sh (Y.length : Int) (by have := HYL.out; omega) (by have := G.out.len; rw [List.length_map] at this; omega)
    obtain ⟨i, hie⟩ : ∃ i : Nat, IntKind.i64.wrap ((IntKind.u64.wrap sh).tmod (Y.length : Int)) = (i : Int) := ⟨(IntKind.i64.wrap ((IntKind.u64.wrap sh).tmod (Y.length : Int))).toNat, by rw [Int.toNat_of_nonneg hrr.1]⟩
    have hil : (i : Int) < (Y.length : Int) := by rw [← hie]; exact hrr.2
    rw [hie]
    clear hrr hie hHeld hwl hwl0 hyn
    have HIL : Hid (i < Y.length) := hid (by omega)
    have H2 := hid (H1.out.below ((Below.refl w1.heap.size w1).drew))
    have HA2 : Hid (w1.drew.heap[C + 2]? = _) := hid HA1.out
    have HR2 : Hid (w1.drew.heap[C + 1]? = _) := hid HR1.out
    have HB2 : Hid (Below w.heap.size w w1.drew) := hid (HB1.out.drew)
    clear H1 HA1 HR1 HB1 HC1 a1 x4 c6
    generalize w1.drew = w2 at *
    obtain ⟨g, rfl⟩ : ∃ g, sva = some ⟨g, 0, none⟩ := own_some H.out.row HYL.out
    have x4 : w2.cell? ⟨xb, 4, none⟩ = some (.slice (some ⟨g, 0, none⟩) Y.length svc) := H2.out.cell 4
    have y0 : w2.cell? ⟨g, i * 5, none⟩ = some (.int .i64 Y[i].s.id) := own_cell H2.out.row (shvs_part Y i HIL.out 0 _ rfl)
    have a1 : w2.cell? ⟨C + 2, 1, none⟩ = some (.int .i64 sh) := (cell_of_row _ _ _ _ _ _ HA2.out).trans rfl
    have f1 : w2.frozen? ⟨C + 2, 1, none⟩ = false := frozen_of_row _ _ _ _ _ HA2.out
    have HID : Hid (1 ≤ Y[i].s.id ∧ I64 Y[i].s.id) := hid (by
      have := G.out.id Y[i].s (List.mem_map.2 ⟨Y[i], List.getElem_mem _, rfl⟩)
      have := G.out.nx
      exact ⟨by omega, by constructor <;> omega⟩)
    have HFT : Hid (0 ≤ Y[i].s.fr ∧ Y[i].s.fr < Y[i].s.to ∧ Y[i].s.to ≤ 256) := hid (by
      have := ChnD.mem _ _ _ G.out.ch Y[i].s (List.mem_map.2 ⟨Y[i], List.getElem_mem _, rfl⟩)
      have := G.out.bl
      omega)
    have HFC : Hid (∀ W : World, RB W xb N rv (.slice (some ⟨g, 0, none⟩) Y.length svc) Y → W.cell? ⟨g, i * 5 + 1, none⟩ = some (.int .i64 Y[i].s.fr) ∧ W.cell? ⟨g, i * 5 + 1 + 1, none⟩ = some (.int .i64 Y[i].s.to)) := hid fun W hW => ⟨own_cell hW.row (shvs_part Y i HIL.out 1 _ rfl), own_cell hW.row (shvs_part Y i HIL.out 2 _ rfl)⟩
    generalize Y[i].s.id = id at *
    generalize Y[i].s.fr = fr at *
    generalize Y[i].s.to = tt at *
    go_upto_region 6 with fail
    clear x4 y0 a1 f1
    have HA3 : Hid ((w2.setCell ⟨C + 2, 1, none⟩ (.int .i64 id)).heap[C + 2]? = some (.cells #[.int .i64 k, .int .i64 id, .int .i64 ot, .int .i64 at', .int .i64 out, .int .i64 in'] 35 (0, 0))) := hid (heap_setCell_same _ _ _ _ _ _ HA2.out)
    have HR3 : Hid ((w2.setCell ⟨C + 2, 1, none⟩ (.int .i64 id)).heap[C + 1]? = some (.cells z6 35 (0, 0))) := hid ((Below.heap_setCell _ _ _ _ (by show C + 1 ≠ C + 2; omega)).trans HR2.out)
    have HB3 : Hid (Below w.heap.size w (w2.setCell ⟨C + 2, 1, none⟩ (.int .i64 id))) := hid (below_set HB2.out (by have := HCE.out; omega))
    clear HA2 HR2 HB2 H2
    generalize w2.setCell ⟨C + 2, 1, none⟩ (.int .i64 id) = w3 at *
    have H3 := hid (H.out.below HB3.out)
    have x4 : w3.cell? ⟨xb, 4, none⟩ = some (.slice (some ⟨g, 0, none⟩) Y.length svc) := H3.out.cell 4
    have a0 : w3.cell? ⟨C + 2, 0, none⟩ = some (.int .i64 k) := (cell_of_row _ _ _ _ _ _ HA3.out).trans rfl
    have hwi : IntKind.i64.wrap ((i : Int) + 1) = (i : Int) + 1 := IntWalk.i64_in _ ⟨by omega, by have := G.out.len; rw [List.length_map] at this; omega⟩
    have hi0 : (0 : Int) ≤ (i : Int) + 1 := by omega
    by_cases h2 : k = 2
    · subst h2
      by_cases hlt : (i : Int) + 1 < (Y.length : Int)
      · have hi1 : i + 1 < Y.length := by omega
        have y1 : w3.cell? ⟨g, (i + 1) * 5, none⟩ = some (.int .i64 Y[i + 1].s.id) := own_cell H3.out.row (shvs_part Y (i + 1) hi1 0 _ rfl)
        have a2 : w3.cell? ⟨C + 2, 2, none⟩ = some (.int .i64 ot) := (cell_of_row _ _ _ _ _ _ HA3.out).trans rfl
        have f2 : w3.frozen? ⟨C + 2, 2, none⟩ = false := frozen_of_row _ _ _ _ _ HA3.out
        have HID2 : Hid (I64 Y[i + 1].s.id) := hid (by
          have := G.out.id Y[i + 1].s (List.mem_map.2 ⟨Y[i + 1], List.getElem_mem _, rfl⟩)
          have := G.out.nx
          constructor <;> omega)
        generalize Y[i + 1].s.id = id2 at *
        clear hi1
        go_upto_region 8 with fail
        clear x4 y1 a2 f2 a0
        have HA4 : Hid ((w3.setCell ⟨C + 2, 2, none⟩ (.int .i64 id2)).heap[C + 2]? = some (.cells #[.int .i64 2, .int .i64 id, .int .i64 id2, .int .i64 at', .int .i64 out, .int .i64 in'] 35 (0, 0))) := hid (heap_setCell_same _ _ _ _ _ _ HA3.out)
        have hR9 : (w3.setCell ⟨C + 2, 2, none⟩ (.int .i64 id2)).heap[C + 1]? = some (.cells z6 35 (0, 0)) := (Below.heap_setCell _ _ _ _ (by show C + 1 ≠ C + 2; omega)).trans HR3.out
        have HB9 : Hid (Below w.heap.size w (w3.setCell ⟨C + 2, 2, none⟩ (.int .i64 id2))) := hid (below_set HB3.out (by have := HCE.out; omega))
        clear HA3 HR3 HB3 H3
        generalize w3.setCell ⟨C + 2, 2, none⟩ (.int .i64 id2) = w4 at *
        have hA9 := HA4.out
        have a0 : w4.cell? ⟨C + 2, 0, none⟩ = some (.int .i64 2) := (cell_of_row _ _ _ _ _ _ HA4.out).trans rfl
        replace HJ : Hid (ChJ ⟨2, id, id2, at', out, in'⟩) := hid (by
          have hj := HJ.out
          intro x hx
          simp [numC] at hx
          rcases hx with rfl | rfl | rfl | rfl | rfl | rfl
          · exact hj _ (by simp [numC])
          · exact HID.out.2
          · exact HID2.out
          all_goals exact hj _ (by simp [numC]))
        clear HA4
        unfold z6 at hR9
        go_wp2_with (first | (refine wpl_loadK rfl _ rfl (C + 2) rfl _ _ _ rfl hA9 ?_) | (refine wpl_storeK rfl _ _ rfl (C + 1) _ _ _ _ _ _ rfl rfl rfl rfl rfl rfl rfl rfl _ _ rfl hR9 ?_))
        (try simp only [Exit.inBlock, Exit.then])
        refine bodyPost_ret (results_ch rfl _ _ (C + 1) _ _ _ rfl rfl (setRow_heap _ _ _ _ _ _ hR9)) rfl ?_
        exact ⟨⟨_, _, _, _, _, _⟩, rfl, HJ.out, below_row HB9.out (by have := HCE.out; omega) _⟩
      · have hA9 := HA3.out
        have hR9 := HR3.out
        have HB9 := HB3
        replace HJ : Hid (ChJ ⟨2, id, ot, at', out, in'⟩) := hid (by
          have hj := HJ.out
          intro x hx
          simp [numC] at hx
          rcases hx with rfl | rfl | rfl | rfl | rfl | rfl
          · exact hj _ (by simp [numC])
          · exact HID.out.2
          all_goals exact hj _ (by simp [numC]))
        unfold z6 at hR9
        go_wp2_with (first | (refine wpl_loadK rfl _ rfl (C + 2) rfl _ _ _ rfl hA9 ?_) | (refine wpl_storeK rfl _ _ rfl (C + 1) _ _ _ _ _ _ rfl rfl rfl rfl rfl rfl rfl rfl _ _ rfl hR9 ?_))
        (try simp only [Exit.inBlock, Exit.then])
        refine bodyPost_ret (results_ch rfl _ _ (C + 1) _ _ _ rfl rfl (setRow_heap _ _ _ _ _ _ hR9)) rfl ?_
        exact ⟨⟨_, _, _, _, _, _⟩, rfl, HJ.out, below_row HB9.out (by have := HCE.out; omega) _⟩
    replace HJ : Hid (ChJ ⟨k, id, ot, at', out, in'⟩) := hid (by
      have hj := HJ.out
      intro x hx
      simp [numC] at hx
      rcases hx with rfl | rfl | rfl | rfl | rfl | rfl
      · exact hj _ (by simp [numC])
      · exact HID.out.2
      all_goals exact hj _ (by simp [numC]))
    have g2 : (k == 2) = false := by simpa using h2
    by_cases h1 : k = 1
    · subst h1
      clear h2
      obtain ⟨y1, y2⟩ := HFC.out w3 H3.out
      have a3 : w3.cell? ⟨C + 2, 3, none⟩ = some (.int .i64 at') := (cell_of_row _ _ _ _ _ _ HA3.out).trans rfl
      have f3 : w3.frozen? ⟨C + 2, 3, none⟩ = false := frozen_of_row _ _ _ _ _ HA3.out
      have hs1 : IntKind.i64.wrap (tt - fr) = tt - fr := IntWalk.i64_in _ ⟨by have := HFT.out; omega, by have := HFT.out; omega⟩
      have hs2 : IntKind.i64.wrap (tt - fr + 1) = tt - fr + 1 := IntWalk.i64_in _ ⟨by have := HFT.out; omega, by have := HFT.out; omega⟩
      have hs3 : IntKind.u64.wrap (tt - fr + 1) = tt - fr + 1 := IntWalk.u64_in _ ⟨by have := HFT.out; omega, by have := HFT.out; omega⟩
      have hs4 : ¬ tt - fr + 1 = 0 := by have := HFT.out; omega
      have HRR := hid (rest_in2 at' (tt - fr + 1) (by have := HFT.out; omega) (by have := HFT.out; omega))
      have HSV : Hid (∀ v : Int, (w3.setCell ⟨C + 2, 3, none⟩ (.int .i64 v)).drew.cell? ⟨g, i * 5 + 1, none⟩ = some (.int .i64 fr) ∧ (w3.setCell ⟨C + 2, 3, none⟩ (.int .i64 v)).drew.cell? ⟨g, i * 5 + 1 + 1, none⟩ = some (.int .i64 tt) ∧ (w3.setCell ⟨C + 2, 3, none⟩ (.int .i64 v)).drew.cell? ⟨xb, 4, none⟩ = some (.slice (some ⟨g, 0, none⟩) Y.length svc)) := hid fun v => by
        have h4 := H.out.below ((below_set HB3.out (i := 3) (v := .int .i64 v) (show w.heap.size ≤ C + 2 by have := HCE.out; omega)).drew)
        exact ⟨(HFC.out _ h4).1, (HFC.out _ h4).2, h4.cell 4⟩
      go_upto_region 9 with fail
      refine wp_region_held_drew (S := fun Z => Z.cell? ⟨g, i * 5 + 1, none⟩ = some (.int .i64 fr) ∧ Z.cell? ⟨g, i * 5 + 1 + 1, none⟩ = some (.int .i64 tt) ∧ Z.cell? ⟨xb, 4, none⟩ = some (.slice (some ⟨g, 0, none⟩) Y.length svc)) (by kernel_rfl) ⟨y1, y2, x4⟩ (fun hHeld => ?_)
      refine wpAnyH_take (i := 0) (v := ?bv0) rfl (by kernel_rfl) (by kernel_rfl) (by kernel_rfl) (fun _ _ _ h => h) (Or.inl ⟨by rfl, ?by0⟩) (by assumption) ?br0
      case by0 => (intro w hSw; (try dsimp only at hSw); go_simp; try with_reducible rfl)
      (try simp only [Act.put, putS])
      refine wpAnyH_take (i := 1) (v := ?bv1) rfl (by kernel_rfl) (by kernel_rfl) (by kernel_rfl) (fun _ _ _ h => h) (Or.inl ⟨by rfl, ?by1⟩) (by assumption) ?br1
      case by1 => (intro w hSw; (try dsimp only at hSw); go_simp; try with_reducible rfl)
      (try simp only [Act.put, putS])
      refine wpAnyH_take (i := 2) (v := ?bv2) rfl (by kernel_rfl) (by kernel_rfl) (by kernel_rfl) (fun _ _ _ h => h) (Or.inl ⟨by rfl, ?by2⟩) (by assumption) ?br2
      case by2 => (intro w hSw; (try dsimp only at hSw); go_simp; try with_reducible rfl)
      (try simp only [Act.put, putS])
      refine wpAnyH_take (i := 3) (v := ?bv3) rfl (by kernel_rfl) (by kernel_rfl) (by kernel_rfl) (fun _ _ _ h => h) (Or.inl ⟨by rfl, ?by3⟩) (by assumption) ?br3
      case by3 => (intro w hSw; (try dsimp only at hSw); go_simp; try with_reducible rfl)
      (try simp only [Act.put, putS])
      refine wpAnyH_take (i := 4) (v := ?bv4) rfl (by kernel_rfl) (by kernel_rfl) (by kernel_rfl) (fun _ _ _ h => h) (Or.inl ⟨by rfl, ?by4⟩) (by assumption) ?br4
      case by4 => (intro w hSw; (try dsimp only at hSw); go_simp; try with_reducible rfl)
      (try simp only [Act.put, putS])
      refine wpAnyH_take (i := 5) (v := ?bv5) rfl (by kernel_rfl) (by kernel_rfl) (by kernel_rfl) (fun _ _ _ h => h) (Or.inl ⟨by rfl, ?by5⟩) (by assumption) ?br5
      case by5 => (intro w hSw; (try dsimp only at hSw); go_simp; try with_reducible rfl)
      (try simp only [Act.put, putS])
      refine wpAnyH_take (i := 6) (v := ?bv6) rfl (by kernel_rfl) (by kernel_rfl) (by kernel_rfl) (fun _ _ _ h => h) (Or.inl ⟨by rfl, ?by6⟩) (by assumption) ?br6
      case by6 => (intro w hSw; (try dsimp only at hSw); go_simp; try with_reducible rfl)
      (try simp only [Act.put, putS])
      refine wpAnyH_take (i := 7) (v := ?bv7) rfl (by kernel_rfl) (by kernel_rfl) (by kernel_rfl) (fun _ _ _ h => h) (Or.inl ⟨by rfl, ?by7⟩) (by assumption) ?br7
      case by7 => (intro w hSw; (try dsimp only at hSw); go_simp; try with_reducible rfl)
      (try simp only [Act.put, putS])
      refine wpAnyH_take (i := 8) (v := ?bv8) rfl (by kernel_rfl) (by kernel_rfl) (by kernel_rfl) (fun _ _ _ h => h) (Or.inl ⟨by rfl, ?by8⟩) (by assumption) ?br8
      case by8 => (intro w hSw; (try dsimp only at hSw); go_simp; try with_reducible rfl)
      (try simp only [Act.put, putS])
      refine wpAnyH_take (i := 9) (v := ?bv9) rfl (by kernel_rfl) (by kernel_rfl) (by kernel_rfl) (fun _ _ _ h => h) (Or.inl ⟨by rfl, ?by9⟩) (by assumption) ?br9
      case by9 => (intro w hSw; (try dsimp only at hSw); go_simp; try with_reducible rfl)
      (try simp only [Act.put, putS])
      refine wpAnyH_take (i := 12) (v := ?bv12) rfl (by kernel_rfl) (by kernel_rfl) (by kernel_rfl) (fun _ _ _ h => h) (Or.inl ⟨by rfl, ?by12⟩) (by assumption) ?br12
      case by12 => (intro w hSw; (try dsimp only at hSw); go_simp; try with_reducible rfl)
      (try simp only [Act.put, putS])
      refine wpAnyH_take (i := 13) (v := ?bv13) rfl (by kernel_rfl) (by kernel_rfl) (by kernel_rfl) (fun _ _ _ h => h) (Or.inl ⟨by rfl, ?by13⟩) (by assumption) ?br13
      case by13 => (intro w hSw; (try dsimp only at hSw); go_simp; try with_reducible rfl)
      (try simp only [Act.put, putS])
      refine wpAnyH_take (i := 14) (v := ?bv14) rfl (by kernel_rfl) (by kernel_rfl) (by kernel_rfl) (fun _ _ _ h => h) (Or.inl ⟨by rfl, ?by14⟩) (by assumption) ?br14
      case by14 => (intro w hSw; (try dsimp only at hSw); go_simp; try with_reducible rfl)
      (try simp only [Act.put, putS])
      refine wpAnyH_take (i := 15) (v := ?bv15) rfl (by kernel_rfl) (by kernel_rfl) (by kernel_rfl) (fun _ _ _ h => h) (Or.inl ⟨by rfl, ?by15⟩) (by assumption) ?br15
      case by15 => (intro w hSw; (try dsimp only at hSw); go_simp; try with_reducible rfl)
      (try simp only [Act.put, putS])
      refine wpAnyH_take (i := 16) (v := ?bv16) rfl (by kernel_rfl) (by kernel_rfl) (by kernel_rfl) (fun _ _ _ h => h) (Or.inl ⟨by rfl, ?by16⟩) (by assumption) ?br16
      case by16 => (intro w hSw; (try dsimp only at hSw); go_simp; try with_reducible rfl)
      (try simp only [Act.put, putS])
      refine wpAnyH_take (i := 17) (v := ?bv17) rfl (by kernel_rfl) (by kernel_rfl) (by kernel_rfl) (fun _ _ _ h => h) (Or.inl ⟨by rfl, ?by17⟩) (by assumption) ?br17
      case by17 => (intro w hSw; (try dsimp only at hSw); go_simp; try with_reducible rfl)
      (try simp only [Act.put, putS])
      refine wpAnyH_take (i := 18) (v := ?bv18) rfl (by kernel_rfl) (by kernel_rfl) (by kernel_rfl) (fun _ _ _ h => h) (Or.inl ⟨by rfl, ?by18⟩) (by assumption) ?br18
      case by18 => (intro w hSw; (try dsimp only at hSw); go_simp; try with_reducible rfl)
      (try simp only [Act.put, putS])
      refine wpAnyH_take (i := 19) (v := ?bv19) rfl (by kernel_rfl) (by kernel_rfl) (by kernel_rfl) (fun _ _ _ h => h) (Or.inl ⟨by rfl, ?by19⟩) (by assumption) ?br19
      case by19 => (intro w hSw; (try dsimp only at hSw); go_simp; try with_reducible rfl)
      (try simp only [Act.put, putS])
      refine wpAnyH_take (i := 20) (v := ?bv20) rfl (by kernel_rfl) (by kernel_rfl) (by kernel_rfl) (fun _ _ _ h => h) (Or.inl ⟨by rfl, ?by20⟩) (by assumption) ?br20
      case by20 => (intro w hSw; (try dsimp only at hSw); go_simp; try with_reducible rfl)
      (try simp only [Act.put, putS])
      refine wpAnyH_take (i := 21) (v := ?bv21) rfl (by kernel_rfl) (by kernel_rfl) (by kernel_rfl) (fun _ _ _ h => h) (Or.inl ⟨by rfl, ?by21⟩) (by assumption) ?br21
      case by21 => (intro w hSw; (try dsimp only at hSw); go_simp; try with_reducible rfl)
      (try simp only [Act.put, putS])
      refine wpAnyH_take (i := 22) (v := ?bv22) rfl (by kernel_rfl) (by kernel_rfl) (by kernel_rfl) (fun _ _ _ h => h) (Or.inl ⟨by rfl, ?by22⟩) (by assumption) ?br22
      case by22 => (intro w hSw; (try dsimp only at hSw); go_simp; try with_reducible rfl)
      (try simp only [Act.put, putS])
      refine wpAnyH_take (i := 23) (v := ?bv23) rfl (by kernel_rfl) (by kernel_rfl) (by kernel_rfl) (fun _ _ _ h => h) (Or.inl ⟨by rfl, ?by23⟩) (by assumption) ?br23
      case by23 => (intro w hSw; (try dsimp only at hSw); go_simp; try with_reducible rfl)
      (try simp only [Act.put, putS])
      refine wpAnyH_take (i := 24) (v := ?bv24) rfl (by kernel_rfl) (by kernel_rfl) (by kernel_rfl) (fun _ _ _ h => h) (Or.inl ⟨by rfl, ?by24⟩) (by assumption) ?br24
      case by24 => (intro w hSw; (try dsimp only at hSw); go_simp; try with_reducible rfl)
      (try simp only [Act.put, putS])
      refine wpAnyH_take (i := 25) (v := ?bv25) rfl (by kernel_rfl) (by kernel_rfl) (by kernel_rfl) (fun _ _ _ h => h) (Or.inl ⟨by rfl, ?by25⟩) (by assumption) ?br25
      case by25 => (intro w hSw; (try dsimp only at hSw); go_simp; try with_reducible rfl)
      (try simp only [Act.put, putS])
      refine wpAnyH_take (i := 26) (v := ?bv26) rfl (by kernel_rfl) (by kernel_rfl) (by kernel_rfl) (fun _ _ _ h => h) (Or.inl ⟨by rfl, ?by26⟩) (by assumption) ?br26
      case by26 => (intro w hSw; (try dsimp only at hSw); go_simp; try with_reducible rfl)
      (try simp only [Act.put, putS])
      refine wpAnyH_take (i := 27) (v := ?bv27) rfl (by kernel_rfl) (by kernel_rfl) (by kernel_rfl) (fun _ _ _ h => h) (Or.inl ⟨by rfl, ?by27⟩) (by assumption) ?br27
      case by27 => (intro w hSw; (try dsimp only at hSw); go_simp; try with_reducible rfl)
      (try simp only [Act.put, putS])
      refine wpAnyH_take (i := 28) (v := ?bv28) rfl (by kernel_rfl) (by kernel_rfl) (by kernel_rfl) (fun _ _ _ h => h) (Or.inl ⟨by rfl, ?by28⟩) (by assumption) ?br28
      case by28 => (intro w hSw; (try dsimp only at hSw); go_simp; try with_reducible rfl)
      (try simp only [Act.put, putS])
      refine wpAnyH_take (i := 29) (v := ?bv29) rfl (by kernel_rfl) (by kernel_rfl) (by kernel_rfl) (fun _ _ _ h => h) (Or.inl ⟨by rfl, ?by29⟩) (by assumption) ?br29
      case by29 => (intro w hSw; (try dsimp only at hSw); go_simp; try with_reducible rfl)
      (try simp only [Act.put, putS])
      refine wpAnyH_take (i := 30) (v := ?bv30) rfl (by kernel_rfl) (by kernel_rfl) (by kernel_rfl) (fun _ _ _ h => h) (Or.inl ⟨by rfl, ?by30⟩) (by assumption) ?br30
      case by30 => (intro w hSw; (try dsimp only at hSw); go_simp; try with_reducible rfl)
      (try simp only [Act.put, putS])
      refine wpAnyH_take (i := 31) (v := ?bv31) rfl (by kernel_rfl) (by kernel_rfl) (by kernel_rfl) (fun _ _ _ h => h) (Or.inl ⟨by rfl, ?by31⟩) (by assumption) ?br31
      case by31 => (intro w hSw; (try dsimp only at hSw); go_simp; try with_reducible rfl)
      (try simp only [Act.put, putS])
      refine wpAnyH_take (i := 32) (v := ?bv32) rfl (by kernel_rfl) (by kernel_rfl) (by kernel_rfl) (fun _ _ _ h => h) (Or.inl ⟨by rfl, ?by32⟩) (by assumption) ?br32
      case by32 => (intro w hSw; (try dsimp only at hSw); go_simp; try with_reducible rfl)
      (try simp only [Act.put, putS])
      refine wpAnyH_ready (rs := [10]) (by kernel_rfl) (by simp) ?_
      refine AllReadyH.cons rfl (fun K hK => ?_) AllReadyH.nil
      rw [if_pos (by rfl)]
      go_simp
      refine hK.out _ _ hHeld (fun hHeld => ?_)
      try clear hK K
      (try simp only [Act.put, putS])
      refine wpAnyH_take (i := 11) (v := ?bv11) rfl (by kernel_rfl) (by kernel_rfl) (by kernel_rfl) (fun _ _ _ h => h) (Or.inl ⟨by rfl, ?by11⟩) (by assumption) ?br11
      case by11 => (intro w hSw; (try dsimp only at hSw); go_simp; try with_reducible rfl)
      (try simp only [Act.put, putS])
      refine wpAnyH_take (i := 33) (v := ?bv33) rfl (by kernel_rfl) (by kernel_rfl) (by kernel_rfl) (fun _ _ _ h => h) (Or.inl ⟨by rfl, ?by33⟩) (by assumption) ?br33
      case by33 => (intro w hSw; (try dsimp only at hSw); go_simp; try with_reducible rfl)
      (try simp only [Act.put, putS])
      refine wpAnyH_take (i := 34) (v := ?bv34) rfl (by kernel_rfl) (by kernel_rfl) (by kernel_rfl) (fun _ _ _ h => h) (Or.inl ⟨by rfl, ?by34⟩) (by assumption) ?br34
      case by34 => (intro w hSw; (try dsimp only at hSw); go_simp; try with_reducible rfl)
      (try simp only [Act.put, putS])
      refine wpAnyH_take (i := 35) (v := ?bv35) rfl (by kernel_rfl) (by kernel_rfl) (by kernel_rfl) (fun _ _ _ h => h) (Or.inl ⟨by rfl, ?by35⟩) (by assumption) ?br35
      case by35 => (intro w hSw; (try dsimp only at hSw); go_simp; try with_reducible rfl)
      (try simp only [Act.put, putS])
      refine wpAnyH_take (i := 36) (v := ?bv36) rfl (by kernel_rfl) (by kernel_rfl) (by kernel_rfl) (fun _ _ _ h => h) (Or.inl ⟨by rfl, ?by36⟩) (by assumption) ?br36
      case by36 => (intro w hSw; (try dsimp only at hSw); go_simp; try with_reducible rfl)
      (try simp only [Act.put, putS])
      refine wpAnyH_ready (rs := [37]) (by kernel_rfl) (by simp) ?_
      refine AllReadyH.cons rfl (fun K hK => ?_) AllReadyH.nil
      rw [if_pos (by rfl)]
      go_simp
      refine hK.out _ _ (HSV.out _) (fun hHeld => ?_)
      try clear hK K
      (try simp only [Act.put, putS])
      refine wpAnyH_done (by kernel_rfl) ?_ _
      obtain ⟨v, hv⟩ : ∃ v, v = IntKind.i64.wrap (fr + IntKind.i64.wrap ((IntKind.u64.wrap at').tmod (tt - fr + 1))) := ⟨_, rfl⟩
      have HV : Hid (I64 v) := hid (by
        have h1 := HRR.out
        have h2 := HFT.out
        rw [hv, IntWalk.i64_in _ ⟨by omega, by omega⟩]
        constructor <;> omega)
      rw [← hv]
      clear hv hHeld y1 y2 a3 f3 hs1 hs2 hs3 hs4 x4 a0
      have HA4 : Hid ((w3.setCell ⟨C + 2, 3, none⟩ (.int .i64 v)).drew.heap[C + 2]? = some (.cells #[.int .i64 1, .int .i64 id, .int .i64 ot, .int .i64 v, .int .i64 out, .int .i64 in'] 35 (0, 0))) := hid (heap_setCell_same _ _ _ _ _ _ HA3.out)
      have hR9 : (w3.setCell ⟨C + 2, 3, none⟩ (.int .i64 v)).drew.heap[C + 1]? = some (.cells z6 35 (0, 0)) := (Below.heap_setCell _ _ _ _ (by show C + 1 ≠ C + 2; omega)).trans HR3.out
      have HB9 : Hid (Below w.heap.size w (w3.setCell ⟨C + 2, 3, none⟩ (.int .i64 v)).drew) := hid (below_set HB3.out (by have := HCE.out; omega)).drew
      clear HA3 HR3 HB3 H3
      generalize (w3.setCell ⟨C + 2, 3, none⟩ (.int .i64 v)).drew = w4 at *
      have hA9 := HA4.out
      have a0 : w4.cell? ⟨C + 2, 0, none⟩ = some (.int .i64 1) := (cell_of_row _ _ _ _ _ _ HA4.out).trans rfl
      replace HJ : Hid (ChJ ⟨1, id, ot, v, out, in'⟩) := hid (by
        have hj := HJ.out
        intro x hx
        simp [numC] at hx
        rcases hx with rfl | rfl | rfl | rfl | rfl | rfl
        · exact hj _ (by simp [numC])
        · exact HID.out.2
        · exact hj _ (by simp [numC])
        · exact HV.out
        all_goals exact hj _ (by simp [numC]))
      clear HA4
      unfold z6 at hR9
      go_wp2_with (first | (refine wpl_loadK rfl _ rfl (C + 2) rfl _ _ _ rfl hA9 ?_) | (refine wpl_storeK rfl _ _ rfl (C + 1) _ _ _ _ _ _ rfl rfl rfl rfl rfl rfl rfl rfl _ _ rfl hR9 ?_))
      (try simp only [Exit.inBlock, Exit.then])
      refine bodyPost_ret (results_ch rfl _ _ (C + 1) _ _ _ rfl rfl (setRow_heap _ _ _ _ _ _ hR9)) rfl ?_
      exact ⟨⟨_, _, _, _, _, _⟩, rfl, HJ.out, below_row HB9.out (by have := HCE.out; omega) _⟩
    have g1 : (k == 1) = false := by simpa using h1
    by_cases h5 : k = 5
    · subst h5
      have hA3 := HA3.out
      go_upto_region 12 with (refine wpl_storeK rfl _ _ rfl (C + 2) _ _ _ _ _ _ rfl rfl rfl rfl rfl rfl rfl rfl _ _ rfl hA3 ?_)
      clear hA3 x4 a0
      have HA4 : Hid ((w3.setRow (C + 2) #[.int .i64 5, .int .i64 0, .int .i64 0, .int .i64 0, .int .i64 0, .int .i64 0]).heap[C + 2]? = some (.cells #[.int .i64 5, .int .i64 0, .int .i64 0, .int .i64 0, .int .i64 0, .int .i64 0] 35 (0, 0))) := hid (setRow_heap _ _ _ _ _ _ HA3.out)
      have hR9 : (w3.setRow (C + 2) #[.int .i64 5, .int .i64 0, .int .i64 0, .int .i64 0, .int .i64 0, .int .i64 0]).heap[C + 1]? = some (.cells z6 35 (0, 0)) := (setRow_other _ _ _ _ (by omega)).trans HR3.out
      have HB9 : Hid (Below w.heap.size w (w3.setRow (C + 2) #[.int .i64 5, .int .i64 0, .int .i64 0, .int .i64 0, .int .i64 0, .int .i64 0])) := hid (below_row HB3.out (by have := HCE.out; omega) _)
      clear HA3 HR3 HB3 H3
      generalize w3.setRow (C + 2) #[.int .i64 5, .int .i64 0, .int .i64 0, .int .i64 0, .int .i64 0, .int .i64 0] = w4 at *
      have hA9 := HA4.out
      replace HJ : Hid (ChJ ⟨5, 0, 0, 0, 0, 0⟩) := hid (by
        intro x hx
        simp [numC] at hx
        rcases hx with rfl | rfl <;> constructor <;> omega)
      clear HA4
      unfold z6 at hR9
      go_wp2_with (first | (refine wpl_loadK rfl _ rfl (C + 2) rfl _ _ _ rfl hA9 ?_) | (refine wpl_storeK rfl _ _ rfl (C + 1) _ _ _ _ _ _ rfl rfl rfl rfl rfl rfl rfl rfl _ _ rfl hR9 ?_))
      (try simp only [Exit.inBlock, Exit.then])
      refine bodyPost_ret (results_ch rfl _ _ (C + 1) _ _ _ rfl rfl (setRow_heap _ _ _ _ _ _ hR9)) rfl ?_
      exact ⟨⟨_, _, _, _, _, _⟩, rfl, HJ.out, below_row HB9.out (by have := HCE.out; omega) _⟩
    · have g5 : (k == 5) = false := by simpa using h5
      have hA9 := HA3.out
      have hR9 := HR3.out
      have HB9 := HB3
      unfold z6 at hR9
      go_wp2_with (first | (refine wpl_loadK rfl _ rfl (C + 2) rfl _ _ _ rfl hA9 ?_) | (refine wpl_storeK rfl _ _ rfl (C + 1) _ _ _ _ _ _ rfl rfl rfl rfl rfl rfl rfl rfl _ _ rfl hR9 ?_))
      (try simp only [Exit.inBlock, Exit.then])
      refine bodyPost_ret (results_ch rfl _ _ (C + 1) _ _ _ rfl rfl (setRow_heap _ _ _ _ _ _ hR9)) rfl ?_
      exact ⟨⟨_, _, _, _, _, _⟩, rfl, HJ.out, below_row HB9.out (by have := HCE.out; omega) _⟩
end Go.Proofs.Ytkggeiljalfcpaa
namespace Go.Proofs.Ytkggeiljalfcpaa
open Go.RowKit Go.Maps Go.Shelf
set_option linter.unusedVariables false
set_option linter.unusedSimpArgs false

/-- What the document's New leaves, in rows of its own. -/
def RNb (bl : Int) (l : List Int) (w : World) (e : Ending) (w' : World) : Prop := ∃ b sv X, e = .returned (.pointer (some ⟨b, 0, none⟩)) ∧ RB w' b ⟨bl, 1, 2, []⟩ (.slice none 0 0) sv X ∧ X.map (·.s) = [⟨1, 0, bl, l, []⟩] ∧ Below w.heap.size w w' ∧ w.heap.size ≤ b
set_option maxRecDepth 100000 in
set_option maxHeartbeats 4000000 in
theorem rnewB_any (bl : Int) (l : List Int) (va : Option Addr) (vc : Nat) (w : World) (hv : w.ownsRow 0 3 1 (.slice va l.length vc) l.length (nvs l)) :
    Calls Try.prog 14 #[.int .i64 bl, .slice va l.length vc] w (RNb bl l w) := by
  have HV := hid hv
  clear hv
  obtain ⟨h1, h2⟩ := heap_two w (.cells #[.int .i64 1, .int .i64 0, .int .i64 bl, .slice va l.length vc, .slice none 0 0] 70) (.cells #[.int .i64 bl, .int .i64 1, .int .i64 2, .slice none 0 0, .slice (some ⟨w.heap.size, 0, none⟩) 1 1] 72)
  have hb : Below w.heap.size w ((w.alloc (.cells #[.int .i64 1, .int .i64 0, .int .i64 bl, .slice va l.length vc, .slice none 0 0] 70)).alloc (.cells #[.int .i64 bl, .int .i64 1, .int .i64 2, .slice none 0 0, .slice (some ⟨w.heap.size, 0, none⟩) 1 1] 72)) := ((Below.refl _ _).alloc (Nat.le_refl _) _).alloc (by simp) _
  have HF : Hid (RNb bl l w (.returned (.pointer (some ⟨w.heap.size + 1, 0, none⟩))) ((w.alloc (.cells #[.int .i64 1, .int .i64 0, .int .i64 bl, .slice va l.length vc, .slice none 0 0] 70)).alloc (.cells #[.int .i64 bl, .int .i64 1, .int .i64 2, .slice none 0 0, .slice (some ⟨w.heap.size, 0, none⟩) 1 1] 72))) := hid (by
    refine ⟨w.heap.size + 1, .slice (some ⟨w.heap.size, 0, none⟩) 1 1, [⟨⟨1, 0, bl, l, []⟩, .slice va l.length vc, .slice none 0 0⟩], rfl, ⟨h2, World.ownsRow_nil _ _ _ _, ?_, ?_, fun _ => rfl⟩, rfl, hb, by omega⟩
    · exact ⟨rfl, .inr ⟨w.heap.size, 1, _, rfl, Nat.zero_le _, h1, Nat.le_refl _, by unfold maxLen; omega, rfl, rfl⟩⟩
    · intro x hx
      rw [List.mem_singleton.1 hx]
      exact ⟨own_below HV.out hb, [], rfl, World.ownsRow_nil _ _ _ _, fun x hx => by cases hx⟩)
  clear h1 h2 hb
  go_enter Try.func14, Try.ntmps14
  go_wp2_with fail
  go_ret
  simpa using HF.out
/-- What world leaves. -/
def WlP (L : List (ChD × Bool)) (st : Bool) (w : World) (e : Ending) (w' : World) : Prop := ∃ b wb mb n ov D N X xb rv sv Y, e = .returned (.tuple #[.pointer (some ⟨b, 0, none⟩), .pointer (some ⟨xb, 0, none⟩), .bool true]) ∧ At w' b wb mb n ov D N X ∧ RB w' xb N rv sv Y ∧ Y.map (·.s) = X.map (·.s) ∧ Gd 100 N (X.map (·.s)) ∧ n ≤ 100 ∧ Below w.heap.size w w' ∧ (∀ q, AtR b wb mb q → w.heap.size ≤ q) ∧ w.heap.size ≤ xb ∧ (st = true → N.op = []) ∧ (L = [] → N.ep = 1)
def calmN (N : AtN) : AtN := { N with op := [] }
theorem st_any (N : AtN) (Z : List ShD) : ∃ r, StepR N Z ⟨5, 0, 0, 0, 0, 0⟩ r (calmN N) Z := by
  by_cases h : N.op = []
  · have e : calmN N = N := by
      obtain ⟨a, b, c, d⟩ := N
      have h' : d = [] := h
      subst h'; rfl
    rw [e]
    exact ⟨8, .calm rfl rfl rfl h⟩
  · exact ⟨0, .settle rfl rfl rfl h⟩
theorem chj5 : ChJ ⟨5, 0, 0, 0, 0, 0⟩ := by
  intro x hx
  simp [numC] at hx
  rcases hx with rfl | rfl <;> constructor <;> omega
theorem ain_of {B : Nat} {N : AtN} {X : List SX} (g : Gd B N (X.map (·.s))) (hB : B ≤ 1000) : AIn N X := by
  have hm : ∀ x ∈ X, x.s ∈ X.map (·.s) := fun x hx => List.mem_map.2 ⟨x, hx, rfl⟩
  refine ⟨(chn_d X 0 N.bl).2 g.ch, fun x hx => ⟨?_, ?_, fun o ho => ?_⟩, fun x hx => ?_, one_of (ne_map g.ne), ?_, ?_, ?_⟩
  · have := mem7 (g.mb x.s (hm x hx)); omega
  · have := (g.pa x.s (hm x hx)).1; omega
  · have := mem7 ((g.pa x.s (hm x hx)).2 o ho); omega
  · have := g.id x.s (hm x hx); have := g.nx; omega
  · have := g.len; rw [List.length_map] at this; omega
  · have := g.opl; omega
  · have := g.bl; omega
/-- Both maps side by side, behind i steps. -/
structure PlI (w : World) (b wb mb xb i : Nat) (wr : World) : Prop where
  both : ∃ n ov D N X rv sv Y, At wr b wb mb n ov D N X ∧ RB wr xb N rv sv Y ∧ Y.map (·.s) = X.map (·.s) ∧ Gd (2 + 2 * i) N (X.map (·.s)) ∧ n ≤ 1 + 2 * i ∧ (i = 0 → N.ep = 1)
  bel : Below w.heap.size w wr
  ra : ∀ q, AtR b wb mb q → w.heap.size ≤ q
  rx : w.heap.size ≤ xb
theorem PlI.below {w wr w' : World} {b wb mb xb i : Nat} (h : PlI w b wb mb xb i wr) (hb : Below wr.heap.size wr w') : PlI w b wb mb xb i w' := by
  obtain ⟨⟨n, ov, D, N, X, rv, sv, Y, h1, h2, h3⟩, h6, h7, h8⟩ := h
  exact ⟨⟨n, ov, D, N, X, rv, sv, Y, h1.below hb, h2.below hb, h3⟩, h6.trans (hb.mono h6.size), h7, h8⟩
theorem mem012 : memB [0, 1, 2] = true := by decide
theorem gd_new (bl : Int) (h : 1 ≤ bl ∧ bl ≤ 256) : Gd 2 ⟨bl, 1, 2, []⟩ [⟨1, 0, bl, [0, 1, 2], []⟩] :=
  ⟨⟨rfl, by show (0 : Int) < bl; omega, rfl⟩, by intro S hS; rw [List.mem_singleton.1 hS]; exact mem012, by intro S hS; rw [List.mem_singleton.1 hS]; exact ⟨by simp, by intro o ho; cases ho⟩, by intro S hS; rw [List.mem_singleton.1 hS]; exact ⟨by show (1 : Int) ≤ 1; omega, by show (1 : Int) < 2; omega⟩, List.pairwise_singleton _ _, ⟨by show (2 : Int) ≤ 2; omega, by show (2 : Int) ≤ 2; omega⟩, ⟨by show (1 : Int) ≤ 1; omega, by show (1 : Int) ≤ 2; omega⟩, by simp, by simp, h⟩
theorem Try.rowSt : ∃ d : TypeDesc, Try.prog.underlying 51 = some d ∧ d.isRow = true := by
  obtain ⟨d, h1, h2⟩ : ∃ d, Try.prog.underlying 51 = some d ∧ d.isRow = true := by
    have h : (Try.prog.underlying 51).map (·.isRow) = some true := by kernel_rfl
    cases hu : Try.prog.underlying 51 with
    | none => rw [hu] at h; cases h
    | some d => rw [hu] at h; exact ⟨d, rfl, by simpa using h⟩
  exact ⟨d, h1, h2⟩
theorem Try.sizeSt : (Try.prog.info? 51).map (·.size) = some 7 := by kernel_rfl
theorem rest_in64 (t m : Int) (h0 : 1 ≤ m) (h1 : m ≤ 1000000000) : 0 ≤ wrap64 ((IntKind.u64.wrap t).tmod m) ∧ wrap64 ((IntKind.u64.wrap t).tmod m) < m := by
  rw [u64_mod, Int.tmod_eq_emod_of_nonneg (by omega)]
  have a := Int.emod_nonneg (t % 18446744073709551616) (b := m) (by omega)
  have b := Int.emod_lt_of_pos (t % 18446744073709551616) (b := m) (by omega)
  rw [IntWalk.wrap64_in _ (by omega)]
  exact ⟨a, b⟩
set_option maxRecDepth 100000 in
set_option maxHeartbeats 8000000 in
theorem world_any (bl : Int) (L : List (ChD × Bool)) (st : Bool) (v : Value) (w : World) (hv : Stps w v L) (hj : ∀ x ∈ L, ChJ x.1) :
    Calls Try.prog 5 #[.int .i64 bl, v, .bool st] w (WlP L st w) := by
  have HV := hid hv
  have HJ := hid hj
  have hL := hv.len
  obtain ⟨va, vc, rfl⟩ := hv.shape
  clear hv hj
  have hrr := rest_in64 bl 60 (by omega) (by omega)
  obtain ⟨nb, hnb⟩ : ∃ nb, nb = wrap64 (1 + wrap64 ((IntKind.u64.wrap bl).tmod 60)) := ⟨_, rfl⟩
  have HNB : Hid (1 ≤ nb ∧ nb ≤ 256) := hid (by rw [hnb, IntWalk.wrap64_in _ (by omega)]; omega)
  have HQ := hid hnb
  clear hnb hrr
  have HO : Hid (∀ W : World, (W.alloc (.cells #[.int .i64 0, .int .i64 1, .int .i64 2] 3)).ownsRow 0 3 1 (.slice (some ⟨W.heap.size, 0, none⟩) 3 3) 3 (nvs [0, 1, 2])) := hid fun W => own_many W 3 #[.int .i64 0, .int .i64 1, .int .i64 2] 1 3 (Nat.zero_le _) rfl (by omega)
  have HN1 := hid (anew_yes nb [0, 1, 2] (.slice (some ⟨w.heap.size, 0, none⟩) 3 3) (w.alloc (.cells #[.int .i64 0, .int .i64 1, .int .i64 2] 3)) (nums_own (HO.out w) rfl) (by simp) (by unfold anewB; rw [decide_eq_true HNB.out.1, decide_eq_true HNB.out.2, mem012]; rfl))
  have HN3 := hid fun W : World => rnewB_any nb [0, 1, 2] (some ⟨W.heap.size, 0, none⟩) 3 (W.alloc (.cells #[.int .i64 0, .int .i64 1, .int .i64 2] 3)) (HO.out W)
  go_enter Try.func5, Try.ntmps5
  go_upto_region 2 with fail
  rw [← HQ.out]
  clear HQ
  go_upto_region 3 with (go_at_call 13; refine HN1.out.mono ?_; rintro e w2 ⟨b, wb, mb, D, mv, pv, rfl, ha2, hb2, hr2⟩; have A2 := hid ha2; have HR2 := hid hr2; have B2 := hid (((Below.refl w.heap.size w).alloc (Nat.le_refl _) (.cells #[.int .i64 0, .int .i64 1, .int .i64 2] 3)).trans (hb2.mono (by simp))); clear ha2 hb2 hr2)
  go_upto_region 4 with (go_at_call 14; refine (HN3.out w2).mono ?_; rintro e w3 ⟨xb, sv, Y0, rfl, hr3, hy3, hb3, hx3⟩; have R3 := hid hr3; have HY3 := hid hy3; have HX3 : Hid (w.heap.size ≤ xb) := hid (Nat.le_trans B2.out.size (Nat.le_trans (by simp) hx3)); have HB3 := hid (((Below.refl w2.heap.size w2).alloc (Nat.le_refl _) (.cells #[.int .i64 0, .int .i64 1, .int .i64 2] 3)).trans (hb3.mono (by simp))); clear hr3 hy3 hb3 hx3)
  have HPI : Hid (PlI w b wb mb xb 0 w3) := hid ⟨⟨1, _, D, ⟨nb, 1, 2, []⟩, _, _, sv, Y0, A2.out.below HB3.out, R3.out, HY3.out, gd_new nb HNB.out, by omega, fun _ => rfl⟩, B2.out.trans (HB3.out.mono B2.out.size), fun q hq => Nat.le_trans (by simp) (HR2.out q hq), HX3.out⟩
  clear A2 HR2 B2 R3 HY3 HX3 HB3 HN1 HN3 HO
  go_wp2_with fail
  go_loopw [13, 14, 15, 34] (fun _ _ _ iv wr => ∃ i : Nat, iv = .int .i64 i ∧ i ≤ L.length ∧ i ≤ 30 ∧ PlI w b wb mb xb i wr) (fun _ _ _ iv _ => L.length - (intOf iv).toNat)
  case atStart => exact ⟨0, rfl, Nat.zero_le _, by omega, HPI.out⟩
  case round =>
    obtain ⟨i, rfl, hi, hi40, hpi⟩ := hrel
    have P := hid hpi
    clear hpi
    by_cases hlt : (i : Int) < (L.length : Int)
    · have hil : i < L.length := by omega
      have HVR := hid (HV.out.below P.out.bel)
      obtain ⟨gs, os, rfl⟩ := HVR.out.addr (by omega)
      have hrg := HVR.out.range i hil
      have HXJ := hid (HJ.out L[i] (List.getElem_mem hil))
      obtain ⟨⟨⟨k0, k1, k2, k3, k4, k5⟩, nr⟩, hx⟩ : ∃ x, x = L[i] := ⟨_, rfl⟩
      rw [← hx] at hrg HXJ
      clear hx
      unfold stC at hrg
      obtain ⟨dT, hdT1, hdT2⟩ := Try.rowSt
      obtain ⟨w3, hw3⟩ : ∃ w3, w3 = wr.alloc (.cells #[.int .i64 k0, .int .i64 k1, .int .i64 k2, .int .i64 k3, .int .i64 k4, .int .i64 k5, .bool nr] 51) := ⟨_, rfl⟩
      have HB3 : Hid (Below wr.heap.size wr w3) := hid (by rw [hw3]; exact (Below.refl _ _).alloc (Nat.le_refl _) _)
      have HS3 : Hid (w3.heap[wr.heap.size]? = some (.cells #[.int .i64 k0, .int .i64 k1, .int .i64 k2, .int .i64 k3, .int .i64 k4, .int .i64 k5, .bool nr] 51 (0, 0))) := hid (by rw [hw3]; exact heap_alloc_new _ _)
      have HW3 := hid hw3
      clear hw3
      go_upto_region 9 with (refine wpList_load_mid rfl _ _ rfl gs (os + i * 7) (by go_simp) [.int .i64 k0, .int .i64 k1, .int .i64 k2, .int .i64 k3, .int .i64 k4, .int .i64 k5, .bool nr] dT hrg hdT1 hdT2 Try.sizeSt ?_)
      rw [← HW3.out]
      clear HW3 hrg
      by_cases h40 : (30 : Int) ≤ (i : Int)
      · obtain ⟨wz, hwz⟩ : ∃ wz, wz = w3 := ⟨_, rfl⟩
        have HIZ : Hid (i ≤ 30 ∧ (L = [] → i = 0)) := hid ⟨hi40, fun h => by rw [h] at hi; simpa using hi⟩
        have PZ : Hid (PlI w b wb mb xb i wz) := hid (by rw [hwz]; exact P.out.below HB3.out)
        rw [← hwz]
        clear hwz P HS3 HB3 HVR
        cases st with
        | false =>
          go_wp2_with fail
          go_ret3
          obtain ⟨⟨n, ov, D, N, X, rv, sv, Y, h1, h2, h3, h4, h5, h9⟩, h6, h7, h8⟩ := PZ.out
          exact ⟨b, wb, mb, n, ov, D, N, X, xb, rv, sv, Y, rfl, h1, h2, h3, h4.mono (by have := HIZ.out; omega), by have := HIZ.out; omega, h6, h7, h8, (fun h => by cases h), fun h => h9 (HIZ.out.2 h)⟩
        | true =>
          obtain ⟨⟨n, ov, D, N, X, rv, sv, Y, h1, h2, h3, h4, h5, h9⟩, h6, h7, h8⟩ := PZ.out
          have HN5 := hid h5
          have HYX := hid h3
          have R0 := hid h2
          have A0 := hid h1
          have B0 := hid h6
          have HRA := hid h7
          have HRX := hid h8
          have H9 := hid h9
          have HG4 := hid h4
          obtain ⟨r, hr⟩ := st_any N (X.map (·.s))
          have HST := hid hr
          have HPA := hid (aapply_any b wb mb n (2 + 2 * i) ov D N (calmN N) X _ ⟨5, 0, 0, 0, 0, 0⟩ r wz h1 h4 hr chj5 (by have := HIZ.out; omega) (by have := HIZ.out; omega))
          clear h1 h2 h3 h4 h5 h6 h7 h8 h9 hr PZ
          unfold chV at HPA
          go_upto_region 16 with (go_at_call 10; refine HPA.out.mono ?_; rintro e w3 ⟨n1, ov1, D1, X1, rfl, ha, hx, hnn, ht⟩; have A1 := hid ha; have HX1 := hid hx; have HN1 := hid hnn; have T1 := hid ht; clear ha hx hnn ht)
          have R1 := hid (R0.out.away A0.out.m T1.out)
          have HPR := hid (rapply_any xb (2 + 2 * i) rv sv N (calmN N) Y _ ⟨5, 0, 0, 0, 0, 0⟩ r w3 R1.out (by rw [HYX.out]; exact HG4.out) (by rw [HYX.out]; exact HST.out) (by have := HIZ.out; omega))
          unfold chV at HPR
          clear HPA
          go_wp2_with (go_at_call 11; refine HPR.out.mono ?_; rintro e w4 ⟨rv2, sv2, Y2, rfl, hr2, hy2, ht2⟩; have R2 := hid hr2; have HY2 := hid hy2; have T2 := hid ht2; clear hr2 hy2 ht2)
          go_ret3
          exact ⟨b, wb, mb, n1, ov1, D1, calmN N, X1, xb, rv2, sv2, Y2, rfl, A1.out.away R1.out.box T2.out, R2.out, by rw [HY2.out, HX1.out], by rw [HX1.out]; exact (gd_step HG4.out HST.out).mono (by have := HIZ.out; omega), by have := HN1.out; have := HN5.out; have := HIZ.out; omega, (B0.out.trans (T1.out.to HRA.out B0.out.size)).trans (T2.out.to (fun q hq => by have e : q = xb := hq; rw [e]; exact HRX.out) (Nat.le_trans B0.out.size T1.out.size)), HRA.out, HRX.out, (fun _ => rfl), fun h => H9.out (HIZ.out.2 h)⟩
      · have HI40 : Hid (i < 30) := hid (by omega)
        obtain ⟨⟨n, ov, D, N, X, rv, sv, Y, h1, h2, h3, h4, h5, h9⟩, h6, h7, h8⟩ := P.out
        have A3 := hid (h1.below HB3.out)
        have R3 := hid (h2.below HB3.out)
        have HYX := hid h3
        have HGX := hid h4
        have HGY : Hid (Gd (2 + 2 * i) N (Y.map (·.s))) := hid (by rw [h3]; exact h4)
        have HNI := hid h5
        have B3 := hid (h6.trans (HB3.out.mono h6.size))
        have HRA := hid h7
        have HRX := hid h8
        clear h1 h2 h3 h4 h5 h6 h7 h8 h9 HVR P
        have HOF := hid (of_any ⟨k0, k1, k2, k3, k4, k5⟩ nr xb (2 + 2 * i) rv sv N Y w3 HXJ.out R3.out HGY.out (by have := HI40.out; omega))
        unfold stV at HOF
        have hrg3 : w3.rangeAt wr.heap.size 0 [.int .i64 k0, .int .i64 k1, .int .i64 k2, .int .i64 k3, .int .i64 k4, .int .i64 k5, .bool nr] := range_of_row HS3.out 0 _ fun j v hv => by rw [Nat.zero_add]; simpa using hv
        generalize wr.heap.size = S3 at *
        go_upto_region 11 with (first | (refine wpList_load_mid rfl _ _ rfl S3 0 (by go_simp) [.int .i64 k0, .int .i64 k1, .int .i64 k2, .int .i64 k3, .int .i64 k4, .int .i64 k5, .bool nr] dT hrg3 hdT1 hdT2 Try.sizeSt ?_) | (go_at_call 15; refine HOF.out.mono ?_; rintro e w4 ⟨⟨c0, c1, c2, c3, c4, c5⟩, rfl, hcj, hb4⟩; unfold chV; have HCJ := hid hcj; have HB4 := hid hb4; clear hcj hb4))
        obtain ⟨w5, hw5⟩ : ∃ w5, w5 = w4.alloc (.cells #[.int .i64 c0, .int .i64 c1, .int .i64 c2, .int .i64 c3, .int .i64 c4, .int .i64 c5] 35) := ⟨_, rfl⟩
        have HB5 : Hid (Below w4.heap.size w4 w5) := hid (by rw [hw5]; exact (Below.refl _ _).alloc (Nat.le_refl _) _)
        have HC5 : Hid (w5.heap[w4.heap.size]? = some (.cells #[.int .i64 c0, .int .i64 c1, .int .i64 c2, .int .i64 c3, .int .i64 c4, .int .i64 c5] 35 (0, 0))) := hid (by rw [hw5]; exact heap_alloc_new _ _)
        rw [← hw5]
        clear hw5
        have HB35 := hid (HB4.out.trans (HB5.out.mono HB4.out.size))
        have A5 := hid (A3.out.below HB35.out)
        have R5 := hid (R3.out.below HB35.out)
        have B5 := hid (B3.out.trans (HB35.out.mono B3.out.size))
        generalize w4.heap.size = C5 at *
        obtain ⟨r, N', Z', hst⟩ := step_ex N (X.map (·.s)) ⟨c0, c1, c2, c3, c4, c5⟩ HGX.out.ne
        have HST := hid hst
        have HG2 := hid (gd_step HGX.out hst)
        clear hst HB4 HB5 HB35 A3 R3 B3 HOF hrg3 HS3 HB3
        obtain ⟨dC, hdC1, hdC2⟩ := Try.rowCh
        have HSW : Hid (∀ Y : World, Y.heap[C5]? = some (.cells #[.int .i64 c0, .int .i64 c1, .int .i64 c2, .int .i64 c3, .int .i64 c4, .int .i64 c5] 35 (0, 0)) → Y.rangeAt C5 0 [.int .i64 c0, .int .i64 c1, .int .i64 c2, .int .i64 c3, .int .i64 c4, .int .i64 c5]) := hid fun Y hY => range_of_row hY 0 _ fun j v hv => by rw [Nat.zero_add]; simpa using hv
        refine wp_region_held_drew (S := fun Y => Y.rangeAt C5 0 [.int .i64 c0, .int .i64 c1, .int .i64 c2, .int .i64 c3, .int .i64 c4, .int .i64 c5]) (by kernel_rfl) (HSW.out _ HC5.out) (fun hHeld => ?_)
        refine wpAnyH_take (i := 0) (v := ?av0) rfl (by kernel_rfl) (by kernel_rfl) (by kernel_rfl) (fun _ _ _ h => h) (Or.inl ⟨by rfl, ?ay0⟩) (by assumption) ?ar0
        case ay0 => (intro w hSw; (try dsimp only at hSw); go_simp; try with_reducible rfl)
        (try simp only [Act.put, putS])
        refine wpAnyH_take (i := 1) (v := .agg #[.int .i64 c0, .int .i64 c1, .int .i64 c2, .int .i64 c3, .int .i64 c4, .int .i64 c5]) rfl (by kernel_rfl) (by kernel_rfl) (by kernel_rfl) (fun _ _ _ h => h) (yieldsIf_load_mid rfl _ _ rfl C5 0 rfl [.int .i64 c0, .int .i64 c1, .int .i64 c2, .int .i64 c3, .int .i64 c4, .int .i64 c5] dC (fun Y hY => hY) hdC1 hdC2 Try.sizeCh) (by assumption) ?_
        (try simp only [Act.put, putS])
        refine wpAnyH_take (i := 3) (v := ?bv3) rfl (by kernel_rfl) (by kernel_rfl) (by kernel_rfl) (fun _ _ _ h => h) (Or.inl ⟨by rfl, ?by3⟩) (by assumption) ?br3
        case by3 => (intro w hSw; (try dsimp only at hSw); go_simp; try with_reducible rfl)
        (try simp only [Act.put, putS])
        refine wpAnyH_take (i := 4) (v := .agg #[.int .i64 c0, .int .i64 c1, .int .i64 c2, .int .i64 c3, .int .i64 c4, .int .i64 c5]) rfl (by kernel_rfl) (by kernel_rfl) (by kernel_rfl) (fun _ _ _ h => h) (yieldsIf_load_mid rfl _ _ rfl C5 0 rfl [.int .i64 c0, .int .i64 c1, .int .i64 c2, .int .i64 c3, .int .i64 c4, .int .i64 c5] dC (fun Y hY => hY) hdC1 hdC2 Try.sizeCh) (by assumption) ?_
        (try simp only [Act.put, putS])
        refine wpAnyH_ready (rs := [2]) (by kernel_rfl) (by simp) ?_
        refine AllReadyH.cons rfl (fun K hK => ?_) AllReadyH.nil
        rw [if_pos (by rfl)]
        go_wp2_with fail
        refine (aapply_any b wb mb n (2 + 2 * i) ov D N N' X Z' ⟨c0, c1, c2, c3, c4, c5⟩ r _ (A5.out.below ((Below.refl _ _).drew)) HGX.out HST.out HCJ.out (by have := HI40.out; omega) (by have := HI40.out; have := HNI.out; omega)).mono ?_
        rintro e w6 ⟨n6, ov6, D6, X6, rfl, ha6, hx6, hn6, ht6⟩
        have T6 := hid ((Tr.below (R := AtR b wb mb) ((Below.refl w5.heap.size w5).drew)).trans ht6)
        have A6 := hid ha6
        have HX6 := hid hx6
        have HN6 := hid hn6
        have R6 := hid (R5.out.away A5.out.m T6.out)
        have C6 := hid ((T6.out.block C5 (lt_of_block HC5.out) (A5.out.m.nob HC5.out (by decide) (by decide))).trans HC5.out)
        clear ha6 hx6 hn6 ht6
        refine hK.out _ _ (HSW.out _ C6.out) (fun hHeld => ?_)
        try clear hK K
        (try simp only [Act.put, putS])
        refine wpAnyH_ready (rs := [5]) (by kernel_rfl) (by simp) ?_
        refine AllReadyH.cons rfl (fun K hK => ?_) AllReadyH.nil
        rw [if_pos (by rfl)]
        go_wp2_with fail
        refine (rapply_any xb (2 + 2 * i) rv sv N N' Y Z' ⟨c0, c1, c2, c3, c4, c5⟩ r _ R6.out HGY.out (by rw [HYX.out]; exact HST.out) (by have := HI40.out; omega)).mono ?_
        rintro e w7 ⟨rv7, sv7, Y7, rfl, hr7, hy7, ht7⟩
        have R7 := hid hr7
        have HY7 := hid hy7
        have A7 := hid (A6.out.away R6.out.box ht7)
        have C7 : Hid (w7.heap[C5]? = some (.cells #[.int .i64 c0, .int .i64 c1, .int .i64 c2, .int .i64 c3, .int .i64 c4, .int .i64 c5] 35 (0, 0))) := hid ((ht7.block C5 (lt_of_block C6.out) (fun e => by
          have e' : C5 = xb := e
          have h1 := C6.out
          rw [e', R6.out.box] at h1
          cases h1)).trans C6.out)
        have T7 := hid ht7
        clear hr7 hy7 ht7
        refine hK.out _ _ (HSW.out _ C7.out) (fun hHeld => ?_)
        try clear hK K
        (try simp only [Act.put, putS])
        refine wpAnyH_take (i := 6) (v := ?dv6) rfl (by kernel_rfl) (by kernel_rfl) (by kernel_rfl) (fun _ _ _ h => h) (Or.inl ⟨by rfl, ?dy6⟩) (by assumption) ?dr6
        case dy6 => (intro w hSw; (try dsimp only at hSw); go_simp; try with_reducible rfl)
        (try simp only [Act.put, putS])
        refine wpAnyH_done (by kernel_rfl) ?_ _
        have HREL : Hid (PlI w b wb mb xb (i + 1) w7) := hid ⟨⟨n6, ov6, D6, N', X6, rv7, sv7, Y7, A7.out, R7.out, by rw [HY7.out, HX6.out], by rw [HX6.out]; exact HG2.out.mono (by omega), by have := HN6.out; have := HNI.out; omega, fun h => by omega⟩, (B5.out.trans (T6.out.to HRA.out B5.out.size)).trans (T7.out.to (fun q hq => by have e : q = xb := hq; rw [e]; exact HRX.out) (Nat.le_trans B5.out.size T6.out.size)), HRA.out, HRX.out⟩
        go_wp2_with fail
        go_roundw
        case rel => exact ⟨i + 1, by go_num, by omega, by omega, HREL.out⟩
        case measure => simp [intOf]; omega
    · obtain ⟨wz, hwz⟩ : ∃ wz, wz = wr := ⟨_, rfl⟩
      have HIZ : Hid (i ≤ 30 ∧ (L = [] → i = 0)) := hid ⟨hi40, fun h => by rw [h] at hi; simpa using hi⟩
      have PZ : Hid (PlI w b wb mb xb i wz) := hid (by rw [hwz]; exact P.out)
      rw [← hwz]
      clear hwz P
      cases st with
      | false =>
        go_wp2_with fail
        go_ret3
        obtain ⟨⟨n, ov, D, N, X, rv, sv, Y, h1, h2, h3, h4, h5, h9⟩, h6, h7, h8⟩ := PZ.out
        exact ⟨b, wb, mb, n, ov, D, N, X, xb, rv, sv, Y, rfl, h1, h2, h3, h4.mono (by have := HIZ.out; omega), by have := HIZ.out; omega, h6, h7, h8, (fun h => by cases h), fun h => h9 (HIZ.out.2 h)⟩
      | true =>
        obtain ⟨⟨n, ov, D, N, X, rv, sv, Y, h1, h2, h3, h4, h5, h9⟩, h6, h7, h8⟩ := PZ.out
        have HN5 := hid h5
        have HYX := hid h3
        have R0 := hid h2
        have A0 := hid h1
        have B0 := hid h6
        have HRA := hid h7
        have HRX := hid h8
        have H9 := hid h9
        have HG4 := hid h4
        obtain ⟨r, hr⟩ := st_any N (X.map (·.s))
        have HST := hid hr
        have HPA := hid (aapply_any b wb mb n (2 + 2 * i) ov D N (calmN N) X _ ⟨5, 0, 0, 0, 0, 0⟩ r wz h1 h4 hr chj5 (by have := HIZ.out; omega) (by have := HIZ.out; omega))
        clear h1 h2 h3 h4 h5 h6 h7 h8 h9 hr PZ
        unfold chV at HPA
        go_upto_region 16 with (go_at_call 10; refine HPA.out.mono ?_; rintro e w3 ⟨n1, ov1, D1, X1, rfl, ha, hx, hnn, ht⟩; have A1 := hid ha; have HX1 := hid hx; have HN1 := hid hnn; have T1 := hid ht; clear ha hx hnn ht)
        have R1 := hid (R0.out.away A0.out.m T1.out)
        have HPR := hid (rapply_any xb (2 + 2 * i) rv sv N (calmN N) Y _ ⟨5, 0, 0, 0, 0, 0⟩ r w3 R1.out (by rw [HYX.out]; exact HG4.out) (by rw [HYX.out]; exact HST.out) (by have := HIZ.out; omega))
        unfold chV at HPR
        clear HPA
        go_wp2_with (go_at_call 11; refine HPR.out.mono ?_; rintro e w4 ⟨rv2, sv2, Y2, rfl, hr2, hy2, ht2⟩; have R2 := hid hr2; have HY2 := hid hy2; have T2 := hid ht2; clear hr2 hy2 ht2)
        go_ret3
        exact ⟨b, wb, mb, n1, ov1, D1, calmN N, X1, xb, rv2, sv2, Y2, rfl, A1.out.away R1.out.box T2.out, R2.out, by rw [HY2.out, HX1.out], by rw [HX1.out]; exact (gd_step HG4.out HST.out).mono (by have := HIZ.out; omega), by have := HN1.out; have := HN5.out; have := HIZ.out; omega, (B0.out.trans (T1.out.to HRA.out B0.out.size)).trans (T2.out.to (fun q hq => by have e : q = xb := hq; rw [e]; exact HRX.out) (Nat.le_trans B0.out.size T1.out.size)), HRA.out, HRX.out, (fun _ => rfl), fun h => H9.out (HIZ.out.2 h)⟩
end Go.Proofs.Ytkggeiljalfcpaa
namespace Go.Proofs.Ytkggeiljalfcpaa
open Go.RowKit Go.Maps Go.Shelf
set_option linter.unusedVariables false
set_option linter.unusedSimpArgs false

def LoJ (l : LoD) : Prop := I64 l.sh ∧ I64 l.cm ∧ I64 l.ins ∧ I64 l.mid
/-- What of answers. -/
def OfL (w : World) (e : Ending) (w' : World) : Prop := ∃ v K, e = .returned v ∧ Lds w' v K ∧ K.length ≤ 60 ∧ (∀ l ∈ K, I64 l.sh) ∧ Below w.heap.size w w'
theorem Lds.len {w : World} {v : Value} {K : List LoD} (h : Lds w v K) : (K.length : Int) ≤ 9223372036854775807 := by
  obtain ⟨ao, n, cap, rfl, h1, h2, h3, -⟩ := h; omega
theorem rest_nat (t : Int) (n : Nat) (h : 0 ≤ t) (hn : 0 < n) : ∃ i : Nat, i < n ∧ t.tmod (n : Int) = (i : Int) := by
  obtain ⟨m, rfl⟩ : ∃ m : Nat, t = m := ⟨t.toNat, by omega⟩
  exact ⟨m % n, Nat.mod_lt _ hn, rfl⟩
set_option maxRecDepth 100000 in
set_option maxHeartbeats 8000000 in
theorem caseOf_any (r : RuD) (st : Bool) (K : List LoD) (kv : Value) (va : Option Addr) (vn vc : Nat) (xb B : Nat) (rv sv : Value) (N : AtN) (Y : List SX) (w : World) (hk : Lds w kv K) (hkj : ∀ l ∈ K, LoJ l) (h : RB w xb N rv sv Y) (g : Gd B N (Y.map (·.s))) (hB : B ≤ 1000) :
    Calls Try.prog 8 #[.agg #[.int .i64 r.hot, .int .i64 r.cold, .int .i64 r.long, .int .i64 r.mute, .int .i64 r.cap, kv, .slice va vn vc, .bool st], .pointer (some ⟨xb, 0, none⟩)] w (OfL w) := by
  have HK := hid hk
  have HKJ := hid hkj
  have H := hid h
  have hlen := hk.len
  obtain ⟨ka, kc, rfl⟩ := hk.shape
  obtain ⟨-, sva, svc, rfl⟩ := h.shapes
  have HYL : Hid (0 < Y.length) := hid (by
    cases Y with
    | nil => have := g.bl; have h0 : (0 : Int) = N.bl := g.ch; omega
    | cons y l => simp)
  have HYM : Hid (Y.length ≤ 1000) := hid (by have := g.len; rw [List.length_map] at this; omega)
  have HII : Hid (∀ y ∈ Y, I64 y.s.id) := hid fun y hy => by
    have h1 := g.id y.s (List.mem_map.2 ⟨y, hy, rfl⟩)
    have h2 := g.nx
    constructor <;> omega
  obtain ⟨gy, rfl⟩ : ∃ gy, sva = some ⟨gy, 0, none⟩ := own_some h.row HYL.out
  clear h g hk hkj
  obtain ⟨w1, hw1⟩ : ∃ w1, w1 = w.alloc (.cells #[.int .i64 r.hot, .int .i64 r.cold, .int .i64 r.long, .int .i64 r.mute, .int .i64 r.cap, .slice ka K.length kc, .slice va vn vc, .bool st] 28) := ⟨_, rfl⟩
  have B1 : Hid (Below w.heap.size w w1) := hid (by rw [hw1]; exact (Below.refl _ _).alloc (Nat.le_refl _) _)
  have hP1 : w1.heap[w.heap.size]? = some (.cells #[.int .i64 r.hot, .int .i64 r.cold, .int .i64 r.long, .int .i64 r.mute, .int .i64 r.cap, .slice ka K.length kc, .slice va vn vc, .bool st] 28 (0, 0)) := by rw [hw1]; exact heap_alloc_new _ _
  have HW1 := hid hw1
  have c5 : w1.cell? ⟨w.heap.size, 5, none⟩ = some (.slice ka K.length kc) := by rw [cell_of_row _ _ _ _ _ _ hP1]; rfl
  clear hw1 hP1
  go_enter Try.func8, Try.ntmps8
  go_upto_region 1 with fail
  rw [← HW1.out]
  clear HW1
  obtain ⟨A, hA⟩ : ∃ A, A = w.heap.size := ⟨_, rfl⟩
  rw [← hA] at c5
  rw [← hA]
  clear hA
  go_wp2_with fail
  clear c5
  go_loopw [5, 6, 7, 11] (fun lv _ _ iv wr => ∃ (i : Nat) (K' : List LoD), iv = .int .i64 i ∧ i ≤ K.length ∧ i ≤ 60 ∧ K'.length = i ∧ (∀ l ∈ K', I64 l.sh) ∧ wr.ownsRow w.heap.size 54 4 lv i (lovs K') ∧ Below w.heap.size w wr) (fun _ _ _ iv _ => K.length - (intOf iv).toNat)
  case atStart => exact ⟨0, [], rfl, Nat.zero_le _, by omega, rfl, (fun l h => by cases h), World.ownsRow_nil _ _ _ _, B1.out⟩
  case round =>
    obtain ⟨i, K', rfl, hi, hi60, hkl, hki, hol, hbr⟩ := hrel
    obtain ⟨la, lc, rfl⟩ := own_shape hol
    have BR := hid hbr
    have OL := hid hol
    have HKI := hid hki
    have HKL := hid hkl
    clear hbr hol hki hkl
    by_cases hlt : (i : Int) < (K.length : Int)
    · have hil : i < K.length := by omega
      obtain ⟨kb, ko, rfl⟩ := HK.out.addr (by omega)
      have hRG := (HK.out.below BR.out).range i hil
      have HLJ := hid (HKJ.out K[i] (List.getElem_mem hil))
      unfold LoD.c at hRG
      obtain ⟨⟨sh, cm, ins, mid⟩, hl⟩ : ∃ l, l = K[i] := ⟨_, rfl⟩
      rw [← hl] at hRG HLJ
      clear hl
      simp only at hRG
      go_upto_region 5 with (refine wpl_loadLo rfl _ rfl kb (ko + i * 4) (by go_simp) _ _ _ _ hRG ?_)
      have hb6 : Below wr.heap.size wr (wr.alloc (.cells #[.int .i64 sh, .int .i64 cm, .int .i64 ins, .int .i64 mid] 54)) := (Below.refl _ _).alloc (Nat.le_refl _) _
      have hP6 := heap_alloc_new wr (.cells #[.int .i64 sh, .int .i64 cm, .int .i64 ins, .int .i64 mid] 54)
      have O6 := hid (own_below OL.out hb6)
      have B6 := hid (BR.out.trans (hb6.mono BR.out.size))
      have HP6 := hid hP6
      have HPB : Hid (w.heap.size ≤ wr.heap.size) := hid BR.out.size
      have HLQ : Hid (∀ q, (Value.slice la i lc).ownBlock = some q → q < wr.heap.size) := hid fun q hq => (World.ownsRow.lt OL.out q hq).2
      obtain ⟨w6, hw6⟩ : ∃ w6, w6 = wr.alloc (.cells #[.int .i64 sh, .int .i64 cm, .int .i64 ins, .int .i64 mid] 54) := ⟨_, rfl⟩
      rw [← hw6] at O6 B6 HP6
      rw [← hw6]
      clear hw6 hb6 hP6 hRG OL BR
      obtain ⟨P7, hP7⟩ : ∃ P, P = wr.heap.size := ⟨_, rfl⟩
      rw [← hP7] at HP6 HPB HLQ
      rw [← hP7]
      clear hP7
      by_cases h60 : (60 : Int) ≤ (i : Int)
      · go_wp2_with fail
        go_ret
        exact ⟨_, K', rfl, Lds.own O6.out HKL.out.symm, by have := HKL.out; omega, HKI.out, B6.out⟩
      · have p0 : w6.cell? ⟨P7, 0, none⟩ = some (.int .i64 sh) := by rw [cell_of_row _ _ _ _ _ _ HP6.out]; rfl
        have f0 : w6.frozen? ⟨P7, 0, none⟩ = false := frozen_of_row _ _ _ _ _ HP6.out
        by_cases hs0 : 0 ≤ sh
        · obtain ⟨j, hj, hre⟩ := rest_nat sh Y.length hs0 HYL.out
          have HX6 := hid (H.out.below B6.out)
          have HID := hid (HII.out Y[j] (List.getElem_mem hj))
          have x4 : w6.cell? ⟨xb, 4, none⟩ = some (.slice (some ⟨gy, 0, none⟩) Y.length svc) := HX6.out.cell 4
          have y0 : w6.cell? ⟨gy, j * 5, none⟩ = some (.int .i64 Y[j].s.id) := own_cell HX6.out.row (shvs_part Y j hj 0 _ rfl)
          have HSV : Hid (∀ v : Int, (w6.setCell ⟨P7, 0, none⟩ (.int .i64 v)).drew.cell? ⟨xb, 4, none⟩ = some (.slice (some ⟨gy, 0, none⟩) Y.length svc) ∧ (w6.setCell ⟨P7, 0, none⟩ (.int .i64 v)).drew.cell? ⟨gy, j * 5, none⟩ = some (.int .i64 Y[j].s.id)) := hid fun v => by
            have h4 := H.out.below ((below_set B6.out (i := 0) (v := .int .i64 v) HPB.out).drew)
            exact ⟨h4.cell 4, own_cell h4.row (shvs_part Y j hj 0 _ rfl)⟩
          have hwj : IntKind.i64.wrap (j : Int) = (j : Int) := IntWalk.i64_in _ ⟨by omega, by have := HYM.out; omega⟩
          have hjl : (j : Int) < (Y.length : Int) := by omega
          have hyl0 : ¬ (Y.length : Int) = 0 := by have := HYL.out; omega
          have hyn : ¬ Y = [] := fun e => by have := HYL.out; rw [e] at this; simp at this
          have hj0 : (0 : Int) ≤ (j : Int) := by omega
          generalize Y[j].s.id = s' at *
          go_upto_region 7 with fail
          refine wp_region_held_drew (S := fun Z => Z.cell? ⟨xb, 4, none⟩ = some (.slice (some ⟨gy, 0, none⟩) Y.length svc) ∧ Z.cell? ⟨gy, j * 5, none⟩ = some (.int .i64 s')) (by kernel_rfl) ⟨x4, y0⟩ (fun hHeld => ?_)
          refine wpAnyH_take (i := 0) (v := ?av0) rfl (by kernel_rfl) (by kernel_rfl) (by kernel_rfl) (fun _ _ _ h => h) (Or.inl ⟨by rfl, ?ay0⟩) (by assumption) ?ar0
          case ay0 => (intro w hSw; (try dsimp only at hSw); go_simp; try with_reducible rfl)
          (try simp only [Act.put, putS])
          refine wpAnyH_take (i := 1) (v := ?av1) rfl (by kernel_rfl) (by kernel_rfl) (by kernel_rfl) (fun _ _ _ h => h) (Or.inl ⟨by rfl, ?ay1⟩) (by assumption) ?ar1
          case ay1 => (intro w hSw; (try dsimp only at hSw); go_simp; try with_reducible rfl)
          (try simp only [Act.put, putS])
          refine wpAnyH_take (i := 2) (v := ?av2) rfl (by kernel_rfl) (by kernel_rfl) (by kernel_rfl) (fun _ _ _ h => h) (Or.inl ⟨by rfl, ?ay2⟩) (by assumption) ?ar2
          case ay2 => (intro w hSw; (try dsimp only at hSw); go_simp; try with_reducible rfl)
          (try simp only [Act.put, putS])
          refine wpAnyH_take (i := 3) (v := ?av3) rfl (by kernel_rfl) (by kernel_rfl) (by kernel_rfl) (fun _ _ _ h => h) (Or.inl ⟨by rfl, ?ay3⟩) (by assumption) ?ar3
          case ay3 => (intro w hSw; (try dsimp only at hSw); go_simp; try with_reducible rfl)
          (try simp only [Act.put, putS])
          refine wpAnyH_take (i := 4) (v := ?av4) rfl (by kernel_rfl) (by kernel_rfl) (by kernel_rfl) (fun _ _ _ h => h) (Or.inl ⟨by rfl, ?ay4⟩) (by assumption) ?ar4
          case ay4 => (intro w hSw; (try dsimp only at hSw); go_simp; try with_reducible rfl)
          (try simp only [Act.put, putS])
          refine wpAnyH_take (i := 6) (v := ?av6) rfl (by kernel_rfl) (by kernel_rfl) (by kernel_rfl) (fun _ _ _ h => h) (Or.inl ⟨by rfl, ?ay6⟩) (by assumption) ?ar6
          case ay6 => (intro w hSw; (try dsimp only at hSw); go_simp; try with_reducible rfl)
          (try simp only [Act.put, putS])
          refine wpAnyH_take (i := 7) (v := ?av7) rfl (by kernel_rfl) (by kernel_rfl) (by kernel_rfl) (fun _ _ _ h => h) (Or.inl ⟨by rfl, ?ay7⟩) (by assumption) ?ar7
          case ay7 => (intro w hSw; (try dsimp only at hSw); go_simp; try with_reducible rfl)
          (try simp only [Act.put, putS])
          refine wpAnyH_take (i := 8) (v := ?av8) rfl (by kernel_rfl) (by kernel_rfl) (by kernel_rfl) (fun _ _ _ h => h) (Or.inl ⟨by rfl, ?ay8⟩) (by assumption) ?ar8
          case ay8 => (intro w hSw; (try dsimp only at hSw); go_simp; try with_reducible rfl)
          (try simp only [Act.put, putS])
          refine wpAnyH_take (i := 9) (v := ?av9) rfl (by kernel_rfl) (by kernel_rfl) (by kernel_rfl) (fun _ _ _ h => h) (Or.inl ⟨by rfl, ?ay9⟩) (by assumption) ?ar9
          case ay9 => (intro w hSw; (try dsimp only at hSw); go_simp; try with_reducible rfl)
          (try simp only [Act.put, putS])
          refine wpAnyH_take (i := 10) (v := ?av10) rfl (by kernel_rfl) (by kernel_rfl) (by kernel_rfl) (fun _ _ _ h => h) (Or.inl ⟨by rfl, ?ay10⟩) (by assumption) ?ar10
          case ay10 => (intro w hSw; (try dsimp only at hSw); go_simp; try with_reducible rfl)
          (try simp only [Act.put, putS])
          refine wpAnyH_ready (rs := [5]) (by kernel_rfl) (by simp) ?_
          refine AllReadyH.cons rfl (fun K hK => ?_) AllReadyH.nil
          rw [if_pos (by rfl)]
          go_simp
          refine hK.out _ _ hHeld (fun hHeld => ?_)
          try clear hK K
          (try simp only [Act.put, putS])
          refine wpAnyH_take (i := 11) (v := ?av11) rfl (by kernel_rfl) (by kernel_rfl) (by kernel_rfl) (fun _ _ _ h => h) (Or.inl ⟨by rfl, ?ay11⟩) (by assumption) ?ar11
          case ay11 => (intro w hSw; (try dsimp only at hSw); go_simp; try with_reducible rfl)
          (try simp only [Act.put, putS])
          refine wpAnyH_take (i := 12) (v := ?av12) rfl (by kernel_rfl) (by kernel_rfl) (by kernel_rfl) (fun _ _ _ h => h) (Or.inl ⟨by rfl, ?ay12⟩) (by assumption) ?ar12
          case ay12 => (intro w hSw; (try dsimp only at hSw); go_simp; try with_reducible rfl)
          (try simp only [Act.put, putS])
          refine wpAnyH_take (i := 13) (v := ?av13) rfl (by kernel_rfl) (by kernel_rfl) (by kernel_rfl) (fun _ _ _ h => h) (Or.inl ⟨by rfl, ?ay13⟩) (by assumption) ?ar13
          case ay13 => (intro w hSw; (try dsimp only at hSw); go_simp; try with_reducible rfl)
          (try simp only [Act.put, putS])
          refine wpAnyH_take (i := 14) (v := ?av14) rfl (by kernel_rfl) (by kernel_rfl) (by kernel_rfl) (fun _ _ _ h => h) (Or.inl ⟨by rfl, ?ay14⟩) (by assumption) ?ar14
          case ay14 => (intro w hSw; (try dsimp only at hSw); go_simp; try with_reducible rfl)
          (try simp only [Act.put, putS])
          refine wpAnyH_take (i := 15) (v := ?av15) rfl (by kernel_rfl) (by kernel_rfl) (by kernel_rfl) (fun _ _ _ h => h) (Or.inl ⟨by rfl, ?ay15⟩) (by assumption) ?ar15
          case ay15 => (intro w hSw; (try dsimp only at hSw); go_simp; try with_reducible rfl)
          (try simp only [Act.put, putS])
          refine wpAnyH_ready (rs := [16]) (by kernel_rfl) (by simp) ?_
          refine AllReadyH.cons rfl (fun K hK => ?_) AllReadyH.nil
          rw [if_pos (by rfl)]
          go_simp
          refine hK.out _ _ (HSV.out _) (fun hHeld => ?_)
          try clear hK K
          (try simp only [Act.put, putS])
          refine wpAnyH_done (by kernel_rfl) ?_ _
          have HZ7 : Hid ((w6.setCell ⟨P7, 0, none⟩ (.int .i64 s')).drew.heap[P7]? = some (.cells #[.int .i64 s', .int .i64 cm, .int .i64 ins, .int .i64 mid] 54 (0, 0))) := hid (heap_setCell_same _ _ _ _ _ _ HP6.out)
          have BZ : Hid (Below w.heap.size w (w6.setCell ⟨P7, 0, none⟩ (.int .i64 s')).drew) := hid (below_set B6.out HPB.out).drew
          have OZ : Hid ((w6.setCell ⟨P7, 0, none⟩ (.int .i64 s')).drew.ownsRow w.heap.size 54 4 (.slice la i lc) i (lovs K')) := hid (own_kept O6.out fun q cs' hq _ => Below.heap_setCell w6 ⟨P7, 0, none⟩ (.int .i64 s') q fun e => by have h1 := HLQ.out q hq; have e' : q = P7 := e; omega)
          have HSI := hid HID.out
          clear x4 y0 p0 f0 hre hwj hyl0 hyn hHeld O6 B6 HP6 HX6 HSV
          generalize (w6.setCell ⟨P7, 0, none⟩ (.int .i64 s')).drew = wz at *
          have hR8 : wz.rangeAt P7 0 [.int .i64 s', .int .i64 cm, .int .i64 ins, .int .i64 mid] := range_of_row HZ7.out 0 _ fun j v hv => by rw [Nat.zero_add]; simpa using hv
          have hbl : Below wz.heap.size wz (wz.alloc (.cells #[.int .i64 s', .int .i64 cm, .int .i64 ins, .int .i64 mid] 54)) := (Below.refl _ _).alloc (Nat.le_refl _) _
          have OA := hid (own_below OZ.out hbl)
          have YA : Hid (∀ j u, (LoD.c ⟨s', cm, ins, mid⟩)[j]? = some u → (wz.alloc (.cells #[.int .i64 s', .int .i64 cm, .int .i64 ins, .int .i64 mid] 54)).cell? ⟨wz.heap.size, j, none⟩ = some u) := hid fun j u hj => by
            rw [cell_of_row _ _ _ _ _ _ (heap_alloc_new _ _)]; unfold LoD.c at hj; simpa using hj
          have BA := hid (BZ.out.trans (hbl.mono BZ.out.size))
          clear hbl
          go_upto_region 9 with (first | (refine wpl_loadLo rfl _ rfl P7 0 rfl _ _ _ _ hR8 ?_) | (at_builtin; refine wpl_app rowLo rfl _ _ rfl w.heap.size (.slice la i lc) i (lovs K') rfl OA.out wz.heap.size 1 1 (LoD.c ⟨s', cm, ins, mid⟩) rfl rfl YA.out (by simp [LoD.c, Value.oneCell']) (by omega) BA.out.size ?_; intro va9 vc9 w9 ho9 hg9; have HO9 := hid ho9; have B9 := hid (BA.out.trans (own_bel OA.out hg9 BA.out.size)); clear ho9 hg9))
          clear hR8
          go_wp2_with fail
          go_roundw
          case rel => exact ⟨i + 1, K' ++ [⟨s', cm, ins, mid⟩], by go_num, by omega, by omega, by simp [HKL.out], (fun x hx => by
            rcases List.mem_append.1 hx with h | h
            · exact HKI.out x h
            · rw [List.mem_singleton.1 h]; exact HSI.out), by rw [lovs_append, show lovs [(⟨s', cm, ins, mid⟩ : LoD)] = LoD.c ⟨s', cm, ins, mid⟩ from by simp [lovs]]; exact HO9.out, B9.out⟩
          case measure => simp [intOf]; omega
        · have HZ7 := HP6
          have BZ := B6
          have OZ := O6
          have HSI : Hid (I64 sh) := hid HLJ.out.1
          obtain ⟨s', rfl⟩ : ∃ s', s' = sh := ⟨_, rfl⟩
          obtain ⟨wz, rfl⟩ : ∃ wz, wz = w6 := ⟨_, rfl⟩
          go_upto_region 8 with fail
          clear p0 f0 O6 B6 HP6
          have hR8 : wz.rangeAt P7 0 [.int .i64 s', .int .i64 cm, .int .i64 ins, .int .i64 mid] := range_of_row HZ7.out 0 _ fun j v hv => by rw [Nat.zero_add]; simpa using hv
          have hbl : Below wz.heap.size wz (wz.alloc (.cells #[.int .i64 s', .int .i64 cm, .int .i64 ins, .int .i64 mid] 54)) := (Below.refl _ _).alloc (Nat.le_refl _) _
          have OA := hid (own_below OZ.out hbl)
          have YA : Hid (∀ j u, (LoD.c ⟨s', cm, ins, mid⟩)[j]? = some u → (wz.alloc (.cells #[.int .i64 s', .int .i64 cm, .int .i64 ins, .int .i64 mid] 54)).cell? ⟨wz.heap.size, j, none⟩ = some u) := hid fun j u hj => by
            rw [cell_of_row _ _ _ _ _ _ (heap_alloc_new _ _)]; unfold LoD.c at hj; simpa using hj
          have BA := hid (BZ.out.trans (hbl.mono BZ.out.size))
          clear hbl
          go_upto_region 9 with (first | (refine wpl_loadLo rfl _ rfl P7 0 rfl _ _ _ _ hR8 ?_) | (at_builtin; refine wpl_app rowLo rfl _ _ rfl w.heap.size (.slice la i lc) i (lovs K') rfl OA.out wz.heap.size 1 1 (LoD.c ⟨s', cm, ins, mid⟩) rfl rfl YA.out (by simp [LoD.c, Value.oneCell']) (by omega) BA.out.size ?_; intro va9 vc9 w9 ho9 hg9; have HO9 := hid ho9; have B9 := hid (BA.out.trans (own_bel OA.out hg9 BA.out.size)); clear ho9 hg9))
          clear hR8
          go_wp2_with fail
          go_roundw
          case rel => exact ⟨i + 1, K' ++ [⟨s', cm, ins, mid⟩], by go_num, by omega, by omega, by simp [HKL.out], (fun x hx => by
            rcases List.mem_append.1 hx with h | h
            · exact HKI.out x h
            · rw [List.mem_singleton.1 h]; exact HSI.out), by rw [lovs_append, show lovs [(⟨s', cm, ins, mid⟩ : LoD)] = LoD.c ⟨s', cm, ins, mid⟩ from by simp [lovs]]; exact HO9.out, B9.out⟩
          case measure => simp [intOf]; omega
    · go_wp2_with fail
      go_ret
      exact ⟨_, K', rfl, Lds.own OL.out HKL.out.symm, by have := HKL.out; omega, HKI.out, BR.out⟩
end Go.Proofs.Ytkggeiljalfcpaa
namespace Go.Proofs.Ytkggeiljalfcpaa
open Go.RowKit Go.Maps Go.Shelf
set_option linter.unusedVariables false
set_option linter.unusedSimpArgs false

/-- What Decide answers. -/
def DcA (r : RuD) (N : AtN) (Z : List ShD) (w : World) (e : Ending) (w' : World) : Prop := ∃ c ok, e = .returned (.tuple #[chV c, .bool ok]) ∧ ChJ c ∧ c.k ≠ 5 ∧ (ok = false → c = zCh) ∧ (ok = true → N.op = [] ∧ N.ep < r.cap ∧ ∃ N' Z', StepR N Z c 0 N' Z') ∧ Below w.heap.size w w'
theorem rl_rq {w w' : World} {e : Ending} (h : RlP w e w') : RqP (fun _ _ => True) w e w' := by
  obtain ⟨c, ok, h1, h2, h3, h4, h5⟩ := h
  exact ⟨c, ok, h1, h2, h3, h4, trivial, h5⟩
theorem gd_sp {B : Nat} {N : AtN} {X : List SX} (g : Gd B N (X.map (·.s))) : ∀ x ∈ X, 0 ≤ x.s.fr ∧ x.s.fr < x.s.to ∧ x.s.to ≤ 256 := fun x hx => by
  have h1 := ChnD.mem _ _ _ g.ch x.s (List.mem_map.2 ⟨x, hx, rfl⟩)
  have h2 := g.bl
  omega
theorem gd_xl {B : Nat} {N : AtN} {X : List SX} (g : Gd B N (X.map (·.s))) (hB : B ≤ 1000) : X.length ≤ 1000 := by
  have := g.len; rw [List.length_map] at this; omega
theorem decide_all (b wb mb n B : Nat) (ov : Value) (D : DataW Value) (N : AtN) (X : List SX) (r : RuD) (K : List LoD) (V : List Int) (kv vv : Value) (w : World) (h : At w b wb mb n ov D N X) (g : Gd B N (X.map (·.s))) (hB : B ≤ 1000) (hn : n ≤ 1000)
    (hk : Lds w kv K) (hkj : ∀ l ∈ K, I64 l.sh) (hkl : K.length ≤ 1000) (hv : Nums w vv V) :
    Calls Try.prog 7 #[.pointer (some ⟨b, 0, none⟩), .agg #[.int .i64 r.hot, .int .i64 r.cold, .int .i64 r.long, .int .i64 r.mute, .int .i64 r.cap], kv, vv] w (DcA r N (X.map (·.s)) w) := by
  change Calls Try.prog 7 #[.pointer (some ⟨b, 0, none⟩), .agg (ruC r), kv, vv] w (DcA r N (X.map (·.s)) w)
  by_cases hoff : dcOff r N
  · refine (decide_off b wb mb n ov D N X r kv vv w h (by have := g.opl; omega) hoff).mono ?_
    rintro e w' ⟨rfl, hb⟩
    exact ⟨zCh, false, rfl, zCh_J, by decide, (fun _ => rfl), (fun h => by cases h), hb⟩
  · unfold dcOff at hoff
    have hm : mayB r = true := by
      cases hc : mayB r with
      | true => rfl
      | false => exact absurd (.inl hc) hoff
    have ho : N.op = [] := Classical.byContradiction fun h => hoff (.inr (.inl h))
    have he : N.ep < r.cap := Classical.byContradiction fun h => hoff (.inr (.inr (by omega)))
    refine (decide_on b wb mb n B ov D N X r K V kv vv (fun _ _ _ => True) (fun _ _ => True) w h g hB hn (wain_of g hB) (gd_xl g hB) (gd_sp g) hk hkj hkl hv hm ho he ?_ ?_ ?_ ?_ ?_).mono ?_
    · intro W s G L sv lv hg
      exact (replace_any s G L sv lv W hg.sc).mono fun e w' h => rl_rq h
    · intro W s G L sv lv hg
      exact (renew_any s G L sv lv W hg.sc).mono fun e w' h => rl_rq h
    · intro W s G L sv lv hg
      exact (split_any s G L sv lv W hg.sc).mono fun e w' h => rl_rq h
    · intro W s G L sv lv hg
      exact (merge_any s G L sv lv W hg.sc).mono fun e w' h => rl_rq h
    · intro c _
      obtain ⟨q, N', Z', hs⟩ := step_ex N (X.map (·.s)) c g.ne
      exact ⟨q, N', Z', hs, trivial⟩
    · rintro e w' ⟨c, ok, rfl, h1, h2, h3, hb⟩
      rcases h3 with ⟨rfl, i, -, -, -, hs⟩ | ⟨rfl, rfl, -⟩
      · exact ⟨c, true, rfl, h1, h2, (fun h => by cases h), (fun _ => ⟨ho, he, hs⟩), hb⟩
      · exact ⟨zCh, false, rfl, h1, h2, (fun _ => rfl), (fun h => by cases h), hb⟩
theorem wpl_loadChG {ops : Array Oper} {rest : List Oper} {o : Oper} {a : Act} {w : World} {Q : Exit → Act → World → Prop} (hgd : Region.wanted o (yielded ops a.tmps) = true) (x : Operand) (ho : o.op = .load 35 x)
    (b f : Nat) (hx : a.eval x = .pointer (some ⟨b, f, none⟩)) (c0 c1 c2 c3 c4 c5 : Value) (hg : w.rangeAt b f [c0, c1, c2, c3, c4, c5])
    (h : wpList Try.prog ops Q rest (a.put o.dst (.agg #[c0, c1, c2, c3, c4, c5])) w) : wpList Try.prog ops Q (o :: rest) a w := by
  obtain ⟨d, hd1, hd2⟩ := Try.rowCh
  exact wpList_step fun K hK => by rw [if_pos hgd]; exact wp_load_mid _ x ho b f hx [c0, c1, c2, c3, c4, c5] d hg hd1 hd2 Try.sizeCh (hK _ _ h)
theorem Try.structKc0 : (Try.prog.underlying 28).map (fun d => match d with | .struct _ | .array _ _ => true | _ => false) = some true := by kernel_rfl
theorem Try.rowKc : ∃ d : TypeDesc, Try.prog.underlying 28 = some d ∧ d.isRow = true := by
  have h := Try.structKc0
  cases hd : Try.prog.underlying 28 with
  | none => rw [hd] at h; cases h
  | some d =>
    rw [hd] at h
    exact ⟨d, rfl, by cases d <;> first | rfl | (simp at h)⟩
theorem Try.sizeKc : (Try.prog.info? 28).map (·.size) = some 8 := by kernel_rfl
end Go.Proofs.Ytkggeiljalfcpaa
namespace Go.Proofs.Ytkggeiljalfcpaa
open Go.RowKit Go.Maps Go.Shelf
set_option linter.unusedVariables false
set_option linter.unusedSimpArgs false

set_option maxRecDepth 100000 in
set_option maxHeartbeats 8000000 in
theorem wardenFits_any (bl : Int) (L : List (ChD × Bool)) (v : Value) (r : RuD) (Kd : List LoD) (V : List Int) (kv vv : Value) (st : Bool) (w : World) (hv : Stps w v L) (hj : ∀ x ∈ L, ChJ x.1) (hk : Lds w kv Kd) (hkj : ∀ l ∈ Kd, LoJ l) (hvv : Nums w vv V) :
    Calls Try.prog 3 #[.int .i64 bl, v, .agg #[.int .i64 r.hot, .int .i64 r.cold, .int .i64 r.long, .int .i64 r.mute, .int .i64 r.cap, kv, vv, .bool st]] w fun e w' => e = .returned (.bool true) ∧ Below w.heap.size w w' := by
  obtain ⟨sa, sc, rfl⟩ := hv.shape
  obtain ⟨ka, kc, rfl⟩ := hk.shape
  obtain ⟨va, vc, rfl⟩ := hvv.shape
  obtain ⟨w1, hw1⟩ : ∃ w1, w1 = w.alloc (.cells #[.int .i64 r.hot, .int .i64 r.cold, .int .i64 r.long, .int .i64 r.mute, .int .i64 r.cap, .slice ka Kd.length kc, .slice va V.length vc, .bool st] 28) := ⟨_, rfl⟩
  have B1 : Hid (Below w.heap.size w w1) := hid (by rw [hw1]; exact (Below.refl _ _).alloc (Nat.le_refl _) _)
  have hA1 : w1.heap[w.heap.size]? = some (.cells #[.int .i64 r.hot, .int .i64 r.cold, .int .i64 r.long, .int .i64 r.mute, .int .i64 r.cap, .slice ka Kd.length kc, .slice va V.length vc, .bool st] 28 (0, 0)) := by rw [hw1]; exact heap_alloc_new _ _
  have HW1 := hid hw1
  have HWD := hid (world_any bl L st _ w1 (hv.below B1.out) hj)
  have HK0 := hid hk
  have HKJ := hid hkj
  have HV0 := hid hvv
  clear hv hj hk hkj hvv hw1
  go_enter Try.func3, Try.ntmps3
  go_upto_region 1 with fail
  rw [← HW1.out]
  clear HW1
  obtain ⟨A, hA⟩ : ∃ A, A = w.heap.size := ⟨_, rfl⟩
  rw [← hA] at hA1
  rw [← hA]
  have HA1 := hid hA1
  clear hA
  have c7 : w1.cell? ⟨A, 7, none⟩ = some (.bool st) := by rw [cell_of_row _ _ _ _ _ _ hA1]; rfl
  clear hA1
  go_upto_region 2 with (go_at_call 5; refine HWD.out.mono ?_; rintro e w3 ⟨b, wb, mb, n, ov, D, N, X, xb, rv, sv, Yx, rfl, ha, hr, hy, hg, hn, hb, hra, -, -, -⟩; have A0 := hid ha; have R0 := hid hr; have HYX := hid hy; have HG := hid hg; have HN := hid hn; have HGY : Hid (Gd 100 N (Yx.map (·.s))) := hid (by rw [hy]; exact hg); have HA := hid ((hb.block A (lt_of_block HA1.out)).trans HA1.out); have B2 := hid (B1.out.trans (hb.mono B1.out.size)); have HRA : Hid (∀ q, AtR b wb mb q → w.heap.size ≤ q) := hid (fun q hq => Nat.le_trans B1.out.size (hra q hq)); clear ha hr hy hg hn hb hra)
  clear HWD c7 HA1 B1
  have HKV := hid (HK0.out.below B2.out)
  have HVV := hid (HV0.out.below B2.out)
  clear HK0 HV0
  have c6 : w3.cell? ⟨A, 6, none⟩ = some (.slice va V.length vc) := by rw [cell_of_row _ _ _ _ _ _ HA.out]; rfl
  by_cases h30 : (30 : Int) < (V.length : Int)
  · go_wp2_with (go_at_call 6; refine (wlives_any _).mono ?_; rintro e Y3 ⟨rfl, hb6⟩; have B6 := hid (B2.out.trans (hb6.mono B2.out.size)); clear hb6)
    go_ret
    exact ⟨rfl, B6.out⟩
  · go_upto_region 4 with fail
    clear c6 h30
    have HBD : Hid ((100 : Nat) ≤ 1000) := hid (by omega)
    have SB : Hid (∀ Y, Below w3.heap.size w3 Y → Y.rangeAt A 0 [.int .i64 r.hot, .int .i64 r.cold, .int .i64 r.long, .int .i64 r.mute, .int .i64 r.cap] ∧ Y.rangeAt A 0 [.int .i64 r.hot, .int .i64 r.cold, .int .i64 r.long, .int .i64 r.mute, .int .i64 r.cap, .slice ka Kd.length kc, .slice va V.length vc, .bool st] ∧ Y.cell? ⟨A, 6, none⟩ = some (.slice va V.length vc)) := hid fun Y hY => by
      have hA := (hY.block A (lt_of_block HA.out)).trans HA.out
      refine ⟨range_of_row hA 0 _ fun j v hv => ?_, range_of_row hA 0 _ fun j v hv => by rw [Nat.zero_add]; simpa using hv, by rw [cell_of_row _ _ _ _ _ _ hA]; rfl⟩
      match j, hv with
      | 0, hv => exact hv
      | 1, hv => exact hv
      | 2, hv => exact hv
      | 3, hv => exact hv
      | 4, hv => exact hv
    obtain ⟨dR, hdR1, hdR2⟩ := Try.rowRu
    obtain ⟨dK, hdK1, hdK2⟩ := Try.rowKc
    refine wp_region_held_drew (S := fun Y => Y.rangeAt A 0 [.int .i64 r.hot, .int .i64 r.cold, .int .i64 r.long, .int .i64 r.mute, .int .i64 r.cap] ∧ Y.rangeAt A 0 [.int .i64 r.hot, .int .i64 r.cold, .int .i64 r.long, .int .i64 r.mute, .int .i64 r.cap, .slice ka Kd.length kc, .slice va V.length vc, .bool st] ∧ Y.cell? ⟨A, 6, none⟩ = some (.slice va V.length vc)) (by kernel_rfl) (SB.out _ ((Below.refl _ _).drew)) (fun hHeld => ?_)
    obtain ⟨Y, hY⟩ : ∃ Y, Y = w3.drew := ⟨_, rfl⟩
    have BX : Hid (Below w3.heap.size w3 Y) := hid (by rw [hY]; exact (Below.refl _ _).drew)
    rw [← hY] at hHeld ⊢
    clear hY
    refine wpAnyH_take (i := 0) (v := ?aav0) rfl (by kernel_rfl) (by kernel_rfl) (by kernel_rfl) (fun _ _ _ h => h) (Or.inl ⟨by rfl, ?aay0⟩) (by assumption) ?aar0
    case aay0 => (intro w hSw; (try dsimp only at hSw); go_simp; try with_reducible rfl)
    (try simp only [Act.put, putS])
    refine wpAnyH_take (i := 1) (v := ?aav1) rfl (by kernel_rfl) (by kernel_rfl) (by kernel_rfl) (fun _ _ _ h => h) (Or.inl ⟨by rfl, ?aay1⟩) (by assumption) ?aar1
    case aay1 => (intro w hSw; (try dsimp only at hSw); go_simp; try with_reducible rfl)
    (try simp only [Act.put, putS])
    refine wpAnyH_take (i := 2) (v := .agg #[.int .i64 r.hot, .int .i64 r.cold, .int .i64 r.long, .int .i64 r.mute, .int .i64 r.cap]) rfl (by kernel_rfl) (by kernel_rfl) (by kernel_rfl) (fun _ _ _ h => h) (yieldsIf_load_mid rfl _ _ rfl A 0 rfl [.int .i64 r.hot, .int .i64 r.cold, .int .i64 r.long, .int .i64 r.mute, .int .i64 r.cap] dR (fun Y hY => hY.1) hdR1 hdR2 Try.sizeRu) (by assumption) ?_
    (try simp only [Act.put, putS])
    refine wpAnyH_take (i := 3) (v := .agg #[.int .i64 r.hot, .int .i64 r.cold, .int .i64 r.long, .int .i64 r.mute, .int .i64 r.cap, .slice ka Kd.length kc, .slice va V.length vc, .bool st]) rfl (by kernel_rfl) (by kernel_rfl) (by kernel_rfl) (fun _ _ _ h => h) (yieldsIf_load_mid rfl _ _ rfl A 0 rfl [.int .i64 r.hot, .int .i64 r.cold, .int .i64 r.long, .int .i64 r.mute, .int .i64 r.cap, .slice ka Kd.length kc, .slice va V.length vc, .bool st] dK (fun Y hY => hY.2.1) hdK1 hdK2 Try.sizeKc) (by assumption) ?_
    (try simp only [Act.put, putS])
    refine wpAnyH_take (i := 4) (v := ?abv4) rfl (by kernel_rfl) (by kernel_rfl) (by kernel_rfl) (fun _ _ _ h => h) (Or.inl ⟨by rfl, ?aby4⟩) (by assumption) ?abr4
    case aby4 => (intro w hSw; (try dsimp only at hSw); go_simp; try with_reducible rfl)
    (try simp only [Act.put, putS])
    refine wpAnyH_take (i := 6) (v := ?abv6) rfl (by kernel_rfl) (by kernel_rfl) (by kernel_rfl) (fun _ _ _ h => h) (Or.inl ⟨by rfl, ?aby6⟩) (by assumption) ?abr6
    case aby6 => (intro w hSw; (try dsimp only at hSw); go_simp; try with_reducible rfl)
    (try simp only [Act.put, putS])
    refine wpAnyH_take (i := 7) (v := ?abv7) rfl (by kernel_rfl) (by kernel_rfl) (by kernel_rfl) (fun _ _ _ h => h) (Or.inl ⟨by rfl, ?aby7⟩) (by assumption) ?abr7
    case aby7 => (intro w hSw; (try dsimp only at hSw); go_simp; try with_reducible rfl)
    (try simp only [Act.put, putS])
    refine wpAnyH_ready (rs := [5, 12]) (by kernel_rfl) (by simp) ?_
    refine AllReadyH.cons rfl (fun K hK => ?_) (AllReadyH.cons rfl (fun K hK => ?_) AllReadyH.nil)
    · rw [if_pos (by rfl)]
      go_wp2_with fail
      refine (caseOf_any r st Kd _ va V.length vc xb _ rv sv N Yx _ (HKV.out.below BX.out) HKJ.out (R0.out.below BX.out) HGY.out HBD.out).mono ?_
      rintro e Y ⟨ov2, K2, rfl, hk2, hl2, hi2, hb2⟩
      have HK2 := hid hk2
      have HL2 := hid hl2
      have HI2 := hid hi2
      try have HC := hid ((hb2.block PC (lt_of_block HC.out)).trans HC.out)
      have BX := hid (BX.out.trans (hb2.mono BX.out.size))
      clear hk2 hl2 hi2 hb2
      refine hK.out _ _ (SB.out _ BX.out) (fun hHeld => ?_)
      clear hK K
      (try simp only [Act.put, putS])
      refine wpAnyH_ready (rs := [8, 12]) (by kernel_rfl) (by simp) ?_
      refine AllReadyH.cons rfl (fun K hK => ?_) (AllReadyH.cons rfl (fun K hK => ?_) AllReadyH.nil)
      · rw [if_pos (by rfl)]
        go_wp2_with fail
        refine (decide_all b wb mb n _ ov D N X r K2 V _ _ _ (A0.out.below BX.out) HG.out HBD.out (by have := HN.out; omega) HK2.out HI2.out (by have := HL2.out; omega) (HVV.out.below BX.out)).mono ?_
        rintro e Y ⟨⟨k, sh, ot, at', out, in'⟩, ok, rfl, hcj, hk5, hz, hs, hb4⟩
        have HCJ := hid hcj
        have HK5 := hid hk5
        have HZ := hid hz
        have HS := hid hs
        try have HC := hid ((hb4.block PC (lt_of_block HC.out)).trans HC.out)
        have BX := hid (BX.out.trans (hb4.mono BX.out.size))
        clear hcj hk5 hz hs hb4
        unfold chV
        refine hK.out _ _ (SB.out _ BX.out) (fun hHeld => ?_)
        clear hK K
        (try simp only [Act.put, putS])
        refine wpAnyH_take (i := 9) (v := ?acv9) rfl (by kernel_rfl) (by kernel_rfl) (by kernel_rfl) (fun _ _ _ h => h) (Or.inl ⟨by rfl, ?acy9⟩) (by assumption) ?acr9
        case acy9 => (intro w hSw; (try dsimp only at hSw); go_simp; try with_reducible rfl)
        (try simp only [Act.put, putS])
        refine wpAnyH_take (i := 10) (v := ?acv10) rfl (by kernel_rfl) (by kernel_rfl) (by kernel_rfl) (fun _ _ _ h => h) (Or.inl ⟨by rfl, ?acy10⟩) (by assumption) ?acr10
        case acy10 => (intro w hSw; (try dsimp only at hSw); go_simp; try with_reducible rfl)
        (try simp only [Act.put, putS])
        refine wpAnyH_take (i := 11) (v := ?acv11) rfl (by kernel_rfl) (by kernel_rfl) (by kernel_rfl) (fun _ _ _ h => h) (Or.inl ⟨by rfl, ?acy11⟩) (by assumption) ?acr11
        case acy11 => (intro w hSw; (try dsimp only at hSw); go_simp; try with_reducible rfl)
        (try simp only [Act.put, putS])
        refine wpAnyH_ready (rs := [12]) (by kernel_rfl) (by simp) ?_
        refine AllReadyH.cons rfl (fun K hK => ?_) AllReadyH.nil
        rw [if_pos (by rfl)]
        go_simp
        obtain ⟨PC, hPC⟩ : ∃ P, P = Y.heap.size := ⟨_, rfl⟩
        have hb3 : Below Y.heap.size Y (Y.alloc (.cells #[.int .i64 0, .int .i64 0, .int .i64 0, .int .i64 0, .int .i64 0, .int .i64 0] 35)) := (Below.refl _ _).alloc (Nat.le_refl _) _
        have hc3 := heap_alloc_new Y (.cells #[.int .i64 0, .int .i64 0, .int .i64 0, .int .i64 0, .int .i64 0, .int .i64 0] 35)
        have HPL : Hid (w3.heap.size ≤ PC) := hid (by rw [hPC]; exact BX.out.size)
        try have HK2 := hid (HK2.out.below hb3)
        have BX := hid (BX.out.trans (hb3.mono BX.out.size))
        rw [← hPC] at hc3 ⊢
        clear hb3 hPC
        obtain ⟨Y, hY⟩ : ∃ Z, Z = Y.alloc (.cells #[.int .i64 0, .int .i64 0, .int .i64 0, .int .i64 0, .int .i64 0, .int .i64 0] 35) := ⟨_, rfl⟩
        rw [← hY] at hc3 BX ⊢
        try rw [← hY] at HK2
        have HC := hid hc3
        clear hc3 hY
        refine hK.out _ _ (SB.out _ BX.out) (fun hHeld => ?_)
        clear hK K
        (try simp only [Act.put, putS])
        refine wpAnyH_ready (rs := [13]) (by kernel_rfl) (by simp) ?_
        refine AllReadyH.cons rfl (fun K hK => ?_) AllReadyH.nil
        rw [if_pos (by rfl)]
        refine wp_store_row _ _ _ rfl PC #[.int .i64 k, .int .i64 sh, .int .i64 ot, .int .i64 at', .int .i64 out, .int .i64 in'] rfl rfl _ _ HC.out Try.sizeCh rfl (by simp [Value.oneCell']) ?_
        have hc5 := setRow_heap _ _ _ #[.int .i64 k, .int .i64 sh, .int .i64 ot, .int .i64 at', .int .i64 out, .int .i64 in'] _ _ HC.out
        have BX := hid (below_row BX.out HPL.out #[.int .i64 k, .int .i64 sh, .int .i64 ot, .int .i64 at', .int .i64 out, .int .i64 in'])
        obtain ⟨Y, hY⟩ : ∃ Z, Z = Y.setRow PC #[.int .i64 k, .int .i64 sh, .int .i64 ot, .int .i64 at', .int .i64 out, .int .i64 in'] := ⟨_, rfl⟩
        rw [← hY] at hc5 BX ⊢
        have HC := hid hc5
        clear hc5 hY
        refine hK.out _ _ (SB.out _ BX.out) (fun hHeld => ?_)
        clear hK K
        (try simp only [Act.put, putS])
        refine wpAnyH_take (i := 14) (v := ?adv14) rfl (by kernel_rfl) (by kernel_rfl) (by kernel_rfl) (fun _ _ _ h => h) (Or.inl ⟨by rfl, ?ady14⟩) (by assumption) ?adr14
        case ady14 => (intro w hSw; (try dsimp only at hSw); go_simp; try with_reducible rfl)
        (try simp only [Act.put, putS])
        refine wpAnyH_done (by kernel_rfl) ?_ _
        clear SB hHeld HKV HK2 HL2 HI2 HVV
        go_upto_region 7 with (go_at_call 9; refine (alike_any b wb mb n xb ov rv sv D N X Yx Y (A0.out.below BX.out) (ain_of HG.out (by omega)) (R0.out.below BX.out).ra HYX.out).mono ?_; rintro e Y2 ⟨rfl, hb5⟩; have B5 := hid (BX.out.trans (hb5.mono BX.out.size)); have HC5 := hid ((hb5.block PC (lt_of_block HC.out)).trans HC.out); clear hb5)
        have BT := hid (B2.out.trans (B5.out.mono B2.out.size))
        have hR5 : Y2.rangeAt PC 0 [.int .i64 k, .int .i64 sh, .int .i64 ot, .int .i64 at', .int .i64 out, .int .i64 in'] := range_of_row HC5.out 0 _ fun j v hv => by rw [Nat.zero_add]; simpa using hv
        cases ok with
        | false =>
          have hz := HZ.out rfl
          simp only [zCh, ChD.mk.injEq] at hz
          obtain ⟨rfl, rfl, rfl, rfl, rfl, rfl⟩ := hz
          go_wp2_with (first | (refine wpl_loadChG (by rfl) _ rfl PC 0 rfl _ _ _ _ _ _ hR5 ?_) | (go_at_call 6; refine (wlives_any _).mono ?_; rintro e Y3 ⟨rfl, hb6⟩; have B6 := hid (BT.out.trans (hb6.mono BT.out.size)); clear hb6))
          go_ret
          exact ⟨rfl, B6.out⟩
        | true =>
          have HST := hid (HS.out rfl).2.2
          obtain ⟨N', Z', hst⟩ := HST.out
          have HPA := hid (aapply_any b wb mb n 100 ov D N N' X Z' ⟨k, sh, ot, at', out, in'⟩ 0 Y2 (A0.out.below B5.out) HG.out hst HCJ.out (by omega) (by have := HN.out; omega))
          clear hst HST HS HZ
          unfold chV at HPA
          go_wp2_with (first | (refine wpl_loadChG (by rfl) _ rfl PC 0 rfl _ _ _ _ _ _ hR5 ?_) | (go_at_call 10; refine HPA.out.mono ?_; rintro e Y3 ⟨n3, ov3, D3, X3, rfl, -, -, -, ht⟩; have B6 := hid (BT.out.trans (ht.to HRA.out BT.out.size)); clear ht hR5) | (go_at_call 6; refine (wlives_any _).mono ?_; rintro e Y4 ⟨rfl, hb6⟩; have B7 := hid (B6.out.trans (hb6.mono B6.out.size)); clear hb6))
          go_ret
          exact ⟨rfl, B7.out⟩
      · rw [if_pos (by rfl)]
        go_simp
        obtain ⟨PC, hPC⟩ : ∃ P, P = Y.heap.size := ⟨_, rfl⟩
        have hb3 : Below Y.heap.size Y (Y.alloc (.cells #[.int .i64 0, .int .i64 0, .int .i64 0, .int .i64 0, .int .i64 0, .int .i64 0] 35)) := (Below.refl _ _).alloc (Nat.le_refl _) _
        have hc3 := heap_alloc_new Y (.cells #[.int .i64 0, .int .i64 0, .int .i64 0, .int .i64 0, .int .i64 0, .int .i64 0] 35)
        have HPL : Hid (w3.heap.size ≤ PC) := hid (by rw [hPC]; exact BX.out.size)
        try have HK2 := hid (HK2.out.below hb3)
        have BX := hid (BX.out.trans (hb3.mono BX.out.size))
        rw [← hPC] at hc3 ⊢
        clear hb3 hPC
        obtain ⟨Y, hY⟩ : ∃ Z, Z = Y.alloc (.cells #[.int .i64 0, .int .i64 0, .int .i64 0, .int .i64 0, .int .i64 0, .int .i64 0] 35) := ⟨_, rfl⟩
        rw [← hY] at hc3 BX ⊢
        try rw [← hY] at HK2
        have HC := hid hc3
        clear hc3 hY
        refine hK.out _ _ (SB.out _ BX.out) (fun hHeld => ?_)
        clear hK K
        (try simp only [Act.put, putS])
        refine wpAnyH_ready (rs := [8]) (by kernel_rfl) (by simp) ?_
        refine AllReadyH.cons rfl (fun K hK => ?_) AllReadyH.nil
        rw [if_pos (by rfl)]
        go_wp2_with fail
        refine (decide_all b wb mb n _ ov D N X r K2 V _ _ _ (A0.out.below BX.out) HG.out HBD.out (by have := HN.out; omega) HK2.out HI2.out (by have := HL2.out; omega) (HVV.out.below BX.out)).mono ?_
        rintro e Y ⟨⟨k, sh, ot, at', out, in'⟩, ok, rfl, hcj, hk5, hz, hs, hb4⟩
        have HCJ := hid hcj
        have HK5 := hid hk5
        have HZ := hid hz
        have HS := hid hs
        try have HC := hid ((hb4.block PC (lt_of_block HC.out)).trans HC.out)
        have BX := hid (BX.out.trans (hb4.mono BX.out.size))
        clear hcj hk5 hz hs hb4
        unfold chV
        refine hK.out _ _ (SB.out _ BX.out) (fun hHeld => ?_)
        clear hK K
        (try simp only [Act.put, putS])
        refine wpAnyH_take (i := 9) (v := ?aev9) rfl (by kernel_rfl) (by kernel_rfl) (by kernel_rfl) (fun _ _ _ h => h) (Or.inl ⟨by rfl, ?aey9⟩) (by assumption) ?aer9
        case aey9 => (intro w hSw; (try dsimp only at hSw); go_simp; try with_reducible rfl)
        (try simp only [Act.put, putS])
        refine wpAnyH_take (i := 10) (v := ?aev10) rfl (by kernel_rfl) (by kernel_rfl) (by kernel_rfl) (fun _ _ _ h => h) (Or.inl ⟨by rfl, ?aey10⟩) (by assumption) ?aer10
        case aey10 => (intro w hSw; (try dsimp only at hSw); go_simp; try with_reducible rfl)
        (try simp only [Act.put, putS])
        refine wpAnyH_take (i := 11) (v := ?aev11) rfl (by kernel_rfl) (by kernel_rfl) (by kernel_rfl) (fun _ _ _ h => h) (Or.inl ⟨by rfl, ?aey11⟩) (by assumption) ?aer11
        case aey11 => (intro w hSw; (try dsimp only at hSw); go_simp; try with_reducible rfl)
        (try simp only [Act.put, putS])
        refine wpAnyH_ready (rs := [13]) (by kernel_rfl) (by simp) ?_
        refine AllReadyH.cons rfl (fun K hK => ?_) AllReadyH.nil
        rw [if_pos (by rfl)]
        refine wp_store_row _ _ _ rfl PC #[.int .i64 k, .int .i64 sh, .int .i64 ot, .int .i64 at', .int .i64 out, .int .i64 in'] rfl rfl _ _ HC.out Try.sizeCh rfl (by simp [Value.oneCell']) ?_
        have hc5 := setRow_heap _ _ _ #[.int .i64 k, .int .i64 sh, .int .i64 ot, .int .i64 at', .int .i64 out, .int .i64 in'] _ _ HC.out
        have BX := hid (below_row BX.out HPL.out #[.int .i64 k, .int .i64 sh, .int .i64 ot, .int .i64 at', .int .i64 out, .int .i64 in'])
        obtain ⟨Y, hY⟩ : ∃ Z, Z = Y.setRow PC #[.int .i64 k, .int .i64 sh, .int .i64 ot, .int .i64 at', .int .i64 out, .int .i64 in'] := ⟨_, rfl⟩
        rw [← hY] at hc5 BX ⊢
        have HC := hid hc5
        clear hc5 hY
        refine hK.out _ _ (SB.out _ BX.out) (fun hHeld => ?_)
        clear hK K
        (try simp only [Act.put, putS])
        refine wpAnyH_take (i := 14) (v := ?afv14) rfl (by kernel_rfl) (by kernel_rfl) (by kernel_rfl) (fun _ _ _ h => h) (Or.inl ⟨by rfl, ?afy14⟩) (by assumption) ?afr14
        case afy14 => (intro w hSw; (try dsimp only at hSw); go_simp; try with_reducible rfl)
        (try simp only [Act.put, putS])
        refine wpAnyH_done (by kernel_rfl) ?_ _
        clear SB hHeld HKV HK2 HL2 HI2 HVV
        go_upto_region 7 with (go_at_call 9; refine (alike_any b wb mb n xb ov rv sv D N X Yx Y (A0.out.below BX.out) (ain_of HG.out (by omega)) (R0.out.below BX.out).ra HYX.out).mono ?_; rintro e Y2 ⟨rfl, hb5⟩; have B5 := hid (BX.out.trans (hb5.mono BX.out.size)); have HC5 := hid ((hb5.block PC (lt_of_block HC.out)).trans HC.out); clear hb5)
        have BT := hid (B2.out.trans (B5.out.mono B2.out.size))
        have hR5 : Y2.rangeAt PC 0 [.int .i64 k, .int .i64 sh, .int .i64 ot, .int .i64 at', .int .i64 out, .int .i64 in'] := range_of_row HC5.out 0 _ fun j v hv => by rw [Nat.zero_add]; simpa using hv
        cases ok with
        | false =>
          have hz := HZ.out rfl
          simp only [zCh, ChD.mk.injEq] at hz
          obtain ⟨rfl, rfl, rfl, rfl, rfl, rfl⟩ := hz
          go_wp2_with (first | (refine wpl_loadChG (by rfl) _ rfl PC 0 rfl _ _ _ _ _ _ hR5 ?_) | (go_at_call 6; refine (wlives_any _).mono ?_; rintro e Y3 ⟨rfl, hb6⟩; have B6 := hid (BT.out.trans (hb6.mono BT.out.size)); clear hb6))
          go_ret
          exact ⟨rfl, B6.out⟩
        | true =>
          have HST := hid (HS.out rfl).2.2
          obtain ⟨N', Z', hst⟩ := HST.out
          have HPA := hid (aapply_any b wb mb n 100 ov D N N' X Z' ⟨k, sh, ot, at', out, in'⟩ 0 Y2 (A0.out.below B5.out) HG.out hst HCJ.out (by omega) (by have := HN.out; omega))
          clear hst HST HS HZ
          unfold chV at HPA
          go_wp2_with (first | (refine wpl_loadChG (by rfl) _ rfl PC 0 rfl _ _ _ _ _ _ hR5 ?_) | (go_at_call 10; refine HPA.out.mono ?_; rintro e Y3 ⟨n3, ov3, D3, X3, rfl, -, -, -, ht⟩; have B6 := hid (BT.out.trans (ht.to HRA.out BT.out.size)); clear ht hR5) | (go_at_call 6; refine (wlives_any _).mono ?_; rintro e Y4 ⟨rfl, hb6⟩; have B7 := hid (B6.out.trans (hb6.mono B6.out.size)); clear hb6))
          go_ret
          exact ⟨rfl, B7.out⟩
    · rw [if_pos (by rfl)]
      go_simp
      obtain ⟨PC, hPC⟩ : ∃ P, P = Y.heap.size := ⟨_, rfl⟩
      have hb3 : Below Y.heap.size Y (Y.alloc (.cells #[.int .i64 0, .int .i64 0, .int .i64 0, .int .i64 0, .int .i64 0, .int .i64 0] 35)) := (Below.refl _ _).alloc (Nat.le_refl _) _
      have hc3 := heap_alloc_new Y (.cells #[.int .i64 0, .int .i64 0, .int .i64 0, .int .i64 0, .int .i64 0, .int .i64 0] 35)
      have HPL : Hid (w3.heap.size ≤ PC) := hid (by rw [hPC]; exact BX.out.size)
      try have HK2 := hid (HK2.out.below hb3)
      have BX := hid (BX.out.trans (hb3.mono BX.out.size))
      rw [← hPC] at hc3 ⊢
      clear hb3 hPC
      obtain ⟨Y, hY⟩ : ∃ Z, Z = Y.alloc (.cells #[.int .i64 0, .int .i64 0, .int .i64 0, .int .i64 0, .int .i64 0, .int .i64 0] 35) := ⟨_, rfl⟩
      rw [← hY] at hc3 BX ⊢
      try rw [← hY] at HK2
      have HC := hid hc3
      clear hc3 hY
      refine hK.out _ _ (SB.out _ BX.out) (fun hHeld => ?_)
      clear hK K
      (try simp only [Act.put, putS])
      refine wpAnyH_ready (rs := [5]) (by kernel_rfl) (by simp) ?_
      refine AllReadyH.cons rfl (fun K hK => ?_) AllReadyH.nil
      rw [if_pos (by rfl)]
      go_wp2_with fail
      refine (caseOf_any r st Kd _ va V.length vc xb _ rv sv N Yx _ (HKV.out.below BX.out) HKJ.out (R0.out.below BX.out) HGY.out HBD.out).mono ?_
      rintro e Y ⟨ov2, K2, rfl, hk2, hl2, hi2, hb2⟩
      have HK2 := hid hk2
      have HL2 := hid hl2
      have HI2 := hid hi2
      try have HC := hid ((hb2.block PC (lt_of_block HC.out)).trans HC.out)
      have BX := hid (BX.out.trans (hb2.mono BX.out.size))
      clear hk2 hl2 hi2 hb2
      refine hK.out _ _ (SB.out _ BX.out) (fun hHeld => ?_)
      clear hK K
      (try simp only [Act.put, putS])
      refine wpAnyH_ready (rs := [8]) (by kernel_rfl) (by simp) ?_
      refine AllReadyH.cons rfl (fun K hK => ?_) AllReadyH.nil
      rw [if_pos (by rfl)]
      go_wp2_with fail
      refine (decide_all b wb mb n _ ov D N X r K2 V _ _ _ (A0.out.below BX.out) HG.out HBD.out (by have := HN.out; omega) HK2.out HI2.out (by have := HL2.out; omega) (HVV.out.below BX.out)).mono ?_
      rintro e Y ⟨⟨k, sh, ot, at', out, in'⟩, ok, rfl, hcj, hk5, hz, hs, hb4⟩
      have HCJ := hid hcj
      have HK5 := hid hk5
      have HZ := hid hz
      have HS := hid hs
      try have HC := hid ((hb4.block PC (lt_of_block HC.out)).trans HC.out)
      have BX := hid (BX.out.trans (hb4.mono BX.out.size))
      clear hcj hk5 hz hs hb4
      unfold chV
      refine hK.out _ _ (SB.out _ BX.out) (fun hHeld => ?_)
      clear hK K
      (try simp only [Act.put, putS])
      refine wpAnyH_take (i := 9) (v := ?agv9) rfl (by kernel_rfl) (by kernel_rfl) (by kernel_rfl) (fun _ _ _ h => h) (Or.inl ⟨by rfl, ?agy9⟩) (by assumption) ?agr9
      case agy9 => (intro w hSw; (try dsimp only at hSw); go_simp; try with_reducible rfl)
      (try simp only [Act.put, putS])
      refine wpAnyH_take (i := 10) (v := ?agv10) rfl (by kernel_rfl) (by kernel_rfl) (by kernel_rfl) (fun _ _ _ h => h) (Or.inl ⟨by rfl, ?agy10⟩) (by assumption) ?agr10
      case agy10 => (intro w hSw; (try dsimp only at hSw); go_simp; try with_reducible rfl)
      (try simp only [Act.put, putS])
      refine wpAnyH_take (i := 11) (v := ?agv11) rfl (by kernel_rfl) (by kernel_rfl) (by kernel_rfl) (fun _ _ _ h => h) (Or.inl ⟨by rfl, ?agy11⟩) (by assumption) ?agr11
      case agy11 => (intro w hSw; (try dsimp only at hSw); go_simp; try with_reducible rfl)
      (try simp only [Act.put, putS])
      refine wpAnyH_ready (rs := [13]) (by kernel_rfl) (by simp) ?_
      refine AllReadyH.cons rfl (fun K hK => ?_) AllReadyH.nil
      rw [if_pos (by rfl)]
      refine wp_store_row _ _ _ rfl PC #[.int .i64 k, .int .i64 sh, .int .i64 ot, .int .i64 at', .int .i64 out, .int .i64 in'] rfl rfl _ _ HC.out Try.sizeCh rfl (by simp [Value.oneCell']) ?_
      have hc5 := setRow_heap _ _ _ #[.int .i64 k, .int .i64 sh, .int .i64 ot, .int .i64 at', .int .i64 out, .int .i64 in'] _ _ HC.out
      have BX := hid (below_row BX.out HPL.out #[.int .i64 k, .int .i64 sh, .int .i64 ot, .int .i64 at', .int .i64 out, .int .i64 in'])
      obtain ⟨Y, hY⟩ : ∃ Z, Z = Y.setRow PC #[.int .i64 k, .int .i64 sh, .int .i64 ot, .int .i64 at', .int .i64 out, .int .i64 in'] := ⟨_, rfl⟩
      rw [← hY] at hc5 BX ⊢
      have HC := hid hc5
      clear hc5 hY
      refine hK.out _ _ (SB.out _ BX.out) (fun hHeld => ?_)
      clear hK K
      (try simp only [Act.put, putS])
      refine wpAnyH_take (i := 14) (v := ?ahv14) rfl (by kernel_rfl) (by kernel_rfl) (by kernel_rfl) (fun _ _ _ h => h) (Or.inl ⟨by rfl, ?ahy14⟩) (by assumption) ?ahr14
      case ahy14 => (intro w hSw; (try dsimp only at hSw); go_simp; try with_reducible rfl)
      (try simp only [Act.put, putS])
      refine wpAnyH_done (by kernel_rfl) ?_ _
      clear SB hHeld HKV HK2 HL2 HI2 HVV
      go_upto_region 7 with (go_at_call 9; refine (alike_any b wb mb n xb ov rv sv D N X Yx Y (A0.out.below BX.out) (ain_of HG.out (by omega)) (R0.out.below BX.out).ra HYX.out).mono ?_; rintro e Y2 ⟨rfl, hb5⟩; have B5 := hid (BX.out.trans (hb5.mono BX.out.size)); have HC5 := hid ((hb5.block PC (lt_of_block HC.out)).trans HC.out); clear hb5)
      have BT := hid (B2.out.trans (B5.out.mono B2.out.size))
      have hR5 : Y2.rangeAt PC 0 [.int .i64 k, .int .i64 sh, .int .i64 ot, .int .i64 at', .int .i64 out, .int .i64 in'] := range_of_row HC5.out 0 _ fun j v hv => by rw [Nat.zero_add]; simpa using hv
      cases ok with
      | false =>
        have hz := HZ.out rfl
        simp only [zCh, ChD.mk.injEq] at hz
        obtain ⟨rfl, rfl, rfl, rfl, rfl, rfl⟩ := hz
        go_wp2_with (first | (refine wpl_loadChG (by rfl) _ rfl PC 0 rfl _ _ _ _ _ _ hR5 ?_) | (go_at_call 6; refine (wlives_any _).mono ?_; rintro e Y3 ⟨rfl, hb6⟩; have B6 := hid (BT.out.trans (hb6.mono BT.out.size)); clear hb6))
        go_ret
        exact ⟨rfl, B6.out⟩
      | true =>
        have HST := hid (HS.out rfl).2.2
        obtain ⟨N', Z', hst⟩ := HST.out
        have HPA := hid (aapply_any b wb mb n 100 ov D N N' X Z' ⟨k, sh, ot, at', out, in'⟩ 0 Y2 (A0.out.below B5.out) HG.out hst HCJ.out (by omega) (by have := HN.out; omega))
        clear hst HST HS HZ
        unfold chV at HPA
        go_wp2_with (first | (refine wpl_loadChG (by rfl) _ rfl PC 0 rfl _ _ _ _ _ _ hR5 ?_) | (go_at_call 10; refine HPA.out.mono ?_; rintro e Y3 ⟨n3, ov3, D3, X3, rfl, -, -, -, ht⟩; have B6 := hid (BT.out.trans (ht.to HRA.out BT.out.size)); clear ht hR5) | (go_at_call 6; refine (wlives_any _).mono ?_; rintro e Y4 ⟨rfl, hb6⟩; have B7 := hid (B6.out.trans (hb6.mono B6.out.size)); clear hb6))
        go_ret
        exact ⟨rfl, B7.out⟩
end Go.Proofs.Ytkggeiljalfcpaa
namespace Go.Proofs.Ytkggeiljalfcpaa
open Go.ChangeShapes Go.WideShapes Go.ChangeAt Go.RowKit Go.Deep
set_option maxRecDepth 100000

variable {H : Type} {enc : TypeId × Value → H} {w : World} {base : Nat} {spare : Nat → Bool} {held : Bool}

theorem Try.cellsI : Try.prog.cellsOf 3 = 1 := by kernel_rfl
theorem int_of {n : Nat} {v0 : Value} {y0 : DataW H × List MemPlace} (h0 : DataW.trod enc Try.prog w base spare held n 3 [v0] = some y0) : ∃ x : Int, v0 = .int .i64 x ∧ I64 x := by
  obtain ⟨a0, e0, rfl, w0⟩ := DataW.trod_int Try.underlying3 h0
  simp at e0
  subst e0
  have s0 : -9223372036854775808 ≤ a0 ∧ a0 ≤ 9223372036854775807 := by simpa [Lit.wf, IntKind.min, IntKind.max, IntKind.signed, IntKind.bits] using w0
  exact ⟨a0, rfl, s0⟩
/-- A slice of numbers that came in. -/
theorem nums_of {n : Nat} {v : Value} {y : DataW H × List MemPlace} (h : DataW.trod enc Try.prog w base spare held n 26 [v] = some y) : ∃ l, Nums w v l ∧ ∀ x ∈ l, I64 x := by
  rcases DataW.trod_slice Try.underlying26 h with ⟨hcs, _⟩ | ⟨a, len, cap, elems, rest, n', _, hcs, _, hb, hl, hm, hlen, hel, _, _⟩
  · simp at hcs
    subst hcs
    exact ⟨[], ⟨none, 0, 0, rfl, rfl, Nat.le_refl _, by omega, (fun _ => rfl), (fun ad h => by cases h)⟩, by simp⟩
  · simp at hcs
    subst hcs
    have each : ∀ i, i < len → ∃ q : Int, w.cell? (a.add i) = some (.int .i64 q) ∧ I64 q := by
      intro i hi
      have h1 := hel i hi
      rw [List.getElem?_eq_getElem (by omega), Try.cellsI] at h1
      obtain ⟨cs, h2, h3⟩ := Option.bind_eq_some_iff.1 h1
      obtain ⟨_, hcl, hcell⟩ := World.cells?_some h2
      match cs, hcl with
      | [v0], _ =>
        obtain ⟨x, rfl, hx⟩ := int_of h3
        have e0 := hcell 0 (by omega)
        rw [Addr.add_add] at e0
        exact ⟨x, by simpa using e0, hx⟩
    obtain ⟨q, hq⟩ := choose_lt each
    refine ⟨(List.range len).map q, ⟨some a, len, cap, rfl, by simp, hl, by unfold maxLen at hm; omega, (fun h => by cases h), fun ad had j hj => ?_⟩, ?_⟩
    · obtain rfl := Option.some.inj had
      have hj' : j < len := by simpa using hj
      simp only [List.getElem_map, List.getElem_range]
      exact (hq j hj').1
    · intro x hx
      simp only [List.mem_map, List.mem_range] at hx
      obtain ⟨i, hi, rfl⟩ := hx
      exact (hq i hi).2
end Go.Proofs.Ytkggeiljalfcpaa
namespace Go.Proofs.Ytkggeiljalfcpaa
open Go.ChangeShapes Go.WideShapes Go.ChangeAt Go.RowKit Go.Deep
set_option maxRecDepth 100000

variable {H : Type} {enc : TypeId × Value → H} {w : World} {base : Nat} {spare : Nat → Bool} {held : Bool}
theorem Try.cellsCh : Try.prog.cellsOf 35 = 6 := by kernel_rfl
theorem ch6_of {n : Nat} {v0 v1 v2 v3 v4 v5 : Value} {y : DataW H × List MemPlace} (h : DataW.trod enc Try.prog w base spare held n 35 [v0, v1, v2, v3, v4, v5] = some y) : ∃ c : ChD, v0 = .int .i64 c.k ∧ v1 = .int .i64 c.sh ∧ v2 = .int .i64 c.ot ∧ v3 = .int .i64 c.at' ∧ v4 = .int .i64 c.out ∧ v5 = .int .i64 c.in' ∧ ChJ c := by
  obtain ⟨xs, k, hk, hxy, _, hxl, hf⟩ := DataW.trod_struct Try.underlying35 h
  match xs, hxl with
  | [y0, y1, y2, y3, y4, y5], _ =>
    have g0 := hf 0 _ rfl
    have g1 := hf 1 _ rfl
    have g2 := hf 2 _ rfl
    have g3 := hf 3 _ rfl
    have g4 := hf 4 _ rfl
    have g5 := hf 5 _ rfl
    simp [Try.cellsI] at g0 g1 g2 g3 g4 g5
    obtain ⟨x0, rfl, i0⟩ := int_of g0
    obtain ⟨x1, rfl, i1⟩ := int_of g1
    obtain ⟨x2, rfl, i2⟩ := int_of g2
    obtain ⟨x3, rfl, i3⟩ := int_of g3
    obtain ⟨x4, rfl, i4⟩ := int_of g4
    obtain ⟨x5, rfl, i5⟩ := int_of g5
    refine ⟨⟨x0, x1, x2, x3, x4, x5⟩, rfl, rfl, rfl, rfl, rfl, rfl, ?_⟩
    intro x hx
    simp only [numC, List.mem_cons, List.not_mem_nil, or_false] at hx
    rcases hx with rfl | rfl | rfl | rfl | rfl | rfl <;> assumption
/-- A change by value. -/
theorem ch_of {r : Reach} {b0 : Nat} {v : Value} {d : DataW H} {p : List MemPlace} (hv : Value.okWide Try.prog w r b0 35 v) (h : DataW.Trod enc Try.prog w base spare held 35 v d p) : ∃ c : ChD, v = chV c ∧ ChJ c := by
  simp only [Value.okWide, Try.underlying35] at hv
  obtain ⟨cs, rfl, h2, -⟩ := hv
  rw [Try.cellsCh] at h2
  obtain ⟨l⟩ := cs
  obtain ⟨fuel, hf⟩ := h
  match l, h2 with
  | [c0, c1, c2, c3, c4, c5], _ =>
    obtain ⟨c, rfl, rfl, rfl, rfl, rfl, rfl, hj⟩ := ch6_of hf
    exact ⟨c, rfl, hj⟩
end Go.Proofs.Ytkggeiljalfcpaa
namespace Go.Proofs.Ytkggeiljalfcpaa
open Go.ChangeShapes Go.WideShapes Go.ChangeAt Go.RowKit Go.Deep
set_option maxRecDepth 100000
set_option linter.unusedVariables false

variable {H : Type} {enc : TypeId × Value → H} {w : World} {base : Nat} {spare : Nat → Bool} {held : Bool}
theorem Try.cellsBs : Try.prog.cellsOf 4 = 1 := by kernel_rfl
theorem Try.cellsSt : Try.prog.cellsOf 51 = 7 := by kernel_rfl
theorem choose_ltT {α : Type} [Inhabited α] {n : Nat} {P : Nat → α → Prop} (h : ∀ i, i < n → ∃ x, P i x) : ∃ f : Nat → α, ∀ i, i < n → P i (f i) :=
  Classical.axiomOfChoice (r := fun i x => i < n → P i x) fun i => by
    by_cases hi : i < n
    · obtain ⟨x, hx⟩ := h i hi; exact ⟨x, fun _ => hx⟩
    · exact ⟨default, fun hh => absurd hh hi⟩
theorem st7_of {n : Nat} {v0 v1 v2 v3 v4 v5 v6 : Value} {y : DataW H × List MemPlace} (h : DataW.trod enc Try.prog w base spare held n 51 [v0, v1, v2, v3, v4, v5, v6] = some y) : ∃ (c : ChD) (nr : Bool), v0 = .int .i64 c.k ∧ v1 = .int .i64 c.sh ∧ v2 = .int .i64 c.ot ∧ v3 = .int .i64 c.at' ∧ v4 = .int .i64 c.out ∧ v5 = .int .i64 c.in' ∧ v6 = .bool nr ∧ ChJ c := by
  obtain ⟨xs, k, hk, hxy, _, hxl, hf⟩ := DataW.trod_struct Try.underlying51 h
  match xs, hxl with
  | [y0, y1], _ =>
    have g0 := hf 0 _ rfl
    have g1 := hf 1 _ rfl
    simp [Try.cellsCh, Try.cellsBs] at g0 g1
    obtain ⟨c, e0, e1, e2, e3, e4, e5, hj⟩ := ch6_of g0
    obtain ⟨nr, hb, _⟩ := DataW.trod_bool Try.underlying4 g1
    exact ⟨c, nr, e0, e1, e2, e3, e4, e5, by simpa using hb, hj⟩
/-- A step by value. -/
theorem st_of {r : Reach} {b0 : Nat} {v : Value} {d : DataW H} {p : List MemPlace} (hv : Value.okWide Try.prog w r b0 51 v) (h : DataW.Trod enc Try.prog w base spare held 51 v d p) : ∃ x : ChD × Bool, v = .agg (stC x).toArray ∧ ChJ x.1 := by
  simp only [Value.okWide, Try.underlying51] at hv
  obtain ⟨cs, rfl, h2, -⟩ := hv
  rw [Try.cellsSt] at h2
  obtain ⟨l⟩ := cs
  obtain ⟨fuel, hf⟩ := h
  match l, h2 with
  | [c0, c1, c2, c3, c4, c5, c6], _ =>
    obtain ⟨c, nr, rfl, rfl, rfl, rfl, rfl, rfl, rfl, hj⟩ := st7_of hf
    exact ⟨(c, nr), rfl, hj⟩
/-- A slice of steps that came in. -/
theorem stps_of {n : Nat} {v : Value} {y : DataW H × List MemPlace} (h : DataW.trod enc Try.prog w base spare held n 22 [v] = some y) : ∃ l, Stps w v l ∧ ∀ x ∈ l, ChJ x.1 := by
  rcases DataW.trod_slice Try.underlying22 h with ⟨hcs, _⟩ | ⟨a, len, cap, elems, rest, n', _, hcs, _, hb, hl, hm, hlen, hel, _, _⟩
  · simp at hcs
    subst hcs
    exact ⟨[], ⟨none, 0, 0, rfl, rfl, Nat.le_refl _, by omega, (fun _ => rfl), (fun ad h => by cases h)⟩, by simp⟩
  · simp at hcs
    subst hcs
    have each : ∀ i, i < len → ∃ q : ChD × Bool, (∀ k u, (stC q)[k]? = some u → w.cell? (a.add (i * 7 + k)) = some u) ∧ ChJ q.1 := by
      intro i hi
      have h1 := hel i hi
      rw [List.getElem?_eq_getElem (by omega), Try.cellsSt] at h1
      obtain ⟨cs, h2, h3⟩ := Option.bind_eq_some_iff.1 h1
      obtain ⟨_, hcl, hcell⟩ := World.cells?_some h2
      match cs, hcl with
      | [v0, v1, v2, v3, v4, v5, v6], _ =>
        obtain ⟨c, nr, rfl, rfl, rfl, rfl, rfl, rfl, rfl, hj⟩ := st7_of h3
        refine ⟨(c, nr), fun k u hk => ?_, hj⟩
        have hk7 : k < 7 := (List.getElem?_eq_some_iff.1 hk).1
        have e := hcell k (by simpa using hk7)
        rw [Addr.add_add] at e
        rw [e]
        have : (stC (c, nr))[k]? = _ := hk
        unfold stC at this
        simpa using this
    haveI : Inhabited (ChD × Bool) := ⟨(⟨0, 0, 0, 0, 0, 0⟩, false)⟩
    obtain ⟨q, hq⟩ := choose_ltT each
    refine ⟨(List.range len).map q, ⟨some a, len, cap, rfl, by simp, hl, by unfold maxLen at hm; omega, (fun h => by cases h), fun ad had j hj => ?_⟩, ?_⟩
    · obtain rfl := Option.some.inj had
      have hj' : j < len := by simpa using hj
      simp only [List.getElem_map, List.getElem_range]
      exact (hq j hj').1
    · intro x hx
      simp only [List.mem_map, List.mem_range] at hx
      obtain ⟨i, hi, rfl⟩ := hx
      exact (hq i hi).2
end Go.Proofs.Ytkggeiljalfcpaa
namespace Go.Proofs.Ytkggeiljalfcpaa
open Go.ChangeShapes Go.WideShapes Go.ChangeAt Go.RowKit Go.Deep
set_option maxRecDepth 100000

variable {H : Type} {enc : TypeId × Value → H} {w : World} {base : Nat} {spare : Nat → Bool} {held : Bool}
theorem Try.cellsRu : Try.prog.cellsOf 24 = 5 := by kernel_rfl
def RuJ (r : RuD) : Prop := ∀ x ∈ ruL r, I64 x
theorem ru5_of {n : Nat} {v0 v1 v2 v3 v4 : Value} {y : DataW H × List MemPlace} (h : DataW.trod enc Try.prog w base spare held n 24 [v0, v1, v2, v3, v4] = some y) : ∃ c : RuD, v0 = .int .i64 c.hot ∧ v1 = .int .i64 c.cold ∧ v2 = .int .i64 c.long ∧ v3 = .int .i64 c.mute ∧ v4 = .int .i64 c.cap ∧ RuJ c := by
  obtain ⟨xs, k, hk, hxy, _, hxl, hf⟩ := DataW.trod_struct Try.underlying24 h
  match xs, hxl with
  | [y0, y1, y2, y3, y4], _ =>
    have g0 := hf 0 _ rfl
    have g1 := hf 1 _ rfl
    have g2 := hf 2 _ rfl
    have g3 := hf 3 _ rfl
    have g4 := hf 4 _ rfl
    simp [Try.cellsI] at g0 g1 g2 g3 g4
    obtain ⟨x0, rfl, i0⟩ := int_of g0
    obtain ⟨x1, rfl, i1⟩ := int_of g1
    obtain ⟨x2, rfl, i2⟩ := int_of g2
    obtain ⟨x3, rfl, i3⟩ := int_of g3
    obtain ⟨x4, rfl, i4⟩ := int_of g4
    refine ⟨⟨x0, x1, x2, x3, x4⟩, rfl, rfl, rfl, rfl, rfl, ?_⟩
    intro x hx
    simp only [ruL, List.mem_cons, List.not_mem_nil, or_false] at hx
    rcases hx with rfl | rfl | rfl | rfl | rfl <;> assumption
/-- Rules by value. -/
theorem ru_of {r : Reach} {b0 : Nat} {v : Value} {d : DataW H} {p : List MemPlace} (hv : Value.okWide Try.prog w r b0 24 v) (h : DataW.Trod enc Try.prog w base spare held 24 v d p) : ∃ c : RuD, v = ruV c ∧ RuJ c := by
  simp only [Value.okWide, Try.underlying24] at hv
  obtain ⟨cs, rfl, h2, -⟩ := hv
  rw [Try.cellsRu] at h2
  obtain ⟨l⟩ := cs
  obtain ⟨fuel, hf⟩ := h
  match l, h2 with
  | [c0, c1, c2, c3, c4], _ =>
    obtain ⟨c, rfl, rfl, rfl, rfl, rfl, hj⟩ := ru5_of hf
    exact ⟨c, rfl, hj⟩
end Go.Proofs.Ytkggeiljalfcpaa
namespace Go.Proofs.Ytkggeiljalfcpaa
open Go.ChangeShapes Go.WideShapes Go.ChangeAt Go.RowKit Go.Deep
set_option maxRecDepth 100000
set_option linter.unusedVariables false

variable {H : Type} {enc : TypeId × Value → H} {w : World} {base : Nat} {spare : Nat → Bool} {held : Bool}
theorem Try.cellsLo : Try.prog.cellsOf 54 = 4 := by kernel_rfl
theorem Try.cellsKc : Try.prog.cellsOf 28 = 8 := by kernel_rfl
theorem Try.cellsBk : Try.prog.cellsOf 4 = 1 := by kernel_rfl
theorem Try.cellsLs : Try.prog.cellsOf 25 = 1 := by kernel_rfl
theorem Try.cellsIs : Try.prog.cellsOf 26 = 1 := by kernel_rfl
theorem choose_ltK {α : Type} [Inhabited α] {n : Nat} {P : Nat → α → Prop} (h : ∀ i, i < n → ∃ x, P i x) : ∃ f : Nat → α, ∀ i, i < n → P i (f i) :=
  Classical.axiomOfChoice (r := fun i x => i < n → P i x) fun i => by
    by_cases hi : i < n
    · obtain ⟨x, hx⟩ := h i hi; exact ⟨x, fun _ => hx⟩
    · exact ⟨default, fun hh => absurd hh hi⟩
theorem lo4_of {n : Nat} {v0 v1 v2 v3 : Value} {y : DataW H × List MemPlace} (h : DataW.trod enc Try.prog w base spare held n 54 [v0, v1, v2, v3] = some y) : ∃ l : LoD, v0 = .int .i64 l.sh ∧ v1 = .int .i64 l.cm ∧ v2 = .int .i64 l.ins ∧ v3 = .int .i64 l.mid ∧ LoJ l := by
  obtain ⟨xs, k, hk, hxy, _, hxl, hf⟩ := DataW.trod_struct Try.underlying54 h
  match xs, hxl with
  | [y0, y1, y2, y3], _ =>
    have g0 := hf 0 _ rfl
    have g1 := hf 1 _ rfl
    have g2 := hf 2 _ rfl
    have g3 := hf 3 _ rfl
    simp [Try.cellsI] at g0 g1 g2 g3
    obtain ⟨x0, rfl, i0⟩ := int_of g0
    obtain ⟨x1, rfl, i1⟩ := int_of g1
    obtain ⟨x2, rfl, i2⟩ := int_of g2
    obtain ⟨x3, rfl, i3⟩ := int_of g3
    exact ⟨⟨x0, x1, x2, x3⟩, rfl, rfl, rfl, rfl, i0, i1, i2, i3⟩
/-- A slice of loads that came in. -/
theorem lds_of {n : Nat} {v : Value} {y : DataW H × List MemPlace} (h : DataW.trod enc Try.prog w base spare held n 25 [v] = some y) : ∃ l, Lds w v l ∧ ∀ x ∈ l, LoJ x := by
  rcases DataW.trod_slice Try.underlying25 h with ⟨hcs, _⟩ | ⟨a, len, cap, elems, rest, n', _, hcs, _, hb, hl, hm, hlen, hel, _, _⟩
  · simp at hcs
    subst hcs
    exact ⟨[], Lds.nil _, by simp⟩
  · simp at hcs
    subst hcs
    have each : ∀ i, i < len → ∃ q : LoD, (∀ k u, q.c[k]? = some u → w.cell? (a.add (i * 4 + k)) = some u) ∧ LoJ q := by
      intro i hi
      have h1 := hel i hi
      rw [List.getElem?_eq_getElem (by omega), Try.cellsLo] at h1
      obtain ⟨cs, h2, h3⟩ := Option.bind_eq_some_iff.1 h1
      obtain ⟨_, hcl, hcell⟩ := World.cells?_some h2
      match cs, hcl with
      | [v0, v1, v2, v3], _ =>
        obtain ⟨c, rfl, rfl, rfl, rfl, hj⟩ := lo4_of h3
        refine ⟨c, fun k u hk => ?_, hj⟩
        have hk4 : k < 4 := (List.getElem?_eq_some_iff.1 hk).1
        have e := hcell k (by simpa using hk4)
        rw [Addr.add_add] at e
        rw [e]
        unfold LoD.c at hk
        simpa using hk
    haveI : Inhabited LoD := ⟨zL⟩
    obtain ⟨q, hq⟩ := choose_ltK each
    refine ⟨(List.range len).map q, ⟨some a, len, cap, rfl, by simp, hl, by unfold maxLen at hm; omega, (fun h => by cases h), fun ad had j k u hu hj hk => ?_⟩, ?_⟩
    · obtain rfl := Option.some.inj had
      have hj' : j < len := by simpa using hj
      refine (hq j hj').1 k u ?_
      have hp : ((List.range len).map q)[j].c = (q j).c := by simp
      have hlt : k < ((List.range len).map q)[j].c.length := by simpa [LoD.c] using hk
      have := lovs_part ((List.range len).map q) j hj k _ (List.getElem?_eq_getElem hlt)
      rw [hu] at this
      rw [← hp, List.getElem?_eq_getElem hlt]
      exact this.symm
    · intro x hx
      simp only [List.mem_map, List.mem_range] at hx
      obtain ⟨i, hi, rfl⟩ := hx
      exact (hq i hi).2
/-- A case by value. -/
theorem case_of {r : Reach} {b0 : Nat} {v : Value} {d : DataW H} {p : List MemPlace} (hv : Value.okWide Try.prog w r b0 28 v) (h : DataW.Trod enc Try.prog w base spare held 28 v d p) : ∃ (c : RuD) (K : List LoD) (V : List Int) (kv vv : Value) (st : Bool), v = .agg #[.int .i64 c.hot, .int .i64 c.cold, .int .i64 c.long, .int .i64 c.mute, .int .i64 c.cap, kv, vv, .bool st] ∧ RuJ c ∧ Lds w kv K ∧ (∀ l ∈ K, LoJ l) ∧ Nums w vv V ∧ (∀ x ∈ V, I64 x) := by
  simp only [Value.okWide, Try.underlying28] at hv
  obtain ⟨cs, rfl, h2, -⟩ := hv
  rw [Try.cellsKc] at h2
  obtain ⟨l⟩ := cs
  obtain ⟨fuel, hf⟩ := h
  match l, h2 with
  | [c0, c1, c2, c3, c4, c5, c6, c7], _ =>
    obtain ⟨xs, k, hk, hxy, _, hxl, hg⟩ := DataW.trod_struct Try.underlying28 hf
    match xs, hxl with
    | [y0, y1, y2, y3], _ =>
      have g0 := hg 0 _ rfl
      have g1 := hg 1 _ rfl
      have g2 := hg 2 _ rfl
      have g3 := hg 3 _ rfl
      simp [Try.cellsRu, Try.cellsLs, Try.cellsIs, Try.cellsBk] at g0 g1 g2 g3
      obtain ⟨c, rfl, rfl, rfl, rfl, rfl, hj⟩ := ru5_of g0
      obtain ⟨K, hK, hKJ⟩ := lds_of g1
      obtain ⟨V, hV, hVJ⟩ := nums_of g2
      obtain ⟨nr, hb, _⟩ := DataW.trod_bool Try.underlying4 g3
      have hb' : c7 = .bool nr := by simpa [Value.cells] using hb
      subst hb'
      exact ⟨c, K, V, c5, c6, nr, rfl, hj, hK, hKJ, hV, hVJ⟩
end Go.Proofs.Ytkggeiljalfcpaa
namespace Go.Proofs.Ytkggeiljalfcpaa.wardenFits
open Go.ChangeShapes Go.WideShapes Go.ChangeAt Go.RowKit
set_option linter.unusedVariables false

theorem own : ownKnob Try.prog.godebug = none := by kernel_rfl
theorem laidOut : laidOutB Try.prog = true := by kernel_rfl

set_option maxRecDepth 100000 in
set_option maxHeartbeats 1600000 in
theorem lifted (os : Os) (started : os.Started) (H : Type) (enc : TypeId × Value → H) :
    ReturnsInHanded {} Try.checked os 3 .any (Rows.wardenFitsSpec.pre6 enc Try.prog Try.f3 Rows.wardenFitsRow.domain false) (Rows.wardenFitsSpec.post enc Try.prog Try.f3 false true false false) := by
  refine returnsInHanded_of_change (C := Try.checked) own started (by kernel_rfl) Try.func3
    (ChangeSpec.witness6 (enc := enc) (C := Try.checked) false ⟨#[], #[.int .i64 0, .slice none 0 0, .agg #[.int .i64 0, .int .i64 0, .int .i64 0, .int .i64 0, .int .i64 0, .slice none 0 0, .slice none 0 0, .bool false]], []⟩ 8 (by kernel_rfl) (by kernel_rfl) (by kernel_rfl) (by kernel_rfl)) ?_
  intro W base args ds gs before hval0 hW hcnd _
  have hval : ∀ (j : Nat) t v, Try.f3.params[j]? = some t → args[j]? = some v → Value.okWide Try.prog W .any base t v := hval0
  have hW' := hW
  obtain ⟨p, q, hA0, hV, rfl, hfz, hnd⟩ := hW
  have hA : DataW.TrodAll enc Try.prog W 0 (fun _ => true) true Try.f3.params.toList args.toList ds p := hA0
  rw [Try.params3] at hA hval
  obtain ⟨v0, vs0, d0, ds0, p0, q0, hargs, rfl, rfl, h0, r0⟩ := trodAll_cons hA
  obtain ⟨v1, vs1, d1, ds1, p1, q1, rfl, rfl, rfl, h1, r1⟩ := trodAll_cons r0
  obtain ⟨v2, vs2, d2, ds2, p2, q2, rfl, rfl, rfl, h2, r2⟩ := trodAll_cons r1
  obtain ⟨rfl, rfl, rfl⟩ := trodAll_nil r2
  obtain rfl : args = #[v0, v1, v2] := by cases args; simp_all
  obtain ⟨rfl, rfl⟩ := trodVars_none hV
  have k0 := h0
  have lt0 : ∀ x ∈ p0, x.block < W.heap.size := by obtain ⟨m, hm⟩ := k0; exact DataW.trod_lt m _ _ _ hm
  obtain ⟨x0, rfl⟩ := okWide_int Try.underlying3 (hval 0 3 v0 rfl rfl)
  obtain ⟨f0, hf0⟩ := h0
  obtain ⟨z0, e0, -, w0⟩ := DataW.trod_int Try.underlying3 hf0
  simp [Value.cells] at e0
  subst e0
  have s0 : -9223372036854775808 ≤ x0 ∧ x0 ≤ 9223372036854775807 := by simpa [Lit.wf, IntKind.min, IntKind.max, IntKind.signed, IntKind.bits] using w0
  have k1 := h1
  have lt1 : ∀ x ∈ p1, x.block < W.heap.size := by obtain ⟨m, hm⟩ := k1; exact DataW.trod_lt m _ _ _ hm
  obtain ⟨a1, len1, cap1, rfl⟩ := okWide_slice Try.underlying22 (hval 1 22 v1 rfl rfl)
  obtain ⟨f1, hf1⟩ := h1
  obtain ⟨l1, H1, J1⟩ := stps_of hf1
  have k2 := h2
  have lt2 : ∀ x ∈ p2, x.block < W.heap.size := by obtain ⟨m, hm⟩ := k2; exact DataW.trod_lt m _ _ _ hm
  obtain ⟨x2, Kl2, Vl2, kv2, vv2, sb2, rfl, J2, L2, M2, N2, O2⟩ := case_of (hval 2 28 v2 rfl rfl) h2
  clear hA0 hval0
  refine (wardenFits_any x0 l1 _ x2 Kl2 Vl2 _ _ sb2 W H1 J1 L2 M2 N2).mono fun e W' ⟨he, bel⟩ => ?_
  subst he
  have t0 := Below.trod laidOut (by kernel_rfl) (of_decide_eq_true (by kernel_rfl)) k0 bel lt0
  have t1 := Below.trod laidOut (by kernel_rfl) (of_decide_eq_true (by kernel_rfl)) k1 bel lt1
  have t2 := Below.trod laidOut (by kernel_rfl) (of_decide_eq_true (by kernel_rfl)) k2 bel lt2
  have T := trodAll_cons_mk t0 (trodAll_cons_mk t1 (trodAll_cons_mk t2 trodAll_mk0))
  exact ⟨_, rfl, _, _, _, [], _, [], hW', trodAll_mk1 (shut_bool Try.underlying4 _), T, rfl, bel.frame _, fun h => by cases h⟩

theorem over : Rows.wardenFitsRow.holds Try.pinned (OpenSpec.ofChange Rows.wardenFitsSpec) :=
  OpenClaim.holds_of_wide 3 Try.f3 rfl rfl rfl rfl rfl rfl rfl ⟨rfl, rfl, rfl, rfl, rfl⟩ rfl rfl rfl rfl rfl (by kernel_rfl) Try.func3 (by kernel_rfl)
    (of_decide_eq_true (by kernel_rfl)) (by unfold Func.isWrapper; first | (rw [if_pos (by decide +kernel)]; kernel_rfl) | (rw [if_neg (by decide +kernel)]; exact ⟨rfl, rfl⟩))
    (fun os started H enc _ => lifted os started H enc)

theorem proved : Rows.WardenFitsSaid := over
end Go.Proofs.Ytkggeiljalfcpaa.wardenFits
namespace Go.Proofs.Ytkggeiljalfcpaa
/-- The statement. -/
theorem wardenFits_holds : Rows.WardenFitsSaid := wardenFits.proved
end Go.Proofs.Ytkggeiljalfcpaa
