/- What the calls of a journal that there is not, and on a disk that there is not, answer. No condition. -/
import Derived.Test.YtpchmdfkifbciabJnCalm
namespace Go.Proofs.Ytpchmdfkifbciab
open Go.RowKit

set_option maxHeartbeats 400000 in
theorem jready_nil (w : World) : Calls Try.prog 21 #[.pointer none] w fun e w' => e = .returned (.int .i64 8) ∧ w' = w := by
  go_enter Try.func21, Try.ntmps21
  go_wp2
  go_ret
  exact ⟨rfl, rfl⟩
set_option maxHeartbeats 400000 in
theorem jadd_nil (va : Option Addr) (n c : Nat) (w : World) : Calls Try.prog 9 #[.pointer none, .slice va n c] w fun e w' => e = .returned (.int .i64 8) ∧ w' = w := by
  go_enter Try.func9, Try.ntmps9
  go_wp2_with (go_at_call 21; refine (jready_nil _).mono ?_; rintro e w1 ⟨rfl, rfl⟩)
  go_ret
  exact ⟨rfl, rfl⟩
set_option maxHeartbeats 400000 in
theorem jsave_nil (va : Option Addr) (n c : Nat) (w : World) : Calls Try.prog 14 #[.pointer none, .slice va n c] w fun e w' => e = .returned (.int .i64 8) ∧ w' = w := by
  go_enter Try.func14, Try.ntmps14
  go_wp2_with (go_at_call 21; refine (jready_nil _).mono ?_; rintro e w1 ⟨rfl, rfl⟩)
  go_ret
  exact ⟨rfl, rfl⟩
set_option maxHeartbeats 400000 in
theorem jsync_nil (w : World) : Calls Try.prog 13 #[.pointer none] w fun e w' => e = .returned (.int .i64 8) ∧ w' = w := by
  go_enter Try.func13, Try.ntmps13
  go_wp2_with (go_at_call 21; refine (jready_nil _).mono ?_; rintro e w1 ⟨rfl, rfl⟩)
  go_ret
  exact ⟨rfl, rfl⟩
set_option maxHeartbeats 400000 in
theorem jdown_nil (w : World) : Calls Try.prog 11 #[.pointer none] w fun e w' => e = .returned (.bool true) ∧ w' = w := by
  go_enter Try.func11, Try.ntmps11
  go_wp2
  go_ret
  exact ⟨rfl, rfl⟩
set_option maxHeartbeats 400000 in
theorem jcount_nil (w : World) : Calls Try.prog 12 #[.pointer none] w fun e w' => e = .returned (.int .i64 0) ∧ w' = w := by
  go_enter Try.func12, Try.ntmps12
  go_wp2
  go_ret
  exact ⟨rfl, rfl⟩
set_option maxHeartbeats 400000 in
theorem jsize_nil (w : World) : Calls Try.prog 18 #[.pointer none] w fun e w' => e = .returned (.int .i64 0) ∧ w' = w := by
  go_enter Try.func18, Try.ntmps18
  go_wp2
  go_ret
  exact ⟨rfl, rfl⟩
set_option maxHeartbeats 400000 in
theorem jimage_nil (w : World) : Calls Try.prog 15 #[.pointer none] w fun e w' => e = .returned (.slice none 0 0) ∧ w' = w := by
  go_enter Try.func15, Try.ntmps15
  go_wp2
  go_ret
  exact ⟨rfl, rfl⟩
set_option maxHeartbeats 400000 in
theorem jrecords_nil (w : World) : Calls Try.prog 19 #[.pointer none] w fun e w' => e = .returned (.slice none 0 0) ∧ w' = w := by
  go_enter Try.func19, Try.ntmps19
  go_wp2
  go_ret
  exact ⟨rfl, rfl⟩
set_option maxHeartbeats 400000 in
theorem write_nil (f g : Value) (w : World) :
    Calls Try.prog 40 #[.pointer none, f, g] w fun e w' => e = .returned (.int .i64 8) ∧ Below w.heap.size w w' := by
  go_enter_defers Try.func40, Try.ntmps40
  go_wp2
  exact ⟨_, results_tmp rfl _ _ _, rfl, (Below.refl _ _).alloc (Nat.le_refl _) _⟩
set_option maxHeartbeats 400000 in
theorem stage_nil (va : Option Addr) (n vc : Nat) (w : World) :
    Calls Try.prog 27 #[.pointer none, .slice va n vc] w fun e w' => e = .returned (.int .i64 8) ∧ Below w.heap.size w w' := by
  have hmf : ∀ (fn : Fn) (first cap : Array Value) (w : World), (Instr.makeFunc fn first cap).run Try.prog w = .ok (.func fn first cap) w := fun _ _ _ _ => rfl
  go_enter Try.func27, Try.ntmps27
  go_wp2_with (go_at_call 40; refine (write_nil _ _ _).mono ?_; rintro e w1 ⟨rfl, hb1⟩; have HB := hid hb1; clear hb1)
  go_ret
  exact ⟨rfl, by
    have h := HB.out
    refine Below.trans ?_ (h.mono ?_)
    · repeat first | exact Below.refl _ _ | refine Below.alloc ?_ (by simp; try omega) _
    · simp; try omega⟩
set_option maxHeartbeats 400000 in
theorem read_nil (f : Value) (w : World) :
    Calls Try.prog 46 #[.pointer none, f] w fun e w' => e = .returned (.tuple #[.slice none 0 0, .int .i64 8]) ∧ w' = w := by
  go_enter Try.func46, Try.ntmps46
  go_wp2
  go_ret2
  exact ⟨rfl, rfl⟩
set_option maxHeartbeats 400000 in
theorem image_nil (w : World) :
    Calls Try.prog 29 #[.pointer none] w fun e w' => e = .returned (.tuple #[.slice none 0 0, .int .i64 8]) ∧ Below w.heap.size w w' := by
  have hmf : ∀ (fn : Fn) (first cap : Array Value) (w : World), (Instr.makeFunc fn first cap).run Try.prog w = .ok (.func fn first cap) w := fun _ _ _ _ => rfl
  go_enter Try.func29, Try.ntmps29
  go_wp2_with (go_at_call 46; refine (read_nil _ _).mono ?_; rintro e w1 ⟨rfl, rfl⟩)
  go_ret2
  exact ⟨rfl, (Below.refl _ _).alloc (Nat.le_refl _) _⟩
set_option maxHeartbeats 400000 in
theorem open_nil (w : World) :
    Calls Try.prog 16 #[.pointer none] w fun e w' => e = .returned (.tuple #[.pointer none, .int .i64 8]) ∧ Below w.heap.size w w' := by
  go_enter Try.func16, Try.ntmps16
  go_wp2_with (go_at_call 29; refine (image_nil _).mono ?_; rintro e w1 ⟨rfl, hb1⟩; have HB := hid hb1; clear hb1)
  go_ret2
  exact ⟨rfl, HB.out⟩
/-- A journal that is made on a disk that there is not. -/
def njW (w : World) : World := w.alloc (.cells #[.pointer none, .slice none 0 0, .slice none 0 0, .int .i64 0, .bool false] 50)
set_option maxHeartbeats 400000 in
theorem call_nil (jb : Nat) (f : FuncId) (fc : Array Value) (w : World) (hef : Ent f) (hf : Calls Try.prog f fc w fun e w' => e = .returned (.int .i64 8) ∧ Below w.heap.size w w') :
    Calls Try.prog 25 #[.pointer (some ⟨jb, 0, none⟩), .func (.func f) #[] fc] w fun e w' => e = .returned (.int .i64 8) ∧ Below w.heap.size w w' := by
  have HF := hid hf
  clear hf
  have hef' : ∀ (args : Array Value) (w : World), (callFunc f args).run Try.prog w = .ok (.enter f args) w := hef
  clear hef
  go_enter Try.func25, Try.ntmps25
  go_wp2_with fail
  refine HF.out.mono ?_
  rintro e w1 ⟨rfl, hs1⟩
  have HS := hid hs1
  clear hs1 HF
  go_wp2
  go_ret
  exact ⟨rfl, HS.out⟩
set_option maxHeartbeats 1600000 in
theorem jlay_nil (jb : Nat) (v : Value) (l : List UInt8) (w : World) (hv : Bts w v l) (hl : l.length ≤ 1048576) :
    Calls Try.prog 22 #[.pointer (some ⟨jb, 0, none⟩), v, .func (.func 27) #[.pointer none] #[]] w fun e w' => (∃ z, e = .returned (.tuple #[.int .i64 z, .int .i64 8])) ∧ Below w.heap.size w w' := by
  have HV := hid hv
  obtain ⟨ua, uc, rfl⟩ := hv.shape
  have HL := hid hl
  clear hv hl
  have hmf : ∀ (fn : Fn) (first cap : Array Value) (w : World), (Instr.makeFunc fn first cap).run Try.prog w = .ok (.func fn first cap) w := fun _ _ _ _ => rfl
  go_enter Try.func22, Try.ntmps22
  go_wp2_with fail
  refine (frame_any _ l _ (HV.out.alloc _) HL.out).mono ?_
  rintro e w1 ⟨va, vc, rfl, ho1, hb1⟩
  have HO := hid ho1
  have HB := hid hb1
  clear ho1 hb1
  go_wp2_with fail
  obtain ⟨w2, hw2⟩ : ∃ w2, w2 = w1.alloc (.cells #[.slice va (l.length + 8) vc] 24) := ⟨_, rfl⟩
  have hs1 := HB.out.size
  have hbw : Below w.heap.size w w1 := ((Below.refl _ _).alloc (Nat.le_refl _) _).trans (HB.out.mono (by simp))
  have hb12 : Below w1.heap.size w1 w2 := by rw [hw2]; exact (Below.refl _ _).alloc (Nat.le_refl _) _
  have H3 := hid (hbw.trans (hb12.mono hbw.size))
  have hc2 : w2.cell? ⟨w1.heap.size, 0, none⟩ = some (.slice va (l.length + 8) vc) := by rw [hw2, cell_of_row _ _ _ _ _ _ (heap_alloc_new _ _)]; rfl
  have H1 : Hid (w2.cell? ⟨w.heap.size, 0, none⟩ = some (.func (.func 27) #[.pointer none] #[])) := hid (cell_later hb12 (cell_later HB.out (by rw [cell_of_row _ _ _ _ _ _ (heap_alloc_new _ _)]; rfl)))
  have hsz2 : w2.heap.size = w1.heap.size + 1 := by rw [hw2]; simp
  rw [← hw2]
  clear hw2 hbw hb12 HO HB HV hs1
  go_region_with (first | (go_at_call 25; refine (call_nil jb 37 _ _ ent_lay1 (lay1_any w.heap.size w1.heap.size 27 (.pointer none) va (l.length + 8) vc _ 8 _ ent_stage ?_ ?_ (stage_nil _ _ _ _))).mono ?_; exact H1.out; exact hc2; rintro e w3 ⟨rfl, hs3⟩; have hc3 : w3.cell? ⟨w1.heap.size, 0, none⟩ = some (.slice va (l.length + 8) vc) := cell_later hs3 hc2; have HS : Hid (Below w2.heap.size w2.drew w3) := hid hs3; clear hs3))
  all_goals
    go_wp2
    go_ret2
    exact ⟨⟨_, rfl⟩, (show Below w.heap.size w w2.drew from ⟨H3.out.os, H3.out.tape, H3.out.output, H3.out.size, H3.out.block⟩).trans (HS.out.mono H3.out.size)⟩
set_option maxHeartbeats 800000 in
theorem format_nil (v : Value) (l : List UInt8) (w : World) (hv : Bts w v l) (hl : l.length ≤ 1048576) :
    Calls Try.prog 7 #[.pointer none, v] w fun e w' => e = .returned (.tuple #[.pointer none, .int .i64 8]) ∧ Below w.heap.size w w' := by
  have hmf : ∀ (fn : Fn) (first cap : Array Value) (w : World), (Instr.makeFunc fn first cap).run Try.prog w = .ok (.func fn first cap) w := fun _ _ _ _ => rfl
  have HV := hid hv
  obtain ⟨ua, uc, rfl⟩ := hv.shape
  have HL := hid hl
  clear hv hl
  have hsave : Calls Try.prog 14 #[.pointer (some ⟨w.heap.size, 0, none⟩), .slice ua l.length uc] (njW w) fun e w' => e = .returned (.int .i64 8) ∧ Below (njW w).heap.size (njW w) w' := by
    obtain ⟨c0, c1, c2, c3, c4, cf⟩ := cell_five (w := njW w) (b := w.heap.size) (heap_alloc_new _ _)
    have HV1 := hid (HV.out.alloc (.cells #[.pointer none, .slice none 0 0, .slice none 0 0, .int .i64 0, .bool false] 50))
    have hrd : Calls Try.prog 21 #[.pointer (some ⟨w.heap.size, 0, none⟩)] (njW w) fun e w' => e = .returned (.int .i64 0) ∧ w' = njW w := by
      go_enter Try.func21, Try.ntmps21
      go_wp2
      go_ret
      exact ⟨rfl, rfl⟩
    have HRD := hid hrd
    clear hrd
    obtain ⟨wj, hwj⟩ : ∃ wj, wj = njW w := ⟨_, rfl⟩
    have HV2 : Hid (Bts wj (.slice ua l.length uc) l) := hid (by rw [hwj]; exact HV1.out)
    rw [← hwj] at c0 c1 c2 c3 c4 cf HRD ⊢
    clear hwj HV1
    go_enter Try.func14, Try.ntmps14
    go_wp2_with (first | (go_at_call 21; refine HRD.out.mono ?_; rintro e w1 ⟨rfl, rfl⟩) | (go_at_call 22; refine (jlay_nil _ _ l _ HV2.out HL.out).mono ?_; rintro e w1 ⟨⟨z, rfl⟩, hb1⟩; have HB := hid hb1; clear hb1))
    go_ret
    exact ⟨rfl, HB.out⟩
  have HS := hid hsave
  clear hsave
  go_enter Try.func7, Try.ntmps7
  go_wp2_with (go_at_call 14; refine (show Calls _ _ _ _ _ from HS.out).mono ?_; rintro e w1 ⟨rfl, hb1⟩; have HB := hid hb1; clear hb1)
  go_ret2
  have hb0 : Below w.heap.size w (njW w) := (Below.refl _ _).alloc (Nat.le_refl _) _
  exact ⟨rfl, hb0.trans (HB.out.mono hb0.size)⟩
end Go.Proofs.Ytpchmdfkifbciab
