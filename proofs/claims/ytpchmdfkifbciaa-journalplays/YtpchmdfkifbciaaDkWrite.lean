/- A writing call is done as its function says, and counted; where the power goes at it, what is done still is done, and the power is off. Conditions: the device lies in memory; what the two functions do. -/
import Derived.Test.YtpchmdfkifbciaaDkOps
namespace Go.Proofs.Ytpchmdfkifbciaa
open Go.RowKit

/-- The world in which a writing call's function is called: one block more. -/
def boxW (w : World) (b : Nat) : World := w.alloc (.cells #[.pointer (some ⟨b, 0, none⟩)] 24)
set_option maxHeartbeats 800000 in
theorem write_off (b : Nat) (R : Nat → Prop) (S : DS) (f g : FuncId) (fc gc : Array Value) (w : World) (hd : Dk w b R S) (ho : S.off = true) :
    Calls Try.prog 55 #[.pointer (some ⟨b, 0, none⟩), .func (.func f) #[] fc, .func (.func g) #[] gc] w fun e w' => e = .returned (.int .i64 6) ∧ Step w b R w' S := by
  have HD0 := hid hd
  have hlt := hd.lt
  obtain ⟨iv, sv, lv, hd⟩ := hd
  have HD := hid hd
  obtain ⟨c0, c1, c2, c3, c4, c5, c6, c7, cf⟩ := cell_eight hd.head
  rw [ho] at c6
  clear hd
  go_enter_defers Try.func55, Try.ntmps55
  go_wp2
  exact ⟨_, results_tmp rfl _ _ _, rfl, Step.of_below HD0.out ((Below.refl _ _).alloc (Nat.le_refl _) _)⟩
/-- Function f is one that is entered. -/
def Ent (f : FuncId) : Prop := ∀ (args : Array Value) (w : World), (callFunc f args).run Try.prog w = .ok (.enter f args) w
theorem box_below (w : World) (b : Nat) : Below w.heap.size w (boxW w b) := (Below.refl _ _).alloc (Nat.le_refl _) _
theorem box_head (w : World) (b : Nat) : (boxW w b).heap[w.heap.size]? = some (.cells #[.pointer (some ⟨b, 0, none⟩)] 24 (0, 0)) := heap_alloc_new _ _
/-- The box is as it was where the device's blocks alone have turned. -/
theorem box_cell {w w1 : World} {b : Nat} {R : Nat → Prop} {S : DS} (hr : ∀ k, R k → k < w.heap.size) (h : Step (boxW w b) b R w1 S) : w1.cell? ⟨w.heap.size, 0, none⟩ = some (.pointer (some ⟨b, 0, none⟩)) := by
  obtain ⟨R1, d, t, r⟩ := h
  have := t.block w.heap.size (by simp [boxW]) (fun h => by have := hr _ h; omega)
  rw [box_head] at this
  rw [cell_of_row _ _ _ _ _ _ this]; rfl
theorem box_free {w w1 : World} {b : Nat} {R : Nat → Prop} {S : DS} (hr : ∀ k, R k → k < w.heap.size) (h : Step (boxW w b) b R w1 S) : w1.frozen? ⟨w.heap.size, 0, none⟩ = false := by
  obtain ⟨R1, d, t, r⟩ := h
  have := t.block w.heap.size (by simp [boxW]) (fun h => by have := hr _ h; omega)
  rw [box_head] at this
  exact frozen_of_row _ _ _ _ _ this
set_option maxHeartbeats 800000 in
theorem write_on (b : Nat) (R : Nat → Prop) (S S1 : DS) (er : Int) (f g : FuncId) (fc gc : Array Value) (w : World) (hd : Dk w b R S) (ho : S.off = false) (hl : S.left ≠ 0) (hef : Ent f)
    (hf : Calls Try.prog f fc (boxW w b) fun e w' => e = .returned (.int .i64 er) ∧ Step (boxW w b) b R w' S1) :
    Calls Try.prog 55 #[.pointer (some ⟨b, 0, none⟩), .func (.func f) #[] fc, .func (.func g) #[] gc] w fun e w' => e = .returned (.int .i64 er) ∧ Step w b R w' { S1 with left := max (S1.left - 1) (-1) } := by
  have HD0 := hid hd
  have hlt := hd.lt
  obtain ⟨iv, sv, lv, hd⟩ := hd
  have HD := hid hd
  obtain ⟨c0, c1, c2, c3, c4, c5, c6, c7, cf⟩ := cell_eight hd.head
  rw [ho] at c6
  have hl' : (S.left == 0) = false := by simpa using hl
  have hmf : ∀ (fn : Fn) (first cap : Array Value) (w : World), (Instr.makeFunc fn first cap).run Try.prog w = .ok (.func fn first cap) w := fun _ _ _ _ => rfl
  have HF := hid hf
  have HR := hid hd.rlt
  clear hd hf
  have hef' : ∀ (args : Array Value) (w : World), (callFunc f args).run Try.prog w = .ok (.enter f args) w := hef
  clear hef
  go_enter_defers Try.func55, Try.ntmps55
  go_wp2_with fail
  refine HF.out.mono ?_
  rintro e w1 ⟨rfl, hs1⟩
  have HS := hid hs1
  have HB := hid (box_cell HR.out hs1)
  clear hs1
  go_wp2_with fail
  refine leaves_cons (f := 76) (args := #[.pointer (some ⟨w.heap.size, 0, none⟩)]) (by simp) (by simp [go_sem]) ?_
  have H := HS.out
  obtain ⟨R1, d1, t1, r1⟩ := H
  refine (count_deferred w.heap.size b R1 S1 .returning _ d1 HB.out).mono ?_
  rintro e u' w2 ⟨rfl, rfl, hs2⟩
  exact ⟨_, results_tmp rfl _ _ _, rfl, step_below (box_below w b) (step_trans t1 r1 hs2)⟩
theorem Ok.offed {S : DS} (h : Ok S) : Ok { S with off := true } := ⟨h.room, h.fits, h.sure, h.left, h.left2⟩
set_option maxHeartbeats 800000 in
theorem write_goes (b : Nat) (R : Nat → Prop) (S S0 : DS) (f g : FuncId) (fc gc : Array Value) (w : World) (hd : Dk w b R S) (ho : S.off = false) (hl : S.left = 0) (heg : Ent g)
    (hg : Calls Try.prog g gc (boxW w b) fun e w' => e = .returned (.tuple #[]) ∧ Step (boxW w b) b R w' S0) :
    Calls Try.prog 55 #[.pointer (some ⟨b, 0, none⟩), .func (.func f) #[] fc, .func (.func g) #[] gc] w fun e w' => e = .returned (.int .i64 6) ∧ Step w b R w' { S0 with off := true, left := max (S0.left - 1) (-1) } := by
  have HD0 := hid hd
  have hlt := hd.lt
  obtain ⟨iv, sv, lv, hd⟩ := hd
  have HD := hid hd
  obtain ⟨c0, c1, c2, c3, c4, c5, c6, c7, cf⟩ := cell_eight hd.head
  rw [ho] at c6
  rw [hl] at c7
  have hmf : ∀ (fn : Fn) (first cap : Array Value) (w : World), (Instr.makeFunc fn first cap).run Try.prog w = .ok (.func fn first cap) w := fun _ _ _ _ => rfl
  have HG := hid hg
  have HR := hid hd.rlt
  clear hd hg
  have heg' : ∀ (args : Array Value) (w : World), (callFunc g args).run Try.prog w = .ok (.enter g args) w := heg
  clear heg
  go_enter_defers Try.func55, Try.ntmps55
  go_wp2_with fail
  refine HG.out.mono ?_
  rintro e w1 ⟨rfl, hs1⟩
  have hbc := box_cell HR.out hs1
  have HBF := hid hbc
  obtain ⟨R1, d1, t1, r1⟩ := hs1
  obtain ⟨iv1, sv1, lv1, d1⟩ := d1
  obtain ⟨k0, k1, k2, k3, k4, k5, k6, k7, kf⟩ := cell_eight d1.head
  have D1 := hid d1
  have T1 := hid t1
  have R1' := hid r1
  have hbx : ¬ b = w.heap.size := by omega
  have hbx' : ¬ w.heap.size = b := by omega
  clear d1 t1 r1 c0 c1 c2 c3 c4 c5 c6 c7 cf
  go_wp2_with fail
  have hs2 : Step w1 b R1 (w1.setCell ⟨b, 6, none⟩ (.bool true)) { S0 with off := true } :=
    D1.out.turn ((But.refl (fun k => k = b) _).set (.inl rfl)) D1.out.ok.offed (heap_setCell_same w1 b 6 _ _ _ D1.out.head) D1.out.oi D1.out.os D1.out.ol D1.out.ii D1.out.is D1.out.il D1.out.ai D1.out.asl
  refine leaves_cons (f := 76) (args := #[.pointer (some ⟨w.heap.size, 0, none⟩)]) (by simp) (by simp [go_sem]) ?_
  obtain ⟨R2, d2, t2, r2⟩ := hs2
  refine (count_deferred w.heap.size b R2 _ .returning _ d2 ?_).mono ?_
  · rw [World.cell?_of_block (w := w1)]
    · exact HBF.out
    · exact Below.heap_setCell _ _ _ _ (fun e => hbx' (by simpa using e))
  rintro e u' w2 ⟨rfl, rfl, hs2⟩
  exact ⟨_, results_tmp rfl _ _ _, rfl, step_below (box_below w b) (step_trans T1.out R1'.out (step_trans t2 r2 hs2))⟩
end Go.Proofs.Ytpchmdfkifbciaa
