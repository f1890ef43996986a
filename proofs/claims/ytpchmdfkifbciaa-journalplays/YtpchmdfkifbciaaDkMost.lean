/- What Stage, Commit and Append of a device answer and leave. Conditions: the device lies in memory; at most a hundred thousand million bytes are laid. -/
import Derived.Test.YtpchmdfkifbciaaDkMore
import Derived.Laws.EntriesVeiled
namespace Go.Proofs.Ytpchmdfkifbciaa
open Go.RowKit

set_option maxHeartbeats 400000 in
theorem stage_any (b : Nat) (R : Nat → Prop) (S : DS) (v : Value) (m : List UInt8) (w : World) (hd : Dk w b R S) (hv : Bts w v m) (hm : m.length ≤ 100000000000) :
    Calls Try.prog 31 #[.pointer (some ⟨b, 0, none⟩), v] w fun e w' => e = .returned (.int .i64 (writeE S (stageE S m))) ∧ Step w b R w' (writeS S (stageS S m) S) := by
  have HD := hid hd
  have HV := hid hv
  obtain ⟨ua, uc, rfl⟩ := hv.shape
  have hlt := hd.lt
  clear hd hv
  have hmf : ∀ (fn : Fn) (first cap : Array Value) (w : World), (Instr.makeFunc fn first cap).run Try.prog w = .ok (.func fn first cap) w := fun _ _ _ _ => rfl
  go_enter Try.func31, Try.ntmps31
  go_wp2_with fail
  have hb1 : Below w.heap.size w (box2 w b (.slice ua m.length uc) 34) := box2_below w b _ _
  have hd1 := HD.out.below hb1
  refine (write_any b R S (stageS S m) S (stageE S m) _ _ _ _ (box2 w b (.slice ua m.length uc) 34) hd1 ent_stage1 ent_nothing ((stage1_any w.heap.size (w.heap.size + 1) b R S (.slice ua m.length uc) m _ (hd1.below (box_below _ b)) ((HV.out.below hb1).below (box_below _ b)) hm ?_ ?_).mono fun _ _ h => h) ((nothing_any _).mono fun _ _ h => ⟨h.1, by rw [h.2]; exact Step.refl (hd1.below (box_below _ b))⟩)).mono ?_
  · exact cell_later (box_below _ b) (box2_at w b _ _).1
  · exact cell_later (box_below _ b) (box2_at w b _ _).2
  rintro e w2 ⟨rfl, hs2⟩
  have HS := hid (step_below hb1 hs2)
  clear hs2 hb1 hd1
  go_wp2
  go_ret
  exact ⟨rfl, HS.out⟩
def commitE (S : DS) : Int := if S.staged then 0 else 8
def commitS (S : DS) : DS := if S.staged then { S with image := S.stage, stage := [], staged := false, log := [], sure := 0 } else S
theorem Ok.commit {S : DS} (h : Ok S) : Ok { S with image := S.stage, stage := [], staged := false, log := [], sure := 0 } := ⟨h.room, by have := h.fits; simp only [sec_nil]; omega, Nat.zero_le _, h.left, h.left2⟩
set_option maxHeartbeats 800000 in
theorem commit1_any (x b : Nat) (R : Nat → Prop) (S : DS) (w : World) (hd : Dk w b R S) (hx : w.cell? ⟨x, 0, none⟩ = some (.pointer (some ⟨b, 0, none⟩))) (hxr : ¬ R x) :
    Calls Try.prog 59 #[.pointer (some ⟨x, 0, none⟩)] w fun e w' => e = .returned (.int .i64 (commitE S)) ∧ Step w b R w' (commitS S) := by
  have HD0 := hid hd
  obtain ⟨iv, sv, lv, hd⟩ := hd
  obtain ⟨vs, vt, rfl⟩ := hd.os.shape
  have HD := hid hd
  have hblt := hd.lt
  have hbx : ¬ b = x := fun e => hxr (e ▸ hd.rb)
  have hbx' : ¬ x = b := fun e => hxr (e ▸ hd.rb)
  obtain ⟨c0, c1, c2, c3, c4, c5, c6, c7, cf⟩ := cell_eight hd.head
  clear hd
  unfold commitE commitS
  cases hs : S.staged with
  | false =>
    rw [hs] at c3
    simp only [Bool.false_eq_true, if_false]
    go_enter Try.func59, Try.ntmps59
    go_wp2
    go_ret
    exact ⟨rfl, Step.refl HD0.out⟩
  | true =>
    rw [hs] at c3
    simp only [if_true]
    go_enter Try.func59, Try.ntmps59
    go_wp2
    go_region
    go_wp2
    go_end0
    go_wp2
    go_ret
    refine ⟨rfl, HD.out.turn ((((((But.refl (fun k => k = b) _).set (.inl rfl)).set (.inl rfl)).set (.inl rfl)).set (.inl rfl)).set (.inl rfl)).drew HD.out.ok.commit ?_ HD.out.os (Own.nil _ _) (Own.nil _ _) HD.out.is (InR.nil _ _) (InR.nil _ _) (Apart.nil' _) (Apart.nil _)⟩
    exact heap_setCell_same _ b 5 _ _ _ (heap_setCell_same _ b 4 _ _ _ (heap_setCell_same _ b 3 _ _ _ (heap_setCell_same _ b 2 _ _ _ (heap_setCell_same w b 1 _ _ _ HD.out.head))))
theorem ent_commit1 : Ent 59 := fun args w => by simp [go_sem]
set_option maxHeartbeats 400000 in
theorem commit_any (b : Nat) (R : Nat → Prop) (S : DS) (w : World) (hd : Dk w b R S) :
    Calls Try.prog 32 #[.pointer (some ⟨b, 0, none⟩)] w fun e w' => e = .returned (.int .i64 (writeE S (commitE S))) ∧ Step w b R w' (writeS S (commitS S) S) := by
  have HD := hid hd
  have hlt := hd.lt
  have HR := hid hd.rlt
  clear hd
  have hmf : ∀ (fn : Fn) (first cap : Array Value) (w : World), (Instr.makeFunc fn first cap).run Try.prog w = .ok (.func fn first cap) w := fun _ _ _ _ => rfl
  go_enter Try.func32, Try.ntmps32
  go_wp2_with fail
  have hb1 := box_below w b
  have hd1 := HD.out.below hb1
  refine (write_any b R S (commitS S) S (commitE S) _ _ _ _ _ hd1 ent_commit1 ent_nothing ((commit1_any w.heap.size b R S _ (hd1.below (box_below _ b)) (cell_later (box_below _ b) (box_at w b)) (fun h => by have := HR.out _ h; omega)).mono fun _ _ h => h) ((nothing_any _).mono fun _ _ h => ⟨h.1, by rw [h.2]; exact Step.refl (hd1.below (box_below _ b))⟩)).mono ?_
  rintro e w2 ⟨rfl, hs2⟩
  have HS := hid (step_below hb1 hs2)
  clear hs2 hb1 hd1
  go_wp2
  go_ret
  exact ⟨rfl, HS.out⟩
set_option maxHeartbeats 400000 in
theorem lay2_any (x y z b : Nat) (R : Nat → Prop) (S : DS) (v : Value) (m : List UInt8) (w : World) (hd : Dk w b R S) (hv : Bts w v m) (hm : m.length ≤ 100000000000) (hx : w.cell? ⟨x, 0, none⟩ = some (.pointer (some ⟨b, 0, none⟩))) (hy : w.cell? ⟨y, 0, none⟩ = some v) (hxr : ¬ R x) (hyr : ¬ R y)
    (hz : w.cell? ⟨z, 0, none⟩ = some (.func (.func 60) #[] #[.pointer (some ⟨x, 0, none⟩), .pointer (some ⟨y, 0, none⟩)])) :
    Calls Try.prog 61 #[.pointer (some ⟨z, 0, none⟩)] w fun e w' => e = .returned (.tuple #[]) ∧ Step w b R w' (layS S m) := by
  have HL := hid (lay_any x y b R S v m w hd hv hm hx hy hxr hyr)
  clear hd hv hx hy hxr hyr
  go_enter Try.func61, Try.ntmps61
  go_wp2_with fail
  refine HL.out.mono ?_
  rintro e w1 ⟨rfl, hs1⟩
  have HS := hid hs1
  clear hs1
  go_wp2
  go_end0
  exact ⟨rfl, HS.out⟩
theorem ent_lay2 : Ent 61 := fun args w => by simp [go_sem]
/-- Three boxes more, the third with the function that lays. -/
def box3 (w : World) (b : Nat) (v : Value) : World := (box2 w b v 34).alloc (.cells #[.func (.func 60) #[] #[.pointer (some ⟨w.heap.size, 0, none⟩), .pointer (some ⟨w.heap.size + 1, 0, none⟩)]] 43)
theorem box3_below (w : World) (b : Nat) (v : Value) : Below w.heap.size w (box3 w b v) := (box2_below w b v _).alloc (by simp [box2, boxW]; omega) _
theorem box3_at (w : World) (b : Nat) (v : Value) : (box3 w b v).cell? ⟨w.heap.size, 0, none⟩ = some (.pointer (some ⟨b, 0, none⟩)) ∧ (box3 w b v).cell? ⟨w.heap.size + 1, 0, none⟩ = some v ∧
    (box3 w b v).cell? ⟨w.heap.size + 1 + 1, 0, none⟩ = some (.func (.func 60) #[] #[.pointer (some ⟨w.heap.size, 0, none⟩), .pointer (some ⟨w.heap.size + 1, 0, none⟩)]) := by
  have hb : Below (box2 w b v 34).heap.size (box2 w b v 34) (box3 w b v) := (Below.refl _ _).alloc (Nat.le_refl _) _
  refine ⟨cell_later hb (box2_at w b v _).1, cell_later hb (box2_at w b v _).2, ?_⟩
  unfold box3
  rw [World.cell?_alloc_at _ _ _ _ (by simp [box2, boxW])]
  rfl
set_option maxHeartbeats 400000 in
theorem append_any (b : Nat) (R : Nat → Prop) (S : DS) (v : Value) (m : List UInt8) (w : World) (hd : Dk w b R S) (hv : Bts w v m) (hm : m.length ≤ 100000000000) :
    Calls Try.prog 33 #[.pointer (some ⟨b, 0, none⟩), v] w fun e w' => e = .returned (.int .i64 (writeE S (layE S m))) ∧ Step w b R w' (writeS S (layS S m) (layS S m)) := by
  have HD := hid hd
  have HV := hid hv
  obtain ⟨ua, uc, rfl⟩ := hv.shape
  have hlt := hd.lt
  have HR := hid hd.rlt
  clear hd hv
  have hmf : ∀ (fn : Fn) (first cap : Array Value) (w : World), (Instr.makeFunc fn first cap).run Try.prog w = .ok (.func fn first cap) w := fun _ _ _ _ => rfl
  go_enter Try.func33, Try.ntmps33
  go_wp2_with fail
  have hb1 := box3_below w b (.slice ua m.length uc)
  have hb2 := box_below (box3 w b (.slice ua m.length uc)) b
  have hd1 := HD.out.below hb1
  have hd2 := hd1.below hb2
  have hv2 := (HV.out.below hb1).below hb2
  obtain ⟨p1, p2, p3⟩ := box3_at w b (.slice ua m.length uc)
  have n0 : ¬ R w.heap.size := fun h => by have := HR.out _ h; omega
  have n1 : ¬ R (w.heap.size + 1) := fun h => by have := HR.out _ h; omega
  refine (write_any b R S (layS S m) (layS S m) (layE S m) 60 61 #[.pointer (some ⟨w.heap.size, 0, none⟩), .pointer (some ⟨w.heap.size + 1, 0, none⟩)] #[.pointer (some ⟨w.heap.size + 1 + 1, 0, none⟩)] (box3 w b (.slice ua m.length uc)) hd1 ent_lay ent_lay2
    (lay_any w.heap.size (w.heap.size + 1) b R S _ m _ hd2 hv2 hm (cell_later hb2 p1) (cell_later hb2 p2) n0 n1)
    (lay2_any w.heap.size (w.heap.size + 1) (w.heap.size + 1 + 1) b R S _ m _ hd2 hv2 hm (cell_later hb2 p1) (cell_later hb2 p2) n0 n1 (cell_later hb2 p3))).mono ?_
  rintro e w2 ⟨rfl, hs2⟩
  have HS := hid (step_below hb1 hs2)
  clear hs2 hb1 hd1 hd2 hb2 hv2 p1 p2 p3 n0 n1
  go_wp2
  go_ret
  exact ⟨rfl, HS.out⟩
end Go.Proofs.Ytpchmdfkifbciaa
