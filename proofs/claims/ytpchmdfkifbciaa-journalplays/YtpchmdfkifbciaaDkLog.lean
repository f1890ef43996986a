/- What Log, Image and Clone of a device answer and leave. Conditions: the device lies in memory. -/
import Derived.Test.YtpchmdfkifbciaaDkCrash
namespace Go.Proofs.Ytpchmdfkifbciaa
open Go.RowKit

set_option maxHeartbeats 400000 in
theorem read_off (b : Nat) (R : Nat → Prop) (S : DS) (f : FuncId) (fc : Array Value) (w : World) (hd : Dk w b R S) (ho : S.off = true) :
    Calls Try.prog 64 #[.pointer (some ⟨b, 0, none⟩), .func (.func f) #[] fc] w fun e w' => e = .returned (.tuple #[.slice none 0 0, .int .i64 6]) ∧ w' = w := by
  obtain ⟨iv, sv, lv, hd⟩ := hd
  obtain ⟨c0, c1, c2, c3, c4, c5, c6, c7, cf⟩ := cell_eight hd.head
  rw [ho] at c6
  clear hd
  go_enter Try.func64, Try.ntmps64
  go_wp2
  go_ret2
  exact ⟨rfl, rfl⟩
set_option maxHeartbeats 400000 in
theorem read_on (b : Nat) (R : Nat → Prop) (S : DS) (f : FuncId) (fc : Array Value) (v : Value) (l : List UInt8) (w : World) (hd : Dk w b R S) (ho : S.off = false) (hef : Ent f) (hv : Bts w v l) (hl : l.length ≤ 100000000000)
    (hf : Calls Try.prog f fc w fun e w' => e = .returned v ∧ w' = w) :
    Calls Try.prog 64 #[.pointer (some ⟨b, 0, none⟩), .func (.func f) #[] fc] w fun e w' => ∃ va vc, e = .returned (.tuple #[.slice va l.length vc, .int .i64 0]) ∧ Own w' w.heap.size (.slice va l.length vc) l ∧ Below w.heap.size w w' := by
  obtain ⟨iv, sv, lv, hd⟩ := hd
  obtain ⟨c0, c1, c2, c3, c4, c5, c6, c7, cf⟩ := cell_eight hd.head
  rw [ho] at c6
  clear hd
  have HF := hid hf
  have HV := hid hv
  obtain ⟨ua, uc, rfl⟩ := hv.shape
  clear hf hv
  have hef' : ∀ (args : Array Value) (w : World), (callFunc f args).run Try.prog w = .ok (.enter f args) w := hef
  clear hef
  go_enter Try.func64, Try.ntmps64
  go_wp2_with fail
  refine HF.out.mono ?_
  rintro e w1 ⟨rfl, rfl⟩
  go_wp2_with fail
  refine (clone_any _ l _ HV.out hl).mono ?_
  rintro e w2 ⟨va2, vc2, rfl, ho2, hb2⟩
  have HO := hid ho2
  have HB := hid hb2
  clear ho2 hb2
  go_wp2
  go_ret2
  exact ⟨va2, vc2, rfl, HO.out, HB.out⟩
set_option maxHeartbeats 400000 in
theorem log1_any (x b : Nat) (R : Nat → Prop) (S : DS) (iv sv lv : Value) (w : World) (hd : DkV w b R S iv sv lv) (hx : w.cell? ⟨x, 0, none⟩ = some (.pointer (some ⟨b, 0, none⟩))) :
    Calls Try.prog 65 #[.pointer (some ⟨x, 0, none⟩)] w fun e w' => e = .returned lv ∧ w' = w := by
  obtain ⟨va, vc, rfl⟩ := hd.ol.shape
  obtain ⟨c0, c1, c2, c3, c4, c5, c6, c7, cf⟩ := cell_eight hd.head
  clear hd
  go_enter Try.func65, Try.ntmps65
  go_wp2
  go_ret
  exact ⟨rfl, rfl⟩
theorem ent_log1 : Ent 65 := fun args w => by simp [go_sem]
set_option maxHeartbeats 400000 in
theorem image1_any (x b : Nat) (R : Nat → Prop) (S : DS) (iv sv lv : Value) (w : World) (hd : DkV w b R S iv sv lv) (hx : w.cell? ⟨x, 0, none⟩ = some (.pointer (some ⟨b, 0, none⟩))) :
    Calls Try.prog 68 #[.pointer (some ⟨x, 0, none⟩)] w fun e w' => e = .returned iv ∧ w' = w := by
  obtain ⟨va, vc, rfl⟩ := hd.oi.shape
  obtain ⟨c0, c1, c2, c3, c4, c5, c6, c7, cf⟩ := cell_eight hd.head
  clear hd
  go_enter Try.func68, Try.ntmps68
  go_wp2
  go_ret
  exact ⟨rfl, rfl⟩
theorem ent_image1 : Ent 68 := fun args w => by simp [go_sem]
/-- What Log and Image answer. -/
def toldL (S : DS) (l : List UInt8) : List UInt8 := if S.off then [] else l
def toldE (S : DS) : Int := if S.off then 6 else 0
theorem toldL_off {S : DS} {l : List UInt8} (h : S.off = true) : toldL S l = [] := by unfold toldL; rw [h]; rfl
theorem toldL_on {S : DS} {l : List UInt8} (h : S.off = false) : toldL S l = l := by unfold toldL; rw [h]; rfl
theorem toldE_off {S : DS} (h : S.off = true) : toldE S = 6 := by unfold toldE; rw [h]; rfl
theorem toldE_on {S : DS} (h : S.off = false) : toldE S = 0 := by unfold toldE; rw [h]; rfl
set_option maxHeartbeats 400000 in
theorem log_any (b : Nat) (R : Nat → Prop) (S : DS) (w : World) (hd : Dk w b R S) :
    Calls Try.prog 36 #[.pointer (some ⟨b, 0, none⟩)] w fun e w' => ∃ va vc, e = .returned (.tuple #[.slice va (toldL S S.log).length vc, .int .i64 (toldE S)]) ∧ Own w' w.heap.size (.slice va (toldL S S.log).length vc) (toldL S S.log) ∧ Below w.heap.size w w' := by
  have hmf : ∀ (fn : Fn) (first cap : Array Value) (w : World), (Instr.makeFunc fn first cap).run Try.prog w = .ok (.func fn first cap) w := fun _ _ _ _ => rfl
  have hlt := hd.lt
  have HD := hid hd
  obtain ⟨iv, sv, lv, hd⟩ := hd
  have HV := hid (hd.below (box_below w b))
  have hll := hd.ok.log
  clear hd
  cases ho : S.off with
  | true =>
    rw [toldL_off ho, toldE_off ho]
    have HO := hid ho
    clear ho
    go_enter Try.func36, Try.ntmps36
    go_wp2_with fail
    refine (read_off b R S _ _ _ HV.out.dk HO.out).mono ?_
    rintro e w1 ⟨rfl, rfl⟩
    go_wp2
    go_ret2
    exact ⟨none, 0, rfl, Own.nil _ _, box_below w b⟩
  | false =>
    rw [toldL_on ho, toldE_on ho]
    have HO := hid ho
    clear ho
    go_enter Try.func36, Try.ntmps36
    go_wp2_with fail
    refine (read_on b R S _ _ lv S.log _ HV.out.dk HO.out ent_log1 HV.out.ol.bts (by omega) (log1_any w.heap.size b R S iv sv lv _ HV.out (box_at w b))).mono ?_
    rintro e w1 ⟨va1, vc1, rfl, ho1, hb1⟩
    have HO1 := hid ho1
    have HB1 := hid hb1
    clear ho1 hb1
    go_wp2
    go_ret2
    exact ⟨va1, vc1, rfl, HO1.out.lower (box_below w b).size, (box_below w b).trans (HB1.out.mono (box_below w b).size)⟩
set_option maxHeartbeats 400000 in
theorem image_any (b : Nat) (R : Nat → Prop) (S : DS) (w : World) (hd : Dk w b R S) :
    Calls Try.prog 40 #[.pointer (some ⟨b, 0, none⟩)] w fun e w' => ∃ va vc, e = .returned (.tuple #[.slice va (toldL S S.image).length vc, .int .i64 (toldE S)]) ∧ Own w' w.heap.size (.slice va (toldL S S.image).length vc) (toldL S S.image) ∧ Below w.heap.size w w' := by
  have hmf : ∀ (fn : Fn) (first cap : Array Value) (w : World), (Instr.makeFunc fn first cap).run Try.prog w = .ok (.func fn first cap) w := fun _ _ _ _ => rfl
  have hlt := hd.lt
  have HD := hid hd
  obtain ⟨iv, sv, lv, hd⟩ := hd
  have HV := hid (hd.below (box_below w b))
  have hll := hd.ok.image
  clear hd
  cases ho : S.off with
  | true =>
    rw [toldL_off ho, toldE_off ho]
    have HO := hid ho
    clear ho
    go_enter Try.func40, Try.ntmps40
    go_wp2_with fail
    refine (read_off b R S _ _ _ HV.out.dk HO.out).mono ?_
    rintro e w1 ⟨rfl, rfl⟩
    go_wp2
    go_ret2
    exact ⟨none, 0, rfl, Own.nil _ _, box_below w b⟩
  | false =>
    rw [toldL_on ho, toldE_on ho]
    have HO := hid ho
    clear ho
    go_enter Try.func40, Try.ntmps40
    go_wp2_with fail
    refine (read_on b R S _ _ iv S.image _ HV.out.dk HO.out ent_image1 HV.out.oi.bts (by omega) (image1_any w.heap.size b R S iv sv lv _ HV.out (box_at w b))).mono ?_
    rintro e w1 ⟨va1, vc1, rfl, ho1, hb1⟩
    have HO1 := hid ho1
    have HB1 := hid hb1
    clear ho1 hb1
    go_wp2
    go_ret2
    exact ⟨va1, vc1, rfl, HO1.out.lower (box_below w b).size, (box_below w b).trans (HB1.out.mono (box_below w b).size)⟩
end Go.Proofs.Ytpchmdfkifbciaa
