/- What Cut, Stage, Commit and Append of a device answer and leave. Conditions: the device lies in memory; at most a hundred thousand million bytes are laid. -/
import Derived.Test.YtpchmdfkifbciaaDkCalls
import Derived.Deep.RegionWith
namespace Go.Proofs.Ytpchmdfkifbciaa
open Go.RowKit

theorem drewN_below (w : World) (n : Nat) : Below w.heap.size w (w.drewN n) := ⟨rfl, rfl, rfl, Nat.le_refl _, fun _ _ => rfl⟩
/-- Two boxes more. -/
def box2 (w : World) (b : Nat) (v : Value) (t : TypeId) : World := (boxW w b).alloc (.cells #[v] t)
theorem box2_below (w : World) (b : Nat) (v : Value) (t : TypeId) : Below w.heap.size w (box2 w b v t) := (box_below w b).alloc (by simp [boxW]) _
theorem box2_at (w : World) (b : Nat) (v : Value) (t : TypeId) : (box2 w b v t).cell? ⟨w.heap.size, 0, none⟩ = some (.pointer (some ⟨b, 0, none⟩)) ∧ (box2 w b v t).cell? ⟨w.heap.size + 1, 0, none⟩ = some v := by
  refine ⟨cell_later ((Below.refl _ _).alloc (Nat.le_refl _) _) (box_at w b), ?_⟩
  have h := heap_alloc2_new w (.cells #[.pointer (some ⟨b, 0, none⟩)] 24) (.cells #[v] t)
  exact (cell_of_row _ _ _ _ _ _ h).trans rfl
/-- '[]byte{}' is a row of the program's own. -/
theorem Own.empty (w : World) : Own (w.alloc (.cells #[] 5)) w.heap.size (.slice (some ⟨w.heap.size, 0, none⟩) 0 0) [] :=
  ⟨rfl, .inr ⟨w.heap.size, 0, #[], rfl, Nat.le_refl _, heap_alloc_new _ _, Nat.le_refl _, Nat.zero_le _, rfl, rfl⟩⟩
def cutE (S : DS) (n : Int) : Int := if n < 0 ∨ (S.log.length : Int) < n then 1 else 0
def cutS (S : DS) (n : Int) : DS := if n < 0 ∨ (S.log.length : Int) < n then S else { S with log := S.log.take n.toNat, sure := min S.sure n.toNat }
set_option maxHeartbeats 800000 in
theorem cut1_any (x y b : Nat) (R : Nat → Prop) (S : DS) (n : Int) (w : World) (hd : Dk w b R S) (hx : w.cell? ⟨x, 0, none⟩ = some (.pointer (some ⟨b, 0, none⟩))) (hy : w.cell? ⟨y, 0, none⟩ = some (.int .i64 n)) :
    Calls Try.prog 81 #[.pointer (some ⟨y, 0, none⟩), .pointer (some ⟨x, 0, none⟩)] w fun e w' => e = .returned (.int .i64 (cutE S n)) ∧ Step w b R w' (cutS S n) := by
  have HD0 := hid hd
  obtain ⟨iv, sv, lv, hd⟩ := hd
  obtain ⟨va, vc, rfl⟩ := hd.ol.shape
  have HD := hid hd
  obtain ⟨c0, c1, c2, c3, c4, c5, c6, c7, cf⟩ := cell_eight hd.head
  have hlt := hd.ok.log
  clear hd
  by_cases h1 : n < 0
  · unfold cutE cutS
    rw [if_pos (.inl h1), if_pos (.inl h1)]
    go_enter Try.func81, Try.ntmps81
    go_wp2
    go_quiet (fail)
    go_wp2
    go_ret
    exact ⟨rfl, Step.of_below HD0.out ⟨rfl, rfl, rfl, Nat.le_refl _, fun _ _ => rfl⟩⟩
  · have d1 : decide (n < 0) = false := by simpa using h1
    by_cases h2 : (S.log.length : Int) < n
    · unfold cutE cutS
      rw [if_pos (.inr h2), if_pos (.inr h2)]
      go_enter Try.func81, Try.ntmps81
      go_wp2
      go_quiet (fail)
      go_wp2
      go_ret
      exact ⟨rfl, Step.of_below HD0.out ⟨rfl, rfl, rfl, Nat.le_refl _, fun _ _ => rfl⟩⟩
    · unfold cutE cutS
      have hno : ¬ (n < 0 ∨ (S.log.length : Int) < n) := by omega
      rw [if_neg hno, if_neg hno]
      obtain ⟨k, rfl⟩ : ∃ k : Nat, n = k := ⟨n.toNat, by omega⟩
      have HK := hid (show k ≤ S.log.length by omega)
      rw [Int.toNat_natCast]
      go_enter Try.func81, Try.ntmps81
      go_wp2
      go_quiet (fail)
      go_wp2_with fail
      refine (shorten_any b R S k _ (HD0.out.below (drewN_below w _)) HK.out).mono ?_
      rintro e w2 ⟨rfl, hs2⟩
      have HS := hid hs2
      clear hs2
      go_wp2
      go_ret
      exact ⟨rfl, step_below (drewN_below w _) HS.out⟩
theorem ent_cut1 : Ent 81 := fun args w => by simp [go_sem]
set_option maxHeartbeats 400000 in
theorem cut_any (b : Nat) (R : Nat → Prop) (S : DS) (n : Int) (w : World) (hd : Dk w b R S) :
    Calls Try.prog 75 #[.pointer (some ⟨b, 0, none⟩), .int .i64 n] w fun e w' => e = .returned (.int .i64 (writeE S (cutE S n))) ∧ Step w b R w' (writeS S (cutS S n) S) := by
  have HD := hid hd
  have hlt := hd.lt
  clear hd
  have hmf : ∀ (fn : Fn) (first cap : Array Value) (w : World), (Instr.makeFunc fn first cap).run Try.prog w = .ok (.func fn first cap) w := fun _ _ _ _ => rfl
  go_enter Try.func75, Try.ntmps75
  go_wp2_with fail
  have hb1 : Below w.heap.size w (box2 w b (.int .i64 n) 3) := box2_below w b _ _
  have hd1 := HD.out.below hb1
  refine (write_any b R S (cutS S n) S (cutE S n) _ _ _ _ (box2 w b (.int .i64 n) 3) hd1 ent_cut1 ent_nothing ((cut1_any w.heap.size (w.heap.size + 1) b R S n _ (hd1.below (box_below _ b)) ?_ ?_).mono fun _ _ h => h) ((nothing_any _).mono fun _ _ h => ⟨h.1, by rw [h.2]; exact Step.refl (hd1.below (box_below _ b))⟩)).mono ?_
  · exact cell_later (box_below _ b) (box2_at w b _ _).1
  · exact cell_later (box_below _ b) (box2_at w b _ _).2
  rintro e w2 ⟨rfl, hs2⟩
  have HS := hid (step_below hb1 hs2)
  clear hs2 hb1 hd1
  go_wp2
  go_ret
  exact ⟨rfl, HS.out⟩
set_option maxHeartbeats 400000 in
theorem clone_any (v : Value) (m : List UInt8) (w : World) (hv : Bts w v m) (hm : m.length ≤ 100000000000) :
    Calls Try.prog 45 #[v] w fun e w' => ∃ va vc, e = .returned (.slice va m.length vc) ∧ Own w' w.heap.size (.slice va m.length vc) m ∧ Below w.heap.size w w' := by
  have HV := hid hv
  obtain ⟨ao, n, cap, rfl, rfl, h2, h3, h4, h5⟩ := hv
  clear h5
  have q := fun (w : World) (a : Option Addr) (n c n' c' : Nat) => Lib.run_eql_slice_nil (P := Try.prog) w _ _ a n c n' c' Try.underlyingB
  cases ao with
  | none =>
    have hm0 : m = [] := List.eq_nil_of_length_eq_zero (by have := h4 rfl; omega)
    subst hm0
    go_enter Try.func45, Try.ntmps45
    go_wp2
    go_ret
    exact ⟨none, 0, rfl, Own.nil _ _, Below.refl _ _⟩
  | some ad =>
    go_enter Try.func45, Try.ntmps45
    go_wp2_with (at_builtin; refine wpl_append rfl _ _ rfl w.heap.size (.slice (some ⟨w.heap.size, 0, none⟩) 0 0) [] rfl (Own.empty w) _ m rfl (HV.out.alloc _) (by simp; omega) (by simp) ?_; intro va1 vc1 w1 ho1 hg1 hat1)
    have hB : Below w.heap.size w w1 := ((Below.refl _ _).alloc (Nat.le_refl _) _).trans ⟨hg1.os, hg1.tape, hg1.output, hg1.size, fun k hk => hg1.block k (by simp; omega) (by simp [Value.ownBlock]; omega)⟩
    simp only [List.length_nil, Nat.zero_add, List.nil_append] at ho1
    have HO := hid ho1
    have HB := hid hB
    clear ho1 hg1 hat1 hB
    go_ret
    exact ⟨va1, vc1, by simp, HO.out, HB.out⟩
def stageE (S : DS) (m : List UInt8) : Int := if sec m.length + sec S.image.length + sec S.log.length ≤ S.room then 0 else 3
def stageS (S : DS) (m : List UInt8) : DS := if sec m.length + sec S.image.length + sec S.log.length ≤ S.room then { S with stage := m, staged := true } else S
theorem Ok.stageV {S : DS} (h : Ok S) (m : List UInt8) (hf : sec m.length + sec S.image.length + sec S.log.length ≤ S.room) : Ok { S with stage := m, staged := true } := ⟨h.room, by simp only; omega, h.sure, h.left, h.left2⟩
/-- A row that is the program's own from the device's time on is staged. -/
theorem DkV.stagedV {w w1 : World} {b : Nat} {R : Nat → Prop} {S : DS} {iv sv lv v1 : Value} {m : List UInt8} (h : DkV w b R S iv sv lv) (ho : Own w1 w.heap.size v1 m) (hB : Below w.heap.size w w1) (hok : Ok { S with stage := m, staged := true }) :
    ∀ w2, But (fun k => k = b) w1 w2 → w2.heap[b]? = some (.cells #[.int .i64 S.room, iv, v1, .bool true, lv, .int .i64 S.sure, .bool S.off, .int .i64 S.left] 67 (0, 0)) → Step w b R w2 { S with stage := m, staged := true } := by
  intro w2 t2 hh
  have hblt := h.lt
  have h1 : ∀ k, v1.ownBlock = some k → w.heap.size ≤ k ∧ k < w1.heap.size := ho.lt
  have hd1 := h.below hB
  have hs := t2.size
  have hs1 := hB.size
  refine ⟨fun k => R k ∨ v1.ownBlock = some k, ⟨iv, v1, lv, hok, .inl h.rb, ?_, hh, ?_, ?_, ?_, ?_, ?_, ?_, h.ai, ?_⟩, ?_, ?_⟩
  · intro k hk
    rcases hk with hk | hk
    · have := h.rlt k hk; omega
    · have := h1 k hk; omega
  · exact hd1.oi.but t2 fun k hk => (h.ii k hk).2
  · exact (ho.lower (Nat.zero_le _)).but t2 fun k hk e => by have := h1 k hk; omega
  · exact hd1.ol.but t2 fun k hk => (h.il k hk).2
  · exact fun k hk => ⟨.inl (h.ii k hk).1, (h.ii k hk).2⟩
  · exact fun k hk => ⟨.inr hk, fun e => by have := h1 k hk; omega⟩
  · exact fun k hk => ⟨.inl (h.il k hk).1, (h.il k hk).2⟩
  · intro k hk e
    have := h1 k hk
    have := h.rlt k (h.il k e).1
    omega
  · exact ⟨t2.os.trans hB.os, t2.tape.trans hB.tape, t2.output.trans hB.output, by omega, fun k hk hn => (t2.block k (by omega) (fun e => hn (by rw [e]; exact h.rb))).trans (hB.block k hk)⟩
  · intro k hk
    rcases hk with hk | hk
    · exact .inl hk
    · exact .inr (h1 k hk).1
set_option maxHeartbeats 1600000 in
theorem stage1_any (x y b : Nat) (R : Nat → Prop) (S : DS) (v : Value) (m : List UInt8) (w : World) (hd : Dk w b R S) (hv : Bts w v m) (hm : m.length ≤ 100000000000) (hx : w.cell? ⟨x, 0, none⟩ = some (.pointer (some ⟨b, 0, none⟩))) (hy : w.cell? ⟨y, 0, none⟩ = some v) :
    Calls Try.prog 56 #[.pointer (some ⟨y, 0, none⟩), .pointer (some ⟨x, 0, none⟩)] w fun e w' => e = .returned (.int .i64 (stageE S m)) ∧ Step w b R w' (stageS S m) := by
  have HV := hid hv
  obtain ⟨ua, uc, rfl⟩ := hv.shape
  have HD0 := hid hd
  obtain ⟨iv, sv, lv, hd⟩ := hd
  obtain ⟨va, vc, rfl⟩ := hd.ol.shape
  obtain ⟨vi, vj, rfl⟩ := hd.oi.shape
  have HD := hid hd
  have hblt := hd.lt
  obtain ⟨c0, c1, c2, c3, c4, c5, c6, c7, cf⟩ := cell_eight hd.head
  have hlt := hd.ok.log
  clear hd hv
  have hli := HD.out.ok.image
  have hro := HD.out.ok.room
  have hi2 : sec S.image.length ≤ 65536 := by unfold sec; omega
  have hs2 : sec S.log.length ≤ 65536 := by unfold sec; omega
  have e2 : IntKind.i64.wrap ((S.room : Int) - (sec S.image.length : Int)) = (S.room : Int) - (sec S.image.length : Int) := IntWalk.i64_in _ ⟨by omega, by omega⟩
  have e3 : IntKind.i64.wrap ((S.room : Int) - (sec S.image.length : Int) - (sec S.log.length : Int)) = (S.room : Int) - (sec S.image.length : Int) - (sec S.log.length : Int) := IntWalk.i64_in _ ⟨by omega, by omega⟩
  by_cases hfit : (S.room : Int) - (sec S.image.length : Int) - (sec S.log.length : Int) < (sec m.length : Int)
  · have HF := hid (show ¬ (sec m.length + sec S.image.length + sec S.log.length ≤ S.room) by omega)
    go_enter Try.func56, Try.ntmps56
    go_wp2_with fail
    go_quiet (first | (go_at_call 57; refine Calls.quiet_of_same (sectors_any _ _ ?_); omega))
    go_wp2
    go_ret
    unfold stageE stageS
    rw [if_neg HF.out, if_neg HF.out]
    exact ⟨rfl, Step.of_below HD0.out ⟨rfl, rfl, rfl, Nat.le_refl _, fun _ _ => rfl⟩⟩
  · have HF := hid (show sec m.length + sec S.image.length + sec S.log.length ≤ S.room by omega)
    go_enter Try.func56, Try.ntmps56
    go_wp2_with fail
    go_quiet (first | (go_at_call 57; refine Calls.quiet_of_same (sectors_any _ _ ?_); omega))
    go_wp2_with fail
    clear e2 e3 hfit
    go_region_with (first | (go_at_call 45; refine (clone_any (.slice ua m.length uc) m _ ?_ hm).mono ?_; exact HV.out; rintro e w1 ⟨va1, vc1, rfl, ho1, hB1⟩; have k2 : w1.cell? ⟨b, 2, none⟩ = some sv := cell_later hB1 c2; have k3 : w1.cell? ⟨b, 3, none⟩ = some (.bool S.staged) := cell_later hB1 c3; have kx : w1.cell? ⟨x, 0, none⟩ = some (.pointer (some ⟨b, 0, none⟩)) := cell_later hB1 hx; have kf : ∀ i, w1.frozen? ⟨b, i, none⟩ = false := (fun i => (World.frozen?_of_block (hB1.block b hblt)).trans (cf i)); have HO1 := hid ho1; have HB1 := hid hB1; clear ho1 hB1))
    all_goals
      go_wp2
      go_ret
      unfold stageE stageS
      rw [if_pos HF.out, if_pos HF.out]
      have hB := HB1.out
      have hB' : Below w.heap.size w w1 := ⟨hB.os, hB.tape, hB.output, hB.size, hB.block⟩
      refine ⟨rfl, HD.out.stagedV HO1.out hB' (HD.out.ok.stageV m HF.out) _ (((But.refl (fun k => k = b) _).set (.inl rfl)).set (.inl rfl)) ?_⟩
      exact heap_setCell_same _ b 3 _ _ _ (heap_setCell_same w1 b 2 _ _ _ ((hB'.block b hblt).trans HD.out.head))
theorem ent_stage1 : Ent 56 := fun args w => by simp [go_sem]
end Go.Proofs.Ytpchmdfkifbciaa
