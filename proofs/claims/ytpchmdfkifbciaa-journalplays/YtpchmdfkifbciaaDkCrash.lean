/- What Crash, Log, Image and Clone of a device answer and leave. Conditions: the device lies in memory. -/
import Derived.Test.YtpchmdfkifbciaaDkReads
namespace Go.Proofs.Ytpchmdfkifbciaa
open Go.RowKit

/-- How many bytes of the log stay. -/
def keepN (S : DS) (keep : Int) : Nat := S.sure + (min (max keep 0) ((S.log.length : Int) - (S.sure : Int))).toNat
def crashS (S : DS) (keep : Int) : DS := { S with log := S.log.take (keepN S keep), sure := keepN S keep, stage := [], staged := false, left := -1, off := false }
theorem keepN_le (S : DS) (keep : Int) (h : Ok S) : keepN S keep ≤ S.log.length := by have := h.sure; unfold keepN; omega
theorem keepN_ge (S : DS) (keep : Int) : S.sure ≤ keepN S keep := by unfold keepN; omega
theorem Ok.surer {S : DS} (h : Ok S) (n : Nat) (hn : n ≤ S.log.length) : Ok { S with sure := n } := ⟨h.room, h.fits, hn, h.left, h.left2⟩
theorem Ok.fresh {S : DS} (h : Ok S) : Ok { S with left := -1, off := false } := ⟨h.room, h.fits, h.sure, by simp, by simp⟩
theorem DkV.surer {w : World} {b : Nat} {R : Nat → Prop} {S : DS} {iv sv lv : Value} (h : DkV w b R S iv sv lv) (x : Int) (N : Nat) (hx : x = N) (hN : N ≤ S.log.length) (q : Nat) :
    DkV ((w.drewN q).setCell ⟨b, 5, none⟩ (.int .i64 x)) b R { S with sure := N } iv sv lv ∧ But R w ((w.drewN q).setCell ⟨b, 5, none⟩ (.int .i64 x)) := by
  subst hx
  have t : But (fun k => k = b) w ((w.drewN q).setCell ⟨b, 5, none⟩ (.int .i64 N)) := (But.of_below (drewN_below w q)).set (.inl rfl)
  refine ⟨⟨h.ok.surer N hN, h.rb, fun k hk => Nat.lt_of_lt_of_le (h.rlt k hk) t.size, heap_setCell_same (w.drewN q) b 5 _ _ _ h.head, ?_, ?_, ?_, h.ii, h.is, h.il, h.ai, h.asl⟩, ?_⟩
  · exact h.oi.but t fun k hk => (h.ii k hk).2
  · exact h.os.but t fun k hk => (h.is k hk).2
  · exact h.ol.but t fun k hk => (h.il k hk).2
  · exact ⟨t.os, t.tape, t.output, t.size, fun k hk hn => t.block k hk fun e => hn (by rw [e]; exact h.rb)⟩
theorem shorten_int (b : Nat) (R : Nat → Prop) (S : DS) (x : Int) (n : Nat) (w : World) (hx : x = n) (hd : Dk w b R S) (hn : n ≤ S.log.length) :
    Calls Try.prog 49 #[.pointer (some ⟨b, 0, none⟩), .int .i64 x] w fun e w' => e = .returned (.tuple #[]) ∧ Step w b R w' { S with log := S.log.take n, sure := min S.sure n } := by
  subst hx; exact shorten_any b R S n w hd hn
set_option maxHeartbeats 3200000 in
theorem crash_any (b : Nat) (R : Nat → Prop) (S : DS) (keep : Int) (w : World) (hd : Dk w b R S) :
    Calls Try.prog 21 #[.pointer (some ⟨b, 0, none⟩), .int .i64 keep] w fun e w' => e = .returned (.tuple #[]) ∧ Step w b R w' (crashS S keep) := by
  obtain ⟨iv, sv, lv, hd⟩ := hd
  obtain ⟨va, vc, rfl⟩ := hd.ol.shape
  have HD := hid hd
  obtain ⟨c0, c1, c2, c3, c4, c5, c6, c7, cf⟩ := cell_eight hd.head
  have h1 := hd.ok.log
  have h2 := hd.ok.sure
  have e1 : IntKind.i64.wrap ((S.log.length : Int) - (S.sure : Int)) = (S.log.length : Int) - (S.sure : Int) := IntWalk.i64_in _ ⟨by omega, by omega⟩
  have hk := keepN_le S keep hd.ok
  have HK := hid hk
  clear hd
  have hkn : (keepN S keep : Int) = S.sure + min (max keep 0) ((S.log.length : Int) - (S.sure : Int)) := by unfold keepN; omega
  obtain ⟨N, hN⟩ : ∃ N : Nat, N = keepN S keep := ⟨_, rfl⟩
  rw [← hN] at hkn hk
  have HC : Hid (crashS S keep = { room := S.room, image := S.image, stage := [], staged := false, log := S.log.take N, sure := N, off := false, left := -1 }) := hid (by unfold crashS; rw [← hN])
  have HKN := hid hkn
  clear hN hkn
  go_enter Try.func21, Try.ntmps21
  go_wp2_with fail
  go_quiet (fail)
  go_wp2_with fail
  all_goals
    have hx := HKN.out
    have hd1 := HD.out.surer _ N (by first | exact (show (S.sure : Int) + keep = N by omega) | exact (show (S.sure : Int) = N by omega) | exact (show (S.sure : Int) + ((S.log.length : Int) - (S.sure : Int)) = N by omega)) hk nq
    have D1 := hid hd1.1
    have T1 := hid hd1.2
    clear hd1 c0 c1 c2 c3 c4 c5 c6 c7 cf e1
    refine (shorten_int b R { S with sure := N } _ N _ ?_ D1.out.dk hk).mono ?_
    · omega
    rintro e w2 ⟨rfl, hs2⟩
    simp only [Nat.min_self] at hs2
    obtain ⟨R2, d2, t2, r2⟩ := hs2
    have D2 := hid d2
    have T2 := hid (T1.out.trans t2 (fun _ h => .inl h))
    have R2' := hid (show ∀ k, R2 k → R k ∨ w.heap.size ≤ k from fun k h => by rcases r2 k h with h | h <;> first | exact .inl h | exact .inr (Nat.le_trans T1.out.size h))
    clear d2 t2 r2 T1 D1
    go_wp2_with fail
    refine (unstage_any b R2 _ _ D2.out).mono ?_
    rintro e w3 ⟨rfl, hs3⟩
    simp only at hs3
    have HS3 := hid (step_trans T2.out R2'.out hs3)
    clear hs3 T2 R2' D2
    obtain ⟨R3, ⟨iv3, sv3, lv3, d3⟩, t3, r3⟩ := HS3.out
    obtain ⟨k0, k1, k2, k3, k4, k5, k6, k7, kf⟩ := cell_eight d3.head
    have D3 := hid d3
    have T3 := hid t3
    have R3' := hid r3
    clear d3 t3 r3
    go_wp2_with fail
    go_end0
    refine ⟨rfl, step_trans T3.out R3'.out ?_⟩
    rw [HC.out]
    exact D3.out.turn (((But.refl (fun k => k = b) _).set (.inl rfl)).set (.inl rfl)) D3.out.ok.fresh (heap_setCell_same _ b 6 _ _ _ (heap_setCell_same w3 b 7 _ _ _ D3.out.head)) D3.out.oi D3.out.os D3.out.ol D3.out.ii D3.out.is D3.out.il D3.out.ai D3.out.asl
end Go.Proofs.Ytpchmdfkifbciaa
