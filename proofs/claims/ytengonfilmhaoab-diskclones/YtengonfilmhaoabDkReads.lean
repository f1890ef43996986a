/- What Used, Room, Off, Stop, Crash, Log, Image and Clone of a device answer and leave. Conditions: the device lies in memory. -/
import Derived.Test.YtengonfilmhaoabDkMost
namespace Go.Proofs.Ytengonfilmhaoab
open Go.RowKit

def usedS (S : DS) : Nat := sec S.image.length + sec S.stage.length + sec S.log.length
set_option maxHeartbeats 800000 in
theorem used_any (b : Nat) (R : Nat → Prop) (S : DS) (w : World) (hd : Dk w b R S) :
    Calls Try.prog 21 #[.pointer (some ⟨b, 0, none⟩)] w fun e w' => e = .returned (.int .i64 (usedS S)) ∧ ∃ n, w' = w.drewN n := by
  obtain ⟨iv, sv, lv, hd⟩ := hd
  obtain ⟨va, vc, rfl⟩ := hd.ol.shape
  obtain ⟨vi, vj, rfl⟩ := hd.oi.shape
  obtain ⟨vs, vt, rfl⟩ := hd.os.shape
  obtain ⟨c0, c1, c2, c3, c4, c5, c6, c7, cf⟩ := cell_eight hd.head
  have hro := hd.ok.room
  have hfi := hd.ok.fits
  have h1 := hd.ok.log
  have h2 := hd.ok.image
  have h3 := hd.ok.stage
  clear hd
  have e1 : IntKind.i64.wrap ((sec S.image.length : Int) + (sec S.stage.length : Int)) = (sec S.image.length : Int) + (sec S.stage.length : Int) := IntWalk.i64_in _ ⟨by omega, by omega⟩
  have e2 : IntKind.i64.wrap ((sec S.image.length : Int) + (sec S.stage.length : Int) + (sec S.log.length : Int)) = (usedS S : Int) := by
    unfold usedS; rw [IntWalk.i64_in _ ⟨by omega, by omega⟩]; omega
  clear hfi
  go_enter Try.func21, Try.ntmps21
  go_wp2_with fail
  go_quiet (first | (go_at_call 25; refine Calls.quiet_of_same (sectors_any _ _ ?_); omega))
  go_wp2
  go_ret
  exact ⟨rfl, _, rfl⟩
set_option maxHeartbeats 400000 in
theorem room_any (b : Nat) (R : Nat → Prop) (S : DS) (w : World) (hd : Dk w b R S) :
    Calls Try.prog 22 #[.pointer (some ⟨b, 0, none⟩)] w fun e w' => e = .returned (.int .i64 S.room) ∧ w' = w := by
  obtain ⟨iv, sv, lv, hd⟩ := hd
  obtain ⟨c0, c1, c2, c3, c4, c5, c6, c7, cf⟩ := cell_eight hd.head
  clear hd
  go_enter Try.func22, Try.ntmps22
  go_wp2
  go_ret
  exact ⟨rfl, rfl⟩
set_option maxHeartbeats 400000 in
theorem off_any (b : Nat) (R : Nat → Prop) (S : DS) (w : World) (hd : Dk w b R S) :
    Calls Try.prog 20 #[.pointer (some ⟨b, 0, none⟩)] w fun e w' => e = .returned (.bool S.off) ∧ w' = w := by
  obtain ⟨iv, sv, lv, hd⟩ := hd
  obtain ⟨c0, c1, c2, c3, c4, c5, c6, c7, cf⟩ := cell_eight hd.head
  clear hd
  go_enter Try.func20, Try.ntmps20
  go_wp2
  go_ret
  exact ⟨rfl, rfl⟩
def stopS (S : DS) (n : Int) : DS := { S with left := max n (-1) }
theorem Ok.stop {S : DS} (h : Ok S) (n : Int) (hn : n ≤ 9223372036854775807) : Ok (stopS S n) := ⟨h.room, h.fits, h.sure, by show -1 ≤ max _ _; omega, by show max _ _ ≤ _; omega⟩
set_option maxHeartbeats 400000 in
theorem stop_any (b : Nat) (R : Nat → Prop) (S : DS) (n : Int) (w : World) (hd : Dk w b R S) (hn : n ≤ 9223372036854775807) :
    Calls Try.prog 39 #[.pointer (some ⟨b, 0, none⟩), .int .i64 n] w fun e w' => e = .returned (.tuple #[]) ∧ Step w b R w' (stopS S n) := by
  obtain ⟨iv, sv, lv, hd⟩ := hd
  have HD := hid hd
  obtain ⟨c0, c1, c2, c3, c4, c5, c6, c7, cf⟩ := cell_eight hd.head
  clear hd
  have HN := hid hn
  clear hn
  by_cases hlt : n < -1
  all_goals
    go_enter Try.func39, Try.ntmps39
    go_wp2
    go_end0
    refine ⟨rfl, HD.out.turn ((But.refl (fun k => k = b) _).set (.inl rfl)) (HD.out.ok.stop n HN.out) ?_ HD.out.oi HD.out.os HD.out.ol HD.out.ii HD.out.is HD.out.il HD.out.ai HD.out.asl⟩
    have e : ∀ s : Int, (w.setCell ⟨b, 7, none⟩ (.int .i64 s)).heap[b]? = some (.cells #[.int .i64 S.room, iv, sv, .bool S.staged, lv, .int .i64 S.sure, .bool S.off, .int .i64 s] 48 (0, 0)) :=
      fun s => heap_setCell_same w b 7 _ _ _ HD.out.head
    first
      | (have hm : max n (-1) = -1 := by omega
         simp only [stopS, hm]; exact e _)
      | (have hm : max n (-1) = n := by omega
         simp only [stopS, hm]; exact e _)
end Go.Proofs.Ytengonfilmhaoab
