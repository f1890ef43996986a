/- What Used, Room, Off, Stop, Crash, Log, Image and Clone of a device answer and leave. Conditions: the device lies in memory. -/
import Derived.Test.YtpchmdfkifbciaaDkMost
namespace Go.Proofs.Ytpchmdfkifbciaa
open Go.RowKit

def usedS (S : DS) : Nat := sec S.image.length + sec S.stage.length + sec S.log.length
def stopS (S : DS) (n : Int) : DS := { S with left := max n (-1) }
theorem Ok.stop {S : DS} (h : Ok S) (n : Int) (hn : n ≤ 9223372036854775807) : Ok (stopS S n) := ⟨h.room, h.fits, h.sure, by show -1 ≤ max _ _; omega, by show max _ _ ≤ _; omega⟩
set_option maxHeartbeats 400000 in
theorem stop_any (b : Nat) (R : Nat → Prop) (S : DS) (n : Int) (w : World) (hd : Dk w b R S) (hn : n ≤ 9223372036854775807) :
    Calls Try.prog 19 #[.pointer (some ⟨b, 0, none⟩), .int .i64 n] w fun e w' => e = .returned (.tuple #[]) ∧ Step w b R w' (stopS S n) := by
  obtain ⟨iv, sv, lv, hd⟩ := hd
  have HD := hid hd
  obtain ⟨c0, c1, c2, c3, c4, c5, c6, c7, cf⟩ := cell_eight hd.head
  clear hd
  have HN := hid hn
  clear hn
  by_cases hlt : n < -1
  all_goals
    go_enter Try.func19, Try.ntmps19
    go_wp2
    go_end0
    refine ⟨rfl, HD.out.turn ((But.refl (fun k => k = b) _).set (.inl rfl)) (HD.out.ok.stop n HN.out) ?_ HD.out.oi HD.out.os HD.out.ol HD.out.ii HD.out.is HD.out.il HD.out.ai HD.out.asl⟩
    have e : ∀ s : Int, (w.setCell ⟨b, 7, none⟩ (.int .i64 s)).heap[b]? = some (.cells #[.int .i64 S.room, iv, sv, .bool S.staged, lv, .int .i64 S.sure, .bool S.off, .int .i64 s] 67 (0, 0)) :=
      fun s => heap_setCell_same w b 7 _ _ _ HD.out.head
    first
      | (have hm : max n (-1) = -1 := by omega
         simp only [stopS, hm]; exact e _)
      | (have hm : max n (-1) = n := by omega
         simp only [stopS, hm]; exact e _)
end Go.Proofs.Ytpchmdfkifbciaa
