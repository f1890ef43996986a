/- What a council does that has nobody else to send to. -/
import Derived.Test.YtjimneaimnjanaaCoNew
namespace Go.Proofs.Ytjimneaimnjanaa
open Go.RowKit
set_option linter.unusedVariables false
set_option linter.unusedSimpArgs false

set_option maxRecDepth 100000 in
set_option maxHeartbeats 1600000 in
theorem spread_alone (b : Nat) (lv wv : Value) (D : CoD) (w : World) (h : Co w 0 b lv D) (hi : CoI D) (hs : (vNow D).size ≤ 999999) (ho : oRow D = []) :
    Calls Try.prog 69 #[.pointer (some ⟨b, 0, none⟩), wv] w fun e w' => e = .returned (.tuple #[]) ∧ Below w.heap.size w w' := by
  have HO := hid (others_any 0 b lv D w h hi hs)
  rw [ho] at HO
  clear h hi hs ho
  go_enter Try.func69, Try.ntmps69
  go_wp2_with (go_at_call 65; refine HO.out.mono ?_; rintro e w1 ⟨v1, rfl, hb1, ho1⟩; obtain ⟨va1, vc1, rfl⟩ := own_shape ho1; have B1 := hid hb1; clear hb1 ho1)
  go_loopw [5, 9] (fun _ iv wr => iv = .int .i64 0 ∧ wr = w1) (fun _ _ _ => 0)
  case atStart => exact ⟨rfl, rfl⟩
  case round =>
    obtain ⟨rfl, hwr⟩ := hrel
    replace hwr := hwr.symm
    subst hwr
    go_wp2_with fail
    first | go_end0 | refine bodyPost_ret (results_none rfl _ _ _) rfl ?_
    exact ⟨rfl, B1.out⟩
end Go.Proofs.Ytjimneaimnjanaa
