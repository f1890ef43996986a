/- same of the laws answers true of two rows of the same rows of bytes. Conditions: the rows lie in memory. -/
import Derived.Test.YtpchmdfkifbciaaJnRecs
namespace Go.Proofs.Ytpchmdfkifbciaa
open Go.RowKit

theorem Btss.drewN {w : World} {v : Value} {ls : List (List UInt8)} (h : Btss w v ls) (n : Nat) : Btss (w.drewN n) v ls := h.below (drewN_below w n)
set_option maxHeartbeats 1600000 in
theorem jsame_any (u v : Value) (ls : List (List UInt8)) (w : World) (hu : Btss w u ls) (hv : Btss w v ls) :
    Calls Try.prog 30 #[u, v] w fun e w' => e = .returned (.bool true) ∧ Below w.heap.size w w' := by
  obtain ⟨ao, n, cap, rfl, rfl, hc, hcap, hnone, hcell⟩ := hu
  obtain ⟨bo, n', dap, rfl, rfl, hd, hdap, hnoneB, hcellB⟩ := hv
  have HC := hid hcell
  have HCB := hid hcellB
  clear hcell hcellB
  go_enter Try.func30, Try.ntmps30
  go_wp2
  go_loopw [5, 13] (fun _ iv wr => ∃ i : Nat, iv = .int .i64 i ∧ i ≤ ls.length ∧ Below w.heap.size w wr) (fun _ iv _ => ls.length - (intOf iv).toNat)
  case atStart => exact ⟨0, rfl, Nat.zero_le _, Below.refl _ _⟩
  case round =>
    obtain ⟨i, rfl, hi, hbw⟩ := hrel
    have HB := hid hbw
    clear hbw
    by_cases hlt : (i : Int) < (ls.length : Int)
    · have hao : ∃ ad, ao = some ad := by cases ao with | none => exact absurd (hnone rfl) (by omega) | some ad => exact ⟨ad, rfl⟩
      have hbo : ∃ ad, bo = some ad := by cases bo with | none => exact absurd (hnoneB rfl) (by omega) | some ad => exact ⟨ad, rfl⟩
      obtain ⟨ad, rfl⟩ := hao
      obtain ⟨bd, rfl⟩ := hbo
      obtain ⟨x, kx, hx⟩ := HC.out ad rfl i (by omega)
      obtain ⟨y, ky, hy⟩ := HCB.out bd rfl i (by omega)
      obtain ⟨r, hr⟩ : ∃ r, r = ls[i] := ⟨_, rfl⟩
      rw [← hr] at hx hy
      clear hr
      obtain ⟨xa, xc, rfl⟩ := hx.shape
      obtain ⟨ya, yc, rfl⟩ := hy.shape
      have s1 := fun q => conv_string (wr.drewN q) _ _ ((hx.below HB.out).below (drewN_below wr q))
      have s2 := fun q => conv_string (wr.drewN q) _ _ ((hy.below HB.out).below (drewN_below wr q))
      have k1 := cell_later HB.out kx
      have k2 := cell_later HB.out ky
      clear hx hy kx ky
      go_wp2
      go_quiet (fail)
      go_wp2
      go_roundw
      case rel => exact ⟨i + 1, by go_num, by omega, HB.out.trans ((drewN_below wr _).mono HB.out.size)⟩
      case measure => simp [intOf]; omega
    · obtain rfl : i = ls.length := by omega
      go_wp2
      go_ret
      exact ⟨rfl, HB.out⟩
end Go.Proofs.Ytpchmdfkifbciaa
