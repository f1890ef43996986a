/- What takeWord of package octet answers. Conditions: at least four bytes stand there. -/
import Derived.Test.YtpchmdfkifbciaaJnWord
namespace Go.Proofs.Ytpchmdfkifbciaa
open Go.RowKit
theorem or_up (i a c : Nat) (ha : a < 2 ^ i) (hc : c < 256) (hi : i + 8 ≤ 32) : bits .or .u32 (a : Int) ((c * 2 ^ i : Nat) : Int) = ((a + c * 2 ^ i : Nat) : Int) := by
  have h1 : c * 2 ^ i < 2 ^ (i + 8) := by rw [Nat.pow_add, Nat.mul_comm]; exact Nat.mul_lt_mul_of_pos_left hc (Nat.two_pow_pos i)
  have h2 : (2 : Nat) ^ (i + 8) ≤ 2 ^ 32 := Nat.pow_le_pow_right (by omega) hi
  have h3 : (2 : Nat) ^ i ≤ 2 ^ (i + 8) := Nat.pow_le_pow_right (by omega) (by omega)
  rw [u32_or_nat _ _ (by omega) (by omega), Nat.or_comm, Nat.mul_comm, ← Nat.two_pow_add_eq_or_of_lt ha, Nat.add_comm]
set_option maxHeartbeats 800000 in
theorem takeWord_any (v : Value) (l : List UInt8) (w : World) (hv : Bts w v l) (h4 : 4 ≤ l.length) :
    Calls Try.prog 80 #[v] w fun e w' => e = .returned (.int .u32 (wordV l : Nat)) ∧ w' = w := by
  match l, h4, hv with
  | c0 :: c1 :: c2 :: c3 :: t, _, hv =>
    obtain ⟨ao, n, cap, rfl, hn, hc, hcap, hnone, hcell⟩ := hv
    have hlen : n = t.length + 4 := by simpa using hn
    subst hlen
    have hao : ∃ ad, ao = some ad := by cases ao with | none => exact absurd (hnone rfl) (by omega) | some ad => exact ⟨ad, rfl⟩
    obtain ⟨ad, rfl⟩ := hao
    have k0 := hcell ad rfl 0 (by simp)
    have k1 := hcell ad rfl 1 (by simp)
    have k2 := hcell ad rfl 2 (by simp)
    have k3 := hcell ad rfl 3 (by simp)
    simp only [List.getElem_cons_zero, List.getElem_cons_succ, Addr.add_zero', Addr.add_succ'] at k0 k1 k2 k3
    have b0 := c0.toNat_lt; have b1 := c1.toNat_lt; have b2 := c2.toNat_lt; have b3 := c3.toNat_lt
    have HW : Hid (wordV (c0 :: c1 :: c2 :: c3 :: t) = c0.toNat + c1.toNat * 256 + c2.toNat * 65536 + c3.toNat * 16777216) := hid rfl
    generalize c0.toNat = x0 at *
    generalize c1.toNat = x1 at *
    generalize c2.toNat = x2 at *
    generalize c3.toNat = x3 at *
    clear hn hcell hnone hv h4
    have K1 : w.cell? ⟨ad.block, ad.off + 1, none⟩ = some (.int .u8 (x1 : Int)) := k1
    have K2 : w.cell? ⟨ad.block, ad.off + 2, none⟩ = some (.int .u8 (x2 : Int)) := k2
    have K3 : w.cell? ⟨ad.block, ad.off + 3, none⟩ = some (.int .u8 (x3 : Int)) := k3
    clear k1 k2 k3
    have e0 : bits .or .u32 0 (x0 : Int) = (x0 : Int) := by have := or_up 0 0 x0 (by omega) (by omega) (by omega); simpa using this
    have e1 : bits .or .u32 (x0 : Int) ((x1 : Int) * 256) = (x0 : Int) + (x1 : Int) * 256 := by have := or_up 8 x0 x1 (by omega) (by omega) (by omega); simpa using this
    have e2 : bits .or .u32 ((x0 : Int) + (x1 : Int) * 256) ((x2 : Int) * 65536) = (x0 : Int) + (x1 : Int) * 256 + (x2 : Int) * 65536 := by have := or_up 16 (x0 + x1 * 256) x2 (by omega) (by omega) (by omega); simpa using this
    have e3 : bits .or .u32 ((x0 : Int) + (x1 : Int) * 256 + (x2 : Int) * 65536) ((x3 : Int) * 16777216) = (x0 : Int) + (x1 : Int) * 256 + (x2 : Int) * 65536 + (x3 : Int) * 16777216 := by have := or_up 24 (x0 + x1 * 256 + x2 * 65536) x3 (by omega) (by omega) (by omega); simpa using this
    have p0 : (x0 : Int) ≤ 255 := by omega
    have p1 : (x1 : Int) ≤ 255 := by omega
    have p2 : (x2 : Int) ≤ 255 := by omega
    have p3 : (x3 : Int) ≤ 255 := by omega
    clear b0 b1 b2 b3
    go_enter Try.func80, Try.ntmps80
    go_wp2
    refine wp_loop_rounds 5 ?_
    rw [rounds_succ]
    go_wp2
    rw [rounds_succ]
    go_wp2
    rw [rounds_succ]
    go_wp2
    rw [rounds_succ]
    go_wp2
    rw [rounds_succ]
    go_wp2
    go_ret
    rw [HW.out]
    exact ⟨ret_u32 (by omega), rfl⟩
end Go.Proofs.Ytpchmdfkifbciaa
