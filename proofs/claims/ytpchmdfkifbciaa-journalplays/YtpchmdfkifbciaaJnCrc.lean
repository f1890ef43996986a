/- What the functions on sums answer: shiftByte, More and Sum of package octet, Sum and CRC of the document's answer. Conditions: the rows of bytes lie in memory as lists. -/
import Derived.Test.YtpchmdfkifbciaaDkLives
import Derived.Test.YtpchmdfkifbciaaMath
import Derived.WalkSpells
import Derived.WalkLawsBesides
namespace Go.Proofs.Ytpchmdfkifbciaa
open Go.RowKit

theorem ret_u32 {a b : Int} (h : a = b) : Ending.returned (.int .u32 a) = .returned (.int .u32 b) := by rw [h]

set_option maxHeartbeats 400000 in
theorem shift_any (x : Int) (w : World) (h0 : 0 ≤ x) (h1 : x < 4294967296) :
    Calls Try.prog 83 #[.int .u32 x] w fun e w' => e = .returned (.int .u32 (crcByte x.toNat : Nat)) ∧ w' = w := by
  go_enter Try.func83, Try.ntmps83
  go_wp2
  go_loop [0, 4] (fun r i => ∃ k : Nat, k ≤ 8 ∧ i = .int .i64 k ∧ r = .int .u32 (crcSteps k x.toNat : Nat)) (fun _ i => 8 - (intOf i).toNat)
  case atStart => exact ⟨0, by omega, rfl, by simp [crcSteps, Int.toNat_of_nonneg h0]⟩
  case round =>
    obtain ⟨k, hk, rfl, rfl⟩ := hrel
    have hlt' := crcSteps_lt k (x := x.toNat) (by omega)
    obtain ⟨y, hy⟩ : ∃ y, y = crcSteps k x.toNat := ⟨_, rfl⟩
    rw [← hy] at hlt'
    have HY : Hid (crcSteps (k + 1) x.toNat = crcStep y) := by rw [crcSteps_snoc, hy]; exact rfl
    rw [← hy]
    have HY0 : Hid (y = crcSteps k x.toNat) := hy
    clear hy
    have e1 := and_one (y : Int) (by omega) (by omega)
    have e2 := xor_poly ((y : Int) / 2) (by omega) (by omega)
    by_cases hlt : k < 8
    · go_wp2
      · have ho : (y : Int) % 2 = 1 := by simp at *; omega
        go_round
        case rel => exact ⟨k + 1, by omega, by go_num, by rw [HY.out]; unfold crcStep; rw [if_pos (by omega)]⟩
        case measure => simp [intOf]; omega
      · have ho : ¬ (y : Int) % 2 = 1 := by simp at *; omega
        go_round
        case rel => exact ⟨k + 1, by omega, by go_num, by rw [HY.out]; unfold crcStep; rw [if_neg (by omega)]; go_num⟩
        case measure => simp [intOf]; omega
    · go_wp2
      go_ret
      obtain rfl : k = 8 := by omega
      exact ⟨by rw [HY0.out]; rfl, rfl⟩

set_option maxHeartbeats 400000 in
theorem more_any (s : Int) (v : Value) (l : List UInt8) (w : World) (h0 : 0 ≤ s) (h1 : s < 4294967296) (hv : Bts w v l) :
    Calls Try.prog 82 #[.int .u32 s, v] w fun e w' => e = .returned (.int .u32 (4294967295 - crcRow (4294967295 - s.toNat) l : Nat)) ∧ w' = w := by
  obtain ⟨ao, n, cap, rfl, rfl, hc, hcap, hnone, hcell⟩ := hv
  have en := not_u32 s h0 h1
  go_enter Try.func82, Try.ntmps82
  go_wp2
  clear en
  go_loop [5, 12] (fun r i => ∃ k : Nat, k ≤ l.length ∧ i = .int .i64 k ∧ r = .int .u32 (crcRow (4294967295 - s.toNat) (l.take k) : Nat)) (fun _ i => l.length - (intOf i).toNat)
  case atStart => exact ⟨0, by omega, rfl, by simp [crcRow]⟩
  case round =>
    obtain ⟨k, hk, rfl, rfl⟩ := hrel
    have hlt' := crcRow_lt (l.take k) (x := 4294967295 - s.toNat) (by omega)
    obtain ⟨y, hy⟩ : ∃ y, y = crcRow (4294967295 - s.toNat) (l.take k) := ⟨_, rfl⟩
    rw [← hy] at hlt'
    rw [← hy]
    have HY0 : Hid (y = crcRow (4294967295 - s.toNat) (l.take k)) := hy
    clear hy
    by_cases hlt : k < l.length
    · have HY : Hid (crcRow (4294967295 - s.toNat) (l.take (k + 1)) = crcByte (y ^^^ l[k].toNat)) := by rw [crcRow_take _ _ _ hlt, ← HY0.out]; exact rfl
      have hao : ∃ ad, ao = some ad := by cases ao with | none => exact absurd (hnone rfl) (by omega) | some ad => exact ⟨ad, rfl⟩
      obtain ⟨ad, rfl⟩ := hao
      have hck := hcell ad rfl k hlt
      have hb := (l[k]).toNat_lt
      have hx := xor_byte_lt hlt' l[k]
      have ex := xor_reg y l[k] hlt'
      obtain ⟨c, hc'⟩ : ∃ c : Nat, c = l[k].toNat := ⟨_, rfl⟩
      rw [← hc'] at hck hb hx ex HY
      clear hcell hc' hnone
      go_wp2_with (go_at_call 83; refine (shift_any _ _ (by omega) (by omega)).mono ?_; rintro e w' ⟨rfl, rfl⟩)
      go_round
      case rel => exact ⟨k + 1, by omega, by go_num, by rw [HY.out]⟩
      case measure => simp [intOf]; omega
    · obtain rfl : k = l.length := by omega
      have en := not_u32 y (by omega) (by omega)
      go_wp2
      go_ret
      exact ⟨by rw [HY0.out, List.take_length]; simp, rfl⟩

/-- The value v is a slice of slices of bytes. -/
def Btss (w : World) (v : Value) (ls : List (List UInt8)) : Prop :=
  ∃ ao n cap, v = .slice ao n cap ∧ n = ls.length ∧ n ≤ cap ∧ cap ≤ 9223372036854775807 ∧ (ao = none → cap = 0) ∧
    ∀ ad, ao = some ad → ∀ j, (h : j < ls.length) → ∃ u, w.cell? (ad.add j) = some u ∧ Bts w u ls[j]

/-- The sum of several parts, one behind another. -/
def sumAll (ls : List (List UInt8)) : Nat := ls.foldl (fun s l => 4294967295 - crcRow (4294967295 - s) l) 0

set_option maxHeartbeats 400000 in
theorem sum_any (v : Value) (ls : List (List UInt8)) (w : World) (hv : Btss w v ls) :
    Calls Try.prog 79 #[v] w fun e w' => e = .returned (.int .u32 (crcAll ls.flatten : Nat)) ∧ w' = w := by
  obtain ⟨ao, n, cap, rfl, rfl, hc, hcap, hnone, hcell⟩ := hv
  go_enter Try.func79, Try.ntmps79
  go_wp2
  go_loop [3, 8] (fun r i => ∃ k : Nat, k ≤ ls.length ∧ i = .int .i64 k ∧ r = .int .u32 (crcAll (ls.take k).flatten : Nat)) (fun _ i => ls.length - (intOf i).toNat)
  case atStart => exact ⟨0, by omega, rfl, by simp [crcAll, crcRow]⟩
  case round =>
    obtain ⟨k, hk, rfl, rfl⟩ := hrel
    have hlt' := crcAll_lt (ls.take k).flatten
    obtain ⟨y, hy⟩ : ∃ y, y = crcAll (ls.take k).flatten := ⟨_, rfl⟩
    rw [← hy] at hlt'
    rw [← hy]
    have HY0 : Hid (y = crcAll (ls.take k).flatten) := hy
    clear hy
    by_cases hlt : k < ls.length
    · have HY : Hid (crcAll (ls.take (k + 1)).flatten = 4294967295 - crcRow (4294967295 - y) ls[k]) := crcAll_take ls k hlt y HY0.out
      have hao : ∃ ad, ao = some ad := by cases ao with | none => exact absurd (hnone rfl) (by omega) | some ad => exact ⟨ad, rfl⟩
      obtain ⟨ad, rfl⟩ := hao
      obtain ⟨u, hck, hu⟩ := hcell ad rfl k hlt
      clear hcell hnone
      have HU : Hid (Bts w u ls[k]) := hu
      obtain ⟨uo, un, uc, rfl, -⟩ := hu
      go_wp2_with (go_at_call 82; refine (more_any _ _ _ _ (by omega) (by omega) HU.out).mono ?_; rintro e w' ⟨rfl, rfl⟩)
      go_round
      case rel => exact ⟨k + 1, by omega, by go_num, by rw [HY.out]⟩
      case measure => simp [intOf]; omega
    · obtain rfl : k = ls.length := by omega
      go_wp2
      go_ret
      exact ⟨ret_u32 (by rw [HY0.out, List.take_length]), rfl⟩

set_option maxHeartbeats 800000 in
theorem refSum_any (s : Int) (v : Value) (l : List UInt8) (w : World) (h0 : 0 ≤ s) (h1 : s < 4294967296) (hv : Bts w v l) :
    Calls Try.prog 77 #[.int .u32 s, v] w fun e w' => e = .returned (.int .u32 (crcRow s.toNat l : Nat)) ∧ w' = w := by
  obtain ⟨ao, n, cap, rfl, rfl, hc, hcap, hnone, hcell⟩ := hv
  go_enter Try.func77, Try.ntmps77
  go_wp2
  go_loop [5, 6] (fun r i => ∃ k : Nat, k ≤ l.length ∧ i = .int .i64 k ∧ r = .int .u32 (crcRow s.toNat (l.take k) : Nat)) (fun _ i => l.length - (intOf i).toNat)
  case atStart => exact ⟨0, by omega, rfl, by simp [crcRow, Int.toNat_of_nonneg h0]⟩
  case round =>
    obtain ⟨k, hk, rfl, rfl⟩ := hrel
    have hlt' := crcRow_lt (l.take k) (x := s.toNat) (by omega)
    obtain ⟨y, hy⟩ : ∃ y, y = crcRow s.toNat (l.take k) := ⟨_, rfl⟩
    rw [← hy] at hlt'
    rw [← hy]
    have HY0 : Hid (y = crcRow s.toNat (l.take k)) := hy
    clear hy
    by_cases hlt : k < l.length
    · have HY : Hid (crcRow s.toNat (l.take (k + 1)) = crcByte (y ^^^ l[k].toNat)) := by rw [crcRow_take _ _ _ hlt, ← HY0.out]; exact rfl
      have hao : ∃ ad, ao = some ad := by cases ao with | none => exact absurd (hnone rfl) (by omega) | some ad => exact ⟨ad, rfl⟩
      obtain ⟨ad, rfl⟩ := hao
      have hck := hcell ad rfl k hlt
      have hb := (l[k]).toNat_lt
      have hx := xor_byte_lt hlt' l[k]
      have ex := xor_reg y l[k] hlt'
      obtain ⟨c, hc'⟩ : ∃ c : Nat, c = l[k].toNat := ⟨_, rfl⟩
      rw [← hc'] at hck hb hx ex HY
      clear hcell hc' hnone
      obtain ⟨z, hz⟩ : ∃ z : Nat, z = y ^^^ c := ⟨_, rfl⟩
      rw [← hz] at hx HY ex
      clear hz
      go_wp2
      clear ex hck
      go_loop [5, 7] (fun r i => ∃ j : Nat, j ≤ 8 ∧ i = .int .i64 j ∧ r = .int .u32 (crcSteps j z : Nat)) (fun _ i => 8 - (intOf i).toNat)
      case atStart => exact ⟨0, by omega, rfl, rfl⟩
      case round =>
        obtain ⟨j, hj, rfl, rfl⟩ := hrel
        have hjt := crcSteps_lt j hx
        obtain ⟨q, hq⟩ : ∃ q, q = crcSteps j z := ⟨_, rfl⟩
        rw [← hq] at hjt
        have HQ : Hid (crcSteps (j + 1) z = crcStep q) := by rw [crcSteps_snoc, hq]; exact rfl
        rw [← hq]
        have HQ0 : Hid (q = crcSteps j z) := hq
        clear hq
        have e2 := xor_poly ((q : Int) / 2) (by omega) (by omega)
        by_cases hjlt : j < 8
        · by_cases ho : (q : Int) % 2 = 1
          · go_wp2
            go_round
            case rel => exact ⟨j + 1, by omega, by go_num, by rw [HQ.out]; unfold crcStep; rw [if_pos (by omega)]⟩
            case measure => simp [intOf]; omega
          · go_wp2
            go_round
            case rel => exact ⟨j + 1, by omega, by go_num, by rw [HQ.out]; unfold crcStep; rw [if_neg (by omega)]; go_num⟩
            case measure => simp [intOf]; omega
        · obtain rfl : j = 8 := by omega
          go_wp2
          go_round
          case rel => exact ⟨k + 1, by omega, by go_num, by rw [HY.out, HQ0.out]; rfl⟩
          case measure => simp [intOf]; omega
    · obtain rfl : k = l.length := by omega
      go_wp2
      go_ret
      exact ⟨ret_u32 (by rw [HY0.out, List.take_length]), rfl⟩

set_option maxHeartbeats 400000 in
theorem refCRC_any (v : Value) (l : List UInt8) (w : World) (hv : Bts w v l) :
    Calls Try.prog 67 #[v] w fun e w' => e = .returned (.int .u32 (crcAll l : Nat)) ∧ w' = w := by
  have HV : Hid (Bts w v l) := hv
  obtain ⟨ao, n, cap, rfl, -⟩ := hv
  have hlt := crcRow_lt l (x := 4294967295) (by omega)
  go_enter Try.func67, Try.ntmps67
  go_wp2_with (go_at_call 77; refine (refSum_any _ _ _ _ (by omega) (by omega) HV.out).mono ?_; rintro e w' ⟨rfl, rfl⟩)
  go_ret
  exact ⟨ret_u32 (by unfold crcAll; omega), rfl⟩

end Go.Proofs.Ytpchmdfkifbciaa
