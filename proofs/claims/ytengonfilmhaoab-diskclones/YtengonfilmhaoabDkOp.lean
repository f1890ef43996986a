/- What an Op lays, and what Do does with it on a device. Conditions: the device and the Op's bytes lie in memory. -/
import Derived.Test.YtengonfilmhaoabDkLives
import Derived.Deep.DeepCutAuto
namespace Go.Proofs.Ytengonfilmhaoab
open Go.RowKit

/-- What an Op lays in n rounds. -/
def opB (m : List UInt8) : Nat → List UInt8
  | 0 => []
  | n + 1 => if (opB m n).length + m.length ≤ 3000 then opB m n ++ m else opB m n
theorem opB_len (m : List UInt8) (n : Nat) : (opB m n).length ≤ 3000 := by
  induction n with
  | zero => exact Nat.zero_le _
  | succ n ih =>
    unfold opB
    split
    · rw [List.length_append]; assumption
    · exact ih
theorem opB_nil (m : List UInt8) (n : Nat) : opB m n = [] ∨ m.length ≤ 3000 := by
  induction n with
  | zero => exact .inl rfl
  | succ n ih =>
    unfold opB
    split
    · exact .inr (by omega)
    · exact ih
def opV (kind n : Int) (v : Value) (t : Nat) : Value := .agg #[.int .i64 kind, .int .i64 n, v, .int .u64 (t : Int)]
set_option maxHeartbeats 1600000 in
theorem bytes_any (kind n : Int) (v : Value) (t : Nat) (m : List UInt8) (w : World) (hv : Bts w v m) (ht : t ≤ 18446744073709551615) :
    Calls Try.prog 37 #[.agg #[.int .i64 kind, .int .i64 n, v, .int .u64 (t : Int)]] w fun e w' => ∃ va vc, e = .returned (.slice va (opB m (t % 100 + 1)).length vc) ∧ Own w' w.heap.size (.slice va (opB m (t % 100 + 1)).length vc) (opB m (t % 100 + 1)) ∧ Below w.heap.size w w' := by
  have HV := hid hv
  obtain ⟨a0, n0, c0, rfl, rfl, g1, g2, g3, g4⟩ := hv
  clear g4 g3
  obtain ⟨T, hT⟩ : ∃ T : Nat, T = t % 100 + 1 := ⟨_, rfl⟩
  rw [← hT]
  have HT0 := hid hT
  clear hT
  go_enter Try.func37, Try.ntmps37
  go_wp2_with fail
  have hT := HT0.out
  rw [show ((t : Int) % 100 + 1) = (T : Int) from by rw [hT]; omega]
  have hT2 : T ≤ 100 := by omega
  clear hT ht
  obtain ⟨W, hW⟩ : ∃ W, W = w.alloc (.cells #[.int .i64 kind, .int .i64 n, .slice a0 m.length c0, .int .u64 (t : Int)] 40) := ⟨_, rfl⟩
  rw [← hW]
  have BW : Hid (Below w.heap.size w W) := hid (by rw [hW]; exact (Below.refl _ _).alloc (Nat.le_refl _) _)
  have CW : Hid (W.cell? ⟨w.heap.size, 2, none⟩ = some (.slice a0 m.length c0)) := hid (by rw [hW, World.cell?_alloc_at _ _ _ _ rfl]; rfl)
  clear hW
  have VW := hid (HV.out.below BW.out)
  go_loopw [3, 8] (fun bv iv wr => ∃ (i : Nat) (va : Option Addr) (vc : Nat), i ≤ T ∧ iv = .int .u64 i ∧ bv = .slice va (opB m i).length vc ∧ Own wr W.heap.size (.slice va (opB m i).length vc) (opB m i) ∧ Below W.heap.size W wr) (fun _ iv _ => T - (intOf iv).toNat)
  case atStart => exact ⟨0, none, 0, Nat.zero_le _, rfl, rfl, Own.nil _ _, Below.refl _ _⟩
  case round =>
    obtain ⟨i, va, vc, hi, rfl, rfl, hown, hbel⟩ := hrel
    by_cases hlt : (i : Int) < (T : Int)
    · have hl := opB_len m i
      have hcell := cell_later hbel CW.out
      have HB := hid hbel
      have HO := hid hown
      have hsum : ((opB m i).length : Int) + (m.length : Int) ≤ 9223372036854775807 := by
        rcases opB_nil m i with h | h
        · rw [h, List.length_nil]; omega
        · omega
      have e1 : IntKind.i64.wrap (((opB m i).length : Int) + (m.length : Int)) = ((opB m i).length : Int) + (m.length : Int) := IntWalk.i64_in _ ⟨by omega, by omega⟩
      have hsz : W.heap.size ≤ wr.heap.size := hbel.size
      obtain ⟨l, hl0⟩ : ∃ l, l = opB m i := ⟨_, rfl⟩
      rw [← hl0] at hl HO hsum e1 ⊢
      have HL : Hid (opB m (i + 1) = if l.length + m.length ≤ 3000 then l ++ m else l) := hid (by rw [hl0]; rfl)
      clear hl0 hbel hown
      by_cases hfit : (l.length : Int) + (m.length : Int) ≤ 3000
      · have HZ := hid (show l.length + m.length ≤ 140737488355328 by omega)
        have HE : Hid (opB m (i + 1) = l ++ m) := hid (by rw [HL.out, if_pos (by omega)])
        go_wp2_with (at_builtin; refine wpl_append rfl _ _ rfl W.heap.size (.slice va l.length vc) l rfl HO.out _ m rfl (VW.out.below HB.out) HZ.out hsz ?_; intro va1 vc1 w1 ho1 hg1 hat1; have HO1 := hid ho1; have HB1 := hid (HB.out.trans ((Below.refl _ _).grown hg1 hsz fun k hk => (HO.out.lt k hk).1)); clear ho1 hg1 hat1)
        go_roundw
        case rel =>
          refine ⟨i + 1, va1, vc1, by omega, by go_num, ?_⟩
          rw [HE.out, List.length_append]
          exact ⟨rfl, HO1.out, HB1.out⟩
        case measure => simp [intOf]; omega
      · have HE : Hid (opB m (i + 1) = l) := hid (by rw [HL.out, if_neg (by omega)])
        go_wp2_with fail
        go_roundw
        case rel =>
          refine ⟨i + 1, va, vc, by omega, by go_num, ?_⟩
          rw [HE.out]
          exact ⟨rfl, HO.out, HB.out⟩
        case measure => simp [intOf]; omega
    · obtain rfl : i = T := by omega
      have HB := hid hbel
      have HO := hid hown
      clear hbel hown
      go_wp2_with fail
      go_ret
      exact ⟨va, vc, rfl, HO.out.lower BW.out.size, BW.out.trans (HB.out.mono BW.out.size)⟩
end Go.Proofs.Ytengonfilmhaoab
