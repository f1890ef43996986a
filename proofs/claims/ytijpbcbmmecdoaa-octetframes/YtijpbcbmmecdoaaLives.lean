/- The document's examples are as it says: lives answers true, whatever lies in memory; nothing that was there has turned. -/
import Derived.Test.YtijpbcbmmecdoaaNum
import Derived.Lib.SlBytesConst
namespace Go.Proofs.Ytijpbcbmmecdoaa
open Go.RowKit

theorem const_two (w : World) (O : Obj) (C : Array Value) (n c : Nat) :
    (convert 22 22 (.slice (some ⟨w.heap.size + 1, 0, none⟩) n c)).run Try.prog ((w.alloc O).alloc (.cells C 5)) = .ok (.slice (some ⟨w.heap.size + 1, 0, none⟩) n c) ((w.alloc O).alloc (.cells C 5 (C.size, C.size + 1))) := by
  have h := Lib.run_convert_bytes_const (P := Try.prog) (w.alloc O) 22 5 C n c Try.underlyingB Try.underlyingU
  simpa using h
set_option maxHeartbeats 800000 in
theorem lives_any (w : World) : Calls Try.prog 12 #[] w fun e w' => e = .returned (.bool true) ∧ Below w.heap.size w w' := by
  have kc := fun (w : World) (C : Array Value) (n c : Nat) => Lib.run_convert_bytes_const (P := Try.prog) w 22 5 C n c Try.underlyingB Try.underlyingU
  have kc2 := fun (w : World) (O : Obj) (C : Array Value) (n c : Nat) => const_two w O C n c
  have HW0 := hid (Wr.new w)
  go_enter Try.func12, Try.ntmps12
  go_wp2_with fail
  refine (num_any _ _ 300 _ (by omega) (by omega) HW0.out (by simp)).mono ?_
  rintro e w1 ⟨rfl, hw1, hb1⟩
  have HW1 := hid hw1
  clear hw1
  go_wp2_with fail
  refine (int_any _ _ (-1) _ (by omega) (by omega) HW1.out (by decide +kernel)).mono ?_
  rintro e w2 ⟨rfl, hw2, hb2⟩
  have HW2 := hid hw2
  clear hw2
  go_wp2_with fail
  refine (text_any _ _ _ _ HW2.out (by decide +kernel)).mono ?_
  rintro e w3 ⟨rfl, hw3, hb3⟩
  have HW3 := hid hw3
  clear hw3
  go_wp2_with fail
  obtain ⟨g0, g1, g2⟩ := heap3 w3 (.cells #[.int .u8 49, .int .u8 50, .int .u8 51, .int .u8 52] 5 (4, 5)) (.cells #[.int .u8 53, .int .u8 54, .int .u8 55, .int .u8 56, .int .u8 57] 5 (5, 6))
    (.cells #[.slice (some ⟨w3.heap.size, 0, none⟩) 4 4, .slice (some ⟨w3.heap.size + 1, 0, none⟩) 5 5] 22)
  refine (sum_any _ _ _ (btss_two g2 (bts_block [49, 50, 51, 52] g0 rfl 4 rfl (by omega)) (bts_block [53, 54, 55, 56, 57] g1 rfl 5 rfl (by omega)))).mono ?_
  rintro e w4 ⟨rfl, rfl⟩
  have es : crcAll [[49, 50, 51, 52], [53, 54, 55, 56, 57]].flatten = 3421780262 := by decide +kernel
  rw [es]
  clear es g0 g1 g2
  have hb4 : Below w3.heap.size w3 (((w3.alloc (.cells #[.int .u8 49, .int .u8 50, .int .u8 51, .int .u8 52] 5 (4, 5))).alloc (.cells #[.int .u8 53, .int .u8 54, .int .u8 55, .int .u8 56, .int .u8 57] 5 (5, 6))).alloc
    (.cells #[.slice (some ⟨w3.heap.size, 0, none⟩) 4 4, .slice (some ⟨w3.heap.size + 1, 0, none⟩) 5 5] 22)) :=
    (((Below.refl _ _).alloc (Nat.le_refl _) _).alloc (by simp) _).alloc (by simp; omega) _
  have hs4 := hb4.size
  have hs3 := HW3.out.lt
  go_wp2_with fail
  refine (bytes_any _ _ _ (HW3.out.below hb4) (by decide +kernel)).mono ?_
  rintro e w5 ⟨va, vc, rfl, ho5, hb5⟩
  have hcs := conv_string _ _ _ ho5.bts
  have hB : Below w.heap.size w w5 :=
    ((((((Below.refl _ _).alloc (Nat.le_refl _) _).trans hb1).trans hb2).trans hb3).trans (hb4.mono (by omega))).trans (hb5.mono (by omega))
  have HBB := hid hB
  have eL : ([] ++ numB (Int.toNat 300) ++ intB (-1) ++ textB { data := #[97, 98] }) = [130, 44, 1, 0, 2, 97, 98] := by decide +kernel
  rw [eL] at hcs
  have hcs7 : (convert 22 9 (.slice va 7 vc)).run Try.prog w5 = .ok (.string ⟨#[130, 44, 1, 0, 2, 97, 98]⟩) w5 := hcs
  rw [eL]
  clear hcs eL hB hb5 ho5 hb4 hs4 hs3 hb1 hb2 hb3 HW0 HW1 HW2 HW3
  go_wp2
  go_ret
  exact ⟨rfl, HBB.out⟩
end Go.Proofs.Ytijpbcbmmecdoaa
