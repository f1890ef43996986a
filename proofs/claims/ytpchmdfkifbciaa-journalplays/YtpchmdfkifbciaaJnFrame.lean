/- What Frame of package octet answers. Conditions: the bytes lie in memory. -/
import Derived.Test.YtpchmdfkifbciaaJnTakeW
namespace Go.Proofs.Ytpchmdfkifbciaa
open Go.RowKit

/-- What a frame's sum is over. -/
def headB (l : List UInt8) : List UInt8 := fourB l.length ++ l
/-- A frame's bytes. -/
def frameB (l : List UInt8) : List UInt8 := headB l ++ fourB (crcAll (headB l))
theorem headB_len (l : List UInt8) : (headB l).length = l.length + 4 := by unfold headB; rw [List.length_append, fourB_len]; omega
theorem frameB_len (l : List UInt8) : (frameB l).length = l.length + 8 := by unfold frameB; rw [List.length_append, fourB_len, headB_len]

set_option maxHeartbeats 800000 in
theorem frame_big (v : Value) (l : List UInt8) (w : World) (hv : Bts w v l) (hl : 1048576 < l.length) :
    Calls Try.prog 71 #[v] w fun e w' => e = .returned (.tuple #[.slice none 0 0, .int .i64 2]) ∧ w' = w := by
  obtain ⟨ao, n, cap, rfl, rfl, hc, hcap, hnone, hcell⟩ := hv
  clear hcell hnone
  have hl' : (1048576 : Int) < (l.length : Int) := by omega
  clear hl
  go_enter Try.func71, Try.ntmps71
  go_wp2
  go_ret2
  exact ⟨rfl, rfl⟩

set_option maxHeartbeats 1600000 in
theorem frame_any (v : Value) (l : List UInt8) (w : World) (hv : Bts w v l) (hl : l.length ≤ 1048576) :
    Calls Try.prog 71 #[v] w fun e w' => ∃ va vc, e = .returned (.tuple #[.slice va (l.length + 8) vc, .int .i64 0]) ∧ Own w' w.heap.size (.slice va (l.length + 8) vc) (frameB l) ∧ Below w.heap.size w w' := by
  have HV := hid hv
  obtain ⟨ao, n, cap, rfl, rfl, hc, hcap, hnone, hcell⟩ := hv
  clear hcell hnone
  have hl' : (l.length : Int) ≤ 1048576 := by omega
  obtain ⟨i0, hi, hz0, hz1, hz2⟩ := info_parts Try.infoB
  have HI := hid hi
  have HZ0 := hid hz0
  have HZ1 := hid hz1
  have HZ2 := hid hz2
  clear hi hz0 hz1 hz2
  go_enter Try.func71, Try.ntmps71
  go_wp2_with (at_make; refine wpList_make_own _ rfl _ _ 34 rfl w.heap.size 5 i0 (.int .u8 0) 1 Try.underlyingB HI.out HZ0.out HZ1.out .i64 .i64 _ (l.length + 8) rfl rfl (by omega) (by rw [HZ2.out]; omega) (by unfold maxLen; omega) (Nat.le_refl _) ?_; intro w2 ho2 hg2; have HO2 : Hid (Own w2 w.heap.size (.slice (some ⟨w.heap.size, 0, none⟩) 0 (l.length + 8)) []) := hid ho2; have HB2 : Hid (Below w.heap.size w w2) := hid ⟨hg2.os, hg2.tape, hg2.output, hg2.size, fun k hk => hg2.block k hk (by simp)⟩; clear ho2 hg2)
  have hs2 := HB2.out.size
  refine (layWord_any _ _ _ [] _ _ (by omega) (by omega) HO2.out hs2 (by simp)).mono ?_
  rintro e w3 ⟨va3, vc3, rfl, ho3, hb3⟩
  rw [Int.toNat_natCast, List.nil_append] at ho3
  have HO3 := hid ho3
  have HB3 := hid (HB2.out.trans hb3)
  have hs3 := HB3.out.size
  clear ho3 hb3 HO2 HB2 hs2
  go_wp2_with (at_builtin; refine wpl_appendO rfl (.tmp 17) (.tmp 18) rfl w.heap.size (.slice va3 4 vc3) (fourB l.length) rfl HO3.out _ l rfl (HV.out.below HB3.out) (by rw [fourB_len]; omega) hs3 ?_; intro va4 vc4 w4 ho4 hg4; rw [fourB_len] at ho4 ⊢; have HO4 : Hid (Own w4 w.heap.size (.slice va4 (4 + l.length) vc4) (headB l)) := hid ho4; have HB4 := hid (HB3.out.trans (below_grown HO3.out hg4 hs3)); clear ho4 hg4)
  have hs4 := HB4.out.size
  refine (sum_any _ _ _ (btss_one (heap_alloc_new _ _) (HO4.out.bts.alloc _))).mono ?_
  rintro e w5 ⟨rfl, rfl⟩
  rw [show [headB l].flatten = headB l from by simp]
  have hcl := crcAll_lt (headB l)
  obtain ⟨q, hq⟩ : ∃ q, q = crcAll (headB l) := ⟨_, rfl⟩
  rw [← hq] at hcl ⊢
  have HQ := hid hq
  have hhl := headB_len l
  have HHL := hid hhl
  clear hq hhl
  go_wp2_with fail
  have ho5 := HO4.out.below ((Below.refl _ _).alloc (Nat.le_refl _) (.cells #[.slice va4 (4 + l.length) vc4] 34))
  have e5 : 4 + l.length = (headB l).length := by rw [HHL.out]; omega
  rw [e5] at ho5 ⊢
  refine (layWord_any w.heap.size _ _ (headB l) (q : Int) _ (by omega) (by omega) ho5 (by simp; omega) (by rw [HHL.out]; omega)).mono ?_
  rintro e w6 ⟨va6, vc6, rfl, ho6, hb6⟩
  rw [Int.toNat_natCast, HQ.out] at ho6
  have HO6 : Hid (Own w6 w.heap.size (.slice va6 ((headB l).length + 4) vc6) (frameB l)) := hid ho6
  have HB6 := hid ((HB4.out.alloc hs4 _).trans hb6)
  clear ho6 hb6 ho5 e5
  rw [HHL.out] at HO6 ⊢
  go_wp2
  go_ret2
  exact ⟨va6, vc6, rfl, HO6.out, HB6.out⟩
end Go.Proofs.Ytpchmdfkifbciaa
