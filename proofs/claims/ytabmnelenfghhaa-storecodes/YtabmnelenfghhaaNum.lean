/- What the Writer's calls lay. -/
import Derived.Test.YtabmnelenfghhaaNumMath
namespace Go.Proofs.Ytabmnelenfghhaa
open Go.RowKit

theorem Try.underlyingA : Try.prog.underlying 128 = some (.array 10 5) := by kernel_rfl
theorem Try.arrA : Try.prog.arrayLen 128 = 10 := by kernel_rfl
theorem Try.elemA : Try.prog.elem 128 = 5 := by kernel_rfl
theorem slice_arr (w : World) (a : Addr) (k : Nat) (hk : k ≤ 9) :
    (Instr.sliceAt 128 (.pointer (some a)) (some (.int .i64 k)) none none).run Try.prog w = .ok (.slice (some (a.add k)) (10 - k) (10 - k)) w := by
  obtain ⟨i, hi, hz0, hz1, hz2⟩ := info_parts Try.infoB
  rw [run_sliceAt_array_l w _ a (by rw [Try.arrA, Try.elemA]; exact Try.underlyingA) .i64 k (by omega) (by rw [Try.arrA]; omega), Try.elemA, Try.arrA]
  simp [sizeOf, typeInfo, hi, hz1, slicedAt, show ¬ 10 = k from by omega]

theorem bts_arr (w : World) (cs : Array Value) (a : Nat) (l : List UInt8) (t : TypeId) (hs : cs.size = 10) (ha : a ≤ 9) (hd : cs.toList.drop a = l.map bv) :
    Bts (w.alloc (.cells cs t)) (.slice (some ⟨w.heap.size, a, none⟩) (10 - a) (10 - a)) l := by
  have hl : 10 - a = l.length := by have := congrArg List.length hd; simpa [hs] using this
  refine ⟨_, _, _, rfl, hl, Nat.le_refl _, by omega, (fun h => by cases h), ?_⟩
  intro ad had j hj
  obtain rfl := Option.some.inj had
  rw [Addr.add_lit, World.cell?_alloc_at _ _ _ _ rfl]
  have e := congrArg (fun x => x[j]?) hd
  simp only [List.getElem?_drop, List.getElem?_map] at e
  rw [List.getElem?_eq_getElem hj] at e
  simpa [bv] using e

set_option maxHeartbeats 400000 in
theorem num_any (b : Nat) (l : List UInt8) (n : Int) (w : World) (h0 : 0 ≤ n) (h1 : n < 18446744073709551616) (hw : Wr w b l) (hsz : l.length ≤ 140737488350000) :
    Calls Try.prog 41 #[.pointer (some ⟨b, 0, none⟩), .int .u64 n] w fun e w' => e = .returned (.tuple #[]) ∧ Wr w' b (l ++ numB n.toNat) ∧ Below b w w' := by
  have hlt := hw.lt
  have HW : Hid (Wr w b l) := hw
  clear hw
  obtain ⟨n0, rfl⟩ := Int.eq_ofNat_of_zero_le h0
  rw [Int.toNat_natCast]
  have e1 := u64_and127 n0 h0 h1
  go_enter Try.func41, Try.ntmps41
  go_wp2
  clear e1
  go_loopw [1, 5] (fun nv av wr => ∃ (q a : Nat) (acc : List UInt8) (cs : Array Value), nv = .int .u64 q ∧ av = .int .i64 a ∧ q < 18446744073709551616 ∧ NumAt n0 q a acc ∧ cs.size = 10 ∧ cs.toList.drop a = acc.map bv ∧ wr = w.alloc (.cells cs 128)) (fun nv _ _ => (intOf nv).toNat)
  case atStart =>
    exact ⟨n0 / 128, 9, _, _, by simp, rfl, by omega, NumAt.start n0, rfl, by rw [List.map_cons, bv_num _ (by omega)]; simp, rfl⟩
  case round =>
    obtain ⟨q, a, acc, cs, rfl, rfl, hq, hN, hs, hd, rfl⟩ := hrel
    have ha := hN.1
    have HN : Hid (NumAt n0 q a acc) := hN
    clear hN
    have HD : Hid (cs.toList.drop a = acc.map bv) := hd
    clear hd
    by_cases hp : 0 < q
    · have hr := HN.out.room (by omega) hp
      have e2 := u64_and127 q (by omega) (by omega)
      have e3 := u64_or128 ((q : Int) % 128) (by omega) (by omega)
      have HQ : Hid (q < 18446744073709551616) := hq
      have H1 : Hid ((n0 : Int) < 18446744073709551616) := h1
      clear hq h1
      obtain ⟨old, hold⟩ : ∃ old, cs[a - 1]? = some old := ⟨cs[a - 1]'(by omega), by simp [show a - 1 < cs.size from by omega]⟩
      go_wp2
      go_roundw
      case rel =>
        have hst := HN.out.step (by have := H1.out; omega) hp
        have hds := drop_set (c := UInt8.ofNat (q % 128 + 128)) hs hr ha HD.out (v := .int .u8 ((q : Int) % 128 + 128)) (by rw [bv_num _ (by omega)]; simp)
        exact ⟨q / 128, a - 1, _, _, by go_num, by go_num, by have := HQ.out; omega, hst, hds.1, hds.2, rfl⟩
      case measure => simp [intOf]; omega
    · have hsl := fun (w' : World) => slice_arr w' ⟨w.heap.size, 0, none⟩ a ha
      obtain rfl : q = 0 := by omega
      have hdone := HN.out.done
      have hlen := HN.out.2.1
      have hW1 := HW.out.below ((Below.refl _ _).alloc (Nat.le_refl _) (.cells cs 128))
      have hbts := bts_arr w cs a (numB n0) 128 hs ha (by rw [← hdone]; exact HD.out)
      have HW1 := hio hW1
      have HB := hio hbts
      have hnl := numB_len n0 (by omega)
      clear hW1 hbts hq h1
      go_wp2_with (go_at_call 66; refine (lay_any _ _ _ _ _ HW1.out HB.out (by omega)).mono ?_; rintro e w' ⟨rfl, hw', hb'⟩)
      go_end0
      exact ⟨rfl, hw', ((Below.refl _ _).alloc (by omega) _).trans hb'⟩

/-- A new block of bytes, as a slice. -/
theorem bts_lit (w : World) (l : List UInt8) (t : TypeId) (cs : Array Value) (hc : cs = (l.map bv).toArray) (hl : l.length ≤ 9223372036854775807) : Bts (w.alloc (.cells cs t)) (.slice (some ⟨w.heap.size, 0, none⟩) l.length l.length) l := by
  subst hc
  refine ⟨_, _, _, rfl, rfl, Nat.le_refl _, hl, (fun h => by cases h), ?_⟩
  intro ad had j hj
  obtain rfl := Option.some.inj had
  rw [Addr.add_lit, World.cell?_alloc_at _ _ _ _ rfl]
  simp [bv, hj]

/-- The byte of a number. -/
theorem u8_of (c : Int) (h0 : 0 ≤ c) (h1 : c < 256) : ∃ u : UInt8, c = (u.toNat : Int) := ⟨UInt8.ofNat c.toNat, by rw [UInt8.toNat_ofNat', Nat.mod_eq_of_lt (by omega)]; omega⟩

set_option maxHeartbeats 400000 in
theorem byte_any (b : Nat) (l : List UInt8) (c : UInt8) (w : World) (hw : Wr w b l) (hsz : l.length ≤ 140737488350000) :
    Calls Try.prog 27 #[.pointer (some ⟨b, 0, none⟩), .int .u8 (c.toNat : Int)] w fun e w' => e = .returned (.tuple #[]) ∧ Wr w' b (l ++ [c]) ∧ Below b w w' := by
  have hlt := hw.lt
  have HW1 := hio (hw.below ((Below.refl _ _).alloc (Nat.le_refl _) (.cells #[.int .u8 (c.toNat : Int)] 5)))
  have HB := hio (bts_lit w [c] 5 #[.int .u8 (c.toNat : Int)] rfl (by simp))
  clear hw
  go_enter Try.func27, Try.ntmps27
  go_wp2_with (go_at_call 66; refine (lay_any _ _ _ _ _ HW1.out HB.out (by simp; omega)).mono ?_; rintro e w' ⟨rfl, hw', hb'⟩)
  go_end0
  exact ⟨rfl, hw', ((Below.refl _ _).alloc (by omega) _).trans hb'⟩

/-- An int's bytes. -/
def intB (n : Int) : List UInt8 := if 0 ≤ n then 0 :: numB n.toNat else 1 :: numB (-1 - n).toNat

set_option maxHeartbeats 400000 in
theorem int_any (b : Nat) (l : List UInt8) (n : Int) (w : World) (h0 : -9223372036854775808 ≤ n) (h1 : n < 9223372036854775808) (hw : Wr w b l) (hsz : l.length ≤ 140737488340000) :
    Calls Try.prog 28 #[.pointer (some ⟨b, 0, none⟩), .int .i64 n] w fun e w' => e = .returned (.tuple #[]) ∧ Wr w' b (l ++ intB n) ∧ Below b w w' := by
  have hlt := hw.lt
  have HW := hio hw
  clear hw
  by_cases hn : 0 ≤ n
  · have HI : Hid (intB n = 0 :: numB n.toNat) := hio (by unfold intB; rw [if_pos hn])
    have h2 : n ≤ 9223372036854775807 := by omega
    clear h0 h1
    go_enter Try.func28, Try.ntmps28
    go_wp2_with fail
    refine (byte_any _ _ 0 _ HW.out (by omega)).mono ?_
    rintro e w1 ⟨rfl, hw1, hb1⟩
    have HW1 := hio hw1
    clear hw1
    go_wp2_with fail
    refine (num_any _ _ _ _ hn (by omega) HW1.out (by simp; omega)).mono ?_
    rintro e w2 ⟨rfl, hw2, hb2⟩
    have HW2 := hio hw2
    clear hw2
    go_wp2
    first | go_end0 | refine bodyPost_ret (results_none rfl _ _ _) rfl ?_
    exact ⟨rfl, by rw [HI.out]; simpa using HW2.out, hb1.trans hb2⟩
  · have HI : Hid (intB n = 1 :: numB (-1 - n).toNat) := hio (by unfold intB; rw [if_neg hn])
    have e1 : wrap64 (-1 - n) = -1 - n := by rw [← IntWalk.i64_left]; exact IntWalk.i64_in _ ⟨by omega, by omega⟩
    have e2 : IntKind.u64.wrap (-1 - n) = -1 - n := IntWalk.u64_in _ ⟨by omega, by omega⟩
    have hm : 0 ≤ -1 - n := by omega
    have hM : Hid (-1 - n < 18446744073709551616) := hio (by omega)
    clear h0 h1
    go_enter Try.func28, Try.ntmps28
    go_wp2_with fail
    refine (byte_any _ _ 1 _ HW.out (by omega)).mono ?_
    rintro e w1 ⟨rfl, hw1, hb1⟩
    have HW1 := hio hw1
    clear hw1
    go_wp2_with fail
    refine (num_any _ _ _ _ hm hM.out HW1.out (by simp; omega)).mono ?_
    rintro e w2 ⟨rfl, hw2, hb2⟩
    have HW2 := hio hw2
    clear hw2
    go_wp2
    first | go_end0 | refine bodyPost_ret (results_none rfl _ _ _) rfl ?_
    exact ⟨rfl, by rw [HI.out]; simpa using HW2.out, hb1.trans hb2⟩

/-- A text's bytes. -/
def textB (s : ByteArray) : List UInt8 := numB s.size ++ s.data.toList

theorem Try.underlyingS : Try.prog.underlying 9 = some .string := by kernel_rfl
theorem Try.underlyingU : Try.prog.underlying 5 = some (.int .u8) := by kernel_rfl
/-- '[]byte(s)'. -/
theorem conv_bytes (w : World) (s : ByteArray) (hs : s.size ≤ 9223372036854775807) :
    ∃ cap W1, (convert 9 25 (.string s)).run Try.prog w = .ok (.slice (some ⟨w.heap.size, 0, none⟩) s.size cap) W1 ∧ Bts W1 (.slice (some ⟨w.heap.size, 0, none⟩) s.size cap) s.data.toList ∧ Below w.heap.size w W1 := by
  refine ⟨_, _, run_bytes_of_string w _ _ _ s Try.underlyingS Try.underlyingB Try.underlyingU, ?_, ?_⟩
  · refine ⟨_, _, _, rfl, by simp, grownCap_ge _ _ _ _, grownCap_le_maxLen _ _ _ _ (by unfold maxLen; omega), (fun h => by cases h), ?_⟩
    intro ad had j hj
    obtain rfl := Option.some.inj had
    rw [Addr.add_lit]
    refine (World.cell?_alloc_mark w.drew _ _ _ _).trans ?_
    have hj' : j < s.data.size := by simpa using hj
    simp [bytesRow, Array.getElem?_append, show j < s.size from hj']
  · exact ((Below.refl _ _).drew).alloc (Nat.le_refl _) _

set_option maxHeartbeats 400000 in
theorem text_any (b : Nat) (l : List UInt8) (s : ByteArray) (w : World) (hw : Wr w b l) (hsz : l.length + s.size ≤ 140737488340000) :
    Calls Try.prog 30 #[.pointer (some ⟨b, 0, none⟩), .string s] w fun e w' => e = .returned (.tuple #[]) ∧ Wr w' b (l ++ textB s) ∧ Below b w w' := by
  have HW := hio hw
  clear hw
  have hnl := numB_len s.size (by omega)
  go_enter Try.func30, Try.ntmps30
  go_wp2_with fail
  refine (num_any _ _ _ _ (by omega) (by omega) HW.out (by omega)).mono ?_
  rintro e w1 ⟨rfl, hw1, hb1⟩
  have hlt := hw1.lt
  have HW1 := hio hw1
  clear hw1
  obtain ⟨cap, W2, hrun, hbts, hb2⟩ := conv_bytes w1 s (by omega)
  have HB := hio hbts
  clear hbts
  go_wp2_with fail
  refine (lay_any _ _ _ _ _ (HW1.out.below hb2) HB.out (by simp; omega)).mono ?_
  rintro e w3 ⟨rfl, hw3, hb3⟩
  have HW3 := hio hw3
  clear hw3
  go_wp2
  go_end0
  refine ⟨rfl, by unfold textB; simpa using HW3.out, (hb1.trans (hb2.mono (by omega))).trans hb3⟩

/-- 'string(b)'. -/
theorem conv_string (w : World) (v : Value) (l : List UInt8) (hv : Bts w v l) : (convert 25 9 v).run Try.prog w = .ok (.string ⟨l.toArray⟩) w := by
  obtain ⟨ao, n, cap, rfl, rfl, hc, hm, hnone, hcell⟩ := hv
  cases ao with
  | some ad => exact run_convert_bytes_back w _ _ _ ad cap l Try.underlyingB Try.underlyingU Try.underlyingS (hcell ad rfl)
  | none =>
    have h0 := hnone rfl
    subst h0
    have hl : l = [] := List.eq_nil_of_length_eq_zero (by omega)
    subst hl
    rw [run_convert_bytes_string w _ _ _ none _ 0 Try.underlyingB Try.underlyingU Try.underlyingS]
    simp [Conv.bytesToString]
    rfl

set_option maxHeartbeats 400000 in
theorem bytes_any (b : Nat) (l : List UInt8) (w : World) (hw : Wr w b l) (hsz : l.length ≤ 140737488340000) :
    Calls Try.prog 9 #[.pointer (some ⟨b, 0, none⟩)] w fun e w' => ∃ va vc, e = .returned (.slice va l.length vc) ∧ Own w' w.heap.size (.slice va l.length vc) l ∧ Below w.heap.size w w' := by
  have hlt := hw.lt
  obtain ⟨va, vc, h1, h2⟩ := hw
  have hc := cell_of_one h1
  have HB := hio h2.bts
  clear h1 h2
  go_enter Try.func9, Try.ntmps9
  go_wp2_with (at_builtin; refine wpl_append rfl _ _ rfl w.heap.size (.slice none 0 0) [] rfl (Own.nil _ _) _ l rfl HB.out (by simp; omega) (by omega) ?_; intro va' vc' w1 ho1 hg1)
  go_ret
  simp only [List.length_nil, Nat.zero_add, List.nil_append] at ho1 ⊢
  refine ⟨va', vc', by simp, ho1, ?_⟩
  exact ⟨hg1.os, hg1.tape, hg1.output, hg1.size, fun k hk => hg1.block k hk (by simp [Value.ownBlock])⟩
end Go.Proofs.Ytabmnelenfghhaa
