/- The Writer's calls lay what they lay, and leave all blocks that are neither Writers nor rows of bytes. Conditions: the Writer lies in memory. -/
import Derived.Test.YtplpbnglcfdaaaaKt
import Derived.Test.YtplpbnglcfdaaaaOcA
import Derived.RangeFuncOwn
namespace Go.Proofs.Ytplpbnglcfdaaaa
open Go.RowKit
set_option linter.unusedVariables false
set_option linter.unusedSimpArgs false

/-- The types of the blocks that a Writer turns. -/
abbrev WT : List TypeId := [86, 5]
/-- What a Writer's call leaves. -/
structure Wb (b : Nat) (w w' : World) : Prop where
  bel : Below b w w'
  kt : Kt WT w w'
  ko : KeepsOthers w w'
theorem Wb.trans {b : Nat} {w w1 w2 : World} (h : Wb b w w1) (k : Wb b w1 w2) : Wb b w w2 := ⟨h.bel.trans k.bel, h.kt.same k.kt, h.ko.trans k.ko⟩
theorem Wb.refl (b : Nat) (w : World) : Wb b w w := ⟨Below.refl _ _, Kt.refl _ _, KeepsOthers.refl _⟩
theorem Wb.new {b : Nat} {w w' : World} (h : Below w.heap.size w w') (hb : b ≤ w.heap.size) : Wb b w w' := ⟨h.mono hb, Kt.below _ h, h.size, fun k _ hk _ => (h.block k (lt_of_block hk)).trans hk⟩
theorem Wb.alloc {b : Nat} {w w' : World} (h : Wb b w w') (hb : b < w'.heap.size) (o : Obj) : Wb b w (w'.alloc o) := h.trans (.new ((Below.refl _ _).alloc (Nat.le_refl _) _) (Nat.le_of_lt hb))
set_option maxHeartbeats 400000 in
theorem lay_kt (b : Nat) (l : List UInt8) (u : Value) (m : List UInt8) (w : World) (hw : Wr w b l) (hu : Bts w u m) (hsz : l.length + m.length ≤ 140737488355328) :
    Calls Try.prog 67 #[.pointer (some ⟨b, 0, none⟩), u] w fun e w' => e = .returned (.tuple #[]) ∧ Wr w' b (l ++ m) ∧ Wb b w w' := by
  have hlt := hw.lt
  have HU : Hid (Bts w u m) := hu
  obtain ⟨ua, uc, rfl⟩ := hu.shape
  clear hu
  obtain ⟨va, vc, h1, h2⟩ := hw
  have hc := cell_of_one h1
  have hf := free_of_one h1
  have H1 : Hid (w.heap[b]? = some (.cells #[.slice va l.length vc] 86 (0, 0))) := h1
  have H2 : Hid (Own w (b + 1) (.slice va l.length vc) l) := h2
  clear h1 h2
  go_enter Try.func67, Try.ntmps67
  go_wp2_with (at_builtin; refine wpl_append rfl _ _ rfl (b + 1) (.slice va l.length vc) l rfl H2.out _ m rfl HU.out hsz (by omega) ?_; intro va' vc' w1 ho1 hg1; have hk1 := grown_block H2.out hg1 hlt b (Nat.le_refl _); have hc1 : w1.cell? ⟨b, 0, none⟩ = some (.slice va l.length vc) := (World.cell?_of_block hk1).trans hc; have hf1 : w1.frozen? ⟨b, 0, none⟩ = false := (World.frozen?_of_block hk1).trans hf)
  go_end0
  have e : (l ++ m).length = l.length + m.length := List.length_append
  rw [← e] at ho1 ⊢
  have hs := Wr.stored H2.out H1.out hg1 ho1
  exact ⟨rfl, hs.1, hs.2, ((Kt.refl WT w).grown H2.out hg1 (by decide)).set b 0 _ (hk1.trans H1.out) (by decide), (KeepsOthers.of_grownBy hg1 fun j o hj hoj => by
    obtain ⟨cur, hc⟩ := own_typed H2.out hj
    rw [hc] at hoj; cases hoj; rfl).trans (KeepsOthers.setCell _ _ _)⟩
set_option maxHeartbeats 400000 in
theorem num_kt (b : Nat) (l : List UInt8) (n : Int) (w : World) (h0 : 0 ≤ n) (h1 : n < 18446744073709551616) (hw : Wr w b l) (hsz : l.length ≤ 140737488350000) :
    Calls Try.prog 61 #[.pointer (some ⟨b, 0, none⟩), .int .u64 n] w fun e w' => e = .returned (.tuple #[]) ∧ Wr w' b (l ++ numB n.toNat) ∧ Wb b w w' := by
  have hlt := hw.lt
  have HW : Hid (Wr w b l) := hw
  clear hw
  obtain ⟨n0, rfl⟩ := Int.eq_ofNat_of_zero_le h0
  rw [Int.toNat_natCast]
  have e1 := u64_and127 n0 h0 h1
  go_enter Try.func61, Try.ntmps61
  go_wp2
  clear e1
  go_loopw [1, 5] (fun nv av wr => ∃ (q a : Nat) (acc : List UInt8) (cs : Array Value), nv = .int .u64 q ∧ av = .int .i64 a ∧ q < 18446744073709551616 ∧ NumAt n0 q a acc ∧ cs.size = 10 ∧ cs.toList.drop a = acc.map bv ∧ wr = w.alloc (.cells cs 125)) (fun nv _ _ => (intOf nv).toNat)
  case atStart =>
    exact ⟨n0 / 128, 9, _, _, by simp, rfl, by omega, NumAt.start n0, rfl, by rw [List.map_cons, bv_num _ (by omega)]; simp, rfl⟩
  case round =>
    obtain ⟨q, a, acc, cs, rfl, rfl, hq, hN, hs, hd, rfl⟩ := hrel
    have ha := hN.1
    have HN : Hid (NumAt n0 q a acc) := hN
    clear hN
    have HD : Hid (cs.toList.drop a = acc.map bv) := hd
    clear hd
    by_cases hp : 0 < q
    · have hr := HN.out.room (by omega) hp
      have e2 := u64_and127 q (by omega) (by omega)
      have e3 := u64_or128 ((q : Int) % 128) (by omega) (by omega)
      have HQ : Hid (q < 18446744073709551616) := hq
      have H1 : Hid ((n0 : Int) < 18446744073709551616) := h1
      clear hq h1
      obtain ⟨old, hold⟩ : ∃ old, cs[a - 1]? = some old := ⟨cs[a - 1]'(by omega), by simp [show a - 1 < cs.size from by omega]⟩
      go_wp2
      go_roundw
      case rel =>
        have hst := HN.out.step (by have := H1.out; omega) hp
        have hds := drop_set (c := UInt8.ofNat (q % 128 + 128)) hs hr ha HD.out (v := .int .u8 ((q : Int) % 128 + 128)) (by rw [bv_num _ (by omega)]; simp)
        exact ⟨q / 128, a - 1, _, _, by go_num, by go_num, by have := HQ.out; omega, hst, hds.1, hds.2, rfl⟩
      case measure => simp [intOf]; omega
    · have hsl := fun (w' : World) => slice_arr w' ⟨w.heap.size, 0, none⟩ a ha
      obtain rfl : q = 0 := by omega
      have hdone := HN.out.done
      have hlen := HN.out.2.1
      have hW1 := HW.out.below ((Below.refl _ _).alloc (Nat.le_refl _) (.cells cs 125))
      have hbts := bts_arr w cs a (numB n0) 125 hs ha (by rw [← hdone]; exact HD.out)
      have HW1 := hio hW1
      have HB := hio hbts
      have hnl := numB_len n0 (by omega)
      clear hW1 hbts hq h1
      go_wp2_with (go_at_call 67; refine (lay_kt _ _ _ _ _ HW1.out HB.out (by omega)).mono ?_; rintro e w' ⟨rfl, hw', hb'⟩)
      go_end0
      exact ⟨rfl, hw', ((Wb.refl _ _).alloc hlt _).trans hb'⟩
set_option maxHeartbeats 400000 in
theorem byte_kt (b : Nat) (l : List UInt8) (c : UInt8) (w : World) (hw : Wr w b l) (hsz : l.length ≤ 140737488350000) :
    Calls Try.prog 60 #[.pointer (some ⟨b, 0, none⟩), .int .u8 (c.toNat : Int)] w fun e w' => e = .returned (.tuple #[]) ∧ Wr w' b (l ++ [c]) ∧ Wb b w w' := by
  have hlt := hw.lt
  have HW1 := hio (hw.below ((Below.refl _ _).alloc (Nat.le_refl _) (.cells #[.int .u8 (c.toNat : Int)] 5)))
  have HB := hio (bts_lit w [c] 5 #[.int .u8 (c.toNat : Int)] rfl (by simp))
  clear hw
  go_enter Try.func60, Try.ntmps60
  go_wp2_with (go_at_call 67; refine (lay_kt _ _ _ _ _ HW1.out HB.out (by simp; omega)).mono ?_; rintro e w' ⟨rfl, hw', hb'⟩)
  go_end0
  exact ⟨rfl, hw', ((Wb.refl _ _).alloc hlt _).trans hb'⟩
set_option maxHeartbeats 400000 in
theorem int_kt (b : Nat) (l : List UInt8) (n : Int) (w : World) (h0 : -9223372036854775808 ≤ n) (h1 : n < 9223372036854775808) (hw : Wr w b l) (hsz : l.length ≤ 140737488340000) :
    Calls Try.prog 38 #[.pointer (some ⟨b, 0, none⟩), .int .i64 n] w fun e w' => e = .returned (.tuple #[]) ∧ Wr w' b (l ++ intB n) ∧ Wb b w w' := by
  have hlt := hw.lt
  have HW := hio hw
  clear hw
  by_cases hn : 0 ≤ n
  · have HI : Hid (intB n = 0 :: numB n.toNat) := hio (by unfold intB; rw [if_pos hn])
    have h2 : n ≤ 9223372036854775807 := by omega
    clear h0 h1
    go_enter Try.func38, Try.ntmps38
    go_wp2_with fail
    refine (byte_kt _ _ 0 _ HW.out (by omega)).mono ?_
    rintro e w1 ⟨rfl, hw1, hb1⟩
    have HW1 := hio hw1
    clear hw1
    go_wp2_with fail
    refine (num_kt _ _ _ _ hn (by omega) HW1.out (by simp; omega)).mono ?_
    rintro e w2 ⟨rfl, hw2, hb2⟩
    have HW2 := hio hw2
    clear hw2
    go_wp2
    first | go_end0 | refine bodyPost_ret (results_none rfl _ _ _) rfl ?_
    exact ⟨rfl, by rw [HI.out]; simpa using HW2.out, hb1.trans hb2⟩
  · have HI : Hid (intB n = 1 :: numB (-1 - n).toNat) := hio (by unfold intB; rw [if_neg hn])
    have e1 : wrap64 (-1 - n) = -1 - n := by rw [← IntWalk.i64_left]; exact IntWalk.i64_in _ ⟨by omega, by omega⟩
    have e2 : IntKind.u64.wrap (-1 - n) = -1 - n := IntWalk.u64_in _ ⟨by omega, by omega⟩
    have hm : 0 ≤ -1 - n := by omega
    have hM : Hid (-1 - n < 18446744073709551616) := hio (by omega)
    clear h0 h1
    go_enter Try.func38, Try.ntmps38
    go_wp2_with fail
    refine (byte_kt _ _ 1 _ HW.out (by omega)).mono ?_
    rintro e w1 ⟨rfl, hw1, hb1⟩
    have HW1 := hio hw1
    clear hw1
    go_wp2_with fail
    refine (num_kt _ _ _ _ hm hM.out HW1.out (by simp; omega)).mono ?_
    rintro e w2 ⟨rfl, hw2, hb2⟩
    have HW2 := hio hw2
    clear hw2
    go_wp2
    first | go_end0 | refine bodyPost_ret (results_none rfl _ _ _) rfl ?_
    exact ⟨rfl, by rw [HI.out]; simpa using HW2.out, hb1.trans hb2⟩
theorem flat_lenM {α : Type} (enc : α → List UInt8) (xs : List α) (M : Nat) (h : ∀ x ∈ xs, (enc x).length ≤ M) : (xs.flatMap enc).length ≤ M * xs.length := by
  induction xs with
  | nil => simp
  | cons x xs ih =>
    have h1 := h x (List.mem_cons_self ..)
    have h2 := ih fun y hy => h y (List.mem_cons_of_mem _ hy)
    rw [List.flatMap_cons, List.length_append, List.length_cons, Nat.mul_succ]; omega
theorem flat_take_lenM {α : Type} (enc : α → List UInt8) (xs : List α) (i M : Nat) (h : ∀ x ∈ xs, (enc x).length ≤ M) : ((xs.take i).flatMap enc).length ≤ M * xs.length := by
  have := flat_lenM enc (xs.take i) M fun x hx => h x (List.mem_of_mem_take hx)
  have h2 : (xs.take i).length ≤ xs.length := List.length_take_le' _ _
  exact Nat.le_trans this (Nat.mul_le_mul_left _ h2)
theorem textB_lenM (s : ByteArray) (h : s.size ≤ 1048576) : (textB s).length ≤ 1048586 := by
  unfold textB
  have := numB_len s.size (by omega)
  rw [List.length_append, show s.data.toList.length = s.size from by simp]; omega
def tv (x : ByteArray) : Value := .string x
end Go.Proofs.Ytplpbnglcfdaaaa
