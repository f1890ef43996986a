/- What Lay of a command lays. Conditions: the Writer lies in memory, the texts ahead of it; the numbers are ints, Op a byte. -/
import Derived.Test.YthhcpoafnmhnhaaGreatBkBase
import Derived.Test.YthhcpoafnmhnhaaGreatWk
import Derived.Deep.CutBlock
import Derived.Deep.CutRange
import Derived.BigQuiet
import Derived.Deep.RegionHeld3
namespace Go.Proofs.YthhcpoafnmhnhaaGreat
open Go.RowKit
set_option linter.unusedVariables false
set_option linter.unusedSimpArgs false

def cmdN (c : CmdD) : List Int := [c.client, c.seq, c.from', c.to]
/-- A command's bytes. -/
def cmdB (c : CmdD) : List UInt8 := UInt8.ofNat c.op.toNat :: ((cmdN c).flatMap intB ++ listB textB c.data)
/-- A command that may be laid. -/
structure LayI (c : CmdD) : Prop where
  op : 0 ≤ c.op ∧ c.op ≤ 255
  n : ∀ x ∈ cmdN c, I64 x
  d : ∀ s ∈ c.data, s.size ≤ 1048576
  l : c.data.length ≤ 4096
theorem intB_lenM (n : Int) (h : I64 n) : (intB n).length ≤ 11 := by
  obtain ⟨h0, h1⟩ := h
  unfold intB
  split
  · have := numB_len n.toNat (by omega); simp only [List.length_cons]; omega
  · have := numB_len (-1 - n).toNat (by omega); simp only [List.length_cons]; omega
theorem cell4 {w : World} {b : Nat} {ns : List Int} {t : TypeId} {fr : Nat × Nat} {cs : Array Value} (h : w.heap[b]? = some (.cells cs t fr)) (hc : cs = (ns.map fun n => Value.int .i64 n).toArray) (i : Nat) (hi : i < ns.length) : w.cell? ⟨b, i, none⟩ = some (.int .i64 ns[i]) := by
  subst hc
  rw [cell_of_row _ _ _ _ _ _ h]; simp [hi]
set_option maxRecDepth 100000 in
set_option maxHeartbeats 3200000 in
theorem layCmd_any (b : Nat) (l : List UInt8) (c : CmdD) (u : Value) (w : World) (hw : Wr w b l) (hu : RowB tv b w u c.data) (hI : LayI c) (hl : l.length ≤ 100000000) :
    Calls Tryz.prog 21 #[.pointer (some ⟨b, 0, none⟩), cmdV c u] w fun e w' => e = .returned (.tuple #[]) ∧ Wr w' b (l ++ cmdB c) ∧ Wb b w w' := by
  obtain ⟨ua, uc, rfl⟩ := hu.shape
  obtain ⟨hop, hn, hd, hdl⟩ := hI
  have hlt := hw.lt
  have HU := hid hu
  have HN := hid hn
  have HD := hid hd
  clear hu hn hd
  obtain ⟨c0, hc0⟩ := u8_of c.op hop.1 (by omega)
  have HCB : Hid (cmdB c = c0 :: ((cmdN c).flatMap intB ++ listB textB c.data)) := hid (by
    unfold cmdB
    congr 1
    rw [hc0, Int.toNat_natCast]
    apply UInt8.toNat_inj.1
    rw [UInt8.toNat_ofNat', Nat.mod_eq_of_lt c0.toNat_lt])
  obtain ⟨op, cl, seq, cf, ct, data⟩ := c
  simp only at hc0 HU HD hdl hop
  subst hc0
  generalize hc8 : c0.toNat = k0 at *
  have hk0 : (k0 : Int) ≤ 255 := hop.2
  clear hop
  have HK0 := hid hc8
  clear hc8
  unfold cmdV
  simp only
  have hNS : cmdN ⟨k0, cl, seq, cf, ct, data⟩ = [cl, seq, cf, ct] := rfl
  rw [hNS] at HCB HN
  clear hNS
  obtain ⟨w1, hw1⟩ : ∃ w1, w1 = w.alloc (.cells #[.int .i64 k0, .int .i64 cl, .int .i64 seq, .int .i64 cf, .int .i64 ct, .slice ua data.length uc] 28) := ⟨_, rfl⟩
  have hb1 : Below w.heap.size w w1 := by rw [hw1]; exact (Below.refl _ _).alloc (Nat.le_refl _) _
  have hA : w1.heap[w.heap.size]? = some (.cells #[.int .i64 k0, .int .i64 cl, .int .i64 seq, .int .i64 cf, .int .i64 ct, .slice ua data.length uc] 28 (0, 0)) := by rw [hw1]; exact heap_alloc_new _ _
  have W1 := hid (hw.below hb1)
  have B1 := hid (Wb.new (b := b) hb1 (Nat.le_of_lt hlt))
  have HW1 := hid hw1
  clear hw hw1 hb1
  go_enter Tryz.func21, Tryz.ntmps21
  go_upto_region 1 with fail
  rw [← HW1.out]
  obtain ⟨A, hAe⟩ : ∃ A, A = w.heap.size := ⟨_, rfl⟩
  rw [← hAe] at hA
  rw [← hAe]
  clear hAe HW1
  have x0 : w1.cell? ⟨A, 0, none⟩ = some (.int .i64 k0) := by rw [cell_of_row _ _ _ _ _ _ hA]; rfl
  have e8 : IntKind.u8.wrap (k0 : Int) = (k0 : Int) := by rw [← HK0.out]; exact IntWalk.u8_in _ ⟨by omega, by have := c0.toNat_lt; omega⟩
  have HA := hid hA
  clear hA
  go_wp2_with fail
  have hbk := byte_kt b l c0 w1 W1.out (by omega)
  rw [HK0.out] at hbk
  refine hbk.mono ?_
  rintro e w2 ⟨rfl, hw2, hb2⟩
  have W2 := hid hw2
  have A2 := hid ((hb2.kt _ _ _ _ HA.out (by decide)).trans HA.out)
  have B2 := hid (B1.out.trans hb2)
  clear hw2 hb2 hbk W1 HA B1 x0 e8
  have x1 : w2.cell? ⟨A, 1, none⟩ = some (.int .i64 cl) := by rw [cell_of_row _ _ _ _ _ _ A2.out]; rfl
  have x2 : w2.cell? ⟨A, 2, none⟩ = some (.int .i64 seq) := by rw [cell_of_row _ _ _ _ _ _ A2.out]; rfl
  have x3 : w2.cell? ⟨A, 3, none⟩ = some (.int .i64 cf) := by rw [cell_of_row _ _ _ _ _ _ A2.out]; rfl
  have x4 : w2.cell? ⟨A, 4, none⟩ = some (.int .i64 ct) := by rw [cell_of_row _ _ _ _ _ _ A2.out]; rfl
  go_wp2_with fail
  clear x1 x2 x3 x4
  obtain ⟨w3, hw3⟩ : ∃ w3, w3 = w2.alloc (.cells #[.int .i64 cl, .int .i64 seq, .int .i64 cf, .int .i64 ct] 3) := ⟨_, rfl⟩
  have hb3 : Below w2.heap.size w2 w3 := by rw [hw3]; exact (Below.refl _ _).alloc (Nat.le_refl _) _
  have G3 : Hid (w3.heap[w2.heap.size]? = some (.cells #[.int .i64 cl, .int .i64 seq, .int .i64 cf, .int .i64 ct] 3 (0, 0))) := hid (by rw [hw3]; exact heap_alloc_new _ _)
  rw [← hw3]
  have W3 := hid (W2.out.below hb3)
  have A3 := hid ((hb3.block A (lt_of_block A2.out)).trans A2.out)
  have B3 := hid (B2.out.trans (.new hb3 (Nat.le_of_lt W2.out.lt)))
  clear hw3 hb3 W2 A2 B2
  generalize w2.heap.size = G at *
  obtain ⟨ns, hns⟩ : ∃ ns : List Int, ns = [cl, seq, cf, ct] := ⟨_, rfl⟩
  have HNL : Hid (ns.length = 4) := hid (by rw [hns]; rfl)
  have HNC : Hid (#[Value.int .i64 cl, .int .i64 seq, .int .i64 cf, .int .i64 ct] = (ns.map fun n => Value.int .i64 n).toArray) := hid (by rw [hns]; rfl)
  rw [← hns] at HCB HN
  clear hns
  go_loopw [5, 21] (fun _ iv wr => ∃ i : Nat, iv = .int .i64 i ∧ i ≤ 4 ∧ Wr wr b (l ++ [c0] ++ (ns.take i).flatMap intB) ∧ Wb b w3 wr) (fun _ iv _ => 4 - (intOf iv).toNat)
  case atStart => exact ⟨0, rfl, Nat.zero_le _, by simpa using W3.out, Wb.refl _ _⟩
  case round =>
    obtain ⟨i, rfl, hi, hwr, hbr⟩ := hrel
    have HWR := hid hwr
    have HBR := hid hbr
    clear hwr hbr
    have hfl := flat_take_lenM intB ns i 11 fun x hx => intB_lenM x (HN.out x hx)
    have hlen : (l ++ [c0] ++ (ns.take i).flatMap intB).length ≤ 100000050 := by
      rw [HNL.out] at hfl
      rw [List.length_append, List.length_append, List.length_singleton]; omega
    clear hfl
    by_cases hlt4 : (i : Int) < 4
    · have hil : i < ns.length := by rw [HNL.out]; omega
      have hck := cell4 ((HBR.out.kt _ _ _ _ G3.out (by decide)).trans G3.out) HNC.out i hil
      have hx := HN.out ns[i] (List.getElem_mem hil)
      have HFT := hid (flat_take intB ns i hil)
      generalize ns[i] = x at hck hx HFT
      obtain ⟨hx0, hx1⟩ := hx
      have HLEN := hid hlen
      clear hlen
      go_wp2_with fail
      refine (int_kt _ _ x _ hx0 (by omega) HWR.out (by have := HLEN.out; omega)).mono ?_
      rintro e w4 ⟨rfl, hw4, hb4⟩
      have W4 := hid hw4
      have B4 := hid (HBR.out.trans hb4)
      clear hw4 hb4
      go_wp2_with fail
      go_roundw
      case rel =>
        refine ⟨i + 1, by go_num, by omega, ?_, B4.out⟩
        rw [HFT.out, ← List.append_assoc]; exact W4.out
      case measure => simp [intOf]; omega
    · obtain rfl : i = 4 := by omega
      have A5 := hid ((HBR.out.kt _ _ _ _ A3.out (by decide)).trans A3.out)
      have B5 := hid (B3.out.trans HBR.out)
      have x5 : wr.cell? ⟨A, 5, none⟩ = some (.slice ua data.length uc) := by rw [cell_of_row _ _ _ _ _ _ A5.out]; rfl
      have HLEN := hid hlen
      clear hlen
      go_wp2_with fail
      refine (putStr_kt b _ _ data _ HWR.out (HU.out.below B5.out.bel (Nat.le_refl _)) HD.out (by have := HLEN.out; omega) (by omega)).mono ?_
      rintro e w6 ⟨rfl, hw6, hb6⟩
      have W6 := hid hw6
      have B6 := hid (B5.out.trans hb6)
      clear hw6 hb6
      go_wp2_with fail
      go_end0
      refine ⟨rfl, ?_, B6.out⟩
      have := W6.out
      rw [show ns.take 4 = ns from List.take_of_length_le (by rw [HNL.out]; exact Nat.le_refl _)] at this
      rw [HCB.out]
      simpa using this
end Go.Proofs.YthhcpoafnmhnhaaGreat
