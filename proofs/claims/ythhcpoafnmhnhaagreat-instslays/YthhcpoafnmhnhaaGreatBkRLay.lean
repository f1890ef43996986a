/- What the document's Lay of a command answers. Conditions: the texts lie in memory; the numbers are ints, Op a byte. -/
import Derived.Test.YthhcpoafnmhnhaaGreatBkLay
import Derived.Test.YthhcpoafnmhnhaaGreatOct
namespace Go.Proofs.YthhcpoafnmhnhaaGreat
open Go.RowKit
set_option linter.unusedVariables false
set_option linter.unusedSimpArgs false

theorem Own.ge {w : World} {base : Nat} {v : Value} {l : List UInt8} (h : Own w base v l) {B : Nat} {w' : World} (hg : w.grownBy w' v.ownBlock) (hB : B ≤ base) (hBw : B ≤ w.heap.size) : Below B w w' :=
  ⟨hg.os, hg.tape, hg.output, hg.size, fun k hk => hg.block k (by omega) (fun e => by have := (World.ownsRow.lt h k e.symm).1; omega)⟩
/-- What a walk with one row of bytes leaves: all that was there, and new blocks that are no bytes. -/
structure Rb (w w' : World) : Prop where
  bel : Below w.heap.size w w'
  kt : Kt [5] w w'
theorem Rb.refl (w : World) : Rb w w := ⟨Below.refl _ _, Kt.refl _ _⟩
set_option maxRecDepth 100000 in
set_option maxHeartbeats 3200000 in
theorem rlayCmd_any (c : CmdD) (u : Value) (w : World) (hu : Strs w u c.data) (hI : LayI c) :
    Calls Tryz.prog 25 #[cmdV c u] w fun e w' => ∃ va vc, e = .returned (.slice va (cmdB c).length vc) ∧ Own w' w.heap.size (.slice va (cmdB c).length vc) (cmdB c) ∧ Below w.heap.size w w' := by
  obtain ⟨ua, uc, rfl⟩ := hu.shape
  obtain ⟨hop, hn, hd, hdl⟩ := hI
  have HU0 := hid hu
  have HN := hid hn
  have HD := hid hd
  clear hu hn hd
  obtain ⟨c0, hc0⟩ := u8_of c.op hop.1 (by omega)
  have HCB : Hid (cmdB c = c0 :: ((cmdN c).flatMap intB ++ listB textB c.data)) := hid (by
    unfold cmdB
    congr 1
    rw [hc0, Int.toNat_natCast]
    apply UInt8.toNat_inj.1
    rw [UInt8.toNat_ofNat', Nat.mod_eq_of_lt c0.toNat_lt])
  obtain ⟨op, cl, seq, cf, ct, data⟩ := c
  simp only at hc0 HU0 HD hdl hop
  subst hc0
  generalize hc8 : c0.toNat = k0 at *
  have hk0 : (k0 : Int) ≤ 255 := hop.2
  clear hop
  have HK0 := hid hc8
  clear hc8
  unfold cmdV
  simp only
  have hNS : cmdN ⟨k0, cl, seq, cf, ct, data⟩ = [cl, seq, cf, ct] := rfl
  rw [hNS] at HCB HN
  clear hNS
  obtain ⟨w1, hw1⟩ : ∃ w1, w1 = w.alloc (.cells #[.int .i64 k0, .int .i64 cl, .int .i64 seq, .int .i64 cf, .int .i64 ct, .slice ua data.length uc] 28) := ⟨_, rfl⟩
  have hb1 : Below w.heap.size w w1 := by rw [hw1]; exact (Below.refl _ _).alloc (Nat.le_refl _) _
  have hA : w1.heap[w.heap.size]? = some (.cells #[.int .i64 k0, .int .i64 cl, .int .i64 seq, .int .i64 cf, .int .i64 ct, .slice ua data.length uc] 28 (0, 0)) := by rw [hw1]; exact heap_alloc_new _ _
  have B1 := hid hb1
  have HW1 := hid hw1
  clear hw1 hb1
  go_enter Tryz.func25, Tryz.ntmps25
  go_upto_region 1 with fail
  rw [← HW1.out]
  obtain ⟨A, hAe⟩ : ∃ A, A = w.heap.size := ⟨_, rfl⟩
  have hA' := hA
  rw [← hAe] at hA
  rw [← hAe]
  clear hAe HW1 hA'
  have e8 : IntKind.u8.wrap (k0 : Int) = (k0 : Int) := by rw [← HK0.out]; exact IntWalk.u8_in _ ⟨by omega, by have := c0.toNat_lt; omega⟩
  have x0 : w1.cell? ⟨A, 0, none⟩ = some (.int .i64 k0) := by rw [cell_of_row _ _ _ _ _ _ hA]; rfl
  have HA := hid hA
  clear hA
  go_upto_region 2 with fail
  obtain ⟨w2, hw2⟩ : ∃ w2, w2 = w1.alloc (.cells #[.int .u8 k0] 5) := ⟨_, rfl⟩
  have hb2 : Below w1.heap.size w1 w2 := by rw [hw2]; exact (Below.refl _ _).alloc (Nat.le_refl _) _
  have O2 : Hid (Own w2 w.heap.size (.slice (some ⟨w1.heap.size, 0, none⟩) 1 1) [c0]) := hid (by
    rw [hw2]; exact Own.lit w1 w.heap.size [c0] _ (by rw [← HK0.out]; rfl) B1.out.size 1 rfl (by omega))
  rw [← hw2]
  have A3 := hid ((hb2.block A (lt_of_block HA.out)).trans HA.out)
  have B2 := hid (B1.out.trans (hb2.mono B1.out.size))
  clear hw2 hb2 HA B1 x0 e8
  have x1 : w2.cell? ⟨A, 1, none⟩ = some (.int .i64 cl) := by rw [cell_of_row _ _ _ _ _ _ A3.out]; rfl
  have x2 : w2.cell? ⟨A, 2, none⟩ = some (.int .i64 seq) := by rw [cell_of_row _ _ _ _ _ _ A3.out]; rfl
  have x3 : w2.cell? ⟨A, 3, none⟩ = some (.int .i64 cf) := by rw [cell_of_row _ _ _ _ _ _ A3.out]; rfl
  have x4 : w2.cell? ⟨A, 4, none⟩ = some (.int .i64 ct) := by rw [cell_of_row _ _ _ _ _ _ A3.out]; rfl
  generalize w1.heap.size = ob at *
  go_wp2_with fail
  clear x1 x2 x3 x4
  obtain ⟨w3, hw3⟩ : ∃ w3, w3 = w2.alloc (.cells #[.int .i64 cl, .int .i64 seq, .int .i64 cf, .int .i64 ct] 3) := ⟨_, rfl⟩
  have hb3 : Below w2.heap.size w2 w3 := by rw [hw3]; exact (Below.refl _ _).alloc (Nat.le_refl _) _
  have G3 : Hid (w3.heap[w2.heap.size]? = some (.cells #[.int .i64 cl, .int .i64 seq, .int .i64 cf, .int .i64 ct] 3 (0, 0))) := hid (by rw [hw3]; exact heap_alloc_new _ _)
  rw [← hw3]
  have O3 := hid (O2.out.below hb3)
  have A4 := hid ((hb3.block A (lt_of_block A3.out)).trans A3.out)
  have B3 := hid (B2.out.trans (hb3.mono B2.out.size))
  clear hw3 hb3 O2 A3 B2
  generalize w2.heap.size = G at *
  obtain ⟨ns, hns⟩ : ∃ ns : List Int, ns = [cl, seq, cf, ct] := ⟨_, rfl⟩
  have HNL : Hid (ns.length = 4) := hid (by rw [hns]; rfl)
  have HNC : Hid (#[Value.int .i64 cl, .int .i64 seq, .int .i64 cf, .int .i64 ct] = (ns.map fun n => Value.int .i64 n).toArray) := hid (by rw [hns]; rfl)
  rw [← hns] at HCB HN
  clear hns
  have O30 : Hid (Own w3 w.heap.size (.slice (some ⟨ob, 0, none⟩) 1 1) ([c0] ++ (ns.take 0).flatMap intB)) := hid (by simpa using O3.out)
  clear O3
  go_loopw [3, 5, 22] (fun bv _ iv wr => ∃ (i : Nat) (va : Option Addr) (vc : Nat) (acc : List UInt8), iv = .int .i64 i ∧ i ≤ 4 ∧ bv = .slice va acc.length vc ∧ acc = [c0] ++ (ns.take i).flatMap intB ∧ Own wr w.heap.size (.slice va acc.length vc) acc ∧ Kt [5] w3 wr ∧ Below w.heap.size w wr) (fun _ _ iv _ => 4 - (intOf iv).toNat)
  case atStart => exact ⟨0, some ⟨ob, 0, none⟩, 1, [c0], rfl, Nat.zero_le _, rfl, by simp, by simpa using O30.out, Kt.refl _ _, B3.out⟩
  case round =>
    obtain ⟨i, va, vc, acc, rfl, hi, rfl, hacc, hown, hkt, hbr⟩ := hrel
    have HOW := hid hown
    have HKT := hid hkt
    have HBR := hid hbr
    have hfl := flat_take_lenM intB ns i 11 fun x hx => intB_lenM x (HN.out x hx)
    have hlen : acc.length ≤ 45 := by
      rw [HNL.out] at hfl
      rw [hacc, List.length_append, List.length_singleton]; omega
    have HAC := hid hacc
    clear hfl hacc O30 hown hkt hbr
    by_cases hlt4 : (i : Int) < 4
    · have hil : i < ns.length := by rw [HNL.out]; omega
      have hck := cell4 ((HKT.out _ _ _ _ G3.out (by decide)).trans G3.out) HNC.out i hil
      have hx := HN.out ns[i] (List.getElem_mem hil)
      have HFT := hid (flat_take intB ns i hil)
      generalize ns[i] = x at hck hx HFT
      have hxl := intB_lenM x hx
      obtain ⟨hx0, hx1⟩ := hx
      go_wp2_with fail
      refine (refInt_any x _ hx0 (by omega)).mono ?_
      rintro e w5 ⟨va5, vc5, rfl, ho5, hb5⟩
      have HO5 := hid ho5.bts
      have HOW5 := hid (HOW.out.below hb5)
      have HK5 := hid (HKT.out.same (Kt.below _ hb5))
      have HB5 := hid (HBR.out.trans (hb5.mono HBR.out.size))
      clear ho5 hb5 hck HOW HKT HBR
      generalize hxb : intB x = xb at *
      have hs5 := HB5.out.size
      go_wp2_with (at_builtin; refine wpl_append rfl _ _ rfl w.heap.size (.slice va acc.length vc) acc rfl HOW5.out _ xb rfl HO5.out (by omega) hs5 ?_; intro va6 vc6 w6 ho6 hg6; have HO6 := hid ho6; have HK6 := hid (HK5.out.grown HOW5.out hg6 (by decide)); have HB6 := hid (HB5.out.trans (below_grown HOW5.out hg6 hs5)); clear ho6 hg6)
      go_roundw
      case rel =>
        refine ⟨i + 1, va6, vc6, acc ++ xb, by go_num, by omega, by simp, ?_, ?_, HK6.out, HB6.out⟩
        · rw [HAC.out, HFT.out]; simp
        · have := HO6.out; rwa [← List.length_append] at this
      case measure => simp [intOf]; omega
    · obtain rfl : i = 4 := by omega
      have A5 := hid ((HKT.out _ _ _ _ A4.out (by decide)).trans A4.out)
      have HAC4 : Hid (acc = [c0] ++ ns.flatMap intB) := hid (by rw [HAC.out, show ns.take 4 = ns from List.take_of_length_le (by rw [HNL.out]; exact Nat.le_refl _)])
      have x5 : wr.cell? ⟨A, 5, none⟩ = some (.slice ua data.length uc) := by rw [cell_of_row _ _ _ _ _ _ A5.out]; rfl
      have hdI : (data.length : Int) ≤ 4096 := by omega
      clear HAC A4 G3 B3
      go_wp2_with fail
      refine (refNum_any _ _ (by omega) (by omega)).mono ?_
      rw [Int.toNat_natCast]
      rintro e w5 ⟨va5, vc5, rfl, ho5, hb5⟩
      have HO5 := hid ho5.bts
      have HOW5 := hid (HOW.out.below hb5)
      have A6 := hid ((hb5.block A (lt_of_block A5.out)).trans A5.out)
      have HB5 := hid (HBR.out.trans (hb5.mono HBR.out.size))
      clear ho5 hb5 x5 HOW HKT HBR A5
      have hnl := numB_len data.length (by omega)
      generalize hxb : numB data.length = xb at *
      have HXB := hid hxb
      clear hxb
      have hs5 := HB5.out.size
      go_upto_region 8 with (at_builtin; refine wpl_append rfl _ _ rfl w.heap.size (.slice va acc.length vc) acc rfl HOW5.out _ xb rfl HO5.out (by omega) hs5 ?_; intro va6 vc6 w6 ho6 hg6; have HO6 := hid ho6; have A7 := hid (((Kt.refl [5] _).grown HOW5.out hg6 (by decide) _ _ _ _ A6.out (by decide)).trans A6.out); have HB6 := hid (HB5.out.trans (below_grown HOW5.out hg6 hs5)); clear ho6 hg6)
      have x7 : w6.cell? ⟨A, 5, none⟩ = some (.slice ua data.length uc) := by rw [cell_of_row _ _ _ _ _ _ A7.out]; rfl
      obtain ⟨m0, hm0⟩ : ∃ m0, m0 = acc ++ xb := ⟨_, rfl⟩
      have O7 : Hid (Own w6 w.heap.size (.slice va6 m0.length vc6) m0) := hid (by rw [hm0, List.length_append]; exact HO6.out)
      have hm0l : m0.length ≤ 60 := by rw [hm0, List.length_append]; omega
      rw [← List.length_append, ← hm0]
      have HM0 : Hid (cmdB ⟨k0, cl, seq, cf, ct, data⟩ = m0 ++ data.flatMap textB) := hid (by rw [HCB.out, hm0, HAC4.out]; unfold listB; rw [HXB.out]; simp)
      clear hm0 HO6 A6 A7 HOW5 HO5 HB5 HCB HAC4 HXB hnl hs5
      go_wp2_with fail
      clear x7
      go_loopw [3, 7, 41] (fun bv _ iv wr => ∃ (i : Nat) (va : Option Addr) (vc : Nat) (ac : List UInt8), iv = .int .i64 i ∧ i ≤ data.length ∧ bv = .slice va ac.length vc ∧ ac = m0 ++ (data.take i).flatMap textB ∧ Own wr w.heap.size (.slice va ac.length vc) ac ∧ Below w.heap.size w wr) (fun _ _ iv _ => data.length - (intOf iv).toNat)
      case atStart => exact ⟨0, va6, vc6, m0, rfl, Nat.zero_le _, rfl, by simp, O7.out, HB6.out⟩
      case round =>
        obtain ⟨i, va8, vc8, ac, rfl, hi2, rfl, hac, hown, hbr⟩ := hrel
        have HOW := hid hown
        have HBR := hid hbr
        have hfl := flat_take_lenM textB data i 1048586 fun x hx => textB_lenM x (HD.out x hx)
        have hlen : ac.length ≤ 5000000000 := by
          rw [hac, List.length_append]; omega
        have HAC := hid hac
        clear hfl hac O7 HB6 hown hbr
        by_cases hlt : (i : Int) < (data.length : Int)
        · have hil : i < data.length := by omega
          have US := HU0.out.below HBR.out
          obtain ⟨gd, od, rfl⟩ := US.addr (by omega)
          have hck := US.lit i hil
          have hx := HD.out data[i] (List.getElem_mem hil)
          have HFT := hid (flat_take textB data i hil)
          have HUS := hid US
          clear US
          generalize data[i] = x at hck hx HFT
          have hxl := textB_lenM x hx
          have hxI : (x.size : Int) ≤ 1048576 := by omega
          go_wp2_with fail
          refine (refText_any x _ (by omega)).mono ?_
          rintro e w5 ⟨va5, vc5, rfl, ho5, hb5⟩
          have HO5 := hid ho5.bts
          have HOW5 := hid (HOW.out.below hb5)
          have HB5 := hid (HBR.out.trans (hb5.mono HBR.out.size))
          clear ho5 hb5 hck HOW HBR
          generalize hxb : textB x = xb at *
          have hs5 := HB5.out.size
          go_wp2_with (at_builtin; refine wpl_append rfl _ _ rfl w.heap.size (.slice va8 ac.length vc8) ac rfl HOW5.out _ xb rfl HO5.out (by omega) hs5 ?_; intro va6 vc6 w6 ho6 hg6; have HO6 := hid ho6; have HB6 := hid (HB5.out.trans (below_grown HOW5.out hg6 hs5)); clear ho6 hg6)
          go_roundw
          case rel =>
            refine ⟨i + 1, va6, vc6, ac ++ xb, by go_num, by omega, by simp, ?_, ?_, HB6.out⟩
            · rw [HAC.out, HFT.out]; simp
            · have := HO6.out; rwa [← List.length_append] at this
          case measure => simp [intOf]; omega
        · obtain rfl : i = data.length := by omega
          have hE : ac = cmdB ⟨k0, cl, seq, cf, ct, data⟩ := by rw [HM0.out, HAC.out, List.take_length]
          go_wp2_with fail
          go_ret
          subst hE
          exact ⟨_, _, rfl, HOW.out, HBR.out⟩
end Go.Proofs.YthhcpoafnmhnhaaGreat
