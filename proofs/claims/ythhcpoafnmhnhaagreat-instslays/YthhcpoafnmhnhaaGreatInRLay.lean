/- What the document's Lay of an instance answers. Conditions: its lists lie in memory; the numbers are ints, Op a byte. -/
import Derived.Test.YthhcpoafnmhnhaaGreatInLayI
import Derived.Test.YthhcpoafnmhnhaaGreatBkRLay
namespace Go.Proofs.YthhcpoafnmhnhaaGreat
open Go.RowKit
set_option linter.unusedVariables false
set_option linter.unusedSimpArgs false

theorem headN_cells (x : InD) : #[Value.int .i64 x.ref.1, .int .i64 x.ref.2, .int .i64 x.bal.1, .int .i64 x.bal.2, .int .i64 x.vote.1, .int .i64 x.vote.2, .int .i64 x.st] = ((headN x).map fun n => Value.int .i64 n).toArray := rfl
set_option maxRecDepth 100000 in
set_option maxHeartbeats 4000000 in
theorem rlayInst_any (x : InD) (u v : Value) (w : World) (hx : InM w x u v) (hI : LayX x) :
    Calls Tryz.prog 8 #[instV x u v] w fun e w' => ∃ va vc, e = .returned (.slice va (instBy x).length vc) ∧ Own w' w.heap.size (.slice va (instBy x).length vc) (instBy x) ∧ Below w.heap.size w w' := by
  obtain ⟨ua, uc, rfl⟩ := hx.d.shape
  obtain ⟨ra, rc, rfl⟩ := hx.r.shape
  have HX := hid hx
  have HI := hid hI
  clear hx hI
  obtain ⟨w1, hw1⟩ : ∃ w1, w1 = w.alloc (.cells (instC x (.slice ua x.cmd.data.length uc) (.slice ra x.deps.length rc)) 31) := ⟨_, rfl⟩
  have b1 : Below w.heap.size w w1 := by rw [hw1]; exact (Below.refl _ _).alloc (Nat.le_refl _) _
  have hA : w1.heap[w.heap.size]? = some (.cells (instC x (.slice ua x.cmd.data.length uc) (.slice ra x.deps.length rc)) 31 (0, 0)) := by rw [hw1]; exact heap_alloc_new _ _
  have B1 := hid b1
  have HW1 := hid hw1
  clear hw1 b1
  unfold instC at HW1
  unfold instV instC
  go_enter Tryz.func8, Tryz.ntmps8
  go_upto_region 1 with fail
  rw [← HW1.out]
  obtain ⟨A, hAe⟩ : ∃ A, A = w.heap.size := ⟨_, rfl⟩
  rw [← hAe] at hA
  rw [← hAe]
  have HA := hid hA
  clear hAe HW1
  have x0 : w1.cell? ⟨A, 0, none⟩ = some (.int .i64 x.ref.1) := by rw [cell_of_row _ _ _ _ _ _ hA]; rfl
  have x1 : w1.cell? ⟨A, 1, none⟩ = some (.int .i64 x.ref.2) := by rw [cell_of_row _ _ _ _ _ _ hA]; rfl
  have x2 : w1.cell? ⟨A, 2, none⟩ = some (.int .i64 x.bal.1) := by rw [cell_of_row _ _ _ _ _ _ hA]; rfl
  have x3 : w1.cell? ⟨A, 3, none⟩ = some (.int .i64 x.bal.2) := by rw [cell_of_row _ _ _ _ _ _ hA]; rfl
  have x4 : w1.cell? ⟨A, 4, none⟩ = some (.int .i64 x.vote.1) := by rw [cell_of_row _ _ _ _ _ _ hA]; rfl
  have x5 : w1.cell? ⟨A, 5, none⟩ = some (.int .i64 x.vote.2) := by rw [cell_of_row _ _ _ _ _ _ hA]; rfl
  have x6 : w1.cell? ⟨A, 6, none⟩ = some (.int .i64 x.st) := by rw [cell_of_row _ _ _ _ _ _ hA]; rfl
  clear hA
  go_wp2_with fail
  clear x0 x1 x2 x3 x4 x5 x6
  obtain ⟨w3, hw3⟩ : ∃ w3, w3 = w1.alloc (.cells #[.int .i64 x.ref.1, .int .i64 x.ref.2, .int .i64 x.bal.1, .int .i64 x.bal.2, .int .i64 x.vote.1, .int .i64 x.vote.2, .int .i64 x.st] 3) := ⟨_, rfl⟩
  have b3 : Below w1.heap.size w1 w3 := by rw [hw3]; exact (Below.refl _ _).alloc (Nat.le_refl _) _
  have G3 : Hid (w3.heap[w1.heap.size]? = some (.cells #[.int .i64 x.ref.1, .int .i64 x.ref.2, .int .i64 x.bal.1, .int .i64 x.bal.2, .int .i64 x.vote.1, .int .i64 x.vote.2, .int .i64 x.st] 3 (0, 0))) := hid (by rw [hw3]; exact heap_alloc_new _ _)
  rw [← hw3]
  have A3 := hid ((b3.block A (lt_of_block HA.out)).trans HA.out)
  have B3 := hid (B1.out.trans (b3.mono B1.out.size))
  clear hw3 b3 HA B1
  generalize w1.heap.size = G at *
  have HNL : Hid ((headN x).length = 7) := hid rfl
  have HNC := hid (headN_cells x)
  have HNI : Hid (∀ n ∈ headN x, I64 n) := hid HI.out.h
  have HIB : Hid (instBy x = (headN x).flatMap intB ++ restB x) := hid rfl
  generalize headN x = ns at HNL HNC HNI HIB
  go_loopw [3, 5, 30] (fun bv _ iv wr => ∃ (i : Nat) (va : Option Addr) (vc : Nat) (acc : List UInt8), iv = .int .i64 i ∧ i ≤ 7 ∧ bv = .slice va acc.length vc ∧ acc = (ns.take i).flatMap intB ∧ Own wr w.heap.size (.slice va acc.length vc) acc ∧ Kt [5] w3 wr ∧ Below w.heap.size w wr) (fun _ _ iv _ => 7 - (intOf iv).toNat)
  case atStart => exact ⟨0, none, 0, [], rfl, Nat.zero_le _, rfl, by simp, Own.nil _ _, Kt.refl _ _, B3.out⟩
  case round =>
    obtain ⟨i, va, vc, acc, rfl, hi, rfl, hacc, hown, hkt, hbr⟩ := hrel
    have HOW := hid hown
    have HKT := hid hkt
    have HBR := hid hbr
    have hfl := flat_take_lenM intB ns i 11 fun x hx => intB_lenM x (HNI.out x hx)
    have hlen : acc.length ≤ 77 := by rw [HNL.out] at hfl; rw [hacc]; omega
    have HAC := hid hacc
    clear hfl hacc hown hkt hbr
    by_cases hlt7 : (i : Int) < 7
    · have hil : i < ns.length := by rw [HNL.out]; omega
      have hck := cell4 ((HKT.out _ _ _ _ G3.out (by decide)).trans G3.out) HNC.out i hil
      have hx := HNI.out ns[i] (List.getElem_mem hil)
      have HFT := hid (flat_take intB ns i hil)
      generalize ns[i] = y at hck hx HFT
      have hxl := intB_lenM y hx
      obtain ⟨hx0, hx1⟩ := hx
      go_wp2_with fail
      refine (refInt_any y _ hx0 (by omega)).mono ?_
      rintro e w5 ⟨va5, vc5, rfl, ho5, hb5⟩
      have HO5 := hid ho5.bts
      have HOW5 := hid (HOW.out.below hb5)
      have HK5 := hid (HKT.out.same (Kt.below _ hb5))
      have HB5 := hid (HBR.out.trans (hb5.mono HBR.out.size))
      clear ho5 hb5 hck HOW HKT HBR
      generalize hxb : intB y = xb at *
      have hs5 := HB5.out.size
      go_wp2_with (at_builtin; refine wpl_append rfl _ _ rfl w.heap.size (.slice va acc.length vc) acc rfl HOW5.out _ xb rfl HO5.out (by omega) hs5 ?_; intro va6 vc6 w6 ho6 hg6; have HO6 := hid ho6; have HK6 := hid (HK5.out.grown HOW5.out hg6 (by decide)); have HB6 := hid (HB5.out.trans (below_grown HOW5.out hg6 hs5)); clear ho6 hg6)
      go_roundw
      case rel =>
        refine ⟨i + 1, va6, vc6, acc ++ xb, by go_num, by omega, by simp, ?_, ?_, HK6.out, HB6.out⟩
        · rw [HAC.out, HFT.out]
        · have := HO6.out; rwa [← List.length_append] at this
      case measure => simp [intOf]; omega
    · obtain rfl : i = 7 := by omega
      have A4 := hid ((HKT.out _ _ _ _ A3.out (by decide)).trans A3.out)
      have HAC4 : Hid (acc = ns.flatMap intB) := hid (by rw [HAC.out, show ns.take 7 = ns from List.take_of_length_le (by rw [HNL.out]; exact Nat.le_refl _)])
      have c7 : wr.cell? ⟨A, 7, none⟩ = some (.bool x.same) := by rw [cell_of_row _ _ _ _ _ _ A4.out]; rfl
      clear HAC A3 G3 B3
      have HSB : Hid ((if x.same = true then (1 : UInt8) else 0) = if x.same = true then 1 else 0) := hid rfl
      have hs6 := HBR.out.size
      cases hsm : x.same with
      | true =>
        rw [hsm] at c7
        have HCBt : Hid ((if x.same = true then (1 : UInt8) else 0) = (1 : UInt8)) := hid (by rw [hsm]; rfl)
        have HL5 := hid (bts_lit wr [1] 5 #[.int .u8 1] rfl (by simp))
        have HA5 := hid ((((Below.refl wr.heap.size wr).alloc (Nat.le_refl _) (.cells #[.int .u8 1] 5)).block A (lt_of_block A4.out)).trans A4.out)
        go_upto_region 10 with (at_builtin; refine wpl_append rfl _ _ rfl w.heap.size (.slice va acc.length vc) acc rfl (HOW.out.below ((Below.refl _ _).alloc (Nat.le_refl _) _)) _ [1] rfl HL5.out (by simp; omega) (by simp; omega) ?_; intro va6 vc6 w6 ho6 hg6; have HO6 := hid ho6; have A6 := hid (((Kt.refl [5] _).grown (HOW.out.below ((Below.refl _ _).alloc (Nat.le_refl _) _)) hg6 (by decide) _ _ _ _ HA5.out (by decide)).trans HA5.out); have HB6 := hid ((HBR.out.trans (((Below.refl wr.heap.size wr).alloc (Nat.le_refl _) _).mono HBR.out.size)).trans (below_grown (HOW.out.below ((Below.refl _ _).alloc (Nat.le_refl _) _)) hg6 (by simp; omega))); clear ho6 hg6)
        clear HL5 HA5 HOW HBR A4 HKT hsm c7 HSB
        obtain ⟨m1, hm1⟩ : ∃ m1, m1 = acc ++ [1] := ⟨_, rfl⟩
        have O6 : Hid (Own w6 w.heap.size (.slice va6 m1.length vc6) m1) := hid (by rw [hm1, List.length_append]; exact HO6.out)
        have hm1l : m1.length ≤ 78 := by rw [hm1, List.length_append, List.length_singleton]; omega
        have hml : acc.length + 1 = m1.length := by rw [hm1]; simp
        rw [hml]
        have HM1 : Hid (instBy x = m1 ++ (cmdB x.cmd ++ (intB x.seq ++ listB refB' x.deps))) := hid (by rw [HIB.out, hm1, HAC4.out]; unfold restB; rw [HCBt.out]; simp)
        clear hm1 hml HO6 HAC4 HCBt hlen
        have d8 : w6.cell? ⟨A, 8, none⟩ = some (.int .i64 x.cmd.op) := by rw [cell_of_row _ _ _ _ _ _ A6.out]; rfl
        have d9 : w6.cell? ⟨A, 9, none⟩ = some (.int .i64 x.cmd.client) := by rw [cell_of_row _ _ _ _ _ _ A6.out]; rfl
        have d10 : w6.cell? ⟨A, 10, none⟩ = some (.int .i64 x.cmd.seq) := by rw [cell_of_row _ _ _ _ _ _ A6.out]; rfl
        have d11 : w6.cell? ⟨A, 11, none⟩ = some (.int .i64 x.cmd.from') := by rw [cell_of_row _ _ _ _ _ _ A6.out]; rfl
        have d12 : w6.cell? ⟨A, 12, none⟩ = some (.int .i64 x.cmd.to) := by rw [cell_of_row _ _ _ _ _ _ A6.out]; rfl
        have d13 : w6.cell? ⟨A, 13, none⟩ = some (.slice ua x.cmd.data.length uc) := by rw [cell_of_row _ _ _ _ _ _ A6.out]; rfl
        have HCM := hid (rlayCmd_any x.cmd _ w6 (HX.out.below HB6.out).d HI.out.c)
        have hcl := cmdB_len HI.out.c
        unfold cmdV at HCM
        generalize cmdB x.cmd = cb1 at HCM HM1 hcl
        go_wp2_with fail
        refine HCM.out.mono ?_
        rintro e w7 ⟨va7, vc7, rfl, ho7, hb7⟩
        have HO7 := hid ho7.bts
        have HOW7 := hid (O6.out.below hb7)
        have A7 := hid ((hb7.block A (lt_of_block A6.out)).trans A6.out)
        have HB7 := hid (HB6.out.trans (hb7.mono HB6.out.size))
        have hs7 := HB7.out.size
        clear ho7 hb7 d8 d9 d10 d11 d12 d13 O6 A6 HB6 HCM
        go_upto_region 11 with (at_builtin; refine wpl_append rfl _ _ rfl w.heap.size (.slice va6 m1.length vc6) m1 rfl HOW7.out _ cb1 rfl HO7.out (by omega) hs7 ?_; intro va8 vc8 w8 ho8 hg8; have HO8 := hid ho8; have A8 := hid (((Kt.refl [5] _).grown HOW7.out hg8 (by decide) _ _ _ _ A7.out (by decide)).trans A7.out); have HB8 := hid (HB7.out.trans (below_grown HOW7.out hg8 hs7)); clear ho8 hg8)
        obtain ⟨m2, hm2⟩ : ∃ m2, m2 = m1 ++ cb1 := ⟨_, rfl⟩
        have O8 : Hid (Own w8 w.heap.size (.slice va8 m2.length vc8) m2) := hid (by rw [hm2, List.length_append]; exact HO8.out)
        have hm2l : m2.length ≤ 5000000100 := by rw [hm2, List.length_append]; omega
        rw [← List.length_append, ← hm2]
        have HM2 : Hid (instBy x = m2 ++ (intB x.seq ++ listB refB' x.deps)) := hid (by rw [HM1.out, hm2]; simp)
        clear hm2 HO8 HOW7 HO7 HB7 A7 HM1 hs7 hcl
        have c14 : w8.cell? ⟨A, 14, none⟩ = some (.int .i64 x.seq) := by rw [cell_of_row _ _ _ _ _ _ A8.out]; rfl
        have hq := HI.out.s
        have hql := intB_lenM x.seq hq
        obtain ⟨hq0, hq1⟩ := hq
        go_wp2_with fail
        refine (refInt_any x.seq _ hq0 (by omega)).mono ?_
        rintro e w9 ⟨va9, vc9, rfl, ho9, hb9⟩
        have HO9 := hid ho9.bts
        have HOW9 := hid (O8.out.below hb9)
        have A9 := hid ((hb9.block A (lt_of_block A8.out)).trans A8.out)
        have HB9 := hid (HB8.out.trans (hb9.mono HB8.out.size))
        have hs9 := HB9.out.size
        generalize intB x.seq = sb1 at HO9 HM2 hql ⊢
        clear ho9 hb9 c14 O8 A8 HB8 hq0 hq1
        go_upto_region 12 with (at_builtin; refine wpl_append rfl _ _ rfl w.heap.size (.slice va8 m2.length vc8) m2 rfl HOW9.out _ sb1 rfl HO9.out (by omega) hs9 ?_; intro vaa vca wa hoa hga; have HOa := hid hoa; have Aa := hid (((Kt.refl [5] _).grown HOW9.out hga (by decide) _ _ _ _ A9.out (by decide)).trans A9.out); have HBa := hid (HB9.out.trans (below_grown HOW9.out hga hs9)); clear hoa hga)
        obtain ⟨m3, hm3⟩ : ∃ m3, m3 = m2 ++ sb1 := ⟨_, rfl⟩
        have Oa : Hid (Own wa w.heap.size (.slice vaa m3.length vca) m3) := hid (by rw [hm3, List.length_append]; exact HOa.out)
        have hm3l : m3.length ≤ 5000000200 := by rw [hm3, List.length_append]; omega
        rw [← List.length_append, ← hm3]
        have HM3 : Hid (instBy x = m3 ++ listB refB' x.deps) := hid (by rw [HM2.out, hm3]; simp)
        clear hm3 HOa HOW9 HO9 HB9 A9 HM2 hs9 hql
        have c15 : wa.cell? ⟨A, 15, none⟩ = some (.slice ra x.deps.length rc) := by rw [cell_of_row _ _ _ _ _ _ Aa.out]; rfl
        have hdI : (x.deps.length : Int) ≤ 4096 := by have := HI.out.l; omega
        have HDI : Hid (∀ r ∈ x.deps, I64 r.1 ∧ I64 r.2) := hid HI.out.d
        have HRS : Hid (∀ W, Below w.heap.size w W → Rfs W (.slice ra x.deps.length rc) x.deps) := hid fun W h => (HX.out.below h).r
        generalize x.deps = dd at HRS HDI hdI c15 HM3 Aa ⊢
        go_wp2_with fail
        refine (refNum_any _ _ (by omega) (by omega)).mono ?_
        rw [Int.toNat_natCast]
        rintro e wb ⟨vab, vcb, rfl, hob, hbb⟩
        have HOb := hid hob.bts
        have HOWb := hid (Oa.out.below hbb)
        have hAb := (hbb.block A (lt_of_block Aa.out)).trans Aa.out
        have Ab := hid hAb
        have HBb := hid (HBa.out.trans (hbb.mono HBa.out.size))
        clear hob hbb c15 Oa Aa HBa hAb
        have hnl := numB_len dd.length (by omega)
        generalize hxb : numB dd.length = nb at *
        have HXB := hid hxb
        clear hxb
        have hsb := HBb.out.size
        go_upto_region 13 with (at_builtin; refine wpl_append rfl _ _ rfl w.heap.size (.slice vaa m3.length vca) m3 rfl HOWb.out _ nb rfl HOb.out (by omega) hsb ?_; intro vac vcc wc hoc hgc; have HOc := hid hoc; have Ac := hid (((Kt.refl [5] _).grown HOWb.out hgc (by decide) _ _ _ _ Ab.out (by decide)).trans Ab.out); have HBc := hid (HBb.out.trans (below_grown HOWb.out hgc hsb)); clear hoc hgc)
        obtain ⟨m0, hm0⟩ : ∃ m0, m0 = m3 ++ nb := ⟨_, rfl⟩
        have Oc : Hid (Own wc w.heap.size (.slice vac m0.length vcc) m0) := hid (by rw [hm0, List.length_append]; exact HOc.out)
        have hm0l : m0.length ≤ 5000000300 := by rw [hm0, List.length_append]; omega
        rw [← List.length_append, ← hm0]
        have HM0 : Hid (instBy x = m0 ++ dd.flatMap refB') := hid (by rw [HM3.out, hm0]; unfold listB; rw [HXB.out]; simp)
        have c15 : wc.cell? ⟨A, 15, none⟩ = some (.slice ra dd.length rc) := by rw [cell_of_row _ _ _ _ _ _ Ac.out]; rfl
        clear hm0 HOc HOWb HOb HBb Ab HM3 hsb hnl HXB
        go_wp2_with fail
        clear c15 Ac
        go_loopw [3, 7, 67] (fun bv _ iv wr => ∃ (i : Nat) (va : Option Addr) (vc : Nat) (ac : List UInt8), iv = .int .i64 i ∧ i ≤ dd.length ∧ bv = .slice va ac.length vc ∧ ac = m0 ++ (dd.take i).flatMap refB' ∧ Own wr w.heap.size (.slice va ac.length vc) ac ∧ Below w.heap.size w wr) (fun _ _ iv _ => dd.length - (intOf iv).toNat)
        case atStart => exact ⟨0, vac, vcc, m0, rfl, Nat.zero_le _, rfl, by simp, Oc.out, HBc.out⟩
        case round =>
          obtain ⟨i, va8, vc8, ac, rfl, hi2, rfl, hac, hown, hbr⟩ := hrel
          have HOW := hid hown
          have HBR := hid hbr
          have hfl := flat_take_lenM refB' dd i 22 fun x hx => refB'_len x (HDI.out x hx)
          have hlen : ac.length ≤ 6000000000 := by rw [hac, List.length_append]; omega
          have HAC := hid hac
          clear hfl hac Oc HBc hown hbr
          by_cases hlt : (i : Int) < (dd.length : Int)
          · have hil : i < dd.length := by omega
            have US := HRS.out _ HBR.out
            obtain ⟨gd, od, rfl⟩ := US.addr (by omega)
            obtain ⟨k0, k1⟩ := US.lit i hil
            have hx := HDI.out dd[i] (List.getElem_mem hil)
            have HFT := hid (flat_take refB' dd i hil)
            clear US
            generalize dd[i] = r at k0 k1 hx HFT
            obtain ⟨r0, r1⟩ := r
            simp only at k0 k1 hx
            have h0l := intB_lenM r0 hx.1
            have h1l := intB_lenM r1 hx.2
            obtain ⟨⟨a0, a1⟩, e0, e1⟩ := hx
            obtain ⟨w2, hw2⟩ : ∃ w2, w2 = wr.alloc (.cells #[.int .i64 r0, .int .i64 r1] 23) := ⟨_, rfl⟩
            have b2 : Below wr.heap.size wr w2 := by rw [hw2]; exact (Below.refl _ _).alloc (Nat.le_refl _) _
            have hQ : w2.heap[wr.heap.size]? = some (.cells #[.int .i64 r0, .int .i64 r1] 23 (0, 0)) := by rw [hw2]; exact heap_alloc_new _ _
            have HOW2 := hid (HOW.out.below b2)
            have HB2 := hid (HBR.out.trans (b2.mono HBR.out.size))
            have HW2 := hid hw2
            clear hw2 b2 HOW HBR
            go_upto_region 16 with fail
            rw [← HW2.out]
            obtain ⟨Q, hQe⟩ : ∃ Q, Q = wr.heap.size := ⟨_, rfl⟩
            rw [← hQe] at hQ
            rw [← hQe]
            clear hQe HW2 k0 k1
            have j0 : w2.cell? ⟨Q, 0, none⟩ = some (.int .i64 r0) := by rw [cell_of_row _ _ _ _ _ _ hQ]; rfl
            have HQ := hid hQ
            clear hQ
            go_wp2_with fail
            refine (refInt_any r0 _ a0 (by omega)).mono ?_
            rintro e w5 ⟨va5, vc5, rfl, ho5, hb5⟩
            have HO5 := hid ho5.bts
            have HOW5 := hid (HOW2.out.below hb5)
            have Q5 := hid ((hb5.block Q (lt_of_block HQ.out)).trans HQ.out)
            have HB5 := hid (HB2.out.trans (hb5.mono HB2.out.size))
            clear ho5 hb5 j0 HOW2 HB2 HQ
            have HRB : Hid (refB' (r0, r1) = intB r0 ++ intB r1) := hid rfl
            generalize intB r0 = xb at *
            have hs5 := HB5.out.size
            go_upto_region 17 with (at_builtin; refine wpl_append rfl _ _ rfl w.heap.size (.slice va8 ac.length vc8) ac rfl HOW5.out _ xb rfl HO5.out (by omega) hs5 ?_; intro va6 vc6 w6 ho6 hg6; have HO6 := hid ho6; have Q6 := hid (((Kt.refl [5] _).grown HOW5.out hg6 (by decide) _ _ _ _ Q5.out (by decide)).trans Q5.out); have HB6 := hid (HB5.out.trans (below_grown HOW5.out hg6 hs5)); clear ho6 hg6)
            obtain ⟨ac1, hac1⟩ : ∃ ac1, ac1 = ac ++ xb := ⟨_, rfl⟩
            have O6 : Hid (Own w6 w.heap.size (.slice va6 ac1.length vc6) ac1) := hid (by rw [hac1, List.length_append]; exact HO6.out)
            have hac1l : ac1.length ≤ 6000000100 := by rw [hac1, List.length_append]; omega
            rw [← List.length_append, ← hac1]
            have HAC1 := hid hac1
            clear hac1 HO6 HOW5 HO5 HB5 Q5 hs5
            have j1 : w6.cell? ⟨Q, 1, none⟩ = some (.int .i64 r1) := by rw [cell_of_row _ _ _ _ _ _ Q6.out]; rfl
            go_wp2_with fail
            refine (refInt_any r1 _ e0 (by omega)).mono ?_
            rintro e w7 ⟨va7, vc7, rfl, ho7, hb7⟩
            have HO7 := hid ho7.bts
            have HOW7 := hid (O6.out.below hb7)
            have HB7 := hid (HB6.out.trans (hb7.mono HB6.out.size))
            clear ho7 hb7 j1 O6 HB6 Q6
            generalize intB r1 = yb at *
            have hs7 := HB7.out.size
            go_wp2_with (at_builtin; refine wpl_append rfl _ _ rfl w.heap.size (.slice va6 ac1.length vc6) ac1 rfl HOW7.out _ yb rfl HO7.out (by omega) hs7 ?_; intro va9 vc9 w9 ho9 hg9; have HO9 := hid ho9; have HB9 := hid (HB7.out.trans (below_grown HOW7.out hg9 hs7)); clear ho9 hg9)
            go_roundw
            case rel =>
              refine ⟨i + 1, va9, vc9, ac1 ++ yb, by go_num, by omega, by simp, ?_, ?_, HB9.out⟩
              · rw [HAC1.out, HAC.out, HFT.out, HRB.out]; simp
              · have := HO9.out; rwa [← List.length_append] at this
            case measure => simp [intOf]; omega
          · obtain rfl : i = dd.length := by omega
            have hE : ac = instBy x := by rw [HM0.out, HAC.out, List.take_length]
            go_wp2_with fail
            go_ret
            subst hE
            exact ⟨_, _, rfl, HOW.out, HBR.out⟩
      | false =>
        rw [hsm] at c7
        have HCBt : Hid ((if x.same = true then (1 : UInt8) else 0) = (0 : UInt8)) := hid (by rw [hsm]; rfl)
        have HL5 := hid (bts_lit wr [0] 5 #[.int .u8 0] rfl (by simp))
        have HA5 := hid ((((Below.refl wr.heap.size wr).alloc (Nat.le_refl _) (.cells #[.int .u8 0] 5)).block A (lt_of_block A4.out)).trans A4.out)
        go_upto_region 10 with (at_builtin; refine wpl_append rfl _ _ rfl w.heap.size (.slice va acc.length vc) acc rfl (HOW.out.below ((Below.refl _ _).alloc (Nat.le_refl _) _)) _ [0] rfl HL5.out (by simp; omega) (by simp; omega) ?_; intro va6 vc6 w6 ho6 hg6; have HO6 := hid ho6; have A6 := hid (((Kt.refl [5] _).grown (HOW.out.below ((Below.refl _ _).alloc (Nat.le_refl _) _)) hg6 (by decide) _ _ _ _ HA5.out (by decide)).trans HA5.out); have HB6 := hid ((HBR.out.trans (((Below.refl wr.heap.size wr).alloc (Nat.le_refl _) _).mono HBR.out.size)).trans (below_grown (HOW.out.below ((Below.refl _ _).alloc (Nat.le_refl _) _)) hg6 (by simp; omega))); clear ho6 hg6)
        clear HL5 HA5 HOW HBR A4 HKT hsm c7 HSB
        obtain ⟨m1, hm1⟩ : ∃ m1, m1 = acc ++ [0] := ⟨_, rfl⟩
        have O6 : Hid (Own w6 w.heap.size (.slice va6 m1.length vc6) m1) := hid (by rw [hm1, List.length_append]; exact HO6.out)
        have hm1l : m1.length ≤ 78 := by rw [hm1, List.length_append, List.length_singleton]; omega
        have hml : acc.length + 1 = m1.length := by rw [hm1]; simp
        rw [hml]
        have HM1 : Hid (instBy x = m1 ++ (cmdB x.cmd ++ (intB x.seq ++ listB refB' x.deps))) := hid (by rw [HIB.out, hm1, HAC4.out]; unfold restB; rw [HCBt.out]; simp)
        clear hm1 hml HO6 HAC4 HCBt hlen
        have d8 : w6.cell? ⟨A, 8, none⟩ = some (.int .i64 x.cmd.op) := by rw [cell_of_row _ _ _ _ _ _ A6.out]; rfl
        have d9 : w6.cell? ⟨A, 9, none⟩ = some (.int .i64 x.cmd.client) := by rw [cell_of_row _ _ _ _ _ _ A6.out]; rfl
        have d10 : w6.cell? ⟨A, 10, none⟩ = some (.int .i64 x.cmd.seq) := by rw [cell_of_row _ _ _ _ _ _ A6.out]; rfl
        have d11 : w6.cell? ⟨A, 11, none⟩ = some (.int .i64 x.cmd.from') := by rw [cell_of_row _ _ _ _ _ _ A6.out]; rfl
        have d12 : w6.cell? ⟨A, 12, none⟩ = some (.int .i64 x.cmd.to) := by rw [cell_of_row _ _ _ _ _ _ A6.out]; rfl
        have d13 : w6.cell? ⟨A, 13, none⟩ = some (.slice ua x.cmd.data.length uc) := by rw [cell_of_row _ _ _ _ _ _ A6.out]; rfl
        have HCM := hid (rlayCmd_any x.cmd _ w6 (HX.out.below HB6.out).d HI.out.c)
        have hcl := cmdB_len HI.out.c
        unfold cmdV at HCM
        generalize cmdB x.cmd = cb1 at HCM HM1 hcl
        go_wp2_with fail
        refine HCM.out.mono ?_
        rintro e w7 ⟨va7, vc7, rfl, ho7, hb7⟩
        have HO7 := hid ho7.bts
        have HOW7 := hid (O6.out.below hb7)
        have A7 := hid ((hb7.block A (lt_of_block A6.out)).trans A6.out)
        have HB7 := hid (HB6.out.trans (hb7.mono HB6.out.size))
        have hs7 := HB7.out.size
        clear ho7 hb7 d8 d9 d10 d11 d12 d13 O6 A6 HB6 HCM
        go_upto_region 11 with (at_builtin; refine wpl_append rfl _ _ rfl w.heap.size (.slice va6 m1.length vc6) m1 rfl HOW7.out _ cb1 rfl HO7.out (by omega) hs7 ?_; intro va8 vc8 w8 ho8 hg8; have HO8 := hid ho8; have A8 := hid (((Kt.refl [5] _).grown HOW7.out hg8 (by decide) _ _ _ _ A7.out (by decide)).trans A7.out); have HB8 := hid (HB7.out.trans (below_grown HOW7.out hg8 hs7)); clear ho8 hg8)
        obtain ⟨m2, hm2⟩ : ∃ m2, m2 = m1 ++ cb1 := ⟨_, rfl⟩
        have O8 : Hid (Own w8 w.heap.size (.slice va8 m2.length vc8) m2) := hid (by rw [hm2, List.length_append]; exact HO8.out)
        have hm2l : m2.length ≤ 5000000100 := by rw [hm2, List.length_append]; omega
        rw [← List.length_append, ← hm2]
        have HM2 : Hid (instBy x = m2 ++ (intB x.seq ++ listB refB' x.deps)) := hid (by rw [HM1.out, hm2]; simp)
        clear hm2 HO8 HOW7 HO7 HB7 A7 HM1 hs7 hcl
        have c14 : w8.cell? ⟨A, 14, none⟩ = some (.int .i64 x.seq) := by rw [cell_of_row _ _ _ _ _ _ A8.out]; rfl
        have hq := HI.out.s
        have hql := intB_lenM x.seq hq
        obtain ⟨hq0, hq1⟩ := hq
        go_wp2_with fail
        refine (refInt_any x.seq _ hq0 (by omega)).mono ?_
        rintro e w9 ⟨va9, vc9, rfl, ho9, hb9⟩
        have HO9 := hid ho9.bts
        have HOW9 := hid (O8.out.below hb9)
        have A9 := hid ((hb9.block A (lt_of_block A8.out)).trans A8.out)
        have HB9 := hid (HB8.out.trans (hb9.mono HB8.out.size))
        have hs9 := HB9.out.size
        generalize intB x.seq = sb1 at HO9 HM2 hql ⊢
        clear ho9 hb9 c14 O8 A8 HB8 hq0 hq1
        go_upto_region 12 with (at_builtin; refine wpl_append rfl _ _ rfl w.heap.size (.slice va8 m2.length vc8) m2 rfl HOW9.out _ sb1 rfl HO9.out (by omega) hs9 ?_; intro vaa vca wa hoa hga; have HOa := hid hoa; have Aa := hid (((Kt.refl [5] _).grown HOW9.out hga (by decide) _ _ _ _ A9.out (by decide)).trans A9.out); have HBa := hid (HB9.out.trans (below_grown HOW9.out hga hs9)); clear hoa hga)
        obtain ⟨m3, hm3⟩ : ∃ m3, m3 = m2 ++ sb1 := ⟨_, rfl⟩
        have Oa : Hid (Own wa w.heap.size (.slice vaa m3.length vca) m3) := hid (by rw [hm3, List.length_append]; exact HOa.out)
        have hm3l : m3.length ≤ 5000000200 := by rw [hm3, List.length_append]; omega
        rw [← List.length_append, ← hm3]
        have HM3 : Hid (instBy x = m3 ++ listB refB' x.deps) := hid (by rw [HM2.out, hm3]; simp)
        clear hm3 HOa HOW9 HO9 HB9 A9 HM2 hs9 hql
        have c15 : wa.cell? ⟨A, 15, none⟩ = some (.slice ra x.deps.length rc) := by rw [cell_of_row _ _ _ _ _ _ Aa.out]; rfl
        have hdI : (x.deps.length : Int) ≤ 4096 := by have := HI.out.l; omega
        have HDI : Hid (∀ r ∈ x.deps, I64 r.1 ∧ I64 r.2) := hid HI.out.d
        have HRS : Hid (∀ W, Below w.heap.size w W → Rfs W (.slice ra x.deps.length rc) x.deps) := hid fun W h => (HX.out.below h).r
        generalize x.deps = dd at HRS HDI hdI c15 HM3 Aa ⊢
        go_wp2_with fail
        refine (refNum_any _ _ (by omega) (by omega)).mono ?_
        rw [Int.toNat_natCast]
        rintro e wb ⟨vab, vcb, rfl, hob, hbb⟩
        have HOb := hid hob.bts
        have HOWb := hid (Oa.out.below hbb)
        have hAb := (hbb.block A (lt_of_block Aa.out)).trans Aa.out
        have Ab := hid hAb
        have HBb := hid (HBa.out.trans (hbb.mono HBa.out.size))
        clear hob hbb c15 Oa Aa HBa hAb
        have hnl := numB_len dd.length (by omega)
        generalize hxb : numB dd.length = nb at *
        have HXB := hid hxb
        clear hxb
        have hsb := HBb.out.size
        go_upto_region 13 with (at_builtin; refine wpl_append rfl _ _ rfl w.heap.size (.slice vaa m3.length vca) m3 rfl HOWb.out _ nb rfl HOb.out (by omega) hsb ?_; intro vac vcc wc hoc hgc; have HOc := hid hoc; have Ac := hid (((Kt.refl [5] _).grown HOWb.out hgc (by decide) _ _ _ _ Ab.out (by decide)).trans Ab.out); have HBc := hid (HBb.out.trans (below_grown HOWb.out hgc hsb)); clear hoc hgc)
        obtain ⟨m0, hm0⟩ : ∃ m0, m0 = m3 ++ nb := ⟨_, rfl⟩
        have Oc : Hid (Own wc w.heap.size (.slice vac m0.length vcc) m0) := hid (by rw [hm0, List.length_append]; exact HOc.out)
        have hm0l : m0.length ≤ 5000000300 := by rw [hm0, List.length_append]; omega
        rw [← List.length_append, ← hm0]
        have HM0 : Hid (instBy x = m0 ++ dd.flatMap refB') := hid (by rw [HM3.out, hm0]; unfold listB; rw [HXB.out]; simp)
        have c15 : wc.cell? ⟨A, 15, none⟩ = some (.slice ra dd.length rc) := by rw [cell_of_row _ _ _ _ _ _ Ac.out]; rfl
        clear hm0 HOc HOWb HOb HBb Ab HM3 hsb hnl HXB
        go_wp2_with fail
        clear c15 Ac
        go_loopw [3, 7, 67] (fun bv _ iv wr => ∃ (i : Nat) (va : Option Addr) (vc : Nat) (ac : List UInt8), iv = .int .i64 i ∧ i ≤ dd.length ∧ bv = .slice va ac.length vc ∧ ac = m0 ++ (dd.take i).flatMap refB' ∧ Own wr w.heap.size (.slice va ac.length vc) ac ∧ Below w.heap.size w wr) (fun _ _ iv _ => dd.length - (intOf iv).toNat)
        case atStart => exact ⟨0, vac, vcc, m0, rfl, Nat.zero_le _, rfl, by simp, Oc.out, HBc.out⟩
        case round =>
          obtain ⟨i, va8, vc8, ac, rfl, hi2, rfl, hac, hown, hbr⟩ := hrel
          have HOW := hid hown
          have HBR := hid hbr
          have hfl := flat_take_lenM refB' dd i 22 fun x hx => refB'_len x (HDI.out x hx)
          have hlen : ac.length ≤ 6000000000 := by rw [hac, List.length_append]; omega
          have HAC := hid hac
          clear hfl hac Oc HBc hown hbr
          by_cases hlt : (i : Int) < (dd.length : Int)
          · have hil : i < dd.length := by omega
            have US := HRS.out _ HBR.out
            obtain ⟨gd, od, rfl⟩ := US.addr (by omega)
            obtain ⟨k0, k1⟩ := US.lit i hil
            have hx := HDI.out dd[i] (List.getElem_mem hil)
            have HFT := hid (flat_take refB' dd i hil)
            clear US
            generalize dd[i] = r at k0 k1 hx HFT
            obtain ⟨r0, r1⟩ := r
            simp only at k0 k1 hx
            have h0l := intB_lenM r0 hx.1
            have h1l := intB_lenM r1 hx.2
            obtain ⟨⟨a0, a1⟩, e0, e1⟩ := hx
            obtain ⟨w2, hw2⟩ : ∃ w2, w2 = wr.alloc (.cells #[.int .i64 r0, .int .i64 r1] 23) := ⟨_, rfl⟩
            have b2 : Below wr.heap.size wr w2 := by rw [hw2]; exact (Below.refl _ _).alloc (Nat.le_refl _) _
            have hQ : w2.heap[wr.heap.size]? = some (.cells #[.int .i64 r0, .int .i64 r1] 23 (0, 0)) := by rw [hw2]; exact heap_alloc_new _ _
            have HOW2 := hid (HOW.out.below b2)
            have HB2 := hid (HBR.out.trans (b2.mono HBR.out.size))
            have HW2 := hid hw2
            clear hw2 b2 HOW HBR
            go_upto_region 16 with fail
            rw [← HW2.out]
            obtain ⟨Q, hQe⟩ : ∃ Q, Q = wr.heap.size := ⟨_, rfl⟩
            rw [← hQe] at hQ
            rw [← hQe]
            clear hQe HW2 k0 k1
            have j0 : w2.cell? ⟨Q, 0, none⟩ = some (.int .i64 r0) := by rw [cell_of_row _ _ _ _ _ _ hQ]; rfl
            have HQ := hid hQ
            clear hQ
            go_wp2_with fail
            refine (refInt_any r0 _ a0 (by omega)).mono ?_
            rintro e w5 ⟨va5, vc5, rfl, ho5, hb5⟩
            have HO5 := hid ho5.bts
            have HOW5 := hid (HOW2.out.below hb5)
            have Q5 := hid ((hb5.block Q (lt_of_block HQ.out)).trans HQ.out)
            have HB5 := hid (HB2.out.trans (hb5.mono HB2.out.size))
            clear ho5 hb5 j0 HOW2 HB2 HQ
            have HRB : Hid (refB' (r0, r1) = intB r0 ++ intB r1) := hid rfl
            generalize intB r0 = xb at *
            have hs5 := HB5.out.size
            go_upto_region 17 with (at_builtin; refine wpl_append rfl _ _ rfl w.heap.size (.slice va8 ac.length vc8) ac rfl HOW5.out _ xb rfl HO5.out (by omega) hs5 ?_; intro va6 vc6 w6 ho6 hg6; have HO6 := hid ho6; have Q6 := hid (((Kt.refl [5] _).grown HOW5.out hg6 (by decide) _ _ _ _ Q5.out (by decide)).trans Q5.out); have HB6 := hid (HB5.out.trans (below_grown HOW5.out hg6 hs5)); clear ho6 hg6)
            obtain ⟨ac1, hac1⟩ : ∃ ac1, ac1 = ac ++ xb := ⟨_, rfl⟩
            have O6 : Hid (Own w6 w.heap.size (.slice va6 ac1.length vc6) ac1) := hid (by rw [hac1, List.length_append]; exact HO6.out)
            have hac1l : ac1.length ≤ 6000000100 := by rw [hac1, List.length_append]; omega
            rw [← List.length_append, ← hac1]
            have HAC1 := hid hac1
            clear hac1 HO6 HOW5 HO5 HB5 Q5 hs5
            have j1 : w6.cell? ⟨Q, 1, none⟩ = some (.int .i64 r1) := by rw [cell_of_row _ _ _ _ _ _ Q6.out]; rfl
            go_wp2_with fail
            refine (refInt_any r1 _ e0 (by omega)).mono ?_
            rintro e w7 ⟨va7, vc7, rfl, ho7, hb7⟩
            have HO7 := hid ho7.bts
            have HOW7 := hid (O6.out.below hb7)
            have HB7 := hid (HB6.out.trans (hb7.mono HB6.out.size))
            clear ho7 hb7 j1 O6 HB6 Q6
            generalize intB r1 = yb at *
            have hs7 := HB7.out.size
            go_wp2_with (at_builtin; refine wpl_append rfl _ _ rfl w.heap.size (.slice va6 ac1.length vc6) ac1 rfl HOW7.out _ yb rfl HO7.out (by omega) hs7 ?_; intro va9 vc9 w9 ho9 hg9; have HO9 := hid ho9; have HB9 := hid (HB7.out.trans (below_grown HOW7.out hg9 hs7)); clear ho9 hg9)
            go_roundw
            case rel =>
              refine ⟨i + 1, va9, vc9, ac1 ++ yb, by go_num, by omega, by simp, ?_, ?_, HB9.out⟩
              · rw [HAC1.out, HAC.out, HFT.out, HRB.out]; simp
              · have := HO9.out; rwa [← List.length_append] at this
            case measure => simp [intOf]; omega
          · obtain rfl : i = dd.length := by omega
            have hE : ac = instBy x := by rw [HM0.out, HAC.out, List.take_length]
            go_wp2_with fail
            go_ret
            subst hE
            exact ⟨_, _, rfl, HOW.out, HBR.out⟩
end Go.Proofs.YthhcpoafnmhnhaaGreat
