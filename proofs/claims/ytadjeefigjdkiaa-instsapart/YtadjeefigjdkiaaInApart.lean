/- The law InstsApart: what is handed in and out shares nothing with the table; a clone and its original go on apart. Conditions: the instances lie in memory. -/
import Derived.Test.YtadjeefigjdkiaaInCloneT
import Derived.Test.YtadjeefigjdkiaaInLives
import Derived.Laws.OwnMore
namespace Go.Proofs.Ytadjeefigjdkiaa
open Go.RowKit Go.Maps Go.Shelf
set_option linter.unusedVariables false
set_option linter.unusedSimpArgs false

theorem instEq_refl (x : InD) : instEqB x x = true := by
  unfold instEqB cmdEqB
  simp [eqB_of]
theorem once_eq {L : List EnI} (h : L.Pairwise fun a b => a.x.ref ≠ b.x.ref) {a b : EnI} (ha : a ∈ L) (hb : b ∈ L) (he : a.x.ref = b.x.ref) : a = b := by
  induction h with
  | nil => simp at ha
  | cons hx hp ih =>
    rcases List.mem_cons.1 ha with ea | ha2
    · rcases List.mem_cons.1 hb with eb | hb2
      · rw [ea, eb]
      · exact absurd (by rw [← ea]; exact he) (hx b hb2)
    · rcases List.mem_cons.1 hb with eb | hb2
      · exact absurd (by rw [← eb]; exact he.symm) (hx a ha2)
      · exact ih ha2 hb2
/-- What is there is got. -/
theorem GotI.there {D : DataW Value} {L : List EnI} {r : Int × Int} {x : InD} {b : Bool} (h : GotI L r x b) (hT : TL D L) {e : EnI} (he : e ∈ L) (hr : e.x.ref = r) : b = true ∧ x = e.x := by
  rcases h with ⟨h1, y, hy, h2, h3⟩ | ⟨-, -, h3⟩
  · exact ⟨h1, by rw [← h2, once_eq hT.once hy he (by rw [h2, h3, hr])]⟩
  · exact absurd hr (h3 e he)
theorem PlI.other {w W W' : World} {tb mb nn tc mc n2 : Nat} {D D2 : DataW Value} {L X : List EnI} {v : Value} (h : PlI w W tb mb nn D L X v) (hT : Tb W tc mc n2 D2) (hne : mb ≠ mc) (hf : w.heap.size ≤ mc) (hg : W.grownBy W' (some mc)) : PlI w W' tb mb nn D L X v := by
  have hk : KC W W' := KC.grown hT hg
  refine ⟨h.tab.kept hg ?_ (fun e => hne (Option.some.inj e)), h.tl, own_kc h.row hk, h.same, h.ok, fun e he => (h.memL e he).kc hk, fun e he => (h.memX e he).kc hk, h.fresh, h.bel.grown hg h.bel.size (fun k e => by cases e; exact hf)⟩
  intro e
  obtain ⟨es, clock, hm, -⟩ := hT.own
  have := h.tab.box
  rw [Option.some.inj e] at this
  rw [this] at hm; cases hm
theorem PlI.there {w W : World} {tb mb nn : Nat} {D : DataW Value} {L X : List EnI} {v : Value} (h : PlI w W tb mb nn D L X v) {y : EnI} (hy : y ∈ X) : ∃ e ∈ L, e.x = y.x := by
  have : y.x ∈ L.map (fun y => y.x) := by rw [← h.same]; exact List.mem_map.2 ⟨y, hy, rfl⟩
  obtain ⟨e, he, h2⟩ := List.mem_map.1 this
  exact ⟨e, he, h2⟩
theorem ownApart {W W' : World} {B B2 : Nat} {E E2 : TypeId} {k k2 n n2 : Nat} {v v2 : Value} {xs xs2 : List Value} (h : W.ownsRow B E k v n xs) (ho : W.ownsRow B2 E2 k2 v2 n2 xs2) (hE : E ≠ E2) (hg : W.grownBy W' v2.ownBlock) : W'.ownsRow B E k v n xs :=
  own_kept h fun q cs _ hh => hg.block q (lt_of_block hh) fun e => by
    obtain ⟨cur, hcur⟩ := own_typed ho e.symm
    rw [hh] at hcur
    simp at hcur
    exact hE hcur.2
/-- A load of an instance from its own box, under a guard that is met. -/
theorem wpl_loadG {ops : Array Oper} {rest : List Oper} {o : Oper} {a : Act} {w : World} {Q : Exit → Act → World → Prop} (hw : Region.wanted o (yielded ops a.tmps) = true) (x : Operand) (ho : o.op = .load 31 x)
    (g : Nat) (hx : a.eval x = .pointer (some ⟨g, 0, none⟩)) (cs : Array Value) (hs : cs.size = 16) (t : TypeId) (fr : Nat × Nat) (hg : w.heap[g]? = some (.cells cs t fr))
    (h : wpList Try.prog ops Q rest (a.put o.dst (.agg cs)) w) : wpList Try.prog ops Q (o :: rest) a w := by
  obtain ⟨d, hd1, hd2⟩ := Try.structInst
  refine wpList_step fun K hK => ?_
  rw [if_pos hw]
  exact wp_load_row _ x ho g hx t cs fr d hg hd1 (by cases d <;> first | rfl | (simp at hd2)) (by rw [hs]; exact Try.sizeInst) (hK _ _ h)
set_option maxRecDepth 100000 in
set_option maxHeartbeats 8000000 in
theorem instsApart_any (v : Value) (l : List EnI) (x : InD) (ux vx : Value) (w : World) (hv : Ins w v l) (hj : ∀ e ∈ l, InJ e.x) (hx : InM w x ux vx) (jx : InJ x) :
    Calls Try.prog 8 #[v, instV x ux vx] w fun e w' => e = .returned (.bool true) ∧ Below w.heap.size w w' := by
  have HV := hid hv
  have HPY := hid (fun W h => play_any v l W h hj)
  obtain ⟨xa, xc, rfl⟩ := hv.shape
  obtain ⟨xua, xuc, rfl⟩ := hx.d.shape
  obtain ⟨xva, xvc, rfl⟩ := hx.r.shape
  have HX := hid hx
  have JX := hid jx
  clear hv hj hx jx
  obtain ⟨w1, hw1⟩ : ∃ w1, w1 = w.alloc (.cells (instC x (.slice xua x.cmd.data.length xuc) (.slice xva x.deps.length xvc)) 31) := ⟨_, rfl⟩
  have b1 : Below w.heap.size w w1 := by rw [hw1]; exact (Below.refl _ _).alloc (Nat.le_refl _) _
  have hA : w1.heap[w.heap.size]? = some (.cells (instC x (.slice xua x.cmd.data.length xuc) (.slice xva x.deps.length xvc)) 31 (0, 0)) := by rw [hw1]; exact heap_alloc_new _ _
  have HW1 := hid hw1
  have B1 := hid b1
  have HX1 := hid (HX.out.below b1)
  clear hw1 b1 HX
  unfold instC at HW1
  simp only [instV]
  unfold instC
  go_enter Try.func8, Try.ntmps8
  go_upto_region 1 with fail
  rw [← HW1.out]
  obtain ⟨A, hAe⟩ : ∃ A, A = w.heap.size := ⟨_, rfl⟩
  rw [← hAe] at hA
  rw [← hAe]
  clear hAe HW1
  have HA1 := hid hA
  clear hA
  go_wp2_with (refine wpl_loadC rfl _ rfl A rfl (instC x (.slice xua x.cmd.data.length xuc) (.slice xva x.deps.length xvc)) rfl _ _ HA1.out ?_)
  refine (ilight_any x (.slice xua x.cmd.data.length xuc) (.slice xva x.deps.length xvc) w1 HX1.out JX.out.s).mono ?_
  rintro e w2 ⟨rl, rfl, hrl, hb2⟩
  have B2 := hid (B1.out.trans (hb2.mono B1.out.size))
  have HRL := hid hrl
  have HA2 := hid ((hb2.block A (lt_of_block HA1.out)).trans HA1.out)
  have HX2 := hid (HX1.out.below hb2)
  clear hb2 hrl HA1 HX1
  cases rl with
  | false =>
    have BE := B2
    go_wp2_with fail
    refine (lives_any _).mono ?_
    rintro e wf ⟨rfl, hbf⟩
    have BF := hid (BE.out.trans (hbf.mono BE.out.size))
    clear hbf
    go_wp2_with fail
    go_ret
    exact ⟨rfl, BF.out⟩
  | true =>
    have HLX := hid (HRL.out (by trivial))
    clear HRL
    go_wp2_with fail
    refine (HPY.out w2 (HV.out.below B2.out)).mono ?_
    rintro e w3 ⟨tb, mb, nn, D, L, X, va, vc, rfl, hPL, hL60, hnn, hJX⟩
    have PL3 := hid hPL
    have HXl := hid hPL.len
    clear hPL hJX HPY HV
    go_wp2_with fail
    refine (icloneT_any tb mb nn D L w3 PL3.out.tab PL3.out.tl PL3.out.memL (fun e he => (PL3.out.ok e he).2) hL60).mono ?_
    rintro e w4 ⟨tc, mc, n2, D2, L2, rfl, hLt, htc, hmc, hn2, hl2, hb4⟩
    have hmm : mb ≠ mc := by have := PL3.out.tab.own.lt; omega
    have PL4 := hid (PL3.out.below hb4)
    have HS34 := hid hb4.size
    have LT4 := hid hLt
    have HMC : Hid (w2.heap.size ≤ mc) := hid (by have := PL3.out.bel.size; omega)
    have B4 := hid (B2.out.trans (PL4.out.bel.mono B2.out.size))
    have B24 := hid PL4.out.bel
    have HA4 := hid ((PL4.out.bel.block A (lt_of_block HA2.out)).trans HA2.out)
    have HX4 := hid (HX2.out.below PL4.out.bel)
    have HI4 := hid (ins_own PL4.out.row PL4.out.memX)
    have hXl : (X.length : Int) ≤ 9223372036854775807 := HI4.out.len
    have hXL60 : X.length ≤ 60 := by rw [PL4.out.len]; exact hL60
    have hLC : L2.length ≤ 60 ∧ n2 ≤ 60 := by omega
    clear hLt hb4 PL3 HA2 HX2 htc hmc hn2 hl2
    go_wp2_with fail
    go_loopw [37] (fun iv wr => ∃ i : Nat, iv = .int .i64 i ∧ i ≤ X.length ∧ Below w4.heap.size w4 wr) (fun iv _ => X.length - (intOf iv).toNat)
    case atStart => exact ⟨0, rfl, Nat.zero_le _, Below.refl _ _⟩
    case round =>
      obtain ⟨i, rfl, hi, hbr⟩ := hrel
      have BR := hid hbr
      clear hbr
      by_cases hlt : i < X.length
      · have hltI : (i : Int) < (X.length : Int) := by omega
        have HIr := hid (HI4.out.below BR.out)
        have HVr := hid (HIr.out)
        obtain ⟨gb, go', hva⟩ := HVr.out.addr (by omega)
        subst hva
        have HRG := hid (HVr.out.range i hlt)
        have HYX := hid (List.getElem_mem hlt)
        have HMY := hid (HVr.out.lit i hlt).2
        generalize X[i] = y at HRG HYX HMY
        have hcy : y.c.size = 16 := rfl
        have hyo := y.one
        go_upto_region 10 with (first | (refine wpl_loadE rfl _ rfl gb (go' + i * 16) rfl y.c hcy HRG.out ?_) | (refine wpl_storeC rfl _ _ rfl wr.heap.size y.c rfl rfl hcy hyo _ zeroI (.slice none 0 0) (.slice none 0 0) (heap_alloc_new _ _) ?_))
        obtain ⟨wa, hwa⟩ : ∃ wa, wa = (wr.alloc (.cells (instC zeroI (.slice none 0 0) (.slice none 0 0)) 31)).setRow wr.heap.size y.c := ⟨_, rfl⟩
        have ba : Below wr.heap.size wr wa := by rw [hwa]; exact below_row ((Below.refl _ _).alloc (Nat.le_refl _) _) (Nat.le_refl _) _
        have hYb : wa.heap[wr.heap.size]? = some (.cells y.c 31 (0, 0)) := by rw [hwa]; exact setRow_heap _ _ _ _ _ _ (heap_alloc_new _ _)
        have HWA := hid hwa
        clear hwa
        unfold instC zeroI at HWA
        simp only at HWA
        rw [← HWA.out]
        obtain ⟨Y, hYe⟩ : ∃ Y, Y = wr.heap.size := ⟨_, rfl⟩
        rw [← hYe] at hYb
        rw [← hYe]
        clear hYe HWA
        have k0 : wa.cell? ⟨Y, 0, none⟩ = some (.int .i64 y.x.ref.1) := by rw [cell_of_row _ _ _ _ _ _ hYb]; rfl
        have k1 : wa.cell? ⟨Y, 1, none⟩ = some (.int .i64 y.x.ref.2) := by rw [cell_of_row _ _ _ _ _ _ hYb]; rfl
        have HYb := hid hYb
        have BA := hid (BR.out.trans (ba.mono BR.out.size))
        have HMYa := hid (HMY.out.below ba)
        clear ba hYb HRG HVr HMY HIr
        have PLa := hid (PL4.out.below BA.out)
        obtain ⟨ey, hey, hexy⟩ := PLa.out.there HYX.out
        have HRY := hid (show RefI y.x.ref by rw [← hexy]; exact PLa.out.tl.refs ey hey)
        clear hey hexy
        go_wp2_with fail
        refine (iget_any tb mb nn D L y.x.ref wa PLa.out.tab PLa.out.tl PLa.out.memL (fun e he => (PLa.out.ok e he).2) HRY.out).mono ?_
        rintro e wb hG
        obtain ⟨z, bz, zu, zv, hgot, rfl, hzu, hzv, hbz⟩ := hG
        obtain ⟨zua, zuc, rfl⟩ := own_shape hzu
        obtain ⟨zva, zvc, rfl⟩ := own_shape hzv
        have HZU := hid hzu
        have HZV := hid hzv
        have HBZ := hid hbz
        have HGOT := hid hgot
        clear hzu hzv hbz hgot
        simp only [instV]
        have hoz : (instC z (.slice zua z.cmd.data.length zuc) (.slice zva z.deps.length zvc)).all (·.oneCell') = true := instC_one _ _ _ rfl rfl
        have hsz : (instC z (.slice zua z.cmd.data.length zuc) (.slice zva z.deps.length zvc)).size = 16 := rfl
        generalize hcz : instC z (.slice zua z.cmd.data.length zuc) (.slice zva z.deps.length zvc) = cz at hoz hsz ⊢
        have HCZ := hid hcz
        clear hcz
        go_upto_region 11 with (refine wpl_storeC rfl _ _ rfl wb.heap.size cz rfl rfl hsz hoz _ zeroI (.slice none 0 0) (.slice none 0 0) (heap_alloc_new _ _) ?_)
        obtain ⟨wc, hwc⟩ : ∃ wc, wc = (wb.alloc (.cells (instC zeroI (.slice none 0 0) (.slice none 0 0)) 31)).setRow wb.heap.size cz := ⟨_, rfl⟩
        have bc : Below wb.heap.size wb wc := by rw [hwc]; exact below_row ((Below.refl _ _).alloc (Nat.le_refl _) _) (Nat.le_refl _) _
        have hZb : wc.heap[wb.heap.size]? = some (.cells cz 31 (0, 0)) := by rw [hwc]; exact setRow_heap _ _ _ _ _ _ (heap_alloc_new _ _)
        have HWC := hid hwc
        clear hwc
        unfold instC zeroI at HWC
        simp only at HWC
        rw [← HWC.out]
        obtain ⟨Z, hZe⟩ : ∃ Z, Z = wb.heap.size := ⟨_, rfl⟩
        rw [← hZe] at hZb
        rw [← hZe]
        have HZe := hid hZe
        clear hZe HWC
        have HBC := hid bc
        have HZU2 := hid (own_below HZU.out bc)
        have HZV2 := hid (own_below HZV.out bc)
        have HZb := hid hZb
        clear bc hZb
        have BCc := hid ((BA.out.trans (HBZ.out.mono BA.out.size)).trans (HBC.out.mono (Nat.le_trans BA.out.size HBZ.out.size)))
        have HVL : Hid (∀ q, (Value.slice zva z.deps.length zvc).ownBlock = some q → wa.heap.size ≤ q ∧ q < Z) := hid fun q hq => by have := World.ownsRow.lt HZV.out q hq; have := HZe.out; omega
        have HUL : Hid (∀ q, (Value.slice zua z.cmd.data.length zuc).ownBlock = some q → wa.heap.size ≤ q ∧ q < Z) := hid fun q hq => by have := World.ownsRow.lt HZU.out q hq; have := HZe.out; omega
        have HZb2 : Hid (wc.heap[Z]? = some (.cells (instC z (.slice zua z.cmd.data.length zuc) (.slice zva z.deps.length zvc)) 31 (0, 0))) := hid (by rw [HCZ.out]; exact HZb.out)
        have HSa := hid BA.out.size
        have hdl : (z.deps.length : Int) ≤ 9223372036854775807 := (rfs_rvs HZV2.out).len
        have hul : (z.cmd.data.length : Int) ≤ 9223372036854775807 := strs_len (strs_svs HZU2.out)
        have hxs0 : (rvs z.deps).length = z.deps.length * 2 := rvs_len _
        have HXS0 := hid hxs0
        clear hxs0 HZU HZV HBZ HBC HZb HCZ hoz hsz HGOT k0 k1 HYb HMYa
        generalize rvs z.deps = xs0 at *
        generalize hsu : svs z.cmd.data = us0 at *
        have HSU := hid (show us0.length = z.cmd.data.length by rw [← hsu]; simp [svs])
        clear hsu
        generalize hnd : z.deps.length = nd at *
        generalize hnu : z.cmd.data.length = nu at *
        have c15 : wc.cell? ⟨Z, 15, none⟩ = some (.slice zva nd zvc) := by rw [cell_of_row _ _ _ _ _ _ HZb2.out]; rfl
        clear hnd hnu
        go_wp2_with fail
        clear c15
        go_loopw [51] (fun jv wt => ∃ (j : Nat) (xs : List Value), jv = .int .i64 j ∧ j ≤ nd ∧ wc.grownBy wt (Value.slice zva nd zvc).ownBlock ∧ wt.ownsRow wa.heap.size 23 2 (.slice zva nd zvc) nd xs) (fun jv _ => nd - (intOf jv).toNat)
        case atStart => exact ⟨0, xs0, rfl, Nat.zero_le _, World.grownBy.refl _ _, HZV2.out⟩
        case round =>
          obtain ⟨j, xs, rfl, hj, hgt, hot⟩ := hrel
          have HGT := hid hgt
          have HOT := hid hot
          have hZt : wr.heap[Z]? = some (.cells (instC z (.slice zua nu zuc) (.slice zva nd zvc)) 31 (0, 0)) := (hgt.block Z (lt_of_block HZb2.out) (fun e => by have := HVL.out Z e.symm; omega)).trans HZb2.out
          have c15 : wr.cell? ⟨Z, 15, none⟩ = some (.slice zva nd zvc) := by rw [cell_of_row _ _ _ _ _ _ hZt]; rfl
          have c13 : wr.cell? ⟨Z, 13, none⟩ = some (.slice zua nu zuc) := by rw [cell_of_row _ _ _ _ _ _ hZt]; rfl
          clear hgt hot hZt
          by_cases hjl : (j : Int) < (nd : Int)
          · obtain ⟨g, hg⟩ : ∃ g, zva = some ⟨g, 0, none⟩ := by
              obtain ⟨h1, ⟨h2, h3⟩ | ⟨g', cap, cur, e, -⟩⟩ := HOT.out
              · omega
              · simp only [Value.slice.injEq] at e; exact ⟨g', e.1⟩
            subst hg
            have hxl := HOT.out.1
            have g0 : wr.cell? ⟨g, j * 2, none⟩ = some (xs[j * 2]'(by omega)) := by rw [HOT.out.cellAt (j * 2) (by omega), List.getElem?_eq_getElem (by omega)]
            have g1 : wr.cell? ⟨g, j * 2 + 1, none⟩ = some (xs[j * 2 + 1]'(by omega)) := by rw [HOT.out.cellAt (j * 2 + 1) (by omega), List.getElem?_eq_getElem (by omega)]
            generalize (xs[j * 2]'(by omega)) = y0 at g0
            generalize (xs[j * 2 + 1]'(by omega)) = y1 at g1
            have f0 := HOT.out.frozenAt (j * 2)
            have f1 := HOT.out.frozenAt (j * 2 + 1)
            have HS1 := hid (HOT.out.stored (j * 2) (.int .i64 0))
            have HS2 := hid (HS1.out.1.stored (j * 2 + 1) (.int .i64 0))
            clear hxl
            go_wp2_with fail
            go_roundw
            case rel => exact ⟨j + 1, _, by go_num, by omega, (HGT.out.trans HS1.out.2).trans HS2.out.2, HS2.out.1⟩
            case measure => simp [intOf]; omega
          · have BT := hid (BCc.out.grown HGT.out BCc.out.size (fun k e => by have := HVL.out k e; have := HSa.out; omega))
            have HUT := hid (ownApart HZU2.out HZV2.out (by decide) HGT.out)
            have HZt : Hid (wr.heap[Z]? = some (.cells (instC z (.slice zua nu zuc) (.slice zva nd zvc)) 31 (0, 0))) := hid ((HGT.out.block Z (lt_of_block HZb2.out) (fun e => by have := HVL.out Z e.symm; omega)).trans HZb2.out)
            obtain ⟨wt, hwt⟩ : ∃ wt, wt = wr := ⟨_, rfl⟩
            rw [← hwt] at BT HUT HZt c13
            rw [← hwt]
            clear hwt c15 HGT HOT
            go_wp2_with fail
            clear c13
            go_loopw [64] (fun jv wu => ∃ (j : Nat) (xs : List Value), jv = .int .i64 j ∧ j ≤ nu ∧ wt.grownBy wu (Value.slice zua nu zuc).ownBlock ∧ wu.ownsRow wa.heap.size 9 1 (.slice zua nu zuc) nu xs) (fun jv _ => nu - (intOf jv).toNat)
            case atStart => exact ⟨0, us0, rfl, Nat.zero_le _, World.grownBy.refl _ _, HUT.out⟩
            case round =>
              obtain ⟨j, xs, rfl, hj, hgt, hot⟩ := hrel
              have HGT := hid hgt
              have HOT := hid hot
              have hZu : wr.heap[Z]? = some (.cells (instC z (.slice zua nu zuc) (.slice zva nd zvc)) 31 (0, 0)) := (hgt.block Z (lt_of_block HZt.out) (fun e => by have := HUL.out Z e.symm; omega)).trans HZt.out
              have c13 : wr.cell? ⟨Z, 13, none⟩ = some (.slice zua nu zuc) := by rw [cell_of_row _ _ _ _ _ _ hZu]; rfl
              clear hgt hot hZu
              by_cases hjl2 : (j : Int) < (nu : Int)
              · obtain ⟨g, hg⟩ : ∃ g, zua = some ⟨g, 0, none⟩ := by
                  obtain ⟨h1, ⟨h2, h3⟩ | ⟨g', cap, cur, e, -⟩⟩ := HOT.out
                  · omega
                  · simp only [Value.slice.injEq] at e; exact ⟨g', e.1⟩
                subst hg
                have hxl := HOT.out.1
                have g0 : wr.cell? ⟨g, j, none⟩ = some (xs[j]'(by omega)) := by rw [HOT.out.cellAt j (by omega), List.getElem?_eq_getElem (by omega)]
                generalize (xs[j]'(by omega)) = y0 at g0
                have f0 := HOT.out.frozenAt j
                have HS1 := hid (HOT.out.stored j (.string ⟨#[111, 116, 104, 101, 114]⟩))
                clear hxl
                go_wp2_with fail
                go_roundw
                case rel => exact ⟨j + 1, _, by go_num, by omega, HGT.out.trans HS1.out.2, HS1.out.1⟩
                case measure => simp [intOf]; omega
              · have BU := hid (BT.out.grown HGT.out BT.out.size (fun k e => by have := HUL.out k e; have := HSa.out; omega))
                go_wp2_with fail
                go_roundw
                case rel => exact ⟨i + 1, by go_num, by omega, BU.out⟩
                case measure => simp [intOf]; omega
      · obtain rfl : i = X.length := by omega
        have hAr := (BR.out.block A (lt_of_block HA4.out)).trans HA4.out
        have HXr := hid (HX4.out.below BR.out)
        have LTr := hid (LT4.out.below BR.out)
        have PLr := hid (PL4.out.below BR.out)
        have HAr := hid hAr
        have B4r := hid (B4.out.trans (BR.out.mono B4.out.size))
        go_wp2_with (refine wpl_loadC rfl _ rfl A rfl (instC x (.slice xua x.cmd.data.length xuc) (.slice xva x.deps.length xvc)) rfl _ _ hAr ?_)
        refine (iputL_any tc mc n2 D2 L2 x (.slice xua x.cmd.data.length xuc) (.slice xva x.deps.length xvc) wr LTr.out.tab LTr.out.tl (by unfold maxLen; omega) HXr.out (light_ok HXr.out HLX.out) JX.out.ref.1 JX.out.ref.2 (by have := HLX.out.2.2; omega)).mono ?_
        rintro e w5 ⟨rfl, hp⟩
        obtain ⟨n5, D5, L5, hLT5, hPL5, hk5, hb5, hx5⟩ : ∃ n5 D5 L5, LtT w3.heap.size w5 tc mc n5 D5 L5 ∧ PlI w2 w5 tb mb nn D L X (.slice va X.length vc) ∧ KC wr w5 ∧ Below w.heap.size w w5 ∧ (instB x = true → ∃ e ∈ L5, e.x = x) := by
          rcases hp with ⟨h1, h2⟩ | ⟨h1, e1, D1, he1, -, -, hT1, hL1, hu1, hr1, hg1⟩
          · refine ⟨n2, D2, L2, LTr.out.below h2, PLr.out.below h2, KC.below h2, B4r.out.trans (h2.mono B4r.out.size), fun hb => ?_⟩
            exfalso
            apply h1
            unfold putN
            rw [if_pos hb, if_pos (.inr (by omega))]
          · refine ⟨n2 + 1, D1, putL L2 e1, LTr.out.put hT1 hL1 hg1 (by rw [he1]; exact HLX.out) (by rw [he1]; exact own_lower hu1 (Nat.le_trans HS34.out BR.out.size)) (by rw [he1]; exact own_lower hr1 (Nat.le_trans HS34.out BR.out.size)), PLr.out.other LTr.out.tab hmm HMC.out hg1, KC.grown LTr.out.tab hg1, B4r.out.grown hg1 B4r.out.size (fun k e => by cases e; have := HMC.out; have := B2.out.size; omega), fun _ => ⟨e1, putL_new L2 e1, he1⟩⟩
        clear hp hAr
        have LT5 := hid hLT5
        have PL5 := hid hPL5
        have B5 := hid hb5
        have HX5 := hid hx5
        have HA5 := hid (hk5 _ _ _ _ HAr.out)
        have HXM5 := hid (HXr.out.kc hk5)
        have HI5 := hid (ins_own hPL5.row hPL5.memX)
        clear hLT5 hPL5 hb5 hx5 hk5 PLr LTr HXr HAr B4r BR HI4 PL4 LT4 HX4 HA4
        go_wp2_with fail
        go_loopw [79] (fun iv wr => ∃ i : Nat, iv = .int .i64 i ∧ i ≤ X.length ∧ Below w5.heap.size w5 wr) (fun iv _ => X.length - (intOf iv).toNat)
        case atStart => exact ⟨0, rfl, Nat.zero_le _, Below.refl _ _⟩
        case round =>
          obtain ⟨i, rfl, hi, hbr⟩ := hrel
          have BR := hid hbr
          clear hbr
          by_cases hlt : i < X.length
          · have hltI : (i : Int) < (X.length : Int) := by omega
            have HIr := hid (HI5.out.below BR.out)
            have HVr := hid (HIr.out)
            obtain ⟨gb, go', hva⟩ := HVr.out.addr (by omega)
            subst hva
            have HRG := hid (HVr.out.range i hlt)
            have HYX := hid (List.getElem_mem hlt)
            have HMY := hid (HVr.out.lit i hlt).2
            generalize X[i] = y at HRG HYX HMY
            have hcy : y.c.size = 16 := rfl
            have hyo := y.one
            go_upto_region 26 with (first | (refine wpl_loadE rfl _ rfl gb (go' + i * 16) rfl y.c hcy HRG.out ?_) | (refine wpl_storeC rfl _ _ rfl wr.heap.size y.c rfl rfl hcy hyo _ zeroI (.slice none 0 0) (.slice none 0 0) (heap_alloc_new _ _) ?_))
            obtain ⟨wa, hwa⟩ : ∃ wa, wa = (wr.alloc (.cells (instC zeroI (.slice none 0 0) (.slice none 0 0)) 31)).setRow wr.heap.size y.c := ⟨_, rfl⟩
            have ba : Below wr.heap.size wr wa := by rw [hwa]; exact below_row ((Below.refl _ _).alloc (Nat.le_refl _) _) (Nat.le_refl _) _
            have hYb : wa.heap[wr.heap.size]? = some (.cells y.c 31 (0, 0)) := by rw [hwa]; exact setRow_heap _ _ _ _ _ _ (heap_alloc_new _ _)
            have HWA := hid hwa
            clear hwa
            unfold instC zeroI at HWA
            simp only at HWA
            rw [← HWA.out]
            obtain ⟨Y, hYe⟩ : ∃ Y, Y = wr.heap.size := ⟨_, rfl⟩
            rw [← hYe] at hYb
            rw [← hYe]
            clear hYe HWA
            have k0 : wa.cell? ⟨Y, 0, none⟩ = some (.int .i64 y.x.ref.1) := by rw [cell_of_row _ _ _ _ _ _ hYb]; rfl
            have k1 : wa.cell? ⟨Y, 1, none⟩ = some (.int .i64 y.x.ref.2) := by rw [cell_of_row _ _ _ _ _ _ hYb]; rfl
            have HYb := hid hYb
            have BA := hid (BR.out.trans (ba.mono BR.out.size))
            have HMYa := hid (HMY.out.below ba)
            clear ba hYb HRG HVr HMY HIr
            have PLa := hid (PL5.out.below BA.out)
            obtain ⟨ey, hey, hexy⟩ := PLa.out.there HYX.out
            have HRY := hid (show RefI y.x.ref by rw [← hexy]; exact PLa.out.tl.refs ey hey)
            go_wp2_with fail
            refine (iget_any tb mb nn D L y.x.ref wa PLa.out.tab PLa.out.tl PLa.out.memL (fun e he => (PLa.out.ok e he).2) HRY.out).mono ?_
            rintro e wb hG
            obtain ⟨z, bz, zu, zv, hgot, rfl, hzu, hzv, hbz⟩ := hG
            obtain ⟨hb1, hz1⟩ := hgot.there PLa.out.tl hey (by rw [hexy])
            obtain rfl : bz = true := hb1
            obtain rfl : z = y.x := by rw [hz1, hexy]
            clear hz1 hgot hey hexy
            obtain ⟨zua, zuc, rfl⟩ := own_shape hzu
            obtain ⟨zva, zvc, rfl⟩ := own_shape hzv
            have HZU := hid hzu
            have HZV := hid hzv
            have HBZ := hid hbz
            clear hzu hzv hbz
            simp only [instV]
            have hoz : (instC y.x (.slice zua y.x.cmd.data.length zuc) (.slice zva y.x.deps.length zvc)).all (·.oneCell') = true := instC_one _ _ _ rfl rfl
            have hsz : (instC y.x (.slice zua y.x.cmd.data.length zuc) (.slice zva y.x.deps.length zvc)).size = 16 := rfl
            generalize hcz : instC y.x (.slice zua y.x.cmd.data.length zuc) (.slice zva y.x.deps.length zvc) = cz at hoz hsz ⊢
            have HCZ := hid hcz
            clear hcz
            go_upto_region 27 with (refine wpl_storeC rfl _ _ rfl wb.heap.size cz rfl rfl hsz hoz _ zeroI (.slice none 0 0) (.slice none 0 0) (heap_alloc_new _ _) ?_)
            obtain ⟨wc, hwc⟩ : ∃ wc, wc = (wb.alloc (.cells (instC zeroI (.slice none 0 0) (.slice none 0 0)) 31)).setRow wb.heap.size cz := ⟨_, rfl⟩
            have bc : Below wb.heap.size wb wc := by rw [hwc]; exact below_row ((Below.refl _ _).alloc (Nat.le_refl _) _) (Nat.le_refl _) _
            have hZb : wc.heap[wb.heap.size]? = some (.cells cz 31 (0, 0)) := by rw [hwc]; exact setRow_heap _ _ _ _ _ _ (heap_alloc_new _ _)
            have HWC := hid hwc
            clear hwc
            unfold instC zeroI at HWC
            simp only at HWC
            rw [← HWC.out]
            obtain ⟨Z, hZe⟩ : ∃ Z, Z = wb.heap.size := ⟨_, rfl⟩
            rw [← hZe] at hZb
            rw [← hZe]
            have HZe := hid hZe
            clear hZe HWC
            have HBC := hid bc
            have HZU2 := hid (own_below HZU.out bc)
            have HZV2 := hid (own_below HZV.out bc)
            have HZb := hid hZb
            clear bc hZb
            have hYc := (HBC.out.block Y (Nat.lt_of_lt_of_le (lt_of_block HYb.out) HBZ.out.size)).trans ((HBZ.out.block Y (lt_of_block HYb.out)).trans HYb.out)
            have HZb2 : Hid (wc.heap[Z]? = some (.cells (instC y.x (.slice zua y.x.cmd.data.length zuc) (.slice zva y.x.deps.length zvc)) 31 (0, 0))) := hid (by rw [HCZ.out]; exact HZb.out)
            have HMc := hid ((HMYa.out.below HBZ.out).below HBC.out)
            have HMZ : Hid (InM wc y.x (.slice zua y.x.cmd.data.length zuc) (.slice zva y.x.deps.length zvc)) := hid ⟨strs_svs HZU2.out, rfs_rvs HZV2.out⟩
            have BCc := hid ((BA.out.trans (HBZ.out.mono BA.out.size)).trans (HBC.out.mono (Nat.le_trans BA.out.size HBZ.out.size)))
            have hZc := HZb.out
            go_wp2_with (first | (refine wpl_loadG (by rfl) _ rfl Z rfl cz hsz _ _ hZc ?_) | (refine wpl_loadG (by rfl) _ rfl Y rfl y.c hcy _ _ hYc ?_))
            rw [← HCZ.out]
            refine (rsame_any y.x y.x (.slice zua y.x.cmd.data.length zuc) (.slice zva y.x.deps.length zvc) y.u y.r wc HMZ.out HMc.out).mono ?_
            rintro e wd ⟨rfl, hbd⟩
            rw [instEq_refl]
            have BD := hid (BCc.out.trans (hbd.mono BCc.out.size))
            clear hbd
            go_wp2_with fail
            go_roundw
            case rel => exact ⟨i + 1, by go_num, by omega, BD.out⟩
            case measure => simp [intOf]; omega
          · obtain rfl : i = X.length := by omega
            have hAf := (BR.out.block A (lt_of_block HA5.out)).trans HA5.out
            have HAf := hid hAf
            have k0 : wr.cell? ⟨A, 0, none⟩ = some (.int .i64 x.ref.1) := by rw [cell_of_row _ _ _ _ _ _ hAf]; rfl
            have k1 : wr.cell? ⟨A, 1, none⟩ = some (.int .i64 x.ref.2) := by rw [cell_of_row _ _ _ _ _ _ hAf]; rfl
            have LTf := hid (LT5.out.below BR.out)
            have HXf := hid (HXM5.out.below BR.out)
            have PLf := hid (PL5.out.below BR.out)
            have B5f := hid (B5.out.trans (BR.out.mono B5.out.size))
            clear hAf
            go_wp2_with fail
            refine (iget_any tc mc n5 D5 L5 x.ref wr LTf.out.tab LTf.out.tl (fun e he => LTf.out.inm he) (fun e he => (LTf.out.mem e he).1) JX.out.ref).mono ?_
            rintro e wb hG
            obtain ⟨z, bz, zu, zv, hgot, rfl, hzu, hzv, hbz⟩ := hG
            have HTH : Hid (instB x = true → bz = true ∧ z = x) := hid fun hb => by
              obtain ⟨e1, he1, hx1⟩ := HX5.out hb
              have := hgot.there LTf.out.tl he1 (by rw [hx1])
              rw [hx1] at this
              exact this
            obtain ⟨zua, zuc, rfl⟩ := own_shape hzu
            obtain ⟨zva, zvc, rfl⟩ := own_shape hzv
            have HZU := hid hzu
            have HZV := hid hzv
            have HBZ := hid hbz
            clear hzu hzv hbz hgot k0 k1
            simp only [instV]
            have hoz : (instC z (.slice zua z.cmd.data.length zuc) (.slice zva z.deps.length zvc)).all (·.oneCell') = true := instC_one _ _ _ rfl rfl
            have hsz : (instC z (.slice zua z.cmd.data.length zuc) (.slice zva z.deps.length zvc)).size = 16 := rfl
            generalize hcz : instC z (.slice zua z.cmd.data.length zuc) (.slice zva z.deps.length zvc) = cz at hoz hsz ⊢
            have HCZ := hid hcz
            clear hcz
            go_upto_region 31 with (refine wpl_storeC rfl _ _ rfl wb.heap.size cz rfl rfl hsz hoz _ zeroI (.slice none 0 0) (.slice none 0 0) (heap_alloc_new _ _) ?_)
            obtain ⟨wc, hwc⟩ : ∃ wc, wc = (wb.alloc (.cells (instC zeroI (.slice none 0 0) (.slice none 0 0)) 31)).setRow wb.heap.size cz := ⟨_, rfl⟩
            have bc : Below wb.heap.size wb wc := by rw [hwc]; exact below_row ((Below.refl _ _).alloc (Nat.le_refl _) _) (Nat.le_refl _) _
            have hZb : wc.heap[wb.heap.size]? = some (.cells cz 31 (0, 0)) := by rw [hwc]; exact setRow_heap _ _ _ _ _ _ (heap_alloc_new _ _)
            have HWC := hid hwc
            clear hwc
            unfold instC zeroI at HWC
            simp only at HWC
            rw [← HWC.out]
            obtain ⟨Z, hZe⟩ : ∃ Z, Z = wb.heap.size := ⟨_, rfl⟩
            rw [← hZe] at hZb
            rw [← hZe]
            clear hZe HWC
            have BC : Hid (Below wr.heap.size wr wc) := hid (HBZ.out.trans (bc.mono HBZ.out.size))
            have HMZ : Hid (InM wc z (.slice zua z.cmd.data.length zuc) (.slice zva z.deps.length zvc)) := hid ⟨strs_svs (own_below HZU.out bc), rfs_rvs (own_below HZV.out bc)⟩
            have HZb2 : Hid (wc.heap[Z]? = some (.cells (instC z (.slice zua z.cmd.data.length zuc) (.slice zva z.deps.length zvc)) 31 (0, 0))) := hid (by rw [HCZ.out]; exact hZb)
            have HAc := hid ((BC.out.block A (lt_of_block HAf.out)).trans HAf.out)
            have HXc := hid (HXf.out.below BC.out)
            have PLc := hid (PLf.out.below BC.out)
            have Bc := hid (B5f.out.trans (BC.out.mono B5f.out.size))
            have HZc := hid hZb
            clear bc hZb HBZ HZU HZV hoz
            go_wp2_with fail
            refine (ilen_any tb mb nn D L wc PLc.out.tab PLc.out.tl).mono ?_
            rintro e wd ⟨rfl, hwd⟩
            subst hwd
            rw [← HXl.out]
            have hAc2 := HAc.out
            go_wp2_with (refine wpl_loadG (by rfl) _ rfl A rfl (instC x (.slice xua x.cmd.data.length xuc) (.slice xva x.deps.length xvc)) rfl _ _ hAc2 ?_)
            refine (rmayI_any x (.slice xua x.cmd.data.length xuc) (.slice xva x.deps.length xvc) wd HXc.out (light_ok HXc.out HLX.out)).mono ?_
            rintro e we ⟨rfl, hbe⟩
            have Be := hid (Bc.out.trans (hbe.mono Bc.out.size))
            have HAe := hid ((hbe.block A (lt_of_block HAc.out)).trans HAc.out)
            have HZe2 := hid ((hbe.block Z (lt_of_block HZc.out)).trans HZc.out)
            have HXe := hid (HXc.out.below hbe)
            have HMe := hid (HMZ.out.below hbe)
            clear hbe hAc2
            cases hIB : instB x with
            | false =>
              have BE := Be
              clear hIB HTH
              go_wp2_with fail
              refine (lives_any _).mono ?_
              rintro e wf ⟨rfl, hbf⟩
              have BF := hid (BE.out.trans (hbf.mono BE.out.size))
              clear hbf
              go_wp2_with fail
              go_ret
              exact ⟨rfl, BF.out⟩
            | true =>
              obtain ⟨hb1, hz1⟩ := HTH.out hIB
              have HZX := hid hz1
              subst hb1
              clear hIB HTH hz1
              have hAe2 := HAe.out
              have hZe3 := HZe2.out
              go_wp2_with (first | (refine wpl_loadG (by rfl) _ rfl Z rfl cz hsz _ _ hZe3 ?_) | (refine wpl_loadG (by rfl) _ rfl A rfl (instC x (.slice xua x.cmd.data.length xuc) (.slice xva x.deps.length xvc)) rfl _ _ hAe2 ?_))
              rw [← HCZ.out]
              refine (rsame_any z x (.slice zua z.cmd.data.length zuc) (.slice zva z.deps.length zvc) (.slice xua x.cmd.data.length xuc) (.slice xva x.deps.length xvc) we HMe.out HXe.out).mono ?_
              rintro e wg ⟨rfl, hbg⟩
              rw [HZX.out, instEq_refl]
              have BE := hid (Be.out.trans (hbg.mono Be.out.size))
              clear hbg hAe2 hZe3
              go_wp2_with fail
              refine (lives_any _).mono ?_
              rintro e wf ⟨rfl, hbf⟩
              have BF := hid (BE.out.trans (hbf.mono BE.out.size))
              clear hbf
              go_wp2_with fail
              go_ret
              exact ⟨rfl, BF.out⟩
end Go.Proofs.Ytadjeefigjdkiaa
