/- What play of the laws makes of any instances: a table and the document's row, alike. Conditions: the instances lie in memory. -/
import Derived.Test.YthhcpoafnmhnhaaInPutL
import Derived.Test.YthhcpoafnmhnhaaInRPut
import Derived.Test.YthhcpoafnmhnhaaInRMayJ
namespace Go.Proofs.Ythhcpoafnmhnhaa
open Go.RowKit Go.Maps Go.Shelf
set_option linter.unusedVariables false
set_option linter.unusedSimpArgs false

/-- All cells are as they were. -/
def KC (w w' : World) : Prop := ∀ (q : Nat) (cs : Array Value) (t : TypeId) (fr : Nat × Nat), w.heap[q]? = some (.cells cs t fr) → w'.heap[q]? = some (.cells cs t fr)
theorem KC.cell {w w' : World} (h : KC w w') {k : Addr} {u : Value} (hk : w.cell? k = some u) : w'.cell? k = some u := by
  unfold World.cell? at hk ⊢
  split at hk
  · rename_i cs t fr hh
    have := h k.block _ _ _ hh
    rw [this]
    exact hk
  · cases hk
theorem KC.below {w w' : World} (h : Below w.heap.size w w') : KC w w' := fun q _ _ _ hq => (h.block q (lt_of_block hq)).trans hq
theorem KC.trans {a b c : World} (h : KC a b) (k : KC b c) : KC a c := fun q cs t fr hq => k q cs t fr (h q cs t fr hq)
theorem KC.grown {w w' : World} {tb mb n : Nat} {D : DataW Value} (hT : Tb w tb mb n D) (hg : w.grownBy w' (some mb)) : KC w w' := fun q cs t fr hq => by
  refine (hg.block q (lt_of_block hq) ?_).trans hq
  intro e
  cases e
  obtain ⟨es, clock, hm, -⟩ := hT.own
  rw [hq] at hm; cases hm
theorem Strs.kc {w w' : World} {v : Value} {l : List ByteArray} (h : Strs w v l) (hk : KC w w') : Strs w' v l := by
  obtain ⟨ao, n, cap, rfl, h1, h2, h3, h4, h5⟩ := h
  exact ⟨ao, n, cap, rfl, h1, h2, h3, h4, fun ad had j hj => hk.cell (h5 ad had j hj)⟩
theorem Rfs.kc {w w' : World} {v : Value} {l : List (Int × Int)} (h : Rfs w v l) (hk : KC w w') : Rfs w' v l := by
  obtain ⟨ao, n, cap, rfl, h1, h2, h3, h4, h5⟩ := h
  exact ⟨ao, n, cap, rfl, h1, h2, h3, h4, fun ad had j hj => ⟨hk.cell (h5 ad had j hj).1, hk.cell (h5 ad had j hj).2⟩⟩
theorem InM.kc {w w' : World} {x : InD} {u v : Value} (h : InM w x u v) (hk : KC w w') : InM w' x u v := ⟨h.d.kc hk, h.r.kc hk⟩
theorem own_kc {B : Nat} {e : TypeId} {k n : Nat} {v : Value} {xs : List Value} {w w' : World} (h : w.ownsRow B e k v n xs) (hk : KC w w') : w'.ownsRow B e k v n xs := own_kept h fun q cs _ hh => (hk q cs _ _ hh).trans hh.symm
theorem Ins.kc {w w' : World} {v : Value} {l : List EnI} (h : Ins w v l) (hk : KC w w') : Ins w' v l := by
  obtain ⟨ao, n, cap, rfl, h1, h2, h3, h4, h5⟩ := h
  exact ⟨ao, n, cap, rfl, h1, h2, h3, h4, fun ad had j hj => ⟨fun k u hk' hu => hk.cell ((h5 ad had j hj).1 k u hk' hu), (h5 ad had j hj).2.kc hk⟩⟩
def putXs (l : List InD) (x : InD) : List InD := if l.any (fun y => y.ref == x.ref) then l.map (fun y => if y.ref == x.ref then x else y) else l ++ [x]
theorem putL_xs (L : List EnI) (e : EnI) : (putL L e).map (fun y => y.x) = putXs (L.map (fun y => y.x)) e.x := by
  unfold putL putXs
  have h1 : (L.map (fun y => y.x)).any (fun y => y.ref == e.x.ref) = L.any (fun y => y.x.ref == e.x.ref) := by rw [List.any_map]; rfl
  rw [h1]
  cases L.any (fun y => y.x.ref == e.x.ref)
  · simp
  · simp only [if_true, List.map_map]
    apply List.map_congr_left
    intro y _
    simp only [Function.comp]
    split <;> rfl
/-- What lies in memory behind play. -/
structure PlI (w W : World) (tb mb nn : Nat) (D : DataW Value) (L X : List EnI) (v : Value) : Prop where
  tab : Tb W tb mb nn D
  tl : TL D L
  row : W.ownsRow w.heap.size 38 16 v X.length (ics X)
  same : X.map (fun y => y.x) = L.map (fun y => y.x)
  ok : ∀ e ∈ L, instB e.x = true ∧ LightI e.x
  memL : ∀ e ∈ L, InM W e.x e.u e.r
  memX : ∀ e ∈ X, InM W e.x e.u e.r
  fresh : w.heap.size ≤ tb ∧ w.heap.size ≤ mb
  bel : Below w.heap.size w W
theorem PlI.len {w W : World} {tb mb nn : Nat} {D : DataW Value} {L X : List EnI} {v : Value} (h : PlI w W tb mb nn D L X v) : X.length = L.length := by
  have := congrArg List.length h.same
  simpa using this
theorem PlI.below {w W W' : World} {tb mb nn : Nat} {D : DataW Value} {L X : List EnI} {v : Value} (h : PlI w W tb mb nn D L X v) (hb : Below W.heap.size W W') : PlI w W' tb mb nn D L X v :=
  ⟨h.tab.below hb, h.tl, own_below h.row hb, h.same, h.ok, fun e he => (h.memL e he).below hb, fun e he => (h.memX e he).below hb, h.fresh, h.bel.trans (hb.mono h.bel.size)⟩
theorem inst_cells2 {w : World} {q : Nat} {x : InD} {u v : Value} {t : TypeId} {fr : Nat × Nat} (h : w.heap[q]? = some (.cells (instC x u v) t fr)) : w.cell? ⟨q, 0, none⟩ = some (.int .i64 x.ref.1) ∧ w.cell? ⟨q, 1, none⟩ = some (.int .i64 x.ref.2) ∧ w.cell? ⟨q, 2, none⟩ = some (.int .i64 x.bal.1) ∧ w.cell? ⟨q, 3, none⟩ = some (.int .i64 x.bal.2) ∧ w.cell? ⟨q, 4, none⟩ = some (.int .i64 x.vote.1) ∧ w.cell? ⟨q, 5, none⟩ = some (.int .i64 x.vote.2) ∧ w.cell? ⟨q, 6, none⟩ = some (.int .i64 x.st) ∧ w.cell? ⟨q, 7, none⟩ = some (.bool x.same) ∧ w.cell? ⟨q, 8, none⟩ = some (.int .i64 x.cmd.op) ∧ w.cell? ⟨q, 9, none⟩ = some (.int .i64 x.cmd.client) ∧ w.cell? ⟨q, 10, none⟩ = some (.int .i64 x.cmd.seq) ∧ w.cell? ⟨q, 11, none⟩ = some (.int .i64 x.cmd.from') ∧ w.cell? ⟨q, 12, none⟩ = some (.int .i64 x.cmd.to) ∧ w.cell? ⟨q, 13, none⟩ = some (u) ∧ w.cell? ⟨q, 14, none⟩ = some (.int .i64 x.seq) ∧ w.cell? ⟨q, 15, none⟩ = some (v) := by
  refine ⟨?_, ?_, ?_, ?_, ?_, ?_, ?_, ?_, ?_, ?_, ?_, ?_, ?_, ?_, ?_, ?_⟩ <;> (rw [cell_of_row _ _ _ _ _ _ h]; rfl)
theorem light_ok {w : World} {x : InD} {u v : Value} (hx : InM w x u v) (hl : LightI x) : CmdOk w x.cmd u := ⟨hx.d, by have := hl.1; omega, fun s hs => by have := hl.2.1 s hs; omega⟩
theorem PlI.put {w W W' : World} {tb mb nn : Nat} {D : DataW Value} {L X : List EnI} {v : Value} (h : PlI w W tb mb nn D L X v) {y e1 : EnI} {D1 : DataW Value} (hb : instB y.x = true) (hl : LightI y.x) (he : e1.x = y.x) (hT : Tb W' tb mb (nn + 1) D1) (hL : TL D1 (putL L e1)) (h1 : W'.ownsRow W.heap.size 9 1 e1.u y.x.cmd.data.length (svs y.x.cmd.data)) (h2 : W'.ownsRow W.heap.size 24 2 e1.r y.x.deps.length (rvs y.x.deps)) (hg : W.grownBy W' (some mb))
    (hy : InM W y.x y.u y.r) {W2 : World} (hb2 : Below W'.heap.size W' W2) {va2 : Option Addr} {vc2 : Nat} (ho2 : W2.ownsRow W'.heap.size 38 16 (.slice va2 (putL X y).length vc2) (putL X y).length (ics (putL X y))) : PlI w W2 tb mb (nn + 1) D1 (putL L e1) (putL X y) (.slice va2 (putL X y).length vc2) := by
  have hk : KC W W' := KC.grown h.tab hg
  have hk2 : KC W W2 := hk.trans (KC.below hb2)
  refine ⟨hT.below hb2, hL, own_lower ho2 (Nat.le_trans h.bel.size hg.size), ?_, ?_, ?_, ?_, h.fresh, (h.bel.grown hg h.bel.size (fun k e => by cases e; exact h.fresh.2)).trans (hb2.mono (Nat.le_trans h.bel.size hg.size))⟩
  · rw [putL_xs, putL_xs, h.same, he]
  · intro e hm
    rcases mem_putL hm with rfl | ⟨hm, -⟩
    · rw [he]; exact ⟨hb, hl⟩
    · exact h.ok e hm
  · intro e hm
    rcases mem_putL hm with rfl | ⟨hm, -⟩
    · rw [he]; exact ⟨(strs_svs h1).below hb2, (rfs_rvs h2).below hb2⟩
    · exact (h.memL e hm).kc hk2
  · intro e hm
    rcases mem_putL hm with rfl | ⟨hm, -⟩
    · exact hy.kc hk2
    · exact (h.memX e hm).kc hk2
/-- What play leaves. -/
def PlayP (w : World) (r : Ending) (w' : World) : Prop := ∃ tb mb nn D L X va vc, r = .returned (.tuple #[.pointer (some ⟨tb, 0, none⟩), .slice va X.length vc, .bool true]) ∧ PlI w w' tb mb nn D L X (.slice va X.length vc) ∧ L.length ≤ 60 ∧ nn ≤ 60 ∧ ∀ e ∈ X, InJ e.x
set_option maxRecDepth 100000 in
set_option maxHeartbeats 8000000 in
theorem play_any (v : Value) (l : List EnI) (w : World) (hv : Ins w v l) (hj : ∀ e ∈ l, InJ e.x) :
    Calls Try.prog 5 #[v] w (PlayP w) := by
  have hlen := hv.len
  have HV := hid hv
  have HJ := hid hj
  obtain ⟨xa, xc, rfl⟩ := hv.shape
  clear hv hj
  go_enter Try.func5, Try.ntmps5
  go_wp2_with fail
  refine (inew_any w).mono ?_
  rintro e w1 ⟨rfl, hT, hb⟩
  obtain ⟨tb, htb⟩ : ∃ tb, tb = w.heap.size + 1 := ⟨_, rfl⟩
  obtain ⟨mb, hmb⟩ : ∃ mb, mb = w.heap.size := ⟨_, rfl⟩
  rw [← htb, ← hmb] at hT
  rw [← htb]
  have PL1 : Hid (PlI w w1 tb mb 0 (.map []) [] [] (.slice none 0 0)) := hid ⟨hT, TL.nil, World.ownsRow_nil _ _ _ _, rfl, by simp, by simp, by simp, by omega, hb⟩
  clear hT hb htb hmb
  go_wp2_with fail
  go_loopw [6, 7, 8, 9, 13] (fun ov _ _ _ iv wr => ∃ (i : Nat) (nn : Nat) (D : DataW Value) (L X : List EnI) (va : Option Addr) (vc : Nat), iv = .int .i64 i ∧ i ≤ l.length ∧ i ≤ 60 ∧ nn ≤ i ∧ L.length ≤ i ∧ ov = .slice va X.length vc ∧ PlI w wr tb mb nn D L X (.slice va X.length vc) ∧ ∀ e ∈ X, InJ e.x) (fun _ _ _ _ iv _ => l.length - (intOf iv).toNat)
  case atStart => exact ⟨0, 0, _, [], [], none, 0, rfl, Nat.zero_le _, by omega, by omega, by simp, rfl, PL1.out, by simp⟩
  case round =>
    obtain ⟨i, nn, D, L, X, va, vc, rfl, hi, hi6, hnn, hLi, rfl, hPL, hJX⟩ := hrel
    have PLr := hid hPL
    have HJX := hid hJX
    have HXL := hid hPL.len
    have HLi := hid hLi
    clear hPL hJX PL1 hLi
    by_cases hlt : i < l.length
    · have hltI : (i : Int) < (l.length : Int) := by omega
      have HVr := hid (HV.out.below PLr.out.bel)
      obtain ⟨gb, go', rfl⟩ := HVr.out.addr (by omega)
      have HRG := hid (HVr.out.range i hlt)
      have HMY := hid (HVr.out.lit i hlt).2
      have HJY := hid (HJ.out l[i] (List.getElem_mem hlt))
      generalize l[i] = y at HRG HMY HJY
      have hcy : y.c.size = 16 := rfl
      have hyo := y.one
      go_upto_region 6 with (first | (refine wpl_loadE rfl _ rfl gb (go' + i * 16) rfl y.c hcy HRG.out ?_) | (refine wpl_storeC rfl _ _ rfl wr.heap.size y.c rfl rfl hcy hyo _ zeroI (.slice none 0 0) (.slice none 0 0) (heap_alloc_new _ _) ?_))
      obtain ⟨w2, hw2⟩ : ∃ w2, w2 = (wr.alloc (.cells (instC zeroI (.slice none 0 0) (.slice none 0 0)) 38)).setRow wr.heap.size y.c := ⟨_, rfl⟩
      have b2 : Below wr.heap.size wr w2 := by rw [hw2]; exact below_row ((Below.refl _ _).alloc (Nat.le_refl _) _) (Nat.le_refl _) _
      have hY : w2.heap[wr.heap.size]? = some (.cells y.c 38 (0, 0)) := by rw [hw2]; exact setRow_heap _ _ _ _ _ _ (heap_alloc_new _ _)
      have HW2 := hid hw2
      clear hw2
      unfold instC zeroI at HW2
      simp only at HW2
      rw [← HW2.out]
      obtain ⟨Y, hYe⟩ : ∃ Y, Y = wr.heap.size := ⟨_, rfl⟩
      rw [← hYe] at hY
      rw [← hYe]
      clear hYe HW2
      have PL2 := hid (PLr.out.below b2)
      have HMY2 := hid (HMY.out.below b2)
      have HY2 := hid hY
      clear PLr b2 HRG HVr HMY hY
      cases h60 : decide (60 ≤ (i : Int))
      · have hi60 : i < 60 := by have := of_decide_eq_false h60; omega
        obtain ⟨k0, k1, k2, k3, k4, k5, k6, k7, k8, k9, k10, k11, k12, k13, k14, k15⟩ := inst_cells2 (x := y.x) (u := y.u) (v := y.r) HY2.out
        unfold EnI.u at k13
        unfold EnI.r at k15
        go_wp2_with fail
        clear k0 k1 k2 k3 k4 k5 k6 k7 k8 k9 k10 k11 k12 k13 k14 k15
        refine (ilight_any y.x y.u y.r w2 HMY2.out HJY.out.s).mono ?_
        rintro e w3 ⟨rl, rfl, hrl, hb3⟩
        have PL3 := hid (PL2.out.below hb3)
        have HMY3 := hid (HMY2.out.below hb3)
        have HY3 := hid ((hb3.block Y (lt_of_block HY2.out)).trans HY2.out)
        have HRL := hid hrl
        clear PL2 HMY2 HY2 hb3 hrl h60
        cases rl with
        | false =>
          have HL60 : Hid (L.length ≤ 60) := hid (by have := HLi.out; omega)
          have hnn : nn ≤ 60 := by omega
          have PLe := PL3
          go_wp2_with fail
          refine (ilen_any tb mb _ D L _ PLe.out.tab PLe.out.tl).mono ?_
          rintro e w9 ⟨rfl, hw9⟩
          subst hw9
          rw [← HXL.out]
          go_wp2_with fail
          (try simp only [Exit.inBlock, Exit.then])
          exact bodyPost_ret (results_tmp3 rfl _ _ _) rfl ⟨tb, mb, nn, D, L, X, va, vc, rfl, PLe.out, HL60.out, hnn, HJX.out⟩
        | true =>
          have HLY := hid (HRL.out (by trivial))
          clear HRL
          have hy3 := HY3.out
          go_wp2_with (refine wpl_loadC rfl _ rfl Y rfl y.c hcy _ _ hy3 ?_)
          refine (iputL_any tb mb nn D L y.x y.u y.r w3 PL3.out.tab PL3.out.tl (by unfold maxLen; omega) HMY3.out (light_ok HMY3.out HLY.out) HJY.out.ref.1 HJY.out.ref.2 (by have := HLY.out.2.2; omega)).mono ?_
          rintro e w4 ⟨rfl, hp⟩
          cases hIB : instB y.x with
          | false =>
            have hP1 : putN L y.x = 1 := by unfold putN; rw [hIB]; rfl
            rw [hP1]
            rcases hp with ⟨-, hb4⟩ | ⟨h, -⟩
            · have PL4 := hid (PL3.out.below hb4)
              have HMY4 := hid (HMY3.out.below hb4)
              have hy4 := (hb4.block Y (lt_of_block HY3.out)).trans HY3.out
              have HIB := hid hIB
              clear PL3 HMY3 HY3 hb4 hP1 hIB hy3
              go_wp2_with (refine wpl_loadC rfl _ rfl Y rfl y.c hcy _ _ hy4 ?_)
              refine (rmayI_any y.x y.u y.r w4 HMY4.out (light_ok HMY4.out HLY.out)).mono ?_
              rintro e w5 ⟨rfl, hb5⟩
              rw [HIB.out]
              have PL5 := hid (PL4.out.below hb5)
              clear PL4 HMY4 hb5 hy4
              go_wp2_with fail
              go_roundw
              case rel => exact ⟨i + 1, nn, D, L, X, va, vc, by go_num, by omega, by omega, by omega, by have := HLi.out; omega, rfl, PL5.out, HJX.out⟩
              case measure => simp [intOf]; omega
            · exact absurd hP1 (by rw [h]; decide)
          | true =>
            have hP0 : putN L y.x = 0 := by unfold putN; rw [hIB, if_pos rfl, if_pos (.inr (by have := HLi.out; omega))]
            rw [hP0]
            rcases hp with ⟨h, -⟩ | ⟨-, e1, D1, he1, -, -, hT4, hL4, hu4, hr4, hg4⟩
            · exact absurd hP0 h
            have hk4 : KC w3 w4 := KC.grown PL3.out.tab hg4
            have HMY4 := hid (HMY3.out.kc hk4)
            have hy4 := hk4 _ _ _ _ HY3.out
            have HX4 := hid (own_kc PL3.out.row hk4)
            have HMX4 : Hid (∀ e ∈ X, InM w4 e.x e.u e.r) := hid fun e he => (PL3.out.memX e he).kc hk4
            have HIB := hid hIB
            have HE1 := hid he1
            have HT4 := hid hT4
            have HL4 := hid hL4
            have HU4 := hid hu4
            have HR4 := hid hr4
            have HG4 := hid hg4
            clear hk4 hP0 hIB he1 hT4 hL4 hu4 hr4 hg4 hy3
            go_wp2_with (refine wpl_loadC rfl _ rfl Y rfl y.c hcy _ _ hy4 ?_)
            refine (rmayI_any y.x y.u y.r w4 HMY4.out (light_ok HMY4.out HLY.out)).mono ?_
            rintro e w5 ⟨rfl, hb5⟩
            rw [HIB.out]
            have HB5 := hid hb5
            have hy5 := (hb5.block Y (lt_of_block hy4)).trans hy4
            have HX5 := hid (ins_own (own_below HX4.out hb5) (fun e he => (HMX4.out e he).below hb5))
            clear hb5 hy4 HX4 HMX4
            go_wp2_with (refine wpl_loadC rfl _ rfl Y rfl y.c hcy _ _ hy5 ?_)
            refine (rput_any (.slice va X.length vc) X y w5 HX5.out (by rw [HXL.out]; have := HLi.out; omega)).mono ?_
            rintro e w6 ⟨va6, vc6, rfl, ho6, hb6⟩
            have PL6 : Hid (PlI w w6 tb mb (nn + 1) D1 (putL L e1) (putL X y) (.slice va6 (putL X y).length vc6)) := hid (PL3.out.put HIB.out HLY.out HE1.out HT4.out HL4.out HU4.out HR4.out HG4.out HMY3.out (HB5.out.trans (hb6.mono HB5.out.size)) (own_lower ho6 HB5.out.size))
            have HL6 : Hid ((putL L e1).length ≤ i + 1) := hid (by rw [putL_len]; have := HLi.out; split <;> omega)
            have HJ6 : Hid (∀ e ∈ putL X y, InJ e.x) := hid fun e he => by
              rcases mem_putL he with rfl | ⟨he, -⟩
              · exact HJY.out
              · exact HJX.out e he
            clear ho6 hb6 hy5 HX5
            generalize putL X y = X6 at *
            go_wp2_with fail
            go_roundw
            case rel => exact ⟨i + 1, nn + 1, D1, _, X6, va6, vc6, by go_num, by omega, by omega, by omega, HL6.out, rfl, PL6.out, HJ6.out⟩
            case measure => simp [intOf]; omega
      · have HL60 : Hid (L.length ≤ 60) := hid (by have := HLi.out; omega)
        have hnn : nn ≤ 60 := by omega
        have PLe := PL2
        go_wp2_with fail
        refine (ilen_any tb mb _ D L _ PLe.out.tab PLe.out.tl).mono ?_
        rintro e w9 ⟨rfl, hw9⟩
        subst hw9
        rw [← HXL.out]
        go_wp2_with fail
        (try simp only [Exit.inBlock, Exit.then])
        exact bodyPost_ret (results_tmp3 rfl _ _ _) rfl ⟨tb, mb, nn, D, L, X, va, vc, rfl, PLe.out, HL60.out, hnn, HJX.out⟩
    · obtain rfl : i = l.length := by omega
      have HL60 : Hid (L.length ≤ 60) := hid (by have := HLi.out; omega)
      have hnn : nn ≤ 60 := by omega
      have PLe := PLr
      go_wp2_with fail
      refine (ilen_any tb mb _ D L _ PLe.out.tab PLe.out.tl).mono ?_
      rintro e w9 ⟨rfl, hw9⟩
      subst hw9
      rw [← HXL.out]
      go_wp2_with fail
      (try simp only [Exit.inBlock, Exit.then])
      exact bodyPost_ret (results_tmp3 rfl _ _ _) rfl ⟨tb, mb, nn, D, L, X, va, vc, rfl, PLe.out, HL60.out, hnn, HJX.out⟩
end Go.Proofs.Ythhcpoafnmhnhaa
