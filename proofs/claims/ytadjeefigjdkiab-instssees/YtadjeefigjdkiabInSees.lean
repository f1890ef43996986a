/- The law InstsSees: of two commands that meddle the later one has the earlier one in its needs. Conditions: the commands lie in memory. -/
import Derived.Test.YtadjeefigjdkiabInSeesF
import Derived.Test.YtadjeefigjdkiabBkCmds
namespace Go.Proofs.Ytadjeefigjdkiab
open Go.RowKit Go.Maps Go.Shelf
set_option linter.unusedVariables false
set_option linter.unusedSimpArgs false

/-- What lies in memory in the loop. -/
structure SeW (w W : World) (tb mb nn : Nat) (D : DataW Value) (L X : List EnI) (v : Value) : Prop where
  tab : Tb W tb mb nn D
  tl : TL D L
  row : W.ownsRow w.heap.size 44 16 v X.length (ics X)
  same : X.map (fun y => y.x) = L.map (fun y => y.x)
  memX : ∀ e ∈ X, Strs w e.u e.x.cmd.data ∧ W.ownsRow w.heap.size 27 2 e.r e.x.deps.length (rvs e.x.deps)
  fresh : w.heap.size ≤ tb ∧ w.heap.size ≤ mb
  bel : Below w.heap.size w W
theorem SeW.len {w W : World} {tb mb nn : Nat} {D : DataW Value} {L X : List EnI} {v : Value} (h : SeW w W tb mb nn D L X v) : X.length = L.length := by
  have := congrArg List.length h.same
  simpa using this
theorem SeW.below {w W W' : World} {tb mb nn : Nat} {D : DataW Value} {L X : List EnI} {v : Value} (h : SeW w W tb mb nn D L X v) (hb : Below W.heap.size W W') : SeW w W' tb mb nn D L X v :=
  ⟨h.tab.below hb, h.tl, own_below h.row hb, h.same, fun e he => ⟨(h.memX e he).1, own_below (h.memX e he).2 hb⟩, h.fresh, h.bel.trans (hb.mono h.bel.size)⟩
theorem nx_same {X L : List EnI} (h : X.map (fun y => y.x) = L.map (fun y => y.x)) (lead : Int) : nxF lead L = nxF lead X :=
  ((nxF_top lead X).unique (nxF_top lead L) fun n => exMap h (fun x => x.ref.1 = lead ∧ x.ref.2 = n)).symm
theorem cmds_kc {w w' : World} {v : Value} {l : List (CmdD × Value)} (h : Cmds w v l) (hk : KC w w') : Cmds w' v l := by
  obtain ⟨ao, n, cap, rfl, h1, h2, h3, h4, h5⟩ := h
  refine ⟨ao, n, cap, rfl, h1, h2, h3, h4, fun ad had j hj => ?_⟩
  obtain ⟨⟨g0, g1, g2, g3, g4, g5⟩, g6⟩ := h5 ad had j hj
  exact ⟨⟨hk.cell g0, hk.cell g1, hk.cell g2, hk.cell g3, hk.cell g4, hk.cell g5⟩, g6.kc hk⟩
theorem Tb.app {W W' : World} {tb mb n : Nat} {D : DataW Value} (h : Tb W tb mb n D) {B : Nat} {E : TypeId} {k n2 : Nat} {v : Value} {xs : List Value} (ho : W.ownsRow B E k v n2 xs) (hE : E ≠ 61) (hg : W.grownBy W' v.ownBlock) : Tb W' tb mb n D := by
  refine h.kept hg ?_ ?_
  · intro e
    obtain ⟨cur, hcur⟩ := own_typed ho e.symm
    rw [h.box] at hcur
    simp at hcur
    exact hE hcur.2.symm
  · intro e
    obtain ⟨cur, hcur⟩ := own_typed ho e.symm
    obtain ⟨es, clock, hm, -⟩ := h.own
    rw [hcur] at hm; cases hm
theorem own_apart {W W' : World} {B B2 : Nat} {E E2 : TypeId} {k k2 n n2 : Nat} {v v2 : Value} {xs xs2 : List Value} (h : W.ownsRow B E k v n xs) (ho : W.ownsRow B2 E2 k2 v2 n2 xs2) (hE : E ≠ E2) (hg : W.grownBy W' v2.ownBlock) : W'.ownsRow B E k v n xs :=
  own_kept h fun q cs _ hh => hg.block q (lt_of_block hh) fun e => by
    obtain ⟨cur, hcur⟩ := own_typed ho e.symm
    rw [hh] at hcur
    simp at hcur
    exact hE hcur.2
set_option maxRecDepth 100000 in
set_option maxHeartbeats 8000000 in
theorem instsSees_any (v : Value) (l : List (CmdD × Value)) (w : World) (hv : Cmds w v l) (hj : ∀ e ∈ l, CmdJ e.1) :
    Calls Try.prog 4 #[v] w fun e w' => e = .returned (.bool true) ∧ Below w.heap.size w w' := by
  have hlen := hv.len
  have HV := hid hv
  have HJ := hid hj
  obtain ⟨xa, xc, rfl⟩ := hv.shape
  clear hv hj
  go_enter Try.func4, Try.ntmps4
  go_wp2_with fail
  refine (inew_any w).mono ?_
  rintro e w1 ⟨rfl, hT, hb⟩
  obtain ⟨tb, htb⟩ : ∃ tb, tb = w.heap.size + 1 := ⟨_, rfl⟩
  obtain ⟨mb, hmb⟩ : ∃ mb, mb = w.heap.size := ⟨_, rfl⟩
  rw [← htb, ← hmb] at hT
  rw [← htb]
  have SW1 : Hid (SeW w w1 tb mb 0 (.map []) [] [] (.slice none 0 0)) := hid ⟨hT, TL.nil, World.ownsRow_nil _ _ _ _, rfl, by simp, by omega, hb⟩
  clear hT hb htb hmb
  go_wp2_with fail
  go_loopw [4, 17] (fun dv iv wr => ∃ (i : Nat) (nn : Nat) (D : DataW Value) (L X : List EnI) (va : Option Addr) (vc : Nat), iv = .int .i64 i ∧ i ≤ l.length ∧ i ≤ 30 ∧ nn ≤ i ∧ X.length ≤ i ∧ dv = .slice va X.length vc ∧ SeW w wr tb mb nn D L X (.slice va X.length vc) ∧ SeI X) (fun _ iv _ => l.length - (intOf iv).toNat)
  case atStart => exact ⟨0, 0, _, [], [], none, 0, rfl, Nat.zero_le _, by omega, by omega, by simp, rfl, SW1.out, SeI.nil⟩
  case round =>
    obtain ⟨i, nn, D, L, X, va, vc, rfl, hi, hi30, hnn, hXi, rfl, hSW, hSI⟩ := hrel
    have SWr := hid hSW
    have HSI := hid hSI
    clear hSW hSI SW1
    by_cases hlt : i < l.length
    · have hltI : (i : Int) < (l.length : Int) := by omega
      have HVr := hid (HV.out.below SWr.out.bel)
      obtain ⟨gb, go', rfl⟩ := HVr.out.addr (by omega)
      obtain ⟨q0, q1, q2, q3, q4, q5, hST⟩ := HVr.out.lit i hlt
      have hS0 := (HV.out.lit i hlt).2.2.2.2.2.2
      have HJC := hid (HJ.out l[i] (List.getElem_mem hlt))
      generalize l[i] = cc at q0 q1 q2 q3 q4 q5 hST HJC hS0
      obtain ⟨c, u⟩ := cc
      simp only at q0 q1 q2 q3 q4 q5 hST HJC hS0
      obtain ⟨cua, cuc, rfl⟩ := hST.shape
      have HST := hid hST
      have HS0 := hid hS0
      clear hS0
      clear hST HVr
      obtain ⟨w2, hw2⟩ : ∃ w2, w2 = wr.alloc (.cells #[.int .i64 c.op, .int .i64 c.client, .int .i64 c.seq, .int .i64 c.from', .int .i64 c.to, .slice cua c.data.length cuc] 25) := ⟨_, rfl⟩
      have b2 : Below wr.heap.size wr w2 := by rw [hw2]; exact (Below.refl _ _).alloc (Nat.le_refl _) _
      have hC : w2.heap[wr.heap.size]? = some (.cells #[.int .i64 c.op, .int .i64 c.client, .int .i64 c.seq, .int .i64 c.from', .int .i64 c.to, .slice cua c.data.length cuc] 25 (0, 0)) := by rw [hw2]; exact heap_alloc_new _ _
      have HW2 := hid hw2
      have SW2 := hid (SWr.out.below b2)
      have HST2 := hid (HST.out.below b2)
      clear hw2 b2 SWr HST
      go_upto_region 6 with fail
      rw [← HW2.out]
      obtain ⟨Cb, hCe⟩ : ∃ Cb, Cb = wr.heap.size := ⟨_, rfl⟩
      rw [← hCe] at hC
      rw [← hCe]
      clear hCe HW2 q0 q1 q2 q3 q4 q5
      have CC : Hid (∀ X, KC w2 X → X.cell? ⟨Cb, 0, none⟩ = some (.int .i64 c.op) ∧ X.cell? ⟨Cb, 1, none⟩ = some (.int .i64 c.client) ∧ X.cell? ⟨Cb, 2, none⟩ = some (.int .i64 c.seq) ∧ X.cell? ⟨Cb, 3, none⟩ = some (.int .i64 c.from') ∧ X.cell? ⟨Cb, 4, none⟩ = some (.int .i64 c.to) ∧ X.cell? ⟨Cb, 5, none⟩ = some (.slice cua c.data.length cuc)) := hid fun X hX => by
        have h1 := hX _ _ _ _ hC
        refine ⟨?_, ?_, ?_, ?_, ?_, ?_⟩ <;> (rw [cell_of_row _ _ _ _ _ _ h1]; rfl)
      clear hC
      cases h30 : decide (30 ≤ (i : Int))
      · have hi3 : i < 30 := by have := of_decide_eq_false h30; omega
        obtain ⟨q0, q1, q2, q3, q4, q5⟩ := CC.out w2 (KC.below (Below.refl _ _))
        go_wp2_with fail
        refine (ilight_any ⟨(0, 0), (0, 0), (0, 0), 0, false, c, 0, []⟩ (.slice cua c.data.length cuc) (.slice none 0 0) w2 ⟨HST2.out, Rfs.nil _⟩ HJC.out.s).mono ?_
        rintro e w3 ⟨rl, rfl, hrl, hb3⟩
        have SW3 := hid (SW2.out.below hb3)
        have HST3 := hid (HST2.out.below hb3)
        have K3 := hid (KC.below hb3)
        have HRL := hid hrl
        clear hb3 hrl SW2 HST2 q0 q1 q2 q3 q4 q5 h30
        cases rl with
        | false =>
          have SWe := SW3
          go_wp2_with fail
          refine (lives_any _).mono ?_
          rintro e wf ⟨rfl, hbf⟩
          have BF := hid (SWe.out.bel.trans (hbf.mono SWe.out.bel.size))
          clear hbf
          go_wp2_with fail
          go_ret
          exact ⟨rfl, BF.out⟩
        | true =>
          have HLY := hid (HRL.out (by trivial))
          have HOK : Hid (∀ X, KC w3 X → CmdOk X c (.slice cua c.data.length cuc)) := hid fun X hX => ⟨HST3.out.kc hX, by have := HLY.out.1; simp at this; omega, fun s hs => by have := HLY.out.2.1 s hs; omega⟩
          clear HRL
          obtain ⟨q0, q1, q2, q3, q4, q5⟩ := CC.out w3 K3.out
          go_wp2_with fail
          refine (rmay_any c (.slice cua c.data.length cuc) w3 (HOK.out _ (KC.below (Below.refl _ _)))).mono ?_
          rintro e w4 ⟨rfl, hb4⟩
          have SW4 := hid (SW3.out.below hb4)
          have K4 := hid (K3.out.trans (KC.below hb4))
          have K34 := hid (KC.below hb4)
          clear hb4 SW3 q0 q1 q2 q3 q4 q5
          cases hmb2 : mayB c with
          | false =>
            go_wp2_with fail
            go_roundw
            case rel => exact ⟨i + 1, nn, D, L, X, va, vc, by go_num, by omega, by omega, by omega, by omega, rfl, SW4.out, HSI.out⟩
            case measure => simp [intOf]; omega
          | true =>
            have HMC := hid hmb2
            clear hmb2
            obtain ⟨q, hq⟩ : ∃ q : Nat, q = i % 3 := ⟨_, rfl⟩
            have hq3 : q < 3 := by omega
            have hrem : Int.tmod (i : Int) 3 = (q : Int) := by rw [Int.tmod_eq_emod_of_nonneg (by omega)]; omega
            clear hq
            go_wp2_with fail
            refine (inextL_any tb mb nn D L (q : Int) w4 SW4.out.tab SW4.out.tl).mono ?_
            rintro e w5 ⟨rfl, hb5⟩
            have HNX := hid (nx_same SW4.out.same (q : Int))
            have hn0 := (nxF_top (q : Int) X).le (b := X.length) (by omega) (by rintro n ⟨e, he, -, rfl⟩; exact (HSI.out.idx e he).2.2.2)
            rw [HNX.out, show wrap64 (nxF (q : Int) X + 1) = nxF (q : Int) X + 1 by unfold wrap64; omega]
            have SW5 := hid (SW4.out.below hb5)
            have K5 := hid (K4.out.trans (KC.below hb5))
            have K35 := hid (K34.out.trans (KC.below hb5))
            clear hb5 SW4 K4 K34
            have HNW := hid (fun m (h1 : RiseR m) h2 => new_of HSI.out c (lead := (q : Int)) (by omega) (by omega) h1 h2)
            generalize hR : ((q : Int), nxF (q : Int) X + 1) = r at HNW
            have hr1 : (q : Int) = r.1 := by rw [← hR]
            have hr2 : nxF (q : Int) X + 1 = r.2 := by rw [← hR]
            rw [hr2, hr1]
            clear hr1 hr2 hR HNX hn0 hrem
            obtain ⟨w6, hw6⟩ : ∃ w6, w6 = w5.alloc (.cells #[.int .i64 r.1, .int .i64 r.2] 27) := ⟨_, rfl⟩
            have b6 : Below w5.heap.size w5 w6 := by rw [hw6]; exact (Below.refl _ _).alloc (Nat.le_refl _) _
            have hRb : w6.heap[w5.heap.size]? = some (.cells #[.int .i64 r.1, .int .i64 r.2] 27 (0, 0)) := by rw [hw6]; exact heap_alloc_new _ _
            have HW6 := hid hw6
            have SW6 := hid (SW5.out.below b6)
            have K6 := hid (K5.out.trans (KC.below b6))
            have K36 := hid (K35.out.trans (KC.below b6))
            clear hw6 b6 SW5 K5 K35
            go_upto_region 9 with fail
            rw [← HW6.out]
            obtain ⟨Rb, hRe⟩ : ∃ Rb, Rb = w5.heap.size := ⟨_, rfl⟩
            rw [← hRe] at hRb
            rw [← hRe]
            clear hRe HW6
            have RR : Hid (∀ X, KC w6 X → X.cell? ⟨Rb, 0, none⟩ = some (.int .i64 r.1) ∧ X.cell? ⟨Rb, 1, none⟩ = some (.int .i64 r.2)) := hid fun X hX => by
              have h1 := hX _ _ _ _ hRb
              constructor <;> (rw [cell_of_row _ _ _ _ _ _ h1]; rfl)
            clear hRb
            obtain ⟨q0, q1, q2, q3, q4, q5⟩ := CC.out w6 K6.out
            obtain ⟨p0, p1⟩ := RR.out w6 (KC.below (Below.refl _ _))
            go_wp2_with fail
            refine (iorderL_any tb mb nn D L c cua c.data.length cuc r w6 SW6.out.tab SW6.out.tl (by have := SW6.out.len; omega)).mono ?_
            rintro e w7 ⟨m, va7, vc7, rfl, hm7, hr7, ho7, hb7⟩
            have hos := orF_same SW6.out.same c r
            have NW := hid (HNW.out m hr7 fun d => (hm7 d).trans (hos.2 d).symm)
            obtain ⟨s, hs⟩ : ∃ s, s = (orF c r X).1 + 1 := ⟨_, rfl⟩
            rw [← hs] at NW
            have hsb := NW.out.seq
            rw [show wrap64 ((orF c r L).1 + 1) = s by rw [← hos.1, ← hs]; unfold wrap64; omega]
            have SW7 := hid (SW6.out.below hb7)
            have K7 := hid (K6.out.trans (KC.below hb7))
            have K37 := hid (K36.out.trans (KC.below hb7))
            have K67 := hid (KC.below hb7)
            have HM7 := hid (rfs_rvs ho7)
            have HO7 := hid (own_lower ho7 (SW6.out.bel.size))
            have HMO := hid (NW.out.ok HSI.out (by omega) HMC.out)
            clear hs hos hm7 hr7 ho7 hb7 SW6 K6 K36 HNW q0 q1 q2 q3 q4 q5 p0 p1
            obtain ⟨q0, q1, q2, q3, q4, q5⟩ := CC.out w7 K7.out
            obtain ⟨p0, p1⟩ := RR.out w7 K67.out
            obtain ⟨e0, he0⟩ : ∃ e0 : EnI, e0 = ⟨.bool true, ⟨r, (0, 0), (0, 0), 1, false, c, s, m⟩, cua, c.data.length, cuc, va7, m.length, vc7⟩ := ⟨_, rfl⟩
            have hce : e0.c = #[.int .i64 r.1, .int .i64 r.2, .int .i64 0, .int .i64 0, .int .i64 0, .int .i64 0, .int .i64 1, .bool false, .int .i64 c.op, .int .i64 c.client, .int .i64 c.seq, .int .i64 c.from', .int .i64 c.to, .slice cua c.data.length cuc, .int .i64 s, .slice va7 m.length vc7] := by rw [he0]; rfl
            have hx0 : e0.x = ⟨r, (0, 0), (0, 0), 1, false, c, s, m⟩ := by rw [he0]
            have HX0 := hid hx0
            have HEU : Hid (e0.u = .slice cua c.data.length cuc ∧ e0.r = .slice va7 m.length vc7) := hid (by rw [he0]; exact ⟨rfl, rfl⟩)
            have HEC := hid hce
            have hcs : e0.c.size = 16 := rfl
            have hco := e0.one
            clear he0 hce hx0
            generalize hgc : e0.c = ce at HEC hcs hco
            have HGC := hid hgc
            clear hgc
            go_upto_region 11 with (refine wpl_storeC rfl _ _ rfl w7.heap.size ce rfl (by rw [HEC.out]; rfl) hcs hco _ zeroI (.slice none 0 0) (.slice none 0 0) (heap_alloc_new _ _) ?_)
            obtain ⟨w8, hw8⟩ : ∃ w8, w8 = (w7.alloc (.cells (instC zeroI (.slice none 0 0) (.slice none 0 0)) 44)).setRow w7.heap.size ce := ⟨_, rfl⟩
            have b8 : Below w7.heap.size w7 w8 := by rw [hw8]; exact below_row ((Below.refl _ _).alloc (Nat.le_refl _) _) (Nat.le_refl _) _
            have hXb : w8.heap[w7.heap.size]? = some (.cells ce 44 (0, 0)) := by rw [hw8]; exact setRow_heap _ _ _ _ _ _ (heap_alloc_new _ _)
            have HW8 := hid hw8
            have SW8 := hid (SW7.out.below b8)
            have K8 := hid (K7.out.trans (KC.below b8))
            have K38 := hid (K37.out.trans (KC.below b8))
            have K68 := hid (K67.out.trans (KC.below b8))
            have HM8 := hid (HM7.out.below b8)
            have HO8 := hid (own_below HO7.out b8)
            clear hw8 b8 SW7 K7 K37 K67 HM7 q0 q1 q2 q3 q4 q5 p0 p1
            unfold instC zeroI at HW8
            simp only at HW8
            rw [← HW8.out]
            obtain ⟨Xb, hXe⟩ : ∃ Xb, Xb = w7.heap.size := ⟨_, rfl⟩
            rw [← hXe] at hXb
            rw [← hXe]
            clear hXe HW8
            have HXb := hid hXb
            go_wp2_with (refine wpl_loadC rfl _ rfl Xb rfl ce hcs _ _ hXb ?_)
            rw [HEC.out]
            have hIM : InM w8 ⟨r, (0, 0), (0, 0), 1, false, c, s, m⟩ (.slice cua c.data.length cuc) (.slice va7 m.length vc7) := ⟨HST3.out.kc K38.out, HM8.out⟩
            have hni := NW.out.idx
            refine (iputL_any tb mb nn D L ⟨r, (0, 0), (0, 0), 1, false, c, s, m⟩ (.slice cua c.data.length cuc) (.slice va7 m.length vc7) w8 SW8.out.tab SW8.out.tl (by unfold maxLen; omega) hIM (HOK.out _ K38.out) ⟨by show (-9223372036854775808 : Int) ≤ r.1; omega, by show r.1 ≤ 9223372036854775807; omega⟩ ⟨by show (-9223372036854775808 : Int) ≤ r.2; omega, by show r.2 ≤ 9223372036854775807; omega⟩ (by have := HMO.out.1; show m.length ≤ _; omega)).mono ?_
            rintro e w9 ⟨rfl, hp⟩
            have hXL := SW8.out.len
            have hP0 : putN L ⟨r, (0, 0), (0, 0), 1, false, c, s, m⟩ = 0 := by unfold putN; rw [HMO.out.2, if_pos rfl, if_pos (.inr (by omega))]
            rw [hP0]
            rcases hp with ⟨h, -⟩ | ⟨-, e1, D1, he1, -, -, hT9, hL9, -, -, hg9⟩
            · exact absurd hP0 h
            have k9 : KC w8 w9 := KC.grown SW8.out.tab hg9
            have hfl : L.any (fun y => y.x.ref == e1.x.ref) = false := by
              rw [Bool.eq_false_iff]
              intro ha
              obtain ⟨y, hy, hye⟩ := List.any_eq_true.1 ha
              have h2 : y.x.ref = r := by rw [show y.x.ref = e1.x.ref by simpa using hye, he1]
              obtain ⟨z, hz, hzr⟩ := (exMap SW8.out.same (fun x => x.ref = r)).2 ⟨y, hy, h2⟩
              exact NW.out.fresh z hz hzr
            have hpl : putL L e1 = L ++ [e1] := by unfold putL; rw [hfl]; rfl
            rw [hpl] at hL9
            have SMN : Hid ((X ++ [e0]).map (fun y => y.x) = (L ++ [e1]).map (fun y => y.x)) := hid (by rw [List.map_append, List.map_append, SW8.out.same]; simp [HX0.out, he1])
            have HT9 := hid hT9
            have HL9 := hid hL9
            have HRW := hid (own_kc SW8.out.row k9)
            have HMX : Hid (∀ e ∈ X, Strs w e.u e.x.cmd.data ∧ w9.ownsRow w.heap.size 27 2 e.r e.x.deps.length (rvs e.x.deps)) := hid fun e he => ⟨(SW8.out.memX e he).1, own_kc (SW8.out.memX e he).2 k9⟩
            have HM0 : Hid (Strs w e0.u e0.x.cmd.data ∧ w9.ownsRow w.heap.size 27 2 e0.r e0.x.deps.length (rvs e0.x.deps)) := hid (by rw [HX0.out, HEU.out.1, HEU.out.2]; exact ⟨HS0.out, own_kc HO8.out k9⟩)
            have HBL : Hid (Below w.heap.size w w9) := hid (SW8.out.bel.grown hg9 SW8.out.bel.size (fun k e => by cases e; exact SW8.out.fresh.2))
            have HFR := hid SW8.out.fresh
            have K9 := hid (K8.out.trans k9)
            have K69 := hid (K68.out.trans k9)
            have HXb9 := hid (k9 _ _ _ _ HXb.out)
            have HM9 := hid (HM8.out.kc k9)
            clear hXL
            clear hXb hIM hP0 he1 hT9 hL9 hg9 k9 hfl hpl SW8 K8 K68 HXb HM8 K38 HOK HLY HST3 hni K3
            have HIX := hid (ins_own HRW.out fun e he => ⟨(HMX.out e he).1.below HBL.out, rfs_rvs (HMX.out e he).2⟩)
            have hXlI : (X.length : Int) ≤ 9223372036854775807 := by omega
            go_wp2_with fail
            go_loopw [58] (fun kv wt => ∃ k : Nat, kv = .int .i64 k ∧ k ≤ X.length ∧ Below w9.heap.size w9 wt) (fun kv _ => X.length - (intOf kv).toNat)
            case atStart => exact ⟨0, rfl, Nat.zero_le _, Below.refl _ _⟩
            case round =>
              obtain ⟨k, rfl, hk, hbt⟩ := hrel
              have BT := hid hbt
              clear hbt
              by_cases hkl : k < X.length
              · have hklI : (k : Int) < (X.length : Int) := by omega
                have HIt := hid (HIX.out.below BT.out)
                obtain ⟨yb, yo, rfl⟩ := HIt.out.addr (by omega)
                have HRG := hid (HIt.out.range k hkl)
                have HMY := hid (HIt.out.lit k hkl).2
                have HYX := hid (List.getElem_mem hkl)
                generalize X[k] = y at HRG HMY HYX
                have HHAS := hid (NW.out.has HSI.out HYX.out)
                have HLES := hid (NW.out.less HSI.out HYX.out)
                have HNOT := hid (NW.out.not HSI.out HYX.out)
                have hcy : y.c.size = 16 := rfl
                have hyo := y.one
                go_upto_region 16 with (first | (refine wpl_loadE rfl _ rfl yb (yo + k * 16) rfl y.c hcy HRG.out ?_) | (refine wpl_storeC rfl _ _ rfl wr.heap.size y.c rfl rfl hcy hyo _ zeroI (.slice none 0 0) (.slice none 0 0) (heap_alloc_new _ _) ?_))
                obtain ⟨wa, hwa⟩ : ∃ wa, wa = (wr.alloc (.cells (instC zeroI (.slice none 0 0) (.slice none 0 0)) 44)).setRow wr.heap.size y.c := ⟨_, rfl⟩
                have ba : Below wr.heap.size wr wa := by rw [hwa]; exact below_row ((Below.refl _ _).alloc (Nat.le_refl _) _) (Nat.le_refl _) _
                have hYb : wa.heap[wr.heap.size]? = some (.cells y.c 44 (0, 0)) := by rw [hwa]; exact setRow_heap _ _ _ _ _ _ (heap_alloc_new _ _)
                have HWA := hid hwa
                clear hwa
                unfold instC zeroI at HWA
                simp only at HWA
                rw [← HWA.out]
                obtain ⟨Yb, hYe⟩ : ∃ Yb, Yb = wr.heap.size := ⟨_, rfl⟩
                rw [← hYe] at hYb
                rw [← hYe]
                clear hYe HWA
                have BA := hid (BT.out.trans (ba.mono BT.out.size))
                have KA := hid (K9.out.trans (KC.below BA.out))
                have KRA := hid (K69.out.trans (KC.below BA.out))
                have HMA := hid (HMY.out.below ba)
                have HDA := hid (HM9.out.below BA.out)
                have HYb := hid hYb
                clear ba hYb HRG HIt HMY
                have YC : Hid (∀ X, KC wa X → X.cell? ⟨Yb, 0, none⟩ = some (.int .i64 y.x.ref.1) ∧ X.cell? ⟨Yb, 1, none⟩ = some (.int .i64 y.x.ref.2) ∧ X.cell? ⟨Yb, 14, none⟩ = some (.int .i64 y.x.seq) ∧ X.cell? ⟨Yb, 15, none⟩ = some (.slice y.va y.vn y.vc)) := hid fun X hX => by
                  have h1 := hX _ _ _ _ HYb.out
                  refine ⟨?_, ?_, ?_, ?_⟩ <;> (rw [cell_of_row _ _ _ _ _ _ h1]; rfl)
                have d8 : wa.cell? ⟨Yb, 8, none⟩ = some (.int .i64 y.x.cmd.op) := by rw [cell_of_row _ _ _ _ _ _ HYb.out]; rfl
                have d9 : wa.cell? ⟨Yb, 9, none⟩ = some (.int .i64 y.x.cmd.client) := by rw [cell_of_row _ _ _ _ _ _ HYb.out]; rfl
                have d10 : wa.cell? ⟨Yb, 10, none⟩ = some (.int .i64 y.x.cmd.seq) := by rw [cell_of_row _ _ _ _ _ _ HYb.out]; rfl
                have d11 : wa.cell? ⟨Yb, 11, none⟩ = some (.int .i64 y.x.cmd.from') := by rw [cell_of_row _ _ _ _ _ _ HYb.out]; rfl
                have d12 : wa.cell? ⟨Yb, 12, none⟩ = some (.int .i64 y.x.cmd.to) := by rw [cell_of_row _ _ _ _ _ _ HYb.out]; rfl
                have d13 : wa.cell? ⟨Yb, 13, none⟩ = some (.slice y.ua y.un y.uc) := by rw [cell_of_row _ _ _ _ _ _ HYb.out]; rfl
                obtain ⟨q0, q1, q2, q3, q4, q5⟩ := CC.out wa KA.out
                go_wp2_with fail
                refine (rmeddle_any c y.x.cmd cua y.ua c.data.length cuc y.un y.uc wa).mono ?_
                rintro e wb ⟨rfl, hbb⟩
                have BB := hid (BA.out.trans (hbb.mono BA.out.size))
                have KB := hid (KC.below hbb)
                have HMB := hid (HMA.out.below hbb)
                have HDB := hid (HDA.out.below hbb)
                have KRB := hid (KRA.out.trans (KC.below hbb))
                clear hbb d8 d9 d10 d11 d12 d13 q0 q1 q2 q3 q4 q5 HMA HDA KA KRA
                generalize meddleB c y.x.cmd = md at *
                obtain ⟨y0, y1, y14, y15⟩ := YC.out wb KB.out
                go_wp2_with fail
                refine (rhas_any (.slice va7 m.length vc7) m y.x.ref wb HDB.out).mono ?_
                rintro e wc ⟨rfl, hbc⟩
                rw [HHAS.out]
                have BC := hid (BB.out.trans (hbc.mono BB.out.size))
                have KCc := hid (KB.out.trans (KC.below hbc))
                have HMC2 := hid (HMB.out.below hbc)
                have KRC := hid (KRB.out.trans (KC.below hbc))
                clear hbc y0 y1 y14 y15 HMB HDB KB KRB
                obtain ⟨y0, y1, y14, y15⟩ := YC.out wc KCc.out
                obtain ⟨p0, p1⟩ := RR.out wc KRC.out
                have hHN := (rhas_any y.r y.x.deps r wc HMC2.out.r)
                rw [HNOT.out] at hHN
                have HHN := hid hHN
                clear hHN
                unfold EnI.r at HHN
                cases md with
                | true =>
                  have hsl : decide (s ≤ y.x.seq) = false := by have := HLES.out rfl; simp; omega
                  clear HLES
                  go_wp2_with fail
                  refine HHN.out.mono ?_
                  rintro e wd ⟨rfl, hbd⟩
                  have BD := hid (BC.out.trans (hbd.mono BC.out.size))
                  clear hbd
                  go_wp2_with fail
                  go_roundw
                  case rel => exact ⟨k + 1, by go_num, by omega, BD.out⟩
                  case measure => simp [intOf]; omega
                | false =>
                  go_wp2_with fail
                  refine HHN.out.mono ?_
                  rintro e wd ⟨rfl, hbd⟩
                  have BD := hid (BC.out.trans (hbd.mono BC.out.size))
                  clear hbd
                  go_wp2_with fail
                  go_roundw
                  case rel => exact ⟨k + 1, by go_num, by omega, BD.out⟩
                  case measure => simp [intOf]; omega
              · obtain rfl : k = X.length := by omega
                have hXt := (BT.out.block Xb (lt_of_block HXb9.out)).trans HXb9.out
                have ba : Below wr.heap.size wr (wr.alloc (.cells ce 44)) := (Below.refl _ _).alloc (Nat.le_refl _) _
                have BA := hid (BT.out.trans (ba.mono BT.out.size))
                have OA := hid (own_below (own_below HRW.out BT.out) ba)
                have RA : Hid (∀ j u, ce.toList[j]? = some u → (wr.alloc (.cells ce 44)).cell? ⟨wr.heap.size, j, none⟩ = some u) := hid fun j u hj => by
                  rw [cell_of_row _ _ _ _ _ _ (heap_alloc_new wr _), ← Array.getElem?_toList]; exact hj
                have HSZ := hid (Nat.le_trans HBL.out.size BA.out.size)
                clear ba
                go_wp2_with (first | (refine wpl_buildI rfl _ rfl ce rfl hcs ?_) | (refine wpl_loadC rfl _ rfl Xb rfl ce hcs _ _ hXt ?_) | (at_builtin; refine wpl_app rowIn rfl (.tmp 88) (.tmp 90) rfl w.heap.size (.slice va X.length vc) X.length _ rfl OA.out wr.heap.size 1 1 ce.toList rfl (by simp [hcs]) RA.out (fun u hu => (Array.all_eq_true_iff_forall_mem.1 hco) u (by simpa using hu)) (by omega) HSZ.out ?_; intro vaz vcz wz hoz hgz; have OZ := hid hoz; have GZ := hid hgz; clear hoz hgz))
                have SWZ : Hid (SeW w wz tb mb (nn + 1) D1 (L ++ [e1]) (X ++ [e0]) (.slice vaz (X.length + 1) vcz)) := hid ⟨((HT9.out.below BA.out)).app OA.out (by decide) GZ.out, HL9.out, by rw [List.length_append, List.length_singleton, ics_snoc, HGC.out]; exact OZ.out, SMN.out, fun e he => by
                  rcases List.mem_append.1 he with he | he
                  · exact ⟨(HMX.out e he).1, own_apart (own_below (HMX.out e he).2 BA.out) OA.out (by decide) GZ.out⟩
                  · rw [List.mem_singleton.1 he]
                    exact ⟨HM0.out.1, own_apart (own_below HM0.out.2 BA.out) OA.out (by decide) GZ.out⟩, HFR.out, (HBL.out.trans (BA.out.mono HBL.out.size)).trans (own_bel OA.out GZ.out HSZ.out)⟩
                have HSN := hid (NW.out.step HSI.out HX0.out)
                go_wp2_with fail
                go_roundw
                case rel => exact ⟨i + 1, nn + 1, D1, L ++ [e1], X ++ [e0], vaz, vcz, by go_num, by omega, by omega, by omega, by simp; omega, by simp, by rw [List.length_append, List.length_singleton]; exact SWZ.out, HSN.out⟩
                case measure => simp [intOf]; omega
      · have SWe := SW2
        go_wp2_with fail
        refine (lives_any _).mono ?_
        rintro e wf ⟨rfl, hbf⟩
        have BF := hid (SWe.out.bel.trans (hbf.mono SWe.out.bel.size))
        clear hbf
        go_wp2_with fail
        go_ret
        exact ⟨rfl, BF.out⟩
    · obtain rfl : i = l.length := by omega
      have SWe := SWr
      go_wp2_with fail
      refine (lives_any _).mono ?_
      rintro e wf ⟨rfl, hbf⟩
      have BF := hid (SWe.out.bel.trans (hbf.mono SWe.out.bel.size))
      clear hbf
      go_wp2_with fail
      go_ret
      exact ⟨rfl, BF.out⟩
end Go.Proofs.Ytadjeefigjdkiab
