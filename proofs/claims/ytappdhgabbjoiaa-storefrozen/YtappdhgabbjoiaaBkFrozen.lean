/- For any span and any two rows of commands (the first 30 of each): behind a freeze nothing changes. -/
import Derived.Test.YtappdhgabbjoiaaBkOnce
import Derived.Test.YtappdhgabbjoiaaBkRMay
namespace Go.Proofs.Ytappdhgabbjoiaa
open Go.RowKit
set_option linter.unusedVariables false
set_option linter.unusedSimpArgs false

/-- Both stores in the law's memory. -/
structure FZ (w : World) (b g b' g' : Nat) (S : StD) (W : World) : Prop where
  st : St W b g S
  sc : St W b' g' S
  bel : Below w.heap.size w W
theorem FZ.later {w W Y : World} {b g b' g' : Nat} {S : StD} (h : FZ w b g b' g' S W) (hb : Below W.heap.size W Y) : FZ w b g b' g' S Y := ⟨h.st.below hb, h.sc.below hb, h.bel.trans (hb.mono h.bel.size)⟩
set_option maxRecDepth 100000 in
set_option maxHeartbeats 8000000 in
theorem frozenL_any (x : Sp) (v : Value) (l0 : List (CmdD × Value)) (v2 : Value) (l : List (CmdD × Value)) (w : World) (hl0 : Cmds w v l0) (hz0 : ∀ y ∈ l0, CmdJ y.1) (hl : Cmds w v2 l) (hz : ∀ y ∈ l, CmdJ y.1) :
    Calls Try.prog 6 #[.agg #[.int .i64 x.1, .int .i64 x.2], v, v2] w fun e w' => e = .returned (.bool true) ∧ Below w.heap.size w w' := by
  obtain ⟨va0, vc0, rfl⟩ := hl0.shape
  obtain ⟨va, vc, rfl⟩ := hl.shape
  obtain ⟨f, t⟩ := x
  have hLn := hl.len
  have HC0 := hid hl0
  have HZ0 := hid hz0
  have HC := hid hl
  have HZ := hid hz
  clear hl hz hl0 hz0
  obtain ⟨w1, hw1⟩ : ∃ w1, w1 = w.alloc (.cells #[.int .i64 f, .int .i64 t] 23) := ⟨_, rfl⟩
  have hb1 : Below w.heap.size w w1 := by rw [hw1]; exact (Below.refl _ _).alloc (Nat.le_refl _) _
  have hA : w1.heap[w.heap.size]? = some (.cells #[.int .i64 f, .int .i64 t] 23 (0, 0)) := by rw [hw1]; exact heap_alloc_new _ _
  have HW1 := hid hw1
  have B1 := hid hb1
  clear hw1 hb1
  go_enter Try.func6, Try.ntmps6
  go_upto_region 1 with fail
  rw [← HW1.out]
  obtain ⟨A, hAe⟩ : ∃ A, A = w.heap.size := ⟨_, rfl⟩
  rw [← hAe] at hA
  rw [← hAe]
  clear hAe HW1
  have x0 : w1.cell? ⟨A, 0, none⟩ = some (.int .i64 f) := by rw [cell_of_row _ _ _ _ _ _ hA]; rfl
  have x1 : w1.cell? ⟨A, 1, none⟩ = some (.int .i64 t) := by rw [cell_of_row _ _ _ _ _ _ hA]; rfl
  clear hA
  go_wp2_with fail
  refine (small_any (f, t) _).mono ?_
  rintro e w2 ⟨⟨p, q⟩, rfl, hm, hb2⟩
  have B2 := hid (B1.out.trans (hb2.mono B1.out.size))
  have HM := hid hm
  clear hb2 hm x0 x1
  go_wp2_with fail
  refine (play_any (p, q) _ l0 30 w2 HM.out (HC0.out.below B2.out) HZ0.out).mono ?_
  rintro e w3 ⟨b, g, base, X, vt, vm, ks, S0, rfl, hb, hg, -, -, -, -, hps⟩
  have ST3 := hid hps.st
  have B3 := hid (B2.out.trans (hps.bel.mono B2.out.size))
  have HBG : Hid (w.heap.size ≤ b ∧ w.heap.size ≤ g) := hid ⟨Nat.le_trans B2.out.size hb, Nat.le_trans B2.out.size hg⟩
  clear hps hb hg HC0 HZ0
  have hE0 : errN S0 ⟨5, 0, 0, 0, 0, []⟩ = 0 := by unfold errN; rw [if_neg (by decide), if_neg (by simp [isClB])]
  obtain ⟨-, hfr, -⟩ := again_freeze (S := S0) (c := ⟨5, 0, 0, 0, 0, []⟩) rfl hE0
  have HAP := apply_any b g S0 ⟨5, 0, 0, 0, 0, []⟩ (.slice none 0 0) w3 ST3.out ⟨Strs.nil _, by simp, by simp⟩ (fun a n cp e => by cases e)
  unfold ApP cmdV at HAP
  have hd0 : dataOf S0 ⟨5, 0, 0, 0, 0, []⟩ = [] := by unfold dataOf; rw [if_neg (fun h => by have := h.2; revert this; decide)]
  rw [hE0, hd0, List.length_nil] at HAP
  obtain ⟨ok0, hok0⟩ : ∃ ok0, ok0 = okB S0 ⟨5, 0, 0, 0, 0, []⟩ := ⟨_, rfl⟩
  obtain ⟨S, hS⟩ : ∃ S, S = nextS S0 ⟨5, 0, 0, 0, 0, []⟩ := ⟨_, rfl⟩
  rw [← hok0, ← hS] at HAP
  rw [← hS] at hfr
  have HFR := hid hfr
  have HAPh := hid HAP
  clear hok0 hS hE0 hd0 hfr HAP
  simp only at HAPh
  go_wp2_with fail
  refine HAPh.out.mono ?_
  rintro e w5 ⟨va5, vc5, rfl, -, hst5, hbut5⟩
  have B5 : Hid (Below w.heap.size w w5) := hid (B3.out.trans (hbut5.below B3.out.size (by rintro k (rfl | rfl); exact HBG.out.1; exact HBG.out.2)))
  have ST5 := hid hst5
  clear hst5 hbut5 HAPh
  obtain ⟨w6, hw6⟩ : ∃ w6, w6 = w5.alloc (.cells #[.bool ok0, .slice va5 0 vc5] 38) := ⟨_, rfl⟩
  have b6 : Below w5.heap.size w5 w6 := by rw [hw6]; exact (Below.refl _ _).alloc (Nat.le_refl _) _
  have HW6 := hid hw6
  have B6 := hid (B5.out.trans (b6.mono B5.out.size))
  have ST6 := hid (ST5.out.below b6)
  clear hw6 b6 B5 ST5
  go_upto_region 5 with fail
  rw [← HW6.out]
  clear HW6
  go_wp2_with fail
  refine (frozen_any b g S _ ST6.out).mono ?_
  rintro e w7 ⟨rfl, hb7⟩
  rw [HFR.out]
  have B7 := hid (B6.out.trans (hb7.mono B6.out.size))
  have ST7 := hid (ST6.out.below hb7)
  clear hb7 B6 ST6
  go_wp2_with fail
  refine (sclone_any b g S w7 ST7.out).mono ?_
  rintro e w8 ⟨b', g', rfl, hb', hg', hst8, hb8⟩
  have FZ0 : Hid (FZ w b g b' g' S w8) := hid ⟨ST7.out.below hb8, hst8, B7.out.trans (hb8.mono B7.out.size)⟩
  have HNE : Hid (b' ≠ b ∧ b' ≠ g ∧ g' ≠ b ∧ g' ≠ g) := hid (by have := ST7.out.lt; omega)
  clear hb8 hst8 hb' hg' B7 ST7
  go_wp2_with fail
  go_loopw [13, 14, 15, 16, 44] (fun _ _ _ _ iv wr => ∃ i : Nat, iv = .int .i64 i ∧ i ≤ l.length ∧ FZ w b g b' g' S wr) (fun _ _ _ _ iv _ => l.length - (intOf iv).toNat)
  case atStart => exact ⟨0, rfl, Nat.zero_le _, FZ0.out⟩
  case round =>
    obtain ⟨i, rfl, hi, hFZ⟩ := hrel
    by_cases hlt : i < l.length
    · have hltI : (i : Int) < (l.length : Int) := by omega
      have hix : 0 ≤ (i : Int) ∧ (i : Int) < (l.length : Int) := by omega
      obtain ⟨gl, ol, rfl⟩ := HC.out.addr (by omega)
      obtain ⟨c0, c1, c2, c3, c4, c5, hs0⟩ := (HC.out.below hFZ.bel).lit i hlt
      have hJ := HZ.out l[i] (List.getElem_mem hlt)
      have hsw := (HC.out.lit i hlt).2.2.2.2.2.2
      generalize l[i] = cu at c0 c1 c2 c3 c4 c5 hs0 hJ hsw
      obtain ⟨c, u⟩ := cu
      simp only at c0 c1 c2 c3 c4 c5 hs0 hJ hsw
      have HUG : Hid (∀ a n cp, u = .slice (some a) n cp → 0 < n → a.block < w.heap.size) := hid fun a n cp e hn => by
        subst e; exact hsw.low hn
      have HSW := hid hsw
      have HJJ := hid hJ.s
      have HFZ := hid hFZ
      obtain ⟨ua, uc, rfl⟩ := hs0.shape
      have HLI := hid (fun W (h : Strs W (.slice ua c.data.length uc) c.data) => light_any c _ W h HJJ.out)
      have HAP := hid (fun W (h1 : St W b g S) (h2 : CmdOk W c (.slice ua c.data.length uc)) => apply_any b g S c _ W h1 h2 (fun a n cp e hn => by have := HUG.out a n cp e hn; have := HBG.out; omega))
      have HOK := hid (fun W (hb : Below w.heap.size w W) (hl : LightB c.data) => light_ok (c := c) (HSW.out.below hb) hl)
      have HMY := hid (fun W (hW : CmdOk W c (.slice ua c.data.length uc)) => rmay_any c _ W hW)
      obtain ⟨f1, f2, f3, f4⟩ := frozen_facts c HFR.out
      unfold ApP at HAP
      rw [f1, f2, f3] at HAP
      obtain ⟨er, her⟩ : ∃ er, er = errN S c := ⟨_, rfl⟩
      obtain ⟨my, hmy⟩ : ∃ my, my = mayB c := ⟨_, rfl⟩
      rw [← her] at HAP f4
      rw [← hmy] at HMY f4
      have F4 := hid f4
      clear her hmy f1 f2 f3 f4 hsw hJ hFZ HJJ
      obtain ⟨op, cl, seq, cf, ct, data⟩ := c
      unfold cmdV at HLI HAP HMY
      simp only [List.length_nil] at c0 c1 c2 c3 c4 c5 hs0 HLI HAP HOK HSW HMY
      obtain ⟨W1, hW1⟩ : ∃ W1, W1 = wr.alloc (.cells #[.int .i64 op, .int .i64 cl, .int .i64 seq, .int .i64 cf, .int .i64 ct, .slice ua data.length uc] 35) := ⟨_, rfl⟩
      have bW1 : Below wr.heap.size wr W1 := by rw [hW1]; exact (Below.refl _ _).alloc (Nat.le_refl _) _
      have hc1 : W1.heap[wr.heap.size]? = some (.cells #[.int .i64 op, .int .i64 cl, .int .i64 seq, .int .i64 cf, .int .i64 ct, .slice ua data.length uc] 35 (0, 0)) := by rw [hW1]; exact heap_alloc_new _ _
      have HW1 := hid hW1
      have FZ1 := hid (HFZ.out.later bW1)
      clear hW1 bW1 hs0
      go_upto_region 11 with fail
      rw [← HW1.out]
      obtain ⟨Bc, hBc⟩ : ∃ Bc, Bc = wr.heap.size := ⟨_, rfl⟩
      rw [← hBc] at hc1
      rw [← hBc]
      have HBc : Hid (b < Bc ∧ g < Bc) := hid (by rw [hBc]; exact ⟨HFZ.out.st.lt.1, HFZ.out.st.lt.2.1⟩)
      have HC1 := hid hc1
      clear hBc HW1 c0 c1 c2 c3 c4 c5 HFZ hc1
      by_cases hmo : (30 : Int) ≤ (i : Int)
      · have hmd : decide ((30 : Int) ≤ (i : Int)) = true := decide_eq_true hmo
        clear HLI HAP HMY
        go_wp2_with fail
        refine (same_eq b g b' g' S _ FZ1.out.st FZ1.out.sc).mono ?_
        rintro e w19 ⟨rfl, hb19⟩
        have B19 := hid (FZ1.out.bel.trans (hb19.mono FZ1.out.bel.size))
        clear hb19
        go_wp2_with fail
        refine (lives_any _).mono ?_
        rintro e w20 ⟨rfl, hb20⟩
        have B20 := hid (B19.out.trans (hb20.mono B19.out.size))
        clear hb20
        go_wp2_with fail
        go_ret
        exact ⟨rfl, B20.out⟩
      · have hmd : decide ((30 : Int) ≤ (i : Int)) = false := decide_eq_false hmo
        have z0 : W1.cell? ⟨Bc, 0, none⟩ = some (.int .i64 op) := by rw [cell_of_row _ _ _ _ _ _ HC1.out]; rfl
        have z1 : W1.cell? ⟨Bc, 1, none⟩ = some (.int .i64 cl) := by rw [cell_of_row _ _ _ _ _ _ HC1.out]; rfl
        have z2 : W1.cell? ⟨Bc, 2, none⟩ = some (.int .i64 seq) := by rw [cell_of_row _ _ _ _ _ _ HC1.out]; rfl
        have z3 : W1.cell? ⟨Bc, 3, none⟩ = some (.int .i64 cf) := by rw [cell_of_row _ _ _ _ _ _ HC1.out]; rfl
        have z4 : W1.cell? ⟨Bc, 4, none⟩ = some (.int .i64 ct) := by rw [cell_of_row _ _ _ _ _ _ HC1.out]; rfl
        have z5 : W1.cell? ⟨Bc, 5, none⟩ = some (.slice ua data.length uc) := by rw [cell_of_row _ _ _ _ _ _ HC1.out]; rfl
        go_wp2_with fail
        refine (HLI.out W1 (HSW.out.below FZ1.out.bel)).mono ?_
        rintro e W2 ⟨r, rfl, hrl, hb2⟩
        have FZ2 := hid (FZ1.out.later hb2)
        have HC2 := hid ((hb2.block Bc (lt_of_block HC1.out)).trans HC1.out)
        have HRL := hid hrl
        clear hb2 hrl z0 z1 z2 z3 z4 z5 HC1 FZ1 HLI
        cases r with
        | false =>
          have FZ1 := FZ2
          clear HAP HMY FZ2
          go_wp2_with fail
          refine (same_eq b g b' g' S _ FZ1.out.st FZ1.out.sc).mono ?_
          rintro e w19 ⟨rfl, hb19⟩
          have B19 := hid (FZ1.out.bel.trans (hb19.mono FZ1.out.bel.size))
          clear hb19
          go_wp2_with fail
          refine (lives_any _).mono ?_
          rintro e w20 ⟨rfl, hb20⟩
          have B20 := hid (B19.out.trans (hb20.mono B19.out.size))
          clear hb20
          go_wp2_with fail
          go_ret
          exact ⟨rfl, B20.out⟩
        | true =>
          have z0 : W2.cell? ⟨Bc, 0, none⟩ = some (.int .i64 op) := by rw [cell_of_row _ _ _ _ _ _ HC2.out]; rfl
          have z1 : W2.cell? ⟨Bc, 1, none⟩ = some (.int .i64 cl) := by rw [cell_of_row _ _ _ _ _ _ HC2.out]; rfl
          have z2 : W2.cell? ⟨Bc, 2, none⟩ = some (.int .i64 seq) := by rw [cell_of_row _ _ _ _ _ _ HC2.out]; rfl
          have z3 : W2.cell? ⟨Bc, 3, none⟩ = some (.int .i64 cf) := by rw [cell_of_row _ _ _ _ _ _ HC2.out]; rfl
          have z4 : W2.cell? ⟨Bc, 4, none⟩ = some (.int .i64 ct) := by rw [cell_of_row _ _ _ _ _ _ HC2.out]; rfl
          have z5 : W2.cell? ⟨Bc, 5, none⟩ = some (.slice ua data.length uc) := by rw [cell_of_row _ _ _ _ _ _ HC2.out]; rfl
          have HLB := hid (HRL.out rfl)
          clear HRL
          go_wp2_with fail
          refine (HAP.out W2 FZ2.out.st (HOK.out W2 FZ2.out.bel HLB.out)).mono ?_
          rintro e W3 ⟨va3, vc3, rfl, -, hst3, hbut3⟩
          have FZ3 : Hid (FZ w b g b' g' S W3) := hid ⟨hst3, FZ2.out.sc.apart hbut3 HNE.out, FZ2.out.bel.trans (hbut3.below FZ2.out.bel.size (by rintro k (rfl | rfl); exact HBG.out.1; exact HBG.out.2))⟩
          have HC3 := hid ((hbut3.block Bc (lt_of_block HC2.out) (by have := HBc.out; omega)).trans HC2.out)
          clear hst3 hbut3 z0 z1 z2 z3 z4 z5 HC2 HAP FZ2
          obtain ⟨W4, hW4⟩ : ∃ W4, W4 = W3.alloc (.cells #[.bool false, .slice va3 0 vc3] 38) := ⟨_, rfl⟩
          have bW4 : Below W3.heap.size W3 W4 := by rw [hW4]; exact (Below.refl _ _).alloc (Nat.le_refl _) _
          have h44 : W4.heap[W3.heap.size]? = some (.cells #[.bool false, .slice va3 0 vc3] 38 (0, 0)) := by rw [hW4]; exact heap_alloc_new _ _
          have HW4 := hid hW4
          have FZ4 := hid (FZ3.out.later bW4)
          have HC4 := hid ((bW4.block Bc (lt_of_block HC3.out)).trans HC3.out)
          clear hW4 bW4 FZ3 HC3
          go_upto_region 13 with fail
          rw [← HW4.out]
          obtain ⟨Br, hBr⟩ : ∃ Br, Br = W3.heap.size := ⟨_, rfl⟩
          rw [← hBr] at h44
          rw [← hBr]
          have y0 : W4.cell? ⟨Br, 0, none⟩ = some (.bool false) := by rw [cell_of_row _ _ _ _ _ _ h44]; rfl
          have y1 : W4.cell? ⟨Br, 1, none⟩ = some (.slice va3 0 vc3) := by rw [cell_of_row _ _ _ _ _ _ h44]; rfl
          clear hBr h44 HW4
          by_cases hz : er = 0
          · have hz1 : (er == 0) = true := by rw [hz]; rfl
            have hmt := F4.out hz
            subst hmt
            clear hz F4
            have z0 : W4.cell? ⟨Bc, 0, none⟩ = some (.int .i64 op) := by rw [cell_of_row _ _ _ _ _ _ HC4.out]; rfl
            have z1 : W4.cell? ⟨Bc, 1, none⟩ = some (.int .i64 cl) := by rw [cell_of_row _ _ _ _ _ _ HC4.out]; rfl
            have z2 : W4.cell? ⟨Bc, 2, none⟩ = some (.int .i64 seq) := by rw [cell_of_row _ _ _ _ _ _ HC4.out]; rfl
            have z3 : W4.cell? ⟨Bc, 3, none⟩ = some (.int .i64 cf) := by rw [cell_of_row _ _ _ _ _ _ HC4.out]; rfl
            have z4 : W4.cell? ⟨Bc, 4, none⟩ = some (.int .i64 ct) := by rw [cell_of_row _ _ _ _ _ _ HC4.out]; rfl
            have z5 : W4.cell? ⟨Bc, 5, none⟩ = some (.slice ua data.length uc) := by rw [cell_of_row _ _ _ _ _ _ HC4.out]; rfl
            go_wp2_with fail
            refine (HMY.out W4 (HOK.out W4 FZ4.out.bel HLB.out)).mono ?_
            rintro e W5 ⟨rfl, hb5⟩
            have FZ5 := hid (FZ4.out.later hb5)
            clear hb5 y0 y1 z0 z1 z2 z3 z4 z5 HMY
            go_wp2_with fail
            go_roundw
            case rel => exact ⟨i + 1, by go_num, by omega, FZ5.out⟩
            case measure => simp [intOf]; omega
          · have hz1 : (er == 0) = false := by simpa using hz
            clear hz F4 HMY
            go_wp2_with fail
            go_roundw
            case rel => exact ⟨i + 1, by go_num, by omega, FZ4.out⟩
            case measure => simp [intOf]; omega
    · have hltI : ¬ (i : Int) < (l.length : Int) := by omega
      have FZ1 := hid hFZ
      clear hFZ
      go_wp2_with fail
      refine (same_eq b g b' g' S _ FZ1.out.st FZ1.out.sc).mono ?_
      rintro e w19 ⟨rfl, hb19⟩
      have B19 := hid (FZ1.out.bel.trans (hb19.mono FZ1.out.bel.size))
      clear hb19
      go_wp2_with fail
      refine (lives_any _).mono ?_
      rintro e w20 ⟨rfl, hb20⟩
      have B20 := hid (B19.out.trans (hb20.mono B19.out.size))
      clear hb20
      go_wp2_with fail
      go_ret
      exact ⟨rfl, B20.out⟩
end Go.Proofs.Ytappdhgabbjoiaa
