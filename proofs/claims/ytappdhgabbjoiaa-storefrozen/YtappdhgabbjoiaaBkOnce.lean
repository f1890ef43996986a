/- For any span, any commands (the first 30) and one command more: applied again it changes nothing. -/
import Derived.Test.YtappdhgabbjoiaaBkPlay
import Derived.Test.YtappdhgabbjoiaaBkSameS
import Derived.Test.YtappdhgabbjoiaaBkOnceF
import Derived.Test.YtappdhgabbjoiaaBkSmall
import Derived.Test.YtappdhgabbjoiaaBkClone
import Derived.Test.YtappdhgabbjoiaaBkNil
namespace Go.Proofs.Ytappdhgabbjoiaa
open Go.RowKit
set_option linter.unusedVariables false
set_option linter.unusedSimpArgs false

theorem again_all {S : StD} {c : CmdD} (h : c.op ≠ 5 ∨ errN S c ≠ 0) : okB (nextS S c) c = okB S c ∧ dataOf (nextS S c) c = dataOf S c ∧ nextS (nextS S c) c = nextS S c := by
  by_cases he : errN S c = 0
  · exact again_facts (by rcases h with h | h; exact h; exact absurd he h)
  · have hok := okB_err he
    have e : nextS S c = S := by unfold nextS; rw [if_pos hok]
    rw [e]
    exact ⟨rfl, rfl, e⟩
/-- A store stays where another one is written. -/
theorem St.apart {w w' : World} {b g b' g' : Nat} {S : StD} (h : St w b' g' S) (hb : ButR (fun k => k = b ∨ k = g) w w') (h1 : b' ≠ b ∧ b' ≠ g ∧ g' ≠ b ∧ g' ≠ g) : St w' b' g' S :=
  h.kept (hb.block b' h.lt.1 (by rintro (e | e); exact h1.1 e; exact h1.2.1 e)) (hb.block g' h.lt.2.1 (by rintro (e | e); exact h1.2.2.1 e; exact h1.2.2.2 e))
set_option maxRecDepth 100000 in
set_option maxHeartbeats 8000000 in
theorem once_any (x : Sp) (v : Value) (l : List (CmdD × Value)) (a : CmdD) (ua : Option Addr) (uc : Nat) (w : World) (hl : Cmds w v l) (hz : ∀ y ∈ l, CmdJ y.1) (hu : Strs w (.slice ua a.data.length uc) a.data) (hs : ∀ s ∈ a.data, s.size ≤ maxLen) :
    Calls Try.prog 4 #[.agg #[.int .i64 x.1, .int .i64 x.2], v, cmdV a (.slice ua a.data.length uc)] w fun e w' => e = .returned (.bool true) ∧ Below w.heap.size w w' := by
  obtain ⟨va, vc, rfl⟩ := hl.shape
  have HC := hid hl
  have HZ := hid hz
  have HU := hid hu
  clear hl hz hu
  have HLI := hid (fun W (h : Strs W (.slice ua a.data.length uc) a.data) => light_any a _ W h hs)
  clear hs
  have HAPc := hid (fun (b g : Nat) (S : StD) W (h1 : St W b g S) (h2 : CmdOk W a (.slice ua a.data.length uc)) hug => apply_any b g S a _ W h1 h2 hug)
  obtain ⟨f, t⟩ := x
  have HGEN := hid (fun (S : StD) => And.intro (again_all (S := S) (c := a)) (And.intro (again_freeze (S := S) (c := a)) (And.intro (okB_err (S := S) (c := a)) (And.intro (errN_next S a a) (fun h => nextS_i (S := S) h a)))))
  have HOKc := hid (fun W (hb : Below w.heap.size w W) (hl : LightB a.data) => light_ok (c := a) (HU.out.below hb) hl)
  have HUG : Hid (∀ ad n cp, (.slice ua a.data.length uc : Value) = .slice (some ad) n cp → 0 < n → ad.block < w.heap.size) := hid fun ad n cp e hn => by
    have := HU.out; rw [e] at this; exact this.low hn
  obtain ⟨a0, a1, a2, a3, a4, ad⟩ := a
  unfold cmdV at HLI HAPc ⊢
  simp only at HLI HAPc HU HOKc HGEN HUG ⊢
  obtain ⟨w1, hw1⟩ : ∃ w1, w1 = (w.alloc (.cells #[.int .i64 f, .int .i64 t] 23)).alloc (.cells #[.int .i64 a0, .int .i64 a1, .int .i64 a2, .int .i64 a3, .int .i64 a4, .slice ua ad.length uc] 35) := ⟨_, rfl⟩
  have hb1 : Below w.heap.size w w1 := by rw [hw1]; exact ((Below.refl _ _).alloc (Nat.le_refl _) _).alloc (by simp) _
  have hA : w1.heap[w.heap.size]? = some (.cells #[.int .i64 f, .int .i64 t] 23 (0, 0)) := by rw [hw1]; exact heap_alloc2_old _ _ _
  have hB : w1.heap[w.heap.size + 1]? = some (.cells #[.int .i64 a0, .int .i64 a1, .int .i64 a2, .int .i64 a3, .int .i64 a4, .slice ua ad.length uc] 35 (0, 0)) := by rw [hw1]; exact heap_alloc2_new _ _ _
  have HW1 := hid hw1
  have B1 := hid hb1
  clear hw1 hb1
  go_enter Try.func4, Try.ntmps4
  go_upto_region 1 with fail
  rw [← HW1.out]
  obtain ⟨A, hAe⟩ : ∃ A, A = w.heap.size := ⟨_, rfl⟩
  obtain ⟨B, hBe⟩ : ∃ B, B = w.heap.size + 1 := ⟨_, rfl⟩
  rw [← hAe] at hA
  rw [← hBe] at hB
  rw [← hBe, ← hAe]
  clear hAe hBe HW1
  have SW : Hid (∀ X, Below w1.heap.size w1 X → X.cell? ⟨B, 0, none⟩ = some (.int .i64 a0) ∧ X.cell? ⟨B, 1, none⟩ = some (.int .i64 a1) ∧ X.cell? ⟨B, 2, none⟩ = some (.int .i64 a2) ∧ X.cell? ⟨B, 3, none⟩ = some (.int .i64 a3) ∧ X.cell? ⟨B, 4, none⟩ = some (.int .i64 a4) ∧ X.cell? ⟨B, 5, none⟩ = some (.slice ua ad.length uc) ∧ X.cell? ⟨A, 0, none⟩ = some (.int .i64 f) ∧ X.cell? ⟨A, 1, none⟩ = some (.int .i64 t)) := hid fun X hX => by
    have h1 := (hX.block A (lt_of_block hA)).trans hA
    have h2 := (hX.block B (lt_of_block hB)).trans hB
    refine ⟨?_, ?_, ?_, ?_, ?_, ?_, ?_, ?_⟩ <;> first | (rw [cell_of_row _ _ _ _ _ _ h1]; rfl) | (rw [cell_of_row _ _ _ _ _ _ h2]; rfl)
  clear hA hB
  obtain ⟨x0, x1, x2, x3, x4, x5, y0, y1⟩ := SW.out w1 (Below.refl _ _)
  go_wp2_with fail
  refine (HLI.out w1 (HU.out.below B1.out)).mono ?_
  rintro e w2 ⟨rl, rfl, hrl, hb2⟩
  have B2 := hid hb2
  have HRL := hid hrl
  clear x0 x1 x2 x3 x4 x5 y0 y1 hb2 hrl HLI
  cases rl with
  | false =>
    go_wp2_with fail
    refine (lives_any _).mono ?_
    rintro e w3 ⟨rfl, hb3⟩
    have B3 := hid (B2.out.trans (hb3.mono B2.out.size))
    clear hb3
    go_wp2_with fail
    go_ret
    exact ⟨rfl, B1.out.trans (B3.out.mono B1.out.size)⟩
  | true =>
    have HLB := hid (HRL.out rfl)
    obtain ⟨-, -, -, -, -, -, y0, y1⟩ := SW.out w2 B2.out
    clear HRL
    go_wp2_with fail
    refine (small_any (f, t) _).mono ?_
    rintro e w3 ⟨⟨p, q⟩, rfl, hm, hb3⟩
    have B3 := hid (B2.out.trans (hb3.mono B2.out.size))
    have HM := hid hm
    clear hb3 hm y0 y1
    go_wp2_with fail
    refine (play_any (p, q) _ l 30 w3 HM.out (HC.out.below (B1.out.trans (B3.out.mono B1.out.size))) HZ.out).mono ?_
    rintro e w4 ⟨b, g, base, X, vt, vm, ks, S, rfl, hb, hg, -, -, -, -, hps⟩
    have ST4 := hid hps.st
    have B4 := hid (B3.out.trans (hps.bel.mono B3.out.size))
    have HBG : Hid (w1.heap.size ≤ b ∧ w1.heap.size ≤ g) := hid ⟨Nat.le_trans B3.out.size hb, Nat.le_trans B3.out.size hg⟩
    clear hps hb hg HC HZ
    have HAP := hid (fun S W (h1 : St W b g S) (hb : Below w.heap.size w W) => HAPc.out b g S W h1 (HOKc.out W hb HLB.out) (fun a' n cp e hn => by have := HUG.out a' n cp e hn; have := HBG.out; have := B1.out.size; show a'.block ≠ g; omega))
    obtain ⟨hA1, hA2, hA3, hA4, hA5⟩ := HGEN.out S
    have HAP1 := hid (HAP.out S)
    have HAP2 := hid (HAP.out (nextS S ⟨a0, a1, a2, a3, a4, ad⟩))
    unfold ApP at HAP1 HAP2
    rw [hA4] at HAP2
    obtain ⟨ok, hok⟩ : ∃ ok, ok = okB S ⟨a0, a1, a2, a3, a4, ad⟩ := ⟨_, rfl⟩
    obtain ⟨er, her⟩ : ∃ er, er = errN S ⟨a0, a1, a2, a3, a4, ad⟩ := ⟨_, rfl⟩
    obtain ⟨dt, hdt⟩ : ∃ dt, dt = dataOf S ⟨a0, a1, a2, a3, a4, ad⟩ := ⟨_, rfl⟩
    obtain ⟨S1, hS1⟩ : ∃ S1, S1 = nextS S ⟨a0, a1, a2, a3, a4, ad⟩ := ⟨_, rfl⟩
    rw [← hok, ← her, ← hdt, ← hS1] at HAP1
    rw [← her, ← hS1] at HAP2
    rw [← hok, ← her, ← hdt, ← hS1] at hA1
    rw [← her, ← hS1] at hA2
    rw [← hok, ← her] at hA3
    obtain ⟨ok2, hok2⟩ : ∃ ok2, ok2 = okB S1 ⟨a0, a1, a2, a3, a4, ad⟩ := ⟨_, rfl⟩
    obtain ⟨dt2, hdt2⟩ : ∃ dt2, dt2 = dataOf S1 ⟨a0, a1, a2, a3, a4, ad⟩ := ⟨_, rfl⟩
    obtain ⟨S2, hS2⟩ : ∃ S2, S2 = nextS S1 ⟨a0, a1, a2, a3, a4, ad⟩ := ⟨_, rfl⟩
    rw [← hok2, ← hdt2, ← hS2] at HAP2
    rw [← hok2, ← hdt2, ← hS2] at hA1
    rw [← hok2, ← hS2] at hA2
    have F1 : Hid (a0 ≠ 5 ∨ er ≠ 0 → ok2 = ok ∧ dt2 = dt ∧ S2 = S1) := hid hA1
    have F2 : Hid (a0 = 5 → er = 0 → ok2 = false ∧ S1.fr = true ∧ S2 = S1) := hid hA2
    have F3 : Hid (er ≠ 0 → ok = false) := hid hA3
    clear hok her hdt hS1 hok2 hdt2 hS2 hA1 hA2 hA3 hA4 hA5 HGEN HAP HAPc HOKc
    obtain ⟨x0, x1, x2, x3, x4, x5, -, -⟩ := SW.out w4 B4.out
    go_wp2_with fail
    refine (HAP1.out w4 ST4.out (B1.out.trans (B4.out.mono B1.out.size))).mono ?_
    rintro e w5 ⟨va5, vc5, rfl, ho5, hst5, hbut5⟩
    have B5 : Hid (Below w1.heap.size w1 w5) := hid (B4.out.trans (hbut5.below B4.out.size (by rintro k (rfl | rfl); exact HBG.out.1; exact HBG.out.2)))
    have ST5 := hid hst5
    have O5 := hid ho5
    have HLT := hid (And.intro ST4.out.lt.1 ST4.out.lt.2.1)
    have HS5 := hid hbut5.size
    clear ho5 hst5 hbut5 x0 x1 x2 x3 x4 x5 HAP1
    obtain ⟨w6, hw6⟩ : ∃ w6, w6 = w5.alloc (.cells #[.bool ok, .slice va5 dt.length vc5] 38) := ⟨_, rfl⟩
    have b6 : Below w5.heap.size w5 w6 := by rw [hw6]; exact (Below.refl _ _).alloc (Nat.le_refl _) _
    have h66 : w6.heap[w5.heap.size]? = some (.cells #[.bool ok, .slice va5 dt.length vc5] 38 (0, 0)) := by rw [hw6]; exact heap_alloc_new _ _
    have HW6 := hid hw6
    have B6 := hid (B5.out.trans (b6.mono B5.out.size))
    have ST6 := hid (ST5.out.below b6)
    have O6 := hid (own_below O5.out b6)
    clear hw6 b6
    go_upto_region 7 with fail
    rw [← HW6.out]
    obtain ⟨R1, hR1⟩ : ∃ R1, R1 = w5.heap.size := ⟨_, rfl⟩
    rw [← hR1] at h66
    rw [← hR1]
    have HR1 := hid h66
    have HR1n : Hid (R1 ≠ b ∧ R1 ≠ g) := hid (by have := HLT.out; have := HS5.out; omega)
    clear h66 hR1 HW6 ST5 O5
    go_wp2_with fail
    refine (sclone_any b g S1 w6 ST6.out).mono ?_
    rintro e w7 ⟨b', g', rfl, hb', hg', hst7, hb7⟩
    have B7 := hid (B6.out.trans (hb7.mono B6.out.size))
    have ST7 := hid (ST6.out.below hb7)
    have SC7 := hid hst7
    have O7 := hid (own_below O6.out hb7)
    have HR7 := hid ((hb7.block R1 (lt_of_block HR1.out)).trans HR1.out)
    have HNE : Hid (b' ≠ b ∧ b' ≠ g ∧ g' ≠ b ∧ g' ≠ g) := hid (by have := ST6.out.lt; omega)
    clear hb7 hst7 hb' hg' ST6 O6 HR1
    obtain ⟨x0, x1, x2, x3, x4, x5, -, -⟩ := SW.out w7 B7.out
    go_wp2_with fail
    refine (HAP2.out w7 ST7.out (B1.out.trans (B7.out.mono B1.out.size))).mono ?_
    rintro e w8 ⟨va8, vc8, rfl, ho8, hst8, hbut8⟩
    have B8 : Hid (Below w1.heap.size w1 w8) := hid (B7.out.trans (hbut8.below B7.out.size (by rintro k (rfl | rfl); exact HBG.out.1; exact HBG.out.2)))
    have ST8 := hid hst8
    have SC8 := hid (SC7.out.apart hbut8 HNE.out)
    have P8 := hid ho8
    have HR8 := hid ((hbut8.block R1 (lt_of_block HR7.out) (by have := HR1n.out; omega)).trans HR7.out)
    have O8 : Hid (w8.ownsRow w4.heap.size 9 1 (.slice va5 dt.length vc5) dt.length (tvs dt)) := hid (own_kept O7.out fun q' cs hq hh => hbut8.block q' (lt_of_block hh) (by
      have := (O7.out.lt q' hq).1
      have := HLT.out
      omega))
    clear ho8 hst8 hbut8 x0 x1 x2 x3 x4 x5 HAP2 ST7 SC7 O7 HR7
    obtain ⟨w9, hw9⟩ : ∃ w9, w9 = w8.alloc (.cells #[.bool ok2, .slice va8 dt2.length vc8] 38) := ⟨_, rfl⟩
    have b9 : Below w8.heap.size w8 w9 := by rw [hw9]; exact (Below.refl _ _).alloc (Nat.le_refl _) _
    have h99 : w9.heap[w8.heap.size]? = some (.cells #[.bool ok2, .slice va8 dt2.length vc8] 38 (0, 0)) := by rw [hw9]; exact heap_alloc_new _ _
    have HW9 := hid hw9
    have B9 := hid (B8.out.trans (b9.mono B8.out.size))
    have ST9 := hid (ST8.out.below b9)
    have SC9 := hid (SC8.out.below b9)
    have O9 := hid (own_below O8.out b9)
    have P9 := hid (own_below P8.out b9)
    have h19 := (b9.block R1 (lt_of_block HR8.out)).trans HR8.out
    clear hw9 b9 ST8 SC8 O8 P8 HR8
    go_upto_region 9 with fail
    rw [← HW9.out]
    obtain ⟨R2, hR2⟩ : ∃ R2, R2 = w8.heap.size := ⟨_, rfl⟩
    rw [← hR2] at h99
    rw [← hR2]
    have r0 : w9.cell? ⟨R1, 0, none⟩ = some (.bool ok) := by rw [cell_of_row _ _ _ _ _ _ h19]; rfl
    have r1 : w9.cell? ⟨R1, 1, none⟩ = some (.slice va5 dt.length vc5) := by rw [cell_of_row _ _ _ _ _ _ h19]; rfl
    have q0 : w9.cell? ⟨R2, 0, none⟩ = some (.bool ok2) := by rw [cell_of_row _ _ _ _ _ _ h99]; rfl
    have q1 : w9.cell? ⟨R2, 1, none⟩ = some (.slice va8 dt2.length vc8) := by rw [cell_of_row _ _ _ _ _ _ h99]; rfl
    obtain ⟨k0, -, -, -, -, -, -, -⟩ := SW.out w9 B9.out
    clear hR2 h99 h19 HW9
    by_cases hB : a0 = 5 ∧ er = 0
    · obtain ⟨f1, f2, f3⟩ := F2.out hB.1 hB.2
      have h5 : (a0 == 5) = true := by rw [hB.1]; rfl
      have hz1 : (er == 0) = true := by rw [hB.2]; rfl
      have hz2 : (er != 0) = false := by rw [hB.2]; rfl
      subst f1 f3
      have HF := hid f2
      clear hB f2 F1 F2 F3
      go_wp2_with fail
      refine (frozen_any b g _ w9 ST9.out).mono ?_
      rintro e w10 ⟨rfl, hb10⟩
      rw [HF.out]
      have B10 := hid (B9.out.trans (hb10.mono B9.out.size))
      have ST10 := hid (ST9.out.below hb10)
      have SC10 := hid (SC9.out.below hb10)
      clear hb10 r0 r1 q0 q1 k0
      go_wp2_with fail
      refine (same_eq b g b' g' _ w10 ST10.out SC10.out).mono ?_
      rintro e w19 ⟨rfl, hb19⟩
      have B19 := hid (B10.out.trans (hb19.mono B10.out.size))
      clear hb19
      go_wp2_with fail
      refine (lives_any _).mono ?_
      rintro e w20 ⟨rfl, hb20⟩
      have B20 := hid (B19.out.trans (hb20.mono B19.out.size))
      clear hb20
      go_wp2_with fail
      go_ret
      exact ⟨rfl, B1.out.trans (B20.out.mono B1.out.size)⟩
    · obtain ⟨f1, f2, f3⟩ := F1.out (by omega)
      subst f1 f2 f3
      by_cases hz : er = 0
      · have h5 : (a0 == 5) = false := by simp; omega
        have hz2 : (er != 0) = false := by rw [hz]; rfl
        clear hB hz F1 F2 F3
        go_wp2_with fail
        refine (sameReply_any _ _ _ _ w9 (strs_own O9.out) (strs_own P9.out)).mono ?_
        rintro e w10 ⟨rfl, hb10⟩
        have B10 := hid (B9.out.trans (hb10.mono B9.out.size))
        have ST10 := hid (ST9.out.below hb10)
        have SC10 := hid (SC9.out.below hb10)
        clear hb10 r0 r1 q0 q1 k0
        go_wp2_with fail
        refine (same_eq b g b' g' _ w10 ST10.out SC10.out).mono ?_
        rintro e w19 ⟨rfl, hb19⟩
        have B19 := hid (B10.out.trans (hb19.mono B10.out.size))
        clear hb19
        go_wp2_with fail
        refine (lives_any _).mono ?_
        rintro e w20 ⟨rfl, hb20⟩
        have B20 := hid (B19.out.trans (hb20.mono B19.out.size))
        clear hb20
        go_wp2_with fail
        go_ret
        exact ⟨rfl, B1.out.trans (B20.out.mono B1.out.size)⟩
      · have hz1 : (er == 0) = false := by simpa using hz
        have hz2 : (er != 0) = true := by simpa using hz
        have hokf := F3.out hz
        subst hokf
        cases h5 : (a0 == 5) with
        | true =>
          clear hB hz F1 F2 F3
          go_wp2_with fail
          refine (sameReply_any _ _ _ _ w9 (strs_own O9.out) (strs_own P9.out)).mono ?_
          rintro e w10 ⟨rfl, hb10⟩
          have B10 := hid (B9.out.trans (hb10.mono B9.out.size))
          have ST10 := hid (ST9.out.below hb10)
          have SC10 := hid (SC9.out.below hb10)
          clear hb10 r0 r1 q0 q1 k0
          go_wp2_with fail
          refine (same_eq b g b' g' _ w10 ST10.out SC10.out).mono ?_
          rintro e w19 ⟨rfl, hb19⟩
          have B19 := hid (B10.out.trans (hb19.mono B10.out.size))
          clear hb19
          go_wp2_with fail
          refine (lives_any _).mono ?_
          rintro e w20 ⟨rfl, hb20⟩
          have B20 := hid (B19.out.trans (hb20.mono B19.out.size))
          clear hb20
          go_wp2_with fail
          go_ret
          exact ⟨rfl, B1.out.trans (B20.out.mono B1.out.size)⟩
        | false =>
          clear hB hz F1 F2 F3
          go_wp2_with fail
          refine (sameReply_any _ _ _ _ w9 (strs_own O9.out) (strs_own P9.out)).mono ?_
          rintro e w10 ⟨rfl, hb10⟩
          have B10 := hid (B9.out.trans (hb10.mono B9.out.size))
          have ST10 := hid (ST9.out.below hb10)
          have SC10 := hid (SC9.out.below hb10)
          clear hb10 r0 r1 q0 q1 k0
          go_wp2_with fail
          refine (same_eq b g b' g' _ w10 ST10.out SC10.out).mono ?_
          rintro e w19 ⟨rfl, hb19⟩
          have B19 := hid (B10.out.trans (hb19.mono B10.out.size))
          clear hb19
          go_wp2_with fail
          refine (lives_any _).mono ?_
          rintro e w20 ⟨rfl, hb20⟩
          have B20 := hid (B19.out.trans (hb20.mono B19.out.size))
          clear hb20
          go_wp2_with fail
          go_ret
          exact ⟨rfl, B1.out.trans (B20.out.mono B1.out.size)⟩
end Go.Proofs.Ytappdhgabbjoiaa
