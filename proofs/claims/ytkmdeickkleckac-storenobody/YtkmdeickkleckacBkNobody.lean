/- For any span and any command that is light: a store that there is not has nothing; a clone and its original go on apart. -/
import Derived.Test.YtkmdeickkleckacBkNil
import Derived.Test.YtkmdeickkleckacBkClone
import Derived.Test.YtkmdeickkleckacBkSame
import Derived.Test.YtkmdeickkleckacBkSmall
import Derived.Test.YtkmdeickkleckacBkFreeze
import Derived.Test.YtkmdeickkleckacBkLight
import Derived.Test.YtkmdeickkleckacBkLives
import Derived.Test.YtkmdeickkleckacBkOpen
namespace Go.Proofs.Ytkmdeickkleckac
open Go.RowKit

set_option linter.unusedSimpArgs false in
set_option maxRecDepth 100000 in
set_option maxHeartbeats 3200000 in
theorem nobody_any (x : Sp) (a : CmdD) (ua : Option Addr) (uc : Nat) (w : World) (hu : Strs w (.slice ua a.data.length uc) a.data) (hz : ∀ s ∈ a.data, s.size ≤ maxLen) :
    Calls Try.prog 3 #[.agg #[.int .i64 x.1, .int .i64 x.2], cmdV a (.slice ua a.data.length uc)] w fun e w' => e = .returned (.bool true) ∧ Below w.heap.size w w' := by
  have HLI := hid (fun W (h : Strs W (.slice ua a.data.length uc) a.data) => light_any a _ W h hz)
  have HU := hid hu
  clear hu hz
  obtain ⟨a0, a1, a2, a3, a4, ad⟩ := a
  obtain ⟨f, t⟩ := x
  unfold cmdV at HLI ⊢
  simp only at HLI HU ⊢
  obtain ⟨w1, hw1⟩ : ∃ w1, w1 = (w.alloc (.cells #[.int .i64 f, .int .i64 t] 23)).alloc (.cells #[.int .i64 a0, .int .i64 a1, .int .i64 a2, .int .i64 a3, .int .i64 a4, .slice ua ad.length uc] 26) := ⟨_, rfl⟩
  have hb1 : Below w.heap.size w w1 := by rw [hw1]; exact ((Below.refl _ _).alloc (Nat.le_refl _) _).alloc (by simp) _
  have hA : w1.heap[w.heap.size]? = some (.cells #[.int .i64 f, .int .i64 t] 23 (0, 0)) := by rw [hw1]; exact heap_alloc2_old _ _ _
  have hB : w1.heap[w.heap.size + 1]? = some (.cells #[.int .i64 a0, .int .i64 a1, .int .i64 a2, .int .i64 a3, .int .i64 a4, .slice ua ad.length uc] 26 (0, 0)) := by rw [hw1]; exact heap_alloc2_new _ _ _
  have HW1 := hid hw1
  have B1 := hid hb1
  have HU1 := hid (HU.out.below hb1)
  clear hw1 hb1 HU
  go_enter Try.func3, Try.ntmps3
  go_upto_region 1 with fail
  rw [← HW1.out]
  obtain ⟨A, hAe⟩ : ∃ A, A = w.heap.size := ⟨_, rfl⟩
  obtain ⟨B, hBe⟩ : ∃ B, B = w.heap.size + 1 := ⟨_, rfl⟩
  rw [← hAe] at hA
  rw [← hBe] at hB
  rw [← hBe, ← hAe]
  clear hAe hBe HW1
  have SW : Hid (∀ X, Below w1.heap.size w1 X → X.cell? ⟨B, 0, none⟩ = some (.int .i64 a0) ∧ X.cell? ⟨B, 1, none⟩ = some (.int .i64 a1) ∧ X.cell? ⟨B, 2, none⟩ = some (.int .i64 a2) ∧ X.cell? ⟨B, 3, none⟩ = some (.int .i64 a3) ∧ X.cell? ⟨B, 4, none⟩ = some (.int .i64 a4) ∧ X.cell? ⟨B, 5, none⟩ = some (.slice ua ad.length uc) ∧ X.cell? ⟨A, 0, none⟩ = some (.int .i64 f) ∧ X.cell? ⟨A, 1, none⟩ = some (.int .i64 t)) := hid fun X hX => by
    have h1 := (hX.block A (lt_of_block hA)).trans hA
    have h2 := (hX.block B (lt_of_block hB)).trans hB
    refine ⟨?_, ?_, ?_, ?_, ?_, ?_, ?_, ?_⟩ <;> first | (rw [cell_of_row _ _ _ _ _ _ h1]; rfl) | (rw [cell_of_row _ _ _ _ _ _ h2]; rfl)
  clear hA hB
  obtain ⟨x0, x1, x2, x3, x4, x5, y0, y1⟩ := SW.out w1 (Below.refl _ _)
  go_wp2_with fail
  refine (HLI.out w1 HU1.out).mono ?_
  rintro e w2 ⟨rl, rfl, -, hb2⟩
  clear x0 x1 x2 x3 x4 x5 y0 y1
  obtain ⟨x0, x1, x2, x3, x4, x5, y0, y1⟩ := SW.out w2 hb2
  have B2 := hid hb2
  clear hb2 HLI
  cases rl with
  | false =>
    go_wp2_with fail
    refine (lives_any _).mono ?_
    rintro e w3 ⟨rfl, hb3⟩
    have B3 := hid (B2.out.trans (hb3.mono B2.out.size))
    clear hb3
    go_wp2_with fail
    go_ret
    exact ⟨rfl, B1.out.trans (B3.out.mono B1.out.size)⟩
  | true =>
    go_wp2_with fail
    refine (apply_nil _ _ _ _ _ _ _).mono ?_
    rintro e w3 ⟨rfl, hb3⟩
    have B3 := hid (B2.out.trans (hb3.mono B2.out.size))
    clear hb3 x0 x1 x2 x3 x4 x5 y0 y1
    go_wp2_with fail
    refine (block_nil _ _).mono ?_
    rintro e w4 ⟨rfl, hb4⟩
    have B4 : Hid (Below w1.heap.size w1 w4) := hid ((B3.out.alloc B3.out.size _).trans (hb4.mono (B3.out.alloc B3.out.size _).size))
    clear hb4
    go_wp2_with fail
    refine (mark_nil _ _ _).mono ?_
    rintro e w5 ⟨rfl, hb5⟩
    have B5 := hid (B4.out.trans (hb5.mono B4.out.size))
    clear hb5
    obtain ⟨-, -, -, -, -, -, y0, y1⟩ := SW.out w5 B5.out
    go_wp2_with fail
    refine (part_nil (f, t) _).mono ?_
    rintro e w6 ⟨rfl, hb6⟩
    have B6 := hid (B5.out.trans (hb6.mono B5.out.size))
    clear hb6 y0 y1
    go_wp2_with fail
    refine (clone_nil _).mono ?_
    rintro e w7 ⟨rfl, rfl⟩
    go_wp2_with fail
    refine (frozen_nil _).mono ?_
    rintro e w8 ⟨rfl, hb8⟩
    have B8 := hid (B6.out.trans (hb8.mono B6.out.size))
    clear hb8
    go_wp2_with fail
    refine (bspan_nil _).mono ?_
    rintro e w9 ⟨rfl, hb9⟩
    have B9 := hid (B8.out.trans (hb9.mono B8.out.size))
    clear hb9
    go_wp2_with fail
    refine (encode_nil _).mono ?_
    rintro e w10 ⟨rfl, rfl⟩
    go_wp2_with fail
    refine (same_nil_nil _).mono ?_
    rintro e w11 ⟨rfl, hb11⟩
    have B11 := hid (B9.out.trans (hb11.mono B9.out.size))
    clear hb11
    obtain ⟨-, -, -, -, -, -, y0, y1⟩ := SW.out w11 B11.out
    go_wp2_with fail
    refine (small_any (f, t) _).mono ?_
    rintro e w12 ⟨⟨p, q⟩, rfl, hm, hb12⟩
    have B12 := hid (B11.out.trans (hb12.mono B11.out.size))
    have HM := hid hm
    clear hb12 y0 y1 hm
    go_wp2_with fail
    refine (new_yes (p, q) _ HM.out).mono ?_
    rintro e w13 ⟨b, g, rfl, hb, hg, hst13, hb13⟩
    have B13 := hid (B12.out.trans (hb13.mono B12.out.size))
    have ST13 := hid hst13
    have hbw : w1.heap.size ≤ b := Nat.le_trans B12.out.size hb
    clear hb13 hst13 hb hg
    go_wp2_with fail
    refine (sclone_any b g _ _ ST13.out).mono ?_
    rintro e w14 ⟨b', g', rfl, hb', hg', hst14, hb14⟩
    have B14 := hid (B13.out.trans (hb14.mono B13.out.size))
    have ST14 := hid (ST13.out.below hb14)
    have ST14' := hid hst14
    have hlt := ST13.out.lt
    clear hb14 hst14
    go_wp2_with fail
    refine (apply_freeze b g _ ⟨5, 0, 0, 0, 0, []⟩ (.slice none 0 0) _ ST14.out ⟨Strs.nil _, by simp, by simp⟩ (by kernel_rfl) rfl rfl).mono ?_
    rintro e w15 ⟨rfl, hst15, hg15, -⟩
    have B15 := hid (B14.out.trans ((Below.refl _ _).grown hg15 B14.out.size (fun k hk => by cases hk; exact hbw)))
    have ST15 := hid hst15
    have ST15' := hid (ST14'.out.kept (hg15.block b' ST14'.out.lt.1 (fun e => by cases e; omega)) (hg15.block g' ST14'.out.lt.2.1 (fun e => by cases e; omega)))
    clear hst15 hg15
    go_wp2_with fail
    refine (frozen_any b' g' _ _ ST15'.out).mono ?_
    rintro e w16 ⟨rfl, hb16⟩
    have B16 := hid (B15.out.trans (hb16.mono B15.out.size))
    have ST16 := hid (ST15.out.below hb16)
    have ST16' := hid (ST15'.out.below hb16)
    clear hb16
    go_wp2_with fail
    refine (same_frozen b g b' g' _ _ _ ST16.out ST16'.out rfl rfl rfl rfl).mono ?_
    rintro e w17 ⟨rfl, hb17⟩
    have B17 := hid (B16.out.trans (hb17.mono B16.out.size))
    clear hb17
    go_wp2_with fail
    refine (same_nil b _).mono ?_
    rintro e w18 ⟨rfl, hb18⟩
    have B18 := hid (B17.out.trans (hb18.mono B17.out.size))
    clear hb18
    go_wp2_with fail
    refine (nil_same b _).mono ?_
    rintro e w19 ⟨rfl, hb19⟩
    have B19 := hid (B18.out.trans (hb19.mono B18.out.size))
    clear hb19
    go_wp2_with fail
    refine (lives_any _).mono ?_
    rintro e w20 ⟨rfl, hb20⟩
    have B20 := hid (B19.out.trans (hb20.mono B19.out.size))
    clear hb20
    go_wp2_with fail
    go_ret
    exact ⟨rfl, B1.out.trans (B20.out.mono B1.out.size)⟩
end Go.Proofs.Ytkmdeickkleckac
