/- The law WardenMays: for every input it returns true, and leaves its argument as it was. No condition. -/
import Derived.Test.YtmgjjkcmgfpbdaaWdAll
import Derived.Test.YtmgjjkcmgfpbdaaAtBase
import Derived.ProofKit
import Derived.OpenShut
import Derived.ChangeOld
import Derived.Deep.SlicePairs
import Derived.Lib.SmallJoins
import Derived.Test.YtmgjjkcmgfpbdaaRows
import Derived.WalkKit
import Derived.ShutString
import Derived.Below
namespace Go.Proofs.Ytmgjjkcmgfpbdaa
open Go.RowKit Go.Maps Go.Shelf
set_option linter.unusedVariables false
set_option linter.unusedSimpArgs false

set_option maxRecDepth 100000 in
set_option maxHeartbeats 2000000 in
theorem decide_nil (r : RuD) (kv vv : Value) (w : World) :
    Calls Try.prog 12 #[.pointer none, .agg (ruC r), kv, vv] w (NoP w) := by
  have H : Hid (∃ b : Nat, b = 0) := hid ⟨0, rfl⟩
  unfold ruC
  go_enter Try.func12, Try.ntmps12
  go_upto_region 1 with fail
  obtain ⟨hA, hC⟩ := heap_two w (.cells #[.int .i64 r.hot, .int .i64 r.cold, .int .i64 r.long, .int .i64 r.mute, .int .i64 r.cap] 24) (.cells #[.int .i64 0, .int .i64 0, .int .i64 0, .int .i64 0, .int .i64 0, .int .i64 0] 36)
  have B1 : Hid (Below w.heap.size w ((w.alloc (.cells #[.int .i64 r.hot, .int .i64 r.cold, .int .i64 r.long, .int .i64 r.mute, .int .i64 r.cap] 24)).alloc (.cells #[.int .i64 0, .int .i64 0, .int .i64 0, .int .i64 0, .int .i64 0, .int .i64 0] 36))) := hid (((Below.refl _ _).alloc (Nat.le_refl _) _).alloc (by simp) _)
  have HCZ := hid hC
  clear hA hC
  generalize (w.alloc (.cells #[.int .i64 r.hot, .int .i64 r.cold, .int .i64 r.long, .int .i64 r.mute, .int .i64 r.cap] 24)).alloc (.cells #[.int .i64 0, .int .i64 0, .int .i64 0, .int .i64 0, .int .i64 0, .int .i64 0] 36) = w1 at *
  obtain ⟨C, hCe⟩ : ∃ P, P = w.heap.size + 1 := ⟨_, rfl⟩
  have HLC : Hid (w.heap.size ≤ C) := hid (by omega)
  rw [← hCe] at HCZ
  rw [← hCe]
  clear hCe
  go_quiet (fail)
  go_wp2_with (refine wpl_storeC rfl _ _ rfl C (.int .i64 0) (.int .i64 0) (.int .i64 0) (.int .i64 0) (.int .i64 0) (.int .i64 0) rfl rfl rfl rfl rfl rfl rfl rfl _ _ rfl HCZ.out ?_)
  (try simp only [Exit.inBlock, Exit.then])
  refine bodyPost_ret (results_chB rfl _ _ C _ _ _ rfl rfl (setRow_heap _ _ _ _ _ _ HCZ.out)) rfl ?_
  exact ⟨rfl, below_row (B1.out.trans ((belowN w1 _).mono B1.out.size)) HLC.out _⟩
theorem may_falseN {r : RuD} (n : Int) (hm : n ∈ ruL r) (h : n < 0 ∨ 1073741824 < n) : mayB r = false := by
  unfold mayB
  rw [List.all_eq_false]
  refine ⟨n, hm, ?_⟩
  unfold okN
  rcases h with h | h
  · rw [decide_eq_false (by omega : ¬ 0 ≤ n)]; simp
  · rw [decide_eq_false (by omega : ¬ n ≤ 1073741824)]; simp
set_option maxRecDepth 100000 in
set_option maxHeartbeats 4000000 in
theorem rmay_any (r : RuD) (w : World) :
    Calls Try.prog 15 #[ruV r] w fun e w' => e = .returned (.bool (mayB r)) ∧ Below w.heap.size w w' := by
  have B1 : Hid (Below w.heap.size w (w.alloc (.cells #[.int .i64 r.hot, .int .i64 r.cold, .int .i64 r.long, .int .i64 r.mute, .int .i64 r.cap] 24))) := hid ((Below.refl _ _).alloc (Nat.le_refl _) _)
  have hr : True := trivial
  by_cases h0 : r.hot < 0
  · have HX : Hid (mayB r = false) := hid (may_falseN r.hot (by simp [ruL]) (.inl h0))
    unfold ruV
    clear hr
    go_enter Try.func15, Try.ntmps15
    go_wp2_with fail
    go_ret
    exact ⟨by rw [HX.out]; rfl, B1.out⟩
  · have g0 : 0 ≤ r.hot := by omega
    clear h0
    by_cases h1 : r.cold < 0
    · have HX : Hid (mayB r = false) := hid (may_falseN r.cold (by simp [ruL]) (.inl h1))
      unfold ruV
      clear hr
      go_enter Try.func15, Try.ntmps15
      go_wp2_with fail
      go_ret
      exact ⟨by rw [HX.out]; rfl, B1.out⟩
    · have g1 : 0 ≤ r.cold := by omega
      clear h1
      by_cases h2 : r.long < 0
      · have HX : Hid (mayB r = false) := hid (may_falseN r.long (by simp [ruL]) (.inl h2))
        unfold ruV
        clear hr
        go_enter Try.func15, Try.ntmps15
        go_wp2_with fail
        go_ret
        exact ⟨by rw [HX.out]; rfl, B1.out⟩
      · have g2 : 0 ≤ r.long := by omega
        clear h2
        by_cases h3 : r.mute < 0
        · have HX : Hid (mayB r = false) := hid (may_falseN r.mute (by simp [ruL]) (.inl h3))
          unfold ruV
          clear hr
          go_enter Try.func15, Try.ntmps15
          go_wp2_with fail
          go_ret
          exact ⟨by rw [HX.out]; rfl, B1.out⟩
        · have g3 : 0 ≤ r.mute := by omega
          clear h3
          by_cases h4 : r.cap < 0
          · have HX : Hid (mayB r = false) := hid (may_falseN r.cap (by simp [ruL]) (.inl h4))
            unfold ruV
            clear hr
            go_enter Try.func15, Try.ntmps15
            go_wp2_with fail
            go_ret
            exact ⟨by rw [HX.out]; rfl, B1.out⟩
          · have g4 : 0 ≤ r.cap := by omega
            clear h4
            by_cases h5 : 1073741824 < r.hot
            · have HX : Hid (mayB r = false) := hid (may_falseN r.hot (by simp [ruL]) (.inr h5))
              unfold ruV
              clear hr
              go_enter Try.func15, Try.ntmps15
              go_wp2_with fail
              go_ret
              exact ⟨by rw [HX.out]; rfl, B1.out⟩
            · have g5 : r.hot ≤ 1073741824 := by omega
              clear h5
              by_cases h6 : 1073741824 < r.cold
              · have HX : Hid (mayB r = false) := hid (may_falseN r.cold (by simp [ruL]) (.inr h6))
                unfold ruV
                clear hr
                go_enter Try.func15, Try.ntmps15
                go_wp2_with fail
                go_ret
                exact ⟨by rw [HX.out]; rfl, B1.out⟩
              · have g6 : r.cold ≤ 1073741824 := by omega
                clear h6
                by_cases h7 : 1073741824 < r.long
                · have HX : Hid (mayB r = false) := hid (may_falseN r.long (by simp [ruL]) (.inr h7))
                  unfold ruV
                  clear hr
                  go_enter Try.func15, Try.ntmps15
                  go_wp2_with fail
                  go_ret
                  exact ⟨by rw [HX.out]; rfl, B1.out⟩
                · have g7 : r.long ≤ 1073741824 := by omega
                  clear h7
                  by_cases h8 : 1073741824 < r.mute
                  · have HX : Hid (mayB r = false) := hid (may_falseN r.mute (by simp [ruL]) (.inr h8))
                    unfold ruV
                    clear hr
                    go_enter Try.func15, Try.ntmps15
                    go_wp2_with fail
                    go_ret
                    exact ⟨by rw [HX.out]; rfl, B1.out⟩
                  · have g8 : r.mute ≤ 1073741824 := by omega
                    clear h8
                    by_cases h9 : 1073741824 < r.cap
                    · have HX : Hid (mayB r = false) := hid (may_falseN r.cap (by simp [ruL]) (.inr h9)); have h9n : ¬ r.cap ≤ 1073741824 := by omega
                      unfold ruV
                      clear hr
                      go_enter Try.func15, Try.ntmps15
                      go_wp2_with fail
                      go_ret
                      exact ⟨by rw [HX.out]; rfl, B1.out⟩
                    · have g9 : r.cap ≤ 1073741824 := by omega
                      clear h9
                      have HX : Hid (mayB r = true) := hid (by simp [mayB, ruL, okN]; omega)
                      unfold ruV
                      clear hr
                      go_enter Try.func15, Try.ntmps15
                      go_wp2_with fail
                      go_ret
                      exact ⟨by rw [HX.out]; rfl, B1.out⟩
theorem run_eqz_ch (w : World) : (binOp .eql 36 (.agg #[.int .i64 0, .int .i64 0, .int .i64 0, .int .i64 0, .int .i64 0, .int .i64 0]) (.agg #[.int .i64 0, .int .i64 0, .int .i64 0, .int .i64 0, .int .i64 0, .int .i64 0])).run Try.prog w = .ok (.bool true) w := by
  go_simp
set_option maxRecDepth 100000 in
set_option maxHeartbeats 4000000 in
theorem wardenMays_any (r : RuD) (w : World) :
    Calls Try.prog 4 #[ruV r] w fun e w' => e = .returned (.bool true) ∧ Below w.heap.size w w' := by
  obtain ⟨w1, hw1⟩ : ∃ w1, w1 = w.alloc (.cells #[.int .i64 r.hot, .int .i64 r.cold, .int .i64 r.long, .int .i64 r.mute, .int .i64 r.cap] 24) := ⟨_, rfl⟩
  have B1 : Hid (Below w.heap.size w w1) := hid (by rw [hw1]; exact (Below.refl _ _).alloc (Nat.le_refl _) _)
  have hA := heap_alloc_new w (.cells #[.int .i64 r.hot, .int .i64 r.cold, .int .i64 r.long, .int .i64 r.mute, .int .i64 r.cap] 24)
  rw [← hw1] at hA
  have HW1 := hid hw1
  have HDN := hid (decide_nil r (.slice none 0 0) (.slice none 0 0) w1)
  unfold ruC at HDN
  clear hw1
  unfold ruV
  go_enter Try.func4, Try.ntmps4
  go_upto_region 1 with fail
  rw [← HW1.out]
  clear HW1
  obtain ⟨A, hAe⟩ : ∃ P, P = w.heap.size := ⟨_, rfl⟩
  rw [← hAe] at hA
  rw [← hAe]
  have HA := hid hA
  clear hAe
  have hR1 : w1.rangeAt A 0 [.int .i64 r.hot, .int .i64 r.cold, .int .i64 r.long, .int .i64 r.mute, .int .i64 r.cap] := range_of_row hA 0 _ fun j v hv => by rw [Nat.zero_add]; simpa using hv
  clear hA
  go_upto_region 2 with (first | (refine wpl_loadRu rfl _ rfl A 0 rfl _ _ _ _ _ hR1 ?_) | (go_at_call 12; refine HDN.out.mono ?_; rintro e wx ⟨rfl, hbx⟩; unfold chV zCh; have BX := hid hbx; clear hbx))
  have hb2 : Below wx.heap.size wx (wx.alloc (.cells #[.int .i64 0, .int .i64 0, .int .i64 0, .int .i64 0, .int .i64 0, .int .i64 0] 36)) := (Below.refl _ _).alloc (Nat.le_refl _) _
  have hP := heap_alloc_new wx (.cells #[.int .i64 0, .int .i64 0, .int .i64 0, .int .i64 0, .int .i64 0, .int .i64 0] 36)
  have HP := hid hP
  have B12 := BX.out.trans (hb2.mono BX.out.size)
  have B2 := hid (B1.out.trans (B12.mono B1.out.size))
  have HA2 := hid ((B12.block A (lt_of_block HA.out)).trans HA.out)
  clear hb2 hP B12 BX HA HDN hR1
  generalize wx.alloc (.cells #[.int .i64 0, .int .i64 0, .int .i64 0, .int .i64 0, .int .i64 0, .int .i64 0] 36) = w2 at *
  generalize wx.heap.size = P at *
  obtain ⟨dR, hdR1, hdR2⟩ := Try.rowRu
  obtain ⟨dC, hdC1, hdC2⟩ := Try.rowCh
  have SB : Hid (∀ Y, Below w2.heap.size w2 Y → Y.rangeAt A 0 [.int .i64 r.hot, .int .i64 r.cold, .int .i64 r.long, .int .i64 r.mute, .int .i64 r.cap] ∧ Y.rangeAt P 0 [.int .i64 0, .int .i64 0, .int .i64 0, .int .i64 0, .int .i64 0, .int .i64 0]) := hid fun Y hY => ⟨range_of_row ((hY.block A (lt_of_block HA2.out)).trans HA2.out) 0 _ fun j v hv => by rw [Nat.zero_add]; simpa using hv, range_of_row ((hY.block P (lt_of_block HP.out)).trans HP.out) 0 _ fun j v hv => by rw [Nat.zero_add]; simpa using hv⟩
  refine wp_region_held_drew (S := fun Y => Y.rangeAt A 0 [.int .i64 r.hot, .int .i64 r.cold, .int .i64 r.long, .int .i64 r.mute, .int .i64 r.cap] ∧ Y.rangeAt P 0 [.int .i64 0, .int .i64 0, .int .i64 0, .int .i64 0, .int .i64 0, .int .i64 0]) (by kernel_rfl) (SB.out _ ((Below.refl _ _).drew)) (fun hHeld => ?_)
  refine wpAnyH_take (i := 0) (v := .agg #[.int .i64 r.hot, .int .i64 r.cold, .int .i64 r.long, .int .i64 r.mute, .int .i64 r.cap]) rfl (by kernel_rfl) (by kernel_rfl) (by kernel_rfl) (fun _ _ _ h => h) (yieldsIf_load_mid rfl _ _ rfl A 0 rfl [.int .i64 r.hot, .int .i64 r.cold, .int .i64 r.long, .int .i64 r.mute, .int .i64 r.cap] dR (fun Y hY => hY.1) hdR1 hdR2 Try.sizeRu) (by assumption) ?_
  (try simp only [Act.put, List.setIfInBounds_toArray, List.set_cons_zero, List.set_cons_succ, List.getElem_toArray, List.getElem_cons_succ, List.getElem_cons_zero])
  refine wpAnyH_take (i := 2) (v := .agg #[.int .i64 r.hot, .int .i64 r.cold, .int .i64 r.long, .int .i64 r.mute, .int .i64 r.cap]) rfl (by kernel_rfl) (by kernel_rfl) (by kernel_rfl) (fun _ _ _ h => h) (yieldsIf_load_mid rfl _ _ rfl A 0 rfl [.int .i64 r.hot, .int .i64 r.cold, .int .i64 r.long, .int .i64 r.mute, .int .i64 r.cap] dR (fun Y hY => hY.1) hdR1 hdR2 Try.sizeRu) (by assumption) ?_
  (try simp only [Act.put, List.setIfInBounds_toArray, List.set_cons_zero, List.set_cons_succ, List.getElem_toArray, List.getElem_cons_succ, List.getElem_cons_zero])
  refine wpAnyH_ready (rs := [1]) (by kernel_rfl) (by simp) ?_
  refine AllReadyH.cons rfl (fun K hK => ?_) AllReadyH.nil
  rw [if_pos (by rfl)]
  go_wp2_with fail
  refine (may_any r _).mono ?_
  rintro e w3 ⟨rfl, hb3⟩
  have B3 : Hid (Below w2.heap.size w2 w3) := hid (((Below.refl w2.heap.size w2).drew).trans hb3)
  clear hb3
  refine hK.out _ _ (SB.out _ B3.out) (fun hHeld => ?_)
  try clear hK K
  (try simp only [Act.put, List.setIfInBounds_toArray, List.set_cons_zero, List.set_cons_succ, List.getElem_toArray, List.getElem_cons_succ, List.getElem_cons_zero])
  refine wpAnyH_ready (rs := [3]) (by kernel_rfl) (by simp) ?_
  refine AllReadyH.cons rfl (fun K hK => ?_) AllReadyH.nil
  rw [if_pos (by rfl)]
  go_wp2_with fail
  refine (rmay_any r _).mono ?_
  rintro e w4 ⟨rfl, hb4⟩
  have B4 : Hid (Below w2.heap.size w2 w4) := hid (B3.out.trans (hb4.mono B3.out.size))
  clear hb4
  refine hK.out _ _ (SB.out _ B4.out) (fun hHeld => ?_)
  try clear hK K
  (try simp only [Act.put, List.setIfInBounds_toArray, List.set_cons_zero, List.set_cons_succ, List.getElem_toArray, List.getElem_cons_succ, List.getElem_cons_zero])
  refine wpAnyH_take (i := 4) (v := .bool true) rfl (by kernel_rfl) (by kernel_rfl) (by kernel_rfl) (fun _ _ _ h => h) (Or.inl ⟨by rfl, ?py4⟩) (by assumption) ?pr4
  case py4 => (intro w hSw; (try dsimp only at hSw); go_simp; try with_reducible rfl)
  (try simp only [Act.put, List.setIfInBounds_toArray, List.set_cons_zero, List.set_cons_succ, List.getElem_toArray, List.getElem_cons_succ, List.getElem_cons_zero])
  refine wpAnyH_take (i := 5) (v := ?pv5) rfl (by kernel_rfl) (by kernel_rfl) (by kernel_rfl) (fun _ _ _ h => h) (Or.inl ⟨by rfl, ?py5⟩) (by assumption) ?pr5
  case py5 => (intro w hSw; (try dsimp only at hSw); go_simp; try with_reducible rfl)
  (try simp only [Act.put, List.setIfInBounds_toArray, List.set_cons_zero, List.set_cons_succ, List.getElem_toArray, List.getElem_cons_succ, List.getElem_cons_zero])
  refine wpAnyH_take (i := 6) (v := ?pv6) rfl (by kernel_rfl) (by kernel_rfl) (by kernel_rfl) (fun _ _ _ h => h) (Or.inl ⟨by rfl, ?py6⟩) (by assumption) ?pr6
  case py6 => (intro w hSw; (try dsimp only at hSw); go_simp; try with_reducible rfl)
  (try simp only [Act.put, List.setIfInBounds_toArray, List.set_cons_zero, List.set_cons_succ, List.getElem_toArray, List.getElem_cons_succ, List.getElem_cons_zero])
  refine wpAnyH_take (i := 7) (v := ?pv7) rfl (by kernel_rfl) (by kernel_rfl) (by kernel_rfl) (fun _ _ _ h => h) (Or.inl ⟨by rfl, ?py7⟩) (by assumption) ?pr7
  case py7 => (intro w hSw; (try dsimp only at hSw); go_simp; try with_reducible rfl)
  (try simp only [Act.put, List.setIfInBounds_toArray, List.set_cons_zero, List.set_cons_succ, List.getElem_toArray, List.getElem_cons_succ, List.getElem_cons_zero])
  refine wpAnyH_take (i := 8) (v := ?pv8) rfl (by kernel_rfl) (by kernel_rfl) (by kernel_rfl) (fun _ _ _ h => h) (Or.inl ⟨by rfl, ?py8⟩) (by assumption) ?pr8
  case py8 => (intro w hSw; (try dsimp only at hSw); go_simp; try with_reducible rfl)
  (try simp only [Act.put, List.setIfInBounds_toArray, List.set_cons_zero, List.set_cons_succ, List.getElem_toArray, List.getElem_cons_succ, List.getElem_cons_zero])
  refine wpAnyH_take (i := 9) (v := ?pv9) rfl (by kernel_rfl) (by kernel_rfl) (by kernel_rfl) (fun _ _ _ h => h) (Or.inl ⟨by rfl, ?py9⟩) (by assumption) ?pr9
  case py9 => (intro w hSw; (try dsimp only at hSw); go_simp; try with_reducible rfl)
  (try simp only [Act.put, List.setIfInBounds_toArray, List.set_cons_zero, List.set_cons_succ, List.getElem_toArray, List.getElem_cons_succ, List.getElem_cons_zero])
  refine wpAnyH_take (i := 10) (v := .agg #[.int .i64 0, .int .i64 0, .int .i64 0, .int .i64 0, .int .i64 0, .int .i64 0]) rfl (by kernel_rfl) (by kernel_rfl) (by kernel_rfl) (fun _ _ _ h => h) (yieldsIf_load_mid rfl _ _ rfl P 0 rfl [.int .i64 0, .int .i64 0, .int .i64 0, .int .i64 0, .int .i64 0, .int .i64 0] dC (fun Y hY => hY.2) hdC1 hdC2 Try.sizeCh) (by assumption) ?_
  (try simp only [Act.put, List.setIfInBounds_toArray, List.set_cons_zero, List.set_cons_succ, List.getElem_toArray, List.getElem_cons_succ, List.getElem_cons_zero])
  refine wpAnyH_take (i := 11) (v := ?qv11) rfl (by kernel_rfl) (by kernel_rfl) (by kernel_rfl) (fun _ _ _ h => h) (Or.inl ⟨by rfl, ?qy11⟩) (by assumption) ?qr11
  case qy11 => (intro w hSw; (try dsimp only at hSw); go_simp; try with_reducible rfl)
  (try simp only [Act.put, List.setIfInBounds_toArray, List.set_cons_zero, List.set_cons_succ, List.getElem_toArray, List.getElem_cons_succ, List.getElem_cons_zero])
  refine wpAnyH_take (i := 12) (v := .bool true) rfl (by kernel_rfl) (by kernel_rfl) (by kernel_rfl) (fun _ _ _ h => h) (Or.inl ⟨by rfl, fun Y _ => exec_bin rfl rfl rfl (run_eqGuard_agg _ _ _ _ _ _ _ Try.eqgCh) (run_eqz_ch Y)⟩) (by assumption) ?_
  (try simp only [Act.put, List.setIfInBounds_toArray, List.set_cons_zero, List.set_cons_succ, List.getElem_toArray, List.getElem_cons_succ, List.getElem_cons_zero])
  refine wpAnyH_take (i := 13) (v := ?sv13) rfl (by kernel_rfl) (by kernel_rfl) (by kernel_rfl) (fun _ _ _ h => h) (Or.inl ⟨by rfl, ?sy13⟩) (by assumption) ?sr13
  case sy13 => (intro w hSw; (try dsimp only at hSw); go_simp; try with_reducible rfl)
  (try simp only [Act.put, List.setIfInBounds_toArray, List.set_cons_zero, List.set_cons_succ, List.getElem_toArray, List.getElem_cons_succ, List.getElem_cons_zero])
  refine wpAnyH_take (i := 14) (v := ?sv14) rfl (by kernel_rfl) (by kernel_rfl) (by kernel_rfl) (fun _ _ _ h => h) (Or.inl ⟨by rfl, ?sy14⟩) (by assumption) ?sr14
  case sy14 => (intro w hSw; (try dsimp only at hSw); go_simp; try with_reducible rfl)
  (try simp only [Act.put, List.setIfInBounds_toArray, List.set_cons_zero, List.set_cons_succ, List.getElem_toArray, List.getElem_cons_succ, List.getElem_cons_zero])
  refine wpAnyH_ready (rs := [15]) (by kernel_rfl) (by simp) ?_
  refine AllReadyH.cons rfl (fun K hK => ?_) AllReadyH.nil
  rw [if_pos (by rfl)]
  go_wp2_with fail
  refine (wlives_any _).mono ?_
  rintro e w5 ⟨rfl, hb5⟩
  have B5 : Hid (Below w2.heap.size w2 w5) := hid (B4.out.trans (hb5.mono B4.out.size))
  clear hb5
  refine hK.out _ _ (SB.out _ B5.out) (fun hHeld => ?_)
  try clear hK K
  (try simp only [Act.put, List.setIfInBounds_toArray, List.set_cons_zero, List.set_cons_succ, List.getElem_toArray, List.getElem_cons_succ, List.getElem_cons_zero])
  refine wpAnyH_take (i := 16) (v := ?sv16) rfl (by kernel_rfl) (by kernel_rfl) (by kernel_rfl) (fun _ _ _ h => h) (Or.inl ⟨by rfl, ?sy16⟩) (by assumption) ?sr16
  case sy16 => (intro w hSw; (try dsimp only at hSw); go_simp; try with_reducible rfl)
  (try simp only [Act.put, List.setIfInBounds_toArray, List.set_cons_zero, List.set_cons_succ, List.getElem_toArray, List.getElem_cons_succ, List.getElem_cons_zero])
  refine wpAnyH_take (i := 17) (v := ?sv17) rfl (by kernel_rfl) (by kernel_rfl) (by kernel_rfl) (fun _ _ _ h => h) (Or.inl ⟨by rfl, ?sy17⟩) (by assumption) ?sr17
  case sy17 => (intro w hSw; (try dsimp only at hSw); go_simp; try with_reducible rfl)
  (try simp only [Act.put, List.setIfInBounds_toArray, List.set_cons_zero, List.set_cons_succ, List.getElem_toArray, List.getElem_cons_succ, List.getElem_cons_zero])
  refine wpAnyH_done (by kernel_rfl) ?_ _
  go_wp2_with fail
  go_ret
  exact ⟨rfl, B2.out.trans (B5.out.mono B2.out.size)⟩
end Go.Proofs.Ytmgjjkcmgfpbdaa
namespace Go.Proofs.Ytmgjjkcmgfpbdaa
open Go.ChangeShapes Go.WideShapes Go.ChangeAt Go.RowKit Go.Deep
set_option maxRecDepth 100000

variable {H : Type} {enc : TypeId × Value → H} {w : World} {base : Nat} {spare : Nat → Bool} {held : Bool}

theorem Try.cellsI : Try.prog.cellsOf 3 = 1 := by kernel_rfl
theorem int_of {n : Nat} {v0 : Value} {y0 : DataW H × List MemPlace} (h0 : DataW.trod enc Try.prog w base spare held n 3 [v0] = some y0) : ∃ x : Int, v0 = .int .i64 x ∧ I64 x := by
  obtain ⟨a0, e0, rfl, w0⟩ := DataW.trod_int Try.underlying3 h0
  simp at e0
  subst e0
  have s0 : -9223372036854775808 ≤ a0 ∧ a0 ≤ 9223372036854775807 := by simpa [Lit.wf, IntKind.min, IntKind.max, IntKind.signed, IntKind.bits] using w0
  exact ⟨a0, rfl, s0⟩
/-- A slice of numbers that came in. -/
theorem nums_of {n : Nat} {v : Value} {y : DataW H × List MemPlace} (h : DataW.trod enc Try.prog w base spare held n 26 [v] = some y) : ∃ l, Nums w v l ∧ ∀ x ∈ l, I64 x := by
  rcases DataW.trod_slice Try.underlying26 h with ⟨hcs, _⟩ | ⟨a, len, cap, elems, rest, n', _, hcs, _, hb, hl, hm, hlen, hel, _, _⟩
  · simp at hcs
    subst hcs
    exact ⟨[], ⟨none, 0, 0, rfl, rfl, Nat.le_refl _, by omega, (fun _ => rfl), (fun ad h => by cases h)⟩, by simp⟩
  · simp at hcs
    subst hcs
    have each : ∀ i, i < len → ∃ q : Int, w.cell? (a.add i) = some (.int .i64 q) ∧ I64 q := by
      intro i hi
      have h1 := hel i hi
      rw [List.getElem?_eq_getElem (by omega), Try.cellsI] at h1
      obtain ⟨cs, h2, h3⟩ := Option.bind_eq_some_iff.1 h1
      obtain ⟨_, hcl, hcell⟩ := World.cells?_some h2
      match cs, hcl with
      | [v0], _ =>
        obtain ⟨x, rfl, hx⟩ := int_of h3
        have e0 := hcell 0 (by omega)
        rw [Addr.add_add] at e0
        exact ⟨x, by simpa using e0, hx⟩
    obtain ⟨q, hq⟩ := choose_lt each
    refine ⟨(List.range len).map q, ⟨some a, len, cap, rfl, by simp, hl, by unfold maxLen at hm; omega, (fun h => by cases h), fun ad had j hj => ?_⟩, ?_⟩
    · obtain rfl := Option.some.inj had
      have hj' : j < len := by simpa using hj
      simp only [List.getElem_map, List.getElem_range]
      exact (hq j hj').1
    · intro x hx
      simp only [List.mem_map, List.mem_range] at hx
      obtain ⟨i, hi, rfl⟩ := hx
      exact (hq i hi).2
end Go.Proofs.Ytmgjjkcmgfpbdaa
namespace Go.Proofs.Ytmgjjkcmgfpbdaa
open Go.ChangeShapes Go.WideShapes Go.ChangeAt Go.RowKit Go.Deep
set_option maxRecDepth 100000

variable {H : Type} {enc : TypeId × Value → H} {w : World} {base : Nat} {spare : Nat → Bool} {held : Bool}
theorem Try.cellsRu : Try.prog.cellsOf 24 = 5 := by kernel_rfl
def RuJ (r : RuD) : Prop := ∀ x ∈ ruL r, I64 x
theorem ru5_of {n : Nat} {v0 v1 v2 v3 v4 : Value} {y : DataW H × List MemPlace} (h : DataW.trod enc Try.prog w base spare held n 24 [v0, v1, v2, v3, v4] = some y) : ∃ c : RuD, v0 = .int .i64 c.hot ∧ v1 = .int .i64 c.cold ∧ v2 = .int .i64 c.long ∧ v3 = .int .i64 c.mute ∧ v4 = .int .i64 c.cap ∧ RuJ c := by
  obtain ⟨xs, k, hk, hxy, _, hxl, hf⟩ := DataW.trod_struct Try.underlying24 h
  match xs, hxl with
  | [y0, y1, y2, y3, y4], _ =>
    have g0 := hf 0 _ rfl
    have g1 := hf 1 _ rfl
    have g2 := hf 2 _ rfl
    have g3 := hf 3 _ rfl
    have g4 := hf 4 _ rfl
    simp [Try.cellsI] at g0 g1 g2 g3 g4
    obtain ⟨x0, rfl, i0⟩ := int_of g0
    obtain ⟨x1, rfl, i1⟩ := int_of g1
    obtain ⟨x2, rfl, i2⟩ := int_of g2
    obtain ⟨x3, rfl, i3⟩ := int_of g3
    obtain ⟨x4, rfl, i4⟩ := int_of g4
    refine ⟨⟨x0, x1, x2, x3, x4⟩, rfl, rfl, rfl, rfl, rfl, ?_⟩
    intro x hx
    simp only [ruL, List.mem_cons, List.not_mem_nil, or_false] at hx
    rcases hx with rfl | rfl | rfl | rfl | rfl <;> assumption
/-- Rules by value. -/
theorem ru_of {r : Reach} {b0 : Nat} {v : Value} {d : DataW H} {p : List MemPlace} (hv : Value.okWide Try.prog w r b0 24 v) (h : DataW.Trod enc Try.prog w base spare held 24 v d p) : ∃ c : RuD, v = ruV c ∧ RuJ c := by
  simp only [Value.okWide, Try.underlying24] at hv
  obtain ⟨cs, rfl, h2, -⟩ := hv
  rw [Try.cellsRu] at h2
  obtain ⟨l⟩ := cs
  obtain ⟨fuel, hf⟩ := h
  match l, h2 with
  | [c0, c1, c2, c3, c4], _ =>
    obtain ⟨c, rfl, rfl, rfl, rfl, rfl, hj⟩ := ru5_of hf
    exact ⟨c, rfl, hj⟩
end Go.Proofs.Ytmgjjkcmgfpbdaa
namespace Go.Proofs.Ytmgjjkcmgfpbdaa.wardenMays
open Go.ChangeShapes Go.WideShapes Go.ChangeAt Go.RowKit
set_option linter.unusedVariables false

theorem own : ownKnob Try.prog.godebug = none := by kernel_rfl
theorem laidOut : laidOutB Try.prog = true := by kernel_rfl

set_option maxRecDepth 100000 in
set_option maxHeartbeats 1600000 in
theorem lifted (os : Os) (started : os.Started) (H : Type) (enc : TypeId × Value → H) :
    ReturnsInHanded {} Try.checked os 4 .any (Rows.wardenMaysSpec.pre6 enc Try.prog Try.f4 Rows.wardenMaysRow.domain false) (Rows.wardenMaysSpec.post enc Try.prog Try.f4 false true false false) := by
  refine returnsInHanded_of_change (C := Try.checked) own started (by kernel_rfl) Try.func4
    (ChangeSpec.witness6 (enc := enc) (C := Try.checked) false ⟨#[], #[.agg #[.int .i64 0, .int .i64 0, .int .i64 0, .int .i64 0, .int .i64 0]], []⟩ 8 (by kernel_rfl) (by kernel_rfl) (by kernel_rfl) (by kernel_rfl)) ?_
  intro W base args ds gs before hval0 hW hcnd _
  have hval : ∀ (j : Nat) t v, Try.f4.params[j]? = some t → args[j]? = some v → Value.okWide Try.prog W .any base t v := hval0
  have hW' := hW
  obtain ⟨p, q, hA0, hV, rfl, hfz, hnd⟩ := hW
  have hA : DataW.TrodAll enc Try.prog W 0 (fun _ => true) true Try.f4.params.toList args.toList ds p := hA0
  rw [Try.params4] at hA hval
  obtain ⟨v0, vs0, d0, ds0, p0, q0, hargs, rfl, rfl, h0, r0⟩ := trodAll_cons hA
  obtain ⟨rfl, rfl, rfl⟩ := trodAll_nil r0
  obtain rfl : args = #[v0] := by cases args; simp_all
  obtain ⟨rfl, rfl⟩ := trodVars_none hV
  have k0 := h0
  have lt0 : ∀ x ∈ p0, x.block < W.heap.size := by obtain ⟨m, hm⟩ := k0; exact DataW.trod_lt m _ _ _ hm
  obtain ⟨x0, rfl, J0⟩ := ru_of (hval 0 24 v0 rfl rfl) h0
  clear hA0 hval0
  refine (wardenMays_any x0 W).mono fun e W' ⟨he, bel⟩ => ?_
  subst he
  have t0 := Below.trod laidOut (by kernel_rfl) (of_decide_eq_true (by kernel_rfl)) k0 bel lt0
  have T := trodAll_cons_mk t0 trodAll_mk0
  exact ⟨_, rfl, _, _, _, [], _, [], hW', trodAll_mk1 (shut_bool Try.underlying4 _), T, rfl, bel.frame _, fun h => by cases h⟩

theorem over : Rows.wardenMaysRow.holds Try.pinned (OpenSpec.ofChange Rows.wardenMaysSpec) :=
  OpenClaim.holds_of_wide 4 Try.f4 rfl rfl rfl rfl rfl rfl rfl ⟨rfl, rfl, rfl, rfl, rfl⟩ rfl rfl rfl rfl rfl (by kernel_rfl) Try.func4 (by kernel_rfl)
    (of_decide_eq_true (by kernel_rfl)) (by unfold Func.isWrapper; first | (rw [if_pos (by decide +kernel)]; kernel_rfl) | (rw [if_neg (by decide +kernel)]; exact ⟨rfl, rfl⟩))
    (fun os started H enc _ => lifted os started H enc)

theorem proved : Rows.WardenMaysSaid := over
end Go.Proofs.Ytmgjjkcmgfpbdaa.wardenMays
namespace Go.Proofs.Ytmgjjkcmgfpbdaa
/-- The statement. -/
theorem wardenMays_holds : Rows.WardenMaysSaid := wardenMays.proved
end Go.Proofs.Ytmgjjkcmgfpbdaa
