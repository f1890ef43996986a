/- The law InstsNext: the next Index of any Lead, in any table. Conditions: the instances lie in memory. -/
import Derived.Test.YtadjeefigjdkiaaInPlay
import Derived.Test.YtadjeefigjdkiaaInLives
namespace Go.Proofs.Ytadjeefigjdkiaa
open Go.RowKit Go.Maps Go.Shelf
set_option linter.unusedVariables false
set_option linter.unusedSimpArgs false

theorem ex_map {X L : List EnI} (h : X.map (fun y => y.x) = L.map (fun y => y.x)) (P : InD → Prop) : (∃ e ∈ X, P e.x) ↔ ∃ e ∈ L, P e.x := by
  have key : ∀ l : List EnI, (∃ e ∈ l, P e.x) ↔ ∃ x ∈ l.map (fun y => y.x), P x := fun l => by
    constructor
    · rintro ⟨e, he, hp⟩; exact ⟨e.x, List.mem_map.2 ⟨e, he, rfl⟩, hp⟩
    · rintro ⟨x, hx, hp⟩; obtain ⟨e, he, rfl⟩ := List.mem_map.1 hx; exact ⟨e, he, hp⟩
  rw [key, key, h]
theorem nxF_same {X L : List EnI} (h : X.map (fun y => y.x) = L.map (fun y => y.x)) (lead : Int) : nxF lead X = nxF lead L :=
  (nxF_top lead X).unique (nxF_top lead L) fun n => ex_map h (fun x => x.ref.1 = lead ∧ x.ref.2 = n)
set_option maxRecDepth 100000 in
set_option maxHeartbeats 8000000 in
theorem instsNext_any (v : Value) (l : List EnI) (lead : Int) (w : World) (hv : Ins w v l) (hj : ∀ e ∈ l, InJ e.x) :
    Calls Try.prog 6 #[v, .int .i64 lead] w fun e w' => e = .returned (.bool true) ∧ Below w.heap.size w w' := by
  have HPY := hid (play_any v l w hv hj)
  obtain ⟨xa, xc, rfl⟩ := hv.shape
  clear hv hj
  have HNS : Hid (∀ ss e, nxF lead (ss ++ [e]) = nxS lead (nxF lead ss) e) := hid (nxF_snoc lead)
  have HN0 : Hid (nxF lead [] = 0) := hid rfl
  have HSM : Hid (∀ X L : List EnI, X.map (fun y => y.x) = L.map (fun y => y.x) → nxF lead X = nxF lead L) := hid fun X L h => nxF_same h lead
  have HNX := hid (fun tb mb nn D L W h1 h2 => inextL_any tb mb nn D L lead W h1 h2)
  generalize nxF lead = F at *
  go_enter Try.func6, Try.ntmps6
  go_wp2_with fail
  refine HPY.out.mono ?_
  rintro e w1 ⟨tb, mb, nn, D, L, X, va, vc, rfl, hPL, hL60, hnn, hJX⟩
  have PL := hid hPL
  have HX1 := hid (ins_own hPL.row hPL.memX)
  have hXl := HX1.out.len
  have HFX := hid (HSM.out X L hPL.same)
  have B1 := hid hPL.bel
  clear hPL hJX HPY hL60
  go_wp2_with fail
  go_loopw [8, 10, 19] (fun nv _ iv wr => ∃ i : Nat, iv = .int .i64 i ∧ i ≤ X.length ∧ nv = .int .i64 (F (X.take i)) ∧ Below w1.heap.size w1 wr) (fun _ _ iv _ => X.length - (intOf iv).toNat)
  case atStart => exact ⟨0, rfl, Nat.zero_le _, by rw [List.take_zero, HN0.out], Below.refl _ _⟩
  case round =>
    obtain ⟨i, rfl, hi, rfl, hbr⟩ := hrel
    have BR := hid hbr
    clear hbr
    by_cases hlt : i < X.length
    · have hltI : (i : Int) < (X.length : Int) := by omega
      have HVr := hid (HX1.out.below BR.out)
      obtain ⟨gb, go', rfl⟩ := HVr.out.addr (by omega)
      have HRG := hid (HVr.out.range i hlt)
      have HTK := hid (show F (X.take (i + 1)) = nxS lead (F (X.take i)) X[i] by rw [List.take_succ_eq_append_getElem hlt, HNS.out])
      generalize X[i] = y at HRG HTK
      generalize F (X.take i) = f at HTK
      have hcy : y.c.size = 16 := rfl
      have hyo := y.one
      go_upto_region 6 with (first | (refine wpl_loadE rfl _ rfl gb (go' + i * 16) rfl y.c hcy HRG.out ?_) | (refine wpl_storeC rfl _ _ rfl wr.heap.size y.c rfl rfl hcy hyo _ zeroI (.slice none 0 0) (.slice none 0 0) (heap_alloc_new _ _) ?_))
      obtain ⟨w2, hw2⟩ : ∃ w2, w2 = (wr.alloc (.cells (instC zeroI (.slice none 0 0) (.slice none 0 0)) 31)).setRow wr.heap.size y.c := ⟨_, rfl⟩
      have b2 : Below wr.heap.size wr w2 := by rw [hw2]; exact below_row ((Below.refl _ _).alloc (Nat.le_refl _) _) (Nat.le_refl _) _
      have hY : w2.heap[wr.heap.size]? = some (.cells y.c 31 (0, 0)) := by rw [hw2]; exact setRow_heap _ _ _ _ _ _ (heap_alloc_new _ _)
      have HW2 := hid hw2
      clear hw2
      unfold instC zeroI at HW2
      simp only at HW2
      rw [← HW2.out]
      obtain ⟨Y, hYe⟩ : ∃ Y, Y = wr.heap.size := ⟨_, rfl⟩
      rw [← hYe] at hY
      rw [← hYe]
      clear hYe HW2
      have B2 := hid (BR.out.trans (b2.mono BR.out.size))
      have k0 : w2.cell? ⟨Y, 0, none⟩ = some (.int .i64 y.x.ref.1) := by rw [cell_of_row _ _ _ _ _ _ hY]; rfl
      have k1 : w2.cell? ⟨Y, 1, none⟩ = some (.int .i64 y.x.ref.2) := by rw [cell_of_row _ _ _ _ _ _ hY]; rfl
      clear b2 hY HRG HVr
      by_cases hle : y.x.ref.1 = lead
      · have HT2 : Hid (F (X.take (i + 1)) = max f y.x.ref.2) := hid (by rw [HTK.out]; unfold nxS; rw [if_pos hle])
        have hleb : (y.x.ref.1 == lead) = true := by simp [hle]
        clear hle
        go_wp2_with fail
        all_goals
          go_roundw
          case rel => exact ⟨i + 1, by go_num, by omega, by rw [HT2.out], B2.out⟩
          case measure => simp [intOf]; omega
      · have HT2 : Hid (F (X.take (i + 1)) = f) := hid (by rw [HTK.out]; unfold nxS; rw [if_neg hle])
        have hleb : (y.x.ref.1 == lead) = false := by simp [hle]
        clear hle
        go_wp2_with fail
        go_roundw
        case rel => exact ⟨i + 1, by go_num, by omega, by rw [HT2.out], B2.out⟩
        case measure => simp [intOf]; omega
    · obtain rfl : i = X.length := by omega
      rw [List.take_length]
      go_wp2_with fail
      refine (HNX.out tb mb nn D L wr (PL.out.below BR.out).tab PL.out.tl).mono ?_
      rintro e w3 ⟨rfl, hb3⟩
      rw [← HFX.out]
      have B3 := hid (BR.out.trans (hb3.mono BR.out.size))
      clear hb3
      generalize F X = f
      go_wp2_with fail
      refine (lives_any _).mono ?_
      rintro e w4 ⟨rfl, hb4⟩
      have B4 := hid (B3.out.trans (hb4.mono B3.out.size))
      clear hb4
      go_wp2_with fail
      go_ret
      exact ⟨rfl, B1.out.trans (B4.out.mono B1.out.size)⟩
end Go.Proofs.Ytadjeefigjdkiaa
