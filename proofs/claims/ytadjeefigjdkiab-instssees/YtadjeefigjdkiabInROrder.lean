/- What the document's Order answers. Conditions: the instances lie in memory. -/
import Derived.Test.YtadjeefigjdkiabInPlay
import Derived.Test.YtadjeefigjdkiabInLives
import Derived.Test.YtadjeefigjdkiabInRAdd
import Derived.Test.YtadjeefigjdkiabInRMeddle
namespace Go.Proofs.Ytadjeefigjdkiab
open Go.RowKit Go.Maps Go.Shelf
set_option linter.unusedVariables false
set_option linter.unusedSimpArgs false

theorem beq_swap (a b : Int) : (a == b) = (b == a) := by
  rw [Bool.eq_iff_iff]
  simp
  exact eq_comm
theorem meddle_swap (a b : CmdD) : meddleB a b = meddleB b a := by
  unfold meddleB
  rw [Bool.or_comm (a.op == 0), Bool.or_comm (a.op == 5), beq_swap a.client]
  congr 1
  congr 1
  congr 1
  unfold touchB
  rw [Int.min_comm, Int.max_comm, Bool.and_comm (leavesB a.op)]
theorem exMap {X L : List EnI} (h : X.map (fun y => y.x) = L.map (fun y => y.x)) (P : InD → Prop) : (∃ e ∈ X, P e.x) ↔ ∃ e ∈ L, P e.x := by
  have key : ∀ l : List EnI, (∃ e ∈ l, P e.x) ↔ ∃ x ∈ l.map (fun y => y.x), P x := fun l => by
    constructor
    · rintro ⟨e, he, hp⟩; exact ⟨e.x, List.mem_map.2 ⟨e, he, rfl⟩, hp⟩
    · rintro ⟨x, hx, hp⟩; obtain ⟨e, he, rfl⟩ := List.mem_map.1 hx; exact ⟨e, he, hp⟩
  rw [key, key, h]
theorem orF_mem (c : CmdD) (self : Int × Int) (l : List EnI) (r : Int × Int) : r ∈ (orF c self l).2 ↔ ∃ e ∈ l, hitB c self e.x = true ∧ e.x.ref = r := by
  rw [orF_refs]
  simp only [List.mem_map, List.mem_filter]
  constructor
  · rintro ⟨e, ⟨h1, h2⟩, h3⟩; exact ⟨e, h1, h2, h3⟩
  · rintro ⟨e, h1, h2, h3⟩; exact ⟨e, ⟨h1, h2⟩, h3⟩
theorem orF_same {X L : List EnI} (h : X.map (fun y => y.x) = L.map (fun y => y.x)) (c : CmdD) (self : Int × Int) : (orF c self X).1 = (orF c self L).1 ∧ ∀ r, r ∈ (orF c self X).2 ↔ r ∈ (orF c self L).2 :=
  ⟨(orF_top c self X).unique (orF_top c self L) fun n => exMap h (fun x => hitB c self x = true ∧ x.seq = n), fun r => by rw [orF_mem, orF_mem]; exact exMap h (fun x => hitB c self x = true ∧ x.ref = r)⟩
/-- What the document's Order leaves. -/
def OrdP (c : CmdD) (self : Int × Int) (X : List EnI) (w : World) (e : Ending) (w' : World) : Prop := ∃ m va vc, e = .returned (.tuple #[.int .i64 (wrap64 ((orF c self X).1 + 1)), .slice va m.length vc]) ∧ (∀ r, r ∈ m ↔ r ∈ (orF c self X).2) ∧ RiseR m ∧ Rfs w' (.slice va m.length vc) m ∧ Below w.heap.size w w'
set_option maxRecDepth 100000 in
set_option maxHeartbeats 8000000 in
theorem rorder_any (v : Value) (X : List EnI) (c : CmdD) (ua : Option Addr) (un uc : Nat) (self : Int × Int) (w : World) (hv : Ins w v X) (hX : X.length ≤ 500) :
    Calls Try.prog 7 #[v, cmdV c (.slice ua un uc), .agg #[.int .i64 self.1, .int .i64 self.2]] w (OrdP c self X w) := by
  have HV0 := hid hv
  obtain ⟨xa, xc, rfl⟩ := hv.shape
  clear hv
  have HM := hid (fun x va vn vc W => rmeddle_any c x ua va un uc vn vc W)
  have HF : Hid (∀ ss e, orF c self (ss ++ [e]) = orS c self (orF c self ss) e) := hid (orF_snoc c self)
  have HF0 : Hid (orF c self [] = (0, [])) := hid rfl
  have HS : Hid (∀ p e, orS c self p e = if hitB c self e.x = true then (max p.1 e.x.seq, p.2 ++ [e.x.ref]) else p) := hid fun p e => rfl
  have HH : Hid (∀ x, hitB c self x = (decide (1 ≤ x.st) && (!(x.ref == self)) && meddleB c x.cmd)) := hid fun x => by unfold hitB; rw [meddle_swap]
  have HP : Hid (∀ r w', OrdP c self X w r w' ↔ ∃ m va vc, r = .returned (.tuple #[.int .i64 (wrap64 ((orF c self X).1 + 1)), .slice va m.length vc]) ∧ (∀ r, r ∈ m ↔ r ∈ (orF c self X).2) ∧ RiseR m ∧ Rfs w' (.slice va m.length vc) m ∧ Below w.heap.size w w') := hid fun r w' => Iff.rfl
  generalize OrdP c self X w = PP at *
  generalize orF c self = F at *
  generalize hitB c self = H at *
  generalize orS c self = O at *
  obtain ⟨c0, c1, c2, c3, c4, cd⟩ := c
  obtain ⟨s0, s1⟩ := self
  unfold cmdV at HM ⊢
  simp only at HM HH ⊢
  obtain ⟨w1, hw1⟩ : ∃ w1, w1 = (w.alloc (.cells #[.int .i64 c0, .int .i64 c1, .int .i64 c2, .int .i64 c3, .int .i64 c4, .slice ua un uc] 25)).alloc (.cells #[.int .i64 s0, .int .i64 s1] 27) := ⟨_, rfl⟩
  have b1 : Below w.heap.size w w1 := by rw [hw1]; exact ((Below.refl _ _).alloc (Nat.le_refl _) _).alloc (by simp) _
  have hP : w1.heap[w.heap.size]? = some (.cells #[.int .i64 c0, .int .i64 c1, .int .i64 c2, .int .i64 c3, .int .i64 c4, .slice ua un uc] 25 (0, 0)) := by rw [hw1]; exact heap_alloc2_old _ _ _
  have hZ : w1.heap[w.heap.size + 1]? = some (.cells #[.int .i64 s0, .int .i64 s1] 27 (0, 0)) := by rw [hw1]; exact heap_alloc2_new _ _ _
  have HW1 := hid hw1
  have B1 := hid b1
  have HV := hid (HV0.out.below b1)
  clear hw1 b1 HV0
  go_enter Try.func7, Try.ntmps7
  go_upto_region 1 with fail
  rw [← HW1.out]
  obtain ⟨P, hPe⟩ : ∃ P, P = w.heap.size := ⟨_, rfl⟩
  obtain ⟨Z, hZe⟩ : ∃ Z, Z = w.heap.size + 1 := ⟨_, rfl⟩
  rw [← hPe] at hP
  rw [← hZe] at hZ
  rw [← hZe, ← hPe]
  clear hPe hZe HW1
  have HPb := hid hP
  have HZb := hid hZ
  clear hP hZ
  go_wp2_with fail
  go_loopw [8, 9, 11, 14] (fun sv dv _ iv wr => ∃ (i : Nat) (m : List (Int × Int)) (va : Option Addr) (vc : Nat), iv = .int .i64 i ∧ i ≤ X.length ∧ sv = .int .i64 (F (X.take i)).1 ∧ dv = .slice va m.length vc ∧ m.length ≤ i ∧ (∀ r, r ∈ m ↔ r ∈ (F (X.take i)).2) ∧ RiseR m ∧ Rfs wr (.slice va m.length vc) m ∧ Below w1.heap.size w1 wr) (fun _ _ _ iv _ => X.length - (intOf iv).toNat)
  case atStart => exact ⟨0, [], none, 0, rfl, Nat.zero_le _, by rw [List.take_zero, HF0.out], rfl, by simp, by rw [List.take_zero, HF0.out]; simp, List.Pairwise.nil, Rfs.nil _, Below.refl _ _⟩
  case round =>
    obtain ⟨i, m, va, vc, rfl, hi, rfl, rfl, hml, hmm, hmr, hmf, hbr⟩ := hrel
    have HMM := hid hmm
    have HMR := hid hmr
    have HMF := hid hmf
    have BR := hid hbr
    clear hmm hmr hmf hbr
    by_cases hlt : i < X.length
    · have hltI : (i : Int) < (X.length : Int) := by omega
      have HVr := hid (HV.out.below BR.out)
      obtain ⟨gb, go', rfl⟩ := HVr.out.addr (by omega)
      have HRG := hid (HVr.out.range i hlt)
      have HTK := hid (show F (X.take (i + 1)) = O (F (X.take i)) X[i] by rw [List.take_succ_eq_append_getElem hlt, HF.out])
      generalize X[i] = y at HRG HTK
      have hcy : y.c.size = 16 := rfl
      have hyo := y.one
      have HTS := hid (HTK.out.trans (HS.out (F (X.take i)) y))
      have HHX := hid (HH.out y.x)
      have HMX := hid (fun W => HM.out y.x.cmd y.ua y.un y.uc W)
      generalize F (X.take i) = f at *
      obtain ⟨f1, f2⟩ := f
      simp only at HTS HMM
      go_upto_region 6 with (first | (refine wpl_loadE rfl _ rfl gb (go' + i * 16) rfl y.c hcy HRG.out ?_) | (refine wpl_storeC rfl _ _ rfl wr.heap.size y.c rfl rfl hcy hyo _ zeroI (.slice none 0 0) (.slice none 0 0) (heap_alloc_new _ _) ?_))
      obtain ⟨w2, hw2⟩ : ∃ w2, w2 = (wr.alloc (.cells (instC zeroI (.slice none 0 0) (.slice none 0 0)) 44)).setRow wr.heap.size y.c := ⟨_, rfl⟩
      have b2 : Below wr.heap.size wr w2 := by rw [hw2]; exact below_row ((Below.refl _ _).alloc (Nat.le_refl _) _) (Nat.le_refl _) _
      have hY : w2.heap[wr.heap.size]? = some (.cells y.c 44 (0, 0)) := by rw [hw2]; exact setRow_heap _ _ _ _ _ _ (heap_alloc_new _ _)
      have HW2 := hid hw2
      clear hw2
      unfold instC zeroI at HW2
      simp only at HW2
      rw [← HW2.out]
      obtain ⟨Y, hYe⟩ : ∃ Y, Y = wr.heap.size := ⟨_, rfl⟩
      rw [← hYe] at hY
      rw [← hYe]
      clear hYe HW2
      have B2 := hid (BR.out.trans (b2.mono BR.out.size))
      have HMF2 := hid (HMF.out.below b2)
      have HY := hid hY
      clear b2 hY HRG HVr HMF
      have SC : Hid (∀ X, Below w2.heap.size w2 X → X.cell? ⟨Y, 0, none⟩ = some (.int .i64 y.x.ref.1) ∧ X.cell? ⟨Y, 1, none⟩ = some (.int .i64 y.x.ref.2) ∧ X.cell? ⟨Y, 14, none⟩ = some (.int .i64 y.x.seq)) := hid fun X hX => by
        have h1 := (hX.block Y (lt_of_block HY.out)).trans HY.out
        refine ⟨?_, ?_, ?_⟩ <;> (rw [cell_of_row _ _ _ _ _ _ h1]; rfl)
      have d6 : w2.cell? ⟨Y, 6, none⟩ = some (.int .i64 y.x.st) := by rw [cell_of_row _ _ _ _ _ _ HY.out]; rfl
      obtain ⟨d0, d1, d14⟩ := SC.out w2 (Below.refl _ _)
      have d8 : w2.cell? ⟨Y, 8, none⟩ = some (.int .i64 y.x.cmd.op) := by rw [cell_of_row _ _ _ _ _ _ HY.out]; rfl
      have d9 : w2.cell? ⟨Y, 9, none⟩ = some (.int .i64 y.x.cmd.client) := by rw [cell_of_row _ _ _ _ _ _ HY.out]; rfl
      have d10 : w2.cell? ⟨Y, 10, none⟩ = some (.int .i64 y.x.cmd.seq) := by rw [cell_of_row _ _ _ _ _ _ HY.out]; rfl
      have d11 : w2.cell? ⟨Y, 11, none⟩ = some (.int .i64 y.x.cmd.from') := by rw [cell_of_row _ _ _ _ _ _ HY.out]; rfl
      have d12 : w2.cell? ⟨Y, 12, none⟩ = some (.int .i64 y.x.cmd.to) := by rw [cell_of_row _ _ _ _ _ _ HY.out]; rfl
      have d13 : w2.cell? ⟨Y, 13, none⟩ = some (.slice y.ua y.un y.uc) := by rw [cell_of_row _ _ _ _ _ _ HY.out]; rfl
      have hp := (B2.out.block P (lt_of_block HPb.out)).trans HPb.out
      have hz := (B2.out.block Z (lt_of_block HZb.out)).trans HZb.out
      have f0 : w2.cell? ⟨P, 0, none⟩ = some (.int .i64 c0) := by rw [cell_of_row _ _ _ _ _ _ hp]; rfl
      have fA : w2.cell? ⟨P, 1, none⟩ = some (.int .i64 c1) := by rw [cell_of_row _ _ _ _ _ _ hp]; rfl
      have fB : w2.cell? ⟨P, 2, none⟩ = some (.int .i64 c2) := by rw [cell_of_row _ _ _ _ _ _ hp]; rfl
      have fC : w2.cell? ⟨P, 3, none⟩ = some (.int .i64 c3) := by rw [cell_of_row _ _ _ _ _ _ hp]; rfl
      have fD : w2.cell? ⟨P, 4, none⟩ = some (.int .i64 c4) := by rw [cell_of_row _ _ _ _ _ _ hp]; rfl
      have fE : w2.cell? ⟨P, 5, none⟩ = some (.slice ua un uc) := by rw [cell_of_row _ _ _ _ _ _ hp]; rfl
      have z0 : w2.cell? ⟨Z, 0, none⟩ = some (.int .i64 s0) := by rw [cell_of_row _ _ _ _ _ _ hz]; rfl
      have z1 : w2.cell? ⟨Z, 1, none⟩ = some (.int .i64 s1) := by rw [cell_of_row _ _ _ _ _ _ hz]; rfl
      clear hp hz
      generalize meddleB ⟨c0, c1, c2, c3, c4, cd⟩ y.x.cmd = md at *
      have hne : (y.x.ref == (s0, s1)) = ((y.x.ref.1 == s0) && (y.x.ref.2 == s1)) := rfl
      cases hst : decide (1 ≤ y.x.st)
      · have HF2 : Hid (F (X.take (i + 1)) = (f1, f2)) := hid (by rw [HTS.out, HHX.out, hst]; rfl)
        go_wp2_with fail
        go_roundw
        case rel => exact ⟨i + 1, m, va, vc, by go_num, by omega, by rw [HF2.out], rfl, by omega, by rw [HF2.out]; exact HMM.out, HMR.out, HMF2.out, B2.out⟩
        case measure => simp [intOf]; omega
      · cases h0 : (y.x.ref.1 == s0)
        · have HHM : Hid (H y.x = md) := hid (by rw [HHX.out, hst, hne, h0]; simp)
          cases md with
          | false =>
            have HF2 : Hid (F (X.take (i + 1)) = (f1, f2)) := hid (by rw [HTS.out, HHM.out]; rfl)
            go_wp2_with (go_at_call 15; refine (HMX.out _).mono ?_; rintro e w3 ⟨rfl, hb3⟩; have B3 := hid (B2.out.trans (hb3.mono B2.out.size)); have HMF3 := hid (HMF2.out.below hb3); clear hb3)
            go_roundw
            case rel => exact ⟨i + 1, m, va, vc, by go_num, by omega, by rw [HF2.out], rfl, by omega, by rw [HF2.out]; exact HMM.out, HMR.out, HMF3.out, B3.out⟩
            case measure => simp [intOf]; omega
          | true =>
            have HF2 : Hid (F (X.take (i + 1)) = (max f1 y.x.seq, f2 ++ [y.x.ref])) := hid (by rw [HTS.out, HHM.out]; rfl)
            go_upto_region 7 with (go_at_call 15; refine (HMX.out _).mono ?_; rintro e w3 ⟨rfl, hb3⟩)
            have B3 := hid (B2.out.trans (hb3.mono B2.out.size))
            have HB3 := hid hb3
            have HMF3 := hid (HMF2.out.below hb3)
            clear d0 d1 d14
            obtain ⟨d0, d1, d14⟩ := SC.out w3 hb3
            clear d6 d8 d9 d10 d11 d12 d13 f0 fA fB fC fD fE z0 z1 hb3
            go_wp2_with fail
            refine (radd_any (.slice va m.length vc) m y.x.ref w3 HMF3.out HMR.out (by omega)).mono ?_
            rintro e w4 ⟨m4, va4, vc4, rfl, hf4, hr4, hm4, hl4, hb4⟩
            have B4 := hid (B3.out.trans (hb4.mono B3.out.size))
            have HF4 := hid hf4
            have HR4 := hid hr4
            have HM4 : Hid (∀ r, r ∈ m4 ↔ r ∈ f2 ++ [y.x.ref]) := hid fun r => by rw [hm4 r, HMM.out r]; simp
            clear d0 d1 d14
            obtain ⟨d0, d1, d14⟩ := SC.out w4 (HB3.out.trans (hb4.mono HB3.out.size))
            clear hf4 hr4 hm4 hb4
            cases hq : decide (f1 < y.x.seq)
            · have HMX2 : Hid (max f1 y.x.seq = f1) := hid (by have := of_decide_eq_false hq; omega)
              go_wp2_with fail
              go_roundw
              case rel => exact ⟨i + 1, m4, va4, vc4, by go_num, by omega, by rw [HF2.out, HMX2.out], rfl, by omega, by rw [HF2.out]; exact HM4.out, HR4.out, HF4.out, B4.out⟩
              case measure => simp [intOf]; omega
            · have HMX2 : Hid (max f1 y.x.seq = y.x.seq) := hid (by have := of_decide_eq_true hq; omega)
              go_wp2_with fail
              go_roundw
              case rel => exact ⟨i + 1, m4, va4, vc4, by go_num, by omega, by rw [HF2.out, HMX2.out], rfl, by omega, by rw [HF2.out]; exact HM4.out, HR4.out, HF4.out, B4.out⟩
              case measure => simp [intOf]; omega
        · cases h1 : (y.x.ref.2 == s1)
          · have HHM : Hid (H y.x = md) := hid (by rw [HHX.out, hst, hne, h0, h1]; simp)
            cases md with
            | false =>
              have HF2 : Hid (F (X.take (i + 1)) = (f1, f2)) := hid (by rw [HTS.out, HHM.out]; rfl)
              go_wp2_with (go_at_call 15; refine (HMX.out _).mono ?_; rintro e w3 ⟨rfl, hb3⟩; have B3 := hid (B2.out.trans (hb3.mono B2.out.size)); have HMF3 := hid (HMF2.out.below hb3); clear hb3)
              go_roundw
              case rel => exact ⟨i + 1, m, va, vc, by go_num, by omega, by rw [HF2.out], rfl, by omega, by rw [HF2.out]; exact HMM.out, HMR.out, HMF3.out, B3.out⟩
              case measure => simp [intOf]; omega
            | true =>
              have HF2 : Hid (F (X.take (i + 1)) = (max f1 y.x.seq, f2 ++ [y.x.ref])) := hid (by rw [HTS.out, HHM.out]; rfl)
              go_upto_region 7 with (go_at_call 15; refine (HMX.out _).mono ?_; rintro e w3 ⟨rfl, hb3⟩)
              have B3 := hid (B2.out.trans (hb3.mono B2.out.size))
              have HB3 := hid hb3
              have HMF3 := hid (HMF2.out.below hb3)
              clear d0 d1 d14
              obtain ⟨d0, d1, d14⟩ := SC.out w3 hb3
              clear d6 d8 d9 d10 d11 d12 d13 f0 fA fB fC fD fE z0 z1 hb3
              go_wp2_with fail
              refine (radd_any (.slice va m.length vc) m y.x.ref w3 HMF3.out HMR.out (by omega)).mono ?_
              rintro e w4 ⟨m4, va4, vc4, rfl, hf4, hr4, hm4, hl4, hb4⟩
              have B4 := hid (B3.out.trans (hb4.mono B3.out.size))
              have HF4 := hid hf4
              have HR4 := hid hr4
              have HM4 : Hid (∀ r, r ∈ m4 ↔ r ∈ f2 ++ [y.x.ref]) := hid fun r => by rw [hm4 r, HMM.out r]; simp
              clear d0 d1 d14
              obtain ⟨d0, d1, d14⟩ := SC.out w4 (HB3.out.trans (hb4.mono HB3.out.size))
              clear hf4 hr4 hm4 hb4
              cases hq : decide (f1 < y.x.seq)
              · have HMX2 : Hid (max f1 y.x.seq = f1) := hid (by have := of_decide_eq_false hq; omega)
                go_wp2_with fail
                go_roundw
                case rel => exact ⟨i + 1, m4, va4, vc4, by go_num, by omega, by rw [HF2.out, HMX2.out], rfl, by omega, by rw [HF2.out]; exact HM4.out, HR4.out, HF4.out, B4.out⟩
                case measure => simp [intOf]; omega
              · have HMX2 : Hid (max f1 y.x.seq = y.x.seq) := hid (by have := of_decide_eq_true hq; omega)
                go_wp2_with fail
                go_roundw
                case rel => exact ⟨i + 1, m4, va4, vc4, by go_num, by omega, by rw [HF2.out, HMX2.out], rfl, by omega, by rw [HF2.out]; exact HM4.out, HR4.out, HF4.out, B4.out⟩
                case measure => simp [intOf]; omega
          · have HF2 : Hid (F (X.take (i + 1)) = (f1, f2)) := hid (by rw [HTS.out, HHX.out, hst, hne, h0, h1]; rfl)
            have e0 : y.x.ref.1 = s0 := by simpa using h0
            have e1 : y.x.ref.2 = s1 := by simpa using h1
            rw [e0] at d0
            rw [e1] at d1
            clear h0 h1 hne e0 e1
            go_wp2_with fail
            go_roundw
            case rel => exact ⟨i + 1, m, va, vc, by go_num, by omega, by rw [HF2.out], rfl, by omega, by rw [HF2.out]; exact HMM.out, HMR.out, HMF2.out, B2.out⟩
            case measure => simp [intOf]; omega
    · obtain rfl : i = X.length := by omega
      rw [List.take_length] at HMM ⊢
      go_wp2_with fail
      exact (HP.out _ _).2 ⟨m, va, vc, rfl, HMM.out, HMR.out, HMF.out, B1.out.trans (BR.out.mono B1.out.size)⟩
end Go.Proofs.Ytadjeefigjdkiab
