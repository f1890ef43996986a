/- The law InstsFull: a table takes just MaxList instances, and then still others of the same Refs. No condition but that the number is an int. -/
import Derived.Test.YtadjeefigjdkiaaInLives
import Derived.Test.YtadjeefigjdkiaaInPutL
namespace Go.Proofs.Ytadjeefigjdkiaa
open Go.RowKit Go.Maps Go.Shelf
set_option linter.unusedVariables false
set_option linter.unusedSimpArgs false

/-- An instance of which nothing is known but its Ref and its Status. -/
def bI (r : Int × Int) (st : Int) : InD := ⟨r, (0, 0), (0, 0), st, false, ⟨0, 0, 0, 0, 0, []⟩, 0, []⟩
theorem bI_ok {r : Int × Int} {st : Int} (hr : refB r = true) (hst : st = 0 ∨ st = 3) : instB (bI r st) = true := by
  have h2 : balB (0, 0) = true := by kernel_rfl
  have h4 : mayB ⟨0, 0, 0, 0, 0, []⟩ = true := by kernel_rfl
  have h5 : depsB [] = true := by kernel_rfl
  have h6 : decide (cmp2 (0, 0) (0, 0) < 0) = false := by kernel_rfl
  unfold instB bI
  simp only [hr, h2, h4, h5, h6]
  rcases hst with rfl | rfl
  · have h7 : bareB ⟨r, (0, 0), (0, 0), 0, false, ⟨0, 0, 0, 0, 0, []⟩, 0, []⟩ = true := by
      unfold bareB bareD instEqB cmdEqB
      simp [eqB_of]
    rw [h7]
    rfl
  · rfl
theorem refB_of {a b : Int} (h1 : 0 ≤ a) (h2 : a < 7) (h3 : 1 ≤ b) (h4 : b ≤ 1073741824) : refB (a, b) = true := by
  unfold refB nodeB
  simp [h1, h2, h3, h4]
theorem full_next {L : List EnI} {N : Nat} (h1 : ∀ e ∈ L, e.x.ref.1 = 0 → e.x.ref.2 ≤ N) (h2 : N = 0 ∨ ∃ e ∈ L, e.x.ref = (0, (N : Int))) : nxF 0 L = N := by
  refine (nxF_top 0 L).unique (Q := fun n => ∃ e ∈ L, e.x.ref.1 = 0 ∧ e.x.ref.2 = n) ⟨by omega, ?_, ?_⟩ (fun _ => Iff.rfl)
  · rintro n ⟨e, he, h3, rfl⟩
    exact h1 e he h3
  · rcases h2 with h2 | ⟨e, he, h3⟩
    · exact .inl (by omega)
    · exact .inr ⟨e, he, by rw [h3], by rw [h3]⟩
/-- The table behind i puts. -/
structure FI (i : Nat) (L : List EnI) : Prop where
  len : L.length = i
  low : ∀ e ∈ L, e.x.ref.1 = 0 ∧ 1 ≤ e.x.ref.2 ∧ e.x.ref.2 ≤ i
  all : ∀ j : Nat, 1 ≤ j → j ≤ i → ∃ e ∈ L, e.x.ref = (0, (j : Int))
theorem FI.step {i : Nat} {L : List EnI} (h : FI i L) {e : EnI} (he : e.x.ref = (0, (i : Int) + 1)) : FI (i + 1) (putL L e) := by
  have hn : L.any (fun y => y.x.ref == e.x.ref) = false := by
    rw [Bool.eq_false_iff]
    intro ha
    obtain ⟨y, hy, hye⟩ := List.any_eq_true.1 ha
    have h1 := h.low y hy
    rw [show y.x.ref = e.x.ref by simpa using hye, he] at h1
    simp at h1
    omega
  have hp : putL L e = L ++ [e] := by unfold putL; rw [hn]; rfl
  rw [hp]
  refine ⟨by simp [h.len], ?_, ?_⟩
  · intro y hy
    rcases List.mem_append.1 hy with hy | hy
    · have := h.low y hy; omega
    · obtain rfl := List.mem_singleton.1 hy
      rw [he]; simp; omega
  · intro j h1 h2
    rcases Nat.lt_or_ge i j with h3 | h3
    · exact ⟨e, by simp, by rw [he, show j = i + 1 by omega]; simp⟩
    · obtain ⟨y, hy, hye⟩ := h.all j h1 h3
      exact ⟨y, by simp [hy], hye⟩
theorem FI.no {i : Nat} {L : List EnI} (h : FI i L) {r : Int × Int} (hr : r.1 ≠ 0) : L.any (fun y => y.x.ref == r) = false := by
  rw [Bool.eq_false_iff]
  intro ha
  obtain ⟨y, hy, hye⟩ := List.any_eq_true.1 ha
  have h1 := (h.low y hy).1
  rw [show y.x.ref = r by simpa using hye] at h1
  exact hr h1
theorem putB_any (tb mb n : Nat) (D : DataW Value) (L : List EnI) (r : Int × Int) (st : Int) (w : World) (hT : Tb w tb mb n D) (hL : TL D L) (hn : n < 100000) (hr : RefI r) :
    Calls Try.prog 18 #[.pointer (some ⟨tb, 0, none⟩), instV (bI r st) (.slice none 0 0) (.slice none 0 0)] w fun e w' => e = .returned (.int .i64 (putN L (bI r st))) ∧ PutL w w' tb mb n D L (bI r st) :=
  iputL_any tb mb n D L (bI r st) (.slice none 0 0) (.slice none 0 0) w hT hL (by unfold maxLen; omega) ⟨Strs.nil _, Rfs.nil _⟩ ⟨Strs.nil _, Nat.zero_le _, by intro s hs; cases hs⟩ hr.1 hr.2 (Nat.zero_le _)
theorem refI_of {a b : Int} (h1 : 0 ≤ a) (h2 : a ≤ 7) (h3 : 0 ≤ b) (h4 : b ≤ 1073741824) : RefI (a, b) := ⟨⟨by show (-9223372036854775808 : Int) ≤ a; omega, by show a ≤ 9223372036854775807; omega⟩, ⟨by show (-9223372036854775808 : Int) ≤ b; omega, by show b ≤ 9223372036854775807; omega⟩⟩
theorem putN_big {L : List EnI} {x : InD} (h1 : instB x = true) (h2 : L.any (fun y => y.x.ref == x.ref) = false) (h3 : 4096 ≤ L.length) : putN L x = 2 := by
  unfold putN
  rw [if_pos h1, if_neg]
  intro h
  rcases h with h | h
  · rw [h2] at h; cases h
  · omega
theorem putN_new {L : List EnI} {x : InD} (h1 : instB x = true) (h3 : L.length < 4096) : putN L x = 0 := by
  unfold putN
  rw [if_pos h1, if_pos (.inr h3)]
theorem putN_old {L : List EnI} {x : InD} (h1 : instB x = true) (h2 : L.any (fun y => y.x.ref == x.ref) = true) : putN L x = 0 := by
  unfold putN
  rw [if_pos h1, if_pos (.inl h2)]
set_option maxRecDepth 100000 in
set_option maxHeartbeats 4000000 in
theorem instsFull_any (n : Int) (w : World) : Calls Try.prog 4 #[.int .i64 n] w fun e w' => e = .returned (.bool true) ∧ Below w.heap.size w w' := by
  obtain ⟨N, hN⟩ : ∃ N : Nat, (N : Int) = max 0 (min n 4096) := ⟨(max 0 (min n 4096)).toNat, by omega⟩
  have hN4 : N ≤ 4096 := by omega
  have HN := hid hN
  clear hN
  go_enter Try.func4, Try.ntmps4
  go_upto_region 2 with fail
  rw [← HN.out]
  go_wp2_with fail
  refine (inew_any w).mono ?_
  rintro e w1 ⟨rfl, hT, hb⟩
  obtain ⟨tb, htb⟩ : ∃ tb, tb = w.heap.size + 1 := ⟨_, rfl⟩
  obtain ⟨mb, hmb⟩ : ∃ mb, mb = w.heap.size := ⟨_, rfl⟩
  rw [← htb, ← hmb] at hT
  rw [← htb]
  have T1 := hid hT
  have B1 := hid hb
  have HMB := hid hmb
  clear hT hb htb hmb
  go_wp2_with fail
  go_loopw [4, 11] (fun _ iv wr => ∃ (i : Nat) (D : DataW Value) (L : List EnI), iv = .int .i64 i ∧ i ≤ N ∧ Tb wr tb mb i D ∧ TL D L ∧ FI i L ∧ Below w.heap.size w wr) (fun _ iv _ => N - (intOf iv).toNat)
  case atStart => exact ⟨0, _, [], rfl, Nat.zero_le _, T1.out, TL.nil, ⟨rfl, by simp, fun j h1 h2 => by omega⟩, B1.out⟩
  case round =>
    obtain ⟨i, D, L, rfl, hi, hT, hL, hF, hbr⟩ := hrel
    have HT := hid hT
    have HL := hid hL
    have HF := hid hF
    have BR := hid hbr
    clear hT hL hF hbr T1 B1
    by_cases hlt : (i : Int) < (N : Int)
    · have hw1 : IntKind.i64.wrap ((i : Int) + 1) = (i : Int) + 1 := IntWalk.i64_in _ ⟨by omega, by omega⟩
      have HO := hid (bI_ok (r := (0, (i : Int) + 1)) (st := 0) (refB_of (by omega) (by omega) (by omega) (by omega)) (.inl rfl))
      have HPN : Hid (putN L (bI (0, (i : Int) + 1) 0) = 0) := hid (by unfold putN; rw [HO.out, if_pos rfl, if_pos (.inr (by rw [HF.out.len]; omega))])
      go_wp2_with fail
      refine (putB_any tb mb i D L (0, (i : Int) + 1) 0 wr HT.out HL.out (by omega) (refI_of (by omega) (by omega) (by omega) (by omega))).mono ?_
      rintro e w2 ⟨rfl, hp⟩
      rw [HPN.out]
      rcases hp with ⟨h, -⟩ | ⟨-, e1, D1, he, -, -, hT1, hL1, -, -, hg1⟩
      · exact absurd HPN.out h
      have HE := hid he
      have HT1 := hid hT1
      have HL1 := hid hL1
      have HG1 := hid hg1
      clear he hT1 hL1 hg1
      go_wp2_with fail
      go_roundw
      case rel => exact ⟨i + 1, D1, _, by go_num, by omega, HT1.out, HL1.out, HF.out.step (by rw [HE.out]; rfl), BR.out.grown HG1.out BR.out.size (fun k e => by cases e; have := HMB.out; omega)⟩
      case measure => simp [intOf]; omega
    · obtain rfl : i = N := by omega
      have hwN : IntKind.i64.wrap ((i : Int) + 1) = (i : Int) + 1 := IntWalk.i64_in _ ⟨by omega, by omega⟩
      have HWN : Hid (wrap64 ((i : Int) + 1) = (i : Int) + 1) := hid (by unfold wrap64; omega)
      have HO := hid (bI_ok (r := (1, 1)) (st := 0) (refB_of (by omega) (by omega) (by omega) (by omega)) (.inl rfl))
      have HNO := hid (HF.out.no (r := (1, 1)) (by decide))
      clear hi
      by_cases h4 : i = 4096
      · have HPN : Hid (putN L (bI (1, 1) 0) = 2) := hid (putN_big HO.out HNO.out (by rw [HF.out.len]; omega))
        have e4 : ((i : Int) == 4096) = true := by simp; omega
        have e0 : ((i : Int) == 0) = false := by simp; omega
        have em : min ((i : Int) + 1) 4096 = (i : Int) := by omega
        have HO2 := hid (bI_ok (r := (0, (i : Int))) (st := 3) (refB_of (by omega) (by omega) (by omega) (by omega)) (.inr rfl))
        obtain ⟨y, hy, hyr⟩ := HF.out.all i (by omega) (Nat.le_refl _)
        have HYA : Hid (L.any (fun y => y.x.ref == (bI (0, (i : Int)) 3).ref) = true) := hid (List.any_eq_true.2 ⟨y, hy, by rw [hyr]; simp [bI]⟩)
        have HPN2 : Hid (putN L (bI (0, (i : Int)) 3) = 0) := hid (by unfold putN; rw [HO2.out, if_pos rfl, if_pos (.inl HYA.out)])
        have hI4 : i ≤ 4096 := by omega
        clear h4 hy hyr hlt
        go_wp2_with fail
        refine (putB_any tb mb i D L (1, 1) 0 wr HT.out HL.out (by omega) (refI_of (by omega) (by omega) (by omega) (by omega))).mono ?_
        rintro e w2 ⟨rfl, hp⟩
        rw [HPN.out]
        rcases hp with ⟨-, hb2⟩ | ⟨h, -⟩
        · have T2 := hid (HT.out.below hb2)
          have B2 := hid (BR.out.trans (hb2.mono BR.out.size))
          clear hb2
          go_wp2_with fail
          refine (putB_any tb mb i D L (0, (i : Int)) 3 w2 T2.out HL.out (by omega) (refI_of (by omega) (by omega) (by omega) (by omega))).mono ?_
          rintro e w3 ⟨rfl, hp⟩
          rw [HPN2.out]
          rcases hp with ⟨h, -⟩ | ⟨-, e3, D3, he, -, -, hT3, hL3, -, -, hg3⟩
          · exact absurd HPN2.out h
          have HL3 := hid hL3
          have HT3 := hid hT3
          have HE3 := hid he
          have B3 : Hid (Below w.heap.size w w3) := hid (B2.out.grown hg3 B2.out.size (fun k e => by cases e; have := HMB.out; omega))
          have HLN : Hid ((putL L e3).length = i) := hid (by rw [putL_len, he, HYA.out, if_pos rfl]; exact HF.out.len)
          have HNX : Hid (nxF 0 (putL L e3) = i) := hid (full_next (by
            intro y hy h0
            rcases mem_putL hy with rfl | ⟨hy, -⟩
            · rw [HE3.out]; exact Int.le_refl _
            · exact (HF.out.low y hy).2.2) (.inr ⟨e3, putL_new L e3, by rw [HE3.out]; rfl⟩))
          clear he hT3 hL3 hg3
          go_wp2_with fail
          refine (ilen_any tb mb _ _ _ _ HT3.out HL3.out).mono ?_
          rintro e w4 ⟨rfl, hw4⟩
          subst hw4
          rw [HLN.out]
          go_wp2_with fail
          refine (inextL_any tb mb _ _ _ 0 _ HT3.out HL3.out).mono ?_
          rintro e w5 ⟨rfl, hb5⟩
          rw [HNX.out, HWN.out]
          have B5 := hid (B3.out.trans (hb5.mono B3.out.size))
          clear hb5
          go_wp2_with fail
          refine (lives_any _).mono ?_
          rintro e w6 ⟨rfl, hb6⟩
          have B6 := hid (B5.out.trans (hb6.mono B5.out.size))
          clear hb6
          go_wp2_with fail
          go_ret
          exact ⟨rfl, B6.out⟩
        · exact absurd HPN.out (by rw [h]; decide)
      · have e4 : ((i : Int) == 4096) = false := by simp; omega
        have HPN : Hid (putN L (bI (1, 1) 0) = 0) := hid (putN_new HO.out (by rw [HF.out.len]; omega))
        have em : min ((i : Int) + 1) 4096 = (i : Int) + 1 := by omega
        have hI4 : i < 4096 := by omega
        clear h4 hlt
        go_upto_region 12 with fail
        go_wp2_with fail
        refine (putB_any tb mb i D L (1, 1) 0 wr HT.out HL.out (by omega) (refI_of (by omega) (by omega) (by omega) (by omega))).mono ?_
        rintro e w2 ⟨rfl, hp⟩
        rw [HPN.out]
        rcases hp with ⟨h, -⟩ | ⟨-, e2, D2, he, -, -, hT2, hL2, -, -, hg2⟩
        · exact absurd HPN.out h
        have HL2 := hid hL2
        have HT2 := hid hT2
        have HE2 := hid he
        have B2 : Hid (Below w.heap.size w w2) := hid (BR.out.grown hg2 BR.out.size (fun k e => by cases e; have := HMB.out; omega))
        have HLN2 : Hid ((putL L e2).length = i + 1) := hid (by rw [putL_len, he, show (bI (1, 1) 0).ref = (1, 1) from rfl, HNO.out]; simp [HF.out.len])
        clear he hT2 hL2 hg2
        by_cases h0 : i = 0
        · have e0 : ((i : Int) == 0) = true := by simp; omega
          have HL3 := HL2
          have HT3 := HT2
          have B3 := B2
          have HLN : Hid (((putL L e2).length : Int) = (i : Int) + 1) := hid (by rw [HLN2.out]; simp)
          have HNX : Hid (nxF 0 (putL L e2) = i) := hid (full_next (by
            intro y hy h1
            rcases mem_putL hy with rfl | ⟨hy, -⟩
            · rw [HE2.out] at h1; cases h1
            · exact (HF.out.low y hy).2.2) (.inl h0))
          clear h0 HLN2
          go_wp2_with fail
          refine (ilen_any tb mb _ _ _ _ HT3.out HL3.out).mono ?_
          rintro e w4 ⟨rfl, hw4⟩
          subst hw4
          rw [HLN.out]
          go_wp2_with fail
          refine (inextL_any tb mb _ _ _ 0 _ HT3.out HL3.out).mono ?_
          rintro e w5 ⟨rfl, hb5⟩
          rw [HNX.out, HWN.out]
          have B5 := hid (B3.out.trans (hb5.mono B3.out.size))
          clear hb5
          go_wp2_with fail
          refine (lives_any _).mono ?_
          rintro e w6 ⟨rfl, hb6⟩
          have B6 := hid (B5.out.trans (hb6.mono B5.out.size))
          clear hb6
          go_wp2_with fail
          go_ret
          exact ⟨rfl, B6.out⟩
        · have e0 : ((i : Int) == 0) = false := by simp; omega
          have HO2 := hid (bI_ok (r := (0, (i : Int))) (st := 3) (refB_of (by omega) (by omega) (by omega) (by omega)) (.inr rfl))
          obtain ⟨y, hy, hyr⟩ := HF.out.all i (by omega) (Nat.le_refl _)
          have HYA : Hid ((putL L e2).any (fun y => y.x.ref == (bI (0, (i : Int)) 3).ref) = true) := hid (List.any_eq_true.2 ⟨y, putL_old hy (by rw [hyr, HE2.out]; simp [bI]), by rw [hyr]; simp [bI]⟩)
          have HPN2 : Hid (putN (putL L e2) (bI (0, (i : Int)) 3) = 0) := hid (putN_old HO2.out HYA.out)
          clear hy hyr h0
          go_wp2_with fail
          refine (putB_any tb mb (i + 1) D2 (putL L e2) (0, (i : Int)) 3 w2 HT2.out HL2.out (by omega) (refI_of (by omega) (by omega) (by omega) (by omega))).mono ?_
          rintro e w3 ⟨rfl, hp⟩
          rw [HPN2.out]
          rcases hp with ⟨h, -⟩ | ⟨-, e3, D3, he, -, -, hT3, hL3, -, -, hg3⟩
          · exact absurd HPN2.out h
          have HL3 := hid hL3
          have HT3 := hid hT3
          have HE3 := hid he
          have B3 : Hid (Below w.heap.size w w3) := hid (B2.out.grown hg3 B2.out.size (fun k e => by cases e; have := HMB.out; omega))
          have HLN : Hid (((putL (putL L e2) e3).length : Int) = (i : Int) + 1) := hid (by rw [putL_len, he, HYA.out, if_pos rfl, HLN2.out]; simp)
          have HNX : Hid (nxF 0 (putL (putL L e2) e3) = i) := hid (full_next (by
            intro y hy h1
            rcases mem_putL hy with rfl | ⟨hy, -⟩
            · rw [HE3.out]; exact Int.le_refl _
            · rcases mem_putL hy with rfl | ⟨hy, -⟩
              · rw [HE2.out] at h1; cases h1
              · exact (HF.out.low y hy).2.2) (.inr ⟨e3, putL_new _ e3, by rw [HE3.out]; rfl⟩))
          clear he hT3 hL3 hg3 HLN2
          go_wp2_with fail
          refine (ilen_any tb mb _ _ _ _ HT3.out HL3.out).mono ?_
          rintro e w4 ⟨rfl, hw4⟩
          subst hw4
          rw [HLN.out]
          go_wp2_with fail
          refine (inextL_any tb mb _ _ _ 0 _ HT3.out HL3.out).mono ?_
          rintro e w5 ⟨rfl, hb5⟩
          rw [HNX.out, HWN.out]
          have B5 := hid (B3.out.trans (hb5.mono B3.out.size))
          clear hb5
          go_wp2_with fail
          refine (lives_any _).mono ?_
          rintro e w6 ⟨rfl, hb6⟩
          have B6 := hid (B5.out.trans (hb6.mono B5.out.size))
          clear hb6
          go_wp2_with fail
          go_ret
          exact ⟨rfl, B6.out⟩
end Go.Proofs.Ytadjeefigjdkiaa
