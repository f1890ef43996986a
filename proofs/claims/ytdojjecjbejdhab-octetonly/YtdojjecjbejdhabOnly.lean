/- OctetOnly answers true for any bytes; nothing that was there has turned. -/
import Derived.Test.YtdojjecjbejdhabNumIso
import Derived.Test.YtdojjecjbejdhabRCalls
import Derived.Deep.RegionWith
import Derived.Deep.DrawnRows
import Derived.Deep.DeepCutAuto
namespace Go.Proofs.Ytdojjecjbejdhab
open Go.RowKit
attribute [local go_sem ↓] Go.wp_at_zero Go.wp_at_succ

theorem numB_ge (n : Nat) : 1 ≤ (numB n).length := by rw [numB_eq]; simp
theorem intB_ge (n : Int) : 1 ≤ (intB n).length := by unfold intB; split <;> simp
theorem textB_ge (s : ByteArray) : 1 ≤ (textB s).length := by unfold textB; have := numB_ge s.size; rw [List.length_append]; omega
theorem int_only (l r : List UInt8) (h : intS (some l) = some r) : l = intB (intV (some l)) ++ r ∧ -9223372036854775808 ≤ intV (some l) ∧ intV (some l) < 9223372036854775808 := by
  cases l with
  | nil => cases h
  | cons c t =>
    have hS : intS (some (c :: t)) = if 1 < c.toNat ∨ 9223372036854775807 < (numR (some t)).1 then none else (numR (some t)).2 := rfl
    have hV : intV (some (c :: t)) = if badB (intS (some (c :: t))) then 0 else if c.toNat = 1 then -1 - ((numR (some t)).1 : Int) else ((numR (some t)).1 : Int) := rfl
    rw [hV, h, if_neg (by simp [badB])]
    rw [h] at hS
    by_cases hb : 1 < c.toNat ∨ 9223372036854775807 < (numR (some t)).1
    · rw [if_pos hb] at hS; cases hS
    · rw [if_neg hb] at hS
      have h2 : numR (some t) = ((numR (some t)).1, some r) := by rw [hS]
      obtain ⟨h3, h4⟩ := numR_only t _ r h2
      generalize (numR (some t)).1 = n at *
      by_cases hc : c.toNat = 1
      · rw [if_pos hc]
        have e : intB (-1 - (n : Int)) = 1 :: numB n := by unfold intB; rw [if_neg (by omega), show (-1 - (-1 - (n : Int))).toNat = n from by omega]
        have ec : c = 1 := UInt8.toNat_inj.1 hc
        rw [e, ec, h3]
        exact ⟨rfl, by omega, by omega⟩
      · rw [if_neg hc]
        have e : intB (n : Int) = 0 :: numB n := by unfold intB; rw [if_pos (by omega), Int.toNat_natCast]
        have ec : c = 0 := UInt8.toNat_inj.1 (show c.toNat = 0 by omega)
        rw [e, ec, h3]
        exact ⟨rfl, by omega, by omega⟩
theorem text_only (l r : List UInt8) (h : textS (some l) = some r) : l = textB ⟨(textV (some l)).toArray⟩ ++ r ∧ (textV (some l)).length ≤ 1048576 := by
  unfold textS at h
  split at h
  · cases h
  · rename_i r' h'
    have hr := Option.some.inj h
    have h2 : ¬ (1048576 < (numR (some l)).1 ∨ leftN (numR (some l)).2 < (numR (some l)).1) ∧ lenR 1048576 (some l) = numR (some l) := by
      unfold lenR at h' ⊢
      split at h'
      · cases h'
      · rename_i hn
        exact ⟨hn, if_neg hn⟩
    obtain ⟨hn, he⟩ := h2
    have hV : textV (some l) = r'.take (lenR 1048576 (some l)).1 := by unfold textV; rw [h']
    rw [hV]
    rw [he] at h' hr ⊢
    have h3 : numR (some l) = ((numR (some l)).1, some r') := by rw [← h']
    obtain ⟨h4, -⟩ := numR_only l _ r' h3
    rw [h'] at hn
    simp only [leftN] at hn
    generalize (numR (some l)).1 = n at *
    have hl : (r'.take n).length = n := by simp; omega
    have e : textB ⟨(r'.take n).toArray⟩ = numB n ++ r'.take n := by unfold textB; simp only [ByteArray.size]; simp [hl]
    refine ⟨?_, by omega⟩
    rw [e, List.append_assoc, ← hr, List.take_append_drop, ← h4]

set_option maxRecDepth 100000 in
set_option maxHeartbeats 6400000 in
theorem only_law (v : Value) (l0 : List UInt8) (w : World) (hv : Bts w v l0) :
    Calls Try.prog 7 #[v] w fun e w' => e = .returned (.bool true) ∧ Below w.heap.size w w' := by
  have HV0 := hid hv
  obtain ⟨a0, c0, rfl⟩ := hv.shape
  clear hv
  go_enter Try.func7, Try.ntmps7
  go_wp2_with fail
  refine (cut_any _ _ _ HV0.out).mono ?_
  rintro e w1 ⟨va, na, ca, rfl, hA, rfl⟩
  have hll : (l0.take 3000).length ≤ 3000 := List.length_take_le _ _
  clear HV0
  generalize l0.take 3000 = l at *
  obtain rfl : na = l.length := by obtain ⟨_, _, _, e, h, -⟩ := hA; cases e; exact h
  have hcap : l.length ≤ ca := by obtain ⟨_, _, _, e, h, h2, -⟩ := hA; cases e; exact h2
  have hcapI : (l.length : Int) ≤ (ca : Int) := by omega
  have HV := hid hA
  clear hA
  go_wp2_with fail
  refine (newReader_any _ _ _ HV.out (by omega)).mono ?_
  rintro e w3 ⟨b1, rfl, hb1, hr3, hb3⟩
  have HR3 := hid hr3
  have HB3 := hid hb3
  have hs3 := HB3.out.size
  clear hr3 hb3
  go_wp2_with fail
  refine (rnum_any _ _ _ HR3.out).mono ?_
  rintro e w4 ⟨rfl, hr4, hg4⟩
  have HR4 := hid hr4
  have HB4 := hid (grown_below HB3.out hg4 hs3 hb1)
  have hs4 := HB4.out.size
  have hbl := hr4.lt
  clear hr4 hg4 HR3 HB3 hs3
  have hnl := numR_lt (some l)
  have HON := hid (numR_only l)
  obtain ⟨n, hn⟩ : ∃ n : Nat, n = (numR (some l)).1 := ⟨_, rfl⟩
  obtain ⟨s, hs⟩ : ∃ s, s = (numR (some l)).2 := ⟨_, rfl⟩
  rw [← hn] at hnl ⊢
  rw [← hs] at HR4
  have HNS : Hid (numR (some l) = (n, s)) := hid (by rw [hn, hs])
  have hn2 : (n : Int) ≤ 18446744073709551615 := by omega
  have hn0 : (0 : Int) ≤ (n : Int) := by omega
  clear hn hs hnl
  go_wp2_with fail
  refine (bad_any _ _ _ HR4.out).mono ?_
  rintro e w5 ⟨rfl, rfl⟩
  go_upto_if 18 with fail
  go_cut [5] (fun _ wc => Below w1.heap.size w1 wc)
  case first =>
    cases s with
    | none =>
      simp only [badB]
      go_wp2_with fail
      go_meet
      case rel => exact HB4.out
    | some r =>
      simp only [badB]
      have hB : l = numB n ++ r := (HON.out n r HNS.out).1
      obtain ⟨B, hBe⟩ : ∃ B, B = numB n := ⟨_, rfl⟩
      have hB1 : 1 ≤ B.length := by rw [hBe]; exact numB_ge n
      have hk0 : B.length = l.length - r.length ∧ r.length ≤ l.length ∧ l.take B.length = B := by
        rw [hBe]
        have hll' : l.length = (numB n).length + r.length := by rw [hB, List.length_append]
        refine ⟨by omega, by omega, ?_⟩
        rw [hB, List.take_left]
      obtain ⟨hk1, hk2, hk3⟩ := hk0
      have hkI : (l.length : Int) - (r.length : Int) = (B.length : Int) := by omega
      have hBl : B.length ≤ 3000 := by omega
      have hBI : (B.length : Int) ≤ (ca : Int) := by omega
      have hB0 : (0 : Int) ≤ (B.length : Int) := by omega
      have hca0 : ¬ ca = 0 := by omega
      have hao : ∃ ad, va = some ad := by
        obtain ⟨_, _, _, e, g1, g2, g3, g4, -⟩ := HV.out
        cases e
        cases va with
        | none => exact absurd (g4 rfl) (by omega)
        | some ad => exact ⟨ad, rfl⟩
      obtain ⟨ad, rfl⟩ := hao
      have hkW : IntKind.i64.wrap (B.length : Int) = (B.length : Int) := IntWalk.i64_in _ ⟨by omega, by omega⟩
      have HX0 : Hid (Bts w1 (.slice (some ad) B.length ca) B) := hid (by have := HV.out.take (n := B.length) (by omega); rwa [hk3] at this)
      clear hB hk1 hk2 hk3
      have HW5 := hid (Wr.new w5)
      have hba : Below w5.heap.size w5 (w5.alloc (.cells #[.slice none 0 0] 48)) := (Below.refl _ _).alloc (Nat.le_refl _) _
      go_wp2_with fail
      refine (num_any _ _ (n : Int) _ hn0 (by omega) HW5.out (by simp)).mono ?_
      rintro e w6 ⟨rfl, hw6, hb6⟩
      rw [List.nil_append, Int.toNat_natCast, ← hBe] at hw6
      clear hBe
      have HW6 : Hid (Wr w6.drew w5.heap.size B) := hid hw6
      have HR6 : Hid (Rd w6.drew b1 (some r)) := hid (HR4.out.kept (hba.trans hb6).drew)
      have HB6 : Hid (Below w1.heap.size w1 w6.drew) := hid (HB4.out.trans ((hba.trans hb6).mono hs4)).drew
      have hs6 : w1.heap.size ≤ w6.drew.heap.size := HB6.out.size
      have hcx := conv_string _ _ _ (HX0.out.below HB6.out)
      clear hw6 hb6 hba HW5 HR4 HB4
      go_wp2_with fail
      go_region_with (first
        | (go_at_call 20; refine (bytes_any _ B _ HW6.out (by omega)).mono ?_; rintro e w7 ⟨va7, vc7, rfl, ho7, hb7⟩; have hcs7 := conv_string _ _ _ ho7.bts; have HB7 := hid (HB6.out.trans (hb7.mono hs6)); have hcx7 := conv_string _ _ _ (HX0.out.below HB7.out); have HR7 := hid (HR6.out.kept hb7); clear ho7 hb7)
        | (go_at_call 21; refine (left_any _ _ _ HR7.out).mono ?_; rintro e w8 ⟨rfl, rfl⟩; simp only [leftN]))
      all_goals
        go_wp2_with fail
        go_meet
        case rel => exact HB7.out
  case rest =>
    clear HON HNS
    have hbc := hcut
    have hsc := hbc.size
    clear HR4 HB4 hs4 hb1 hbl
    go_wp2_with fail
    refine (newReader_any _ _ _ (HV.out.below hbc) (by omega)).mono ?_
    rintro e w3 ⟨b1, rfl, hb1', hr3, hb3⟩
    have hb1 : w1.heap.size ≤ b1 := Nat.le_trans hsc hb1'
    have HR3 := hid hr3
    have HB3 := hid (hbc.trans (hb3.mono hsc))
    have hs3 := HB3.out.size
    clear hr3 hb3 hb1' hbc hsc hcut
    go_wp2_with fail
    refine (rint_any _ _ _ HR3.out).mono ?_
    rintro e w4 ⟨rfl, hr4, hg4⟩
    have HR4 := hid hr4
    have HB4 := hid (grown_below HB3.out hg4 hs3 hb1)
    have hs4 := HB4.out.size
    have hbl := hr4.lt
    clear hr4 hg4 HR3 HB3 hs3
    have HON2 := hid (int_only l)
    obtain ⟨y, hy⟩ : ∃ y, y = intV (some l) := ⟨_, rfl⟩
    obtain ⟨s2, hs2⟩ : ∃ s2, s2 = intS (some l) := ⟨_, rfl⟩
    rw [← hy] at HON2 ⊢
    rw [← hs2] at HR4 HON2
    clear hy hs2
    go_wp2_with fail
    refine (bad_any _ _ _ HR4.out).mono ?_
    rintro e w5 ⟨rfl, rfl⟩
    go_upto_if 38 with fail
    go_cut [7] (fun _ wc => Below w1.heap.size w1 wc)
    case first =>
      cases s2 with
      | none =>
        simp only [badB]
        go_wp2_with fail
        go_meet
        case rel => exact HB4.out
      | some r =>
        simp only [badB]
        have hB : l = intB y ++ r := (HON2.out r rfl).1
        obtain ⟨B, hBe⟩ : ∃ B, B = intB y := ⟨_, rfl⟩
        have hB1 : 1 ≤ B.length := by rw [hBe]; exact intB_ge y
        have hk0 : B.length = l.length - r.length ∧ r.length ≤ l.length ∧ l.take B.length = B := by
          rw [hBe]
          have hll' : l.length = (intB y).length + r.length := by rw [hB, List.length_append]
          refine ⟨by omega, by omega, ?_⟩
          rw [hB, List.take_left]
        obtain ⟨hk1, hk2, hk3⟩ := hk0
        have hkI : (l.length : Int) - (r.length : Int) = (B.length : Int) := by omega
        have hBl : B.length ≤ 3000 := by omega
        have hBI : (B.length : Int) ≤ (ca : Int) := by omega
        have hB0 : (0 : Int) ≤ (B.length : Int) := by omega
        have hca0 : ¬ ca = 0 := by omega
        have hao : ∃ ad, va = some ad := by
          obtain ⟨_, _, _, e, g1, g2, g3, g4, -⟩ := HV.out
          cases e
          cases va with
          | none => exact absurd (g4 rfl) (by omega)
          | some ad => exact ⟨ad, rfl⟩
        obtain ⟨ad, rfl⟩ := hao
        have hkW : IntKind.i64.wrap (B.length : Int) = (B.length : Int) := IntWalk.i64_in _ ⟨by omega, by omega⟩
        have HX0 : Hid (Bts w1 (.slice (some ad) B.length ca) B) := hid (by have := HV.out.take (n := B.length) (by omega); rwa [hk3] at this)
        clear hB hk1 hk2 hk3
        have HW5 := hid (Wr.new w5)
        have hba : Below w5.heap.size w5 (w5.alloc (.cells #[.slice none 0 0] 48)) := (Below.refl _ _).alloc (Nat.le_refl _) _
        go_wp2_with fail
        refine (int_any _ _ y _ (HON2.out r rfl).2.1 (HON2.out r rfl).2.2 HW5.out (by simp)).mono ?_
        rintro e w6 ⟨rfl, hw6, hb6⟩
        rw [List.nil_append, ← hBe] at hw6
        clear hBe
        have HW6 : Hid (Wr w6.drew w5.heap.size B) := hid hw6
        have HR6 : Hid (Rd w6.drew b1 (some r)) := hid (HR4.out.kept (hba.trans hb6).drew)
        have HB6 : Hid (Below w1.heap.size w1 w6.drew) := hid (HB4.out.trans ((hba.trans hb6).mono hs4)).drew
        have hs6 : w1.heap.size ≤ w6.drew.heap.size := HB6.out.size
        have hcx := conv_string _ _ _ (HX0.out.below HB6.out)
        clear hw6 hb6 hba HW5 HR4 HB4
        go_wp2_with fail
        go_region_with (first
          | (go_at_call 20; refine (bytes_any _ B _ HW6.out (by omega)).mono ?_; rintro e w7 ⟨va7, vc7, rfl, ho7, hb7⟩; have hcs7 := conv_string _ _ _ ho7.bts; have HB7 := hid (HB6.out.trans (hb7.mono hs6)); have hcx7 := conv_string _ _ _ (HX0.out.below HB7.out); have HR7 := hid (HR6.out.kept hb7); clear ho7 hb7)
          | (go_at_call 21; refine (left_any _ _ _ HR7.out).mono ?_; rintro e w8 ⟨rfl, rfl⟩; simp only [leftN]))
        all_goals
          go_wp2_with fail
          go_meet
          case rel => exact HB7.out
    case rest =>
      clear HON2
      have hbc := hcut
      have hsc := hbc.size
      clear HR4 HB4 hs4 hb1 hbl
      go_wp2_with fail
      refine (newReader_any _ _ _ (HV.out.below hbc) (by omega)).mono ?_
      rintro e w3 ⟨b1, rfl, hb1', hr3, hb3⟩
      have hb1 : w1.heap.size ≤ b1 := Nat.le_trans hsc hb1'
      have HR3 := hid hr3
      have HB3 := hid (hbc.trans (hb3.mono hsc))
      have hs3 := HB3.out.size
      clear hr3 hb3 hb1' hbc hsc hcut
      go_wp2_with fail
      refine (rtext_any _ _ _ HR3.out).mono ?_
      rintro e w4 ⟨rfl, hr4, hg4⟩
      have HR4 := hid hr4
      have HB4 := hid (grown_below HB3.out hg4 hs3 hb1)
      have hs4 := HB4.out.size
      have hbl := hr4.lt
      clear hr4 hg4 HR3 HB3 hs3
      have HON2 := hid (text_only l)
      obtain ⟨y, hy⟩ : ∃ y, y = textV (some l) := ⟨_, rfl⟩
      obtain ⟨s2, hs2⟩ : ∃ s2, s2 = textS (some l) := ⟨_, rfl⟩
      rw [← hy] at HON2 ⊢
      rw [← hs2] at HR4 HON2
      clear hy hs2
      go_wp2_with fail
      refine (bad_any _ _ _ HR4.out).mono ?_
      rintro e w5 ⟨rfl, rfl⟩
      go_upto_if 58 with fail
      go_cut [9] (fun _ wc => Below w1.heap.size w1 wc)
      case first =>
        cases s2 with
        | none =>
          simp only [badB]
          go_wp2_with fail
          go_meet
          case rel => exact HB4.out
        | some r =>
          simp only [badB]
          have hB : l = textB ⟨y.toArray⟩ ++ r := (HON2.out r rfl).1
          obtain ⟨B, hBe⟩ : ∃ B, B = textB ⟨y.toArray⟩ := ⟨_, rfl⟩
          have hB1 : 1 ≤ B.length := by rw [hBe]; exact textB_ge ⟨y.toArray⟩
          have hk0 : B.length = l.length - r.length ∧ r.length ≤ l.length ∧ l.take B.length = B := by
            rw [hBe]
            have hll' : l.length = (textB ⟨y.toArray⟩).length + r.length := by rw [hB, List.length_append]
            refine ⟨by omega, by omega, ?_⟩
            rw [hB, List.take_left]
          obtain ⟨hk1, hk2, hk3⟩ := hk0
          have hkI : (l.length : Int) - (r.length : Int) = (B.length : Int) := by omega
          have hBl : B.length ≤ 3000 := by omega
          have hBI : (B.length : Int) ≤ (ca : Int) := by omega
          have hB0 : (0 : Int) ≤ (B.length : Int) := by omega
          have hca0 : ¬ ca = 0 := by omega
          have hao : ∃ ad, va = some ad := by
            obtain ⟨_, _, _, e, g1, g2, g3, g4, -⟩ := HV.out
            cases e
            cases va with
            | none => exact absurd (g4 rfl) (by omega)
            | some ad => exact ⟨ad, rfl⟩
          obtain ⟨ad, rfl⟩ := hao
          have hkW : IntKind.i64.wrap (B.length : Int) = (B.length : Int) := IntWalk.i64_in _ ⟨by omega, by omega⟩
          have HX0 : Hid (Bts w1 (.slice (some ad) B.length ca) B) := hid (by have := HV.out.take (n := B.length) (by omega); rwa [hk3] at this)
          clear hB hk1 hk2 hk3
          have HW5 := hid (Wr.new w5)
          have hba : Below w5.heap.size w5 (w5.alloc (.cells #[.slice none 0 0] 48)) := (Below.refl _ _).alloc (Nat.le_refl _) _
          go_wp2_with fail
          refine (text_any _ _ ⟨y.toArray⟩ _ HW5.out (by have := (HON2.out r rfl).2; simp [ByteArray.size]; omega)).mono ?_
          rintro e w6 ⟨rfl, hw6, hb6⟩
          rw [List.nil_append, ← hBe] at hw6
          clear hBe
          have HW6 : Hid (Wr w6.drew w5.heap.size B) := hid hw6
          have HR6 : Hid (Rd w6.drew b1 (some r)) := hid (HR4.out.kept (hba.trans hb6).drew)
          have HB6 : Hid (Below w1.heap.size w1 w6.drew) := hid (HB4.out.trans ((hba.trans hb6).mono hs4)).drew
          have hs6 : w1.heap.size ≤ w6.drew.heap.size := HB6.out.size
          have hcx := conv_string _ _ _ (HX0.out.below HB6.out)
          clear hw6 hb6 hba HW5 HR4 HB4
          go_wp2_with fail
          go_region_with (first
            | (go_at_call 20; refine (bytes_any _ B _ HW6.out (by omega)).mono ?_; rintro e w7 ⟨va7, vc7, rfl, ho7, hb7⟩; have hcs7 := conv_string _ _ _ ho7.bts; have HB7 := hid (HB6.out.trans (hb7.mono hs6)); have hcx7 := conv_string _ _ _ (HX0.out.below HB7.out); have HR7 := hid (HR6.out.kept hb7); clear ho7 hb7)
            | (go_at_call 21; refine (left_any _ _ _ HR7.out).mono ?_; rintro e w8 ⟨rfl, rfl⟩; simp only [leftN]))
          all_goals
            go_wp2_with fail
            go_meet
            case rel => exact HB7.out
      case rest =>
        have hbc := hcut
        have hsc := hbc.size
        clear hcut HR4 HB4
        go_wp2_with fail
        refine (lives_any _).mono ?_
        rintro e w10 ⟨rfl, hb10⟩
        have HB10 := hid (hbc.trans (hb10.mono hsc))
        clear hb10
        go_wp2
        go_ret
        exact ⟨rfl, HB10.out⟩
end Go.Proofs.Ytdojjecjbejdhab
