/- OctetReads answers true for any bytes; nothing that was there has turned. -/
import Derived.Test.YtdojjecjbejdhaaTakeT
import Derived.Deep.DeepCutAuto
namespace Go.Proofs.Ytdojjecjbejdhaa
open Go.RowKit

theorem kOf_zero (l : List UInt8) : kOf l none = 0 := rfl
theorem grown_below {B b : Nat} {w0 w w1 : World} (h : Below B w0 w) (hg : w.grownBy w1 (some b)) (hB : B ≤ w.heap.size) (hb : B ≤ b) : Below B w0 w1 :=
  h.grown hg hB fun k hk => by obtain rfl := Option.some.inj hk; exact hb

theorem intS_left (l r : List UInt8) (h : intS (some l) = some r) : r.length < l.length := by
  unfold intS at h
  split at h
  · cases h
  · cases l with
    | nil => cases h
    | cons c t => have := (numR_left t r h).1; simp only [List.length_cons]; omega
theorem textS_left (l r : List UInt8) (h : textS (some l) = some r) : r.length < l.length := by
  unfold textS at h
  split at h
  · cases h
  · rename_i r' h'
    obtain rfl := Option.some.inj h
    have h2 : (numR (some l)).2 = some r' := by
      unfold lenR at h'
      split at h'
      · cases h'
      · exact h'
    have := (numR_left l r' h2).1
    simp only [List.length_drop]; omega
theorem boolV_cons (c : UInt8) (t : List UInt8) : boolV (some (c :: t)) = ((c.toNat : Int) == 1) := by
  show (c.toNat == 1) = _
  by_cases h : c.toNat = 1
  · simp [h]
  · rw [beq_eq_false_iff_ne.2 h, beq_eq_false_iff_ne.2 (by omega)]
theorem boolS_cons (c : UInt8) (t : List UInt8) : badB (boolS (some (c :: t))) = decide ((1 : Int) < (c.toNat : Int)) := by
  show badB (if 1 < c.toNat then none else some t) = _
  by_cases h : 1 < c.toNat
  · rw [if_pos h, decide_eq_true (by omega)]; rfl
  · rw [if_neg h, decide_eq_false (by omega)]; rfl
theorem endB_len (t : List UInt8) : endB (some t) = ((t.length : Int) + 1 == 1) := by
  cases t with
  | nil => rfl
  | cons c t => symm; simp [endB]; omega
set_option maxRecDepth 100000 in
set_option maxHeartbeats 6400000 in
theorem reads_law (v : Value) (l0 : List UInt8) (w : World) (hv : Bts w v l0) :
    Calls Try.prog 5 #[v] w fun e w' => e = .returned (.bool true) ∧ Below w.heap.size w w' := by
  have HV0 := hid hv
  obtain ⟨a0, c0, rfl⟩ := hv.shape
  clear hv
  go_enter Try.func5, Try.ntmps5
  go_wp2_with fail
  refine (cut_any _ _ _ HV0.out).mono ?_
  rintro e w1 ⟨va, na, ca, rfl, hA, rfl⟩
  have hll : (l0.take 3000).length ≤ 3000 := List.length_take_le _ _
  clear HV0
  generalize l0.take 3000 = l at *
  obtain rfl : na = l.length := by obtain ⟨_, _, _, e, h, -⟩ := hA; cases e; exact h
  have HV := hid hA
  clear hA
  -- the number
  go_wp2_with fail
  refine (takeNum_any _ _ _ HV.out).mono ?_
  rintro e w2 ⟨rfl, hb2⟩
  rw [takeN_eq]
  have HB2 := hid hb2
  have hs2 := hb2.size
  clear hb2
  go_wp2_with fail
  refine (newReader_any _ _ _ (HV.out.below HB2.out) (by omega)).mono ?_
  rintro e w3 ⟨b1, rfl, hb1, hr3, hb3⟩
  have HR3 := hid hr3
  have HB3 := hid (HB2.out.trans (hb3.mono hs2))
  have hs3 := HB3.out.size
  have hb1' : w1.heap.size ≤ b1 := Nat.le_trans hs2 hb1
  clear hr3 hb3 HB2 hs2 hb1
  have hnl := numR_lt (some l)
  have hlf := hid (numR_left l)
  obtain ⟨n, hn⟩ : ∃ n : Nat, n = (numR (some l)).1 := ⟨_, rfl⟩
  obtain ⟨s, hs⟩ : ∃ s, s = (numR (some l)).2 := ⟨_, rfl⟩
  obtain ⟨k, hk⟩ : ∃ k, k = kOf l s := ⟨_, rfl⟩
  have HN := hid hn
  have HS := hid hs
  have HK := hid hk
  rw [← hn] at hnl
  rw [← hs] at hlf
  simp only [← hn, ← hs, ← hk]
  have hn2 : (n : Int) ≤ 18446744073709551615 := by omega
  clear hn hs hk hnl
  go_upto_region 4 with fail
  go_cut [55] (fun t wc => t = .bool false ∧ Below w1.heap.size w1 wc)
  case first =>
    cases s with
    | none =>
      obtain rfl : k = 0 := HK.out
      go_wp2_with (first
        | (go_at_call 26; refine (rnum_any _ _ _ HR3.out).mono ?_; rintro e w4 ⟨rfl, hr4, hg4⟩; rw [← HN.out]; rw [← HS.out] at hr4; have HR4 := hid hr4; have HB4 := hid (grown_below HB3.out hg4 hs3 hb1'); clear hr4)
        | (go_at_call 27; refine (bad_any _ _ _ HR4.out).mono ?_; rintro e w5 ⟨rfl, rfl⟩; simp only [badB])
        | (go_at_call 28; refine (left_any _ _ _ HR4.out).mono ?_; rintro e w5 ⟨rfl, rfl⟩; simp only [leftN])
        | (go_at_call 29; refine (end_any _ _ _ HR4.out).mono ?_; rintro e w5 ⟨rfl, rfl⟩; simp only [endB]))
      go_meet
      case rel => exact ⟨rfl, HB4.out⟩
    | some r =>
      have hrl := (hlf.out r rfl).1
      have hk1 : k = l.length - r.length := HK.out
      have hk0 : ((k : Int) == 0) = false := by simp; omega
      have hkp : (0 : Int) < (k : Int) := by omega
      have hr : (l.length : Int) - (k : Int) = (r.length : Int) := by omega
      clear hlf hk1 hrl
      go_wp2_with (first
        | (go_at_call 26; refine (rnum_any _ _ _ HR3.out).mono ?_; rintro e w4 ⟨rfl, hr4, hg4⟩; rw [← HN.out]; rw [← HS.out] at hr4; have HR4 := hid hr4; have HB4 := hid (grown_below HB3.out hg4 hs3 hb1'); clear hr4)
        | (go_at_call 27; refine (bad_any _ _ _ HR4.out).mono ?_; rintro e w5 ⟨rfl, rfl⟩; simp only [badB])
        | (go_at_call 28; refine (left_any _ _ _ HR4.out).mono ?_; rintro e w5 ⟨rfl, rfl⟩; simp only [leftN]))
      go_meet
      case rel => exact ⟨rfl, HB4.out⟩
  case rest =>
    obtain ⟨rfl, hbc⟩ := hcut
    clear HR3 HB3 hs3 hb1' HN HS HK hlf hn2
    have hsc := hbc.size
    go_wp2_with fail
    refine (takeInt_any _ _ _ (HV.out.below hbc)).mono ?_
    rintro e w2I ⟨rfl, hb2⟩
    have HB2 := hid (hbc.trans (hb2.mono hsc))
    have hs2 := HB2.out.size
    clear hb2 hbc hsc
    go_wp2_with fail
    refine (newReader_any _ _ _ (HV.out.below HB2.out) (by omega)).mono ?_
    rintro e w3I ⟨bI, rfl, hb1, hr3, hb3⟩
    have HR3 := hid hr3
    have HB3 := hid (HB2.out.trans (hb3.mono hs2))
    have hs3 := HB3.out.size
    have hb1' : w1.heap.size ≤ bI := Nat.le_trans hs2 hb1
    clear hr3 hb3 HB2 hs2 hb1
    have hlf := hid (intS_left l)
    obtain ⟨sI, hs⟩ : ∃ s, s = intS (some l) := ⟨_, rfl⟩
    obtain ⟨yI, hy⟩ : ∃ y, y = intV (some l) := ⟨_, rfl⟩
    obtain ⟨kI, hk⟩ : ∃ k, k = kOf l sI := ⟨_, rfl⟩
    have HY := hid hy
    have HS := hid hs
    have HK := hid hk
    rw [← hs] at hlf
    simp only [← hy, ← hs, ← hk]
    clear hy hs hk
    go_upto_region 8 with fail
    go_cut [86] (fun t wc => t = .bool false ∧ Below w1.heap.size w1 wc)
    case first =>
      cases sI with
      | none =>
        obtain rfl : kI = 0 := HK.out
        go_wp2_with (first
          | (go_at_call 31; refine (rint_any _ _ _ HR3.out).mono ?_; rintro e w4 ⟨rfl, hr4, hg4⟩; rw [← HY.out]; rw [← HS.out] at hr4; have HR4 := hid hr4; have HB4 := hid (grown_below HB3.out hg4 hs3 hb1'); clear hr4)
          | (go_at_call 27; refine (bad_any _ _ _ HR4.out).mono ?_; rintro e w5 ⟨rfl, rfl⟩; simp only [badB]))
        go_meet
        case rel => exact ⟨rfl, HB4.out⟩
      | some r =>
        have hrl := hlf.out r rfl
        have hk1 : kI = l.length - r.length := HK.out
        have hk0 : ((kI : Int) == 0) = false := by simp; omega
        have hkp : (0 : Int) < (kI : Int) := by omega
        have hr : (l.length : Int) - (kI : Int) = (r.length : Int) := by omega
        clear hlf hk1 hrl
        go_wp2_with (first
          | (go_at_call 31; refine (rint_any _ _ _ HR3.out).mono ?_; rintro e w4 ⟨rfl, hr4, hg4⟩; rw [← HY.out]; rw [← HS.out] at hr4; have HR4 := hid hr4; have HB4 := hid (grown_below HB3.out hg4 hs3 hb1'); clear hr4)
          | (go_at_call 27; refine (bad_any _ _ _ HR4.out).mono ?_; rintro e w5 ⟨rfl, rfl⟩; simp only [badB])
          | (go_at_call 28; refine (left_any _ _ _ HR4.out).mono ?_; rintro e w5 ⟨rfl, rfl⟩; simp only [leftN]))
        go_meet
        case rel => exact ⟨rfl, HB4.out⟩
    case rest =>
      obtain ⟨rfl, hbc⟩ := hcut
      clear HR3 HB3 hs3 hb1' HY HS HK hlf
      have hsc := hbc.size
      go_wp2_with fail
      refine (takeText_any _ _ _ (HV.out.below hbc)).mono ?_
      rintro e w2T ⟨rfl, hb2⟩
      have HB2 := hid (hbc.trans (hb2.mono hsc))
      have hs2 := HB2.out.size
      clear hb2 hbc hsc
      go_wp2_with fail
      refine (newReader_any _ _ _ (HV.out.below HB2.out) (by omega)).mono ?_
      rintro e w3T ⟨bT, rfl, hb1, hr3, hb3⟩
      have HR3 := hid hr3
      have HB3 := hid (HB2.out.trans (hb3.mono hs2))
      have hs3 := HB3.out.size
      have hb1' : w1.heap.size ≤ bT := Nat.le_trans hs2 hb1
      clear hr3 hb3 HB2 hs2 hb1
      have hlf := hid (textS_left l)
      obtain ⟨sT, hs⟩ : ∃ s, s = textS (some l) := ⟨_, rfl⟩
      obtain ⟨yT, hy⟩ : ∃ y, y = textV (some l) := ⟨_, rfl⟩
      obtain ⟨kT, hk⟩ : ∃ k, k = kOf l sT := ⟨_, rfl⟩
      have HY := hid hy
      have HS := hid hs
      have HK := hid hk
      rw [← hs] at hlf
      simp only [← hy, ← hs, ← hk]
      clear hy hs hk
      go_upto_region 12 with fail
      go_cut [117] (fun t wc => t = .bool false ∧ Below w1.heap.size w1 wc)
      case first =>
        cases sT with
        | none =>
          obtain rfl : kT = 0 := HK.out
          go_wp2_with (first
            | (go_at_call 33; refine (rtext_any _ _ _ HR3.out).mono ?_; rintro e w4 ⟨rfl, hr4, hg4⟩; rw [← HY.out]; rw [← HS.out] at hr4; have HR4 := hid hr4; have HB4 := hid (grown_below HB3.out hg4 hs3 hb1'); clear hr4)
            | (go_at_call 27; refine (bad_any _ _ _ HR4.out).mono ?_; rintro e w5 ⟨rfl, rfl⟩; simp only [badB]))
          go_meet
          case rel => exact ⟨rfl, HB4.out⟩
        | some r =>
          have hrl := hlf.out r rfl
          have hk1 : kT = l.length - r.length := HK.out
          have hk0 : ((kT : Int) == 0) = false := by simp; omega
          have hkp : (0 : Int) < (kT : Int) := by omega
          have hr : (l.length : Int) - (kT : Int) = (r.length : Int) := by omega
          clear hlf hk1 hrl
          go_wp2_with (first
            | (go_at_call 33; refine (rtext_any _ _ _ HR3.out).mono ?_; rintro e w4 ⟨rfl, hr4, hg4⟩; rw [← HY.out]; rw [← HS.out] at hr4; have HR4 := hid hr4; have HB4 := hid (grown_below HB3.out hg4 hs3 hb1'); clear hr4)
            | (go_at_call 27; refine (bad_any _ _ _ HR4.out).mono ?_; rintro e w5 ⟨rfl, rfl⟩; simp only [badB])
            | (go_at_call 28; refine (left_any _ _ _ HR4.out).mono ?_; rintro e w5 ⟨rfl, rfl⟩; simp only [leftN]))
          go_meet
          case rel => exact ⟨rfl, HB4.out⟩
      case rest =>
        obtain ⟨rfl, hbc⟩ := hcut
        clear HR3 HB3 hs3 hb1' HY HS HK hlf
        have hsc := hbc.size
        go_wp2_with fail
        refine (newReader_any _ _ _ (HV.out.below hbc) (by omega)).mono ?_
        rintro e w6 ⟨b6, rfl, hb6, hr6, hb6'⟩
        have HR6 := hid hr6
        have HB6 := hid (hbc.trans (hb6'.mono hsc))
        have hs6 := HB6.out.size
        have hb6x : w1.heap.size ≤ b6 := Nat.le_trans hsc hb6
        clear hr6 hb6' hbc hsc hb6
        go_wp2_with fail
        refine (rbool_any _ _ _ HR6.out).mono ?_
        rintro e w7 ⟨rfl, hr7, hg7⟩
        have HR7 := hid hr7
        have HB7 := hid (grown_below HB6.out hg7 hs6 hb6x)
        have hs7 := HB7.out.size
        clear hr7 hg7 HR6 HB6 hs6 hb6x
        cases l with
        | nil =>
          rw [show boolV (some []) = false from rfl]
          rw [show boolS (some []) = none from rfl] at HR7
          simp only [List.length_nil]
          go_wp2_with (first
            | (go_at_call 27; refine (bad_any _ _ _ HR7.out).mono ?_; rintro e w5 ⟨rfl, rfl⟩; simp only [badB]))
          refine (newReader_any _ [] _ (HV.out.below HB7.out) (by simp)).mono ?_
          rintro e w8 ⟨b8, rfl, hb8, hr8, hb8'⟩
          have HR8 := hid hr8
          have HB8 := hid (HB7.out.trans (hb8'.mono hs7))
          have hs8 := HB8.out.size
          have hb8x : w1.heap.size ≤ b8 := Nat.le_trans hs7 hb8
          clear hr8 hb8' hb8 HR7 HB7 hs7
          go_wp2_with fail
          refine (rbyte_any _ _ _ HR8.out).mono ?_
          rintro e w9 ⟨rfl, hr9, hg9⟩
          have HR9 := hid hr9
          have HB9 := hid (grown_below HB8.out hg9 hs8 hb8x)
          have hs9 := HB9.out.size
          clear hr9 hg9 HR8 HB8 hs8 hb8x
          rw [show byteS (some []) = none from rfl] at HR9
          rw [show (byteR (some [])).toNat = 0 from rfl]
          go_wp2_with (first
            | (go_at_call 27; refine (bad_any _ _ _ HR9.out).mono ?_; rintro e w5 ⟨rfl, rfl⟩; simp only [badB])
            | (go_at_call 14; refine (lives_any _).mono ?_; rintro e w10 ⟨rfl, hb10⟩; have HB10 := hid (HB9.out.trans (hb10.mono hs9)); clear hb10))
          go_ret
          exact ⟨rfl, HB10.out⟩
        | cons c t =>
          have hvc := HV.out
          obtain ⟨ad, hck, hll2⟩ : ∃ ad, va = some ad ∧ w1.cell? ad = some (.int .u8 (c.toNat : Int)) := by
            obtain ⟨ao, _, _, e, h1, h2, h3, h4, h5⟩ := hvc
            cases e
            cases va with
            | none => exact absurd (h4 rfl) (by rw [List.length_cons] at h2; omega)
            | some ad => exact ⟨ad, rfl, by have := h5 ad rfl 0 (by simp); rw [Addr.add_zero'] at this; exact this⟩
          subst hck
          clear hvc
          have hbv := boolV_cons c t
          have hbs := boolS_cons c t
          have hbr : (byteR (some (c :: t))).toNat = c.toNat := rfl
          have hcl := c.toNat_lt
          obtain ⟨x, hx⟩ : ∃ x : Nat, x = c.toNat := ⟨_, rfl⟩
          rw [← hx] at hbv hbs hll2 hcl hbr
          have HBS := hid hbs
          have HBR := hid hbr
          have HCK := hid hll2
          clear hx hbs hbr hll2
          have hx2 : (x : Int) ≤ 255 := by omega
          clear hcl
          rw [hbv]
          clear hbv
          have hck7 := cell_later HB7.out HCK.out
          have hlen0 : (((t.length : Nat) : Int) + 1 == 0) = false := by simp; omega
          rw [List.length_cons] at hll
          simp only [List.length_cons]
          go_wp2_with (first
            | (go_at_call 27; refine (bad_any _ _ _ HR7.out).mono ?_; rintro e w5 ⟨rfl, rfl⟩; rw [HBS.out]))
          refine (newReader_any _ (c :: t) _ (HV.out.below HB7.out) (by rw [List.length_cons]; omega)).mono ?_
          rintro e w8 ⟨b8, rfl, hb8, hr8, hb8'⟩
          have HR8 := hid hr8
          have HB8 := hid (HB7.out.trans (hb8'.mono hs7))
          have hs8 := HB8.out.size
          have hb8x : w1.heap.size ≤ b8 := Nat.le_trans hs7 hb8
          clear hr8 hb8' hb8 HR7 HB7 hs7 hck7
          go_wp2_with fail
          refine (rbyte_any _ _ _ HR8.out).mono ?_
          rintro e w9 ⟨rfl, hr9, hg9⟩
          have HR9 := hid hr9
          have HB9 := hid (grown_below HB8.out hg9 hs8 hb8x)
          have hs9 := HB9.out.size
          clear hr9 hg9 HR8 HB8 hs8 hb8x
          rw [show byteS (some (c :: t)) = some t from rfl] at HR9
          rw [HBR.out]
          have hck9 := cell_later HB9.out HCK.out
          go_wp2_with (first
            | (go_at_call 27; refine (bad_any _ _ _ HR9.out).mono ?_; rintro e w5 ⟨rfl, rfl⟩; simp only [badB])
            | (go_at_call 28; refine (left_any _ _ _ HR9.out).mono ?_; rintro e w5 ⟨rfl, rfl⟩; simp only [leftN])
            | (go_at_call 29; refine (end_any _ _ _ HR9.out).mono ?_; rintro e w5 ⟨rfl, rfl⟩; rw [endB_len])
            | (go_at_call 14; refine (lives_any _).mono ?_; rintro e w10 ⟨rfl, hb10⟩; have HB10 := hid (HB9.out.trans (hb10.mono hs9)); clear hb10))
          go_ret
          exact ⟨rfl, HB10.out⟩
end Go.Proofs.Ytdojjecjbejdhaa
