/- What the Reader's calls Bool, Int, length and Text answer. Conditions: the Reader lies in memory. -/
import Derived.Test.YtabmnelenfghhaaNumR
namespace Go.Proofs.Ytabmnelenfghhaa
open Go.RowKit

def boolV (s : Option (List UInt8)) : Bool := (byteR s).toNat == 1
def boolS (s : Option (List UInt8)) : Option (List UInt8) := if 1 < (byteR s).toNat then none else byteS s
theorem boolV_of (s : Option (List UInt8)) : boolV s = ((byteR s).toNat == 1) := rfl

set_option maxHeartbeats 800000 in
theorem rbool_any (b : Nat) (s : Option (List UInt8)) (w : World) (hr : Rd w b s) :
    Calls Try.prog 45 #[.pointer (some ⟨b, 0, none⟩)] w fun e w' => e = .returned (.bool (boolV s)) ∧ Rd w' b (boolS s) ∧ w.grownBy w' (some b) := by
  have HR := hio hr
  have hlt := (byteR s).toNat_lt
  have HV := hio (boolV_of s)
  have HS : Hid (boolS s = if 1 < (byteR s).toNat then none else byteS s) := hio rfl
  obtain ⟨c, hc⟩ : ∃ c : Nat, c = (byteR s).toNat := ⟨_, rfl⟩
  rw [← hc] at hlt HV HS
  have HC := hio hc
  clear hr hc
  have hc2 : (c : Int) ≤ 255 := by omega
  clear hlt
  by_cases h1 : (1 : Int) < (c : Int)
  · have hv : ((c : Nat) == 1) = false := by simp; omega
    rw [hv] at HV
    rw [if_pos (by omega)] at HS
    clear hv
    go_enter Try.func45, Try.ntmps45
    go_wp2_with (first | (go_at_call 34; refine (rbyte_any _ _ _ HR.out).mono ?_; rintro e w1 ⟨rfl, hr1, hg1⟩; rw [← HC.out]; have HR1 := hio hr1; clear hr1) | (go_at_call 67; refine (spoil_any _ _ _ HR1.out).mono ?_; rintro e w2 ⟨rfl, hr2, hg2⟩; have HR2 := hio hr2; clear hr2))
    go_ret
    rw [HV.out, HS.out]
    exact ⟨rfl, HR2.out, grown_trans hg1 hg2⟩
  · rw [if_neg (by omega)] at HS
    have hvI : ((c : Int) == 1) = (c == 1) := by
      rcases (show c = 0 ∨ c = 1 by omega) with h | h <;> simp [h]
    have HVI := hio hvI
    clear hvI
    go_enter Try.func45, Try.ntmps45
    go_wp2_with (first | (go_at_call 34; refine (rbyte_any _ _ _ HR.out).mono ?_; rintro e w1 ⟨rfl, hr1, hg1⟩; rw [← HC.out]; have HR1 := hio hr1; clear hr1))
    go_ret
    rw [HV.out, HS.out]
    exact ⟨by rw [← HVI.out]; rfl, HR1.out, hg1⟩

def intS (s : Option (List UInt8)) : Option (List UInt8) := if 1 < (byteR s).toNat ∨ 9223372036854775807 < (numR (byteS s)).1 then none else (numR (byteS s)).2
def intV (s : Option (List UInt8)) : Int := if badO (intS s) then 0 else if (byteR s).toNat = 1 then -1 - ((numR (byteS s)).1 : Int) else ((numR (byteS s)).1 : Int)

set_option maxHeartbeats 1600000 in
theorem rint_any (b : Nat) (s : Option (List UInt8)) (w : World) (hr : Rd w b s) :
    Calls Try.prog 35 #[.pointer (some ⟨b, 0, none⟩)] w fun e w' => e = .returned (.int .i64 (intV s)) ∧ Rd w' b (intS s) ∧ w.grownBy w' (some b) := by
  have HR := hio hr
  have hlt := (byteR s).toNat_lt
  have hnl := numR_lt (byteS s)
  have HS : Hid (intS s = if 1 < (byteR s).toNat ∨ 9223372036854775807 < (numR (byteS s)).1 then none else (numR (byteS s)).2) := hio rfl
  have HV : Hid (intV s = if badO (intS s) then 0 else if (byteR s).toNat = 1 then -1 - ((numR (byteS s)).1 : Int) else ((numR (byteS s)).1 : Int)) := hio rfl
  obtain ⟨c, hc⟩ : ∃ c : Nat, c = (byteR s).toNat := ⟨_, rfl⟩
  obtain ⟨n, hn⟩ : ∃ n : Nat, n = (numR (byteS s)).1 := ⟨_, rfl⟩
  obtain ⟨s2, hs2⟩ : ∃ s2, s2 = (numR (byteS s)).2 := ⟨_, rfl⟩
  rw [← hc] at hlt HV HS
  rw [← hn] at hnl HV HS
  rw [← hs2] at HS
  have HC := hio hc
  have HN := hio hn
  have HS2 := hio hs2
  clear hr hc hn hs2
  have hc2 : (c : Int) ≤ 255 := by omega
  have hn2 : (n : Int) ≤ 18446744073709551615 := by omega
  clear hlt hnl
  by_cases hbad : (1 : Int) < (c : Int) ∨ (9223372036854775807 : Int) < (n : Int)
  · have hS : intS s = none := by rw [HS.out, if_pos (by omega)]
    have hV : intV s = 0 := by rw [HV.out, hS]; rfl
    rw [hS, hV]
    clear hS hV HS HV
    rcases hbad with h | h
    · go_enter Try.func35, Try.ntmps35
      go_wp2_with (first
        | (go_at_call 34; refine (rbyte_any _ _ _ HR.out).mono ?_; rintro e w1 ⟨rfl, hr1, hg1⟩; rw [← HC.out]; have HR1 := hio hr1; clear hr1)
        | (go_at_call 44; refine (rnum_any _ _ _ HR1.out).mono ?_; rintro e w2 ⟨rfl, hr2, hg2⟩; rw [← HN.out]; have HR2 := hio hr2; clear hr2)
        | (go_at_call 67; refine (spoil_any _ _ _ HR2.out).mono ?_; rintro e w3 ⟨rfl, hr3, hg3⟩; have HR3 := hio hr3; clear hr3)
        | (go_at_call 15; refine (bad_any _ _ _ HR3.out).mono ?_; rintro e w4 ⟨rfl, rfl⟩; simp only [badO]))
      go_ret
      exact ⟨rfl, HR3.out, grown_trans (grown_trans hg1 hg2) hg3⟩
    · by_cases h' : (1 : Int) < (c : Int)
      all_goals
        go_enter Try.func35, Try.ntmps35
        go_wp2_with (first
          | (go_at_call 34; refine (rbyte_any _ _ _ HR.out).mono ?_; rintro e w1 ⟨rfl, hr1, hg1⟩; rw [← HC.out]; have HR1 := hio hr1; clear hr1)
          | (go_at_call 44; refine (rnum_any _ _ _ HR1.out).mono ?_; rintro e w2 ⟨rfl, hr2, hg2⟩; rw [← HN.out]; have HR2 := hio hr2; clear hr2)
          | (go_at_call 67; refine (spoil_any _ _ _ HR2.out).mono ?_; rintro e w3 ⟨rfl, hr3, hg3⟩; have HR3 := hio hr3; clear hr3)
          | (go_at_call 15; refine (bad_any _ _ _ HR3.out).mono ?_; rintro e w4 ⟨rfl, rfl⟩; simp only [badO]))
        go_ret
        exact ⟨rfl, HR3.out, grown_trans (grown_trans hg1 hg2) hg3⟩
  · have hS : intS s = s2 := by rw [HS.out, if_neg (by omega)]
    have hV : intV s = if badO s2 then 0 else if c = 1 then -1 - (n : Int) else (n : Int) := by rw [HV.out, hS]
    rw [hS, hV]
    clear hS hV HS HV
    have h1 : ¬ (1 : Int) < (c : Int) := by omega
    have h2 : ¬ (9223372036854775807 : Int) < (n : Int) := by omega
    clear hbad
    cases s2 with
    | none =>
      go_enter Try.func35, Try.ntmps35
      go_wp2_with (first
        | (go_at_call 34; refine (rbyte_any _ _ _ HR.out).mono ?_; rintro e w1 ⟨rfl, hr1, hg1⟩; rw [← HC.out]; have HR1 := hio hr1; clear hr1)
        | (go_at_call 44; refine (rnum_any _ _ _ HR1.out).mono ?_; rintro e w2 ⟨rfl, hr2, hg2⟩; rw [← HN.out]; rw [← HS2.out] at hr2; have HR2 := hio hr2; clear hr2)
        | (go_at_call 15; refine (bad_any _ _ _ HR2.out).mono ?_; rintro e w4 ⟨rfl, rfl⟩; simp only [badO]))
      go_ret
      exact ⟨rfl, HR2.out, grown_trans hg1 hg2⟩
    | some l =>
      by_cases h3 : c = 1
      · have h4 : ((c : Int) == 1) = true := by simp; omega
        rw [if_neg (by simp [badO]), if_pos h3]
        clear h3
        go_enter Try.func35, Try.ntmps35
        go_wp2_with (first
          | (go_at_call 34; refine (rbyte_any _ _ _ HR.out).mono ?_; rintro e w1 ⟨rfl, hr1, hg1⟩; rw [← HC.out]; have HR1 := hio hr1; clear hr1)
          | (go_at_call 44; refine (rnum_any _ _ _ HR1.out).mono ?_; rintro e w2 ⟨rfl, hr2, hg2⟩; rw [← HN.out]; rw [← HS2.out] at hr2; have HR2 := hio hr2; clear hr2)
          | (go_at_call 15; refine (bad_any _ _ _ HR2.out).mono ?_; rintro e w4 ⟨rfl, rfl⟩; simp only [badO]))
        go_ret
        exact ⟨rfl, HR2.out, grown_trans hg1 hg2⟩
      · have h4 : ((c : Int) == 1) = false := by simp; omega
        rw [if_neg (by simp [badO]), if_neg h3]
        clear h3
        go_enter Try.func35, Try.ntmps35
        go_wp2_with (first
          | (go_at_call 34; refine (rbyte_any _ _ _ HR.out).mono ?_; rintro e w1 ⟨rfl, hr1, hg1⟩; rw [← HC.out]; have HR1 := hio hr1; clear hr1)
          | (go_at_call 44; refine (rnum_any _ _ _ HR1.out).mono ?_; rintro e w2 ⟨rfl, hr2, hg2⟩; rw [← HN.out]; rw [← HS2.out] at hr2; have HR2 := hio hr2; clear hr2)
          | (go_at_call 15; refine (bad_any _ _ _ HR2.out).mono ?_; rintro e w4 ⟨rfl, rfl⟩; simp only [badO]))
        go_ret
        exact ⟨rfl, HR2.out, grown_trans hg1 hg2⟩

def lenR (most : Nat) (s : Option (List UInt8)) : Nat × Option (List UInt8) := if most < (numR s).1 ∨ leftN (numR s).2 < (numR s).1 then (0, none) else numR s
theorem lenR_le (most : Nat) (s : Option (List UInt8)) : (lenR most s).1 ≤ most ∧ (lenR most s).1 ≤ leftN (lenR most s).2 := by
  unfold lenR
  split
  · simp
  · omega

set_option maxHeartbeats 1600000 in
theorem rlen_any (b : Nat) (s : Option (List UInt8)) (most : Int) (w : World) (hm0 : 0 ≤ most) (hm : most ≤ 4000000) (hr : Rd w b s) :
    Calls Try.prog 68 #[.pointer (some ⟨b, 0, none⟩), .int .u64 most] w fun e w' => e = .returned (.int .i64 (lenR most.toNat s).1) ∧ Rd w' b (lenR most.toNat s).2 ∧ w.grownBy w' (some b) := by
  have HR := hio hr
  have hnl := numR_lt s
  have HL : Hid (lenR most.toNat s = if most.toNat < (numR s).1 ∨ leftN (numR s).2 < (numR s).1 then (0, none) else ((numR s).1, (numR s).2)) := hio rfl
  obtain ⟨n, hn⟩ : ∃ n : Nat, n = (numR s).1 := ⟨_, rfl⟩
  obtain ⟨s2, hs2⟩ : ∃ s2, s2 = (numR s).2 := ⟨_, rfl⟩
  rw [← hn, ← hs2] at HL
  rw [← hn] at hnl
  have HN := hio hn
  have HS2 := hio hs2
  clear hr hn hs2
  have hn2 : (n : Int) ≤ 18446744073709551615 := by omega
  clear hnl
  by_cases h1 : most < (n : Int)
  · rw [if_pos (by omega)] at HL
    go_enter Try.func68, Try.ntmps68
    go_wp2_with (first
      | (go_at_call 44; refine (rnum_any _ _ _ HR.out).mono ?_; rintro e w1 ⟨rfl, hr1, hg1⟩; rw [← HN.out]; have HR1 := hio hr1; clear hr1)
      | (go_at_call 67; refine (spoil_any _ _ _ HR1.out).mono ?_; rintro e w2 ⟨rfl, hr2, hg2⟩; have HR2 := hio hr2; clear hr2))
    go_ret
    rw [HL.out]
    exact ⟨rfl, HR2.out, grown_trans hg1 hg2⟩
  · by_cases h2 : (leftN s2 : Int) < (n : Int)
    · rw [if_pos (by omega)] at HL
      obtain ⟨k, hk⟩ : ∃ k : Nat, k = leftN s2 := ⟨_, rfl⟩
      rw [← hk] at h2
      have HK := hio hk
      clear hk
      go_enter Try.func68, Try.ntmps68
      go_wp2_with (first
        | (go_at_call 44; refine (rnum_any _ _ _ HR.out).mono ?_; rintro e w1 ⟨rfl, hr1, hg1⟩; rw [← HN.out]; rw [← HS2.out] at hr1; have HR1 := hio hr1; clear hr1)
        | (go_at_call 14; refine (left_any _ _ _ HR1.out).mono ?_; rintro e w2 ⟨rfl, rfl⟩; rw [← HK.out])
        | (go_at_call 67; refine (spoil_any _ _ _ HR1.out).mono ?_; rintro e w2 ⟨rfl, hr2, hg2⟩; have HR2 := hio hr2; clear hr2))
      go_ret
      rw [HL.out]
      exact ⟨rfl, HR2.out, grown_trans hg1 hg2⟩
    · rw [if_neg (by omega)] at HL
      obtain ⟨k, hk⟩ : ∃ k : Nat, k = leftN s2 := ⟨_, rfl⟩
      rw [← hk] at h2
      have HK := hio hk
      clear hk
      have hkl : Hid (∀ w, Rd w b s2 → k ≤ 9223372036854775807) := hio fun w h => by rw [HK.out]; exact h.len
      go_enter Try.func68, Try.ntmps68
      go_wp2_with (first
        | (go_at_call 44; refine (rnum_any _ _ _ HR.out).mono ?_; rintro e w1 ⟨rfl, hr1, hg1⟩; rw [← HN.out]; rw [← HS2.out] at hr1; have hkk : (k : Int) ≤ 9223372036854775807 := Int.ofNat_le.2 (hkl.out _ hr1); have HR1 := hio hr1; clear hr1)
        | (go_at_call 14; refine (left_any _ _ _ HR1.out).mono ?_; rintro e w2 ⟨rfl, rfl⟩; rw [← HK.out]))
      go_ret
      rw [HL.out]
      exact ⟨rfl, HR1.out, hg1⟩

def textV (s : Option (List UInt8)) : List UInt8 :=
  match (lenR 1048576 s).2 with
  | none => []
  | some l => l.take (lenR 1048576 s).1
def textS (s : Option (List UInt8)) : Option (List UInt8) :=
  match (lenR 1048576 s).2 with
  | none => none
  | some l => some (l.drop (lenR 1048576 s).1)

theorem Rd.drop {w : World} {b n : Nat} {l : List UInt8} {ao : Option Addr} {cap : Nat} (h : w.heap[b]? = some (.cells #[.slice ao l.length cap, .bool false] 76 (0, 0)))
    (hb : Bts w (.slice ao l.length cap) l) (hne : ∀ ad, ao = some ad → ad.block < b) (hn : n ≤ l.length) (ao' : Option Addr) (hd : cap ≠ n → ao' = ao.map (·.add n)) (hd1 : cap = n → ao' = ao) (m : Nat) (hm : m = l.length - n) :
    Rd (w.setCell ⟨b, 0, none⟩ (.slice ao' m (cap - n))) b (some (l.drop n)) := by
  have hl : (l.drop n).length = m := by simp [hm]
  obtain ⟨ao1, n1, cap1, e, h1, h2, h3, h4, h5⟩ := hb
  cases e
  have hbl : ∀ ad, ao' = some ad → ad.block < b := by
    intro ad had
    by_cases hc : cap = n
    · rw [hd1 hc] at had; exact hne ad had
    · rw [hd hc] at had
      cases ao with
      | none => cases had
      | some a =>
        obtain rfl := Option.some.inj had
        have := hne a rfl
        have e : (a.add n).block = a.block := by simp [Addr.add]; split <;> rfl
        rw [e]; exact this
  have hB : Bts w (.slice ao' m (cap - n)) (l.drop n) := by
    refine ⟨_, _, _, rfl, hl.symm, by omega, by omega, ?_, fun ad had j hj => ?_⟩
    · intro h
      by_cases hc : cap = n
      · omega
      · rw [hd hc] at h
        cases ao with
        | none => have := h4 rfl; omega
        | some a => cases h
    · have hc : cap ≠ n := by rw [hl] at hj; omega
      rw [hd hc] at had
      cases ao with
      | none => cases had
      | some a =>
        obtain rfl := Option.some.inj had
        have := h5 a rfl (n + j) (by simp at hj; omega)
        rw [Addr.add_add, this]
        simp
  refine ⟨ao', cap - n, ?_, ?_, hbl⟩
  · rw [hl]; exact heap_setCell_same w b 0 _ _ _ h
  · rw [hl]; exact hB.other (grown_set w b 0 _) fun ad had => Nat.ne_of_lt (hbl ad had)
set_option maxRecDepth 100000 in
set_option maxHeartbeats 1600000 in
theorem rtext_any (b : Nat) (s : Option (List UInt8)) (w : World) (hr : Rd w b s) :
    Calls Try.prog 37 #[.pointer (some ⟨b, 0, none⟩)] w fun e w' => e = .returned (.string ⟨(textV s).toArray⟩) ∧ Rd w' b (textS s) ∧ w.grownBy w' (some b) := by
  have HR := hio hr
  have hle := lenR_le 1048576 s
  have HV : Hid (textV s = match (lenR 1048576 s).2 with | none => [] | some l => l.take (lenR 1048576 s).1) := hio rfl
  have HS : Hid (textS s = match (lenR 1048576 s).2 with | none => none | some l => some (l.drop (lenR 1048576 s).1)) := hio rfl
  obtain ⟨n, hn⟩ : ∃ n : Nat, n = (lenR 1048576 s).1 := ⟨_, rfl⟩
  obtain ⟨s2, hs2⟩ : ∃ s2, s2 = (lenR 1048576 s).2 := ⟨_, rfl⟩
  rw [← hn, ← hs2] at HV HS hle
  have HN := hio hn
  have HS2 := hio hs2
  clear hr hn hs2
  have hn2 : (n : Int) ≤ 1048576 := by omega
  cases s2 with
  | none =>
    have hV : textV s = [] := HV.out
    have hS : textS s = none := HS.out
    rw [hV, hS]
    clear hV hS hle
    go_enter Try.func37, Try.ntmps37
    go_wp2_with (first
      | (go_at_call 68; refine (rlen_any _ _ 1048576 _ (by omega) (by omega) HR.out).mono ?_; rw [show (1048576 : Int).toNat = 1048576 from rfl, ← HN.out, ← HS2.out]; rintro e w1 ⟨rfl, hr1, hg1⟩; have HR1 := hio hr1; clear hr1)
      | (go_at_call 15; refine (bad_any _ _ _ HR1.out).mono ?_; rintro e w4 ⟨rfl, rfl⟩; simp only [badO]))
    go_ret
    exact ⟨rfl, HR1.out, hg1⟩
  | some l =>
    have hV : textV s = l.take n := HV.out
    have hS : textS s = some (l.drop n) := HS.out
    rw [hV, hS]
    have hnl : n ≤ l.length := hle.2
    clear hV hS hle
    go_enter Try.func37, Try.ntmps37
    go_wp2_with fail
    refine (rlen_any _ _ 1048576 _ (by omega) (by omega) HR.out).mono ?_
    rw [show (1048576 : Int).toNat = 1048576 from rfl, ← HN.out, ← HS2.out]
    rintro e w1 ⟨rfl, hr1, hg1⟩
    have HR1 := hio hr1
    obtain ⟨ao, cap, h, hb, hne⟩ := hr1
    have hcs := conv_string _ _ _ (hb.take hnl)
    obtain ⟨hc0, hc1, hf0, hf1⟩ := cell_two h
    have hcap : l.length ≤ cap ∧ cap ≤ 9223372036854775807 := by obtain ⟨_, _, _, e, h1, h2, h3, -⟩ := hb; cases e; exact ⟨h2, h3⟩
    obtain ⟨hcap1, hcap2⟩ := hcap
    have H := hio h
    have HB := hio hb
    have HNE := hio hne
    clear h hb hne
    go_wp2_with (go_at_call 15; refine (bad_any _ _ _ HR1.out).mono ?_; rintro e w4 ⟨rfl, rfl⟩; simp only [badO])
    · have hcn : cap = n := by assumption
      have hd := hio (Rd.drop H.out HB.out HNE.out hnl ao (fun h => absurd hcn h) (fun _ => rfl) _ rfl)
      rw [show cap - n = 0 from by omega] at hd
      go_ret
      exact ⟨rfl, hd.out, grown_trans hg1 (grown_set _ _ _ _)⟩
    · have hcn : ¬ cap = n := by assumption
      have hd := hio (Rd.drop H.out HB.out HNE.out hnl (ao.map (·.add n)) (fun _ => rfl) (fun h => absurd h hcn) _ rfl)
      go_ret
      exact ⟨rfl, hd.out, grown_trans hg1 (grown_set _ _ _ _)⟩
end Go.Proofs.Ytabmnelenfghhaa
