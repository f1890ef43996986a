/- What the document's own reading of a text answers: TakeText of package lamellaref01. Conditions: the bytes lie in memory. -/
import Derived.Test.YtdojjecjbejdhaaTake
namespace Go.Proofs.Ytdojjecjbejdhaa
open Go.RowKit

theorem Bts.sub {w : World} {m cap k n : Nat} {l : List UInt8} {ao ao' : Option Addr} (hb : Bts w (.slice ao m cap) l) (hk : k + n ≤ l.length) (hd : cap ≠ k → ao' = ao.map (·.add k)) (hd1 : cap = k → ao' = ao) : Bts w (.slice ao' n (cap - k)) ((l.drop k).take n) := by
  obtain ⟨ao1, n1, cap1, e, h1, h2, h3, h4, h5⟩ := hb
  cases e
  refine ⟨_, _, _, rfl, by simp; omega, by omega, by omega, ?_, fun ad had j hj => ?_⟩
  · intro h
    by_cases hc : cap = k
    · omega
    · rw [hd hc] at h
      cases ao with
      | none => have := h4 rfl; omega
      | some a => cases h
  · have hj' : j < n := by simp at hj; omega
    have hc : cap ≠ k := by omega
    rw [hd hc] at had
    cases ao with
    | none => cases had
    | some a =>
      obtain rfl := Option.some.inj had
      rw [Addr.add_add, h5 a rfl (k + j) (by omega)]
      simp

set_option maxHeartbeats 3200000 in
theorem takeText_any (v : Value) (l : List UInt8) (w : World) (hv : Bts w v l) :
    Calls Try.prog 32 #[v] w fun e w' => e = .returned (.tuple #[.string ⟨(textV (some l)).toArray⟩, .int .i64 (kOf l (textS (some l)))]) ∧ Below w.heap.size w w' := by
  have HV := hid hv
  obtain ⟨ao, n0, cap, rfl, rfl, hc, hcap, -⟩ := hv
  have hnl := numR_lt (some l)
  have hlf := hid (numR_left l)
  have HTK := hid (takeN_eq l)
  have HL : Hid (lenR 1048576 (some l) = if 1048576 < (numR (some l)).1 ∨ leftN (numR (some l)).2 < (numR (some l)).1 then (0, none) else ((numR (some l)).1, (numR (some l)).2)) := hid rfl
  have HV1 : Hid (textV (some l) = match (lenR 1048576 (some l)).2 with | none => [] | some r => r.take (lenR 1048576 (some l)).1) := hid rfl
  have HS1 : Hid (textS (some l) = match (lenR 1048576 (some l)).2 with | none => none | some r => some (r.drop (lenR 1048576 (some l)).1)) := hid rfl
  have HN0 : Hid ((numR (some l)).2 = none → (numR (some l)).1 = 0) := hid (numR_none _)
  obtain ⟨n, hn⟩ : ∃ n : Nat, n = (numR (some l)).1 := ⟨_, rfl⟩
  obtain ⟨s2, hs2⟩ : ∃ s2, s2 = (numR (some l)).2 := ⟨_, rfl⟩
  rw [← hn] at hnl HTK HL HN0
  rw [← hs2] at HTK HL HN0 hlf
  clear hn hs2
  have hn2 : (n : Int) ≤ 18446744073709551615 := by omega
  clear hnl
  go_enter Try.func32, Try.ntmps32
  go_wp2_with fail
  refine (takeNum_any _ l _ HV.out).mono ?_
  rintro e w1 ⟨rfl, hb1⟩
  rw [HTK.out]
  have HB1 := hid hb1
  have HX := hid (HV.out.below hb1)
  clear hb1 HV HTK
  cases s2 with
  | none =>
    have hl : lenR 1048576 (some l) = (0, none) := by rw [HL.out, HN0.out rfl]; simp [leftN]
    have HF := hid (show textV (some l) = [] ∧ kOf l (textS (some l)) = 0 from ⟨by rw [HV1.out, hl], by rw [HS1.out, hl]; rfl⟩)
    rw [HN0.out rfl]
    clear hl HL HV1 HS1 HN0 hlf
    simp only [kOf]
    go_wp2
    go_ret2
    rw [HF.out.1, HF.out.2]
    exact ⟨rfl, HB1.out⟩
  | some r =>
    obtain ⟨hrl, hrd⟩ := hlf.out r rfl
    obtain ⟨k, hk⟩ : ∃ k : Nat, k = l.length - r.length := ⟨_, rfl⟩
    have hkk : kOf l (some r) = k := hk.symm
    rw [← hk] at hrd
    simp only [hkk]
    have hk0 : ((k : Int) == 0) = false := by simp; omega
    have hkl : (k : Int) ≤ (l.length : Int) := by omega
    have hll : (l.length : Int) ≤ 9223372036854775807 := by omega
    have hr : (l.length : Int) - (k : Int) = (r.length : Int) := by omega
    have hcapI : (l.length : Int) ≤ (cap : Int) := by omega
    clear hlf HN0 hkk
    by_cases hbig : (1048576 : Int) < (n : Int)
    · have hl : lenR 1048576 (some l) = (0, none) := by rw [HL.out, if_pos (by omega)]
      have HF := hid (show textV (some l) = [] ∧ kOf l (textS (some l)) = 0 from ⟨by rw [HV1.out, hl], by rw [HS1.out, hl]; rfl⟩)
      clear hl HL HV1 HS1 hk hrd hrl
      go_wp2
      go_ret2
      rw [HF.out.1, HF.out.2]
      exact ⟨rfl, HB1.out⟩
    · have hbig2 : (n : Int) ≤ 1048576 := by omega
      by_cases hmore : (r.length : Int) < (n : Int)
      · have hl : lenR 1048576 (some l) = (0, none) := by rw [HL.out, if_pos (by simp only [leftN]; omega)]
        have HF := hid (show textV (some l) = [] ∧ kOf l (textS (some l)) = 0 from ⟨by rw [HV1.out, hl], by rw [HS1.out, hl]; rfl⟩)
        clear hl HL HV1 HS1 hk hrd hrl
        go_wp2
        go_ret2
        rw [HF.out.1, HF.out.2]
        exact ⟨rfl, HB1.out⟩
      · have hl : lenR 1048576 (some l) = (n, some r) := by rw [HL.out, if_neg (by simp only [leftN]; omega)]
        have HF := hid (show textV (some l) = (l.drop k).take n ∧ kOf l (textS (some l)) = k + n from ⟨by rw [HV1.out, hl, ← hrd], by rw [HS1.out, hl]; show l.length - (r.drop n).length = _; simp; omega⟩)
        have hkn : k + n ≤ l.length := by omega
        have hcs1 := fun (h : cap = k) => conv_string _ _ _ (HX.out.sub (n := n) (ao' := ao) hkn (fun h' => absurd h h') (fun _ => rfl))
        have hcs2 := fun (h : ¬ cap = k) => conv_string _ _ _ (HX.out.sub (n := n) (ao' := ao.map (·.add k)) hkn (fun _ => rfl) (fun h' => absurd h' h))
        have HC1 := hid hcs1
        have HC2 := hid hcs2
        clear hl HL HV1 HS1 hk hrd hrl hcs1 hcs2
        have hknI : (k : Int) + (n : Int) ≤ (l.length : Int) := by omega
        by_cases hck : cap = k
        · have hcs := HC1.out hck
          subst hck
          rw [Nat.sub_self] at hcs
          go_wp2
          go_ret2
          rw [HF.out.1, HF.out.2]
          exact ⟨by simp, HB1.out⟩
        · have hcs := HC2.out hck
          go_wp2
          go_ret2
          rw [HF.out.1, HF.out.2]
          exact ⟨by simp, HB1.out⟩
end Go.Proofs.Ytdojjecjbejdhaa
