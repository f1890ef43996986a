/- What the document's own readings answer: TakeNum, TakeInt, TakeText of package lamellaref01. Conditions: the bytes lie in memory. -/
import Derived.Test.YtjimneaimnjanaaOct
import Derived.Deep.RegionWith
import Derived.Deep.DrawnRows
namespace Go.Proofs.Ytjimneaimnjanaa
open Go.RowKit
set_option maxRecDepth 100000
attribute [local go_sem ↓] Go.wp_at_zero Go.wp_at_succ

def takeN (l : List UInt8) : Nat × Nat := (refGo l l 0 0).getD (0, 0)
theorem refGo_end (l : List UInt8) (i n : Nat) (h : l.length ≤ i ∨ 10 ≤ i ∨ 144115188075855871 < n) : refGo l (l.drop i) i n = none := by
  cases hd : l.drop i with
  | nil => rfl
  | cons c t =>
    have : i < l.length := by
      rcases Nat.lt_or_ge i l.length with h | h
      · exact h
      · rw [List.drop_of_length_le h] at hd; cases hd
    simp only [refGo]
    by_cases h10 : 10 ≤ i
    · rw [if_pos h10]
    · rw [if_neg h10, if_pos (by omega)]
theorem refGo_next (l : List UInt8) (i n : Nat) (h : i < l.length) (h10 : ¬ 10 ≤ i) (hn : ¬ 144115188075855871 < n) (hc : ¬ l[i].toNat < 128) : refGo l (l.drop i) i n = refGo l (l.drop (i + 1)) (i + 1) (n * 128 + l[i].toNat % 128) := by
  rw [List.drop_eq_getElem_cons h]
  simp only [refGo]
  rw [if_neg h10, if_neg hn, if_neg hc]
theorem refGo_last (l : List UInt8) (i n : Nat) (h : i < l.length) (h10 : ¬ 10 ≤ i) (hn : ¬ 144115188075855871 < n) (hc : l[i].toNat < 128) :
    refGo l (l.drop i) i n = if numB (n * 128 + l[i].toNat % 128) = l.take (i + 1) then some (n * 128 + l[i].toNat % 128, i + 1) else none := by
  rw [List.drop_eq_getElem_cons h]
  simp only [refGo]
  rw [if_neg h10, if_neg hn, if_pos hc]
def TkSt (l : List UInt8) (i n : Nat) : Prop := i ≤ 10 ∧ i ≤ l.length ∧ n ≤ 18446744073709551615 ∧ refGo l l 0 0 = refGo l (l.drop i) i n

theorem refNum_nat (m : Nat) (w : World) (h : (m : Int) ≤ 18446744073709551615) :
    Calls Try.prog 52 #[.int .u64 (m : Int)] w fun e w' => ∃ va vc, e = .returned (.slice va (numB m).length vc) ∧ Own w' w.heap.size (.slice va (numB m).length vc) (numB m) ∧ Below w.heap.size w w' := by
  have := refNum_any (m : Int) w (by omega) (by omega)
  rw [Int.toNat_natCast] at this
  exact this
set_option maxHeartbeats 1600000 in
theorem takeNum_any (v : Value) (l : List UInt8) (w : World) (hv : Bts w v l) :
    Calls Try.prog 43 #[v] w fun e w' => e = .returned (.tuple #[.int .u64 (takeN l).1, .int .i64 (takeN l).2]) ∧ Below w.heap.size w w' := by
  have HV := hio hv
  obtain ⟨ao, n0, cap, rfl, rfl, hc, hcap, hnone, hcell⟩ := hv
  have HT : Hid (takeN l = (refGo l l 0 0).getD (0, 0)) := hio rfl
  have HC := hio hcell
  have HNO := hio hnone
  clear hcell hnone
  go_enter Try.func43, Try.ntmps43
  go_wp2
  go_loop [4, 5] (fun nv iv => ∃ i n : Nat, nv = .int .u64 n ∧ iv = .int .i64 i ∧ TkSt l i n) (fun _ iv => l.length - (intOf iv).toNat)
  case atStart => exact ⟨0, 0, rfl, rfl, by omega, by omega, by omega, rfl⟩
  case round =>
    obtain ⟨i, n, rfl, rfl, hi, hil, hn, hst⟩ := hrel
    have HST := hio hst
    have hn2 : (n : Int) ≤ 18446744073709551615 := by omega
    have hi2 : (i : Int) ≤ 10 := by omega
    clear hst hn hi
    by_cases hlt : (i : Int) < (l.length : Int)
    · by_cases h10 : (i : Int) < 10
      · by_cases hbig : (144115188075855872 : Int) ≤ (n : Int)
        · have HE := hio (show takeN l = (0, 0) by rw [HT.out, HST.out, refGo_end _ _ _ (by omega)]; rfl)
          go_wp2
          go_ret2
          rw [HE.out]
          exact ⟨rfl, Below.refl _ _⟩
        · have hao : ∃ ad, ao = some ad := by cases ao with | none => exact absurd (HNO.out rfl) (by omega) | some ad => exact ⟨ad, rfl⟩
          obtain ⟨ad, rfl⟩ := hao
          have hck := HC.out ad rfl i (by omega)
          have hcl := (l[i]).toNat_lt
          have hnx := hio (refGo_next l i n (by omega) (by omega) (by omega))
          have hla := hio (refGo_last l i n (by omega) (by omega) (by omega))
          obtain ⟨c, hcc⟩ : ∃ c : Nat, c = l[i].toNat := ⟨_, rfl⟩
          rw [← hcc] at hck hcl hnx hla
          clear hcc
          have hc2 : (c : Int) ≤ 255 := by omega
          clear hcl
          by_cases hlow : (c : Int) < 128
          · have hl2 := hio (HST.out.trans (hla.out (by omega)))
            clear hnx hla
            have HX : Hid (Bts w.drew (.slice (some ad) (i + 1) cap) (l.take (i + 1))) := hio (HV.out.take (n := i + 1) (by omega))
            have hcx := conv_string w.drew _ _ HX.out
            have hwi : IntKind.i64.wrap ((i : Int) + 1) = (i : Int) + 1 := IntWalk.i64_in _ ⟨by omega, by omega⟩
            obtain ⟨m, hm⟩ : ∃ m : Nat, m = n * 128 + c % 128 := ⟨_, rfl⟩
            rw [← hm] at hl2
            have hmI : (n : Int) * 128 + (c : Int) % 128 = (m : Int) := by omega
            have hm2 : (m : Int) ≤ 18446744073709551615 := by omega
            have hb0 : (0 : Int) ≤ (i : Int) + 1 := by omega
            have hb1 : (i : Int) + 1 ≤ (cap : Int) := by omega
            clear hm
            obtain ⟨T2, hT2⟩ : ∃ T2 : ByteArray, T2 = ⟨(l.take (i + 1)).toArray⟩ := ⟨_, rfl⟩
            obtain ⟨T1, hT1⟩ : ∃ T1 : ByteArray, T1 = ⟨(numB m).toArray⟩ := ⟨_, rfl⟩
            rw [← hT2] at hcx
            have HT1 := hio hT1
            have HT2 := hio hT2
            clear hT1 hT2
            by_cases hEq : numB m = l.take (i + 1)
            · obtain rfl : T1 = T2 := by rw [HT1.out, HT2.out, hEq]
              have HE := hio (show takeN l = (m, i + 1) by rw [HT.out, hl2.out, if_pos hEq]; rfl)
              clear hEq
              go_wp2
              go_region_with (first
                | (go_at_call 52; refine (refNum_nat m _ (by omega)).mono ?_; rintro e w' ⟨va', vc', rfl, ho', hb'⟩; have hcs' := conv_string _ _ _ ho'.bts; rw [← HT1.out] at hcs'; have hcx' := conv_string _ _ _ (Bts.below HX.out hb'); rw [← HT2.out] at hcx'))
              all_goals
                clear hbig hlow hmI hm2 hn2 hc2 hb0 hb1
                go_wp2
                go_ret2
                rw [HE.out]
                exact ⟨by first | rfl | simp, Below.trans (Below.drew (Below.refl _ _)) (by assumption)⟩
            · have hne : (T1.toList == T2.toList) = false := by
                rw [HT1.out, HT2.out, ByteArray.toList_eq, ByteArray.toList_eq]
                simpa using hEq
              have HE := hio (show takeN l = (0, 0) by rw [HT.out, hl2.out, if_neg hEq]; rfl)
              clear hEq
              go_wp2
              go_region_with (first
                | (go_at_call 52; refine (refNum_nat m _ (by omega)).mono ?_; rintro e w' ⟨va', vc', rfl, ho', hb'⟩; have hcs' := conv_string _ _ _ ho'.bts; rw [← HT1.out] at hcs'; have hcx' := conv_string _ _ _ (Bts.below HX.out hb'); rw [← HT2.out] at hcx'))
              all_goals
                clear hbig hlow hmI hm2 hn2 hc2 hb0 hb1
                go_wp2
                go_ret2
                rw [HE.out]
                exact ⟨by first | rfl | simp, Below.trans (Below.drew (Below.refl _ _)) (by assumption)⟩
          · have hl2 := hio (HST.out.trans (hnx.out (by omega)))
            clear hnx hla
            go_wp2
            go_round
            case rel => exact ⟨i + 1, n * 128 + c % 128, by go_num, by go_num, by omega, by omega, by omega, hl2.out⟩
            case measure => simp [intOf]; omega
      · have HE := hio (show takeN l = (0, 0) by rw [HT.out, HST.out, refGo_end _ _ _ (by omega)]; rfl)
        go_wp2
        go_ret2
        rw [HE.out]
        exact ⟨rfl, Below.refl _ _⟩
    · have HE := hio (show takeN l = (0, 0) by rw [HT.out, HST.out, refGo_end _ _ _ (by omega)]; rfl)
      go_wp2
      go_ret2
      rw [HE.out]
      exact ⟨rfl, Below.refl _ _⟩

def kOf (l : List UInt8) : Option (List UInt8) → Nat
  | none => 0
  | some r => l.length - r.length
theorem numGo_none (l : List UInt8) (c n : Nat) (h : (numGo l c n).2 = none) : (numGo l c n).1 = 0 := by
  induction l generalizing c n with
  | nil =>
    by_cases hc : c < 128
    · rw [numGo_low _ _ _ hc] at h; cases h
    · rw [numGo_end _ _ hc]
  | cons d l ih =>
    unfold numGo at h ⊢
    split
    · rename_i hc; rw [if_pos hc] at h; cases h
    · rename_i hc
      rw [if_neg hc] at h
      split
      · rfl
      · rename_i hn; rw [if_neg hn] at h; exact ih _ _ h
theorem numR_none (s : Option (List UInt8)) (h : (numR s).2 = none) : (numR s).1 = 0 := by
  match s, h with
  | none, _ => rfl
  | some [], _ => rfl
  | some (c :: l), h =>
    by_cases hc : c.toNat = 128
    · simp [numR, hc]
    · simp only [numR, if_neg hc] at h ⊢; exact numGo_none _ _ _ h
theorem takeN_eq (l : List UInt8) : takeN l = ((numR (some l)).1, kOf l (numR (some l)).2) := by
  unfold takeN
  cases h : (numR (some l)).2 with
  | none =>
    have h1 := numR_none _ h
    have h2 : numR (some l) = (0, none) := by rw [← h1, ← h]
    rw [(refGo_numR l).2 h2, h1]; rfl
  | some r =>
    have h2 : numR (some l) = ((numR (some l)).1, some r) := by rw [← h]
    rw [((refGo_numR l).1 _ _ h2).1]; rfl
theorem numR_left (l r : List UInt8) (h : (numR (some l)).2 = some r) : r.length < l.length ∧ r = l.drop (l.length - r.length) := by
  have h2 : numR (some l) = ((numR (some l)).1, some r) := by rw [← h]
  have := (refGo_numR l).1 _ _ h2
  exact ⟨this.2.2, this.2.1⟩
theorem Bts.tail {w : World} {c : UInt8} {l : List UInt8} {ad ad' : Addr} {n cap : Nat} (hb : Bts w (.slice (some ad) n cap) (c :: l)) (hd : cap ≠ 1 → ad' = ad.add 1) : Bts w (.slice (some ad') l.length (cap - 1)) l := by
  obtain ⟨ao', n', cap', e, h1, h2, h3, h4, h5⟩ := hb
  cases e
  rw [List.length_cons] at h1
  refine ⟨_, _, _, rfl, rfl, by omega, by omega, (fun h => by cases h), fun ad2 h2' j hj => ?_⟩
  obtain rfl := Option.some.inj h2'
  have := h5 ad rfl (j + 1) (by simp; omega)
  rw [hd (by omega)]
  rw [show (ad.add 1).add j = ad.add (j + 1) from by rw [Addr.add_add]; rw [Nat.add_comm]]
  simpa using this

theorem ret2_eq {k1 k2 : IntKind} {a b c d : Int} (h1 : a = b) (h2 : c = d) : Ending.returned (.tuple #[.int k1 a, .int k2 c]) = .returned (.tuple #[.int k1 b, .int k2 d]) := by rw [h1, h2]
set_option maxHeartbeats 3200000 in
theorem takeInt_any (v : Value) (l : List UInt8) (w : World) (hv : Bts w v l) :
    Calls Try.prog 82 #[v] w fun e w' => e = .returned (.tuple #[.int .i64 (intV (some l)), .int .i64 (kOf l (intS (some l)))]) ∧ Below w.heap.size w w' := by
  have HV := hio hv
  obtain ⟨ao, n0, cap, rfl, rfl, hc, hcap, hnone, hcell⟩ := hv
  cases l with
  | nil =>
    clear hnone hcell HV
    go_enter Try.func82, Try.ntmps82
    go_wp2
    go_ret2
    exact ⟨rfl, Below.refl _ _⟩
  | cons c t =>
    have hao : ∃ ad, ao = some ad := by cases ao with | none => exact absurd (hnone rfl) (by rw [List.length_cons] at hc; omega) | some ad => exact ⟨ad, rfl⟩
    obtain ⟨ad, rfl⟩ := hao
    have hck : w.cell? ad = some (.int .u8 (c.toNat : Int)) := by have := hcell ad rfl 0 (by simp); rw [Addr.add_zero'] at this; exact this
    have hcl := c.toNat_lt
    have hnl := numR_lt (some t)
    have hlf := hio (numR_left t)
    have htk := takeN_eq t
    have HTK := hio htk
    have HS : Hid (intS (some (c :: t)) = if 1 < c.toNat ∨ 9223372036854775807 < (numR (some t)).1 then none else (numR (some t)).2) := hio rfl
    have HI : Hid (intV (some (c :: t)) = if badO (intS (some (c :: t))) then 0 else if c.toNat = 1 then -1 - ((numR (some t)).1 : Int) else ((numR (some t)).1 : Int)) := hio rfl
    obtain ⟨x, hx⟩ : ∃ x : Nat, x = c.toNat := ⟨_, rfl⟩
    obtain ⟨n, hn⟩ : ∃ n : Nat, n = (numR (some t)).1 := ⟨_, rfl⟩
    obtain ⟨s2, hs2⟩ : ∃ s2, s2 = (numR (some t)).2 := ⟨_, rfl⟩
    rw [← hx] at hck hcl HS HI
    rw [← hn] at hnl HS HI HTK
    rw [← hs2] at HS HTK hlf
    have hn0 : s2 = none → n = 0 := fun h => by rw [hn]; exact numR_none _ (by rw [← hs2]; exact h)
    have HN0 := hio hn0
    clear hnone hcell hx hn hs2 htk hn0
    have hx2 : (x : Int) ≤ 255 := by omega
    have hn2 : (n : Int) ≤ 18446744073709551615 := by omega
    rw [List.length_cons] at hc ⊢
    have hlen0 : (((t.length + 1 : Nat) : Int) == 0) = false := by simp; omega
    clear hcl hnl
    by_cases h1 : (1 : Int) < (x : Int)
    · have hS : intS (some (c :: t)) = none := by rw [HS.out, if_pos (by omega)]
      have hI : intV (some (c :: t)) = 0 := by rw [HI.out, hS]; rfl
      rw [hS, hI]
      clear hS hI HS HI
      go_enter Try.func82, Try.ntmps82
      go_wp2
      go_ret2
      exact ⟨rfl, Below.refl _ _⟩
    · go_enter Try.func82, Try.ntmps82
      go_wp2_with fail
      · have hcp : cap = 1 := by assumption
        have ht := HV.out.tail (ad' := ad) (fun h => absurd hcp h)
        rw [show cap - 1 = 0 from by omega] at ht
        refine (takeNum_any _ t _ ht).mono ?_
        clear ht
        rintro e w1 ⟨rfl, hb1⟩
        rw [HTK.out]
        have HB1 := hio hb1
        clear hb1
        cases s2 with
        | none =>
          have hS : intS (some (c :: t)) = none := by rw [HS.out]; split <;> rfl
          have hI : intV (some (c :: t)) = 0 := by rw [HI.out, hS]; rfl
          have HF := hio (show intV (some (c :: t)) = 0 ∧ kOf (c :: t) (intS (some (c :: t))) = 0 from ⟨hI, by rw [hS]; rfl⟩)
          rw [HN0.out rfl]
          clear hS hI HS HI HTK HN0 hlf
          simp only [kOf]
          go_wp2
          go_ret2
          rw [HF.out.1, HF.out.2]
          exact ⟨rfl, HB1.out⟩
        | some r =>
          have hrl := (hlf.out r rfl).1
          obtain ⟨k, hk⟩ : ∃ k : Nat, k = kOf t (some r) := ⟨_, rfl⟩
          have hk1 : k = t.length - r.length := hk
          have HKK := hio hk
          have hk2 : kOf (c :: t) (some r) = k + 1 := by show (t.length + 1) - r.length = _; omega
          have HK2 := hio hk2
          have hk0 : ((k : Int) == 0) = false := by simp; omega
          have hkl : (k : Int) ≤ 9223372036854775806 := by omega
          clear hk1 hk2 HTK HN0 hlf hrl
          simp only [← hk]
          clear hk
          by_cases hbig : (9223372036854775808 : Int) ≤ (n : Int)
          · have hS : intS (some (c :: t)) = none := by rw [HS.out, if_pos (by omega)]
            have hI : intV (some (c :: t)) = 0 := by rw [HI.out, hS]; rfl
            have HF := hio (show intV (some (c :: t)) = 0 ∧ kOf (c :: t) (intS (some (c :: t))) = 0 from ⟨hI, by rw [hS]; rfl⟩)
            clear hS hI HS HI HK2 HKK
            go_wp2
            go_ret2
            rw [HF.out.1, HF.out.2]
            exact ⟨rfl, HB1.out⟩
          · have hS : intS (some (c :: t)) = some r := by rw [HS.out, if_neg (by omega)]
            have hI : intV (some (c :: t)) = if x = 1 then -1 - (n : Int) else (n : Int) := by rw [HI.out, hS]; rfl
            have HK3 := hio (show kOf (c :: t) (intS (some (c :: t))) = k + 1 by rw [hS]; exact HK2.out)
            clear hS HS HI HK2 HKK
            have hck1 := cell_later HB1.out hck
            have hd : decide ((9223372036854775808 : Int) ≤ (n : Int)) = false := by simp; omega
            have hle : (n : Int) ≤ 9223372036854775807 := by omega
            clear hbig
            by_cases hx1 : x = 1
            · have hx1' : ((x : Int) == 1) = true := by simp; omega
              rw [if_pos hx1] at hI
              have HI2 := hio hI
              clear hI hx1
              go_wp2
              go_ret2
              rw [HI2.out, HK3.out]
              exact ⟨ret2_eq (by omega) (by omega), HB1.out⟩
            · have hx1' : ((x : Int) == 1) = false := by simp; omega
              rw [if_neg hx1] at hI
              have HI2 := hio hI
              clear hI hx1
              go_wp2
              go_ret2
              rw [HI2.out, HK3.out]
              exact ⟨ret2_eq (by omega) (by omega), HB1.out⟩
      · have hcp : ¬ cap = 1 := by assumption
        have ht := HV.out.tail (ad' := ⟨ad.block, ad.off + 1, none⟩) (fun _ => by rw [Addr.add_succ'])
        refine (takeNum_any _ t _ ht).mono ?_
        clear ht
        rintro e w1 ⟨rfl, hb1⟩
        rw [HTK.out]
        have HB1 := hio hb1
        clear hb1
        cases s2 with
        | none =>
          have hS : intS (some (c :: t)) = none := by rw [HS.out]; split <;> rfl
          have hI : intV (some (c :: t)) = 0 := by rw [HI.out, hS]; rfl
          have HF := hio (show intV (some (c :: t)) = 0 ∧ kOf (c :: t) (intS (some (c :: t))) = 0 from ⟨hI, by rw [hS]; rfl⟩)
          rw [HN0.out rfl]
          clear hS hI HS HI HTK HN0 hlf
          simp only [kOf]
          go_wp2
          go_ret2
          rw [HF.out.1, HF.out.2]
          exact ⟨rfl, HB1.out⟩
        | some r =>
          have hrl := (hlf.out r rfl).1
          obtain ⟨k, hk⟩ : ∃ k : Nat, k = kOf t (some r) := ⟨_, rfl⟩
          have hk1 : k = t.length - r.length := hk
          have HKK := hio hk
          have hk2 : kOf (c :: t) (some r) = k + 1 := by show (t.length + 1) - r.length = _; omega
          have HK2 := hio hk2
          have hk0 : ((k : Int) == 0) = false := by simp; omega
          have hkl : (k : Int) ≤ 9223372036854775806 := by omega
          clear hk1 hk2 HTK HN0 hlf hrl
          simp only [← hk]
          clear hk
          by_cases hbig : (9223372036854775808 : Int) ≤ (n : Int)
          · have hS : intS (some (c :: t)) = none := by rw [HS.out, if_pos (by omega)]
            have hI : intV (some (c :: t)) = 0 := by rw [HI.out, hS]; rfl
            have HF := hio (show intV (some (c :: t)) = 0 ∧ kOf (c :: t) (intS (some (c :: t))) = 0 from ⟨hI, by rw [hS]; rfl⟩)
            clear hS hI HS HI HK2 HKK
            go_wp2
            go_ret2
            rw [HF.out.1, HF.out.2]
            exact ⟨rfl, HB1.out⟩
          · have hS : intS (some (c :: t)) = some r := by rw [HS.out, if_neg (by omega)]
            have hI : intV (some (c :: t)) = if x = 1 then -1 - (n : Int) else (n : Int) := by rw [HI.out, hS]; rfl
            have HK3 := hio (show kOf (c :: t) (intS (some (c :: t))) = k + 1 by rw [hS]; exact HK2.out)
            clear hS HS HI HK2 HKK
            have hck1 := cell_later HB1.out hck
            have hd : decide ((9223372036854775808 : Int) ≤ (n : Int)) = false := by simp; omega
            have hle : (n : Int) ≤ 9223372036854775807 := by omega
            clear hbig
            by_cases hx1 : x = 1
            · have hx1' : ((x : Int) == 1) = true := by simp; omega
              rw [if_pos hx1] at hI
              have HI2 := hio hI
              clear hI hx1
              go_wp2
              go_ret2
              rw [HI2.out, HK3.out]
              exact ⟨ret2_eq (by omega) (by omega), HB1.out⟩
            · have hx1' : ((x : Int) == 1) = false := by simp; omega
              rw [if_neg hx1] at hI
              have HI2 := hio hI
              clear hI hx1
              go_wp2
              go_ret2
              rw [HI2.out, HK3.out]
              exact ⟨ret2_eq (by omega) (by omega), HB1.out⟩
end Go.Proofs.Ytjimneaimnjanaa
namespace Go.Proofs.Ytjimneaimnjanaa
open Go.RowKit
set_option maxRecDepth 100000

set_option maxHeartbeats 3200000 in
theorem takeText_any (v : Value) (l : List UInt8) (w : World) (hv : Bts w v l) :
    Calls Try.prog 83 #[v] w fun e w' => e = .returned (.tuple #[.string ⟨(textV (some l)).toArray⟩, .int .i64 (kOf l (textS (some l)))]) ∧ Below w.heap.size w w' := by
  have HV := hio hv
  obtain ⟨ao, n0, cap, rfl, rfl, hc, hcap, -⟩ := hv
  have hnl := numR_lt (some l)
  have hlf := hio (numR_left l)
  have HTK := hio (takeN_eq l)
  have HL : Hid (lenR 1048576 (some l) = if 1048576 < (numR (some l)).1 ∨ leftN (numR (some l)).2 < (numR (some l)).1 then (0, none) else ((numR (some l)).1, (numR (some l)).2)) := hio rfl
  have HV1 : Hid (textV (some l) = match (lenR 1048576 (some l)).2 with | none => [] | some r => r.take (lenR 1048576 (some l)).1) := hio rfl
  have HS1 : Hid (textS (some l) = match (lenR 1048576 (some l)).2 with | none => none | some r => some (r.drop (lenR 1048576 (some l)).1)) := hio rfl
  have HN0 : Hid ((numR (some l)).2 = none → (numR (some l)).1 = 0) := hio (numR_none _)
  obtain ⟨n, hn⟩ : ∃ n : Nat, n = (numR (some l)).1 := ⟨_, rfl⟩
  obtain ⟨s2, hs2⟩ : ∃ s2, s2 = (numR (some l)).2 := ⟨_, rfl⟩
  rw [← hn] at hnl HTK HL HN0
  rw [← hs2] at HTK HL HN0 hlf
  clear hn hs2
  have hn2 : (n : Int) ≤ 18446744073709551615 := by omega
  clear hnl
  go_enter Try.func83, Try.ntmps83
  go_wp2_with fail
  refine (takeNum_any _ l _ HV.out).mono ?_
  rintro e w1 ⟨rfl, hb1⟩
  rw [HTK.out]
  have HB1 := hio hb1
  have HX := hio (HV.out.below hb1)
  clear hb1 HV HTK
  cases s2 with
  | none =>
    have hl : lenR 1048576 (some l) = (0, none) := by rw [HL.out, HN0.out rfl]; simp [leftN]
    have HF := hio (show textV (some l) = [] ∧ kOf l (textS (some l)) = 0 from ⟨by rw [HV1.out, hl], by rw [HS1.out, hl]; rfl⟩)
    rw [HN0.out rfl]
    clear hl HL HV1 HS1 HN0 hlf
    simp only [kOf]
    go_wp2
    go_ret2
    rw [HF.out.1, HF.out.2]
    exact ⟨rfl, HB1.out⟩
  | some r =>
    obtain ⟨hrl, hrd⟩ := hlf.out r rfl
    obtain ⟨k, hk⟩ : ∃ k : Nat, k = l.length - r.length := ⟨_, rfl⟩
    have hkk : kOf l (some r) = k := hk.symm
    rw [← hk] at hrd
    simp only [hkk]
    have hk0 : ((k : Int) == 0) = false := by simp; omega
    have hkl : (k : Int) ≤ (l.length : Int) := by omega
    have hll : (l.length : Int) ≤ 9223372036854775807 := by omega
    have hr : (l.length : Int) - (k : Int) = (r.length : Int) := by omega
    have hcapI : (l.length : Int) ≤ (cap : Int) := by omega
    clear hlf HN0 hkk
    by_cases hbig : (1048576 : Int) < (n : Int)
    · have hl : lenR 1048576 (some l) = (0, none) := by rw [HL.out, if_pos (by omega)]
      have HF := hio (show textV (some l) = [] ∧ kOf l (textS (some l)) = 0 from ⟨by rw [HV1.out, hl], by rw [HS1.out, hl]; rfl⟩)
      clear hl HL HV1 HS1 hk hrd hrl
      go_wp2
      go_ret2
      rw [HF.out.1, HF.out.2]
      exact ⟨rfl, HB1.out⟩
    · have hbig2 : (n : Int) ≤ 1048576 := by omega
      by_cases hmore : (r.length : Int) < (n : Int)
      · have hl : lenR 1048576 (some l) = (0, none) := by rw [HL.out, if_pos (by simp only [leftN]; omega)]
        have HF := hio (show textV (some l) = [] ∧ kOf l (textS (some l)) = 0 from ⟨by rw [HV1.out, hl], by rw [HS1.out, hl]; rfl⟩)
        clear hl HL HV1 HS1 hk hrd hrl
        go_wp2
        go_ret2
        rw [HF.out.1, HF.out.2]
        exact ⟨rfl, HB1.out⟩
      · have hl : lenR 1048576 (some l) = (n, some r) := by rw [HL.out, if_neg (by simp only [leftN]; omega)]
        have HF := hio (show textV (some l) = (l.drop k).take n ∧ kOf l (textS (some l)) = k + n from ⟨by rw [HV1.out, hl, ← hrd], by rw [HS1.out, hl]; show l.length - (r.drop n).length = _; simp; omega⟩)
        have hkn : k + n ≤ l.length := by omega
        have hcs1 := fun (h : cap = k) => conv_string _ _ _ (HX.out.sub (n := n) (ao' := ao) hkn (fun h' => absurd h h') (fun _ => rfl))
        have hcs2 := fun (h : ¬ cap = k) => conv_string _ _ _ (HX.out.sub (n := n) (ao' := ao.map (·.add k)) hkn (fun _ => rfl) (fun h' => absurd h' h))
        have HC1 := hio hcs1
        have HC2 := hio hcs2
        clear hl HL HV1 HS1 hk hrd hrl hcs1 hcs2
        have hknI : (k : Int) + (n : Int) ≤ (l.length : Int) := by omega
        by_cases hck : cap = k
        · have hcs := HC1.out hck
          subst hck
          rw [Nat.sub_self] at hcs
          go_wp2
          go_ret2
          rw [HF.out.1, HF.out.2]
          exact ⟨by simp, HB1.out⟩
        · have hcs := HC2.out hck
          go_wp2
          go_ret2
          rw [HF.out.1, HF.out.2]
          exact ⟨by simp, HB1.out⟩
end Go.Proofs.Ytjimneaimnjanaa
