/- What the document's own Frame and Unframe of package lamellaref01 answer. Conditions: the bytes lie in memory, at most MaxText of them make a frame. -/
import Derived.Test.YtpchmdfkifbciaaJnUnframe
import Derived.Deep.RegionWith
import Derived.Deep.DrawnRows
namespace Go.Proofs.Ytpchmdfkifbciaa
open Go.RowKit
attribute [local go_sem ↓] Go.wp_at_zero Go.wp_at_succ

theorem fourB_cells (n : Nat) (h : n < 4294967296) : #[Value.int .u8 ((n : Int) % 256), .int .u8 ((n : Int) / 256 % 256), .int .u8 ((n : Int) / 65536 % 256), .int .u8 ((n : Int) / 16777216)] = ((fourB n).map bv).toArray := by
  show _ = #[bv (UInt8.ofNat (n % 256)), bv (UInt8.ofNat (n / 256 % 256)), bv (UInt8.ofNat (n / 256 / 256 % 256)), bv (UInt8.ofNat (n / 256 / 256 / 256 % 256))]
  rw [bv_num _ (by omega), bv_num _ (by omega), bv_num _ (by omega), bv_num _ (by omega)]
  have e1 : (n : Int) % 256 = ((n % 256 : Nat) : Int) := by omega
  have e2 : (n : Int) / 256 % 256 = ((n / 256 % 256 : Nat) : Int) := by omega
  have e3 : (n : Int) / 65536 % 256 = ((n / 256 / 256 % 256 : Nat) : Int) := by omega
  have e4 : (n : Int) / 16777216 = ((n / 256 / 256 / 256 % 256 : Nat) : Int) := by omega
  rw [e1, e2, e3, e4]

set_option maxHeartbeats 800000 in
theorem refFour_any (n : Nat) (w : World) (h1 : (n : Int) ≤ 4294967295) :
    Calls Try.prog 66 #[.int .u32 (n : Int)] w fun e w' => ∃ va, e = .returned (.slice va 4 4) ∧ Own w' w.heap.size (.slice va 4 4) (fourB n) ∧ Below w.heap.size w w' := by
  have HC := hid (fourB_cells n (by omega))
  go_enter Try.func66, Try.ntmps66
  go_wp2
  go_ret
  exact ⟨_, rfl, Own.lit w w.heap.size (fourB n) _ HC.out (Nat.le_refl _) 4 rfl (by omega), (Below.refl _ _).alloc (Nat.le_refl _) _⟩
set_option maxHeartbeats 1600000 in
theorem refFrame_any (v : Value) (l : List UInt8) (w : World) (hv : Bts w v l) (hl : l.length ≤ 1048576) :
    Calls Try.prog 39 #[v] w fun e w' => ∃ va vc, e = .returned (.slice va (l.length + 8) vc) ∧ Own w' w.heap.size (.slice va (l.length + 8) vc) (frameB l) ∧ Below w.heap.size w w' := by
  have HV := hid hv
  obtain ⟨a0, c0, rfl⟩ := hv.shape
  clear hv
  have hl' : (l.length : Int) ≤ 1048576 := by omega
  go_enter Try.func39, Try.ntmps39
  go_wp2_with fail
  refine (refFour_any _ _ (by omega)).mono ?_
  rintro e w1 ⟨va1, rfl, ho1, hb1⟩
  have HO1 := hid ho1
  have HB1 := hid hb1
  have hs1 := hb1.size
  have HV1 := hid (HV.out.below hb1)
  clear ho1 hb1
  go_wp2_with (at_builtin; refine wpl_appendO rfl _ _ rfl w.heap.size (.slice va1 4 4) (fourB l.length) rfl HO1.out _ l rfl HV1.out (by rw [fourB_len]; omega) hs1 ?_; intro va4 vc4 w4 ho4 hg4; rw [fourB_len] at ho4 ⊢; have HO4 : Hid (Own w4 w.heap.size (.slice va4 (4 + l.length) vc4) (headB l)) := hid ho4; have HB4 := hid (HB1.out.trans (below_grown HO1.out hg4 hs1)); clear ho4 hg4)
  have hs4 := HB4.out.size
  refine (refCRC_any _ _ _ HO4.out.bts).mono ?_
  rintro e w5 ⟨rfl, rfl⟩
  have hcl := crcAll_lt (headB l)
  obtain ⟨q, hq⟩ : ∃ q, q = crcAll (headB l) := ⟨_, rfl⟩
  rw [← hq] at hcl ⊢
  have HQ := hid hq
  clear hq
  go_wp2_with fail
  refine (refFour_any _ _ (by omega)).mono ?_
  rintro e w6 ⟨va6, rfl, ho6, hb6⟩
  rw [HQ.out] at ho6
  have HO6 := hid ho6
  have HB6 := hid (HB4.out.trans (hb6.mono hs4))
  have HO5 := hid (HO4.out.below hb6)
  have hs6 := HB6.out.size
  have HHL := hid (headB_len l)
  clear ho6 hb6
  go_wp2_with (at_builtin; refine wpl_appendO rfl _ _ rfl w.heap.size (.slice va4 (4 + l.length) vc4) (headB l) rfl HO5.out _ (fourB (crcAll (headB l))) rfl HO6.out.bts (by rw [HHL.out, fourB_len]; omega) hs6 ?_; intro va7 vc7 w7 ho7 hg7; rw [fourB_len, HHL.out] at ho7 ⊢; have HO7 : Hid (Own w7 w.heap.size (.slice va7 (l.length + 4 + 4) vc7) (frameB l)) := hid ho7; have HB7 := hid (HB6.out.trans (below_grown HO5.out hg7 hs6)); clear ho7 hg7)
  go_ret
  exact ⟨va7, vc7, rfl, HO7.out, HB7.out⟩

/-- What the document's Unframe answers. -/
def RefV (w' : World) (base : Nat) (r : List UInt8) (va : Option Addr) (m vc : Nat) (n why : Int) : Prop :=
  if unfE r = 0 then Own w' base (.slice va m vc) (unfD r) ∧ m = (unfD r).length ∧ n = (wordV r : Int) + 8 ∧ why = 0 else va = none ∧ m = 0 ∧ vc = 0 ∧ n = 0 ∧ why = if unfE r = 8 then 1 else if unfE r = 4 then 2 else 3

theorem take_four (r : List UInt8) (h : 4 ≤ r.length) : r.take 4 = fourB (wordV r) := by
  match r, h with
  | a :: b :: c :: d :: t, _ => rw [fourB_wordV]; rfl

set_option maxHeartbeats 3200000 in
theorem refUnframe_any (v : Value) (r : List UInt8) (w : World) (hv : Bts w v r) (hll : r.length ≤ 1000000000) :
    Calls Try.prog 63 #[v] w fun e w' => ∃ va m vc n why, e = .returned (.tuple #[.slice va m vc, .int .i64 n, .int .i64 why]) ∧ RefV w' w.heap.size r va m vc n why ∧ Below w.heap.size w w' := by
  have HR := hid hv
  obtain ⟨ao, m, cap, rfl, hm, hc, hcap, hnone, hcell⟩ := hv
  have HRM := hid hm.symm
  have hmb : (m : Int) ≤ 1000000000 := by omega
  by_cases h0 : m = 0
  · have HE : Hid (unfE r = 8) := hid (by have : r = [] := List.eq_nil_of_length_eq_zero (by omega); rw [this]; rfl)
    subst h0
    clear hcell hm hnone
    go_enter Try.func63, Try.ntmps63
    go_wp2
    go_ret3
    exact ⟨none, 0, 0, 0, 1, rfl, by unfold RefV; rw [HE.out]; exact ⟨rfl, rfl, rfl, rfl, rfl⟩, Below.refl _ _⟩
  · have hm0 : ((m : Int) == 0) = false := by simp; omega
    have HRN : Hid (r ≠ []) := hid (by intro h; rw [h] at hm; simp at hm; omega)
    by_cases h4 : (m : Int) < 4
    · have HE : Hid (unfE r = 4) := hid (by unfold unfE; rw [if_neg HRN.out, if_pos (by rw [HRM.out]; omega)])
      clear hcell hm hnone h0
      go_enter Try.func63, Try.ntmps63
      go_wp2
      go_ret3
      exact ⟨none, 0, 0, 0, 2, rfl, by unfold RefV; rw [HE.out]; exact ⟨rfl, rfl, rfl, rfl, rfl⟩, Below.refl _ _⟩
    · have hao : ∃ a, ao = some a := by cases ao with | none => exact absurd (hnone rfl) (by omega) | some a => exact ⟨a, rfl⟩
      obtain ⟨a, rfl⟩ := hao
      obtain ⟨x0, x1, x2, x3, t, rfl⟩ : ∃ x0 x1 x2 x3 t, r = x0 :: x1 :: x2 :: x3 :: t := by
        match r, hm with
        | a :: b :: c :: d :: t, _ => exact ⟨a, b, c, d, t, rfl⟩
        | [], h => simp at h; omega
        | [_], h => simp at h; omega
        | [_, _], h => simp at h; omega
        | [_, _, _], h => simp at h; omega
      have g0 : w.cell? a = some (.int .u8 (x0.toNat : Int)) := hcell a rfl 0 (by simp)
      have g1 : w.cell? ⟨a.block, a.off + 1, none⟩ = some (.int .u8 (x1.toNat : Int)) := hcell a rfl 1 (by simp)
      have g2 : w.cell? ⟨a.block, a.off + 2, none⟩ = some (.int .u8 (x2.toNat : Int)) := hcell a rfl 2 (by simp)
      have g3 : w.cell? ⟨a.block, a.off + 3, none⟩ = some (.int .u8 (x3.toNat : Int)) := hcell a rfl 3 (by simp)
      have HN : Hid (wordV (x0 :: x1 :: x2 :: x3 :: t) = x0.toNat + x1.toNat * 256 + x2.toNat * 65536 + x3.toNat * 16777216) := hid rfl
      have b0 := x0.toNat_lt
      have b1 := x1.toNat_lt
      have b2 := x2.toNat_lt
      have b3 := x3.toNat_lt
      generalize hr : x0 :: x1 :: x2 :: x3 :: t = r at *
      generalize x0.toNat = y0 at *
      generalize x1.toNat = y1 at *
      generalize x2.toNat = y2 at *
      generalize x3.toNat = y3 at *
      clear hr hcell hnone hm h0
      have c0 : (y0 : Int) ≤ 255 := by omega
      have c1 : (y1 : Int) ≤ 255 := by omega
      have c2 : (y2 : Int) ≤ 255 := by omega
      have c3 : (y3 : Int) ≤ 255 := by omega
      clear b0 b1 b2 b3
      go_enter Try.func63, Try.ntmps63
      go_wp2_with fail
      go_region
      obtain ⟨n, hn⟩ : ∃ n : Nat, (y0 : Int) + 256 * (y1 : Int) + 65536 * (y2 : Int) + 16777216 * (y3 : Int) = (n : Int) := ⟨y0 + 256 * y1 + 65536 * y2 + 16777216 * y3, by omega⟩
      have hnw : wordV r = n := by have := HN.out; omega
      have hn2 : (n : Int) ≤ 4294967295 := by omega
      simp only [hn]
      have HN := hid hnw
      have HRD := hid (HR.out.below ((Below.refl _ _).drew))
      clear hn hnw c0 c1 c2 c3 g0 g1 g2 g3 HR
      have HB0 := hid ((Below.refl w.heap.size w).drew)
      have HS0 : Hid (w.drew.heap.size = w.heap.size) := hid rfl
      generalize w.drew = w1 at *
      by_cases hbig : (1048576 : Int) < (n : Int)
      · have HE : Hid (unfE r = 4) := hid (by unfold unfE; rw [if_neg HRN.out, if_neg (by rw [HRM.out]; omega), if_pos (by rw [HN.out]; omega)])
        go_wp2
        go_ret3
        exact ⟨none, 0, 0, 0, 2, rfl, by unfold RefV; rw [HE.out]; exact ⟨rfl, rfl, rfl, rfl, rfl⟩, HB0.out⟩
      · have hn3 : (n : Int) ≤ 1048576 := by omega
        by_cases hshort : (m : Int) < (n : Int) + 8
        · have HE : Hid (unfE r = 4) := hid (by unfold unfE; rw [if_neg HRN.out, if_neg (by rw [HRM.out]; omega), if_neg (by rw [HN.out]; omega), if_pos (by rw [HN.out, HRM.out]; omega)])
          go_wp2
          go_ret3
          exact ⟨none, 0, 0, 0, 2, rfl, by unfold RefV; rw [HE.out]; exact ⟨rfl, rfl, rfl, rfl, rfl⟩, HB0.out⟩
        · have hfit : (n : Int) + 8 ≤ (m : Int) := by omega
          clear hbig hshort
          obtain ⟨k, hk⟩ : ∃ k, k = n + 4 := ⟨_, rfl⟩
          have hkI : (n : Int) + 4 = (k : Int) := by omega
          obtain ⟨j, hj⟩ : ∃ j, j = n + 8 := ⟨_, rfl⟩
          have hjI : (n : Int) + 8 = (j : Int) := by omega
          have hjk : j - k = 4 := by omega
          have hkj : (k : Int) ≤ (j : Int) := by omega
          have hjm : (j : Int) ≤ (m : Int) := by omega
          have hmcI : (m : Int) ≤ (cap : Int) := by omega
          have hk0 : (0 : Int) ≤ (k : Int) := by omega
          have hj0 : (0 : Int) ≤ (j : Int) := by omega
          have hkc : (k : Int) ≤ (cap : Int) := by omega
          have hjc : (j : Int) ≤ (cap : Int) := by omega
          have hcz : ¬ cap = 0 := by omega
          have hwk : IntKind.i64.wrap (k : Int) = (k : Int) := IntWalk.i64_in _ ⟨by omega, by omega⟩
          have hwj : IntKind.i64.wrap (j : Int) = (j : Int) := IntWalk.i64_in _ ⟨by omega, by omega⟩
          have hck : ¬ cap = k := by omega
          have hc4 : ¬ cap = 4 := by omega
          have hkn : k - 4 = n := by omega
          have hk4 : (4 : Int) ≤ (k : Int) := by omega
          have hT := HRD.out.sub (k := k) (n := 4) (ao' := some (a.add k)) (by rw [HRM.out]; omega) (fun _ => rfl) (fun h => absurd h hck)
          have hH := HRD.out.take (n := k) (by rw [HRM.out]; omega)
          have hD := HRD.out.sub (k := 4) (n := n) (ao' := some (a.add 4)) (by rw [HRM.out]; omega) (fun _ => rfl) (fun h => absurd h hc4)
          have h4k : 4 ≤ (r.drop k).length := by simp [HRM.out]; omega
          rw [take_four _ h4k] at hT
          have HT := hid hT
          have HH := hid hH
          have HD := hid hD
          have HUE : Hid (unfE r = if wordV (r.drop k) = crcAll (r.take k) then 0 else 5) := hid (by
            unfold unfE
            rw [if_neg HRN.out, if_neg (by rw [HRM.out]; omega), if_neg (by rw [HN.out]; omega), if_neg (by rw [HN.out, HRM.out]; omega), HN.out, show 4 + n = k by omega])
          have HUD : Hid (unfD r = (r.drop 4).take n) := hid (by unfold unfD; rw [HN.out])
          have HDL : Hid (((r.drop 4).take n).length = n) := hid (by simp [HRM.out]; omega)
          have HJ := hid hj
          have HK := hid hk
          clear hT hH hD hk hj h4k hfit
          have hcl := crcAll_lt (r.take k)
          have hwl := wordV_lt (r.drop k)
          obtain ⟨x, hx⟩ : ∃ x, x = wordV (r.drop k) := ⟨_, rfl⟩
          obtain ⟨y, hy⟩ : ∃ y, y = crcAll (r.take k) := ⟨_, rfl⟩
          rw [← hx, ← hy] at HUE
          rw [← hx] at hwl HT
          rw [← hy] at hcl
          have HY := hid hy
          clear hx hy
          have hx2 : (x : Int) ≤ 4294967295 := by omega
          have hy2 : (y : Int) ≤ 4294967295 := by omega
          have HW1 := HS0
          by_cases hxy : x = y
          · subst hxy
            clear hcl hwl
            rw [if_pos rfl] at HUE
            have hcs0 := conv_string w1.drew _ _ (HT.out.below ((Below.refl _ _).drew))
            obtain ⟨T, hTT⟩ : ∃ T : ByteArray, T = ⟨(fourB x).toArray⟩ := ⟨_, rfl⟩
            rw [← hTT] at hcs0
            have HTT := hid hTT
            clear hTT
            go_wp2_with fail
            go_region_with (first
              | (go_at_call 67; refine (refCRC_any _ (r.take k) _ (HH.out.below ((Below.refl _ _).drew))).mono ?_; rintro e w2 ⟨rfl, rfl⟩; rw [← HY.out])
              | (go_at_call 66; refine (refFour_any x _ hx2).mono ?_; rintro e w3 ⟨va3, rfl, ho3, hb3⟩; have hcs3 := conv_string w3 _ _ ho3.bts; have hcs4 := conv_string w3 _ _ ((HT.out.below ((Below.refl _ _).drew)).below hb3); rw [← HTT.out] at hcs3 hcs4; have HB3 := hid hb3; clear ho3 hb3))
            all_goals
              have HB3' := hid (HB0.out.trans (((Below.refl w1.heap.size w1).drew.trans HB3.out).mono (by rw [HS0.out]; exact Nat.le_refl _)))
              have hs3 : w.heap.size ≤ w3.heap.size := HB3'.out.size
              have HO := hid ((Own.empty w3).lower hs3)
              have HD3 := hid (((HD.out.below ((Below.refl _ _).drew)).below HB3.out).alloc (.cells #[] 5))
              clear hcs0 hcs3 hcs4
              go_wp2_with (at_builtin; refine wpl_appendO rfl _ _ rfl w.heap.size (.slice (some ⟨w3.heap.size, 0, none⟩) 0 0) [] rfl HO.out _ ((r.drop 4).take n) rfl HD3.out (by simp; omega) (by simp; omega) ?_; intro va9 vc9 w9 ho9 hg9; have HB9 := hid ((HB3'.out.alloc hs3 _).trans (below_grown HO.out hg9 (by simp; omega))); have HO9 := hid ho9; clear ho9 hg9)
              go_ret3
              refine ⟨va9, _, vc9, _, 0, rfl, ?_, HB9.out⟩
              have ho := HO9.out
              simp only [List.length_nil, Nat.zero_add, List.nil_append, HDL.out] at ho
              have hmin : min n (r.length - 4) = n := by rw [HRM.out]; omega
              unfold RefV
              rw [HUE.out, HUD.out]
              refine ⟨?_, ?_, ?_, rfl⟩
              · rw [hmin]; exact ho
              · rw [hmin, HDL.out]
              · rw [HN.out, HJ.out]; omega
          · rw [if_neg hxy] at HUE
            have hcs0 := conv_string w1.drew _ _ (HT.out.below ((Below.refl _ _).drew))
            obtain ⟨T2, hTT2⟩ : ∃ T : ByteArray, T = ⟨(fourB x).toArray⟩ := ⟨_, rfl⟩
            obtain ⟨T1, hTT1⟩ : ∃ T : ByteArray, T = ⟨(fourB y).toArray⟩ := ⟨_, rfl⟩
            have hne : (T1.toList == T2.toList) = false := by
              rw [beq_eq_false_iff_ne]
              intro h
              rw [hTT1, hTT2, ByteArray.toList_mk, ByteArray.toList_mk] at h
              have e1 := wordV_fourB y [] hcl
              have e2 := wordV_fourB x [] hwl
              rw [h] at e1
              exact hxy (by rw [← e2, e1])
            rw [← hTT2] at hcs0
            have HTT1 := hid hTT1
            have HTT2 := hid hTT2
            clear hTT1 hTT2 hcl hwl
            go_wp2_with fail
            go_region_with (first
              | (go_at_call 67; refine (refCRC_any _ (r.take k) _ (HH.out.below ((Below.refl _ _).drew))).mono ?_; rintro e w2 ⟨rfl, rfl⟩; rw [← HY.out])
              | (go_at_call 66; refine (refFour_any y _ hy2).mono ?_; rintro e w3 ⟨va3, rfl, ho3, hb3⟩; have hcs3 := conv_string w3 _ _ ho3.bts; have hcs4 := conv_string w3 _ _ ((HT.out.below ((Below.refl _ _).drew)).below hb3); rw [← HTT1.out] at hcs3; rw [← HTT2.out] at hcs4; have HB3 := hid hb3; clear ho3 hb3))
            all_goals
              have HB3' := hid (HB0.out.trans (((Below.refl w1.heap.size w1).drew.trans HB3.out).mono (by rw [HS0.out]; exact Nat.le_refl _)))
              go_wp2
              go_ret3
              exact ⟨none, 0, 0, 0, 3, rfl, by unfold RefV; rw [HUE.out]; exact ⟨rfl, rfl, rfl, rfl, rfl⟩, HB3'.out⟩
end Go.Proofs.Ytpchmdfkifbciaa
