/- The law SpanCounts, walked. Conditions: the rows lie in memory, their numbers are ints. -/
import Derived.Test.YtkbcinjpnihnaaaSpCount
namespace Go.Proofs.Ytkbcinjpnihnaaa
open Go.RowKit Go.Shelf

theorem plain_I2 {a r : List Sp} (hp : PlainL r) (hm : ∀ k, InL r k → InL a k) (hI : ∀ x ∈ a, SpI x) : ∀ x ∈ r, SpI x := by
  intro x hx
  have h1 := hp.1 x hx
  obtain ⟨y, hy, y1, y2⟩ := hm x.1 ⟨x, hx, by omega, h1⟩
  obtain ⟨z, hz, z1, z2⟩ := hm (x.2 - 1) ⟨x, hx, by omega, by omega⟩
  have := (hI y hy).1.1
  have := (hI y hy).2.2
  have := (hI z hz).2.2
  have := (hI z hz).1.1
  exact ⟨⟨by omega, by omega⟩, ⟨by omega, by omega⟩⟩
theorem hasB_or {a b j : List Sp} (h : ∀ k, InL j k ↔ InL (a ++ b) k) (k : Int) : hasB j k = (hasB a k || hasB b k) := by
  apply Bool.eq_iff_iff.2
  rw [Bool.or_eq_true, hasB_iff, hasB_iff, hasB_iff, h k, InL_append]
theorem hasB_and {a b j : List Sp} (h : ∀ k, InL j k ↔ InL a k ∧ InL b k) (k : Int) : hasB j k = (hasB a k && hasB b k) := by
  apply Bool.eq_iff_iff.2
  rw [Bool.and_eq_true, hasB_iff, hasB_iff, hasB_iff, h k]
theorem hasB_not {a b j : List Sp} (h : ∀ k, InL j k ↔ InL a k ∧ ¬ InL b k) (k : Int) : hasB j k = (hasB a k && !hasB b k) := by
  apply Bool.eq_iff_iff.2
  rw [Bool.and_eq_true, hasB_iff, hasB_iff, h k]
  have h2 := hasB_iff b k
  cases hb : hasB b k <;> simp [hb] at h2 <;> simp [h2]
theorem hasB_norm {a j : List Sp} (h : ∀ k, InL j k ↔ InL a k) (k : Int) : hasB j k = hasB a k := by
  apply Bool.eq_iff_iff.2
  rw [hasB_iff, hasB_iff, h k]
set_option maxRecDepth 100000 in
set_option maxHeartbeats 6400000 in
theorem counts_any (u v : Value) (l m : List Sp) (w0 : World) (hu : Sps w0 u l) (hv : Sps w0 v m) (hI : ∀ z ∈ l, SpI z) (hJ : ∀ z ∈ m, SpI z) :
    Calls Try.prog 8 #[u, v] w0 fun e w' => e = .returned (.bool true) ∧ Below w0.heap.size w0 w' := by
  have HU := hid hu
  have HV := hid hv
  have Ia : Hid (∀ z ∈ l.take 60, SpI z) := hid fun z hz => hI z (List.mem_of_mem_take hz)
  have Ib : Hid (∀ z ∈ m.take 60, SpI z) := hid fun z hz => hJ z (List.mem_of_mem_take hz)
  obtain ⟨a0, c0, rfl⟩ := hu.shape
  obtain ⟨a1, c1, rfl⟩ := hv.shape
  clear hu hv hI hJ
  go_enter Try.func8, Try.ntmps8
  go_wp2_with fail
  refine (cut_any _ l _ HU.out).mono ?_
  rintro e wz ⟨va, ca, rfl, hs, rfl⟩
  have ha : (l.take 60).length ≤ 60 := by simp; omega
  generalize l.take 60 = a at hs ha Ia ⊢
  have Sa0 := hid hs
  clear hs
  go_wp2_with fail
  refine (cut_any _ m _ HV.out).mono ?_
  rintro e wz ⟨vb, cb, rfl, hs, rfl⟩
  have hb : (m.take 60).length ≤ 60 := by simp; omega
  generalize m.take 60 = b at hs hb Ib ⊢
  have Sb0 := hid hs
  clear hs
  clear HU HV
  have B0 := hid (Below.refl wz.heap.size wz)
  go_wp2_with fail
  refine (norm_any _ a _ Sa0.out (by omega)).mono ?_
  rintro e w1 ⟨N, v1, c1, hn, rfl, ho, hb⟩
  have MN := hid hn.mem
  have LN := hid hn.plain
  have hN : N.length ≤ 2000 := by have := hn.len; omega
  have SN1 := hid ho.sps
  have B1 := hid (B0.out.trans (hb.mono B0.out.size))
  have Sa1 := hid (Sa0.out.below hb)
  have Sb1 := hid (Sb0.out.below hb)
  clear Sa0
  clear Sb0
  clear hn ho hb B0
  have IN := hid (plain_I2 (a := a) LN.out (fun k hk => (MN.out k).1 hk) Ia.out)
  go_wp2_with fail
  go_loopw [5, 7, 15] (fun nv _ iv wr => ∃ (i : Nat) (n : Int), iv = .int .i64 i ∧ nv = .int .u64 n ∧ i ≤ N.length ∧ n = cntL (N.take i) ∧ Below w1.heap.size w1 wr) (fun _ _ iv _ => N.length - (intOf iv).toNat)
  case atStart => exact ⟨0, 0, rfl, rfl, Nat.zero_le _, rfl, Below.refl _ _⟩
  case round =>
    obtain ⟨i, n, rfl, rfl, hi, hn, hb⟩ := hrel
    have HN := hid hn
    have BE := hid hb
    have hsz := hb.size
    clear hn hb
    by_cases hlt : i < N.length
    · have hltI : (i : Int) < (N.length : Int) := by omega
      have HSW := hid (SN1.out.below BE.out)
      obtain ⟨b, o, rfl⟩ := HSW.out.addr (by omega)
      obtain ⟨z0, z1⟩ := HSW.out.lit i hlt
      obtain ⟨e1, e2, e3, e4⟩ := cnt_next LN.out IN.out i hlt
      rw [← HN.out] at e1 e2
      have E1 := hid e1
      have e5 := wrap_sub _ _ e3 e4.1 e4.2
      obtain ⟨x, hx⟩ : ∃ x, x = N[i] := ⟨_, rfl⟩
      rw [← hx] at z0 z1 E1 e2 e5
      clear hx e1 e3 e4
      obtain ⟨s, t⟩ := x
      simp only at E1 e2 e5 z0 z1
      have bX : Below wr.heap.size wr (wr.alloc (.cells #[.int .i64 s, .int .i64 t] 30)) := (Below.refl _ _).alloc (Nat.le_refl _) _
      have BX := hid (BE.out.trans (bX.mono hsz))
      clear bX
      go_wp2_with fail
      go_roundw
      case rel => exact ⟨i + 1, n + (t - s), by go_num, rfl, by omega, E1.out.symm, BX.out⟩
      case measure => simp [intOf]; omega
    · have hltI : ¬ (i : Int) < (N.length : Int) := by omega
      obtain rfl : i = N.length := by omega
      rw [List.take_length] at HN
      obtain rfl : n = cntL N := HN.out
      have B1' := hid (B1.out.trans (BE.out.mono B1.out.size))
      have Sa1' := hid (Sa1.out.below BE.out)
      have Sb1' := hid (Sb1.out.below BE.out)
      have SN1' := hid (SN1.out.below BE.out)
      clear B1 Sa1 Sb1 SN1 HN BE
      have B1 := B1'
      have Sa1 := Sa1'
      have Sb1 := Sb1'
      have SN1 := SN1'
      clear B1' Sa1' Sb1' SN1'
      go_wp2_with fail
      refine (count_any _ a _ Sa1.out (by omega) Ia.out).mono ?_
      rintro e w2 ⟨Z, hn, rfl, hb⟩
      have hz : Z = N := plain_unique hn.plain LN.out fun k => by rw [hn.mem k, MN.out k]
      have B2 := hid (B1.out.trans (hb.mono B1.out.size))
      have Sa2 := hid (Sa1.out.below hb)
      have Sb2 := hid (Sb1.out.below hb)
      have SN2 := hid (SN1.out.below hb)
      clear Sa1
      clear Sb1
      clear SN1
      rw [hz]
      clear hz hn hb B1 Z
      have hq0 : (cntL N == cntL N) = true := by simp
      go_wp2_with fail
      refine (join_any _ _ a b _ Sa2.out Sb2.out (by omega) (by omega)).mono ?_
      rintro e w3 ⟨J, v3, c3, hn, rfl, ho, hb⟩
      have MJ := hid hn.mem
      have LJ := hid hn.plain
      have hJ : J.length ≤ 2000 := by have := hn.len; simp at this; omega
      have SJ3 := hid ho.sps
      have B3 := hid (B2.out.trans (hb.mono B2.out.size))
      have Sa3 := hid (Sa2.out.below hb)
      have Sb3 := hid (Sb2.out.below hb)
      have SN3 := hid (SN2.out.below hb)
      clear Sa2
      clear Sb2
      clear SN2
      clear hn ho hb B2
      have IJ := hid (plain_I2 (a := a ++ b) LJ.out (fun k hk => (MJ.out k).1 hk) (fun x hx => by rcases List.mem_append.1 hx with h | h; exact Ia.out x h; exact Ib.out x h))
      go_wp2_with fail
      refine (count_any _ J _ SJ3.out (by omega) IJ.out).mono ?_
      rintro e w4 ⟨Z, hn, rfl, hb⟩
      have hz : Z = J := plain_unique hn.plain LJ.out fun k => hn.mem k
      have B4 := hid (B3.out.trans (hb.mono B3.out.size))
      have Sa4 := hid (Sa3.out.below hb)
      have Sb4 := hid (Sb3.out.below hb)
      have SN4 := hid (SN3.out.below hb)
      clear Sa3
      clear Sb3
      clear SN3
      rw [hz]
      clear hz hn hb B3 Z
      go_wp2_with fail
      refine (meet_any _ _ a b _ Sa4.out Sb4.out (by omega) (by omega)).mono ?_
      rintro e w5 ⟨M, v5, c5, hn, rfl, ho, hb⟩
      have MM := hid hn.mem
      have LM := hid hn.plain
      have hM : M.length ≤ 2000 := by have := hn.len; omega
      have SM5 := hid ho.sps
      have B5 := hid (B4.out.trans (hb.mono B4.out.size))
      have Sa5 := hid (Sa4.out.below hb)
      have Sb5 := hid (Sb4.out.below hb)
      have SN5 := hid (SN4.out.below hb)
      clear Sa4
      clear Sb4
      clear SN4
      clear hn ho hb B4
      have IM := hid (plain_I2 (a := a) LM.out (fun k hk => ((MM.out k).1 hk).1) Ia.out)
      go_wp2_with fail
      refine (count_any _ M _ SM5.out (by omega) IM.out).mono ?_
      rintro e w6 ⟨Z, hn, rfl, hb⟩
      have hz : Z = M := plain_unique hn.plain LM.out fun k => hn.mem k
      have B6 := hid (B5.out.trans (hb.mono B5.out.size))
      have Sa6 := hid (Sa5.out.below hb)
      have Sb6 := hid (Sb5.out.below hb)
      have SN6 := hid (SN5.out.below hb)
      clear Sa5
      clear Sb5
      clear SN5
      rw [hz]
      clear hz hn hb B5 Z
      go_wp2_with fail
      refine (count_any _ a _ Sa6.out (by omega) Ia.out).mono ?_
      rintro e w7 ⟨Z, hn, rfl, hb⟩
      have hz : Z = N := plain_unique hn.plain LN.out fun k => by rw [hn.mem k, MN.out k]
      have B7 := hid (B6.out.trans (hb.mono B6.out.size))
      have Sa7 := hid (Sa6.out.below hb)
      have Sb7 := hid (Sb6.out.below hb)
      have SN7 := hid (SN6.out.below hb)
      clear Sa6
      clear Sb6
      clear SN6
      rw [hz]
      clear hz hn hb B6 Z
      go_wp2_with fail
      refine (count_any _ b _ Sb7.out (by omega) Ib.out).mono ?_
      rintro e w8 ⟨O, hn, rfl, hb⟩
      have LO := hid hn.plain
      have MO := hid hn.mem
      have IO := hid (norm_I hn Ib.out)
      have B8 := hid (B7.out.trans (hb.mono B7.out.size))
      have Sa8 := hid (Sa7.out.below hb)
      have Sb8 := hid (Sb7.out.below hb)
      have SN8 := hid (SN7.out.below hb)
      clear Sa7
      clear Sb7
      clear SN7
      clear hn hb B7
      have hq1 : (IntKind.u64.wrap (cntL J + cntL M) == IntKind.u64.wrap (cntL N + cntL O)) = true := by
        rw [cnt_pairs LJ.out LM.out LN.out LO.out IJ.out IM.out IN.out IO.out fun k => by rw [hasB_or MJ.out k, hasB_and MM.out k, hasB_norm MN.out k, hasB_norm MO.out k]; cases hasB a k <;> cases hasB b k <;> rfl]
        simp
      go_wp2_with fail
      refine (cutS_any _ _ a b _ Sa8.out Sb8.out (by omega) (by omega) Ia.out Ib.out).mono ?_
      rintro e w9 ⟨X, v9, c9, hn, rfl, ho, hb⟩
      have MX := hid hn.mem
      have LX := hid hn.plain
      have hX : X.length ≤ 2000 := by have := hn.len; omega
      have SX9 := hid ho.sps
      have B9 := hid (B8.out.trans (hb.mono B8.out.size))
      have Sa9 := hid (Sa8.out.below hb)
      have Sb9 := hid (Sb8.out.below hb)
      have SN9 := hid (SN8.out.below hb)
      clear Sa8
      clear Sb8
      clear SN8
      clear hn ho hb B8
      have IX := hid (plain_I2 (a := a) LX.out (fun k hk => ((MX.out k).1 hk).1) Ia.out)
      clear hq1
      go_wp2_with fail
      refine (count_any _ X _ SX9.out (by omega) IX.out).mono ?_
      rintro e w10 ⟨Z, hn, rfl, hb⟩
      have hz : Z = X := plain_unique hn.plain LX.out fun k => hn.mem k
      have B10 := hid (B9.out.trans (hb.mono B9.out.size))
      have Sa10 := hid (Sa9.out.below hb)
      have Sb10 := hid (Sb9.out.below hb)
      have SN10 := hid (SN9.out.below hb)
      clear Sa9
      clear Sb9
      clear SN9
      rw [hz]
      clear hz hn hb B9 Z
      go_wp2_with fail
      refine (meet_any _ _ a b _ Sa10.out Sb10.out (by omega) (by omega)).mono ?_
      rintro e w11 ⟨Y, v11, c11, hn, rfl, ho, hb⟩
      have MY := hid hn.mem
      have LY := hid hn.plain
      have hY : Y.length ≤ 2000 := by have := hn.len; omega
      have SY11 := hid ho.sps
      have B11 := hid (B10.out.trans (hb.mono B10.out.size))
      have Sa11 := hid (Sa10.out.below hb)
      have Sb11 := hid (Sb10.out.below hb)
      have SN11 := hid (SN10.out.below hb)
      clear Sa10
      clear Sb10
      clear SN10
      clear hn ho hb B10
      have IY := hid (plain_I2 (a := a) LY.out (fun k hk => ((MY.out k).1 hk).1) Ia.out)
      go_wp2_with fail
      refine (count_any _ Y _ SY11.out (by omega) IY.out).mono ?_
      rintro e w12 ⟨Z, hn, rfl, hb⟩
      have hz : Z = Y := plain_unique hn.plain LY.out fun k => hn.mem k
      have B12 := hid (B11.out.trans (hb.mono B11.out.size))
      have Sa12 := hid (Sa11.out.below hb)
      have Sb12 := hid (Sb11.out.below hb)
      have SN12 := hid (SN11.out.below hb)
      clear Sa11
      clear Sb11
      clear SN11
      rw [hz]
      clear hz hn hb B11 Z
      go_wp2_with fail
      refine (count_any _ a _ Sa12.out (by omega) Ia.out).mono ?_
      rintro e w13 ⟨Z, hn, rfl, hb⟩
      have hz : Z = N := plain_unique hn.plain LN.out fun k => by rw [hn.mem k, MN.out k]
      have B13 := hid (B12.out.trans (hb.mono B12.out.size))
      have Sa13 := hid (Sa12.out.below hb)
      have Sb13 := hid (Sb12.out.below hb)
      have SN13 := hid (SN12.out.below hb)
      clear Sa12
      clear Sb12
      clear SN12
      rw [hz]
      clear hz hn hb B12 Z
      have hq2 : (IntKind.u64.wrap (cntL X + cntL Y) == cntL N) = true := by
        have h := cnt_pairs LX.out LY.out LN.out (⟨by simp, by simp⟩ : PlainL []) IX.out IY.out IN.out (by simp) fun k => by rw [hasB_not MX.out k, hasB_and MY.out k, hasB_norm MN.out k]; cases hasB a k <;> cases hasB b k <;> rfl
        have hb := cntL_bound N LN.out IN.out
        simp only [cntL] at h
        rw [h, Int.add_zero, wrap_add _ hb.1 hb.2]
        simp
      go_wp2_with fail
      refine (lives_any _).mono ?_
      rintro e wl ⟨rfl, hb⟩
      have BL := hid (B13.out.trans (hb.mono B13.out.size))
      clear hb
      go_wp2_with fail
      go_ret
      exact ⟨rfl, BL.out⟩
end Go.Proofs.Ytkbcinjpnihnaaa
