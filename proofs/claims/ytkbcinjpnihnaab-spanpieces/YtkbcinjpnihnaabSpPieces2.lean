/- The law SpanPieces, walked. Conditions: the numbers are ints. -/
import Derived.Test.YtkbcinjpnihnaabSpPieces
namespace Go.Proofs.Ytkbcinjpnihnaab
open Go.RowKit Go.Shelf

theorem rem_u (n m : Int) (h0 : 0 ≤ n) : n.tmod m = n % m := Int.tmod_eq_emod_of_nonneg h0
/-- How the quotient of n and that of n-1 go together. -/
theorem quo_pair (n m : Int) (_ : 1 ≤ n) (hm : 1 ≤ m) : (n % m = 0 → n / m = (n - 1) / m + 1) ∧ (n % m ≠ 0 → n / m = (n - 1) / m) := by
  have e1 := Int.mul_ediv_add_emod n m
  have e2 := Int.mul_ediv_add_emod (n - 1) m
  have r1 := Int.emod_nonneg n (show m ≠ 0 by omega)
  have r2 := Int.emod_lt_of_pos n (show 0 < m by omega)
  have s1 := Int.emod_nonneg (n - 1) (show m ≠ 0 by omega)
  have s2 := Int.emod_lt_of_pos (n - 1) (show 0 < m by omega)
  constructor
  · intro h
    have : (n - 1) / m = n / m - 1 := by
      have : n - 1 = (m - 1) + m * (n / m - 1) := by rw [Int.mul_sub, Int.mul_one]; omega
      rw [this, Int.add_mul_ediv_left _ _ (by omega), Int.ediv_eq_zero_of_lt (by omega) (by omega)]
      omega
    omega
  · intro h
    have h0 : 1 ≤ n % m := by omega
    have e : n - 1 = (n % m - 1) + m * (n / m) := by omega
    have h3 : (n - 1) / m = (n % m - 1) / m + n / m := by
      conv => lhs; rw [e]
      exact Int.add_mul_ediv_left _ _ (by omega)
    rw [Int.ediv_eq_zero_of_lt (show 0 ≤ n % m - 1 by omega) (show n % m - 1 < m by omega)] at h3
    omega
set_option maxRecDepth 100000 in
set_option maxHeartbeats 4000000 in
theorem pieces_A (f t m : Int) (w : World) (hf : I64 f) (ht : I64 t) (hm : I64 m) (h : m < 1 ∨ t ≤ f) :
    Calls Try.prog 6 #[.agg #[.int .i64 f, .int .i64 t], .int .i64 m] w fun e w' => e = .returned (.bool true) ∧ Below w.heap.size w w' := by
  have HB := hid ((Below.refl w.heap.size w).alloc (Nat.le_refl _) (.cells #[.int .i64 f, .int .i64 t] 29))
  have HN := hid (heap_alloc_new w (.cells #[.int .i64 f, .int .i64 t] 29))
  have HC := hid (fun W => pieces_none f t m W hf ht hm (by omega))
  clear hf ht hm
  by_cases h1 : m < 1
  · have hd1 : decide (m < 1) = true := decide_eq_true h1
    clear h h1
    go_enter Try.func6, Try.ntmps6
    go_wp2_with (first | (go_at_call 19; refine (HC.out _).mono ?_; rintro e w1 ⟨rfl, hb1⟩; have B1 := hid (HB.out.trans (hb1.mono HB.out.size)); clear hb1) | (go_at_call 15; refine (lives_any _).mono ?_; rintro e w9 ⟨rfl, hb9⟩; have B9 := hid (B1.out.trans (hb9.mono B1.out.size)); clear hb9))
    go_ret
    exact ⟨rfl, B9.out⟩
  · have hd1 : decide (m < 1) = false := decide_eq_false h1
    have hd2 : decide (t ≤ f) = true := decide_eq_true (by omega)
    clear h h1
    go_enter Try.func6, Try.ntmps6
    go_wp2_with (first | (go_at_call 19; refine (HC.out _).mono ?_; rintro e w1 ⟨rfl, hb1⟩; have hk := (hb1.block w.heap.size (by simp)).trans HN.out; have c0 : w1.cell? ⟨w.heap.size, 0, none⟩ = some (.int .i64 f) := (by rw [cell_of_row _ _ _ _ _ _ hk]; rfl); have c1 : w1.cell? ⟨w.heap.size, 1, none⟩ = some (.int .i64 t) := (by rw [cell_of_row _ _ _ _ _ _ hk]; rfl); have B1 := hid (HB.out.trans (hb1.mono HB.out.size)); clear hb1 hk) | (go_at_call 15; refine (lives_any _).mono ?_; rintro e w9 ⟨rfl, hb9⟩; have B9 := hid (B1.out.trans (hb9.mono B1.out.size)); clear hb9))
    go_ret
    exact ⟨rfl, B9.out⟩
set_option maxRecDepth 100000 in
set_option maxHeartbeats 4000000 in
theorem pieces_B (f t m : Int) (w : World) (hf : I64 f) (ht : I64 t) (hm : I64 m) (h1 : f < t) (h2 : 1 ≤ m) (h3 : 4096 ≤ (t - f - 1) / m) :
    Calls Try.prog 6 #[.agg #[.int .i64 f, .int .i64 t], .int .i64 m] w fun e w' => e = .returned (.bool true) ∧ Below w.heap.size w w' := by
  have HB := hid ((Below.refl w.heap.size w).alloc (Nat.le_refl _) (.cells #[.int .i64 f, .int .i64 t] 29))
  have HN := hid (heap_alloc_new w (.cells #[.int .i64 f, .int .i64 t] 29))
  have HC := hid (fun W => pieces_none f t m W hf ht hm (by omega))
  have hd1 : decide (m < 1) = false := decide_eq_false (by omega)
  have hd2 : decide (t ≤ f) = false := decide_eq_false (by omega)
  have ws := wrap_subP f t h1 hf ht
  have wm : IntKind.u64.wrap m = m := wrap_u m (by omega) (by have := hm.2; omega)
  have hq := quo_pair (t - f) m (by omega) h2
  have wd := quo_u (t - f) m (by omega) (by have := hf.1; have := ht.2; omega) h2
  have wr := rem_u (t - f) m (by omega)
  obtain ⟨r, hr⟩ : ∃ r, r = (t - f) % m := ⟨_, rfl⟩
  obtain ⟨d, hd⟩ : ∃ d, d = (t - f) / m := ⟨_, rfl⟩
  have hdb : d ≤ t - f := by rw [hd]; exact Int.ediv_le_self m (by omega)
  rw [← hr] at wr hq
  rw [← hd] at wd hq
  by_cases h0 : r = 0
  · have hr0 : (r != 0) = false := by simp [h0]
    have hdd : decide (4096 < d) = true := decide_eq_true (by have := hq.1 h0; omega)
    clear hq hr hd hdb h3 hf ht hm h0 h1
    go_enter Try.func6, Try.ntmps6
    go_wp2_with (first | (go_at_call 19; refine (HC.out _).mono ?_; rintro e w1 ⟨rfl, hb1⟩; have hk := (hb1.block w.heap.size (by simp)).trans HN.out; have c0 : w1.cell? ⟨w.heap.size, 0, none⟩ = some (.int .i64 f) := (by rw [cell_of_row _ _ _ _ _ _ hk]; rfl); have c1 : w1.cell? ⟨w.heap.size, 1, none⟩ = some (.int .i64 t) := (by rw [cell_of_row _ _ _ _ _ _ hk]; rfl); have B1 := hid (HB.out.trans (hb1.mono HB.out.size)); clear hb1 hk) | (go_at_call 15; refine (lives_any _).mono ?_; rintro e w9 ⟨rfl, hb9⟩; have B9 := hid (B1.out.trans (hb9.mono B1.out.size)); clear hb9))
    go_ret
    exact ⟨rfl, B9.out⟩
  · have hr0 : (r != 0) = true := by simpa using h0
    have wp : IntKind.u64.wrap (d + 1) = d + 1 := wrap_u _ (by have := hq.2 h0; omega) (by have := hq.2 h0; have := Int.ediv_le_self m (show 0 ≤ t - f - 1 by omega); have := hf.1; have := ht.2; omega)
    have hdd : decide (4096 < d + 1) = true := decide_eq_true (by have := hq.2 h0; omega)
    clear hq hr hd hdb h3 hf ht hm h0 h1
    go_enter Try.func6, Try.ntmps6
    go_wp2_with (first | (go_at_call 19; refine (HC.out _).mono ?_; rintro e w1 ⟨rfl, hb1⟩; have hk := (hb1.block w.heap.size (by simp)).trans HN.out; have c0 : w1.cell? ⟨w.heap.size, 0, none⟩ = some (.int .i64 f) := (by rw [cell_of_row _ _ _ _ _ _ hk]; rfl); have c1 : w1.cell? ⟨w.heap.size, 1, none⟩ = some (.int .i64 t) := (by rw [cell_of_row _ _ _ _ _ _ hk]; rfl); have B1 := hid (HB.out.trans (hb1.mono HB.out.size)); clear hb1 hk) | (go_at_call 15; refine (lives_any _).mono ?_; rintro e w9 ⟨rfl, hb9⟩; have B9 := hid (B1.out.trans (hb9.mono B1.out.size)); clear hb9))
    go_ret
    exact ⟨rfl, B9.out⟩
theorem pcs0_at (f m : Int) (q i : Nat) (h : i < q) : (pcs0 f m q)[i]'(by rw [pcs0_len]; exact h) = (f + i * m, f + (i + 1 : Nat) * m) := by
  induction q with
  | zero => omega
  | succ q ih =>
    simp only [pcs0]
    by_cases hi : i < q
    · rw [List.getElem_append_left (by rw [pcs0_len]; exact hi)]; exact ih hi
    · obtain rfl : i = q := by omega
      rw [List.getElem_append_right (by rw [pcs0_len]; omega)]
      simp [pcs0_len]
/-- The pieces, one by one. -/
theorem pcs_at (f t m : Int) (q i : Nat) (h : i ≤ q) : (pcs0 f m q ++ [(f + q * m, t)])[i]'(by simp [pcs0_len]; omega) = (f + i * m, if i < q then f + i * m + m else t) := by
  by_cases hi : i < q
  · rw [List.getElem_append_left (by rw [pcs0_len]; exact hi), pcs0_at f m q i hi, if_pos hi, next_mul]
  · obtain rfl : i = q := by omega
    rw [List.getElem_append_right (by rw [pcs0_len]; omega), if_neg hi]
    simp [pcs0_len]
set_option maxRecDepth 100000 in
set_option maxHeartbeats 8000000 in
theorem pieces_C (f t m : Int) (w : World) (hf : I64 f) (ht : I64 t) (hm : I64 m) (h1 : f < t) (h2 : 1 ≤ m) (q : Nat) (hq0 : q = ((t - f - 1) / m).toNat) (h3 : q < 4096) :
    Calls Try.prog 6 #[.agg #[.int .i64 f, .int .i64 t], .int .i64 m] w fun e w' => e = .returned (.bool true) ∧ Below w.heap.size w w' := by
  have HPQ : Hid (PcQ f t m q) := hid (by rw [hq0]; exact PcQ.of h1 h2)
  have HB := hid ((Below.refl w.heap.size w).alloc (Nat.le_refl _) (.cells #[.int .i64 f, .int .i64 t] 29))
  have HN := hid (heap_alloc_new w (.cells #[.int .i64 f, .int .i64 t] 29))
  have HC := hid (fun W => pieces_some f t m W hf ht hm h1 h2 q hq0 h3)
  have hd1 : decide (m < 1) = false := decide_eq_false (by omega)
  have hd2 : decide (t ≤ f) = false := decide_eq_false (by omega)
  have ws := wrap_subP f t h1 hf ht
  have wm : IntKind.u64.wrap m = m := wrap_u m (by omega) (by have := hm.2; omega)
  have hq := quo_pair (t - f) m (by omega) h2
  have wd := quo_u (t - f) m (by omega) (by have := hf.1; have := ht.2; omega) h2
  have wr := rem_u (t - f) m (by omega)
  have h0' : 0 ≤ (t - f - 1) / m := Int.ediv_nonneg (by omega) (by omega)
  have hqi : (q : Int) = (t - f - 1) / m := by rw [hq0, Int.toNat_of_nonneg h0']
  rw [← hqi] at hq
  obtain ⟨r, hr⟩ : ∃ r, r = (t - f) % m := ⟨_, rfl⟩
  rw [← hr] at wr hq
  have HF := hid hf
  have HT := hid ht
  have HM := hid hm
  have wl : IntKind.u64.wrap ((q : Int) + 1) = (q : Int) + 1 := wrap_u _ (by omega) (by omega)
  have hne : ((q : Int) + 1 != (q : Int) + 1) = false := by simp
  have hdd : decide (4096 < (q : Int) + 1) = false := decide_eq_false (by omega)
  have htt : (t == t) = true := by simp
  by_cases h0 : r = 0
  case' pos =>
    have hr0 : (r != 0) = false := by simp [h0]
    rw [hq.1 h0] at wd
  case' neg =>
    have hr0 : (r != 0) = true := by simpa using h0
    rw [hq.2 h0] at wd
  all_goals
    clear hq hr h0 hf ht hm hqi h0' hq0
    go_enter Try.func6, Try.ntmps6
    go_wp2_with (first | (go_at_call 19; refine (HC.out _).mono ?_; rintro e w1 ⟨va, vc, rfl, ho1, hb1⟩; have hk := (hb1.block w.heap.size (by simp)).trans HN.out; have c0 : w1.cell? ⟨w.heap.size, 0, none⟩ = some (.int .i64 f) := (by rw [cell_of_row _ _ _ _ _ _ hk]; rfl); have c1 : w1.cell? ⟨w.heap.size, 1, none⟩ = some (.int .i64 t) := (by rw [cell_of_row _ _ _ _ _ _ hk]; rfl); have B1 := hid (HB.out.trans (hb1.mono HB.out.size)); have O1 := hid ho1.sps; have K1 := hid hk; clear hb1 hk ho1))
  all_goals
    go_loopw [4, 8, 9, 10, 11, 65] (fun _ av _ _ _ xv wr => ∃ (i : Nat) (a : Int), xv = .int .i64 i ∧ av = .int .i64 a ∧ i ≤ q + 1 ∧ (a = if i ≤ q then f + (i : Int) * m else t) ∧ Below w1.heap.size w1 wr) (fun _ _ _ _ _ xv _ => q + 1 - (intOf xv).toNat)
    case atStart => exact ⟨0, f, rfl, rfl, Nat.zero_le _, by simp, Below.refl _ _⟩
    case round =>
      obtain ⟨i, a, rfl, rfl, hi, ha, hb⟩ := hrel
      have BE := hid hb
      have hsz := hb.size
      have HSW := hid (O1.out.below hb)
      have hk := (hb.block _ (lt_of_block K1.out)).trans K1.out
      have d1 : wr.cell? ⟨w.heap.size, 1, none⟩ = some (.int .i64 t) := by rw [cell_of_row _ _ _ _ _ _ hk]; rfl
      clear hb hk c0 c1
      by_cases hlt : i ≤ q
      · have hltI : (i : Int) < (q : Int) + 1 := by omega
        have hlen : (pcs0 f m q ++ [(f + (q : Int) * m, t)]).length = q + 1 := by simp [pcs0_len]
        have hsw := HSW.out
        rw [← hlen] at hsw
        obtain ⟨b, o, rfl⟩ := hsw.addr (by omega)
        obtain ⟨z0, z1⟩ := hsw.lit i (by omega)
        rw [pcs_at f t m q i hlt] at z0 z1
        rw [if_pos hlt] at ha
        obtain ⟨a1, a2, a3⟩ := HPQ.out.at h2 i hlt
        have q1 := HPQ.out.lo
        have q2 := HPQ.out.hi
        have HNX := hid (next_mul f m i)
        rw [← ha] at z0 z1 HNX
        obtain ⟨e, he⟩ : ∃ e, e = if i < q then a + m else t := ⟨_, rfl⟩
        simp only [← he] at z1
        have hae : a < e := by rw [he]; split <;> omega
        have haI : I64 a := ⟨by have := HF.out.1; omega, by have := HT.out.2; omega⟩
        have heI : I64 e := by
          rw [he]; split
          · rename_i hh; have := a3 hh; exact ⟨by have := HF.out.1; omega, by have := HT.out.2; omega⟩
          · exact HT.out
        have g1 : decide (e ≤ a) = false := decide_eq_false (by omega)
        have g2 := wrap_subP a e hae haI heI
        have g3 : decide (m < e - a) = false := decide_eq_false (by
          rw [he]; split
          · omega
          · have : i = q := by omega
            subst this; omega)
        have g0 : (a != a) = false := by simp
        have HNA : Hid (e = if i + 1 ≤ q then f + ((i + 1 : Nat) : Int) * m else t) := hid (by
          rw [he]
          by_cases hh : i < q
          · rw [if_pos hh, if_pos (by omega), HNX.out]
          · rw [if_neg hh, if_neg (by omega)])
        have BX := hid (BE.out.alloc hsz (.cells #[.int .i64 a, .int .i64 e] 29))
        by_cases hh : i < q
        · have g4 : decide (i < q) = true := decide_eq_true hh
          have g6 : decide ((i : Int) < (q : Int)) = true := decide_eq_true (by omega)
          have g5 : (e - a != m) = false := by rw [he, if_pos hh]; simp; omega
          clear ha a1 a2 a3 q1 q2 he hae haI heI hsw hlen hh HNX
          go_wp2_with fail
          go_roundw
          case rel => exact ⟨i + 1, e, by go_num, rfl, by omega, HNA.out, BX.out⟩
          case measure => simp [intOf]; omega
        · have g4 : decide (i < q) = false := decide_eq_false hh
          have g6 : decide ((i : Int) < (q : Int)) = false := decide_eq_false (by omega)
          clear ha a1 a2 a3 q1 q2 he hae haI heI hsw hlen hh HNX
          go_wp2_with fail
          go_roundw
          case rel => exact ⟨i + 1, e, by go_num, rfl, by omega, HNA.out, BX.out⟩
          case measure => simp [intOf]; omega
      · have hltI : ¬ (i : Int) < (q : Int) + 1 := by omega
        rw [if_neg hlt] at ha
        subst ha
        go_wp2_with (first | (go_at_call 15; refine (lives_any _).mono ?_; rintro e w9 ⟨rfl, hb9⟩; have B9 := hid (B1.out.trans ((BE.out.trans (hb9.mono hsz)).mono B1.out.size)); clear hb9))
        go_ret
        exact ⟨rfl, B9.out⟩
theorem piecess_any (x : Sp) (m : Int) (w : World) (hx : SpI x) (hm : I64 m) :
    Calls Try.prog 6 #[.agg #[.int .i64 x.1, .int .i64 x.2], .int .i64 m] w fun e w' => e = .returned (.bool true) ∧ Below w.heap.size w w' := by
  by_cases h1 : m < 1 ∨ x.2 ≤ x.1
  · exact pieces_A x.1 x.2 m w hx.1 hx.2 hm h1
  · by_cases h3 : 4096 ≤ (x.2 - x.1 - 1) / m
    · exact pieces_B x.1 x.2 m w hx.1 hx.2 hm (by omega) (by omega) h3
    · have h0' : 0 ≤ (x.2 - x.1 - 1) / m := Int.ediv_nonneg (by omega) (by omega)
      exact pieces_C x.1 x.2 m w hx.1 hx.2 hm (by omega) (by omega) _ rfl (by omega)
end Go.Proofs.Ytkbcinjpnihnaab
