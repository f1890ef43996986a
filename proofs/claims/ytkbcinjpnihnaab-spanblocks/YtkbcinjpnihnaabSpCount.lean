/- How many blocks a plain row has: plain facts. What size and Count answer. Conditions: the rows lie in memory, the numbers are ints. -/
import Derived.Test.YtkbcinjpnihnaabSpCut
import Derived.Test.YtkbcinjpnihnaabSpJoin
import Derived.Test.YtkbcinjpnihnaabSpNorms
namespace Go.Proofs.Ytkbcinjpnihnaab
open Go.RowKit Go.Shelf

/-- How many of the n numbers from lo on. -/
def cntP (p : Int → Bool) (lo : Int) : Nat → Int
  | 0 => 0
  | n + 1 => cntP p lo n + (if p (lo + n) = true then 1 else 0)
theorem cntP_same {p q r s : Int → Bool} (h : ∀ k, (if p k = true then 1 else 0) + (if q k = true then 1 else 0) = ((if r k = true then 1 else 0) + (if s k = true then 1 else 0) : Int)) (lo : Int) (n : Nat) : cntP p lo n + cntP q lo n = cntP r lo n + cntP s lo n := by
  induction n with
  | zero => rfl
  | succ n ih => have := h (lo + n); simp only [cntP]; omega
theorem cntP_eq {p q : Int → Bool} (h : ∀ k, p k = q k) (lo : Int) (n : Nat) : cntP p lo n = cntP q lo n := by
  induction n with
  | zero => rfl
  | succ n ih => simp only [cntP, h, ih]
theorem cntP_none (lo : Int) (n : Nat) : cntP (fun _ => false) lo n = 0 := by
  induction n with
  | zero => rfl
  | succ n ih => simp only [cntP, ih]; simp
theorem cntP_span (x : Sp) (h : x.1 < x.2) (lo : Int) (hlo : lo ≤ x.1) (n : Nat) : cntP (fun k => decide (x.1 ≤ k) && decide (k < x.2)) lo n = if lo + n ≤ x.1 then 0 else if lo + n ≤ x.2 then lo + n - x.1 else x.2 - x.1 := by
  induction n with
  | zero => simp only [cntP]; rw [if_pos (by omega)]
  | succ n ih =>
    simp only [cntP, ih, Bool.and_eq_true, decide_eq_true_eq]
    by_cases h1 : lo + (n : Int) ≤ x.1
    · by_cases h2 : x.1 ≤ lo + (n : Int)
      · rw [if_pos h1, if_pos ⟨h2, by omega⟩, if_neg (by push_cast; omega), if_pos (by push_cast; omega)]; push_cast; omega
      · rw [if_pos h1, if_neg (by omega), if_pos (by push_cast; omega)]; omega
    · rw [if_neg h1]
      by_cases h3 : lo + (n : Int) < x.2
      · rw [if_pos (by omega), if_pos ⟨by omega, h3⟩, if_neg (by push_cast; omega), if_pos (by push_cast; omega)]; push_cast; omega
      · rw [if_neg (c := x.1 ≤ lo + (n : Int) ∧ lo + (n : Int) < x.2) (by omega), if_neg (c := lo + ((n + 1 : Nat) : Int) ≤ x.1) (by push_cast; omega)]
        by_cases h4 : lo + (n : Int) ≤ x.2
        · rw [if_pos h4, if_neg (by push_cast; omega)]; omega
        · rw [if_neg h4, if_neg (by push_cast; omega)]; omega
/-- How many blocks a plain row has. -/
def cntL : List Sp → Int
  | [] => 0
  | x :: l => (x.2 - x.1) + cntL l
theorem cntL_append (a b : List Sp) : cntL (a ++ b) = cntL a + cntL b := by
  induction a with
  | nil => simp [cntL]
  | cons x a ih => simp only [List.cons_append, cntL, ih]; omega
theorem cntL_P (l : List Sp) (hp : PlainL l) (lo : Int) (n : Nat) (hlo : ∀ x ∈ l, lo ≤ x.1) (hhi : ∀ x ∈ l, x.2 ≤ lo + n) : cntP (hasB l) lo n = cntL l := by
  induction l with
  | nil => exact (cntP_eq (fun k => rfl) lo n).trans (cntP_none lo n)
  | cons x l ih =>
    have h1 := hp.1 x (by simp)
    have hs := cntP_span x h1 lo (hlo x (by simp)) n
    have hx := hhi x (by simp)
    rw [if_neg (by omega)] at hs
    have hs' : cntP (fun k => decide (x.1 ≤ k) && decide (k < x.2)) lo n = x.2 - x.1 := by
      rw [hs]; split <;> omega
    have hi := ih hp.tail (fun y hy => hlo y (List.mem_cons_of_mem _ hy)) (fun y hy => hhi y (List.mem_cons_of_mem _ hy))
    have hsum := cntP_same (p := hasB (x :: l)) (q := fun _ => false) (r := fun k => decide (x.1 ≤ k) && decide (k < x.2)) (s := hasB l) (fun k => by
      have e1 : hasB (x :: l) k = ((decide (x.1 ≤ k) && decide (k < x.2)) || hasB l k) := rfl
      rw [e1]
      by_cases hk : x.1 ≤ k ∧ k < x.2
      · have hn : hasB l k = false := by
          cases hh : hasB l k with
          | false => rfl
          | true => have := hp.beyond ((hasB_iff l k).1 hh); omega
        simp [hk.1, hk.2, hn]
      · have hf : (decide (x.1 ≤ k) && decide (k < x.2)) = false := by
          cases h' : (decide (x.1 ≤ k) && decide (k < x.2)) with
          | false => rfl
          | true => simp only [Bool.and_eq_true, decide_eq_true_eq] at h'; exact absurd h' hk
        rw [hf]
        simp) lo n
    rw [cntP_none, hs', hi] at hsum
    show cntP (hasB (x :: l)) lo n = (x.2 - x.1) + cntL l
    omega
def allN : Nat := 18446744073709551615
theorem cnt_all (l : List Sp) (hp : PlainL l) (hI : ∀ x ∈ l, SpI x) : cntP (hasB l) (-9223372036854775808) allN = cntL l :=
  cntL_P l hp _ _ (fun x hx => (hI x hx).1.1) (fun x hx => by have := (hI x hx).2.2; unfold allN; omega)
theorem cntP_le (p : Int → Bool) (lo : Int) (n : Nat) : 0 ≤ cntP p lo n ∧ cntP p lo n ≤ n := by
  induction n with
  | zero => simp [cntP]
  | succ n ih => simp only [cntP]; split <;> (push_cast; omega)
theorem cntL_bound (l : List Sp) (hp : PlainL l) (hI : ∀ x ∈ l, SpI x) : 0 ≤ cntL l ∧ cntL l ≤ 18446744073709551615 := by
  have h := cntP_le (hasB l) (-9223372036854775808) allN
  rw [cnt_all l hp hI] at h
  unfold allN at h
  omega
/-- Four plain rows whose blocks go together pair by pair. -/
theorem cnt_pairs {a b c d : List Sp} (pa : PlainL a) (pb : PlainL b) (pc : PlainL c) (pd : PlainL d) (ia : ∀ x ∈ a, SpI x) (ib : ∀ x ∈ b, SpI x) (ic : ∀ x ∈ c, SpI x) (id' : ∀ x ∈ d, SpI x)
    (h : ∀ k, (if hasB a k = true then 1 else 0) + (if hasB b k = true then 1 else 0) = ((if hasB c k = true then 1 else 0) + (if hasB d k = true then 1 else 0) : Int)) : cntL a + cntL b = cntL c + cntL d := by
  have := cntP_same h (-9223372036854775808) allN
  rw [cnt_all a pa ia, cnt_all b pb ib, cnt_all c pc ic, cnt_all d pd id'] at this
  exact this
theorem wrap_sub (s t : Int) (h : s < t) (hs : I64 s) (ht : I64 t) : IntKind.u64.wrap (IntKind.u64.wrap t - IntKind.u64.wrap s) = t - s := by
  have hw : ∀ n : Int, IntKind.u64.wrap n = n % 18446744073709551616 := fun n => by simp [IntKind.wrap, IntKind.signed, IntKind.bits]
  rw [hw, hw, hw]
  obtain ⟨h1, h2⟩ := hs
  obtain ⟨h3, h4⟩ := ht
  omega
set_option maxHeartbeats 800000 in
theorem size_any (s t : Int) (w : World) (h : s < t) (hs : I64 s) (ht : I64 t) :
    Calls Try.prog 39 #[.agg #[.int .i64 s, .int .i64 t]] w fun e w' => e = .returned (.int .u64 (t - s)) ∧ Below w.heap.size w w' := by
  have hw := wrap_sub s t h hs ht
  have HB := hid ((Below.refl w.heap.size w).alloc (Nat.le_refl _) (.cells #[.int .i64 s, .int .i64 t] 29))
  clear h hs ht
  go_enter Try.func39, Try.ntmps39
  go_wp2_with fail
  go_ret
  exact ⟨rfl, HB.out⟩
theorem plain_take {l : List Sp} (h : PlainL l) (i : Nat) : PlainL (l.take i) := ⟨fun x hx => h.1 x (List.mem_of_mem_take hx), h.2.sublist (List.take_sublist i l)⟩
theorem wrap_add (m : Int) (h0 : 0 ≤ m) (h1 : m ≤ 18446744073709551615) : IntKind.u64.wrap m = m := by
  have hw : ∀ n : Int, IntKind.u64.wrap n = n % 18446744073709551616 := fun n => by simp [IntKind.wrap, IntKind.signed, IntKind.bits]
  rw [hw]; omega
theorem norm_I {l r : List Sp} (h : NormOf l r) (hI : ∀ x ∈ l, SpI x) : ∀ x ∈ r, SpI x := by
  intro x hx
  have h1 := h.plain.1 x hx
  obtain ⟨y, hy, y1, y2⟩ := (h.mem x.1).1 ⟨x, hx, by omega, h1⟩
  obtain ⟨z, hz, z1, z2⟩ := (h.mem (x.2 - 1)).1 ⟨x, hx, by omega, by omega⟩
  have := (hI y hy).1.1
  have := (hI y hy).2.2
  have := (hI z hz).2.2
  have := (hI z hz).1.1
  exact ⟨⟨by omega, by omega⟩, ⟨by omega, by omega⟩⟩
/-- The counting of a prefix goes on. -/
theorem cnt_next {N : List Sp} (hp : PlainL N) (hI : ∀ x ∈ N, SpI x) (i : Nat) (h : i < N.length) : cntL (N.take (i + 1)) = cntL (N.take i) + (N[i].2 - N[i].1) ∧ IntKind.u64.wrap (cntL (N.take i) + (N[i].2 - N[i].1)) = cntL (N.take i) + (N[i].2 - N[i].1) ∧ N[i].1 < N[i].2 ∧ SpI N[i] := by
  have e : cntL (N.take (i + 1)) = cntL (N.take i) + (N[i].2 - N[i].1) := by
    rw [List.take_succ_eq_append_getElem h, cntL_append]; simp [cntL]
  have hb := cntL_bound (N.take (i + 1)) (plain_take hp _) (fun x hx => hI x (List.mem_of_mem_take hx))
  rw [e] at hb
  exact ⟨e, wrap_add _ hb.1 hb.2, hp.1 _ (List.getElem_mem h), hI _ (List.getElem_mem h)⟩
end Go.Proofs.Ytkbcinjpnihnaab
