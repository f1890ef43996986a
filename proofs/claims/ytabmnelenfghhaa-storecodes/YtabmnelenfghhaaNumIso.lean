/- Plain facts: a number that is laid is read back; what is read as a number has one form; the document's own reading comes to the same. No condition but that numbers fit 64 bits. -/
import Derived.Test.YtabmnelenfghhaaNumR
namespace Go.Proofs.Ytabmnelenfghhaa
open Go.RowKit

/-- What a row of groups is worth behind n. -/
def gval : List UInt8 → Nat → Nat
  | [], n => n
  | c :: p, n => gval p (n * 128 + c.toNat % 128)
def High (p : List UInt8) : Prop := ∀ c ∈ p, 128 ≤ c.toNat
theorem ofNat_toNat {n : Nat} (h : n < 256) : (UInt8.ofNat n).toNat = n := by rw [UInt8.toNat_ofNat', Nat.mod_eq_of_lt (by simpa using h)]

theorem numHiF_app (f n : Nat) (a b : List UInt8) : numHiF f n (a ++ b) = numHiF f n a ++ b := by
  induction f generalizing n a with
  | zero => rfl
  | succ f ih =>
    simp only [numHiF]
    split
    · rfl
    · rw [← List.cons_append]; exact ih _ _
theorem numHi_app (n : Nat) (a b : List UInt8) : numHi n (a ++ b) = numHi n a ++ b := numHiF_app _ _ _ _
theorem numB_eq (n : Nat) : numB n = numHi (n / 128) [] ++ [UInt8.ofNat (n % 128)] := by
  unfold numB; rw [← numHi_app]; rfl
theorem numHiF_gval (f n : Nat) (a : List UInt8) (h : n ≤ f) : gval (numHiF f n a) 0 = gval a n := by
  induction f generalizing n a with
  | zero =>
    obtain rfl : n = 0 := by omega
    rfl
  | succ f ih =>
    simp only [numHiF]
    split
    · subst_vars; rfl
    · rw [ih _ _ (by omega)]
      show gval a (n / 128 * 128 + (UInt8.ofNat (n % 128 + 128)).toNat % 128) = _
      rw [ofNat_toNat (by omega)]
      congr 1; omega
theorem numHi_gval (n : Nat) : gval (numHi n []) 0 = n := numHiF_gval _ _ _ (Nat.le_refl _)
theorem numHiF_high (f n : Nat) (a : List UInt8) (h : High a) : High (numHiF f n a) := by
  induction f generalizing n a with
  | zero => exact h
  | succ f ih =>
    simp only [numHiF]
    split
    · exact h
    · refine ih _ _ ?_
      intro c hc
      rcases List.mem_cons.1 hc with rfl | hc
      · rw [ofNat_toNat (by omega)]; omega
      · exact h c hc
theorem numHi_high (n : Nat) : High (numHi n []) := numHiF_high _ _ _ (fun c hc => by simp at hc)
/-- The first group above the lowest is never nought. -/
theorem numHiF_head (f n : Nat) (a : List UInt8) (h : n ≤ f) (hp : 0 < n) : ∃ c t, numHiF f n a = c :: t ∧ c.toNat ≠ 128 := by
  induction f generalizing n a with
  | zero => omega
  | succ f ih =>
    simp only [numHiF]
    rw [if_neg (by omega)]
    rcases Nat.eq_zero_or_pos (n / 128) with h0 | h0
    · rw [h0, numHiF_zero]
      exact ⟨_, _, rfl, by rw [ofNat_toNat (by omega)]; omega⟩
    · exact ih _ _ (by omega) h0
theorem gval_numHi (p : List UInt8) (n : Nat) (a : List UInt8) (hp : High p) (hn : 0 < n) : numHi (gval p n) a = numHi n (p ++ a) := by
  induction p generalizing n with
  | nil => rfl
  | cons c p ih =>
    have hc := hp c (List.mem_cons_self ..)
    have hl := c.toNat_lt
    show numHi (gval p (n * 128 + c.toNat % 128)) a = _
    rw [ih _ (fun d hd => hp d (List.mem_cons_of_mem _ hd)) (by omega), numHi_pos _ _ (by omega), show (n * 128 + c.toNat % 128) / 128 = n from by omega]
    congr 2
    apply UInt8.toNat_inj.1
    rw [ofNat_toNat (by omega)]; omega
/-- Groups without a first one of nought have one form. -/
theorem groups_back (p : List UInt8) (hp : High p) (h0 : ∀ c t, p = c :: t → c.toNat ≠ 128) : numHi (gval p 0) [] = p := by
  cases p with
  | nil => rfl
  | cons c p =>
    have hc := hp c (List.mem_cons_self ..)
    have hl := c.toNat_lt
    have hne := h0 c p rfl
    show numHi (gval p (0 * 128 + c.toNat % 128)) [] = _
    rw [gval_numHi p _ [] (fun d hd => hp d (List.mem_cons_of_mem _ hd)) (by omega), numHi_pos _ _ (by omega), show (0 * 128 + c.toNat % 128) / 128 = 0 from by omega, numHi_zero, List.append_nil]
    congr 1
    apply UInt8.toNat_inj.1
    rw [ofNat_toNat (by omega)]; omega
theorem gval_mono (p : List UInt8) (n : Nat) : n ≤ gval p n := by
  induction p generalizing n with
  | nil => exact Nat.le_refl _
  | cons c p ih => exact Nat.le_trans (by omega) (ih _)

/-- A reading group by group. -/
def scan : List UInt8 → Nat → Option (Nat × List UInt8)
  | [], _ => none
  | c :: l, n => if 144115188075855871 < n then none else if c.toNat < 128 then some (n * 128 + c.toNat, l) else scan l (n * 128 + c.toNat % 128)
def toR : Option (Nat × List UInt8) → Nat × Option (List UInt8)
  | none => (0, none)
  | some (n, l) => (n, some l)
theorem numGo_scan (l : List UInt8) (c n : Nat) (hc : ¬ c < 128) : numGo l c n = toR (scan l n) := by
  induction l generalizing c n with
  | nil => rw [numGo_end _ _ hc]; rfl
  | cons d l ih =>
    by_cases hn : 144115188075855871 < n
    · rw [numGo_big _ _ _ hc hn]; simp [scan, hn, toR]
    · rw [numGo_cons _ _ _ _ hc hn]
      by_cases hd : d.toNat < 128
      · rw [numGo_low _ _ _ hd]; simp only [scan, if_neg hn, if_pos hd, toR]; rw [Nat.mod_eq_of_lt hd]
      · rw [ih _ _ hd]; simp only [scan, if_neg hn, if_neg hd]
theorem numR_scan (c : UInt8) (l : List UInt8) (h : c.toNat ≠ 128) : numR (some (c :: l)) = toR (scan (c :: l) 0) := by
  show (if c.toNat = 128 then _ else _) = _
  rw [if_neg h]
  by_cases hc : c.toNat < 128
  · rw [numGo_low _ _ _ hc]; simp only [scan, if_pos hc]; rw [if_neg (by omega), Nat.mod_eq_of_lt hc]; simp [toR]
  · rw [numGo_scan _ _ _ hc]; simp only [scan, if_neg hc]; rw [if_neg (by omega)]; simp
theorem scan_of (p : List UInt8) (c : UInt8) (r : List UInt8) (n : Nat) (hp : High p) (hc : c.toNat < 128) (hv : gval p n ≤ 144115188075855871) : scan (p ++ c :: r) n = some (gval p n * 128 + c.toNat, r) := by
  induction p generalizing n with
  | nil =>
    have : n ≤ 144115188075855871 := hv
    simp only [List.nil_append, scan, gval]
    rw [if_neg (by omega), if_pos hc]
  | cons d p ih =>
    have hd := hp d (List.mem_cons_self ..)
    have hm : n ≤ gval (d :: p) n := gval_mono _ _
    simp only [List.cons_append, scan]
    rw [if_neg (by omega), if_neg (by omega)]
    exact ih _ (fun x hx => hp x (List.mem_cons_of_mem _ hx)) hv
theorem scan_some (l : List UInt8) (n m : Nat) (r : List UInt8) (h : scan l n = some (m, r)) : ∃ p c, l = p ++ c :: r ∧ High p ∧ c.toNat < 128 ∧ m = gval p n * 128 + c.toNat ∧ gval p n ≤ 144115188075855871 := by
  induction l generalizing n with
  | nil => simp [scan] at h
  | cons d l ih =>
    simp only [scan] at h
    split at h
    · cases h
    · split at h
      · rename_i hn hd
        obtain ⟨rfl, rfl⟩ := Prod.mk.inj (Option.some.inj h)
        exact ⟨[], d, rfl, (fun c hc => by simp at hc), hd, rfl, by show n ≤ _; omega⟩
      · rename_i hn hd
        obtain ⟨p, c, rfl, h1, h2, h3, h4⟩ := ih _ h
        refine ⟨d :: p, c, rfl, ?_, h2, h3, h4⟩
        intro x hx
        rcases List.mem_cons.1 hx with rfl | hx
        · omega
        · exact h1 x hx
/-- What is laid is read back. -/
theorem numR_numB (n : Nat) (l : List UInt8) (hn : n < 18446744073709551616) : numR (some (numB n ++ l)) = (n, some l) := by
  have hs : scan (numB n ++ l) 0 = some (n, l) := by
    rw [numB_eq, List.append_assoc]
    have := scan_of (numHi (n / 128) []) (UInt8.ofNat (n % 128)) l 0 (numHi_high _) (by rw [ofNat_toNat (by omega)]; omega) (by rw [numHi_gval]; omega)
    rw [numHi_gval, ofNat_toNat (by omega)] at this
    rw [show n / 128 * 128 + n % 128 = n from by omega] at this
    exact this
  obtain ⟨c, t, hct, hne⟩ : ∃ c t, numB n ++ l = c :: t ∧ c.toNat ≠ 128 := by
    rw [numB_eq]
    rcases Nat.eq_zero_or_pos (n / 128) with h0 | h0
    · rw [h0, numHi_zero]
      exact ⟨_, _, rfl, by rw [ofNat_toNat (by omega)]; omega⟩
    · obtain ⟨c, t, h, hc⟩ := numHiF_head (n / 128) (n / 128) [] (Nat.le_refl _) h0
      have h' : numHi (n / 128) [] = c :: t := h
      rw [h']
      exact ⟨c, _, rfl, hc⟩
  rw [hct] at hs ⊢
  rw [numR_scan _ _ hne, hs]; rfl
/-- What is read as a number has one form. -/
theorem numR_only (l : List UInt8) (n : Nat) (r : List UInt8) (h : numR (some l) = (n, some r)) : l = numB n ++ r ∧ n < 18446744073709551616 := by
  cases l with
  | nil => simp [numR] at h
  | cons d l =>
    by_cases hd : d.toNat = 128
    · simp [numR, hd] at h
    · rw [numR_scan _ _ hd] at h
      cases hs : scan (d :: l) 0 with
      | none => rw [hs] at h; simp [toR] at h
      | some x =>
        obtain ⟨m, r'⟩ := x
        rw [hs] at h
        obtain ⟨rfl, h2⟩ := Prod.mk.inj h
        obtain rfl := Option.some.inj h2
        obtain ⟨p, c, e, h1, h2, h3, h4⟩ := scan_some _ _ _ _ hs
        refine ⟨?_, by omega⟩
        rw [numB_eq, h3, show (gval p 0 * 128 + c.toNat) / 128 = gval p 0 from by omega, show (gval p 0 * 128 + c.toNat) % 128 = c.toNat from by omega, groups_back p h1, e]
        · have : UInt8.ofNat c.toNat = c := by apply UInt8.toNat_inj.1; rw [ofNat_toNat (by have := c.toNat_lt; omega)]
          rw [this]; simp
        · intro x t ht
          rw [ht] at e
          obtain ⟨rfl, -⟩ := List.cons.inj e
          exact hd

/-- The document's own reading. -/
def refGo (b : List UInt8) : List UInt8 → Nat → Nat → Option (Nat × Nat)
  | [], _, _ => none
  | c :: l, i, n => if 10 ≤ i then none else if 144115188075855871 < n then none else
      if c.toNat < 128 then (if numB (n * 128 + c.toNat % 128) = b.take (i + 1) then some (n * 128 + c.toNat % 128, i + 1) else none) else refGo b l (i + 1) (n * 128 + c.toNat % 128)
theorem refGo_some (b l : List UInt8) (i n m k : Nat) (h : refGo b l i n = some (m, k)) : numB m = b.take k ∧ m < 18446744073709551616 ∧ 1 ≤ k ∧ k ≤ i + l.length := by
  induction l generalizing i n with
  | nil => simp [refGo] at h
  | cons c l ih =>
    simp only [refGo] at h
    split at h
    · cases h
    · split at h
      · cases h
      · split at h
        · split at h
          · rename_i e
            obtain ⟨rfl, rfl⟩ := Prod.mk.inj (Option.some.inj h)
            refine ⟨e, by omega, by omega, by simp⟩
          · cases h
        · have := ih _ _ h
          simp only [List.length_cons]
          exact ⟨this.1, this.2.1, this.2.2.1, by omega⟩
theorem refGo_of (b p : List UInt8) (c : UInt8) (r : List UInt8) (i n : Nat) (hp : High p) (hc : c.toNat < 128) (hi : i + p.length < 10) (hv : gval p n ≤ 144115188075855871) :
    refGo b (p ++ c :: r) i n = if numB (gval p n * 128 + c.toNat) = b.take (i + p.length + 1) then some (gval p n * 128 + c.toNat, i + p.length + 1) else none := by
  induction p generalizing i n with
  | nil =>
    have : n ≤ 144115188075855871 := hv
    simp only [List.nil_append, refGo, gval, List.length_nil, Nat.add_zero] at hi ⊢
    rw [if_neg (by omega), if_neg (by omega), if_pos hc, Nat.mod_eq_of_lt hc]
    rfl
  | cons d p ih =>
    have hd := hp d (List.mem_cons_self ..)
    have hm : n ≤ gval (d :: p) n := gval_mono _ _
    simp only [List.length_cons] at hi ⊢
    simp only [List.cons_append, refGo]
    rw [if_neg (by omega), if_neg (by omega), if_neg (by omega), ih _ _ (fun x hx => hp x (List.mem_cons_of_mem _ hx)) (by omega) hv]
    rw [show i + 1 + p.length = i + (p.length + 1) from by omega]
    rfl
/-- The document's reading comes to the Reader's. -/
theorem refGo_numR (b : List UInt8) : (∀ n r, numR (some b) = (n, some r) → refGo b b 0 0 = some (n, b.length - r.length) ∧ r = b.drop (b.length - r.length) ∧ r.length < b.length) ∧ (numR (some b) = (0, none) → refGo b b 0 0 = none) := by
  constructor
  · intro n r h
    obtain ⟨hb, hn⟩ := numR_only b n r h
    have hl := numB_len n hn
    have e := numB_eq n
    have hlen : (numB n).length = (numHi (n / 128) []).length + 1 := by rw [e]; simp
    have hb' : b = numHi (n / 128) [] ++ UInt8.ofNat (n % 128) :: r := by rw [hb, e]; simp
    have h1 := refGo_of b (numHi (n / 128) []) (UInt8.ofNat (n % 128)) r 0 0 (numHi_high _) (by rw [ofNat_toNat (by omega)]; omega) (by omega) (by rw [numHi_gval]; omega)
    rw [← hb', numHi_gval, ofNat_toNat (by omega), show n / 128 * 128 + n % 128 = n from by omega, if_pos] at h1
    · have hbl : b.length = (numB n).length + r.length := by rw [hb]; simp
      refine ⟨by rw [h1]; congr 2; omega, ?_, by omega⟩
      rw [show b.length - r.length = (numB n).length from by omega, hb]; simp
    · rw [hb, show 0 + (numHi (n / 128) []).length + 1 = (numB n).length from by omega]; simp
  · intro h
    cases hr : refGo b b 0 0 with
    | none => rfl
    | some x =>
      obtain ⟨m, k⟩ := x
      obtain ⟨h1, h2, h3, h4⟩ := refGo_some _ _ _ _ _ _ hr
      have := numR_numB m (b.drop k) h2
      rw [h1, List.take_append_drop] at this
      rw [h] at this
      simp at this
end Go.Proofs.Ytabmnelenfghhaa
