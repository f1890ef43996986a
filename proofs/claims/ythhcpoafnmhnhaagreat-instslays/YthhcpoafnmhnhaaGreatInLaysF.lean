/- Plain facts: an instance that is laid is taken again, and of its bytes without the last one none is. -/
import Derived.Test.YthhcpoafnmhnhaaGreatInTakeI
import Derived.Test.YthhcpoafnmhnhaaGreatInLayI
import Derived.Test.YthhcpoafnmhnhaaGreatBkLaysF
namespace Go.Proofs.YthhcpoafnmhnhaaGreat
open Go.RowKit
set_option linter.unusedVariables false
set_option linter.unusedSimpArgs false

theorem ref_back (r : Int × Int) (h : I64 r.1 ∧ I64 r.2) (t : List UInt8) : rfV (some (refB' r ++ t)) = r ∧ rfS (some (refB' r ++ t)) = some t := by
  obtain ⟨r0, r1⟩ := r
  obtain ⟨u0, v0⟩ := int_back r0 h.1.1 (by have := h.1.2; simp only at this; omega) (intB r1 ++ t)
  obtain ⟨u1, v1⟩ := int_back r1 h.2.1 (by have := h.2.2; simp only at this; omega) t
  have e : refB' (r0, r1) ++ t = intB r0 ++ (intB r1 ++ t) := by unfold refB'; simp
  unfold rfV rfS
  rw [e, v0, u0, u1, v1]
  exact ⟨rfl, rfl⟩
theorem refB'_pos (r : Int × Int) : 1 ≤ (refB' r).length := by
  unfold refB' intB
  rw [List.length_append]
  split <;> simp <;> omega
theorem int_ext (r t Q : List UInt8) (h : intS (some r) = some t) : intS (some (r ++ Q)) = some (t ++ Q) := by
  cases r with
  | nil => exact absurd h (by simp [intS, byteS, byteR, numR])
  | cons c r =>
    have hs : ∀ l, intS (some (c :: l)) = if 1 < c.toNat ∨ 9223372036854775807 < (numR (some l)).1 then none else (numR (some l)).2 := fun l => rfl
    rw [hs] at h
    rw [List.cons_append, hs]
    split at h
    · cases h
    · rename_i hn
      have h3 : numR (some r) = ((numR (some r)).1, some t) := by rw [← h]
      rw [num_ext r t Q _ h3, if_neg hn]
theorem rfS_ext (r t Q : List UInt8) (h : rfS (some r) = some t) : rfS (some (r ++ Q)) = some (t ++ Q) := by
  unfold rfS at h ⊢
  cases hi : intS (some r) with
  | none => rw [hi] at h; exact absurd h (by simp [intS, byteS, byteR, numR])
  | some m =>
    rw [hi] at h
    rw [int_ext r m Q hi, int_ext m t Q h]
theorem getGo_cutR (xs : List (Int × Int)) (r Q : List UInt8) (acc : List (Int × Int)) (hx : ∀ x ∈ xs, I64 x.1 ∧ I64 x.2) (hQ : Q ≠ []) (h : r ++ Q = xs.flatMap refB') : getGo rfV rfS xs.length (some r) acc = (none, none) := by
  induction xs generalizing r acc with
  | nil => simp at h; exact absurd h.2 hQ
  | cons x xs ih =>
    rw [List.length_cons]
    show (if badO (rfS (some r)) then (none, none) else getGo rfV rfS xs.length (rfS (some r)) (acc ++ [rfV (some r)])) = _
    cases ht : rfS (some r) with
    | none => rfl
    | some t =>
      have h1 := rfS_ext r t Q ht
      rw [h, List.flatMap_cons, (ref_back x (hx x (List.mem_cons_self ..)) _).2] at h1
      have h2 := Option.some.inj h1
      exact ih t _ (fun y hy => hx y (List.mem_cons_of_mem _ hy)) h2.symm
theorem getR_cutR (xs : List (Int × Int)) (k : Nat) (hx : ∀ x ∈ xs, I64 x.1 ∧ I64 x.2) (hn : xs.length ≤ 4096) (hk : k < (listB refB' xs).length) : getR rfV rfS (some ((listB refB' xs).take k)) = (none, none) := by
  have hQ : (listB refB' xs).drop k ≠ [] := by
    intro h
    have := congrArg List.length h
    simp at this; omega
  have hB : (listB refB' xs).take k ++ (listB refB' xs).drop k = listB refB' xs := List.take_append_drop _ _
  generalize (listB refB' xs).take k = P at *
  generalize (listB refB' xs).drop k = Q at *
  unfold getR
  cases hl : (lenR 4096 (some P)).2 with
  | none => rfl
  | some r =>
    have h2 : lenR 4096 (some P) = numR (some P) := by
      unfold lenR at hl ⊢
      split at hl
      · cases hl
      · rename_i h; exact if_neg h
    rw [h2] at hl ⊢
    have h3 : numR (some P) = ((numR (some P)).1, some r) := by rw [← hl]
    have h4 := num_ext P r Q _ h3
    rw [hB] at h4
    unfold listB at h4
    rw [numR_numB _ _ (by omega)] at h4
    obtain ⟨e1, e2⟩ := Prod.mk.inj h4
    have e3 := Option.some.inj e2
    rw [← e1, if_neg (by simp [badO])]
    exact getGo_cutR xs r Q [] hx hQ e3.symm
/-- Ints one behind another are read one by one. -/
theorem hd_ints (ns : List Int) (hn : ∀ n ∈ ns, I64 n) (t : List UInt8) (s : Option (List UInt8)) (hs : s = some (ns.flatMap intB ++ t)) : hdS s ns.length = some t ∧ ∀ j (h : j < ns.length), hdF s j = ns[j] := by
  have key : ∀ i, i ≤ ns.length → hdS s i = some ((ns.drop i).flatMap intB ++ t) := by
    intro i
    induction i with
    | zero => intro _; rw [List.drop_zero]; exact hs
    | succ i ih =>
      intro hi
      have h1 := ih (by omega)
      have h2 : ns.drop i = ns[i] :: ns.drop (i + 1) := List.drop_eq_getElem_cons (by omega)
      show intS (hdS s i) = _
      rw [h1, h2, List.flatMap_cons, List.append_assoc]
      have hI := hn ns[i] (List.getElem_mem (by omega))
      exact (int_back ns[i] hI.1 (by have := hI.2; omega) _).2
  refine ⟨?_, fun j hj => ?_⟩
  · have := key ns.length (Nat.le_refl _)
    rw [List.drop_length] at this
    simpa using this
  · have h1 := key j (by omega)
    have h2 : ns.drop j = ns[j] :: ns.drop (j + 1) := List.drop_eq_getElem_cons hj
    unfold hdF
    rw [h1, h2, List.flatMap_cons, List.append_assoc]
    have hI := hn ns[j] (List.getElem_mem hj)
    exact (int_back ns[j] hI.1 (by have := hI.2; omega) _).1
theorem tiH_of (f : Nat → Int) (x : InD) (h : ∀ j (hj : j < (headN x).length), f j = (headN x)[j]) : tiH f 7 = { x with same := false, cmd := ⟨0, 0, 0, 0, 0, []⟩, seq := 0, deps := [] } := by
  have h0 := h 0 (by simp [headN])
  have h1 := h 1 (by simp [headN])
  have h2 := h 2 (by simp [headN])
  have h3 := h 3 (by simp [headN])
  have h4 := h 4 (by simp [headN])
  have h5 := h 5 (by simp [headN])
  have h6 := h 6 (by simp [headN])
  simp only [headN, List.getElem_cons_zero, List.getElem_cons_succ] at h0 h1 h2 h3 h4 h5 h6
  unfold tiH hdY
  simp [h0, h1, h2, h3, h4, h5, h6]
theorem bool_back (c : Bool) (t : List UInt8) : boolV (some ((if c then (1 : UInt8) else 0) :: t)) = c ∧ boolS (some ((if c then (1 : UInt8) else 0) :: t)) = some t := by
  cases c <;> exact ⟨rfl, rfl⟩
/-- What stands behind an instance's heads. -/
theorem mk_rest (x y : InD) (h : LayX x) (t : List UInt8) (s : Option (List UInt8)) (hs : s = some ([if x.same then (1 : UInt8) else 0] ++ (cmdB x.cmd ++ (intB x.seq ++ t)))) :
    boolV s = x.same ∧ takeC (boolS s) = x.cmd ∧ intV (tkG (boolS s)).2 = x.seq ∧ intS (tkG (boolS s)).2 = some t := by
  obtain ⟨h1, h2⟩ := bool_back x.same (cmdB x.cmd ++ (intB x.seq ++ t))
  have hs' : s = some ((if x.same then (1 : UInt8) else 0) :: (cmdB x.cmd ++ (intB x.seq ++ t))) := by rw [hs]; rfl
  rw [← hs'] at h1 h2
  obtain ⟨h3, h4⟩ := take_back x.cmd h.c (intB x.seq ++ t)
  rw [h2, h4]
  obtain ⟨h5, h6⟩ := int_back x.seq h.s.1 (by have := h.s.2; omega) t
  exact ⟨h1, h3, h5, h6⟩
/-- What is laid is taken. -/
theorem takeI_back (x : InD) (h : LayX x) (more : List UInt8) : takeX (some (instBy x ++ more)) = x ∧ (tiG (some (instBy x ++ more))).2 = some more := by
  obtain ⟨hd1, hd2⟩ := hd_ints (headN x) h.h (restB x ++ more) (some (instBy x ++ more)) (by unfold instBy; rw [List.append_assoc])
  have h7 : (headN x).length = 7 := rfl
  rw [h7] at hd1
  have hx7 := tiH_of _ x hd2
  obtain ⟨k1, k2, k3, k4⟩ := mk_rest x x h (listB refB' x.deps ++ more) (hdS (some (instBy x ++ more)) 7) (by rw [hd1]; unfold restB; simp)
  have hg : getR rfV rfS (some (listB refB' x.deps ++ more)) = (some x.deps, some more) := by
    have := getR_back refB' (fun r => r) rfV rfS x.deps more h.l (fun r _ => refB'_pos r) fun r hr t => ref_back r (h.d r hr) t
    simpa using this
  have e1 : tiG (some (instBy x ++ more)) = (some x.deps, some more) := by
    unfold tiG
    rw [k4]
    exact hg
  refine ⟨?_, by rw [e1]⟩
  unfold takeX mkX
  rw [k4, hg, hx7, k1, k2, k3]
/-- Without the last byte nothing is taken. -/
theorem takeI_cut (x : InD) (h : LayX x) : takeX (some ((instBy x).take ((instBy x).length - 1))) = zeroI ∧ (tiG (some ((instBy x).take ((instBy x).length - 1)))).2 = none := by
  have hp : 1 ≤ (listB refB' x.deps).length := by unfold listB; have := numB_pos x.deps.length; rw [List.length_append]; omega
  obtain ⟨pre, hpre⟩ : ∃ pre, pre = (headN x).flatMap intB ++ ([if x.same then (1 : UInt8) else 0] ++ (cmdB x.cmd ++ intB x.seq)) := ⟨_, rfl⟩
  have e0 : instBy x = pre ++ listB refB' x.deps := by rw [hpre]; unfold instBy restB; simp
  have e1 : (instBy x).take ((instBy x).length - 1) = (headN x).flatMap intB ++ ([if x.same then (1 : UInt8) else 0] ++ (cmdB x.cmd ++ (intB x.seq ++ (listB refB' x.deps).take ((listB refB' x.deps).length - 1)))) := by
    rw [e0, List.length_append, List.take_append, List.take_of_length_le (by omega), show pre.length + (listB refB' x.deps).length - 1 - pre.length = (listB refB' x.deps).length - 1 from by omega, hpre]
    simp
  rw [e1]
  obtain ⟨cut, hcut⟩ : ∃ cut, cut = (listB refB' x.deps).take ((listB refB' x.deps).length - 1) := ⟨_, rfl⟩
  rw [← hcut]
  obtain ⟨hd1, hd2⟩ := hd_ints (headN x) h.h _ _ (rfl : some ((headN x).flatMap intB ++ ([if x.same then (1 : UInt8) else 0] ++ (cmdB x.cmd ++ (intB x.seq ++ cut)))) = _)
  have h7 : (headN x).length = 7 := rfl
  rw [h7] at hd1
  obtain ⟨k1, k2, k3, k4⟩ := mk_rest x x h cut _ hd1
  have hg : getR rfV rfS (some cut) = (none, none) := by rw [hcut]; exact getR_cutR x.deps _ h.d h.l (by omega)
  refine ⟨?_, ?_⟩
  · unfold takeX mkX
    rw [k4, hg]
  · unfold tiG
    rw [k4, hg]
end Go.Proofs.YthhcpoafnmhnhaaGreat
