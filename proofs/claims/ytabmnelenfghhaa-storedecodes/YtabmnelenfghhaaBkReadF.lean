/- Plain facts: when bytes are no store, step by step. -/
import Derived.Test.YtabmnelenfghhaaBkDecF
import Derived.Test.YtabmnelenfghhaaOTake
namespace Go.Proofs.Ytabmnelenfghhaa
open Go.RowKit
set_option linter.unusedVariables false
set_option linter.unusedSimpArgs false

theorem tcS_none (i : Nat) : tcS none i = none := by
  induction i with
  | zero => rfl
  | succ i ih => show numS (tcS none i) = none; rw [ih]; rfl
theorem tcS_dead {s : Option (List UInt8)} {j : Nat} (h : tcS s j = none) : ∀ i, j ≤ i → tcS s i = none := by
  intro i hi
  induction i with
  | zero => obtain rfl : j = 0 := by omega
            exact h
  | succ i ih =>
    rcases Nat.lt_or_ge i j with h1 | h1
    · obtain rfl : j = i + 1 := by omega
      exact h
    · show numS (tcS s i) = none; rw [ih h1]; rfl
theorem rdS_dead {s : Option (List UInt8)} {j : Nat} (h : rdS s j = none) : ∀ i, j ≤ i → rdS s i = none := by
  intro i hi
  induction i with
  | zero => obtain rfl : j = 0 := by omega
            exact h
  | succ i ih =>
    rcases Nat.lt_or_ge i j with h1 | h1
    · obtain rfl : j = i + 1 := by omega
      exact h
    · show tcS (rdS s i) 4 = none; rw [ih h1]; exact tcS_none 4
theorem no_rest {l : List UInt8} {i : Nat} (h : rdS (dcS l) i = none) (hi : i ≤ dcN l) : dcOk l = false := by
  unfold dcOk
  rw [rdS_dead h _ hi]
  simp [endB]
theorem no_dcS {l : List UInt8} (h : dcS l = none) : dcOk l = false := no_rest (i := 0) h (Nat.zero_le _)
theorem no_num1 {l : List UInt8} (h : numS (some l) = none) : dcOk l = false := no_dcS (by unfold dcS dcR; rw [h]; rfl)
theorem no_num2 {l : List UInt8} (h : dcR l = none) : dcOk l = false := no_dcS (by unfold dcS; rw [h]; rfl)
theorem no_bool {l : List UInt8} (h : dcR l = some []) : dcOk l = false := no_dcS (by unfold dcS; rw [h]; rfl)
theorem no_byte {l r : List UInt8} {c : UInt8} (h : dcR l = some (c :: r)) (hc : 1 < c.toNat) : dcOk l = false := no_dcS (by unfold dcS boolS; rw [h]; exact if_pos hc)
theorem dcS_of {l r : List UInt8} {c : UInt8} (h : dcR l = some (c :: r)) (hc : ¬ 1 < c.toNat) : dcS l = some r ∧ boolV (dcR l) = (c.toNat == 1) := by
  refine ⟨?_, by rw [h]; rfl⟩
  unfold dcS boolS; rw [h]; exact if_neg hc
theorem w64_big (n : Nat) (h : n ≤ 18446744073709551615) : wrap64 (n : Int) = (n : Int) ∨ wrap64 (n : Int) < 0 := by
  by_cases h1 : (n : Int) ≤ 9223372036854775807
  · exact .inl (w64_of _ (by omega))
  · right
    have : wrap64 (n : Int) = (n : Int) - 18446744073709551616 := by
      have e : wrap64 (n : Int) = wrap64 ((n : Int) - 18446744073709551616) := by
        rw [← IntWalk.i64_left, ← IntWalk.i64_left]
        simp [IntKind.wrap, IntKind.bits, IntKind.signed]
      rw [e]
      exact IntWalk.wrap64_in _ (by omega)
    omega
theorem no_span {l : List UInt8} (n1 n2 : Nat) (h1 : numV (some l) = n1) (h2 : numV (numS (some l)) = n2) (b1 : n1 ≤ 18446744073709551615) (b2 : n2 ≤ 18446744073709551615) (h : 256 < n2 ∨ n2 ≤ n1) : dcOk l = false := by
  have hm : mayBeB (dcF l, dcT l) = false := by
    unfold mayBeB dcF dcT
    rw [h1, h2]
    simp only
    rcases w64_big n1 b1 with e1 | e1 <;> rcases w64_big n2 b2 with e2 | e2
    · rw [e1, e2]; simp; omega
    · rw [e1]; simp; omega
    · rw [e2]; simp; omega
    · simp; omega
  unfold dcOk; rw [hm]; rfl
theorem yes_span {l : List UInt8} (n1 n2 : Nat) (h1 : numV (some l) = n1) (h2 : numV (numS (some l)) = n2) (h : n1 < n2 ∧ n2 ≤ 256) : dcF l = n1 ∧ dcT l = n2 ∧ mayBeB (dcF l, dcT l) = true ∧ dcN l = n2 - n1 := by
  have e1 : dcF l = n1 := by unfold dcF; rw [h1]; exact w64_of _ (by omega)
  have e2 : dcT l = n2 := by unfold dcT; rw [h2]; exact w64_of _ (by omega)
  refine ⟨e1, e2, ?_, ?_⟩
  · rw [e1, e2]; unfold mayBeB; simp; omega
  · unfold dcN; rw [e1, e2]; omega
theorem no_cell {l : List UInt8} {i : Nat} (h : noBlockB (tcC (rdS (dcS l) i)) = true) (hi : i < dcN l) : dcOk l = false := by
  have ha : (rdL (dcS l) (dcN l)).any noBlockB = true := List.any_eq_true.2 ⟨_, by
    simp only [rdL, List.mem_map]
    exact ⟨i, by simpa using hi, rfl⟩, h⟩
  unfold dcOk; rw [ha]; simp
theorem no_text {s : Option (List UInt8)} (h : isTextB ⟨(textV s).toArray⟩ = false) : noBlockB (tcC s) = true := by
  unfold noBlockB tcC; rw [h]; rfl
theorem no_mark {s : Option (List UInt8)} {j : Nat} (hj : j < 4) (h : 1099511627776 < numV (tcS s j)) (hb : numV (tcS s j) ≤ 18446744073709551615) : noBlockB (tcC s) = true := by
  have hm : noMarkB ((tcC s).m ⟨j, hj⟩) = true := by
    show noMarkB (tcN s j) = true
    unfold noMarkB tcN
    rcases w64_big _ hb with e | e
    · rw [e]; simp; omega
    · simp; omega
  unfold noBlockB
  have : [(tcC s).m 0, (tcC s).m 1, (tcC s).m 2, (tcC s).m 3].any noMarkB = true := List.any_eq_true.2 ⟨_, by
    match j, hj with
    | 0, _ => exact List.mem_cons_self ..
    | 1, _ => exact List.mem_cons_of_mem _ (List.mem_cons_self ..)
    | 2, _ => exact List.mem_cons_of_mem _ (List.mem_cons_of_mem _ (List.mem_cons_self ..))
    | 3, _ => exact List.mem_cons_of_mem _ (List.mem_cons_of_mem _ (List.mem_cons_of_mem _ (List.mem_cons_self ..))), hm⟩
  rw [this]; simp
theorem tcN_of {s : Option (List UInt8)} {j : Nat} (h : numV (tcS s j) ≤ 1099511627776) : tcN s j = numV (tcS s j) := by
  unfold tcN; exact w64_of _ (by omega)
/-- All is well. -/
theorem yes_all {l : List UInt8} (hm : mayBeB (dcF l, dcT l) = true) (hc : ∀ i, i < dcN l → COk (tcC (rdS (dcS l) i))) (r : List UInt8) (hr : rdS (dcS l) (dcN l) = some r) : dcOk l = (r.length == 0) := by
  unfold dcOk
  have ha : (rdL (dcS l) (dcN l)).any noBlockB = false := List.any_eq_false.2 fun c h => by
    simp only [rdL, List.mem_map] at h
    obtain ⟨i, hi, rfl⟩ := h
    rw [(noBlock_ok _).2 (hc i (by simpa using hi))]; simp
  rw [hm, ha, hr]
  cases r <;> simp [endB]
/-- What is read has just these bytes. -/
theorem text_only (l r : List UInt8) (h : textS (some l) = some r) : l = textB ⟨(textV (some l)).toArray⟩ ++ r := by
  unfold textS at h
  unfold textV
  split at h
  · cases h
  · rename_i r' h'
    obtain rfl := Option.some.inj h
    have h2 : ¬ (1048576 < (numR (some l)).1 ∨ leftN (numR (some l)).2 < (numR (some l)).1) ∧ lenR 1048576 (some l) = numR (some l) := by
      unfold lenR at h' ⊢
      split at h'
      · cases h'
      · rename_i hn
        exact ⟨hn, if_neg hn⟩
    obtain ⟨hn, he⟩ := h2
    rw [he] at h' ⊢
    have h3 : numR (some l) = ((numR (some l)).1, some r') := by rw [← h']
    obtain ⟨h4, h5⟩ := numR_only l _ r' h3
    rw [h'] at hn
    simp only [leftN] at hn
    have hl : ((⟨(r'.take (numR (some l)).1).toArray⟩ : ByteArray)).size = (numR (some l)).1 := by
      simp only [ByteArray.size, List.size_toArray, List.length_take]; omega
    unfold textB
    rw [hl, List.append_assoc]
    simp only [List.take_append_drop]
    exact h4
theorem num_only (l r : List UInt8) (h : numS (some l) = some r) : l = numB (numV (some l)) ++ r := by
  unfold numS at h
  unfold numV
  exact (numR_only l _ r (by rw [← h])).1
theorem cell_only (l r : List UInt8) (h : tcS (some l) 4 = some r) (hc : COk (tcC (some l))) : l = cellB (tcC (some l)) ++ r := by
  have live : ∀ j, j ≤ 4 → ∃ q, tcS (some l) j = some q := fun j hj => by
    cases e : tcS (some l) j with
    | none => rw [tcS_dead e 4 hj] at h; cases h
    | some q => exact ⟨q, rfl⟩
  obtain ⟨q0, e0⟩ := live 0 (by omega)
  obtain ⟨q1, e1⟩ := live 1 (by omega)
  obtain ⟨q2, e2⟩ := live 2 (by omega)
  obtain ⟨q3, e3⟩ := live 3 (by omega)
  have t0 := text_only l q0 e0
  have key : ∀ j q q', tcS (some l) j = some q → tcS (some l) (j + 1) = some q' → (hj : j < 4) → q = mB ((tcC (some l)).m ⟨j, hj⟩) ++ q' := fun j q q' ha hb hj => by
    have hs : numS (some q) = some q' := by rw [← ha]; exact hb
    have := num_only q q' hs
    have hm := hc.2 ⟨j, hj⟩
    have e : (tcC (some l)).m ⟨j, hj⟩ = wrap64 (numV (some q) : Int) := by show tcN (some l) j = _; unfold tcN; rw [ha]
    have hlt := numR_lt (some q)
    have e2 : wrap64 (numV (some q) : Int) = (numV (some q) : Int) := by
      rcases w64_big (numV (some q)) (by unfold numV; omega) with h1 | h1
      · exact h1
      · rw [e] at hm; omega
    unfold mB
    rw [e, e2, Int.toNat_natCast]
    exact this
  have k0 := key 0 q0 q1 e0 e1 (by omega)
  have k1 := key 1 q1 q2 e1 e2 (by omega)
  have k2 := key 2 q2 q3 e2 e3 (by omega)
  have k3 := key 3 q3 r e3 h (by omega)
  have hB : cellB (tcC (some l)) = textB ⟨(textV (some l)).toArray⟩ ++ (mB ((tcC (some l)).m ⟨0, by omega⟩) ++ (mB ((tcC (some l)).m ⟨1, by omega⟩) ++ (mB ((tcC (some l)).m ⟨2, by omega⟩) ++ mB ((tcC (some l)).m ⟨3, by omega⟩)))) := by
    unfold cellB mkN
    simp only [List.flatMap_cons, List.flatMap_nil, List.append_nil]
    rfl
  rw [hB, List.append_assoc, List.append_assoc, List.append_assoc, List.append_assoc, ← k3, ← k2, ← k1, ← k0]
  exact t0
theorem cells_only (l : List UInt8) (n : Nat) (hc : ∀ i, i < n → COk (tcC (rdS (some l) i))) (r : List UInt8) (hr : rdS (some l) n = some r) : l = (rdL (some l) n).flatMap cellB ++ r := by
  induction n generalizing r with
  | zero => cases hr; rfl
  | succ n ih =>
    cases e : rdS (some l) n with
    | none =>
      have : rdS (some l) (n + 1) = none := rdS_dead e _ (by omega)
      rw [this] at hr; cases hr
    | some q =>
      have h1 := ih (fun i hi => hc i (by omega)) q e
      have h2 : tcS (some q) 4 = some r := by rw [← e]; exact hr
      have h3 := cell_only q r h2 (by rw [← e]; exact hc n (by omega))
      rw [rdL_succ, List.flatMap_append, List.append_assoc, e]
      simp only [List.flatMap_cons, List.flatMap_nil, List.append_nil]
      rw [← h3]; exact h1
theorem may_span {a b : Int} (h : mayBeB (a, b) = true) : 0 ≤ a ∧ b ≤ 256 ∧ a < b := by
  unfold mayBeB at h
  simp at h
  omega
theorem w64_pos {n : Nat} (h : n ≤ 18446744073709551615) (hp : 0 ≤ wrap64 (n : Int)) : wrap64 (n : Int) = (n : Int) := by
  rcases w64_big n h with h | h
  · exact h
  · omega
theorem numV_le (s : Option (List UInt8)) : numV s ≤ 18446744073709551615 := by
  have := numR_lt s
  unfold numV; omega
theorem dcF_of {l : List UInt8} (h : 0 ≤ dcF l) : dcF l = numV (some l) := by
  unfold dcF at h ⊢
  exact w64_pos (numV_le _) h
theorem dcT_of {l : List UInt8} (h : 0 ≤ dcT l) : dcT l = numV (numS (some l)) := by
  unfold dcT at h ⊢
  exact w64_pos (numV_le _) h
theorem dcS_some {l q : List UInt8} (h : dcS l = some q) : ∃ c r1, numS (some l) = some r1 ∧ numS (some r1) = some (c :: q) ∧ ¬ 1 < c.toNat ∧ boolV (dcR l) = (c.toNat == 1) := by
  cases e3 : numS (some l) with
  | none =>
    have : dcR l = none := by unfold dcR; rw [e3]; rfl
    unfold dcS at h; rw [this] at h; cases h
  | some r1 =>
    have eR : dcR l = numS (some r1) := by unfold dcR; rw [e3]
    cases e2 : numS (some r1) with
    | none => unfold dcS at h; rw [eR, e2] at h; cases h
    | some r2 =>
      rw [e2] at eR
      cases r2 with
      | nil => unfold dcS at h; rw [eR] at h; cases h
      | cons c r2 =>
        by_cases hc : 1 < c.toNat
        · have : dcS l = none := by unfold dcS boolS; rw [eR]; exact if_pos hc
          rw [this] at h; cases h
        · have hS := dcS_of eR hc
          rw [hS.1] at h
          obtain rfl := Option.some.inj h
          exact ⟨c, r1, rfl, e2, hc, hS.2⟩
theorem byte_of {c : UInt8} (hc : ¬ 1 < c.toNat) : (if (c.toNat == 1) = true then (1 : UInt8) else 0) = c := by
  apply UInt8.toNat_inj.1
  rcases (show c.toNat = 0 ∨ c.toNat = 1 by omega) with h | h <;> simp [h]
end Go.Proofs.Ytabmnelenfghhaa
