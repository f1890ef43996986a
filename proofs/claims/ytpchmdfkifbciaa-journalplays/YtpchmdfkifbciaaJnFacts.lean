/- Plain facts on logs: frames one behind the other, and a beginning of one more behind them, are taken as what they are. Conditions: the records have at most MaxText bytes. -/
import Derived.Test.YtpchmdfkifbciaaJnTake
namespace Go.Proofs.Ytpchmdfkifbciaa
open Go.RowKit

theorem frames_app_drop (ls : List (List UInt8)) (t : List UInt8) (k : Nat) : (framesB ls ++ t).drop (framesB (ls.take k)).length = framesB (ls.drop k) ++ t := by
  rw [framesB_split ls k, List.append_assoc, List.drop_left]
theorem Fr.inv {l : List UInt8} {rs : List (List UInt8)} {p : Nat} (ls : List (List UInt8)) (t : List UInt8) (hl : l = framesB ls ++ t) (hs : ∀ r ∈ ls, r.length ≤ 1048576) (ht : unfE t ≠ 0) (h : Fr l rs p) : ∃ k, k ≤ ls.length ∧ rs = ls.take k ∧ p = (framesB (ls.take k)).length := by
  subst hl
  induction h with
  | nil => exact ⟨0, Nat.zero_le _, by simp, by simp [framesB]⟩
  | @snoc rs p h h0 ih =>
    obtain ⟨k, hk, rfl, rfl⟩ := ih
    rw [frames_app_drop] at h0 ⊢
    by_cases hlt : k < ls.length
    · have hx := hs ls[k] (List.getElem_mem hlt)
      rw [framesB_drop ls k hlt, List.append_assoc, unfD_app _ _ hx, wordV_app _ _ hx]
      refine ⟨k + 1, hlt, ?_, ?_⟩
      · rw [List.take_succ_eq_append_getElem hlt]
      · rw [framesB_len_take ls k hlt]
    · have : k = ls.length := by omega
      subst this
      rw [List.drop_length, framesB_nil, List.nil_append] at h0
      exact absurd h0 ht
/-- All frames are taken, and what is behind them is looked at. -/
theorem Fr.all {l : List UInt8} {rs : List (List UInt8)} {p : Nat} (ls : List (List UInt8)) (t : List UInt8) (hl : l = framesB ls ++ t) (hs : ∀ r ∈ ls, r.length ≤ 1048576) (ht : unfE t ≠ 0) (h : Fr l rs p) (he : unfE (l.drop p) ≠ 0) : rs = ls ∧ p = (framesB ls).length ∧ l.drop p = t := by
  obtain ⟨k, hk, rfl, rfl⟩ := h.inv ls t hl hs ht
  subst hl
  rw [frames_app_drop] at he ⊢
  by_cases hlt : k < ls.length
  · exact absurd (by rw [framesB_drop ls k hlt, List.append_assoc]; exact unfE_app _ _ (hs ls[k] (List.getElem_mem hlt))) he
  · have : k = ls.length := by omega
    subst this
    simp [framesB_nil]
/-- A beginning of a frame is none. -/
theorem unfE_begin (x : List UInt8) (hx : x.length ≤ 1048576) (j : Nat) (hj : j < x.length + 8) : unfE ((frameB x).take j) = if j = 0 then 8 else 4 := by
  have hfl := frameB_len x
  by_cases h0 : j = 0
  · subst h0; rfl
  · rw [if_neg h0]
    have hl : ((frameB x).take j).length = j := by simp; omega
    unfold unfE
    have hne : ¬ (frameB x).take j = [] := fun h => by rw [h] at hl; simp at hl; omega
    rw [if_neg hne]
    by_cases h4 : j < 4
    · rw [if_pos (by omega)]
    · have hw : wordV ((frameB x).take j) = x.length := by
        have e : (frameB x).take j = fourB x.length ++ (x ++ fourB (crcAll (headB x))).take (j - 4) := by
          unfold frameB headB
          rw [List.append_assoc, List.take_append, fourB_len, List.take_of_length_le (by rw [fourB_len]; omega)]
        rw [e]
        exact wordV_fourB _ _ (by omega)
      rw [if_neg (by omega), hw, if_neg (by omega), if_pos (by omega)]
/-- A beginning of frames: whole ones, and a beginning of the next. -/
theorem frames_take (ls : List (List UInt8)) (n : Nat) (hs : ∀ r ∈ ls, r.length ≤ 1048576) :
    ∃ k t, k ≤ ls.length ∧ (framesB ls).take n = framesB (ls.take k) ++ t ∧ (unfE t = 8 ∨ unfE t = 4) ∧ (unfE t = 8 → t = []) ∧ (∀ m, m ≤ ls.length → (framesB (ls.take m)).length ≤ n → m ≤ k) := by
  induction ls generalizing n with
  | nil => exact ⟨0, [], Nat.le_refl _, by simp [framesB], .inl rfl, (fun _ => rfl), fun m hm _ => hm⟩
  | cons x ls ih =>
    have hx := hs x (by simp)
    have hfl := frameB_len x
    by_cases hn : n < x.length + 8
    · refine ⟨0, (frameB x).take n, Nat.zero_le _, ?_, ?_, ?_, ?_⟩
      · rw [framesB_cons, List.take_append_of_le_length (by omega)]; simp [framesB_nil]
      · rw [unfE_begin x hx n hn]; split <;> simp
      · intro h; rw [unfE_begin x hx n hn] at h
        by_cases h0 : n = 0
        · subst h0; rfl
        · rw [if_neg h0] at h; cases h
      · intro m hm h
        match m with
        | 0 => exact Nat.le_refl _
        | m + 1 => rw [List.take_succ_cons, framesB_cons, List.length_append, hfl] at h; omega
    · obtain ⟨k, t, h1, h2, h3, h4, h5⟩ := ih (n - (x.length + 8)) (fun r hr => hs r (by simp [hr]))
      refine ⟨k + 1, t, by simp; omega, ?_, h3, h4, ?_⟩
      · rw [framesB_cons, List.take_append, List.take_of_length_le (by omega), hfl, h2, List.take_succ_cons, framesB_cons, List.append_assoc]
      · intro m hm h
        match m with
        | 0 => exact Nat.zero_le _
        | m + 1 =>
          rw [List.take_succ_cons, framesB_cons, List.length_append, hfl] at h
          have := h5 m (by simp at hm; omega) (by omega)
          omega
end Go.Proofs.Ytpchmdfkifbciaa
