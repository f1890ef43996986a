/- Plain facts: of a list that was laid no beginning is read whole. -/
import Derived.Test.YtabmnelenfghhaaBack
namespace Go.Proofs.Ytabmnelenfghhaa
open Go.RowKit

theorem num_ext (r r' Q : List UInt8) (n : Nat) (h : numR (some r) = (n, some r')) : numR (some (r ++ Q)) = (n, some (r' ++ Q)) := by
  obtain ⟨h1, h2⟩ := numR_only r n r' h
  rw [h1, List.append_assoc]; exact numR_numB _ _ h2
theorem text_ext (r t Q : List UInt8) (h : textS (some r) = some t) : textS (some (r ++ Q)) = some (t ++ Q) := by
  unfold textS at h
  split at h
  · cases h
  · rename_i r' h'
    obtain rfl := Option.some.inj h
    have h2 : ¬ (1048576 < (numR (some r)).1 ∨ leftN (numR (some r)).2 < (numR (some r)).1) ∧ lenR 1048576 (some r) = numR (some r) := by
      unfold lenR at h' ⊢
      split at h'
      · cases h'
      · rename_i hn
        exact ⟨hn, if_neg hn⟩
    obtain ⟨hn, he⟩ := h2
    rw [he] at h' ⊢
    have h3 : numR (some r) = ((numR (some r)).1, some r') := by rw [← h']
    have h4 := num_ext r r' Q _ h3
    rw [h'] at hn
    simp only [leftN] at hn
    have h5 : lenR 1048576 (some (r ++ Q)) = ((numR (some r)).1, some (r' ++ Q)) := by
      unfold lenR
      rw [h4, if_neg]
      simp only [leftN, List.length_append]; omega
    unfold textS
    rw [h5]
    show some ((r' ++ Q).drop _) = _
    rw [List.drop_append_of_le_length (by omega)]
theorem getGo_cut (xs : List ByteArray) (r Q : List UInt8) (acc : List (List UInt8)) (hx : ∀ x ∈ xs, x.size ≤ 1048576) (hQ : Q ≠ []) (h : r ++ Q = xs.flatMap textB) : getGo textV textS xs.length (some r) acc = (none, none) := by
  induction xs generalizing r acc with
  | nil => simp at h; exact absurd h.2 hQ
  | cons x xs ih =>
    rw [List.length_cons]
    show (if badO (textS (some r)) then (none, none) else getGo textV textS xs.length (textS (some r)) (acc ++ [textV (some r)])) = _
    cases ht : textS (some r) with
    | none => rfl
    | some t =>
      have h1 := text_ext r t Q ht
      rw [h, List.flatMap_cons, (text_back x (hx x (List.mem_cons_self ..)) _).2] at h1
      have h2 := Option.some.inj h1
      exact ih t _ (fun y hy => hx y (List.mem_cons_of_mem _ hy)) h2.symm
theorem getR_cut (xs : List ByteArray) (k : Nat) (hx : ∀ x ∈ xs, x.size ≤ 1048576) (hn : xs.length ≤ 4096) (hk : k < (listB textB xs).length) : getR textV textS (some ((listB textB xs).take k)) = (none, none) := by
  have hQ : (listB textB xs).drop k ≠ [] := by
    intro h
    have := congrArg List.length h
    simp at this; omega
  have hB : (listB textB xs).take k ++ (listB textB xs).drop k = listB textB xs := List.take_append_drop _ _
  generalize (listB textB xs).take k = P at *
  generalize (listB textB xs).drop k = Q at *
  unfold getR
  cases hl : (lenR 4096 (some P)).2 with
  | none => rfl
  | some r =>
    have h2 : lenR 4096 (some P) = numR (some P) := by
      unfold lenR at hl ⊢
      split at hl
      · cases hl
      · rename_i h; exact if_neg h
    rw [h2] at hl ⊢
    have h3 : numR (some P) = ((numR (some P)).1, some r) := by rw [← hl]
    have h4 := num_ext P r Q _ h3
    rw [hB] at h4
    unfold listB at h4
    rw [numR_numB _ _ (by omega)] at h4
    obtain ⟨e1, e2⟩ := Prod.mk.inj h4
    have e3 := Option.some.inj e2
    rw [← e1, if_neg (by simp [badO])]
    exact getGo_cut xs r Q [] hx hQ e3.symm

theorem bytes_eta (s : ByteArray) : (⟨s.data.toList.toArray⟩ : ByteArray) = s := by cases s; simp
theorem map_eta (l : List ByteArray) : (l.map fun s => s.data.toList).map (fun x => (⟨x.toArray⟩ : ByteArray)) = l := by
  rw [List.map_map]
  refine (List.map_congr_left (g := id) fun s _ => bytes_eta s).trans (List.map_id _)
end Go.Proofs.Ytabmnelenfghhaa
