/- Plain facts on a journal under any calls, and what a crash leaves. Conditions: records and images of at most 3000 bytes. -/
import Derived.Test.YtpchmdfkifbciaaJnCalm
namespace Go.Proofs.Ytpchmdfkifbciaa
open Go.RowKit

/-- What holds of a journal and its device: all are the records that were added since the last image, n of them were told sure. -/
structure CI (S : DS) (J : JS) (all : List (List UInt8)) (n : Nat) : Prop where
  image : S.image = frameB J.image
  ism : J.image.length ≤ 3000
  sm : ∀ r ∈ all, r.length ≤ 3000
  on : J.down = false → S.off = false
  mid : ∃ m, m ≤ all.length ∧ S.log = framesB (all.take m) ∧ n ≤ m ∧ (framesB (all.take n)).length ≤ S.sure ∧ (J.down = false → m = all.length ∧ J.recs = all)
theorem ci_stop {S : DS} {J : JS} {all : List (List UInt8)} {n : Nat} (h : CI S J all n) (k : Int) : CI (stopS S k) J all n := ⟨h.image, h.ism, h.sm, h.on, h.mid⟩
theorem take_snoc_le (all : List (List UInt8)) (b : List UInt8) (n : Nat) (h : n ≤ all.length) : (all ++ [b]).take n = all.take n := List.take_append_of_le_length h
theorem ci_add {S : DS} {J : JS} {all : List (List UInt8)} {n : Nat} (h : CI S J all n) (hup : J.down = false) (b : List UInt8) (hb : b.length ≤ 3000) :
    ((addE S J b = 0 ∨ addE S J b = 6) ∧ CI (addS S J b) (addJ S J b) (all ++ [b]) n) ∨ (addE S J b = 3 ∧ CI (addS S J b) (addJ S J b) all n) := by
  obtain ⟨m, h1, h2, h3, h4, h5⟩ := h.mid
  obtain ⟨rfl, hre⟩ := h5 hup
  have hon := h.on hup
  rw [List.take_length] at h2
  have hsm : ∀ r ∈ all ++ [b], r.length ≤ 3000 := by
    intro r hr
    simp at hr
    rcases hr with hr | hr
    · exact h.sm r hr
    · subst hr; exact hb
  have hbig : ¬ 1048576 < b.length := by omega
  have hn : (all ++ [b]).take n = all.take n := take_snoc_le all b n h3
  unfold addE addS addJ
  simp only [hup, Bool.false_eq_true, if_false, if_neg hbig]
  by_cases hl : S.left = 0
  · have e3 : ∀ x, writeE S x = 6 := by intro x; unfold writeE; rw [hon, if_pos hl]; rfl
    have e4 : ∀ A B, writeS S A B = { B with off := true, left := max (B.left - 1) (-1) } := by intro A B; unfold writeS; rw [hon, if_pos hl]; rfl
    simp only [e3, e4]
    refine .inl ⟨.inr trivial, ?_⟩
    by_cases hf : fitsA S (frameB b).length
    · unfold layS
      rw [if_pos hf]
      refine ⟨h.image, h.ism, hsm, ?_, all.length + 1, by simp, ?_, by omega, ?_, ?_⟩
      · intro hd; simp [dn] at hd
      · rw [List.take_of_length_le (by simp)]; simp only; rw [framesB_snoc, h2]
      · rw [hn]; exact h4
      · intro hd; simp [dn] at hd
    · unfold layS
      rw [if_neg hf]
      refine ⟨h.image, h.ism, hsm, ?_, all.length, by simp, ?_, h3, ?_, ?_⟩
      · intro hd; simp [dn] at hd
      · rw [take_snoc_le all b all.length (Nat.le_refl _), List.take_length]; exact h2
      · rw [hn]; exact h4
      · intro hd; simp [dn] at hd
  · have e3 : ∀ x, writeE S x = x := by intro x; unfold writeE; rw [hon, if_neg hl]; rfl
    have e4 : ∀ A B, writeS S A B = { A with left := max (A.left - 1) (-1) } := by intro A B; unfold writeS; rw [hon, if_neg hl]; rfl
    simp only [e3, e4]
    by_cases hf : fitsA S (frameB b).length
    · unfold layE layS
      rw [if_pos hf, if_pos hf]
      refine .inl ⟨.inl rfl, ?_⟩
      simp only [if_true]
      refine ⟨h.image, h.ism, hsm, fun _ => hon, all.length + 1, by simp, ?_, by omega, ?_, fun _ => ⟨by simp, by rw [hre]⟩⟩
      · rw [List.take_of_length_le (by simp)]; simp only; rw [framesB_snoc, h2]
      · rw [hn]; exact h4
    · unfold layE layS
      rw [if_neg hf, if_neg hf]
      refine .inr ⟨rfl, ?_⟩
      simp only [show ¬ ((3 : Int) = 0) by decide, if_false, dn, show ¬ ((3 : Int) = 6) by decide]
      exact ⟨h.image, h.ism, h.sm, fun _ => hon, all.length, Nat.le_refl _, by rw [List.take_length]; exact h2, h3, h4, fun _ => ⟨rfl, hre⟩⟩
theorem ci_sync {S : DS} {J : JS} {all : List (List UInt8)} {n : Nat} (h : CI S J all n) (hup : J.down = false) :
    (syncE S J = 0 ∧ CI (syncD S J) (syncJ S J) all all.length) ∨ (syncE S J = 6 ∧ CI (syncD S J) (syncJ S J) all n) := by
  obtain ⟨m, h1, h2, h3, h4, h5⟩ := h.mid
  obtain ⟨rfl, hre⟩ := h5 hup
  have hon := h.on hup
  rw [List.take_length] at h2
  unfold syncE syncD syncJ
  simp only [hup, Bool.false_eq_true, if_false]
  by_cases hl : S.left = 0
  · have e3 : ∀ x, writeE S x = 6 := by intro x; unfold writeE; rw [hon, if_pos hl]; rfl
    have e4 : ∀ A B, writeS S A B = { B with off := true, left := max (B.left - 1) (-1) } := by intro A B; unfold writeS; rw [hon, if_pos hl]; rfl
    simp only [e3, e4]
    refine .inr ⟨trivial, h.image, h.ism, h.sm, ?_, all.length, Nat.le_refl _, by rw [List.take_length]; exact h2, h3, h4, ?_⟩
    · intro hd; simp [dn] at hd
    · intro hd; simp [dn] at hd
  · have e3 : ∀ x, writeE S x = x := by intro x; unfold writeE; rw [hon, if_neg hl]; rfl
    have e4 : ∀ A B, writeS S A B = { A with left := max (A.left - 1) (-1) } := by intro A B; unfold writeS; rw [hon, if_neg hl]; rfl
    simp only [e3, e4]
    refine .inl ⟨trivial, h.image, h.ism, h.sm, fun _ => hon, all.length, Nat.le_refl _, by rw [List.take_length]; exact h2, Nat.le_refl _, ?_, fun _ => ⟨rfl, hre⟩⟩
    rw [List.take_length, ← h2]; exact Nat.le_refl _
theorem ci_save {S : DS} {J : JS} {all : List (List UInt8)} {n : Nat} (h : CI S J all n) (hup : J.down = false) (b : List UInt8) (hb : b.length ≤ 3000) :
    ((saveR S J b).1 = 0 ∧ (saveR S J b).2.2.image = b ∧ CI (saveR S J b).2.1 (saveR S J b).2.2 [] 0) ∨ (((saveR S J b).1 = 3 ∨ (saveR S J b).1 = 6 ∨ (saveR S J b).1 = 8) ∧ (saveR S J b).2.2.image = J.image ∧ CI (saveR S J b).2.1 (saveR S J b).2.2 all n) := by
  obtain ⟨m, h1, h2, h3, h4, h5⟩ := h.mid
  obtain ⟨rfl, hre⟩ := h5 hup
  have hon := h.on hup
  rw [List.take_length] at h2
  have hbig : ¬ 1048576 < b.length := by omega
  have mid0 : ∀ (S' : DS) (J' : JS), S'.image = S.image → S'.log = S.log → S'.sure = S.sure → J'.image = J.image → (J'.down = false → S'.off = false ∧ J'.recs = J.recs) → CI S' J' all n := by
    intro S' J' a1 a2 a3 a4 a5
    refine ⟨by rw [a1, a4]; exact h.image, by rw [a4]; exact h.ism, h.sm, fun hd => (a5 hd).1, all.length, Nat.le_refl _, by rw [List.take_length, a2]; exact h2, h3, by rw [a3]; exact h4, fun hd => ⟨rfl, by rw [(a5 hd).2]; exact hre⟩⟩
  unfold saveR
  simp only [hup, Bool.false_eq_true, if_false, if_neg hbig]
  by_cases hl : S.left = 0
  · have e3 : ∀ x, writeE S x = 6 := by intro x; unfold writeE; rw [hon, if_pos hl]; rfl
    have e4 : ∀ A B, writeS S A B = { B with off := true, left := max (B.left - 1) (-1) } := by intro A B; unfold writeS; rw [hon, if_pos hl]; rfl
    simp only [e3, e4, if_pos (show (6 : Int) ≠ 0 by decide)]
    exact .inr ⟨.inr (.inl trivial), by simp [dn], mid0 _ _ rfl rfl rfl (by simp [dn]) (fun hd => by simp [dn] at hd)⟩
  · have e3 : ∀ x, writeE S x = x := by intro x; unfold writeE; rw [hon, if_neg hl]; rfl
    have e4 : ∀ A B, writeS S A B = { A with left := max (A.left - 1) (-1) } := by intro A B; unfold writeS; rw [hon, if_neg hl]; rfl
    simp only [e3, e4]
    by_cases hf : sec (frameB b).length + sec S.image.length + sec S.log.length ≤ S.room
    · have g1 : stageE S (frameB b) = 0 := by unfold stageE; rw [if_pos hf]
      have g2 : stageS S (frameB b) = { S with stage := frameB b, staged := true } := by unfold stageS; rw [if_pos hf]
      simp only [g1, g2, if_neg (show ¬ ((0 : Int) ≠ 0) by decide)]
      by_cases hl2 : max (S.left - 1) (-1) = 0
      · have k3 : ∀ x, writeE { S with stage := frameB b, staged := true, left := max (S.left - 1) (-1) } x = 6 := by intro x; unfold writeE; simp only [hon, Bool.false_eq_true, if_false]; rw [if_pos hl2]
        have k4 : ∀ A B, writeS { S with stage := frameB b, staged := true, left := max (S.left - 1) (-1) } A B = { B with off := true, left := max (B.left - 1) (-1) } := by intro A B; unfold writeS; simp only [hon, Bool.false_eq_true, if_false]; rw [if_pos hl2]
        simp only [k3, k4, if_pos (show (6 : Int) ≠ 0 by decide)]
        exact .inr ⟨.inr (.inl trivial), by simp [dn], mid0 _ _ rfl rfl rfl (by simp [dn]) (fun hd => by simp [dn] at hd)⟩
      · have k3 : ∀ x, writeE { S with stage := frameB b, staged := true, left := max (S.left - 1) (-1) } x = x := by intro x; unfold writeE; simp only [hon, Bool.false_eq_true, if_false]; rw [if_neg hl2]
        have k4 : ∀ A B, writeS { S with stage := frameB b, staged := true, left := max (S.left - 1) (-1) } A B = { A with left := max (A.left - 1) (-1) } := by intro A B; unfold writeS; simp only [hon, Bool.false_eq_true, if_false]; rw [if_neg hl2]
        simp only [k3, k4, commitE, commitS, if_true, if_neg (show ¬ ((0 : Int) ≠ 0) by decide)]
        refine .inl ⟨trivial, trivial, rfl, hb, (fun r hr => by cases hr), fun _ => hon, 0, Nat.le_refl _, rfl, Nat.le_refl _, Nat.le_refl _, fun _ => ⟨rfl, rfl⟩⟩
    · have g1 : stageE S (frameB b) = 3 := by unfold stageE; rw [if_neg hf]
      have g2 : stageS S (frameB b) = S := by unfold stageS; rw [if_neg hf]
      simp only [g1, g2, if_pos (show (3 : Int) ≠ 0 by decide)]
      exact .inr ⟨.inl trivial, by simp [dn], mid0 _ _ rfl rfl rfl (by simp [dn]) (fun _ => ⟨hon, by simp [dn]⟩)⟩
/-- What is found behind a crash. -/
theorem ci_crash {S : DS} {J : JS} {all : List (List UInt8)} {n : Nat} (h : CI S J all n) (keep : Int) :
    (crashS S keep).off = false ∧ (crashS S keep).left = -1 ∧ imgOk (crashS S keep).image ∧ unfD (crashS S keep).image = J.image ∧ ∃ k t, n ≤ k ∧ k ≤ all.length ∧ (crashS S keep).log = framesB (all.take k) ++ t ∧ (unfE t = 8 ∨ unfE t = 4) ∧ ∀ r ∈ all.take k, r.length ≤ 1048576 := by
  have hio := imgOk_frame J.image (by have := h.ism; omega)
  obtain ⟨m, h1, h2, h3, h4, -⟩ := h.mid
  have hsm : ∀ r ∈ all, r.length ≤ 1048576 := fun r hr => by have := h.sm r hr; omega
  obtain ⟨k, t, g1, g2, g3, g4, g5⟩ := frames_take (all.take m) (keepN S keep) (fun r hr => hsm r (List.mem_of_mem_take hr))
  refine ⟨rfl, rfl, by show imgOk S.image; rw [h.image]; exact hio.1, by show unfD S.image = _; rw [h.image]; exact hio.2, k, t, ?_, ?_, ?_, g3, fun r hr => hsm r (List.mem_of_mem_take hr)⟩
  · refine g5 n (by simp; omega) ?_
    rw [List.take_take, Nat.min_eq_left h3]
    exact Nat.le_trans h4 (keepN_ge S keep)
  · simp at g1; omega
  · show S.log.take (keepN S keep) = _
    rw [h2, g2, List.take_take, Nat.min_eq_left (by simp at g1; omega)]
theorem ci_size {S : DS} {J : JS} {all : List (List UInt8)} {n : Nat} (h : CI S J all n) (hok : Ok S) (hup : J.down = false) : sizeJ J ≤ 1000000000 := by
  obtain ⟨m, h1, h2, h3, h4, h5⟩ := h.mid
  obtain ⟨rfl, hre⟩ := h5 hup
  rw [List.take_length] at h2
  have := hok.log
  unfold sizeJ
  rw [hre, ← h2]; omega
theorem ci_start (S : DS) (h : Calm 300 S ⟨[102, 105, 114, 115, 116], [], false⟩) : CI S ⟨[102, 105, 114, 115, 116], [], false⟩ [] 0 :=
  ⟨h.image, by simp, (fun r hr => by cases hr), fun _ => h.off, 0, Nat.le_refl _, by rw [h.log]; rfl, Nat.le_refl _, by simp [framesB], fun _ => ⟨rfl, rfl⟩⟩
end Go.Proofs.Ytpchmdfkifbciaa
