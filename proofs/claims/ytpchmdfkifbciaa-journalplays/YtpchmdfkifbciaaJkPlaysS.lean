/- Plain facts on a journal under any calls, for JournalPlays. Conditions: records and images of at most 3000 bytes. -/
import Derived.Test.YtpchmdfkifbciaaJnCalm
namespace Go.Proofs.Ytpchmdfkifbciaa
open Go.RowKit

/-- The device has an image's frame, and at most i frames. -/
def PS (i : Nat) (S : DS) : Prop := ∃ im lr, S.image = frameB im ∧ im.length ≤ 3000 ∧ S.log = framesB lr ∧ (∀ r ∈ lr, r.length ≤ 3000) ∧ lr.length ≤ i
/-- The journal has at most i records. -/
def PJ (i : Nat) (J : JS) : Prop := J.image.length ≤ 3000 ∧ J.recs.length ≤ i ∧ ∀ r ∈ J.recs, r.length ≤ 3000
theorem PS.mono {i : Nat} {S : DS} (h : PS i S) : PS (i + 1) S := by obtain ⟨im, lr, h1, h2, h3, h4, h5⟩ := h; exact ⟨im, lr, h1, h2, h3, h4, by omega⟩
theorem PJ.mono {i : Nat} {J : JS} (h : PJ i J) : PJ (i + 1) J := ⟨h.1, by have := h.2.1; omega, h.2.2⟩
theorem PS.alike {i : Nat} {S S' : DS} (h : PS i S) (h1 : S'.image = S.image) (h2 : S'.log = S.log) : PS i S' := by obtain ⟨im, lr, a, b, c, d⟩ := h; exact ⟨im, lr, by rw [h1]; exact a, b, by rw [h2]; exact c, d⟩
theorem PS.write {i : Nat} {S A B : DS} (hS : PS i S) (hA : PS i A) (hB : PS i B) : PS i (writeS S A B) := by
  unfold writeS
  split
  · exact hS
  · split
    · exact hB.alike rfl rfl
    · exact hA.alike rfl rfl
theorem PS.lay {i : Nat} {S : DS} (h : PS i S) (b : List UInt8) (hb : b.length ≤ 3000) : PS (i + 1) (layS S (frameB b)) := by
  obtain ⟨im, lr, h1, h2, h3, h4, h5⟩ := h
  unfold layS
  split
  · refine ⟨im, lr ++ [b], h1, h2, ?_, ?_, by simp; omega⟩
    · simp only; rw [h3, framesB_snoc]
    · intro r hr
      simp at hr
      rcases hr with hr | hr
      · exact h4 r hr
      · subst hr; exact hb
  · exact ⟨im, lr, h1, h2, h3, h4, by omega⟩
theorem dn_PJ {i : Nat} {J : JS} (h : PJ i J) (er : Int) : PJ i (dn J er) := by unfold dn; split <;> exact h
theorem ps_add {i : Nat} {S : DS} {J : JS} (h : PS i S) (hj : PJ i J) (b : List UInt8) (hb : b.length ≤ 3000) : PS (i + 1) (addS S J b) ∧ PJ (i + 1) (addJ S J b) := by
  unfold addS addJ
  split
  · exact ⟨h.mono, hj.mono⟩
  · split
    · exact ⟨h.mono, hj.mono⟩
    · refine ⟨h.mono.write (h.lay b hb) (h.lay b hb), ?_⟩
      split
      · refine ⟨hj.1, by have := hj.2.1; simp; omega, ?_⟩
        intro r hr
        simp at hr
        rcases hr with hr | hr
        · exact hj.2.2 r hr
        · subst hr; exact hb
      · exact dn_PJ hj.mono _
theorem ps_sync {i : Nat} {S : DS} {J : JS} (h : PS i S) (hj : PJ i J) : PS i (syncD S J) ∧ PJ i (syncJ S J) := by
  unfold syncD syncJ
  split
  · exact ⟨h, hj⟩
  · exact ⟨h.write (h.alike rfl rfl) h, dn_PJ hj _⟩
theorem PS.stage {i : Nat} {S : DS} (h : PS i S) (f : List UInt8) : PS i (stageS S f) := by
  unfold stageS
  split
  · exact h.alike rfl rfl
  · exact h
theorem staged_of {S : DS} {f : List UInt8} (h : writeE S (stageE S f) = 0) : (writeS S (stageS S f) S).stage = f ∧ (writeS S (stageS S f) S).staged = true := by
  unfold writeE at h
  unfold writeS
  split at h
  · cases h
  · rename_i h1
    split at h
    · cases h
    · rename_i h2
      rw [if_neg h1, if_neg h2]
      unfold stageE at h
      unfold stageS
      split at h
      · rename_i h3
        rw [if_pos h3]; exact ⟨rfl, rfl⟩
      · cases h
theorem ps_save {i : Nat} {S : DS} {J : JS} (h : PS i S) (hj : PJ i J) (b : List UInt8) (hb : b.length ≤ 3000) : PS i (saveR S J b).2.1 ∧ PJ i (saveR S J b).2.2 := by
  unfold saveR
  split
  · exact ⟨h, hj⟩
  · split
    · exact ⟨h, hj⟩
    · have hs1 : PS i (writeS S (stageS S (frameB b)) S) := h.write (h.stage _) h
      split
      · exact ⟨hs1, dn_PJ hj _⟩
      · rename_i h0
        have h0' : writeE S (stageE S (frameB b)) = 0 := by simpa using h0
        obtain ⟨g1, g2⟩ := staged_of h0'
        have hc : PS i (commitS (writeS S (stageS S (frameB b)) S)) := by
          unfold commitS
          rw [if_pos g2]
          exact ⟨b, [], g1, hb, rfl, (fun r hr => by cases hr), Nat.zero_le _⟩
        simp only
        split
        · exact ⟨hs1.write hc hs1, dn_PJ hj _⟩
        · exact ⟨hs1.write hc hs1, hb, Nat.zero_le _, (fun r hr => by cases hr)⟩
/-- What is found behind a crash. -/
theorem ps_crash {i : Nat} {S : DS} (h : PS i S) (keep : Int) : ∃ im ls t, imgOk (crashS S keep).image ∧ unfD (crashS S keep).image = im ∧ im.length ≤ 3000 ∧ (crashS S keep).image = frameB im ∧ (crashS S keep).log = framesB ls ++ t ∧ (∀ r ∈ ls, r.length ≤ 1048576) ∧ (∀ r ∈ ls, r.length ≤ 3000) ∧ ls.length ≤ i ∧ (unfE t = 8 ∨ unfE t = 4) := by
  obtain ⟨im, lr, h1, h2, h3, h4, h5⟩ := h
  have hio := imgOk_frame im (by omega)
  obtain ⟨k, t, g1, g2, g3, -, -⟩ := frames_take lr (keepN S keep) (fun r hr => by have := h4 r hr; omega)
  refine ⟨im, lr.take k, t, by show imgOk S.image; rw [h1]; exact hio.1, by show unfD S.image = _; rw [h1]; exact hio.2, h2, h1, ?_, fun r hr => by have := h4 r (List.mem_of_mem_take hr); omega, fun r hr => h4 r (List.mem_of_mem_take hr), by simp; omega, g3⟩
  show S.log.take (keepN S keep) = _
  rw [h3, g2]
theorem pj_size {i : Nat} {J : JS} (h : PJ i J) (hi : i ≤ 61) : sizeJ J ≤ 1000000000 := by
  have h1 := framesB_len_all J.recs 3000 h.2.2
  have h2 := h.2.1
  have h3 : J.recs.length * (3000 + 8) ≤ 61 * (3000 + 8) := Nat.mul_le_mul_right _ (by omega)
  unfold sizeJ
  omega
end Go.Proofs.Ytpchmdfkifbciaa
