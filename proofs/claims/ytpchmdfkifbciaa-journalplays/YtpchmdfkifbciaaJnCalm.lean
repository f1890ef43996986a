/- Plain facts on a journal whose device has power: what Format, Add, Sync leave. Conditions: at most MaxText bytes each. -/
import Derived.Test.YtpchmdfkifbciaaJnAt
namespace Go.Proofs.Ytpchmdfkifbciaa
open Go.RowKit

/-- The device's power is on and no Stop holds; it has just what the journal tells. -/
structure Calm (n : Nat) (S : DS) (J : JS) : Prop where
  room : S.room = n
  off : S.off = false
  left : S.left = -1
  image : S.image = frameB J.image
  stage : S.stage = []
  log : S.log = framesB J.recs
  up : J.down = false
  small : ∀ r ∈ J.recs, r.length ≤ 1048576
  ismall : J.image.length ≤ 1048576
theorem calm_format (n : Nat) (m : List UInt8) (hm : m.length ≤ 1048576) (hn : sec (m.length + 8) ≤ n) :
    (saveR (newS n) J0 m).1 = 0 ∧ (saveR (newS n) J0 m).2.2 = ⟨m, [], false⟩ ∧ Calm n (saveR (newS n) J0 m).2.1 ⟨m, [], false⟩ := by
  have hfl := frameB_len m
  have h1 : sec (frameB m).length + sec (newS n).image.length + sec (newS n).log.length ≤ (newS n).room := by
    rw [hfl]; simp only [newS, sec_nil]; omega
  have e1 : stageE (newS n) (frameB m) = 0 := by unfold stageE; rw [if_pos h1]
  have e2 : stageS (newS n) (frameB m) = { newS n with stage := frameB m, staged := true } := by unfold stageS; rw [if_pos h1]
  have e3 : writeE (newS n) (stageE (newS n) (frameB m)) = 0 := by rw [e1]; rfl
  have e4 : writeS (newS n) (stageS (newS n) (frameB m)) (newS n) = { newS n with stage := frameB m, staged := true } := by rw [e2]; rfl
  unfold saveR
  simp only [e3, e4, show J0.down = false from rfl, Bool.false_eq_true, if_false, if_neg (show ¬ 1048576 < m.length by omega)]
  refine ⟨rfl, rfl, rfl, rfl, rfl, rfl, rfl, rfl, rfl, ?_, hm⟩
  intro r hr
  cases hr
/-- Is there room for a record more? -/
def roomJ (n : Nat) (J : JS) (r : List UInt8) : Prop := sec (sizeJ J + r.length + 8) + sec (J.image.length + 8) ≤ n
theorem calm_add {n : Nat} {S : DS} {J : JS} (h : Calm n S J) (r : List UInt8) (hr : r.length ≤ 1048576) (hf : roomJ n J r) :
    addE S J r = 0 ∧ addJ S J r = { J with recs := J.recs ++ [r] } ∧ Calm n (addS S J r) { J with recs := J.recs ++ [r] } ∧ (addS S J r).sure = S.sure := by
  have hfl := frameB_len r
  have h1 : fitsA S (frameB r).length := by
    unfold fitsA
    rw [h.log, h.image, h.stage, h.room, hfl, frameB_len, sec_nil]
    unfold roomJ sizeJ at hf
    rw [← Nat.add_assoc]; omega
  have e1 : layE S (frameB r) = 0 := by unfold layE; rw [if_pos h1]
  have e2 : layS S (frameB r) = { S with log := S.log ++ frameB r } := by unfold layS; rw [if_pos h1]
  have e3 : writeE S (layE S (frameB r)) = 0 := by rw [e1]; unfold writeE; rw [h.off, h.left]; rfl
  have e4 : writeS S (layS S (frameB r)) (layS S (frameB r)) = { S with log := S.log ++ frameB r, left := -1 } := by rw [e2]; unfold writeS; rw [h.off, h.left]; rfl
  unfold addE addJ addS
  simp only [e3, e4, h.up, Bool.false_eq_true, if_false, if_true, if_neg (show ¬ 1048576 < r.length by omega)]
  refine ⟨trivial, trivial, ⟨h.room, h.off, rfl, h.image, h.stage, ?_, by first | exact h.up | rfl, ?_, h.ismall⟩, trivial⟩
  · simp only; rw [framesB_snoc, h.log]
  · intro x hx
    simp at hx
    rcases hx with hx | hx
    · exact h.small x hx
    · subst hx; exact hr
theorem calm_full {n : Nat} {S : DS} {J : JS} (h : Calm n S J) (r : List UInt8) (hr : r.length ≤ 1048576) (hf : ¬ roomJ n J r) :
    addE S J r = 3 ∧ addJ S J r = J ∧ Calm n (addS S J r) J ∧ (addS S J r).sure = S.sure := by
  have hfl := frameB_len r
  have h1 : ¬ fitsA S (frameB r).length := by
    unfold fitsA
    rw [h.log, h.image, h.stage, h.room, hfl, frameB_len, sec_nil]
    unfold roomJ sizeJ at hf
    rw [← Nat.add_assoc]; omega
  have e1 : layE S (frameB r) = 3 := by unfold layE; rw [if_neg h1]
  have e2 : layS S (frameB r) = S := by unfold layS; rw [if_neg h1]
  have e3 : writeE S (layE S (frameB r)) = 3 := by rw [e1]; unfold writeE; rw [h.off, h.left]; rfl
  have e4 : writeS S (layS S (frameB r)) (layS S (frameB r)) = { S with left := -1 } := by rw [e2]; unfold writeS; rw [h.off, h.left]; rfl
  unfold addE addJ addS
  simp only [e3, e4, h.up, Bool.false_eq_true, if_false, if_neg (show ¬ 1048576 < r.length by omega)]
  refine ⟨trivial, by simp [dn], ⟨h.room, h.off, rfl, h.image, h.stage, h.log, h.up, h.small, h.ismall⟩, trivial⟩
theorem calm_big {n : Nat} {S : DS} {J : JS} (h : Calm n S J) (r : List UInt8) (hr : 1048576 < r.length) : addE S J r = 2 ∧ addJ S J r = J ∧ addS S J r = S ∧ (saveR S J r) = (2, S, J) := by
  unfold addE addJ addS saveR
  simp [h.up, hr]
theorem calm_sync {n : Nat} {S : DS} {J : JS} (h : Calm n S J) : syncE S J = 0 ∧ syncJ S J = J ∧ Calm n (syncD S J) J ∧ (syncD S J).sure = S.log.length := by
  have e3 : writeE S 0 = 0 := by unfold writeE; rw [h.off, h.left]; rfl
  have e4 : writeS S (syncS S) S = { S with sure := S.log.length, left := -1 } := by unfold writeS syncS; rw [h.off, h.left]; rfl
  unfold syncE syncJ syncD
  simp only [e3, e4, h.up, Bool.false_eq_true, if_false]
  refine ⟨trivial, by simp [dn], ⟨h.room, h.off, rfl, h.image, h.stage, h.log, h.up, h.small, h.ismall⟩, trivial⟩
theorem imgOk_frame (m : List UInt8) (hm : m.length ≤ 1048576) : imgOk (frameB m) ∧ unfD (frameB m) = m := by
  have h1 := unfE_app m [] hm
  have h2 := wordV_app m [] hm
  have h3 := unfD_app m [] hm
  rw [List.append_nil] at h1 h2 h3
  exact ⟨⟨h1, by rw [frameB_len, h2]; exact Nat.le_refl _⟩, h3⟩
theorem framesB_len_all (rs : List (List UInt8)) (M : Nat) (h : ∀ r ∈ rs, r.length ≤ M) : (framesB rs).length ≤ rs.length * (M + 8) := by
  induction rs with
  | nil => simp [framesB]
  | cons x rs ih =>
    rw [framesB_cons, List.length_append, frameB_len, List.length_cons, Nat.succ_mul]
    have := h x (by simp)
    have := ih (fun r hr => h r (by simp [hr]))
    omega
theorem ownB_small {v : Value} {va : Option Addr} {n c B : Nat} {l : List UInt8} (h : (Value.slice va n c).ownBlock = v.ownBlock) (hold : Old B v l) : Old B (.slice va n c) (l.take 3000) := by
  intro hne k hk
  rw [h] at hk
  exact hold (fun e => hne (by rw [e]; rfl)) k hk
end Go.Proofs.Ytpchmdfkifbciaa
