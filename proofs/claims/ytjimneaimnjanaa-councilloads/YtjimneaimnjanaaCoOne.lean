/- A council whose one voter is itself: plain facts. -/
import Derived.Test.YtjimneaimnjanaaCoOffer
namespace Go.Proofs.Ytjimneaimnjanaa
open Go.RowKit
set_option linter.unusedVariables false
set_option linter.unusedSimpArgs false

theorem one_vtx {s : Int} (h0 : 0 ≤ s) (h1 : s < 7) : vtx (byT [s]) = [s] := by
  rw [vtx_eq]
  have : s.toNat.toUInt8.toNat = s.toNat := by show s.toNat % 256 = s.toNat; omega
  simp [byT, byL]
  omega
theorem one_votB {s : Int} (h0 : 0 ≤ s) (h1 : s < 7) : votB [s] = true := by
  rw [vot_yes]
  · rfl
  · intro j hj
    obtain rfl : j = 0 := by simpa using hj
    simp [votAt, nodeB]; omega
theorem one_vRow {s : Int} (h0 : 0 ≤ s) (h1 : s < 7) : vRow (byT [s]) = [s] := by
  unfold vRow; rw [one_vtx h0 h1, one_votB h0 h1]; rfl
theorem one_names {s : Int} (h0 : 0 ≤ s) (h1 : s < 7) : namesB (byT [s]) s = true := by
  unfold namesB; rw [one_vtx h0 h1]; simp
/-- Its one voter is itself, up to whatever index. -/
structure Al (D : CoD) : Prop where
  lo : 0 ≤ D.self
  hi : D.self < 7
  v : ∀ n, vUp D n = byT [D.self]
theorem Al.now {D : CoD} (h : Al D) : vNow D = byT [D.self] := h.v _
theorem Al.row {D : CoD} (h : Al D) : vRow (vNow D) = [D.self] := by rw [h.now, one_vRow h.lo h.hi]
theorem Al.size {D : CoD} (h : Al D) : (vNow D).size ≤ 999999 := by rw [h.now]; show (byL [D.self]).toArray.size ≤ _; simp [byL]
theorem Al.oRow {D : CoD} (h : Al D) : oRow D = [] := by unfold Go.Proofs.Ytjimneaimnjanaa.oRow; rw [h.row]; simp
theorem Al.names {D : CoD} (h : Al D) (n : Nat) : namesB (vUp D n) D.self = true := by rw [h.v, one_names h.lo h.hi]
theorem Al.of {D D' : CoD} (h : Al D) (h1 : D'.self = D.self) (h2 : D'.bv = D.bv) (h3 : D'.log = D.log) : Al D' := ⟨by rw [h1]; exact h.lo, by rw [h1]; exact h.hi, fun n => by rw [vUp_eq h2 h3, h1]; exact h.v n⟩
theorem Al.put {D : CoD} (h : Al D) (kind : Int) (s : ByteArray) (hk : kind ≠ 2) : Al (putD D kind s) := by
  refine ⟨h.lo, h.hi, fun n => ?_⟩
  induction n with
  | zero => exact h.v 0
  | succ n ih =>
    have hs := h.v (n + 1)
    simp only [vUp] at hs ⊢
    by_cases hn : n < D.log.length
    · have e : (putD D kind s).log.getD n ⟨0, 0, ⟨#[]⟩⟩ = D.log.getD n ⟨0, 0, ⟨#[]⟩⟩ := by
        show (D.log ++ [_]).getD n _ = _
        simp [List.getD, List.getElem?_append_left hn]
      rw [e]
      split
      · rename_i h2; rw [if_pos h2] at hs; exact hs
      · exact ih
    · have e : ((putD D kind s).log.getD n ⟨0, 0, ⟨#[]⟩⟩).kind ≠ 2 := by
        show ((D.log ++ [_]).getD n _).kind ≠ 2
        rw [List.getD, List.getElem?_append_right (by omega)]
        cases hm : n - D.log.length with
        | zero => simpa using hk
        | succ m => simp
      rw [if_neg e]; exact ih
theorem Al.reach {D : CoD} (h : Al D) : reachN D D.self.toNat = D.bi + D.log.length := if_pos (Int.toNat_of_nonneg h.lo)
theorem Al.maj {D : CoD} (h : Al D) (p : Int → Bool) (hp : p D.self = true) : majB (vRow (vNow D)) p = true := by
  unfold majB; rw [h.row]; simp [hp]
/-- What is behind what was told is told, if the last is of its own term. -/
theorem Al.com {D : CoD} (h : Al D) (hl : D.told < D.bi + D.log.length) (hb : D.bi ≤ D.told) (ht : tUp D D.log.length = D.term) : comN D = D.bi + D.log.length := by
  unfold comN comT
  rw [h.row]
  show comS D D.told D.self = _
  unfold comS
  have hc : comB D D.told (reachN D D.self.toNat) = true := by
    unfold comB
    rw [h.maj _ (by rw [decide_eq_true_eq]; exact Int.le_refl _), h.reach, decide_eq_true hl, show (D.bi + (D.log.length : Int) - D.bi).toNat = D.log.length by omega, decide_eq_true ht]
    rfl
  rw [hc, if_pos rfl, h.reach]
theorem Al.comE {D : CoD} (h : Al D) (hl : D.told < D.bi + D.log.length) (hb : D.bi ≤ D.told) (ht : tUp D D.log.length = D.term) : comE D = tlD D (D.bi + D.log.length - D.told).toNat := by
  unfold Go.Proofs.Ytjimneaimnjanaa.comE comD
  rw [h.com hl hb ht, if_neg (by omega), h.names, if_pos rfl]
theorem Al.comW {D : CoD} (h : Al D) (W : WdD) (hl : D.told < D.bi + D.log.length) (hb : D.bi ≤ D.told) (ht : tUp D D.log.length = D.term) : comW D W = tlW D W (D.bi + D.log.length - D.told).toNat := by
  unfold Go.Proofs.Ytjimneaimnjanaa.comW
  rw [h.com hl hb ht]
theorem tUp_put (D : CoD) (kind : Int) (s : ByteArray) : tUp (putD D kind s) (putD D kind s).log.length = D.term := by
  have e : (putD D kind s).log.length = D.log.length + 1 := by simp [putD]
  rw [e]
  show ((D.log ++ [_]).getD D.log.length _).term = _
  simp [List.getD]
theorem Al.newD {s : Int} (h0 : 0 ≤ s) (h1 : s < 7) : Al (newD s [s]) := by
  refine ⟨h0, h1, fun n => ?_⟩
  induction n with
  | zero => rfl
  | succ n ih => simpa [vUp, Go.Proofs.Ytjimneaimnjanaa.newD, freshD] using ih
theorem ledD_log (D : CoD) : (ledD D).log = D.log ++ [⟨D.term, 0, ⟨#[]⟩⟩] ∧ (ledD D).bi = D.bi ∧ (ledD D).told = D.told ∧ (ledD D).self = D.self ∧ (ledD D).term = D.term ∧ (ledD D).bv = D.bv ∧ (ledD D).role = 2 := by
  obtain ⟨e1, e2, e3, e4, e5, e6, e7, e8, e9, e10, e11, -⟩ := meetN_same (putD (seatD D) 0 ⟨#[]⟩) 7
  exact ⟨e8, e4, e11, e1, e2, e6, e9⟩
theorem Al.led {D : CoD} (h : Al D) : Al (ledD D) := by
  obtain ⟨e1, e2, e3, e4, e5, e6, e7⟩ := ledD_log D
  have h2 : Al (putD (seatD D) 0 ⟨#[]⟩) := Al.put (D := seatD D) (h.of rfl rfl rfl) 0 _ (by decide)
  exact h2.of e4 e6 e1
theorem led_term (D : CoD) : tUp (ledD D) (ledD D).log.length = (ledD D).term := by
  obtain ⟨e1, e2, e3, e4, e5, e6, e7⟩ := ledD_log D
  rw [e5, e1]
  have : (D.log ++ [(⟨D.term, 0, ⟨#[]⟩⟩ : En)]).length = D.log.length + 1 := by simp
  rw [this]
  show (((ledD D).log).getD D.log.length _).term = _
  rw [e1]; simp [List.getD]
/-- What lead leaves of one alone. -/
theorem Al.lead {D : CoD} (h : Al D) (hb : D.bi ≤ D.told) (hh : D.told ≤ D.bi + D.log.length) : leadD D = tlD (ledD D) (D.bi + D.log.length + 1 - D.told).toNat ∧ ∀ W, leadW D W = tlW (ledD D) { W with keep := true } (D.bi + D.log.length + 1 - D.told).toNat := by
  obtain ⟨e1, e2, e3, e4, e5, e6, e7⟩ := ledD_log D
  have hl : (ledD D).log.length = D.log.length + 1 := by rw [e1]; simp
  have e : ((ledD D).bi + (ledD D).log.length - (ledD D).told).toNat = (D.bi + D.log.length + 1 - D.told).toNat := by rw [e2, e3, hl]; omega
  have a1 : (ledD D).told < (ledD D).bi + (ledD D).log.length := by rw [e2, e3, hl]; omega
  have a2 : (ledD D).bi ≤ (ledD D).told := by rw [e2, e3]; exact hb
  exact ⟨by unfold leadD; rw [h.led.comE a1 a2 (led_term D), e], fun W => by unfold leadW; rw [h.led.comW _ a1 a2 (led_term D), e]⟩
/-- And what an offer of a change leaves. -/
theorem Al.off {D : CoD} (h : Al D) (kind : Int) (s : ByteArray) (hk : kind ≠ 2) (hb : D.bi ≤ D.told) (hh : D.told ≤ D.bi + D.log.length) : offD D kind s = tlD (putD D kind s) (D.bi + D.log.length + 1 - D.told).toNat ∧ offW D kind s = tlW (putD D kind s) ⟨true, [], []⟩ (D.bi + D.log.length + 1 - D.told).toNat := by
  have hl : (putD D kind s).log.length = D.log.length + 1 := by simp [putD]
  have e : ((putD D kind s).bi + (putD D kind s).log.length - (putD D kind s).told).toNat = (D.bi + D.log.length + 1 - D.told).toNat := by rw [hl]; show (D.bi + _ - D.told).toNat = _; omega
  have a1 : (putD D kind s).told < (putD D kind s).bi + (putD D kind s).log.length := by rw [hl]; show D.told < D.bi + _; omega
  exact ⟨by unfold offD; rw [(h.put kind s hk).comE a1 hb (tUp_put D kind s), e], by unfold offW; rw [(h.put kind s hk).comW _ a1 hb (tUp_put D kind s), e]⟩
end Go.Proofs.Ytjimneaimnjanaa
