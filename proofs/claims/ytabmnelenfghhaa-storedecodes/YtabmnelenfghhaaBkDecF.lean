/- Plain facts: a store's bytes are read as the store, and what is read has just these bytes. -/
import Derived.Test.YtabmnelenfghhaaBkEnc
import Derived.Test.YtabmnelenfghhaaBkDec
import Derived.Test.YtabmnelenfghhaaOct
namespace Go.Proofs.Ytabmnelenfghhaa
open Go.RowKit
set_option linter.unusedVariables false
set_option linter.unusedSimpArgs false

theorem w64_of (n : Int) (h : 0 ≤ n ∧ n ≤ 9223372036854775807) : wrap64 n = n := IntWalk.wrap64_in _ (by omega)
theorem num_mark (n : Int) (h : 0 ≤ n ∧ n ≤ 1099511627776) (t : List UInt8) : numV (some (mB n ++ t)) = n.toNat ∧ numS (some (mB n ++ t)) = some t := num_back n.toNat (by omega) t
/-- A cell's bytes are read as the cell. -/
theorem cell_back (c : CellD) (h : COk c) (t : List UInt8) : tcC (some (cellB c ++ t)) = c ∧ tcS (some (cellB c ++ t)) 4 = some t := by
  obtain ⟨tx, m⟩ := c
  have hsz := h.size
  have hm := h.2
  simp only at hsz hm
  have e : cellB ⟨tx, m⟩ ++ t = textB tx ++ (mB (m 0) ++ (mB (m 1) ++ (mB (m 2) ++ (mB (m 3) ++ t)))) := by simp [cellB, mkN]
  rw [e]
  obtain ⟨a1, a2⟩ := text_back tx (by omega) (mB (m 0) ++ (mB (m 1) ++ (mB (m 2) ++ (mB (m 3) ++ t))))
  generalize hs : some (textB tx ++ (mB (m 0) ++ (mB (m 1) ++ (mB (m 2) ++ (mB (m 3) ++ t))))) = s at *
  have t0 : tcS s 0 = some (mB (m 0) ++ (mB (m 1) ++ (mB (m 2) ++ (mB (m 3) ++ t)))) := a2
  have n0 := num_mark (m 0) (hm 0) (mB (m 1) ++ (mB (m 2) ++ (mB (m 3) ++ t)))
  have t1 : tcS s 1 = some (mB (m 1) ++ (mB (m 2) ++ (mB (m 3) ++ t))) := by show numS (tcS s 0) = _; rw [t0]; exact n0.2
  have n1 := num_mark (m 1) (hm 1) (mB (m 2) ++ (mB (m 3) ++ t))
  have t2 : tcS s 2 = some (mB (m 2) ++ (mB (m 3) ++ t)) := by show numS (tcS s 1) = _; rw [t1]; exact n1.2
  have n2 := num_mark (m 2) (hm 2) (mB (m 3) ++ t)
  have t3 : tcS s 3 = some (mB (m 3) ++ t) := by show numS (tcS s 2) = _; rw [t2]; exact n2.2
  have n3 := num_mark (m 3) (hm 3) t
  have t4 : tcS s 4 = some t := by show numS (tcS s 3) = _; rw [t3]; exact n3.2
  refine ⟨?_, t4⟩
  have key : ∀ i (k : Fin 4), k.val = i → numV (tcS s i) = (m k).toNat → tcN s i = m k := fun i k hk hn => by
    unfold tcN
    rw [hn]
    have := hm k
    rw [Int.toNat_of_nonneg this.1, w64_of _ (by omega)]
  unfold tcC
  rw [a1, bytes_eta]
  congr 1
  funext k
  match k with
  | ⟨0, _⟩ => exact key 0 0 rfl (by rw [t0]; exact n0.1)
  | ⟨1, _⟩ => exact key 1 1 rfl (by rw [t1]; exact n1.1)
  | ⟨2, _⟩ => exact key 2 2 rfl (by rw [t2]; exact n2.1)
  | ⟨3, _⟩ => exact key 3 3 rfl (by rw [t3]; exact n3.1)
theorem cells_back (cs : List CellD) (h : ∀ c ∈ cs, COk c) (t : List UInt8) : ∀ i, i ≤ cs.length → rdS (some (cs.flatMap cellB ++ t)) i = some ((cs.drop i).flatMap cellB ++ t) := by
  intro i
  induction i with
  | zero => intro _; rfl
  | succ i ih =>
    intro hi
    show tcS (rdS _ i) 4 = _
    rw [ih (by omega), List.drop_eq_getElem_cons (by omega), List.flatMap_cons, List.append_assoc]
    exact (cell_back _ (h _ (List.getElem_mem _)) _).2
theorem rdL_back (cs : List CellD) (h : ∀ c ∈ cs, COk c) (t : List UInt8) : rdL (some (cs.flatMap cellB ++ t)) cs.length = cs := by
  apply List.ext_getElem
  · rw [rdL_len]
  · intro i h1 h2
    simp only [rdL, List.getElem_map, List.getElem_range]
    rw [cells_back cs h t i (by omega), List.drop_eq_getElem_cons (by omega), List.flatMap_cons, List.append_assoc]
    exact (cell_back _ (h _ (List.getElem_mem _)) _).1
/-- A store's bytes are read as the store. -/
theorem dec_enc (S : StD) (hi : StI S) (hk : SOk S) : dcOk (codeB S) = true ∧ dcD (codeB S) = S := by
  obtain ⟨f, t, fr, cs⟩ := S
  have h1 := hi.f
  have h2 := hi.t
  have h3 := hi.ft
  have h4 := hi.n
  simp only at h1 h2 h3 h4
  have e : codeB ⟨f, t, fr, cs⟩ = numB f.toNat ++ (numB t.toNat ++ ((if fr then 1 else 0) :: (cs.flatMap cellB ++ []))) := by simp [codeB, headB]
  have n0 := num_back f.toNat (by omega) (numB t.toNat ++ ((if fr then 1 else 0) :: (cs.flatMap cellB ++ [])))
  have n1 := num_back t.toNat (by omega) ((if fr then 1 else 0) :: (cs.flatMap cellB ++ []))
  have hF : dcF (codeB ⟨f, t, fr, cs⟩) = f := by unfold dcF; rw [e, n0.1, Int.toNat_of_nonneg h1, w64_of _ (by omega)]
  have hT : dcT (codeB ⟨f, t, fr, cs⟩) = t := by unfold dcT; rw [e, n0.2, n1.1, Int.toNat_of_nonneg (by omega), w64_of _ (by omega)]
  have hR : dcR (codeB ⟨f, t, fr, cs⟩) = some ((if fr then 1 else 0) :: (cs.flatMap cellB ++ [])) := by unfold dcR; rw [e, n0.2, n1.2]
  have hS : dcS (codeB ⟨f, t, fr, cs⟩) = some (cs.flatMap cellB ++ []) := by unfold dcS; rw [hR]; cases fr <;> rfl
  have hB : boolV (dcR (codeB ⟨f, t, fr, cs⟩)) = fr := by rw [hR]; cases fr <;> rfl
  have hN : dcN (codeB ⟨f, t, fr, cs⟩) = cs.length := by unfold dcN; rw [hF, hT]; omega
  have hL : rdL (dcS (codeB ⟨f, t, fr, cs⟩)) (dcN (codeB ⟨f, t, fr, cs⟩)) = cs := by rw [hS, hN]; exact rdL_back cs hk []
  have hE : rdS (dcS (codeB ⟨f, t, fr, cs⟩)) (dcN (codeB ⟨f, t, fr, cs⟩)) = some [] := by rw [hS, hN, cells_back cs hk [] _ (Nat.le_refl _)]; simp
  refine ⟨?_, ?_⟩
  · unfold dcOk
    rw [hL, hE, hF, hT]
    have a1 : mayBeB (f, t) = true := by unfold mayBeB; simp; omega
    have a2 : cs.any noBlockB = false := List.any_eq_false.2 fun c hc => by rw [(noBlock_ok c).2 (hk c hc)]; simp
    rw [a1, a2]; rfl
  · unfold dcD
    rw [hL, hF, hT, hB]
end Go.Proofs.Ytabmnelenfghhaa
