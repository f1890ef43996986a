/- The small functions of the laws of layer 2: own, cut; the document's Plain of a plain row; Norm, Join of rows. Conditions: the rows lie in memory. -/
import Derived.Test.YtkbcinjpnihnaabSpLives
import Derived.Test.YtkbcinjpnihnaabSpOf
namespace Go.Proofs.Ytkbcinjpnihnaab
open Go.RowKit Go.Shelf

theorem Sps.nil (w : World) : Sps w (.slice none 0 0) [] := ⟨_, _, _, rfl, rfl, Nat.le_refl _, by omega, (fun _ => rfl), (fun ad h => by cases h)⟩
set_option maxHeartbeats 800000 in
theorem cut_any (v : Value) (l : List Sp) (w : World) (hv : Sps w v l) :
    Calls Try.prog 9 #[v] w fun e w' => ∃ va vc, e = .returned (.slice va (l.take 60).length vc) ∧ Sps w (.slice va (l.take 60).length vc) (l.take 60) ∧ w' = w := by
  have HV := hid hv
  obtain ⟨ao, n, cap, rfl, rfl, hc, hcap, hnone, hcell⟩ := hv
  by_cases hl : 60 < l.length
  · have hlI : (60 : Int) < (l.length : Int) := by omega
    have hao : ∃ ad, ao = some ad := by cases ao with | none => exact absurd (hnone rfl) (by omega) | some ad => exact ⟨ad, rfl⟩
    obtain ⟨ad, rfl⟩ := hao
    have hlt : (l.take 60).length = 60 := by simp; omega
    have HB : Hid (Sps w (.slice (some ad) (l.take 60).length cap) (l.take 60)) := hid (by
      refine ⟨_, _, _, rfl, rfl, by omega, hcap, (fun h => by cases h), ?_⟩
      intro a ha j hj
      have hj' : j < l.length := by simp at hj; omega
      have := hcell a ha j hj'
      simpa using this)
    rw [hlt] at HB ⊢
    clear hcell hnone HV hlt
    go_enter Try.func9, Try.ntmps9
    go_wp2
    go_ret
    exact ⟨_, _, rfl, HB.out, rfl⟩
  · have hlI : ¬ (60 : Int) < (l.length : Int) := by omega
    have HB : Hid (Sps w (.slice ao (l.take 60).length cap) (l.take 60)) := hid (by rw [List.take_of_length_le (by omega)]; exact HV.out)
    have hlt : (l.take 60).length = l.length := by rw [List.take_of_length_le (by omega)]
    rw [hlt] at HB ⊢
    clear hcell hnone HV hlt
    go_enter Try.func9, Try.ntmps9
    go_wp2
    go_ret
    exact ⟨_, _, rfl, HB.out, rfl⟩
theorem plain_at {l : List Sp} (h : PlainL l) (i : Nat) (hi : i < l.length) : l[i].1 < l[i].2 ∧ ∀ (_ : 0 < i), (l[i - 1]'(by omega)).2 < l[i].1 :=
  ⟨h.1 _ (List.getElem_mem hi), fun h0 => List.pairwise_iff_getElem.1 h.2 (i - 1) i (by omega) hi (by omega)⟩
end Go.Proofs.Ytkbcinjpnihnaab
