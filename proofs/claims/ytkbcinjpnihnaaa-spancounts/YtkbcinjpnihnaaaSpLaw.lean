/- The small functions of the laws of layer 2: own, cut; the document's Plain of a plain row; Norm, Join of rows. Conditions: the rows lie in memory. -/
import Derived.Test.YtkbcinjpnihnaaaSpLives
import Derived.Test.YtkbcinjpnihnaaaSpOf
namespace Go.Proofs.Ytkbcinjpnihnaaa
open Go.RowKit Go.Shelf

theorem Sps.nil (w : World) : Sps w (.slice none 0 0) [] := ⟨_, _, _, rfl, rfl, Nat.le_refl _, by omega, (fun _ => rfl), (fun ad h => by cases h)⟩
set_option maxHeartbeats 800000 in
theorem own_any (v : Value) (l : List Sp) (w : World) (hv : Sps w v l) (hl : l.length ≤ 1000000) :
    Calls Try.prog 9 #[v] w fun e w' => ∃ va vc, e = .returned (.slice va l.length vc) ∧ OwnS w' w.heap.size (.slice va l.length vc) l ∧ Below w.heap.size w w' := by
  obtain ⟨ao, cap, rfl⟩ := hv.shape
  have HV := hid (hv.alloc (.cells #[] 30))
  have HO := hid (OwnS.empty w)
  have HB := hid ((Below.refl w.heap.size w).alloc (Nat.le_refl _) (.cells #[] 30))
  clear hv
  go_enter Try.func9, Try.ntmps9
  go_wp2_with (at_builtin; refine wpl_appendS rfl _ _ rfl w.heap.size (.slice (some ⟨w.heap.size, 0, none⟩) 0 0) [] rfl HO.out _ l rfl HV.out (by simp; omega) (by simp) ?_; intro va3 vc3 w3 ho3 hg3; simp only [List.length_nil, Nat.zero_add, List.nil_append] at ho3 ⊢; have O3 := hid ho3; have B3 := hid (HB.out.trans (belowS_grown HO.out hg3 (by simp))); clear ho3 hg3)
  go_ret
  exact ⟨va3, vc3, rfl, O3.out, B3.out⟩
set_option maxHeartbeats 800000 in
theorem cut_any (v : Value) (l : List Sp) (w : World) (hv : Sps w v l) :
    Calls Try.prog 10 #[v] w fun e w' => ∃ va vc, e = .returned (.slice va (l.take 60).length vc) ∧ Sps w (.slice va (l.take 60).length vc) (l.take 60) ∧ w' = w := by
  have HV := hid hv
  obtain ⟨ao, n, cap, rfl, rfl, hc, hcap, hnone, hcell⟩ := hv
  by_cases hl : 60 < l.length
  · have hlI : (60 : Int) < (l.length : Int) := by omega
    have hao : ∃ ad, ao = some ad := by cases ao with | none => exact absurd (hnone rfl) (by omega) | some ad => exact ⟨ad, rfl⟩
    obtain ⟨ad, rfl⟩ := hao
    have hlt : (l.take 60).length = 60 := by simp; omega
    have HB : Hid (Sps w (.slice (some ad) (l.take 60).length cap) (l.take 60)) := hid (by
      refine ⟨_, _, _, rfl, rfl, by omega, hcap, (fun h => by cases h), ?_⟩
      intro a ha j hj
      have hj' : j < l.length := by simp at hj; omega
      have := hcell a ha j hj'
      simpa using this)
    rw [hlt] at HB ⊢
    clear hcell hnone HV hlt
    go_enter Try.func10, Try.ntmps10
    go_wp2
    go_ret
    exact ⟨_, _, rfl, HB.out, rfl⟩
  · have hlI : ¬ (60 : Int) < (l.length : Int) := by omega
    have HB : Hid (Sps w (.slice ao (l.take 60).length cap) (l.take 60)) := hid (by rw [List.take_of_length_le (by omega)]; exact HV.out)
    have hlt : (l.take 60).length = l.length := by rw [List.take_of_length_le (by omega)]
    rw [hlt] at HB ⊢
    clear hcell hnone HV hlt
    go_enter Try.func10, Try.ntmps10
    go_wp2
    go_ret
    exact ⟨_, _, rfl, HB.out, rfl⟩
theorem plain_at {l : List Sp} (h : PlainL l) (i : Nat) (hi : i < l.length) : l[i].1 < l[i].2 ∧ ∀ (_ : 0 < i), (l[i - 1]'(by omega)).2 < l[i].1 :=
  ⟨h.1 _ (List.getElem_mem hi), fun h0 => List.pairwise_iff_getElem.1 h.2 (i - 1) i (by omega) hi (by omega)⟩
set_option maxHeartbeats 1600000 in
theorem rplain_any (v : Value) (l : List Sp) (w : World) (hv : Sps w v l) (hp : PlainL l) (hl : l.length ≤ 1000000) :
    Calls Try.prog 14 #[v] w fun e w' => e = .returned (.bool true) ∧ Below w.heap.size w w' := by
  have HV := hid hv
  have HP := hid hp
  obtain ⟨ao, cap, rfl⟩ := hv.shape
  clear hv hp
  go_enter Try.func14, Try.ntmps14
  go_wp2_with fail
  go_loopw [2, 3, 4, 7] (fun _ _ _ iv wr => ∃ i : Nat, iv = .int .i64 i ∧ i ≤ l.length ∧ Below w.heap.size w wr) (fun _ _ _ iv _ => l.length - (intOf iv).toNat)
  case atStart => exact ⟨0, rfl, Nat.zero_le _, Below.refl _ _⟩
  case round =>
    obtain ⟨i, rfl, hi, hb⟩ := hrel
    have HB := hid hb
    have HVR := hid (HV.out.below hb)
    clear hb
    by_cases hlt : i < l.length
    · have hltI : (i : Int) < (l.length : Int) := by omega
      obtain ⟨b, o, rfl⟩ := HVR.out.addr (by omega)
      obtain ⟨c0, c1⟩ := HVR.out.lit i hlt
      have hpl := plain_at HP.out i hlt
      obtain ⟨x, hx⟩ : ∃ x, x = l[i] := ⟨_, rfl⟩
      rw [← hx] at c0 c1 hpl
      clear hx
      obtain ⟨s, t⟩ := x
      have hd1 : decide (t ≤ s) = false := decide_eq_false (by have := hpl.1; simp only at this; omega)
      have BX := hid (HB.out.alloc HB.out.size (.cells #[.int .i64 s, .int .i64 t] 30))
      by_cases h0 : 0 < i
      · obtain ⟨j, rfl⟩ : ∃ j, i = j + 1 := ⟨i - 1, by omega⟩
        have d0 := (HVR.out.lit j (by omega)).2
        have hp2 := hpl.2 h0
        simp only [Nat.add_sub_cancel] at hp2
        generalize (l[j]'(by omega)).2 = z at d0 hp2
        have d0' := cell_later ((Below.refl wr.heap.size wr).alloc (Nat.le_refl _) (.cells #[.int .i64 s, .int .i64 t] 30)) d0
        have hd2 : decide (s ≤ z) = false := decide_eq_false (by omega)
        have hd0 : decide ((0 : Int) < (j : Int) + 1) = true := decide_eq_true (by omega)
        have ej : ((j + 1 : Nat) : Int) = (j : Int) + 1 := by omega
        have hj0 : (0 : Int) ≤ (j : Int) := by omega
        have hj1 : (j : Int) < (l.length : Int) := by omega
        clear hpl hp2 d0
        rw [ej] at hltI ⊢
        go_wp2_with fail
        go_quiet (fail)
        go_wp2_with fail
        go_roundw
        case rel => exact ⟨j + 1 + 1, by go_num, by omega, below_drewN BX.out _⟩
        case measure => simp [intOf]; omega
      · obtain rfl : i = 0 := by omega
        have hd0 : decide ((0 : Int) < 0) = false := by decide
        simp only [Nat.zero_mul, Nat.add_zero] at c0 c1
        clear hpl
        go_wp2_with fail
        go_quiet (fail)
        go_wp2_with fail
        go_roundw
        case rel => exact ⟨1, by go_num, by omega, below_drewN BX.out _⟩
        case measure => simp [intOf]; omega
    · have hltI : ¬ (i : Int) < (l.length : Int) := by omega
      go_wp2_with fail
      go_ret
      exact ⟨rfl, HB.out⟩
end Go.Proofs.Ytkbcinjpnihnaaa
