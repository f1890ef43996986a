/- win and stand: an election, of one that has nobody else to ask. -/
import Derived.Test.YtjimneaimnjanaaCoLead
import Derived.Test.YtjimneaimnjanaaCoStand
namespace Go.Proofs.Ytjimneaimnjanaa
open Go.RowKit
set_option linter.unusedVariables false
set_option linter.unusedSimpArgs false

/-- Have enough voted for it, and has its log room? -/
def winB (D : CoD) : Bool := !decide ((4096 : Int) ≤ D.log.length) && majB (vRow (vNow D)) (fun v => D.votes v.toNat)
set_option maxRecDepth 100000 in
set_option maxHeartbeats 4000000 in
theorem win_no (b wb : Nat) (lv ms ns : Value) (D : CoD) (W : WdD) (w : World) (h : Co w 0 b lv D) (k : Wd w wb ms ns W) (hi : CoI D) (hs : (vNow D).size ≤ 999999) (hwn : winB D = false) :
    Calls Try.prog 92 #[.pointer (some ⟨b, 0, none⟩), .pointer (some ⟨wb, 0, none⟩)] w fun e w' => e = .returned (.tuple #[]) ∧ CStep w b wb lv ms ns w' D W := by
  have HI := hid hi
  have HSZ := hid hs
  have H := hid h
  have K0 := hid k
  obtain ⟨w1, hw1⟩ : ∃ w1, w1 = w.alloc (.cells #[.pointer (some ⟨b, 0, none⟩)] 23) := ⟨_, rfl⟩
  have B1 : Hid (Below w.heap.size w w1) := hid (by rw [hw1]; exact (Below.refl _ _).alloc (Nat.le_refl _) _)
  have hA : w1.heap[w.heap.size]? = some (.cells #[.pointer (some ⟨b, 0, none⟩)] 23 (0, 0)) := by rw [hw1]; exact heap_alloc_new _ _
  have cA : w1.cell? ⟨w.heap.size, 0, none⟩ = some (.pointer (some ⟨b, 0, none⟩)) := by rw [cell_of_row _ _ _ _ _ _ hA]; rfl
  have H1 := hid (H.out.below B1.out)
  have HFL := hid (isFull_any 0 b lv D w1 H1.out)
  obtain ⟨fl, hfl⟩ : ∃ fl, decide ((4096 : Int) ≤ D.log.length) = fl := ⟨_, rfl⟩
  obtain ⟨mj, hmj⟩ : ∃ mj, majB (vRow (vNow D)) (fun v => D.votes v.toNat) = mj := ⟨_, rfl⟩
  unfold winB at hwn
  rw [hfl, hmj] at hwn
  rw [hfl] at HFL
  have HMJ := hid (majority_any 0 b lv D 109 #[.pointer (some ⟨w.heap.size, 0, none⟩)] (fun v => D.votes v.toNat) w1 H1.out HI.out HSZ.out ent_win (fun W hW x hx => by
    obtain ⟨hx0, hx7⟩ := vRow_node hx
    have := win1_any 0 b w.heap.size lv D x.toNat W (H1.out.below hW) (cell_later hW cA) (by omega)
    rw [Int.toNat_of_nonneg hx0] at this
    exact this))
  rw [hmj] at HMJ
  clear h k hi hs hfl hmj hA
  go_enter Try.func92, Try.ntmps92
  go_upto_region 1 with fail
  rw [← hw1]
  clear hw1
  obtain ⟨A, hAe⟩ : ∃ A, A = w.heap.size := ⟨_, rfl⟩
  rw [← hAe] at cA HMJ
  rw [← hAe]
  clear hAe
  cases fl with
  | true =>
    go_wp2_with (go_at_call 103; refine HFL.out.mono ?_; rintro e w2 ⟨rfl, hw2⟩; replace hw2 := hw2.symm; subst hw2)
    first | go_end0 | refine bodyPost_ret (results_none rfl _ _ _) rfl ?_
    exact ⟨rfl, CStep.of_below H.out K0.out B1.out⟩
  | false =>
    obtain rfl : mj = false := by simpa using hwn
    go_wp2_with (first | (go_at_call 103; refine HFL.out.mono ?_; rintro e w2 ⟨rfl, hw2⟩; replace hw2 := hw2.symm; subst hw2) | (go_at_call 106; refine HMJ.out.mono ?_; rintro e w3 ⟨rfl, hb3⟩; have B3 := hid hb3; clear hb3))
    first | go_end0 | refine bodyPost_ret (results_none rfl _ _ _) rfl ?_
    exact ⟨rfl, CStep.of_below H.out K0.out (B1.out.trans (B3.out.mono B1.out.size))⟩
set_option maxRecDepth 100000 in
set_option maxHeartbeats 4000000 in
theorem win_yes (b wb : Nat) (lv ms ns : Value) (D D2 : CoD) (W W2 : WdD) (w : World) (h : Co w 0 b lv D) (k : Wd w wb ms ns W) (hi : CoI D) (hs : (vNow D).size ≤ 999999) (hwn : winB D = true)
    (hld : ∀ w1, Co w1 0 b lv D → Wd w1 wb ms ns W → Calls Try.prog 110 #[.pointer (some ⟨b, 0, none⟩), .pointer (some ⟨wb, 0, none⟩)] w1 fun e w' => e = .returned (.tuple #[]) ∧ CStep w1 b wb lv ms ns w' D2 W2) :
    Calls Try.prog 92 #[.pointer (some ⟨b, 0, none⟩), .pointer (some ⟨wb, 0, none⟩)] w fun e w' => e = .returned (.tuple #[]) ∧ CStep w b wb lv ms ns w' D2 W2 := by
  have HLD := hid hld
  clear hld
  have HI := hid hi
  have HSZ := hid hs
  have H := hid h
  have K0 := hid k
  obtain ⟨w1, hw1⟩ : ∃ w1, w1 = w.alloc (.cells #[.pointer (some ⟨b, 0, none⟩)] 23) := ⟨_, rfl⟩
  have B1 : Hid (Below w.heap.size w w1) := hid (by rw [hw1]; exact (Below.refl _ _).alloc (Nat.le_refl _) _)
  have hA : w1.heap[w.heap.size]? = some (.cells #[.pointer (some ⟨b, 0, none⟩)] 23 (0, 0)) := by rw [hw1]; exact heap_alloc_new _ _
  have cA : w1.cell? ⟨w.heap.size, 0, none⟩ = some (.pointer (some ⟨b, 0, none⟩)) := by rw [cell_of_row _ _ _ _ _ _ hA]; rfl
  have H1 := hid (H.out.below B1.out)
  have HFL := hid (isFull_any 0 b lv D w1 H1.out)
  obtain ⟨fl, hfl⟩ : ∃ fl, decide ((4096 : Int) ≤ D.log.length) = fl := ⟨_, rfl⟩
  obtain ⟨mj, hmj⟩ : ∃ mj, majB (vRow (vNow D)) (fun v => D.votes v.toNat) = mj := ⟨_, rfl⟩
  unfold winB at hwn
  rw [hfl, hmj] at hwn
  rw [hfl] at HFL
  have HMJ := hid (majority_any 0 b lv D 109 #[.pointer (some ⟨w.heap.size, 0, none⟩)] (fun v => D.votes v.toNat) w1 H1.out HI.out HSZ.out ent_win (fun W hW x hx => by
    obtain ⟨hx0, hx7⟩ := vRow_node hx
    have := win1_any 0 b w.heap.size lv D x.toNat W (H1.out.below hW) (cell_later hW cA) (by omega)
    rw [Int.toNat_of_nonneg hx0] at this
    exact this))
  rw [hmj] at HMJ
  clear h k hi hs hfl hmj hA
  go_enter Try.func92, Try.ntmps92
  go_upto_region 1 with fail
  rw [← hw1]
  clear hw1
  obtain ⟨A, hAe⟩ : ∃ A, A = w.heap.size := ⟨_, rfl⟩
  rw [← hAe] at cA HMJ
  rw [← hAe]
  clear hAe
  obtain ⟨rfl, rfl⟩ : fl = false ∧ mj = true := by simpa using hwn
  go_wp2_with (first | (go_at_call 103; refine HFL.out.mono ?_; rintro e w2 ⟨rfl, hw2⟩; replace hw2 := hw2.symm; subst hw2) | (go_at_call 106; refine HMJ.out.mono ?_; rintro e w3 ⟨rfl, hb3⟩; have B3 := hid (B1.out.trans (hb3.mono B1.out.size)); have cA3 := cell_later hb3 cA; clear hb3) | (go_at_call 110; refine (HLD.out _ (H.out.below B3.out) (K0.out.below B3.out)).mono ?_; rintro e w4 ⟨rfl, hst⟩; have ST := hid hst; clear hst))
  first | go_end0 | refine bodyPost_ret (results_none rfl _ _ _) rfl ?_
  exact ⟨rfl, CStep.pre B3.out ST.out⟩
end Go.Proofs.Ytjimneaimnjanaa
