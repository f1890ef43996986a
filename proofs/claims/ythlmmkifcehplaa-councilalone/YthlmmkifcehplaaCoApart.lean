/- Offers of voters that are refused: isSettled where all is told, apart, mayOffer. -/
import Derived.Test.YthlmmkifcehplaaCoPart
namespace Go.Proofs.Ythlmmkifcehplaa
open Go.RowKit
set_option linter.unusedVariables false
set_option linter.unusedSimpArgs false

/-- How many nodes one text names and the other doesn't. -/
def apN (a c : ByteArray) (n : Nat) : Nat := ((List.range n).filter fun k : Nat => namesB a (k : Int) != namesB c (k : Int)).length
theorem apN_succ (a c : ByteArray) (n : Nat) : apN a c (n + 1) = apN a c n + (if (namesB a (n : Int) != namesB c (n : Int)) = true then 1 else 0) := by
  unfold apN
  rw [List.range_succ, List.filter_append, List.length_append]
  cases h : (namesB a (n : Int) != namesB c (n : Int)) <;> simp [h]
set_option maxRecDepth 100000 in
set_option maxHeartbeats 1600000 in
theorem apart_any (a c : ByteArray) (w : World) :
    Calls Try.prog 76 #[.string a, .string c] w fun e w' => e = .returned (.int .i64 (apN a c 7 : Int)) ∧ w' = w := by
  go_enter Try.func76, Try.ntmps76
  go_wp2_with fail
  go_loopw [5, 6, 7] (fun nv _ iv wr => ∃ i : Nat, iv = .int .i64 i ∧ i ≤ 7 ∧ nv = .int .i64 (apN a c i : Int) ∧ wr = w) (fun _ _ iv _ => 7 - (intOf iv).toNat)
  case atStart => exact ⟨0, rfl, Nat.zero_le _, rfl, rfl⟩
  case round =>
    obtain ⟨i, rfl, hi, rfl, hwr⟩ := hrel
    replace hwr := hwr.symm
    subst hwr
    have hle : apN a c i ≤ 7 := by
      have := List.length_filter_le (fun k : Nat => namesB a (k : Int) != namesB c (k : Int)) (List.range i)
      unfold apN; simp at this; omega
    by_cases hlt : (i : Int) < 7
    · have HA := hid (fun W => names_any a (i : Int) W (by omega) (by omega))
      have HC := hid (fun W => names_any c (i : Int) W (by omega) (by omega))
      have HS := hid (apN_succ a c i)
      generalize namesB a (i : Int) = x at HA HS
      generalize namesB c (i : Int) = y at HC HS
      generalize apN a c i = k at *
      cases x
      all_goals
        cases y
        all_goals
          go_wp2_with (first | (go_at_call 39; refine (HA.out _).mono ?_; rintro e w2 ⟨rfl, hw2⟩; replace hw2 := hw2.symm; subst hw2; clear HA) | (go_at_call 39; refine (HC.out _).mono ?_; rintro e w2 ⟨rfl, hw2⟩; replace hw2 := hw2.symm; subst hw2; clear HC))
          go_roundw
          case rel => exact ⟨i + 1, by go_num, by omega, by rw [HS.out]; simp, by first | rfl | trivial⟩
          case measure => simp [intOf]; omega
    · obtain rfl : i = 7 := by omega
      go_wp2_with fail
      go_ret
      exact ⟨rfl, rfl⟩
theorem Try.elemEs' : Try.prog.underlying 53 = some (.slice (Try.prog.elem 53)) := by kernel_rfl
set_option maxRecDepth 100000 in
set_option maxHeartbeats 1600000 in
/-- All is told: settled, if the last is of its own term. -/
theorem isSettled_told (b : Nat) (lv : Value) (D : CoD) (w : World) (h : Co w 0 b lv D) (hi : CoI D) (hl : 0 < D.log.length) (ht : D.told = D.bi + D.log.length) :
    Calls Try.prog 75 #[.pointer (some ⟨b, 0, none⟩)] w fun e w' => e = .returned (.bool (tUp D D.log.length == D.term)) ∧ ∃ m, w' = w.drewN m := by
  obtain ⟨g, cap, rfl⟩ := h.addr hl
  have hcap := h.cap.1
  have H := hid h
  have HI := hid hi
  have hlo := hi.lo
  have hhi := hi.hi
  have hll := hi.len
  have c7 : w.cell? ⟨b, 7, none⟩ = some (.slice (some ⟨g, 0, none⟩) D.log.length cap) := h.cell 7
  have c10 : w.cell? ⟨b, 10, none⟩ = some (.int .i64 (D.bi + D.log.length)) := by rw [← ht]; exact h.cell 10
  have c1 : w.cell? ⟨b, 1, none⟩ = some (.int .i64 D.term) := h.cell 1
  have HP : Hid (∀ k, Calls Try.prog 78 #[.pointer (some ⟨b, 0, none⟩), .int .i64 (D.bi + D.log.length)] (w.drewN k) fun e w' => e = .returned (.int .i64 ((D.log.length : Int) - 1)) ∧ w' = w.drewN k) := hid fun k => by
    refine (place_any 0 b _ D _ _ (h.below (belowN w k)) hi (by omega) (by omega)).mono ?_
    rintro e w2 ⟨rfl, rfl⟩
    exact ⟨by congr 2; omega, rfl⟩
  have hw1 : IntKind.i64.wrap ((D.log.length : Int) - 1 + 1) = (D.log.length : Int) := by rw [Int.sub_add_cancel]; exact IntWalk.i64_in _ ⟨by omega, by omega⟩
  have hw2 : (D.log.length : Int) - 1 + 1 = (D.log.length : Int) := by omega
  have HCS : Hid (∀ k : Nat, (w.drewN k).cell? ⟨b, 10, none⟩ = some (.int .i64 (D.bi + D.log.length))) := hid (fun k => by rw [← ht]; exact (h.below (belowN w k)).cell 10)
  clear h hi ht
  by_cases hce : cap = D.log.length
  all_goals
    go_enter Try.func75, Try.ntmps75
    go_wp2_with fail
    go_quiet (first | (go_at_call 78; exact Calls.quiet_of_same (HP.out _)))
    go_wp2_with fail
    obtain ⟨w2, hw2e⟩ : ∃ w2, w2 = w.drewN nq := ⟨_, rfl⟩
    rw [← hw2e]
    have HE2 := hid hw2e
    have H2 : Hid (Co w2 0 b (.slice (some ⟨g, 0, none⟩) D.log.length cap) D) := hid (by rw [hw2e]; exact H.out.below (belowN w nq))
    clear hw2e c7 c10 c1
    have c10 : w2.cell? ⟨b, 10, none⟩ = some (.int .i64 (D.bi + D.log.length)) := by rw [HE2.out]; exact HCS.out _
    have c1 : w2.cell? ⟨b, 1, none⟩ = some (.int .i64 D.term) := H2.out.cell 1
    go_loopw [4, 18] (fun _ iv wr => iv = .int .i64 0 ∧ wr = w2) (fun _ _ _ => 0)
    case atStart => exact ⟨rfl, rfl⟩
    case round =>
      obtain ⟨rfl, hwr⟩ := hrel
      replace hwr := hwr.symm
      subst hwr
      go_wp2_with fail
      go_quiet (first | (go_at_call 44; first | exact Calls.quiet_of (termAt_any 0 b _ D D.log.length _ H2.out HI.out (Nat.le_refl _)) | exact Calls.quiet_of (termAt_any 0 b _ D D.log.length _ (H2.out.below (belowN _ _)) HI.out (Nat.le_refl _))))
      go_wp2_with fail
      go_ret
      exact ⟨rfl, _, by rw [HE2.out, World.drewN_drewN]⟩
set_option maxRecDepth 100000 in
set_option maxHeartbeats 4000000 in
/-- Voters that differ by other than one are refused. -/
theorem mayOffer_apart (b : Nat) (lv : Value) (D : CoD) (s : ByteArray) (w : World) (h : Co w 0 b lv D) (hi : CoI D) (hl : 0 < D.log.length) (ht : D.told = D.bi + D.log.length) (htm : tUp D D.log.length = D.term) (hr : D.role = 2) (he : entB 2 s = true) (ha : apN (vNow D) s 7 ≠ 1) :
    Calls Try.prog 35 #[.pointer (some ⟨b, 0, none⟩), .int .i64 2, .string s] w fun e w' => e = .returned (.int .i64 1) ∧ Below w.heap.size w w' := by
  have c8 : w.cell? ⟨b, 8, none⟩ = some (.int .i64 2) := by rw [← hr]; exact h.cell 8
  have HE := hid (fun Y => mayEntry_any 2 s Y)
  rw [he] at HE
  have H := hid h
  have HI := hid hi
  have HS := hid (fun Y (hY : Co Y 0 b lv D) => isSettled_told b lv D Y hY hi hl ht)
  rw [show (tUp D D.log.length == D.term) = true by simpa using htm] at HS
  have HA := hid (fun Y => apart_any (vNow D) s Y)
  obtain ⟨k, hk⟩ : ∃ k, k = apN (vNow D) s 7 := ⟨_, rfl⟩
  rw [← hk] at HA ha
  have hd : ((k : Int) == 1) = false := by simp; omega
  have HV := hid (fun Y (hY : Co Y 0 b lv D) => votersAt_any 0 b lv D D.log.length Y hY hi (Nat.le_refl _))
  have HVE : Hid (vUp D D.log.length = vNow D) := hid rfl
  rw [HVE.out] at HV
  generalize vNow D = vn at HA HV
  clear h hi hk ht htm
  go_enter Try.func35, Try.ntmps35
  go_wp2_with (first | (go_at_call 74; refine (HE.out _).mono ?_; rintro e w2 ⟨rfl, hb2⟩; have B2 := hid hb2; have H2 := hid (H.out.below hb2); clear hb2) | (go_at_call 75; refine (HS.out _ H2.out).mono ?_; rintro e w3 ⟨rfl, m3, rfl⟩) | (go_at_call 17; refine (last_any 0 b lv D _ (H2.out.below (belowN _ _)) HI.out).mono ?_; rintro e w4 ⟨rfl, m4, rfl⟩) | (go_at_call 36; refine (HV.out _ (H2.out.below (belowN _ _))).mono ?_; rintro e w5 ⟨rfl, hw5⟩; replace hw5 := hw5.symm; subst hw5) | (go_at_call 76; refine (HA.out _).mono ?_; rintro e w6 ⟨rfl, hw6⟩; replace hw6 := hw6.symm; subst hw6))
  go_ret
  exact ⟨rfl, B2.out.trans ((belowN w2 (m3 + m4)).mono B2.out.size)⟩
end Go.Proofs.Ythlmmkifcehplaa
