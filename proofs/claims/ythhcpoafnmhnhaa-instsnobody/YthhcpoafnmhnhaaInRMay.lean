/- What the document's May of a command answers. -/
import Derived.Test.YthhcpoafnmhnhaaInMeddle
namespace Go.Proofs.Ythhcpoafnmhnhaa
open Go.RowKit

theorem ends_last (s : ByteArray) (n : Nat) (hn : s.size = n + 1) (hlt : n < s.size) : endsNul s = (((s[n]'hlt).toNat : Int) == 0) := by
  have h0 : endsNul s = ((s.extract n (n + 1)).toList == [0]) := by unfold endsNul; simp [hn]
  rw [h0]
  have e : (s.extract n (n + 1)).toList = [s[n]'hlt] := by
    rw [ByteArray.toList_eq]
    simp only [ByteArray.data_extract]
    apply List.ext_getElem
    · simp; have : s.data.size = n + 1 := hn; omega
    · intro i h1 h2
      simp at h2
      subst h2
      simp
      rfl
  rw [e, Bool.eq_iff_iff]
  simp only [beq_iff_eq, List.cons.injEq, and_true]
  constructor
  · intro h; rw [h]; rfl
  · intro h
    have : (s[n]'hlt).toNat = 0 := by omega
    exact UInt8.toNat_inj.1 this
set_option maxRecDepth 100000 in
set_option maxHeartbeats 1600000 in
theorem risText_any (s : ByteArray) (w : World) (hs : (s.size : Int) ≤ 9223372036854775807) :
    Calls Try.prog 50 #[.string s] w fun e w' => e = .returned (.bool (isTextB s)) ∧ w' = w := by
  unfold isTextB
  by_cases h : s.size ≤ 4096
  · have hd : decide (s.size ≤ 4096) = true := decide_eq_true h
    have hI : (s.size : Int) ≤ 4096 := by omega
    rw [hd]
    rcases Nat.eq_zero_or_pos s.size with h0 | h0
    · have he : endsNul s = false := by unfold endsNul; rw [h0]; rfl
      rw [he]
      have hz : ((s.size : Int) == 0) = true := by simp [h0]
      go_enter Try.func50, Try.ntmps50
      go_wp2
      go_ret
      exact ⟨by simp, rfl⟩
    · obtain ⟨n, hn⟩ : ∃ n, s.size = n + 1 := ⟨s.size - 1, by omega⟩
      have hz0 : ¬ (s.size : Int) = 0 := by omega
      have hz : ((s.size : Int) == 0) = false := by simpa using hz0
      have hlt : n < s.size := by omega
      have he := ends_last s n hn hlt
      rw [he]
      go_enter Try.func50, Try.ntmps50
      go_wp2
      have hn1 : ((n : Int) + 1 == 0) = false := beq_false_of_ne (by omega)
      go_ret
      generalize ((s[n]'hlt).toNat : Int) = x
      refine ⟨congrArg (fun b => Ending.returned (.bool b)) ?_, rfl⟩
      rw [hn1]
      cases hx : (x == 0) <;> simp [bne, hx]
  · have hd : decide (s.size ≤ 4096) = false := decide_eq_false h
    have hI : ¬ (s.size : Int) ≤ 4096 := by omega
    rw [hd]
    go_enter Try.func50, Try.ntmps50
    go_wp2_with fail
    go_ret
    exact ⟨by simp, rfl⟩
def badB (c : CmdD) : Bool := decide (c.op < 1) || decide (4 < c.op) || decide (c.client < 0) || decide (3 < c.client) || decide (c.seq < 1) || decide (1099511627776 < c.seq) || decide (c.from' < 0) || decide (256 < c.to) || decide (c.to ≤ c.from') || decide (16 < c.to - c.from')
theorem may_ref (c : CmdD) (h0 : (c.op == 0) = false) (h5 : (c.op == 5) = false) : mayB c = if badB c = true then false else if (c.op != 2) = true then c.data.length == 0 else (decide ((c.data.length : Int) = c.to - c.from') && !c.data.any (fun s => !isTextB s)) := by
  have n0 : c.op ≠ 0 := by simpa using h0
  have n5 : c.op ≠ 5 := by simpa using h5
  unfold mayB
  rw [if_neg (by rintro (h | h); exact n0 h; exact n5 h)]
  cases hb : badB c with
  | true =>
    rw [if_pos rfl]
    unfold badB at hb
    simp only [Bool.or_eq_true, decide_eq_true_eq] at hb
    split
    · rename_i hc
      have : mayAskB c = false := by
        unfold mayAskB mayBeB
        unfold isClB at hc
        simp only [Bool.or_eq_true, beq_iff_eq] at hc
        cases hm : (decide (0 ≤ c.client) && decide (c.client < 4) && decide (1 ≤ c.seq) && decide (c.seq ≤ 1099511627776) && (!decide ((c.from', c.to).2 ≤ (c.from', c.to).1) && (decide (0 ≤ (c.from', c.to).1) && decide ((c.from', c.to).2 ≤ 256))) && decide (c.to - c.from' ≤ 16)) with
        | false => rfl
        | true =>
          simp at hm
          omega
      rw [this]; rfl
    · rfl
  | false =>
    simp only [Bool.false_eq_true, if_false]
    unfold badB at hb
    simp only [Bool.or_eq_false_iff, decide_eq_false_iff_not] at hb
    have hcl : isClB c.op = true := by
      unfold isClB
      have : c.op = 1 ∨ c.op = 2 ∨ c.op = 3 ∨ c.op = 4 := by omega
      rcases this with h | h | h | h <;> (rw [h]; rfl)
    rw [if_pos hcl]
    have hma : mayAskB c = true := by
      unfold mayAskB mayBeB
      simp
      omega
    rw [hma, Bool.true_and]
    unfold mayCarryB
    by_cases h2 : c.op = 2
    · have : (c.op != 2) = false := by simp [h2]
      rw [if_pos h2, this]; simp
    · have : (c.op != 2) = true := by simpa using h2
      rw [if_neg h2, this]; simp
set_option maxRecDepth 100000 in
set_option maxHeartbeats 6400000 in
theorem rmay_any (c : CmdD) (u : Value) (w : World) (hu : CmdOk w c u) :
    Calls Try.prog 33 #[cmdV c u] w fun e w' => e = .returned (.bool (mayB c)) ∧ Below w.heap.size w w' := by
  have bA : Below w.heap.size w (w.alloc (cmdO c u)) := (Below.refl _ _).alloc (Nat.le_refl _) _
  have HU := hid (hu.below bA)
  have HN := hid (heap_alloc_new w (cmdO c u))
  obtain ⟨ua, uc, rfl⟩ := hu.u.shape
  obtain ⟨r, hr⟩ : ∃ r, r = mayB c := ⟨_, rfl⟩
  have HRF := hid (may_ref c)
  rw [← hr] at HRF ⊢
  have HSZ := hid hu.s
  have hl := hu.l
  clear hu
  obtain ⟨op, cl, seq, cf, ct, data⟩ := c
  unfold badB at HRF
  unfold mayB at hr
  unfold cmdO at HN HU bA
  unfold cmdV
  simp only at HRF hr HN HU HSZ bA hl ⊢
  have HR := hid hr
  obtain ⟨w1, hw1⟩ : ∃ w1, w1 = w.alloc (.cells #[.int .i64 op, .int .i64 cl, .int .i64 seq, .int .i64 cf, .int .i64 ct, .slice ua data.length uc] 35) := ⟨_, rfl⟩
  rw [← hw1] at HN HU bA
  have HW1 := hid hw1
  have B1 := hid bA
  clear hw1 bA hr
  go_enter Try.func33, Try.ntmps33
  go_upto_region 1 with fail
  rw [← HW1.out]
  obtain ⟨A, hAe⟩ : ∃ A, A = w.heap.size := ⟨_, rfl⟩
  rw [← hAe] at HN
  rw [← hAe]
  clear hAe HW1
  have x0 : w1.cell? ⟨A, 0, none⟩ = some (.int .i64 op) := by rw [cell_of_row _ _ _ _ _ _ HN.out]; rfl
  have x1 : w1.cell? ⟨A, 1, none⟩ = some (.int .i64 cl) := by rw [cell_of_row _ _ _ _ _ _ HN.out]; rfl
  have x2 : w1.cell? ⟨A, 2, none⟩ = some (.int .i64 seq) := by rw [cell_of_row _ _ _ _ _ _ HN.out]; rfl
  have x3 : w1.cell? ⟨A, 3, none⟩ = some (.int .i64 cf) := by rw [cell_of_row _ _ _ _ _ _ HN.out]; rfl
  have x4 : w1.cell? ⟨A, 4, none⟩ = some (.int .i64 ct) := by rw [cell_of_row _ _ _ _ _ _ HN.out]; rfl
  have x5 : w1.cell? ⟨A, 5, none⟩ = some (.slice ua data.length uc) := by rw [cell_of_row _ _ _ _ _ _ HN.out]; rfl
  have eL : ((data.length : Int) == 0) = (data.length == 0) := by
    cases hd : data.length == 0
    · simp at hd ⊢; exact hd
    · simp at hd ⊢; exact hd
  cases z0 : (op == 0)
  case' false => cases z5 : (op == 5)
  case true =>
    have hr5 : r = (cl == 0 && seq == 0 && cf == 0 && ct == 0 && data.length == 0) := by rw [HR.out, if_pos (.inl (by simpa using z0))]
    rw [← eL] at hr5
    have HR5 := hid hr5
    clear hr5 HR HRF eL
    cases c1 : (cl == 0)
    case' true => cases c2 : (seq == 0)
    case' true.true => cases c3 : (cf == 0)
    case' true.true.true => cases c4 : (ct == 0)
    all_goals
      go_wp2_with fail
      go_ret
      exact ⟨by rw [HR5.out]; simp [*], B1.out⟩
  case false.true =>
    have hr5 : r = (cl == 0 && seq == 0 && cf == 0 && ct == 0 && data.length == 0) := by rw [HR.out, if_pos (.inr (by simpa using z5))]
    rw [← eL] at hr5
    have HR5 := hid hr5
    clear hr5 HR HRF eL
    cases c1 : (cl == 0)
    case' true => cases c2 : (seq == 0)
    case' true.true => cases c3 : (cf == 0)
    case' true.true.true => cases c4 : (ct == 0)
    all_goals
      go_wp2_with fail
      go_ret
      exact ⟨by rw [HR5.out]; simp [*], B1.out⟩
  case false.false =>
    have hrf := HRF.out z0 z5
    clear HR HRF
    cases d1 : decide (op < 1)
    case' false => cases d2 : decide (4 < op)
    case' false.false => cases d3 : decide (cl < 0)
    case' false.false.false => cases d4 : decide (3 < cl)
    case' false.false.false.false => cases d5 : decide (seq < 1)
    case' false.false.false.false.false => cases d6 : decide (1099511627776 < seq)
    case' false.false.false.false.false.false => cases d7 : decide (cf < 0)
    case' false.false.false.false.false.false.false => cases d8 : decide (256 < ct)
    case' false.false.false.false.false.false.false.false => cases d9 : decide (ct ≤ cf)
    case' false.false.false.false.false.false.false.false.false =>
      have hwr : IntKind.i64.wrap (ct - cf) = ct - cf := IntWalk.i64_in _ ⟨by simp at d7 d8 d9; omega, by simp at d7 d8 d9; omega⟩
      cases d10 : decide (16 < ct - cf)
    case false.false.false.false.false.false.false.false.false.false =>
      rw [if_neg (by simp [*])] at hrf
      by_cases h2 : op = 2
      · have e2 : (op != 2) = false := by simp [h2]
        rw [e2] at hrf
        simp only [Bool.false_eq_true, if_false] at hrf
        have HRX := hid hrf
        clear h2 hrf eL
        go_upto_region 7 with fail
        clear d1 d2 d3 d4 d5 d6 d7 d8 d9 d10 z0 z5 e2 x0 x1 x2
        go_wp2_with fail
        go_loopw [4, 100] (fun _ iv wr => ∃ i : Nat, iv = .int .i64 i ∧ i ≤ data.length ∧ (data.take i).any (fun s => !isTextB s) = false ∧ wr = w1) (fun _ iv _ => data.length - (intOf iv).toNat)
        case atStart => exact ⟨0, rfl, Nat.zero_le _, rfl, rfl⟩
        case round =>
          obtain ⟨i, rfl, hi, hall, rfl⟩ := hrel
          by_cases hlt : i < data.length
          · have hltI : (i : Int) < (data.length : Int) := by omega
            obtain ⟨gd, od, rfl⟩ := HU.out.u.addr (by show 0 < data.length; omega)
            have cd := HU.out.u.lit i hlt
            have hs := HSZ.out data[i] (List.getElem_mem hlt)
            have HT := hid (show (data.take (i + 1)).any (fun s => !isTextB s) = ((data.take i).any (fun s => !isTextB s) || !isTextB data[i]) by rw [List.take_succ_eq_append_getElem hlt, List.any_append]; simp)
            have HM := hid (show isTextB data[i] = false → data.any (fun s => !isTextB s) = true from fun h => List.any_eq_true.2 ⟨data[i], List.getElem_mem hlt, by rw [h]; rfl⟩)
            have HALL := hid hall
            (try simp only at cd)
            generalize data[i] = s at cd hs HT HM
            clear hall
            go_wp2_with fail
            refine (risText_any s _ hs).mono ?_
            rintro e w2 ⟨rfl, hw2⟩
            rw [hw2]
            clear hw2
            cases ht : isTextB s with
            | true =>
              go_wp2_with fail
              go_roundw
              case rel => exact ⟨i + 1, by go_num, by omega, by rw [HT.out, HALL.out, ht]; rfl, by trivial⟩
              case measure => simp [intOf]; omega
            | false =>
              have HF := hid (HM.out ht)
              go_wp2_with fail
              go_ret
              exact ⟨by rw [HRX.out, HF.out]; simp, B1.out⟩
          · obtain rfl : i = data.length := by omega
            rw [List.take_length] at hall
            have HALL := hid hall
            clear hall
            go_wp2_with fail
            go_ret
            refine ⟨?_, B1.out⟩
            rw [HRX.out, HALL.out]
            simp
            rfl
      · have e2 : (op != 2) = true := by simpa using h2
        rw [e2] at hrf
        simp only [if_true] at hrf
        rw [← eL] at hrf
        have HRX := hid hrf
        clear hrf eL
        go_wp2_with fail
        go_ret
        exact ⟨by rw [HRX.out]; rfl, B1.out⟩
    all_goals
      have HRX := hid (show r = false by rw [hrf]; simp [*])
      clear hrf
      go_wp2_with fail
      go_ret
      exact ⟨by rw [HRX.out]; rfl, B1.out⟩
end Go.Proofs.Ythhcpoafnmhnhaa
