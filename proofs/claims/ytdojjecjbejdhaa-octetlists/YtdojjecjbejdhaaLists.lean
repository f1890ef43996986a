/- OctetLists answers true for any two numbers; nothing that was there has turned. -/
import Derived.Test.YtdojjecjbejdhaaGetU8
import Derived.Test.YtdojjecjbejdhaaNumIso
import Derived.Deep.DeepCutAuto
namespace Go.Proofs.Ytdojjecjbejdhaa
open Go.RowKit

theorem getGo_sevens (k m : Nat) (acc : List UInt8) (h : k ≤ m) : getGo byteR byteS k (some (List.replicate m 7)) acc = (some (acc ++ List.replicate k 7), some (List.replicate (m - k) 7)) := by
  induction k generalizing m acc with
  | zero => simp [getGo]
  | succ k ih =>
    obtain ⟨m', rfl⟩ : ∃ m', m = m' + 1 := ⟨m - 1, by omega⟩
    rw [List.replicate_succ]
    show (if badB (some (List.replicate m' 7)) then _ else getGo byteR byteS k (some (List.replicate m' 7)) (acc ++ [7])) = _
    rw [if_neg (by simp [badB]), ih m' _ (by omega)]
    simp [List.replicate_succ]
theorem lists_few (n m : Nat) (hn : n < 18446744073709551616) (h1 : n ≤ 4096) (h2 : n ≤ m) : getR byteR byteS (some (numB n ++ List.replicate m 7)) = (some (List.replicate n 7), some (List.replicate (m - n) 7)) := by
  have e : lenR 4096 (some (numB n ++ List.replicate m 7)) = (n, some (List.replicate m 7)) := by
    unfold lenR
    rw [numR_numB _ _ hn, if_neg (by simp [leftN]; omega)]
  unfold getR
  rw [e, if_neg (by simp [badB]), getGo_sevens _ _ _ h2]; rfl
theorem lists_many (n m : Nat) (hn : n < 18446744073709551616) (h : 4096 < n ∨ m < n) : getR byteR byteS (some (numB n ++ List.replicate m 7)) = (none, none) := by
  have e : lenR 4096 (some (numB n ++ List.replicate m 7)) = (0, none) := by
    unfold lenR
    rw [numR_numB _ _ hn, if_pos (by simp [leftN]; omega)]
  unfold getR
  rw [e]; rfl

set_option maxHeartbeats 3200000 in
theorem lists_law (n more : Int) (w : World) (h0 : 0 ≤ n) (h1 : n ≤ 18446744073709551615) :
    Calls Try.prog 8 #[.int .u64 n, .int .i64 more] w fun e w' => e = .returned (.bool true) ∧ Below w.heap.size w w' := by
  obtain ⟨n0, rfl⟩ := Int.eq_ofNat_of_zero_le h0
  obtain ⟨m, hm⟩ : ∃ m : Nat, (m : Int) = max 0 (min more 5000) := ⟨(max 0 (min more 5000)).toNat, by omega⟩
  have hm2 : (m : Int) ≤ 5000 := by omega
  go_enter Try.func8, Try.ntmps8
  go_upto_region 1 with fail
  go_cut [1] (fun t wc => t = .int .i64 (m : Int) ∧ wc = w)
  case first =>
    have HM := hid hm
    clear hm
    go_wp2_with fail
    all_goals
      go_meet
      case rel =>
        have := HM.out
        exact ⟨congrArg (Value.int .i64) (by omega), rfl⟩
  case rest =>
    obtain ⟨rfl, rfl⟩ := hcut
    clear hm
    have HW0 := hid (Wr.new wc)
    have hnl := numB_len n0 (by omega)
    have H1 := hid h1
    clear h1
    go_wp2_with fail
    refine (num_any _ _ _ _ h0 (by have := H1.out; omega) HW0.out (by simp)).mono ?_
    rintro e w1 ⟨rfl, hw1, hb1⟩
    rw [Int.toNat_natCast] at hw1
    have HW1 := hid hw1
    have HB1 := hid (((Below.refl _ _).alloc (Nat.le_refl _) _).trans hb1)
    clear hw1 hb1 HW0
    go_wp2_with fail
    go_loopw [14] (fun iv wr => ∃ i : Nat, iv = .int .i64 i ∧ i ≤ m ∧ Wr wr wc.heap.size (numB n0 ++ List.replicate i 7) ∧ Below wc.heap.size wc wr) (fun iv _ => m - (intOf iv).toNat)
    case atStart => exact ⟨0, rfl, Nat.zero_le _, by simpa using HW1.out, HB1.out⟩
    case round =>
      obtain ⟨i, rfl, him, hwr, hbr⟩ := hrel
      have HWR := hid hwr
      have HBR := hid hbr
      clear hwr hbr HW1 HB1
      by_cases hlt : (i : Int) < (m : Int)
      · go_wp2_with (go_at_call 19; refine (byte_any _ _ 7 _ HWR.out (by simp; omega)).mono ?_; rintro e w2 ⟨rfl, hw2, hb2⟩; have HW2 := hid hw2; have HB2 := hid (HBR.out.trans hb2); clear hw2 hb2)
        go_roundw
        case rel =>
          refine ⟨i + 1, by go_num, by omega, ?_, HB2.out⟩
          have := HW2.out
          rw [List.append_assoc] at this
          rw [List.replicate_succ']; exact this
        case measure => simp [intOf]; omega
      · obtain rfl : i = m := by omega
        clear hlt
        go_wp2_with fail
        refine (bytes_any _ _ _ HWR.out (by simp; omega)).mono ?_
        rintro e w3 ⟨va, vc, rfl, ho3, hb3⟩
        have hsr := HBR.out.size
        have hO3 := ho3.bts
        rw [List.length_append, List.length_replicate] at hO3
        have HO3 := hid hO3
        clear hO3
        have HB3 := hid (HBR.out.trans (hb3.mono hsr))
        have hs3 := HB3.out.size
        clear ho3 hb3 HWR HBR hsr
        go_wp2_with fail
        refine (newReader_any _ _ _ HO3.out (by simp; omega)).mono ?_
        rintro e w4 ⟨b, rfl, hb4, hr4, hb4'⟩
        have HR4 := hid hr4
        have HB4 := hid (HB3.out.trans (hb4'.mono hs3))
        have hs4 := HB4.out.size
        have hbb : wc.heap.size ≤ b := Nat.le_trans hs3 hb4
        clear hr4 hb4' hb4 HO3 HB3 hs3
        go_wp2_with fail
        refine (getU8_any _ _ _ HR4.out).mono ?_
        rintro e w5 ⟨va5, n5, vc5, rfl, hv5, hr5, hg5⟩
        have HB5 := hid (grown_below HB4.out hg5 hs4 hbb)
        have hs5 := HB5.out.size
        clear hg5 HB4 hs4 HR4
        by_cases hmany : 4096 < n0 ∨ i < n0
        · rw [lists_many n0 i (by have := H1.out; omega) hmany] at hv5 hr5
          have hv5' : Value.slice va5 n5 vc5 = .slice none 0 0 := hv5
          cases hv5'
          have HR5 := hid hr5
          clear hr5 hv5
          rcases hmany with hbig | hmore
          · have hbig' : (4096 : Int) < (n0 : Int) := by omega
            clear hbig
            go_wp2_with (first
              | (go_at_call 27; refine (bad_any _ _ _ HR5.out).mono ?_; rintro e w6 ⟨rfl, rfl⟩; simp only [badB])
              | (go_at_call 14; refine (lives_any _).mono ?_; rintro e w10 ⟨rfl, hb10⟩; have HB10 := hid (HB5.out.trans (hb10.mono hs5)); clear hb10))
            go_ret
            exact ⟨rfl, HB10.out⟩
          · have hmore' : (i : Int) < (n0 : Int) := by omega
            clear hmore
            by_cases hbig : (4096 : Int) < (n0 : Int)
            all_goals
              go_wp2_with (first
                | (go_at_call 27; refine (bad_any _ _ _ HR5.out).mono ?_; rintro e w6 ⟨rfl, rfl⟩; simp only [badB])
                | (go_at_call 14; refine (lives_any _).mono ?_; rintro e w10 ⟨rfl, hb10⟩; have HB10 := hid (HB5.out.trans (hb10.mono hs5)); clear hb10))
              go_ret
              exact ⟨rfl, HB10.out⟩
        · rw [lists_few n0 i (by omega) (by omega) (by omega)] at hv5 hr5
          have hv5' : w5.ownsRow w4.heap.size 5 1 (.slice va5 n5 vc5) (List.replicate n0 (7 : UInt8)).length ((List.replicate n0 7).map evU8) := hv5
          obtain ⟨va6, vc6, e6⟩ := owns_shape hv5'
          rw [List.length_replicate] at e6
          cases e6
          have HR5 := hid hr5
          clear hr5 hv5 hv5'
          have hbig' : ¬ (4096 : Int) < (n0 : Int) := by omega
          have hmore' : ¬ (i : Int) < (n0 : Int) := by omega
          have hsub : ((i - n0 : Nat) : Int) = (i : Int) - (n0 : Int) := by omega
          clear hmany
          go_wp2_with (first
            | (go_at_call 27; refine (bad_any _ _ _ HR5.out).mono ?_; rintro e w6 ⟨rfl, rfl⟩; simp only [badB])
            | (go_at_call 28; refine (left_any _ _ _ HR5.out).mono ?_; rintro e w6 ⟨rfl, rfl⟩; simp only [leftN, List.length_replicate]; rw [hsub])
            | (go_at_call 14; refine (lives_any _).mono ?_; rintro e w10 ⟨rfl, hb10⟩; have HB10 := hid (HB5.out.trans (hb10.mono hs5)); clear hb10))
          go_ret
          exact ⟨rfl, HB10.out⟩
end Go.Proofs.Ytdojjecjbejdhaa
