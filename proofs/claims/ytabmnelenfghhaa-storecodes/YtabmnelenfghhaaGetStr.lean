/- What Get answers with (*Reader).Text: the list that is read, or nothing. Conditions: the Reader lies in memory. -/
import Derived.Test.YtabmnelenfghhaaGetBase
import Derived.Laws.EntriesVeiled
namespace Go.Proofs.Ytabmnelenfghhaa
open Go.RowKit
set_option maxRecDepth 100000

theorem Try.underlyingTSStr : Try.prog.underlying 22 = some (.slice 9) := by kernel_rfl
theorem Try.infoTEStr : (Try.prog.info? 9).map (fun i => (i.zero, i.size, i.bytes)) = some (some (.string ByteArray.empty), 1, 16) := by kernel_rfl
def evStr (x : List UInt8) : Value := .string ⟨x.toArray⟩

set_option maxHeartbeats 1600000 in
theorem getStr_any (b : Nat) (s : Option (List UInt8)) (w : World) (hr : Rd w b s) :
    Calls Try.prog 36 #[.pointer (some ⟨b, 0, none⟩), .func (.func 37) #[] #[]] w fun e w' =>
      ∃ va n vc, e = .returned (.slice va n vc) ∧ GetV evStr 9 w' w.heap.size (.slice va n vc) (getR textV textS s).1 ∧ Rd w' b (getR textV textS s).2 ∧ w.grownBy w' (some b) := by
  have hblt := hr.lt
  have HR := hio hr
  have hle := lenR_le 4096 s
  have HG : Hid (getR textV textS s = if badO (lenR 4096 s).2 then (none, none) else getGo textV textS (lenR 4096 s).1 (lenR 4096 s).2 []) := hio rfl
  obtain ⟨n, hn⟩ : ∃ n : Nat, n = (lenR 4096 s).1 := ⟨_, rfl⟩
  obtain ⟨s2, hs2⟩ : ∃ s2, s2 = (lenR 4096 s).2 := ⟨_, rfl⟩
  rw [← hn, ← hs2] at HG hle
  have HN := hio hn
  have HS2 := hio hs2
  clear hr hn hs2
  have hn2 : (n : Int) ≤ 4096 := by omega
  obtain ⟨i0, hi, hz0, hz1, hz2⟩ := info_parts Try.infoTEStr
  have HI := hio hi
  have HZ0 := hio hz0
  have HZ1 := hio hz1
  have HZ2 := hio hz2
  clear hi hz0 hz1 hz2
  cases s2 with
  | none =>
    have hn0 : n = 0 := by have := hle.2; simp only [leftN] at this; omega
    subst hn0
    have HF : Hid (getR textV textS s = (none, none)) := HG
    clear HG hle
    go_enter Try.func36, Try.ntmps36
    go_wp2_with (first
      | (go_at_call 68; refine (rlen_any _ _ 4096 _ (by omega) (by omega) HR.out).mono ?_; rw [show (4096 : Int).toNat = 4096 from rfl, ← HN.out, ← HS2.out]; rintro e w1 ⟨rfl, hr1, hg1⟩; have HR1 := hio hr1; clear hr1)
      | (go_at_call 15; refine (bad_any _ _ _ HR1.out).mono ?_; rintro e w4 ⟨rfl, rfl⟩; simp only [badO]))
    go_ret
    rw [HF.out]
    exact ⟨none, 0, 0, rfl, rfl, HR1.out, hg1⟩
  | some l =>
    have HF : Hid (getR textV textS s = getGo textV textS n (some l) []) := HG
    clear HG hle
    have hfn := fun w => run_eql_fn w (.func 37) #[] #[] Try.underlying82
    by_cases hn0 : (0 : Int) < (n : Int)
    · go_enter Try.func36, Try.ntmps36
      go_wp2_with (first
        | (go_at_call 68; refine (rlen_any _ _ 4096 _ (by omega) (by omega) HR.out).mono ?_; rw [show (4096 : Int).toNat = 4096 from rfl, ← HN.out, ← HS2.out]; rintro e w1 ⟨rfl, hr1, hg1⟩; have HR1 := hio hr1; have HG1 := hio hg1; have hs1 : w.heap.size ≤ w1.heap.size := hg1.size; clear hr1 hg1)
        | (go_at_call 15; refine (bad_any _ _ _ HR1.out).mono ?_; rintro e w4 ⟨rfl, rfl⟩; simp only [badO])
        | (at_make; refine wpList_make_own _ rfl _ _ 22 rfl w.heap.size 9 i0 (.string ByteArray.empty) 1 Try.underlyingTSStr HI.out HZ0.out HZ1.out .i64 .i64 _ n rfl rfl rfl (by rw [HZ2.out]; omega) (by unfold maxLen; omega) hs1 ?_; intro w2 ho2 hg2; have HO2 := hio ho2; have HR2 := hio (Rd.beyond HR1.out fun k hk => hg2.block k (by omega) (by simp)); have HG2 := hio (grown_trans HG1.out (grown_any hg2)); clear ho2 hg2))
      clear hfn HR HR1 HG1 HN HS2
      go_loopw [6, 22] (fun lv iv wr => ∃ (i : Nat) (va : Option Addr) (vc : Nat), iv = .int .i64 i ∧ lv = .slice va i vc ∧ GetSt evStr 9 textV textS w b (getR textV textS s) n i va vc wr) (fun _ iv _ => n - (intOf iv).toNat)
      case atStart => exact ⟨0, _, _, rfl, rfl, l, [], rfl, Nat.zero_le _, HO2.out, HR2.out, HG2.out, HF.out⟩
      case round =>
        obtain ⟨i, va, vc, rfl, rfl, l', acc, hacc, hin, hown, hrd, hgr, hR⟩ := hrel
        clear HO2 HR2 HG2 HF
        have HOW := hio hown
        have HRD := hio hrd
        have HGR := hio hgr
        have HRR := hio hR
        have HAC := hio hacc
        have hgs := hgr.size
        clear hown hrd hgr hR hacc
        by_cases hlt : (i : Int) < (n : Int)
        · have HSU := hio (HRR.out.trans (getGo_succ textV textS n i (by omega) (some l') acc))
          clear HRR
          go_wp2_with fail
          refine (rtext_any _ _ _ HRD.out).mono ?_
          rintro e w5 ⟨rfl, hr5, hg5⟩
          have HR5 : Hid (Rd w5 b (textS (some l'))) := hio hr5
          have HO5 := hio (owns_kept HOW.out hblt hg5)
          have HG5 := hio (grown_trans HGR.out hg5)
          have hs5 := HG5.out.size
          clear hr5 hg5 HOW HRD HGR hgs
          go_wp2_with (first
            | (at_builtin; refine wpl_push rfl (.tmp 24) (.tmp 28) 22 rfl w.heap.size 9 i0 (.string ByteArray.empty) 16 Try.underlyingTSStr HI.out HZ0.out HZ1.out HZ2.out rfl va vc i (acc.map evStr) rfl HO5.out (evStr (textV (some l'))) rfl rfl (by omega) (by omega) hs5 ?_; intro va6 vc6 w6 ho6 hg6; have HO6 := hio ho6; have HR6 := hio (Rd.own HR5.out HO5.out hblt hg6); have HG6 := hio (grown_own HG5.out HO5.out (Nat.le_refl _) hg6); clear ho6 hg6))
          clear HR5 HO5 HG5 hs5
          refine (bad_any _ _ _ HR6.out).mono ?_
          rintro e w7 ⟨rfl, rfl⟩
          obtain ⟨st, hst⟩ : ∃ st, st = textS (some l') := ⟨_, rfl⟩
          rw [← hst] at HR6 HSU ⊢
          clear hst
          cases st with
          | none =>
            have HE : Hid (getR textV textS s = (none, none)) := HSU
            clear HSU
            simp only [badO]
            go_wp2
            go_ret
            rw [HE.out]
            exact ⟨none, 0, 0, rfl, rfl, HR6.out, HG6.out⟩
          | some l2 =>
            have HE : Hid (getR textV textS s = getGo textV textS (n - (i + 1)) (some l2) (acc ++ [textV (some l')])) := HSU
            clear HSU
            simp only [badO]
            go_wp2
            go_roundw
            case rel =>
              refine ⟨i + 1, va6, vc6, by go_num, rfl, l2, acc ++ [textV (some l')], by simp [HAC.out], by omega, ?_, HR6.out, HG6.out, HE.out⟩
              rw [List.map_append]; exact HO6.out
            case measure => simp [intOf]; omega
        · have hin' : i = n := by omega
          subst hin'
          have HE : Hid (getR textV textS s = (some acc, some l')) := hio (by rw [HRR.out, Nat.sub_self]; rfl)
          go_wp2
          go_ret
          rw [HE.out]
          refine ⟨va, _, vc, rfl, ?_, HRD.out, HGR.out⟩
          show wr.ownsRow _ _ 1 _ acc.length _
          rw [HAC.out]; exact HOW.out
    · go_enter Try.func36, Try.ntmps36
      go_wp2_with (first
        | (go_at_call 68; refine (rlen_any _ _ 4096 _ (by omega) (by omega) HR.out).mono ?_; rw [show (4096 : Int).toNat = 4096 from rfl, ← HN.out, ← HS2.out]; rintro e w1 ⟨rfl, hr1, hg1⟩; have HR1 := hio hr1; have HG1 := hio hg1; have hs1 : w.heap.size ≤ w1.heap.size := hg1.size; clear hr1 hg1)
        | (go_at_call 15; refine (bad_any _ _ _ HR1.out).mono ?_; rintro e w4 ⟨rfl, rfl⟩; simp only [badO])
        | (at_make; refine wpList_make_own _ rfl _ _ 22 rfl w.heap.size 9 i0 (.string ByteArray.empty) 1 Try.underlyingTSStr HI.out HZ0.out HZ1.out .i64 .i64 _ n rfl rfl rfl (by rw [HZ2.out]; omega) (by unfold maxLen; omega) hs1 ?_; intro w2 ho2 hg2; have HO2 := hio ho2; have HR2 := hio (Rd.beyond HR1.out fun k hk => hg2.block k (by omega) (by simp)); have HG2 := hio (grown_trans HG1.out (grown_any hg2)); clear ho2 hg2))
      clear hfn HR HR1 HG1 HN HS2
      go_loopw [6, 22] (fun lv iv wr => ∃ (i : Nat) (va : Option Addr) (vc : Nat), iv = .int .i64 i ∧ lv = .slice va i vc ∧ GetSt evStr 9 textV textS w b (getR textV textS s) n i va vc wr) (fun _ iv _ => n - (intOf iv).toNat)
      case atStart => exact ⟨0, _, _, rfl, rfl, l, [], rfl, Nat.zero_le _, HO2.out, HR2.out, HG2.out, HF.out⟩
      case round =>
        obtain ⟨i, va, vc, rfl, rfl, l', acc, hacc, hin, hown, hrd, hgr, hR⟩ := hrel
        clear HO2 HR2 HG2 HF
        have HOW := hio hown
        have HRD := hio hrd
        have HGR := hio hgr
        have HRR := hio hR
        have HAC := hio hacc
        have hgs := hgr.size
        clear hown hrd hgr hR hacc
        by_cases hlt : (i : Int) < (n : Int)
        · exfalso; omega
        · have hin' : i = n := by omega
          subst hin'
          have HE : Hid (getR textV textS s = (some acc, some l')) := hio (by rw [HRR.out, Nat.sub_self]; rfl)
          go_wp2
          go_ret
          rw [HE.out]
          refine ⟨va, _, vc, rfl, ?_, HRD.out, HGR.out⟩
          show wr.ownsRow _ _ 1 _ acc.length _
          rw [HAC.out]; exact HOW.out
end Go.Proofs.Ytabmnelenfghhaa
