/- What Get of octet answers of Refs: the row that is read, or nothing. Conditions: the Reader lies in memory. -/
import Derived.Test.YthhcpoafnmhnhaaGreatInMay
import Derived.Test.YthhcpoafnmhnhaaGreatInClone
import Derived.Test.YthhcpoafnmhnhaaGreatBkTake
import Derived.Laws.Tables
namespace Go.Proofs.YthhcpoafnmhnhaaGreat
open Go.RowKit
set_option maxRecDepth 100000
set_option linter.unusedVariables false
set_option linter.unusedSimpArgs false

def rfV (s : Option (List UInt8)) : Int × Int := (intV s, intV (intS s))
def rfS (s : Option (List UInt8)) : Option (List UInt8) := intS (intS s)
theorem Tryz.sizeRef : (Tryz.prog.info? 23).map (·.size) = some 2 := by kernel_rfl
theorem Tryz.structRef0 : (Tryz.prog.underlying 23).map (fun d => match d with | .struct _ | .array _ _ => true | _ => false) = some true := by kernel_rfl
theorem Tryz.structRef : ∃ d, Tryz.prog.underlying 23 = some d ∧ (match d with | .struct _ | .array _ _ => true | _ => false) = true := by
  have h := Tryz.structRef0
  cases hd : Tryz.prog.underlying 23 with
  | none => rw [hd] at h; cases h
  | some d => rw [hd] at h; exact ⟨d, rfl, by simpa using h⟩
theorem results_ref {fn : Func} {p : Tmp} (h : fn.results = #[.cell p 23]) (tmps : Array Value) (w : World) (g : Nat) (t : TypeId) (v0 v1 : Value) (fr : Nat × Nat)
    (hp : tmps.getD p undef = .pointer (some ⟨g, 0, none⟩)) (hg : w.heap[g]? = some (.cells #[v0, v1] t fr)) : (results fn tmps).run Tryz.prog w = .ok (.agg #[v0, v1]) w := by
  obtain ⟨d, hd1, hd2⟩ := Tryz.structRef
  refine results_cell_row h tmps w g t _ fr d hp hg hd1 ?_ Tryz.sizeRef
  cases d <;> first | rfl | (simp at hd2)
set_option maxHeartbeats 1600000 in
theorem takeRef_any (b : Nat) (s : Option (List UInt8)) (w : World) (hr : Rd w b s) :
    Calls Tryz.prog 31 #[.pointer (some ⟨b, 0, none⟩)] w fun e w' => e = .returned (.agg #[.int .i64 (rfV s).1, .int .i64 (rfV s).2]) ∧ Rd w' b (rfS s) ∧ w.grownBy w' (some b) := by
  have hlt := hr.lt
  obtain ⟨w0, hw0⟩ : ∃ w0, w0 = w.alloc (.cells #[.int .i64 0, .int .i64 0] 23) := ⟨_, rfl⟩
  have b0 : Below w.heap.size w w0 := by rw [hw0]; exact (Below.refl _ _).alloc (Nat.le_refl _) _
  have hR0 : w0.heap[w.heap.size]? = some (.cells #[.int .i64 0, .int .i64 0] 23 (0, 0)) := by rw [hw0]; exact heap_alloc_new _ _
  have D0 := hid (hr.kept b0)
  have G0 := hid (grown_of (r := some b) b0)
  have HW0 := hid hw0
  clear hw0 b0 hr
  go_enter Tryz.func31, Tryz.ntmps31
  go_upto_region 1 with fail
  rw [← HW0.out]
  obtain ⟨R, hR⟩ : ∃ R, R = w.heap.size := ⟨_, rfl⟩
  rw [← hR] at hR0
  rw [← hR]
  have HR := hid hR
  have R0 := hid hR0
  clear hR HW0 hR0
  go_wp2_with fail
  refine (rint_any _ _ _ D0.out).mono ?_
  rintro e w1 ⟨rfl, hr1, hg1⟩
  have D1 : Hid (Rd w1 b (intS s)) := hid hr1
  have G1 := hid (grown_trans G0.out hg1)
  have R1 := hid ((hg1.block R (lt_of_block R0.out) (by have := HR.out; simp; omega)).trans R0.out)
  clear hr1 hg1 D0 G0 R0
  go_wp2_with fail
  refine (rint_any _ _ _ D1.out).mono ?_
  rintro e w2 ⟨rfl, hr2, hg2⟩
  have D2 : Hid (Rd w2 b (rfS s)) := hid hr2
  have G2 := hid (grown_trans G1.out hg2)
  have R2 := hid ((hg2.block R (lt_of_block R1.out) (by have := HR.out; simp; omega)).trans R1.out)
  clear hr2 hg2 D1 G1 R1
  have HV : Hid (rfV s = (intV s, intV (intS s))) := hid rfl
  generalize intV s = y0 at HV ⊢
  generalize intV (intS s) = y1 at HV ⊢
  have c0 : w2.cell? ⟨R, 0, none⟩ = some (.int .i64 0) := by rw [cell_of_row _ _ _ _ _ _ R2.out]; rfl
  have f0 : w2.frozen? ⟨R, 0, none⟩ = false := frozen_of_row _ _ _ _ _ R2.out
  have h1 := heap_setCell_same w2 R 0 _ _ (.int .i64 y0) R2.out
  have c1 : (w2.setCell ⟨R, 0, none⟩ (.int .i64 y0)).cell? ⟨R, 1, none⟩ = some (.int .i64 0) := by rw [cell_of_row _ _ _ _ _ _ h1]; rfl
  have f1 : (w2.setCell ⟨R, 0, none⟩ (.int .i64 y0)).frozen? ⟨R, 1, none⟩ = false := frozen_of_row _ _ _ _ _ h1
  have H2 := hid (heap_setCell_same _ R 1 _ _ (.int .i64 y1) h1)
  clear h1
  go_wp2_with fail
  (try simp only [Exit.inBlock, Exit.then])
  refine bodyPost_ret (results_ref rfl _ _ R _ _ _ _ rfl H2.out) rfl ?_
  rw [HV.out]
  exact ⟨rfl, (D2.out.set (by have := HR.out; omega)).set (by have := HR.out; omega), grown_new (grown_new G2.out _ _ _ (by have := HR.out; omega)) _ _ _ (by have := HR.out; omega)⟩
/-- What an answer is: nothing, or a row of the call's own. -/
def GetR2 (w : World) (base : Nat) (v : Value) : Option (List (Int × Int)) → Prop
  | none => v = .slice none 0 0
  | some acc => w.ownsRow base 23 2 v acc.length (rvs acc)
/-- What holds at a round's head. -/
def GetSt2 (w0 : World) (b : Nat) (R : Option (List (Int × Int)) × Option (List UInt8)) (n i : Nat) (va : Option Addr) (vc : Nat) (wr : World) : Prop :=
  ∃ l acc, acc.length = i ∧ i ≤ n ∧ wr.ownsRow w0.heap.size 23 2 (.slice va i vc) i (rvs acc) ∧ Rd wr b (some l) ∧ w0.grownBy wr (some b) ∧ R = getGo rfV rfS (n - i) (some l) acc
theorem owns_kept2 {w w' : World} {base b sz : Nat} {te : TypeId} {v : Value} {n : Nat} {xs : List Value} (h : w.ownsRow base te sz v n xs) (hb : b < base) (hg : w.grownBy w' (some b)) : w'.ownsRow base te sz v n xs := by
  refine h.kept hg (Or.inr fun e => ?_)
  have := (World.ownsRow.lt h b e).1
  omega
theorem grown_own2 {w w1 w2 : World} {b base sz : Nat} {te : TypeId} {v : Value} {n : Nat} {xs : List Value} (h : w.grownBy w1 (some b)) (ho : w1.ownsRow base te sz v n xs) (hb : w.heap.size ≤ base) (hg : w1.grownBy w2 v.ownBlock) : w.grownBy w2 (some b) :=
  ⟨hg.os.trans h.os, hg.tape.trans h.tape, hg.output.trans h.output, Nat.le_trans h.size hg.size, fun k hk hr => (hg.block k (Nat.lt_of_lt_of_le hk h.size) (fun e => by have := (World.ownsRow.lt ho k e.symm).1; omega)).trans (h.block k hk hr)⟩
theorem Rd.own2 {w1 w2 : World} {b base sz : Nat} {s : Option (List UInt8)} {te : TypeId} {v : Value} {n : Nat} {xs : List Value} (h : Rd w1 b s) (ho : w1.ownsRow base te sz v n xs) (hb : b < base) (hg : w1.grownBy w2 v.ownBlock) : Rd w2 b s :=
  h.beyond fun k hk => hg.block k (Nat.lt_of_le_of_lt hk h.lt) (fun e => by have := (World.ownsRow.lt ho k e.symm).1; omega)
set_option maxHeartbeats 1600000 in
theorem getR_any (b : Nat) (s : Option (List UInt8)) (w : World) (hr : Rd w b s) :
    Calls Tryz.prog 30 #[.pointer (some ⟨b, 0, none⟩), .func (.func 31) #[] #[]] w fun e w' =>
      ∃ va n vc, e = .returned (.slice va n vc) ∧ GetR2 w' w.heap.size (.slice va n vc) (getR rfV rfS s).1 ∧ Rd w' b (getR rfV rfS s).2 ∧ w.grownBy w' (some b) := by
  have hblt := hr.lt
  have HR := hio hr
  have hle := lenR_le 4096 s
  have HG : Hid (getR rfV rfS s = if badO (lenR 4096 s).2 then (none, none) else getGo rfV rfS (lenR 4096 s).1 (lenR 4096 s).2 []) := hio rfl
  obtain ⟨n, hn⟩ : ∃ n : Nat, n = (lenR 4096 s).1 := ⟨_, rfl⟩
  obtain ⟨s2, hs2⟩ : ∃ s2, s2 = (lenR 4096 s).2 := ⟨_, rfl⟩
  rw [← hn, ← hs2] at HG hle
  have HN := hio hn
  have HS2 := hio hs2
  clear hr hn hs2
  have hn2 : (n : Int) ≤ 4096 := by omega
  obtain ⟨i0, hi, hz0, hz1, hz2⟩ := info_parts rowRf.i
  have HI := hio hi
  have HZ0 := hio hz0
  have HZ1 := hio hz1
  have HZ2 := hio hz2
  clear hi hz0 hz1 hz2
  cases s2 with
  | none =>
    have hn0 : n = 0 := by have := hle.2; simp only [leftN] at this; omega
    subst hn0
    have HF : Hid (getR rfV rfS s = (none, none)) := HG
    clear HG hle
    go_enter Tryz.func30, Tryz.ntmps30
    go_wp2_with (first
      | (go_at_call 49; refine (rlen_any _ _ 4096 _ (by omega) (by omega) HR.out).mono ?_; rw [show (4096 : Int).toNat = 4096 from rfl, ← HN.out, ← HS2.out]; rintro e w1 ⟨rfl, hr1, hg1⟩; have HR1 := hio hr1; clear hr1)
      | (go_at_call 13; refine (bad_any _ _ _ HR1.out).mono ?_; rintro e w4 ⟨rfl, rfl⟩; simp only [badO]))
    go_ret
    rw [HF.out]
    exact ⟨none, 0, 0, rfl, rfl, HR1.out, hg1⟩
  | some l =>
    have HF : Hid (getR rfV rfS s = getGo rfV rfS n (some l) []) := HG
    clear HG hle
    have hfn := fun w => run_eql_fn w (.func 31) #[] #[] Tryz.underlying74
    by_cases hn0 : (0 : Int) < (n : Int)
    · go_enter Tryz.func30, Tryz.ntmps30
      go_wp2_with (first
        | (go_at_call 49; refine (rlen_any _ _ 4096 _ (by omega) (by omega) HR.out).mono ?_; rw [show (4096 : Int).toNat = 4096 from rfl, ← HN.out, ← HS2.out]; rintro e w1 ⟨rfl, hr1, hg1⟩; have HR1 := hio hr1; have HG1 := hio hg1; have hs1 : w.heap.size ≤ w1.heap.size := hg1.size; clear hr1 hg1)
        | (go_at_call 13; refine (bad_any _ _ _ HR1.out).mono ?_; rintro e w4 ⟨rfl, rfl⟩; simp only [badO])
        | (at_make; refine wpList_make_own _ rfl _ _ 29 rfl w.heap.size 23 i0 (.agg #[.int .i64 0, .int .i64 0]) 2 rowRf.u HI.out HZ0.out HZ1.out .i64 .i64 _ n rfl rfl rfl (by rw [HZ2.out]; omega) (by unfold maxLen; omega) hs1 ?_; intro w2 ho2 hg2; have HO2 := hio ho2; have HR2 := hio (Rd.beyond HR1.out fun k hk => hg2.block k (by omega) (by simp)); have HG2 := hio (grown_trans HG1.out (grown_any hg2)); clear ho2 hg2))
      clear hfn HR HR1 HG1 HN HS2
      go_loopw [6, 22] (fun lv iv wr => ∃ (i : Nat) (va : Option Addr) (vc : Nat), iv = .int .i64 i ∧ lv = .slice va i vc ∧ GetSt2 w b (getR rfV rfS s) n i va vc wr) (fun _ iv _ => n - (intOf iv).toNat)
      case atStart => exact ⟨0, _, _, rfl, rfl, l, [], rfl, Nat.zero_le _, HO2.out, HR2.out, HG2.out, HF.out⟩
      case round =>
        obtain ⟨i, va, vc, rfl, rfl, l', acc, hacc, hin, hown, hrd, hgr, hR⟩ := hrel
        clear HO2 HR2 HG2 HF
        have HOW := hio hown
        have HRD := hio hrd
        have HGR := hio hgr
        have HRR := hio hR
        have HAC := hio hacc
        have hgs := hgr.size
        clear hown hrd hgr hR hacc
        by_cases hlt : (i : Int) < (n : Int)
        · have HSU := hio (HRR.out.trans (getGo_succ rfV rfS n i (by omega) (some l') acc))
          clear HRR
          go_wp2_with fail
          refine (takeRef_any _ _ _ HRD.out).mono ?_
          rintro e w5 ⟨rfl, hr5, hg5⟩
          have HO5 := hio (owns_kept2 HOW.out hblt hg5)
          have HG5 := hio (grown_trans HGR.out hg5)
          obtain ⟨st, hst⟩ : ∃ st, st = rfS (some l') := ⟨_, rfl⟩
          obtain ⟨rv, hrv⟩ : ∃ rv, rv = rfV (some l') := ⟨_, rfl⟩
          rw [← hst] at hr5 HSU
          rw [← hrv] at HSU ⊢
          have HR5 := hio hr5
          clear hr5 hg5 HOW HRD HGR hgs hst hrv
          obtain ⟨w6, hw6⟩ : ∃ w6, w6 = w5.alloc (.cells #[.int .i64 rv.1, .int .i64 rv.2] 23) := ⟨_, rfl⟩
          have b6 : Below w5.heap.size w5 w6 := by rw [hw6]; exact (Below.refl _ _).alloc (Nat.le_refl _) _
          have r6 : w6.heap[w5.heap.size]? = some (.cells #[.int .i64 rv.1, .int .i64 rv.2] 23 (0, 0)) := by rw [hw6]; exact heap_alloc_new _ _
          have C6 : Hid (∀ j u, [Value.int .i64 rv.1, .int .i64 rv.2][j]? = some u → w6.cell? ⟨w5.heap.size, j, none⟩ = some u) := hid fun j u hj => by
            match j, hj with
            | 0, hj => rw [cell_of_row _ _ _ _ _ _ r6]; simpa using hj
            | 1, hj => rw [cell_of_row _ _ _ _ _ _ r6]; simpa using hj
            | j + 2, hj => simp at hj
          have O6 := hio (own_below HO5.out b6)
          have HR6 := hio (HR5.out.kept b6)
          have HG6 := hio (grown_trans HG5.out (grown_of (r := some b) b6))
          have hs6 : w.heap.size ≤ w6.heap.size := HG6.out.size
          have HW6 := hio hw6
          have HSN : Hid (rvs acc ++ [.int .i64 rv.1, .int .i64 rv.2] = rvs (acc ++ [rv])) := hid (by simp [rvs])
          clear hw6 b6 r6 HO5 HR5 HG5
          go_wp2_with (at_builtin; rw [← HW6.out]; refine wpl_app rowRf rfl (.tmp 24) (.tmp 28) rfl w.heap.size (.slice va i vc) i (rvs acc) rfl O6.out w5.heap.size 1 1 [.int .i64 rv.1, .int .i64 rv.2] rfl rfl C6.out (by intro u hu; simp at hu; rcases hu with rfl | rfl <;> rfl) (by omega) hs6 ?_; intro va7 vc7 w7 ho7 hg7; have HO7 := hio ho7; have HR7 := hio (Rd.own2 HR6.out O6.out hblt hg7); have HG7 := hio (grown_own2 HG6.out O6.out (Nat.le_refl _) hg7); clear ho7 hg7)
          clear HR6 O6 HG6 hs6 HW6 C6
          refine (bad_any _ _ _ HR7.out).mono ?_
          rintro e w8 ⟨rfl, rfl⟩
          cases st with
          | none =>
            have HE : Hid (getR rfV rfS s = (none, none)) := HSU
            clear HSU
            simp only [badO]
            go_wp2
            go_ret
            rw [HE.out]
            exact ⟨none, 0, 0, rfl, rfl, HR7.out, HG7.out⟩
          | some l2 =>
            have HE : Hid (getR rfV rfS s = getGo rfV rfS (n - (i + 1)) (some l2) (acc ++ [rv])) := HSU
            clear HSU
            simp only [badO]
            go_wp2
            go_roundw
            case rel =>
              refine ⟨i + 1, va7, vc7, by go_num, rfl, l2, acc ++ [rv], by simp [HAC.out], by omega, ?_, HR7.out, HG7.out, HE.out⟩
              rw [← HSN.out]; exact HO7.out
            case measure => simp [intOf]; omega
        · have hin' : i = n := by omega
          subst hin'
          have HE : Hid (getR rfV rfS s = (some acc, some l')) := hio (by rw [HRR.out, Nat.sub_self]; rfl)
          go_wp2
          go_ret
          rw [HE.out]
          refine ⟨va, _, vc, rfl, ?_, HRD.out, HGR.out⟩
          show wr.ownsRow _ _ 2 _ acc.length _
          rw [HAC.out]; exact HOW.out
    · go_enter Tryz.func30, Tryz.ntmps30
      go_wp2_with (first
        | (go_at_call 49; refine (rlen_any _ _ 4096 _ (by omega) (by omega) HR.out).mono ?_; rw [show (4096 : Int).toNat = 4096 from rfl, ← HN.out, ← HS2.out]; rintro e w1 ⟨rfl, hr1, hg1⟩; have HR1 := hio hr1; have HG1 := hio hg1; have hs1 : w.heap.size ≤ w1.heap.size := hg1.size; clear hr1 hg1)
        | (go_at_call 13; refine (bad_any _ _ _ HR1.out).mono ?_; rintro e w4 ⟨rfl, rfl⟩; simp only [badO])
        | (at_make; refine wpList_make_own _ rfl _ _ 29 rfl w.heap.size 23 i0 (.agg #[.int .i64 0, .int .i64 0]) 2 rowRf.u HI.out HZ0.out HZ1.out .i64 .i64 _ n rfl rfl rfl (by rw [HZ2.out]; omega) (by unfold maxLen; omega) hs1 ?_; intro w2 ho2 hg2; have HO2 := hio ho2; have HR2 := hio (Rd.beyond HR1.out fun k hk => hg2.block k (by omega) (by simp)); have HG2 := hio (grown_trans HG1.out (grown_any hg2)); clear ho2 hg2))
      clear hfn HR HR1 HG1 HN HS2
      go_loopw [6, 22] (fun lv iv wr => ∃ (i : Nat) (va : Option Addr) (vc : Nat), iv = .int .i64 i ∧ lv = .slice va i vc ∧ GetSt2 w b (getR rfV rfS s) n i va vc wr) (fun _ iv _ => n - (intOf iv).toNat)
      case atStart => exact ⟨0, _, _, rfl, rfl, l, [], rfl, Nat.zero_le _, HO2.out, HR2.out, HG2.out, HF.out⟩
      case round =>
        obtain ⟨i, va, vc, rfl, rfl, l', acc, hacc, hin, hown, hrd, hgr, hR⟩ := hrel
        clear HO2 HR2 HG2 HF
        have HOW := hio hown
        have HRD := hio hrd
        have HGR := hio hgr
        have HRR := hio hR
        have HAC := hio hacc
        have hgs := hgr.size
        clear hown hrd hgr hR hacc
        by_cases hlt : (i : Int) < (n : Int)
        · exfalso; omega
        · have hin' : i = n := by omega
          subst hin'
          have HE : Hid (getR rfV rfS s = (some acc, some l')) := hio (by rw [HRR.out, Nat.sub_self]; rfl)
          go_wp2
          go_ret
          rw [HE.out]
          refine ⟨va, _, vc, rfl, ?_, HRD.out, HGR.out⟩
          show wr.ownsRow _ _ 2 _ acc.length _
          rw [HAC.out]; exact HOW.out
end Go.Proofs.YthhcpoafnmhnhaaGreat
