/- takeEntry, and Get of entries: the row that is read, or nothing. Conditions: the Reader lies in memory. -/
import Derived.Test.YtjimneaimnjanaaCoEnc
import Derived.Laws.Tables
namespace Go.Proofs.Ytjimneaimnjanaa
open Go.RowKit
set_option maxRecDepth 100000
set_option linter.unusedVariables false
set_option linter.unusedSimpArgs false

theorem grown_of {w w' : World} {r : Option Nat} (h : Below w.heap.size w w') : w.grownBy w' r := ⟨h.os, h.tape, h.output, h.size, fun k hk _ => h.block k hk⟩
theorem grown_new {w w' : World} {r : Option Nat} (h : w.grownBy w' r) (C i : Nat) (v : Value) (hC : w.heap.size ≤ C) : w.grownBy (w'.setCell ⟨C, i, none⟩ v) r :=
  ⟨h.os, h.tape, h.output, by simpa [World.setCell] using h.size, fun k hk hr => (Below.heap_setCell _ _ _ _ (by simp; omega)).trans (h.block k hk hr)⟩
theorem grown_row {w w' : World} {r : Option Nat} (h : w.grownBy w' r) (C : Nat) (cs : Array Value) (hC : w.heap.size ≤ C) : w.grownBy (w'.setRow C cs) r :=
  ⟨h.os, h.tape, h.output, by simpa using h.size, fun k hk hr => (setRow_other _ _ _ _ (by omega)).trans (h.block k hk hr)⟩
theorem Rd.set {w : World} {b C i : Nat} {v : Value} {s : Option (List UInt8)} (h : Rd w b s) (hC : b < C) : Rd (w.setCell ⟨C, i, none⟩ v) b s := h.beyond fun k hk => Below.heap_setCell _ _ _ _ (by simp; omega)
theorem Rd.row {w : World} {b C : Nat} {cs : Array Value} {s : Option (List UInt8)} (h : Rd w b s) (hC : b < C) : Rd (w.setRow C cs) b s := h.beyond fun k hk => setRow_other _ _ _ _ (by omega)
def eV (s : Option (List UInt8)) : En := ⟨intV s, intV (intS s), ⟨(textV (intS (intS s))).toArray⟩⟩
def eS (s : Option (List UInt8)) : Option (List UInt8) := textS (intS (intS s))
theorem Try.sizeEnt : (Try.prog.info? 73).map (·.size) = some 3 := by kernel_rfl
theorem Try.structEnt0 : (Try.prog.underlying 73).map (fun d => match d with | .struct _ | .array _ _ => true | _ => false) = some true := by kernel_rfl
theorem Try.structEnt : ∃ d, Try.prog.underlying 73 = some d ∧ (match d with | .struct _ | .array _ _ => true | _ => false) = true := by
  have h := Try.structEnt0
  cases hd : Try.prog.underlying 73 with
  | none => rw [hd] at h; cases h
  | some d => rw [hd] at h; exact ⟨d, rfl, by simpa using h⟩
theorem results_ent {fn : Func} {p : Tmp} (h : fn.results = #[.cell p 73]) (tmps : Array Value) (w : World) (g : Nat) (t : TypeId) (v0 v1 v2 : Value) (fr : Nat × Nat)
    (hp : tmps.getD p undef = .pointer (some ⟨g, 0, none⟩)) (hg : w.heap[g]? = some (.cells #[v0, v1, v2] t fr)) : (results fn tmps).run Try.prog w = .ok (.agg #[v0, v1, v2]) w := by
  obtain ⟨d, hd1, hd2⟩ := Try.structEnt
  refine results_cell_row h tmps w g t _ fr d hp hg hd1 ?_ Try.sizeEnt
  cases d <;> first | rfl | (simp at hd2)
theorem wpl_loadE3 {ops : Array Oper} {rest : List Oper} {o : Oper} {a : Act} {w : World} {Q : Exit → Act → World → Prop} (hgd : o.guard = none) (x : Operand) (ho : o.op = .load 73 x)
    (g : Nat) (hx : a.eval x = .pointer (some ⟨g, 0, none⟩)) (t : TypeId) (u0 u1 u2 : Value) (fr : Nat × Nat) (hg : w.heap[g]? = some (.cells #[u0, u1, u2] t fr))
    (h : wpList Try.prog ops Q rest (a.put o.dst (.agg #[u0, u1, u2])) w) : wpList Try.prog ops Q (o :: rest) a w := by
  obtain ⟨d, hd1, hd2⟩ := Try.structEnt
  exact wpList_load_row hgd _ x ho g hx t _ fr d hg hd1 (by cases d <;> first | rfl | (simp at hd2)) Try.sizeEnt h
theorem wpl_storeE3 {ops : Array Oper} {rest : List Oper} {o : Oper} {a : Act} {w : World} {Q : Exit → Act → World → Prop} (hgd : o.guard = none) (x y : Operand) (ho : o.op = .store 73 x y)
    (g : Nat) (u0 u1 u2 : Value) (hx : a.eval x = .pointer (some ⟨g, 0, none⟩)) (hy : a.eval y = .agg #[u0, u1, u2]) (h0 : u0.oneCell' = true) (h1 : u1.oneCell' = true) (h2 : u2.oneCell' = true)
    (t : TypeId) (v0 v1 v2 : Value) (hg : w.heap[g]? = some (.cells #[v0, v1, v2] t (0, 0)))
    (h : wpList Try.prog ops Q rest (a.put o.dst undef) (w.setRow g #[u0, u1, u2])) : wpList Try.prog ops Q (o :: rest) a w :=
  wpList_store_row hgd _ x y ho g _ hx hy t _ hg Try.sizeEnt rfl (by simp [h0, h1, h2]) h
def en0 : Obj := .cells #[.int .i64 0, .int .i64 0, .string ⟨#[]⟩] 73
set_option maxHeartbeats 1600000 in
theorem takeEntry_any (b : Nat) (s : Option (List UInt8)) (w : World) (hr : Rd w b s) :
    Calls Try.prog 38 #[.pointer (some ⟨b, 0, none⟩)] w fun e w' => e = .returned (.agg #[.int .i64 (eV s).term, .int .i64 (eV s).kind, .string (eV s).text]) ∧ Rd w' b (eS s) ∧ w.grownBy w' (some b) := by
  have hlt := hr.lt
  obtain ⟨w0, hw0⟩ : ∃ w0, w0 = (w.alloc en0).alloc en0 := ⟨_, rfl⟩
  have b0 : Below w.heap.size w w0 := by rw [hw0]; exact ((Below.refl _ _).alloc (Nat.le_refl _) _).alloc (by simp) _
  have hR0 : w0.heap[w.heap.size]? = some en0 := by rw [hw0]; exact heap_alloc2_old _ _ _
  have hE0 : w0.heap[w.heap.size + 1]? = some en0 := by rw [hw0]; exact heap_alloc2_new _ _ _
  have D0 := hid (hr.kept b0)
  have G0 := hid (grown_of (r := some b) b0)
  have HW0 := hid hw0
  unfold en0 at HW0
  clear hw0 b0 hr
  go_enter Try.func38, Try.ntmps38
  go_upto_region 2 with fail
  rw [← HW0.out]
  obtain ⟨R, hR⟩ : ∃ R, R = w.heap.size := ⟨_, rfl⟩
  obtain ⟨E, hE⟩ : ∃ E, E = w.heap.size + 1 := ⟨_, rfl⟩
  rw [← hE] at hE0
  rw [← hR] at hR0
  rw [← hE, ← hR]
  have HP : Hid (b < R ∧ b < E ∧ R ≠ E ∧ w.heap.size ≤ R ∧ w.heap.size ≤ E) := hid ⟨by omega, by omega, by omega, by omega, by omega⟩
  have R0 := hid hR0
  have E0 : Hid (w0.heap[E]? = some (.cells #[.int .i64 0, .int .i64 0, .string ⟨#[]⟩] 73 (0, 0))) := hid hE0
  clear hR hE HW0 hR0 hE0
  go_wp2_with fail
  refine (rint_any _ _ _ D0.out).mono ?_
  rintro e w1 ⟨rfl, hr1, hg1⟩
  have D1 : Hid (Rd w1 b (intS s)) := hid hr1
  have G1 := hid (grown_trans G0.out hg1)
  have R1 := hid ((hg1.block R (lt_of_block R0.out) (by have := HP.out; simp; omega)).trans R0.out)
  have E1 := hid ((hg1.block E (lt_of_block E0.out) (by have := HP.out; simp; omega)).trans E0.out)
  clear hr1 hg1 D0 G0 R0 E0
  have HV : Hid (eV s = ⟨intV s, intV (intS s), ⟨(textV (intS (intS s))).toArray⟩⟩) := hid rfl
  generalize intV s = y0 at HV ⊢
  have c0 : w1.cell? ⟨E, 0, none⟩ = some (.int .i64 0) := by rw [cell_of_row _ _ _ _ _ _ E1.out]; rfl
  have f0 : w1.frozen? ⟨E, 0, none⟩ = false := frozen_of_row _ _ _ _ _ E1.out
  have D1' := hid (D1.out.set (C := E) (i := 0) (v := .int .i64 y0) HP.out.2.1)
  have G1' := hid (grown_new G1.out E 0 (.int .i64 y0) HP.out.2.2.2.2)
  have R1' := hid ((Below.heap_setCell w1 ⟨E, 0, none⟩ (.int .i64 y0) R HP.out.2.2.1).trans R1.out)
  have E1' := hid (heap_setCell_same w1 E 0 _ _ (.int .i64 y0) E1.out)
  go_wp2_with fail
  clear c0 f0 D1 G1 R1 E1
  generalize w1.setCell ⟨E, 0, none⟩ (.int .i64 y0) = w1 at D1' G1' R1' E1' ⊢
  refine (rint_any _ _ _ D1'.out).mono ?_
  rintro e w2 ⟨rfl, hr2, hg2⟩
  have D2 := hid hr2
  have G2 := hid (grown_trans G1'.out hg2)
  have R2 := hid ((hg2.block R (lt_of_block R1'.out) (by have := HP.out; simp; omega)).trans R1'.out)
  have E2 := hid ((hg2.block E (lt_of_block E1'.out) (by have := HP.out; simp; omega)).trans E1'.out)
  clear hr2 hg2 D1' G1' R1' E1'
  generalize intV (intS s) = y1 at HV ⊢
  have c1 : w2.cell? ⟨E, 1, none⟩ = some (.int .i64 0) := by rw [cell_of_row _ _ _ _ _ _ E2.out]; rfl
  have f1 : w2.frozen? ⟨E, 1, none⟩ = false := frozen_of_row _ _ _ _ _ E2.out
  have D2' := hid (D2.out.set (C := E) (i := 1) (v := .int .i64 y1) HP.out.2.1)
  have G2' := hid (grown_new G2.out E 1 (.int .i64 y1) HP.out.2.2.2.2)
  have R2' := hid ((Below.heap_setCell w2 ⟨E, 1, none⟩ (.int .i64 y1) R HP.out.2.2.1).trans R2.out)
  have E2' := hid (heap_setCell_same w2 E 1 _ _ (.int .i64 y1) E2.out)
  go_wp2_with fail
  clear c1 f1 D2 G2 R2 E2
  generalize w2.setCell ⟨E, 1, none⟩ (.int .i64 y1) = w2 at D2' G2' R2' E2' ⊢
  refine (rtext_any _ _ _ D2'.out).mono ?_
  rintro e w3 ⟨rfl, hr3, hg3⟩
  have D3 : Hid (Rd w3 b (eS s)) := hid hr3
  have G3 := hid (grown_trans G2'.out hg3)
  have R3 := hid ((hg3.block R (lt_of_block R2'.out) (by have := HP.out; simp; omega)).trans R2'.out)
  have E3 := hid ((hg3.block E (lt_of_block E2'.out) (by have := HP.out; simp; omega)).trans E2'.out)
  clear hr3 hg3 D2' G2' R2' E2'
  generalize (⟨(textV (intS (intS s))).toArray⟩ : ByteArray) = y2 at HV ⊢
  have c2 : w3.cell? ⟨E, 2, none⟩ = some (.string ⟨#[]⟩) := by rw [cell_of_row _ _ _ _ _ _ E3.out]; rfl
  have f2 : w3.frozen? ⟨E, 2, none⟩ = false := frozen_of_row _ _ _ _ _ E3.out
  have D3' := hid (D3.out.set (C := E) (i := 2) (v := .string y2) HP.out.2.1)
  have G3' := hid (grown_new G3.out E 2 (.string y2) HP.out.2.2.2.2)
  have R3' := hid ((Below.heap_setCell w3 ⟨E, 2, none⟩ (.string y2) R HP.out.2.2.1).trans R3.out)
  have E3' : Hid ((w3.setCell ⟨E, 2, none⟩ (.string y2)).heap[E]? = some (.cells #[.int .i64 y0, .int .i64 y1, .string y2] 73 (0, 0))) := hid (heap_setCell_same w3 E 2 _ _ (.string y2) E3.out)
  go_upto_region 5 with fail
  clear c2 f2 D3 G3 R3 E3
  generalize w3.setCell ⟨E, 2, none⟩ (.string y2) = w3 at D3' G3' R3' E3' ⊢
  have hE3 := E3'.out
  have hR3 : w3.heap[R]? = some (.cells #[.int .i64 0, .int .i64 0, .string ⟨#[]⟩] 73 (0, 0)) := R3'.out
  go_wp2_with (first | (refine wpl_loadE3 rfl _ rfl E rfl _ _ _ _ _ hE3 ?_) | (refine wpl_storeE3 rfl _ _ rfl R _ _ _ rfl rfl rfl rfl rfl _ _ _ _ hR3 ?_))
  (try simp only [Exit.inBlock, Exit.then])
  refine bodyPost_ret (results_ent rfl _ _ R _ _ _ _ _ rfl (setRow_heap _ _ _ _ _ _ hR3)) rfl ?_
  rw [HV.out]
  exact ⟨rfl, D3'.out.row HP.out.1, grown_row G3'.out R _ HP.out.2.2.2.1⟩
/-- What an answer is: nothing, or a row of the call's own. -/
def GetE2 (w : World) (base : Nat) (v : Value) : Option (List En) → Prop
  | none => v = .slice none 0 0
  | some acc => w.ownsRow base 73 3 v acc.length (evs acc)
/-- What holds at a round's head. -/
def GetStE (w0 : World) (b : Nat) (R : Option (List En) × Option (List UInt8)) (n i : Nat) (va : Option Addr) (vc : Nat) (wr : World) : Prop :=
  ∃ l acc, acc.length = i ∧ i ≤ n ∧ wr.ownsRow w0.heap.size 73 3 (.slice va i vc) i (evs acc) ∧ Rd wr b (some l) ∧ w0.grownBy wr (some b) ∧ R = getGo eV eS (n - i) (some l) acc
theorem owns_kept2 {w w' : World} {base b sz : Nat} {te : TypeId} {v : Value} {n : Nat} {xs : List Value} (h : w.ownsRow base te sz v n xs) (hb : b < base) (hg : w.grownBy w' (some b)) : w'.ownsRow base te sz v n xs := by
  refine h.kept hg (Or.inr fun e => ?_)
  have := (World.ownsRow.lt h b e).1
  omega
theorem grown_own2 {w w1 w2 : World} {b base sz : Nat} {te : TypeId} {v : Value} {n : Nat} {xs : List Value} (h : w.grownBy w1 (some b)) (ho : w1.ownsRow base te sz v n xs) (hb : w.heap.size ≤ base) (hg : w1.grownBy w2 v.ownBlock) : w.grownBy w2 (some b) :=
  ⟨hg.os.trans h.os, hg.tape.trans h.tape, hg.output.trans h.output, Nat.le_trans h.size hg.size, fun k hk hr => (hg.block k (Nat.lt_of_lt_of_le hk h.size) (fun e => by have := (World.ownsRow.lt ho k e.symm).1; omega)).trans (h.block k hk hr)⟩
theorem Rd.own2 {w1 w2 : World} {b base sz : Nat} {s : Option (List UInt8)} {te : TypeId} {v : Value} {n : Nat} {xs : List Value} (h : Rd w1 b s) (ho : w1.ownsRow base te sz v n xs) (hb : b < base) (hg : w1.grownBy w2 v.ownBlock) : Rd w2 b s :=
  h.beyond fun k hk => hg.block k (Nat.lt_of_le_of_lt hk h.lt) (fun e => by have := (World.ownsRow.lt ho k e.symm).1; omega)
set_option maxHeartbeats 1600000 in
theorem getE_any (b : Nat) (s : Option (List UInt8)) (w : World) (hr : Rd w b s) :
    Calls Try.prog 37 #[.pointer (some ⟨b, 0, none⟩), .func (.func 38) #[] #[]] w fun e w' =>
      ∃ va n vc, e = .returned (.slice va n vc) ∧ GetE2 w' w.heap.size (.slice va n vc) (getR eV eS s).1 ∧ Rd w' b (getR eV eS s).2 ∧ w.grownBy w' (some b) := by
  have hblt := hr.lt
  have HR := hio hr
  have hle := lenR_le 4096 s
  have HG : Hid (getR eV eS s = if badO (lenR 4096 s).2 then (none, none) else getGo eV eS (lenR 4096 s).1 (lenR 4096 s).2 []) := hio rfl
  obtain ⟨n, hn⟩ : ∃ n : Nat, n = (lenR 4096 s).1 := ⟨_, rfl⟩
  obtain ⟨s2, hs2⟩ : ∃ s2, s2 = (lenR 4096 s).2 := ⟨_, rfl⟩
  rw [← hn, ← hs2] at HG hle
  have HN := hio hn
  have HS2 := hio hs2
  clear hr hn hs2
  have hn2 : (n : Int) ≤ 4096 := by omega
  obtain ⟨i0, hi, hz0, hz1, hz2⟩ := info_parts rowEn.i
  have HI := hio hi
  have HZ0 := hio hz0
  have HZ1 := hio hz1
  have HZ2 := hio hz2
  clear hi hz0 hz1 hz2
  cases s2 with
  | none =>
    have hn0 : n = 0 := by have := hle.2; simp only [leftN] at this; omega
    subst hn0
    have HF : Hid (getR eV eS s = (none, none)) := HG
    clear HG hle
    go_enter Try.func37, Try.ntmps37
    go_wp2_with (first
      | (go_at_call 78; refine (rlen_any _ _ 4096 _ (by omega) (by omega) HR.out).mono ?_; rw [show (4096 : Int).toNat = 4096 from rfl, ← HN.out, ← HS2.out]; rintro e w1 ⟨rfl, hr1, hg1⟩; have HR1 := hio hr1; clear hr1)
      | (go_at_call 77; refine (bad_any _ _ _ HR1.out).mono ?_; rintro e w4 ⟨rfl, rfl⟩; simp only [badO]))
    go_ret
    rw [HF.out]
    exact ⟨none, 0, 0, rfl, rfl, HR1.out, hg1⟩
  | some l =>
    have HF : Hid (getR eV eS s = getGo eV eS n (some l) []) := HG
    clear HG hle
    have hfn := fun w => run_eql_fn w (.func 38) #[] #[] Try.underlying94
    by_cases hn0 : (0 : Int) < (n : Int)
    · go_enter Try.func37, Try.ntmps37
      go_wp2_with (first
        | (go_at_call 78; refine (rlen_any _ _ 4096 _ (by omega) (by omega) HR.out).mono ?_; rw [show (4096 : Int).toNat = 4096 from rfl, ← HN.out, ← HS2.out]; rintro e w1 ⟨rfl, hr1, hg1⟩; have HR1 := hio hr1; have HG1 := hio hg1; have hs1 : w.heap.size ≤ w1.heap.size := hg1.size; clear hr1 hg1)
        | (go_at_call 77; refine (bad_any _ _ _ HR1.out).mono ?_; rintro e w4 ⟨rfl, rfl⟩; simp only [badO])
        | (at_make; refine wpList_make_own _ rfl _ _ 27 rfl w.heap.size 73 i0 (.agg #[.int .i64 0, .int .i64 0, .string ⟨#[]⟩]) 3 rowEn.u HI.out HZ0.out HZ1.out .i64 .i64 _ n rfl rfl rfl (by rw [HZ2.out]; omega) (by unfold maxLen; omega) hs1 ?_; intro w2 ho2 hg2; have HO2 := hio ho2; have HR2 := hio (Rd.beyond HR1.out fun k hk => hg2.block k (by omega) (by simp)); have HG2 := hio (grown_trans HG1.out (grown_any hg2)); clear ho2 hg2))
      clear hfn HR HR1 HG1 HN HS2
      go_loopw [6, 22] (fun lv iv wr => ∃ (i : Nat) (va : Option Addr) (vc : Nat), iv = .int .i64 i ∧ lv = .slice va i vc ∧ GetStE w b (getR eV eS s) n i va vc wr) (fun _ iv _ => n - (intOf iv).toNat)
      case atStart => exact ⟨0, _, _, rfl, rfl, l, [], rfl, Nat.zero_le _, HO2.out, HR2.out, HG2.out, HF.out⟩
      case round =>
        obtain ⟨i, va, vc, rfl, rfl, l', acc, hacc, hin, hown, hrd, hgr, hR⟩ := hrel
        clear HO2 HR2 HG2 HF
        have HOW := hio hown
        have HRD := hio hrd
        have HGR := hio hgr
        have HRR := hio hR
        have HAC := hio hacc
        have hgs := hgr.size
        clear hown hrd hgr hR hacc
        by_cases hlt : (i : Int) < (n : Int)
        · have HSU := hio (HRR.out.trans (getGo_succ eV eS n i (by omega) (some l') acc))
          clear HRR
          go_wp2_with fail
          refine (takeEntry_any _ _ _ HRD.out).mono ?_
          rintro e w5 ⟨rfl, hr5, hg5⟩
          have HO5 := hio (owns_kept2 HOW.out hblt hg5)
          have HG5 := hio (grown_trans HGR.out hg5)
          obtain ⟨st, hst⟩ : ∃ st, st = eS (some l') := ⟨_, rfl⟩
          obtain ⟨rv, hrv⟩ : ∃ rv, rv = eV (some l') := ⟨_, rfl⟩
          rw [← hst] at hr5 HSU
          rw [← hrv] at HSU ⊢
          have HR5 := hio hr5
          clear hr5 hg5 HOW HRD HGR hgs hst hrv
          obtain ⟨w6, hw6⟩ : ∃ w6, w6 = w5.alloc (.cells #[.int .i64 rv.term, .int .i64 rv.kind, .string rv.text] 73) := ⟨_, rfl⟩
          have b6 : Below w5.heap.size w5 w6 := by rw [hw6]; exact (Below.refl _ _).alloc (Nat.le_refl _) _
          have r6 : w6.heap[w5.heap.size]? = some (.cells #[.int .i64 rv.term, .int .i64 rv.kind, .string rv.text] 73 (0, 0)) := by rw [hw6]; exact heap_alloc_new _ _
          have C6 : Hid (∀ j u, [Value.int .i64 rv.term, .int .i64 rv.kind, .string rv.text][j]? = some u → w6.cell? ⟨w5.heap.size, j, none⟩ = some u) := hid fun j u hj => by
            match j, hj with
            | 0, hj => rw [cell_of_row _ _ _ _ _ _ r6]; simpa using hj
            | 1, hj => rw [cell_of_row _ _ _ _ _ _ r6]; simpa using hj
            | 2, hj => rw [cell_of_row _ _ _ _ _ _ r6]; simpa using hj
            | j + 3, hj => simp at hj
          have O6 := hio (own_below HO5.out b6)
          have HR6 := hio (HR5.out.kept b6)
          have HG6 := hio (grown_trans HG5.out (grown_of (r := some b) b6))
          have hs6 : w.heap.size ≤ w6.heap.size := HG6.out.size
          have HW6 := hio hw6
          have HSN : Hid (evs acc ++ [.int .i64 rv.term, .int .i64 rv.kind, .string rv.text] = evs (acc ++ [rv])) := hid (by simp [evs])
          clear hw6 b6 r6 HO5 HR5 HG5
          go_wp2_with (at_builtin; rw [← HW6.out]; refine wpl_app rowEn rfl (.tmp 24) (.tmp 28) rfl w.heap.size (.slice va i vc) i (evs acc) rfl O6.out w5.heap.size 1 1 [.int .i64 rv.term, .int .i64 rv.kind, .string rv.text] rfl rfl C6.out (by intro u hu; simp at hu; rcases hu with rfl | rfl | rfl <;> rfl) (by omega) hs6 ?_; intro va7 vc7 w7 ho7 hg7; have HO7 := hio ho7; have HR7 := hio (Rd.own2 HR6.out O6.out hblt hg7); have HG7 := hio (grown_own2 HG6.out O6.out (Nat.le_refl _) hg7); clear ho7 hg7)
          clear HR6 O6 HG6 hs6 HW6 C6
          refine (bad_any _ _ _ HR7.out).mono ?_
          rintro e w8 ⟨rfl, rfl⟩
          cases st with
          | none =>
            have HE : Hid (getR eV eS s = (none, none)) := HSU
            clear HSU
            simp only [badO]
            go_wp2
            go_ret
            rw [HE.out]
            exact ⟨none, 0, 0, rfl, rfl, HR7.out, HG7.out⟩
          | some l2 =>
            have HE : Hid (getR eV eS s = getGo eV eS (n - (i + 1)) (some l2) (acc ++ [rv])) := HSU
            clear HSU
            simp only [badO]
            go_wp2
            go_roundw
            case rel =>
              refine ⟨i + 1, va7, vc7, by go_num, rfl, l2, acc ++ [rv], by simp [HAC.out], by omega, ?_, HR7.out, HG7.out, HE.out⟩
              rw [← HSN.out]; exact HO7.out
            case measure => simp [intOf]; omega
        · have hin' : i = n := by omega
          subst hin'
          have HE : Hid (getR eV eS s = (some acc, some l')) := hio (by rw [HRR.out, Nat.sub_self]; rfl)
          go_wp2
          go_ret
          rw [HE.out]
          refine ⟨va, _, vc, rfl, ?_, HRD.out, HGR.out⟩
          show wr.ownsRow _ _ 3 _ acc.length _
          rw [HAC.out]; exact HOW.out
    · go_enter Try.func37, Try.ntmps37
      go_wp2_with (first
        | (go_at_call 78; refine (rlen_any _ _ 4096 _ (by omega) (by omega) HR.out).mono ?_; rw [show (4096 : Int).toNat = 4096 from rfl, ← HN.out, ← HS2.out]; rintro e w1 ⟨rfl, hr1, hg1⟩; have HR1 := hio hr1; have HG1 := hio hg1; have hs1 : w.heap.size ≤ w1.heap.size := hg1.size; clear hr1 hg1)
        | (go_at_call 77; refine (bad_any _ _ _ HR1.out).mono ?_; rintro e w4 ⟨rfl, rfl⟩; simp only [badO])
        | (at_make; refine wpList_make_own _ rfl _ _ 27 rfl w.heap.size 73 i0 (.agg #[.int .i64 0, .int .i64 0, .string ⟨#[]⟩]) 3 rowEn.u HI.out HZ0.out HZ1.out .i64 .i64 _ n rfl rfl rfl (by rw [HZ2.out]; omega) (by unfold maxLen; omega) hs1 ?_; intro w2 ho2 hg2; have HO2 := hio ho2; have HR2 := hio (Rd.beyond HR1.out fun k hk => hg2.block k (by omega) (by simp)); have HG2 := hio (grown_trans HG1.out (grown_any hg2)); clear ho2 hg2))
      clear hfn HR HR1 HG1 HN HS2
      go_loopw [6, 22] (fun lv iv wr => ∃ (i : Nat) (va : Option Addr) (vc : Nat), iv = .int .i64 i ∧ lv = .slice va i vc ∧ GetStE w b (getR eV eS s) n i va vc wr) (fun _ iv _ => n - (intOf iv).toNat)
      case atStart => exact ⟨0, _, _, rfl, rfl, l, [], rfl, Nat.zero_le _, HO2.out, HR2.out, HG2.out, HF.out⟩
      case round =>
        obtain ⟨i, va, vc, rfl, rfl, l', acc, hacc, hin, hown, hrd, hgr, hR⟩ := hrel
        clear HO2 HR2 HG2 HF
        have HOW := hio hown
        have HRD := hio hrd
        have HGR := hio hgr
        have HRR := hio hR
        have HAC := hio hacc
        have hgs := hgr.size
        clear hown hrd hgr hR hacc
        by_cases hlt : (i : Int) < (n : Int)
        · exfalso; omega
        · have hin' : i = n := by omega
          subst hin'
          have HE : Hid (getR eV eS s = (some acc, some l')) := hio (by rw [HRR.out, Nat.sub_self]; rfl)
          go_wp2
          go_ret
          rw [HE.out]
          refine ⟨va, _, vc, rfl, ?_, HRD.out, HGR.out⟩
          show wr.ownsRow _ _ 3 _ acc.length _
          rw [HAC.out]; exact HOW.out
end Go.Proofs.Ytjimneaimnjanaa
