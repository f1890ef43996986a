/- Tick, of one that does not lead: it waits, or stands. What stand leaves is handed in. -/
import Derived.Test.YtjimneaimnjanaaCoElect
import Derived.Laws.Tables
import Derived.Laws.Rows
namespace Go.Proofs.Ytjimneaimnjanaa
open Go.RowKit
set_option linter.unusedVariables false
set_option linter.unusedSimpArgs false

theorem Try.sizeWord : (Try.prog.info? 61).map (·.size) = some 3 := by kernel_rfl
theorem Try.structWord0 : (Try.prog.underlying 61).map (fun d => match d with | .struct _ | .array _ _ => true | _ => false) = some true := by kernel_rfl
theorem Try.structWord : ∃ d, Try.prog.underlying 61 = some d ∧ (match d with | .struct _ | .array _ _ => true | _ => false) = true := by
  have h := Try.structWord0
  cases hd : Try.prog.underlying 61 with
  | none => rw [hd] at h; cases h
  | some d => rw [hd] at h; exact ⟨d, rfl, by simpa using h⟩
theorem results_word {fn : Func} {p : Tmp} (h : fn.results = #[.cell p 61]) (tmps : Array Value) (w : World) (g : Nat) (t : TypeId) (u0 u1 u2 : Value) (fr : Nat × Nat)
    (hp : tmps.getD p undef = .pointer (some ⟨g, 0, none⟩)) (hg : w.heap[g]? = some (.cells #[u0, u1, u2] t fr)) : (results fn tmps).run Try.prog w = .ok (.agg #[u0, u1, u2]) w := by
  obtain ⟨d, hd1, hd2⟩ := Try.structWord
  refine results_cell_row h tmps w g t _ fr d hp hg hd1 ?_ Try.sizeWord
  cases d <;> first | rfl | (simp at hd2)
theorem results_wordE {fn : Func} {p q : Tmp} (h : fn.results = #[.cell p 61, .tmp q]) (tmps : Array Value) (w : World) (g : Nat) (t : TypeId) (u0 u1 u2 : Value) (fr : Nat × Nat)
    (hp : tmps.getD p undef = .pointer (some ⟨g, 0, none⟩)) (hg : w.heap[g]? = some (.cells #[u0, u1, u2] t fr)) : (results fn tmps).run Try.prog w = .ok (.tuple #[.agg #[u0, u1, u2], tmps.getD q undef]) w := by
  obtain ⟨d, hd1, hd2⟩ := Try.structWord
  have hp' : tmps[p]?.getD undef = .pointer (some ⟨g, 0, none⟩) := by simpa using hp
  have hl := run_loadVar_row w g t 61 #[u0, u1, u2] fr d hg hd1 (by cases d <;> first | rfl | (simp at hd2)) Try.sizeWord
  simp [results, h, hp', asAddr, hl]
theorem wpl_loadW {ops : Array Oper} {rest : List Oper} {o : Oper} {a : Act} {w : World} {Q : Exit → Act → World → Prop} (hgd : o.guard = none) (x : Operand) (ho : o.op = .load 61 x)
    (g : Nat) (hx : a.eval x = .pointer (some ⟨g, 0, none⟩)) (t : TypeId) (u0 u1 u2 : Value) (fr : Nat × Nat) (hg : w.heap[g]? = some (.cells #[u0, u1, u2] t fr))
    (h : wpList Try.prog ops Q rest (a.put o.dst (.agg #[u0, u1, u2])) w) : wpList Try.prog ops Q (o :: rest) a w := by
  obtain ⟨d, hd1, hd2⟩ := Try.structWord
  exact wpList_load_row hgd _ x ho g hx t _ fr d hg hd1 (by cases d <;> first | rfl | (simp at hd2)) Try.sizeWord h
theorem wpl_storeW {ops : Array Oper} {rest : List Oper} {o : Oper} {a : Act} {w : World} {Q : Exit → Act → World → Prop} (hgd : o.guard = none) (x y : Operand) (ho : o.op = .store 61 x y)
    (g : Nat) (u0 u1 u2 : Value) (hx : a.eval x = .pointer (some ⟨g, 0, none⟩)) (hy : a.eval y = .agg #[u0, u1, u2]) (h0 : u0.oneCell' = true) (h1 : u1.oneCell' = true) (h2 : u2.oneCell' = true)
    (t : TypeId) (v0 v1 v2 : Value) (hg : w.heap[g]? = some (.cells #[v0, v1, v2] t (0, 0)))
    (h : wpList Try.prog ops Q rest (a.put o.dst undef) (w.setRow g #[u0, u1, u2])) : wpList Try.prog ops Q (o :: rest) a w :=
  wpList_store_row hgd _ x y ho g _ hx hy t _ hg Try.sizeWord rfl (by simp [h0, h1, h2]) h
theorem own_raise {B : Nat} {w : World} {E : TypeId} {sz n : Nat} {v : Value} {xs : List Value} (h : w.ownsRow 0 E sz v n xs) (hb : ∀ q, v.ownBlock = some q → B ≤ q) : w.ownsRow B E sz v n xs := by
  obtain ⟨h1, h2⟩ := h
  refine ⟨h1, ?_⟩
  rcases h2 with h | ⟨g, cap, cur, rfl, -, rest⟩
  · exact .inl h
  · exact .inr ⟨g, cap, cur, rfl, hb g rfl, rest⟩
theorem own_row {w : World} {B g : Nat} {E T : TypeId} {sz n : Nat} {v : Value} {xs : List Value} {cs : Array Value} {cs' : Array Value} {fr : Nat × Nat} (h : w.ownsRow B E sz v n xs) (hg : w.heap[g]? = some (.cells cs T fr)) (ht : T ≠ E) : (w.setRow g cs').ownsRow B E sz v n xs :=
  own_kept h fun q cs2 hq hh => setRow_other w g q cs' fun e => by
    subst e
    obtain ⟨cur, hc⟩ := own_typed h hq
    rw [hg] at hc; cases hc; exact ht rfl
/-- What a call leaves that returns a Word: the council, and the Word's rows, which are new. -/
def CRet (w : World) (b : Nat) (lv : Value) (v : Value) (w' : World) (D' : CoD) (W' : WdD) : Prop :=
  ∃ lv' ms ns, v = .agg #[.bool W'.keep, ms, ns] ∧ Co w' 0 b lv' D' ∧ w'.ownsRow w.heap.size 55 28 ms W'.mails.length W'.mails.flatten ∧ w'.ownsRow w.heap.size 75 5 ns W'.news.length (nzs W'.news) ∧ Bt (fun q => q = b ∨ lv.ownBlock = some q) w w' ∧ Nw w lv lv'
/-- An empty Word's cells. -/
def wd0 : Obj := .cells #[.bool false, .slice none 0 0, .slice none 0 0] 61
/-- The result's cell at R, the Word's box at wb; then what is in the box goes to the result. -/
theorem CRet.of {w w1 w2 : World} {b wb R : Nat} {lv lv2 ms2 ns2 : Value} {D2 : CoD} {W2 : WdD} {fr : Nat × Nat} {cs : Array Value} (hb : Below w.heap.size w w1) (hR : w.heap.size ≤ R) (hwb : w.heap.size ≤ wb) (hR2 : w2.heap[R]? = some (.cells cs 61 fr)) (hc : Co w2 0 b lv2 D2) (hw : Wd w2 wb ms2 ns2 W2)
    (hbt : Bt (Blk b wb lv (.slice none 0 0) (.slice none 0 0)) w1 w2) (n1 : Nw w1 lv lv2) (n2 : Nw w1 (.slice none 0 0) ms2) (n3 : Nw w1 (.slice none 0 0) ns2) (cs' : Array Value) :
    CRet w b lv (.agg #[.bool W2.keep, ms2, ns2]) (w2.setRow R cs') D2 W2 := by
  refine ⟨lv2, ms2, ns2, rfl, ⟨(setRow_other _ _ _ _ fun e => ?_).trans hc.head, own_row hc.log hR2 (by decide)⟩, own_row (own_raise hw.mails fun q hq => ?_) hR2 (by decide), own_row (own_raise hw.news fun q hq => ?_) hR2 (by decide), ?_, (Nw.refl w lv).trans n1 hb.size⟩
  · rw [← e, hc.head] at hR2; cases hR2
  · rcases n2 q hq with h | h
    · cases h
    · exact Nat.le_trans hb.size h
  · rcases n3 q hq with h | h
    · cases h
    · exact Nat.le_trans hb.size h
  · refine ⟨hbt.os.trans hb.os, hbt.tape.trans hb.tape, hbt.output.trans hb.output, by simpa using Nat.le_trans hb.size hbt.size, fun q hq hn => ?_⟩
    rw [setRow_other _ _ _ _ (by omega)]
    refine (hbt.block q (Nat.lt_of_lt_of_le hq hb.size) ?_).trans (hb.block q hq)
    rintro (h | h | h | h | h)
    · exact hn (.inl h)
    · omega
    · exact hn (.inr h)
    · cases h
    · cases h
theorem wd_new {w : World} {wb : Nat} (h : w.heap[wb]? = some wd0) : Wd w wb (.slice none 0 0) (.slice none 0 0) ⟨false, [], []⟩ := ⟨h, World.ownsRow_nil _ _ _ _, World.ownsRow_nil _ _ _ _⟩
set_option maxRecDepth 100000 in
set_option maxHeartbeats 4000000 in
theorem tick_wait (b : Nat) (lv : Value) (D : CoD) (w : World) (h : Co w 0 b lv D) (hr : D.role = 0 ∨ D.role = 1) (hs0 : 0 ≤ D.self) (hs1 : D.self < 7) (hc0 : 0 ≤ D.clock) (hc : D.clock + 1 < 10 + 3 * D.self) :
    Calls Try.prog 30 #[.pointer (some ⟨b, 0, none⟩)] w fun e w' => ∃ v, e = .returned v ∧ CRet w b lv v w' { D with clock := D.clock + 1 } ⟨false, [], []⟩ := by
  have H := hid h
  obtain ⟨w1, hw1⟩ : ∃ w1, w1 = (w.alloc wd0).alloc wd0 := ⟨_, rfl⟩
  have B1 : Hid (Below w.heap.size w w1) := hid (by rw [hw1]; exact ((Below.refl _ _).alloc (Nat.le_refl _) _).alloc (by simp) _)
  have hR : w1.heap[w.heap.size]? = some wd0 := by rw [hw1]; exact heap_alloc2_old _ _ _
  have hWb : w1.heap[w.heap.size + 1]? = some wd0 := by rw [hw1]; exact heap_alloc2_new _ _ _
  have hsz1 : w1.heap.size = w.heap.size + 2 := by rw [hw1]; simp
  have HW1 := hid hw1
  unfold wd0 at HW1
  clear hw1
  clear h
  go_enter Try.func30, Try.ntmps30
  go_upto_region 2 with fail
  rw [← HW1.out]
  obtain ⟨R, hRe⟩ : ∃ R, R = w.heap.size := ⟨_, rfl⟩
  obtain ⟨wb, hwbe⟩ : ∃ wb, wb = w.heap.size + 1 := ⟨_, rfl⟩
  have HPL : Hid (w.heap.size ≤ R ∧ w.heap.size ≤ wb ∧ R ≠ wb ∧ w1.heap.size = wb + 1 ∧ R < w1.heap.size) := hid ⟨by omega, by omega, by omega, by omega, by omega⟩
  rw [← hwbe] at hWb
  rw [← hRe] at hR
  rw [← hwbe, ← hRe]
  clear HW1 hRe hwbe hsz1
  have HR := hid hR
  have K1 := hid (wd_new hWb)
  clear hR hWb
  have C1 := hid (CK.refl (H.out.below B1.out) K1.out)
  have C2 := hid (C1.out.set (D' := { D with clock := D.clock + 1 }) 11 (.int .i64 (D.clock + 1)) rfl rfl)
  have c11 : w1.cell? ⟨b, 11, none⟩ = some (.int .i64 D.clock) := C1.out.co.cell 11
  have f11 := C1.out.co.fz 11
  have hwc : IntKind.i64.wrap (D.clock + 1) = D.clock + 1 := IntWalk.i64_in _ ⟨by omega, by omega⟩
  go_upto_region 5 with fail
  clear c11 f11
  obtain ⟨w2, hw2⟩ : ∃ w2, w2 = w1.setCell ⟨b, 11, none⟩ (.int .i64 (D.clock + 1)) := ⟨_, rfl⟩
  rw [← hw2] at C2
  rw [← hw2]
  clear hw2
  have c8 : w2.cell? ⟨b, 8, none⟩ = some (.int .i64 D.role) := C2.out.co.cell 8
  have c11 : w2.cell? ⟨b, 11, none⟩ = some (.int .i64 (D.clock + 1)) := C2.out.co.cell 11
  have c0 : w2.cell? ⟨b, 0, none⟩ = some (.int .i64 D.self) := C2.out.co.cell 0
  have hm3 : IntKind.i64.wrap (3 * D.self) = 3 * D.self := IntWalk.i64_in _ ⟨by omega, by omega⟩
  have hm10 : IntKind.i64.wrap (10 + 3 * D.self) = 10 + 3 * D.self := IntWalk.i64_in _ ⟨by omega, by omega⟩
  have hd : decide (10 + 3 * D.self ≤ D.clock + 1) = false := decide_eq_false (by omega)
  rcases hr with e0 | e0
  all_goals
    rw [e0] at c8
    clear e0
    go_wp2_with fail
    go_quiet (fail)
    have C3 := hid (C2.out.below (belowN w2 nq))
    have hwb3 := C3.out.wd.head
    have hR3 : (w2.drewN nq).heap[R]? = some wd0 := (C3.out.bt.block R HPL.out.2.2.2.2 (by
      rintro (e | e)
      · have := C1.out.co.head; rw [← e, HR.out] at this; cases this
      · exact HPL.out.2.2.1 e)).trans HR.out
    go_wp2_with (first | (refine wpl_loadW rfl _ rfl wb rfl _ _ _ _ _ hwb3 ?_) | (refine wpl_storeW rfl _ _ rfl R _ _ _ rfl rfl rfl rfl rfl _ _ _ _ hR3 ?_))
    (try simp only [Exit.inBlock, Exit.then])
    refine bodyPost_ret (results_word rfl _ _ R _ _ _ _ _ rfl (setRow_heap _ _ _ _ _ _ hR3)) rfl ?_
    refine ⟨_, rfl, CRet.of B1.out HPL.out.1 HPL.out.2.1 hR3 C3.out.co C3.out.wd ?_ (.refl _ _) (.refl _ _) (.refl _ _) _⟩
    exact ⟨C3.out.bt.os, C3.out.bt.tape, C3.out.bt.output, C3.out.bt.size, fun q hq hn => C3.out.bt.block q hq fun e => hn (e.elim .inl (fun e => .inr (.inl e)))⟩
set_option maxRecDepth 100000 in
set_option maxHeartbeats 4000000 in
theorem tick_stand (b : Nat) (lv : Value) (D D2 : CoD) (W2 : WdD) (n : Nat) (w : World) (h : Co w 0 b lv D) (hi : CoI D) (hr : D.role = 0 ∨ D.role = 1) (hs0 : 0 ≤ D.self) (hs1 : D.self < 7) (hc0 : 0 ≤ D.clock) (hc : 10 + 3 * D.self ≤ D.clock + 1) (hc1 : D.clock ≤ 1000000)
    (hn : n ≤ D.log.length) (ht : D.told = D.bi + n) (hy : namesB (vUp D n) D.self = true) (htm : D.term < 1099511627776)
    (hsd : ∀ w1 wb, Co w1 0 b lv { D with clock := D.clock + 1 } → Wd w1 wb (.slice none 0 0) (.slice none 0 0) ⟨false, [], []⟩ → Calls Try.prog 73 #[.pointer (some ⟨b, 0, none⟩), .pointer (some ⟨wb, 0, none⟩)] w1 fun e w' => e = .returned (.tuple #[]) ∧ CStep w1 b wb lv (.slice none 0 0) (.slice none 0 0) w' D2 W2) :
    Calls Try.prog 30 #[.pointer (some ⟨b, 0, none⟩)] w fun e w' => ∃ v, e = .returned v ∧ CRet w b lv v w' D2 W2 := by
  have H := hid h
  obtain ⟨w1, hw1⟩ : ∃ w1, w1 = (w.alloc wd0).alloc wd0 := ⟨_, rfl⟩
  have B1 : Hid (Below w.heap.size w w1) := hid (by rw [hw1]; exact ((Below.refl _ _).alloc (Nat.le_refl _) _).alloc (by simp) _)
  have hR : w1.heap[w.heap.size]? = some wd0 := by rw [hw1]; exact heap_alloc2_old _ _ _
  have hWb : w1.heap[w.heap.size + 1]? = some wd0 := by rw [hw1]; exact heap_alloc2_new _ _ _
  have hsz1 : w1.heap.size = w.heap.size + 2 := by rw [hw1]; simp
  have HW1 := hid hw1
  unfold wd0 at HW1
  clear hw1
  have HSD := hid hsd
  have HI := hid (show CoI { D with clock := D.clock + 1 } from ⟨hi.lo, hi.hi, hi.len⟩)
  have HMS := hid (fun k (Y : World) (hY : Co Y 0 b lv { D with clock := D.clock + 1 }) => mayStand_yes b lv { D with clock := D.clock + 1 } n (Y.drewN k) (hY.below (belowN _ _)) HI.out hn ht hs0 (by show D.self ≤ 255; omega) (by rw [vUp_eq (D := D) (D' := { D with clock := D.clock + 1 }) rfl rfl n]; exact hy) htm)
  clear h hi hsd ht hy
  go_enter Try.func30, Try.ntmps30
  go_upto_region 2 with fail
  rw [← HW1.out]
  obtain ⟨R, hRe⟩ : ∃ R, R = w.heap.size := ⟨_, rfl⟩
  obtain ⟨wb, hwbe⟩ : ∃ wb, wb = w.heap.size + 1 := ⟨_, rfl⟩
  have HPL : Hid (w.heap.size ≤ R ∧ w.heap.size ≤ wb ∧ R ≠ wb ∧ w1.heap.size = wb + 1 ∧ R < w1.heap.size) := hid ⟨by omega, by omega, by omega, by omega, by omega⟩
  rw [← hwbe] at hWb
  rw [← hRe] at hR
  rw [← hwbe, ← hRe]
  clear HW1 hRe hwbe hsz1
  have HR := hid hR
  have K1 := hid (wd_new hWb)
  clear hR hWb
  have C1 := hid (CK.refl (H.out.below B1.out) K1.out)
  have C2 := hid (C1.out.set (D' := { D with clock := D.clock + 1 }) 11 (.int .i64 (D.clock + 1)) rfl rfl)
  have c11 : w1.cell? ⟨b, 11, none⟩ = some (.int .i64 D.clock) := C1.out.co.cell 11
  have f11 := C1.out.co.fz 11
  have hwc : IntKind.i64.wrap (D.clock + 1) = D.clock + 1 := IntWalk.i64_in _ ⟨by omega, by omega⟩
  go_upto_region 5 with fail
  clear c11 f11
  obtain ⟨w2, hw2⟩ : ∃ w2, w2 = w1.setCell ⟨b, 11, none⟩ (.int .i64 (D.clock + 1)) := ⟨_, rfl⟩
  rw [← hw2] at C2
  rw [← hw2]
  clear hw2
  have c8 : w2.cell? ⟨b, 8, none⟩ = some (.int .i64 D.role) := C2.out.co.cell 8
  have c11 : w2.cell? ⟨b, 11, none⟩ = some (.int .i64 (D.clock + 1)) := C2.out.co.cell 11
  have c0 : w2.cell? ⟨b, 0, none⟩ = some (.int .i64 D.self) := C2.out.co.cell 0
  have hm3 : IntKind.i64.wrap (3 * D.self) = 3 * D.self := IntWalk.i64_in _ ⟨by omega, by omega⟩
  have hm10 : IntKind.i64.wrap (10 + 3 * D.self) = 10 + 3 * D.self := IntWalk.i64_in _ ⟨by omega, by omega⟩
  rcases hr with e0 | e0
  all_goals
    rw [e0] at c8
    clear e0
    go_wp2_with fail
    go_quiet (first | (go_at_call 72; exact Calls.quiet_of (HMS.out _ _ C2.out.co)))
    have C3 := hid (C2.out.below (belowN w2 nq))
    have hR3 : (w2.drewN nq).heap[R]? = some wd0 := (C3.out.bt.block R HPL.out.2.2.2.2 (by
      rintro (e | e)
      · have := C1.out.co.head; rw [← e, HR.out] at this; cases this
      · exact HPL.out.2.2.1 e)).trans HR.out
    have R3 := hid hR3
    clear hR3 c8 c11 c0
    go_upto_region 14 with (go_at_call 73; refine (HSD.out _ _ C3.out.co C3.out.wd).mono ?_; rintro e w4 ⟨rfl, hst⟩; have ST := hid hst; clear hst)
    obtain ⟨lv4, ms4, ns4, hc4, hd4, hb4, n1, n2, n3⟩ := ST.out
    have hwb4 := hd4.head
    have hR4 : w4.heap[R]? = some wd0 := (hb4.block R (lt_of_block R3.out) (by
      rintro (e | e | e | e | e)
      · have := C1.out.co.head; rw [← e, HR.out] at this; cases this
      · exact HPL.out.2.2.1 e
      · exact own_ne C3.out.co.log R3.out (by decide) e
      · cases e
      · cases e)).trans R3.out
    obtain ⟨ma4, mc4, rfl⟩ := own_shape hd4.mails
    obtain ⟨na4, nc4, rfl⟩ := own_shape hd4.news
    have HF := hid (And.intro hc4 (And.intro hd4 (And.intro hb4 (And.intro n1 (And.intro n2 n3)))))
    clear hc4 hd4 hb4 n1 n2 n3
    go_wp2_with (first | (refine wpl_loadW rfl _ rfl wb rfl _ _ _ _ _ hwb4 ?_) | (refine wpl_storeW rfl _ _ rfl R _ _ _ rfl rfl rfl rfl rfl _ _ _ _ hR4 ?_))
    (try simp only [Exit.inBlock, Exit.then])
    refine bodyPost_ret (results_word rfl _ _ R _ _ _ _ _ rfl (setRow_heap _ _ _ _ _ _ hR4)) rfl ?_
    obtain ⟨hc4, hd4, hb4, n1, n2, n3⟩ := HF.out
    refine ⟨_, rfl, CRet.of B1.out HPL.out.1 HPL.out.2.1 hR4 hc4 hd4 ?_ ((Nw.refl w1 lv).trans n1 C3.out.bt.size) ((Nw.refl w1 _).trans n2 C3.out.bt.size) ((Nw.refl w1 _).trans n3 C3.out.bt.size) _⟩
    have hx := C3.out.bt
    exact Bt.trans ⟨hx.os, hx.tape, hx.output, hx.size, fun q hq hn => hx.block q hq fun e => hn (e.elim .inl (fun e => .inr (.inl e)))⟩ hb4 (fun q hq => .inl hq)
end Go.Proofs.Ytjimneaimnjanaa
