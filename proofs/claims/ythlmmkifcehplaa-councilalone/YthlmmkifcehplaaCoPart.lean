/- part: a copy of some entries; rebase, where the log has the new base as its own; Compact. -/
import Derived.Test.YthlmmkifcehplaaCoEx
namespace Go.Proofs.Ythlmmkifcehplaa
open Go.RowKit
set_option linter.unusedVariables false
set_option linter.unusedSimpArgs false

/-- 'append(s, x...)' where x lies anywhere. -/
theorem wpl_appA {T E : TypeId} {z : Value} {sz bytes : Nat} (R : RowT T E z sz bytes) {ops : Array Oper} {rest : List Oper} {o : Oper} {a : Act} {w : World} {Q : Exit → Act → World → Prop} (hgd : o.guard = none) (s x : Operand)
    (ho : o.op = .call { callee := .builtin .append, args := #[s, x], argTypes := #[T, T] })
    (base : Nat) (v : Value) (n : Nat) (xs : List Value) (hs : a.eval s = v) (hown : w.ownsRow base E sz v n xs)
    (ad : Addr) (m cap : Nat) (ys : List Value) (hx : a.eval x = .slice (some ad) m cap) (hl : ys.length = m * sz) (hys : ∀ j u, ys[j]? = some u → w.cell? (ad.add j) = some u) (hone : ∀ u ∈ ys, u.oneCell' = true)
    (hn : n + m ≤ 1000000) (hbase : base ≤ w.heap.size)
    (h : ∀ va vc w', w'.ownsRow base E sz (.slice va (n + m) vc) (n + m) (xs ++ ys) → w.grownBy w' v.ownBlock → wpList Try.prog ops Q rest (a.put o.dst (.slice va (n + m) vc)) w') :
    wpList Try.prog ops Q (o :: rest) a w := by
  refine wpList_plain hgd fun _ hK => ?_
  obtain ⟨i, hi, hz0, hz1, hz2⟩ := info_parts R.i
  have hb := R.b
  have hb2 : (n + m) * bytes ≤ 1000000 * 1000 := Nat.mul_le_mul hn hb
  obtain ⟨v', w', hr, h2, h3, h4, h5⟩ := run_append_own_at (P := Try.prog) w base T o.type E i z sz bytes R.u hi hz0 hz1 hz2 R.z R.p v n xs hown ad m cap ys hl hys hone (by unfold maxLen; omega) (by omega) hbase
  obtain ⟨va, vc, rfl⟩ := own_shape h2
  unfold Oper.wp execOp
  simp only [ho, resolve, invoke, builtin, Sem.run_bind, Sem.run_pure, Result.andThen_ok, List.map_toArray, List.map_cons, List.map_nil, hs, hx, hr]
  exact hK _ _ (h va vc w' h2 h3)
theorem evs_drop (l : List En) (p : Nat) : (evs l).drop (p * 3) = evs (l.drop p) := by
  induction p generalizing l with
  | zero => simp
  | succ p ih =>
    cases l with
    | nil => simp [evs]
    | cons x l =>
      have e : evs (x :: l) = .int .i64 x.term :: .int .i64 x.kind :: .string x.text :: evs l := by simp [evs]
      rw [e, show (p + 1) * 3 = p * 3 + 1 + 1 + 1 by omega]
      simpa using ih l
theorem evs_one (l : List En) : ∀ u ∈ evs l, u.oneCell' = true := by
  intro u hu
  simp only [evs, List.mem_flatMap] at hu
  obtain ⟨e, -, he⟩ := hu
  simp at he
  rcases he with rfl | rfl | rfl <;> rfl
theorem Co.cap {w : World} {base b : Nat} {g n cap : Nat} {D : CoD} (h : Co w base b (.slice (some ⟨g, 0, none⟩) n cap) D) : D.log.length ≤ cap ∧ n = D.log.length := by
  obtain ⟨h1, h2⟩ := h.log
  rcases h2 with ⟨h, h0⟩ | ⟨g', cap', cur, h, h3, h4, h5, h6⟩
  · cases h
  · cases h; exact ⟨h5, rfl⟩
theorem Try.elemEn : Try.prog.elem 53 = 67 := by kernel_rfl
theorem Try.sizeEn (w : World) : (sizeOf 67).run Try.prog w = .ok 3 w := by kernel_rfl
theorem Try.elemEn' : Try.prog.underlying 53 = some (.slice (Try.prog.elem 53)) := by kernel_rfl
set_option maxRecDepth 100000 in
set_option maxHeartbeats 1600000 in
/-- All entries from one on. -/
theorem part_all (base b : Nat) (lv : Value) (D : CoD) (p q : Nat) (w : World) (h : Co w base b lv D) (hi : CoI D) (hl : 0 < D.log.length) (hl9 : D.log.length ≤ 999999) (hp : p ≤ D.log.length) (hq : q ≤ 1000000) (hpq : (D.log.length : Int) < (p : Int) + (q : Int)) :
    Calls Try.prog 86 #[.pointer (some ⟨b, 0, none⟩), .int .i64 (D.bi + (p : Int) + 1), .int .i64 (q : Int)] w fun e w' => ∃ v, e = .returned v ∧ Below w.heap.size w w' ∧ w'.ownsRow w.heap.size 67 3 v (D.log.drop p).length (evs (D.log.drop p)) := by
  obtain ⟨g, cap, rfl⟩ := h.addr hl
  have hcap := h.cap
  have hlo := hi.lo
  have hhi := hi.hi
  have H := hid h
  have HP := hid ((place_any base b _ D (D.bi + (p : Int) + 1) w h hi (by omega) (by omega)).mono (fun e w' ⟨he, hw⟩ => show e = Ending.returned (.int .i64 (p : Int)) ∧ w' = w from ⟨by rw [he]; congr 2; omega, hw⟩))
  have c7 : w.cell? ⟨b, 7, none⟩ = some (.slice (some ⟨g, 0, none⟩) D.log.length cap) := h.cell 7
  have hwp : IntKind.i64.wrap ((p : Int) + (q : Int)) = (p : Int) + (q : Int) := IntWalk.i64_in _ ⟨by omega, by omega⟩
  have HL : Hid ((D.log.drop p).length = D.log.length - p) := hid (by simp)
  have hc1 : (D.log.length : Int) ≤ (cap : Int) := by omega
  have hc2 : (p : Int) ≤ (D.log.length : Int) := by omega
  by_cases hpe : D.log.length = p
  · have HE : Hid (D.log.drop p = []) := hid (by rw [← hpe]; simp)
    have HLE : Hid (([] : List Value).length = 0 * 3) := hid rfl
    have HY : Hid (∀ i u, ([] : List Value)[i]? = some u → w.cell? ((⟨g, 0, none⟩ : Addr).add i) = some u) := hid fun i u hu => by simp at hu
    have HON : Hid (∀ u ∈ ([] : List Value), u.oneCell' = true) := hid (by simp)
    rw [HE.out]
    clear h hi
    go_enter Try.func86, Try.ntmps86
    go_wp2_with (first | (go_at_call 78; refine HP.out.mono ?_; rintro e w2 ⟨rfl, hw2⟩; replace hw2 := hw2.symm; subst hw2) | (at_builtin; refine wpl_appA rowEn rfl _ _ rfl w.heap.size (.slice none 0 0) 0 [] rfl (World.ownsRow_nil _ _ _ _) ⟨g, 0, none⟩ 0 0 [] rfl HLE.out HY.out HON.out (by omega) (Nat.le_refl _) ?_; intro va2 vc2 w2 ho2 hg2; have O2 := hid ho2; have B2 : Hid (Below w.heap.size w w2) := hid ((Below.refl _ _).grown hg2 (Nat.le_refl _) (fun k hk => by cases hk)); clear ho2 hg2))
    go_ret
    exact ⟨_, rfl, B2.out, by simpa [evs] using O2.out⟩
  · have HY : Hid (∀ i u, (evs (D.log.drop p))[i]? = some u → w.cell? ((⟨g, p * 3, none⟩ : Addr).add i) = some u) := hid fun i u hu => by
      rw [Addr.add_lit]
      have hu2 : (evs D.log)[p * 3 + i]? = some u := by rw [← hu, ← List.getElem?_drop, evs_drop]
      have := H.out.log.cells (g := g) rfl _ _ hu2
      rw [Addr.add_lit, Nat.zero_add] at this
      exact this
    have HLE : Hid ((evs (D.log.drop p)).length = (D.log.length - p) * 3) := hid (by rw [evs_len, HL.out])
    have HON := hid (evs_one (D.log.drop p))
    rw [HL.out]
    generalize evs (D.log.drop p) = ys at HY HLE HON ⊢
    clear h hi
    go_enter Try.func86, Try.ntmps86
    go_wp2_with (first | (go_at_call 78; refine HP.out.mono ?_; rintro e w2 ⟨rfl, hw2⟩; replace hw2 := hw2.symm; subst hw2) | (at_builtin; refine wpl_appA rowEn rfl _ _ rfl w.heap.size (.slice none 0 0) 0 [] rfl (World.ownsRow_nil _ _ _ _) ⟨g, p * 3, none⟩ (D.log.length - p) (D.log.length - p) ys rfl HLE.out HY.out HON.out (by omega) (Nat.le_refl _) ?_; intro va2 vc2 w2 ho2 hg2; have O2 := hid ho2; have B2 : Hid (Below w.heap.size w w2) := hid ((Below.refl _ _).grown hg2 (Nat.le_refl _) (fun k hk => by cases hk)); clear ho2 hg2))
    go_ret
    exact ⟨_, rfl, B2.out, by simpa using O2.out⟩
/-- The base is up to the n-th entry. -/
def rebD (D : CoD) (n : Nat) (vt tx : ByteArray) : CoD := { D with bi := D.bi + n, bt := tUp D n, bv := vt, bx := tx, log := D.log.drop n }
theorem Try.sizeBase : (Try.prog.info? 83).map (·.size) = some 4 := by kernel_rfl
theorem Try.structBase0 : (Try.prog.underlying 83).map (fun d => match d with | .struct _ | .array _ _ => true | _ => false) = some true := by kernel_rfl
theorem Try.structBase : ∃ d, Try.prog.underlying 83 = some d ∧ (match d with | .struct _ | .array _ _ => true | _ => false) = true := by
  have h := Try.structBase0
  cases hd : Try.prog.underlying 83 with
  | none => rw [hd] at h; cases h
  | some d => rw [hd] at h; exact ⟨d, rfl, by simpa using h⟩
theorem wpl_loadB {ops : Array Oper} {rest : List Oper} {o : Oper} {a : Act} {w : World} {Q : Exit → Act → World → Prop} (hgd : o.guard = none) (x : Operand) (ho : o.op = .load 83 x)
    (g : Nat) (hx : a.eval x = .pointer (some ⟨g, 0, none⟩)) (t : TypeId) (u0 u1 u2 u3 : Value) (fr : Nat × Nat) (hg : w.heap[g]? = some (.cells #[u0, u1, u2, u3] t fr))
    (h : wpList Try.prog ops Q rest (a.put o.dst (.agg #[u0, u1, u2, u3])) w) : wpList Try.prog ops Q (o :: rest) a w := by
  obtain ⟨d, hd1, hd2⟩ := Try.structBase
  exact wpList_load_row hgd _ x ho g hx t _ fr d hg hd1 (by cases d <;> first | rfl | (simp at hd2)) Try.sizeBase h
theorem Co.thereB {w : World} {base b : Nat} {lv : Value} {D : CoD} (h : Co w base b lv D) : w.there b 3 4 := fun j hj => ⟨by
  rw [h.cell]
  match j, hj with
  | 0, _ => rfl
  | 1, _ => rfl
  | 2, _ => rfl
  | 3, _ => rfl, h.fz _⟩
set_option maxRecDepth 100000 in
set_option maxHeartbeats 4000000 in
theorem rebase_keep (b : Nat) (lv : Value) (D : CoD) (n : Nat) (vt tx : ByteArray) (w : World) (h : Co w 0 b lv D) (hi : CoI D) (hl : 0 < D.log.length) (hl9 : D.log.length ≤ 999999) (hn : n ≤ D.log.length) (hn0 : 0 < n) :
    Calls Try.prog 43 #[.pointer (some ⟨b, 0, none⟩), .agg #[.int .i64 (D.bi + n), .int .i64 (tUp D n), .string vt, .string tx]] w fun e w' => e = .returned (.tuple #[]) ∧ ∃ lv', Co w' 0 b lv' (rebD D n vt tx) ∧ Bt (fun q => q = b) w w' ∧ (∀ q, lv'.ownBlock = some q → w.heap.size ≤ q) := by
  obtain ⟨va, vc, rfl⟩ := h.shape
  have H := hid h
  have HI := hid hi
  have hlo := hi.lo
  have hhi := hi.hi
  obtain ⟨w1, hw1⟩ : ∃ w1, w1 = w.alloc (.cells #[.int .i64 (D.bi + n), .int .i64 (tUp D n), .string vt, .string tx] 83) := ⟨_, rfl⟩
  have B1 : Hid (Below w.heap.size w w1) := hid (by rw [hw1]; exact (Below.refl _ _).alloc (Nat.le_refl _) _)
  have hA : w1.heap[w.heap.size]? = some (.cells #[.int .i64 (D.bi + n), .int .i64 (tUp D n), .string vt, .string tx] 83 (0, 0)) := by rw [hw1]; exact heap_alloc_new _ _
  have HW1 := hid hw1
  clear h hi hw1
  have hle : D.bi + (n : Int) ≤ D.bi + (D.log.length : Int) := by omega
  have hwn : IntKind.i64.wrap (D.bi + (n : Int) + 1) = D.bi + (n : Int) + 1 := IntWalk.i64_in _ ⟨by omega, by omega⟩
  go_enter Try.func43, Try.ntmps43
  go_upto_region 1 with fail
  rw [← HW1.out]
  obtain ⟨A, hAe⟩ : ∃ A, A = w.heap.size := ⟨_, rfl⟩
  rw [← hAe] at hA
  rw [← hAe]
  have HAE : Hid (w.heap.size ≤ A ∧ A < w1.heap.size) := hid ⟨by omega, lt_of_block hA⟩
  clear hAe HW1
  have HA := hid hA
  have a0 : w1.cell? ⟨A, 0, none⟩ = some (.int .i64 (D.bi + n)) := by rw [cell_of_row _ _ _ _ _ _ hA]; rfl
  have a1 : w1.cell? ⟨A, 1, none⟩ = some (.int .i64 (tUp D n)) := by rw [cell_of_row _ _ _ _ _ _ hA]; rfl
  have H1 := hid (H.out.below B1.out)
  clear hA
  go_wp2_with fail
  go_quiet (first | (go_at_call 17; first | exact Calls.quiet_of (last_any 0 b _ D _ H1.out HI.out) | exact Calls.quiet_of (last_any 0 b _ D _ (H1.out.below (belowN _ _)) HI.out)) | (go_at_call 44; first | exact Calls.quiet_of (termAt_any 0 b _ D n _ H1.out HI.out hn) | exact Calls.quiet_of (termAt_any 0 b _ D n _ (H1.out.below (belowN _ _)) HI.out hn)))
  obtain ⟨w2, hw2⟩ : ∃ w2, w2 = w1.drewN nq := ⟨_, rfl⟩
  have b2 : Below w1.heap.size w1 w2 := by rw [hw2]; exact belowN w1 nq
  rw [← hw2]
  clear hw2
  have H2 := hid (H1.out.below b2)
  have A2 := hid ((b2.block A (lt_of_block HA.out)).trans HA.out)
  have B2 := hid (B1.out.trans (b2.mono B1.out.size))
  have HS2 : Hid (A < w2.heap.size) := hid (lt_of_block A2.out)
  clear b2 a0 a1 H1 HA
  have HPA := hid (fun Y (hY : Co Y 0 b (.slice va D.log.length vc) D) => part_all 0 b _ D n D.log.length Y hY HI.out hl hl9 hn (by omega) (by omega))
  have a0 : w2.drew.cell? ⟨A, 0, none⟩ = some (.int .i64 (D.bi + n)) := by show w2.cell? _ = _; rw [cell_of_row _ _ _ _ _ _ A2.out]; rfl
  have c7 : w2.drew.cell? ⟨b, 7, none⟩ = some (.slice va D.log.length vc) := H2.out.cell 7
  have hHeld0 : w2.cell? ⟨A, 0, none⟩ = some (.int .i64 (D.bi + n)) ∧ w2.cell? ⟨b, 7, none⟩ = some (.slice va D.log.length vc) := ⟨a0, c7⟩
  go_wp2_with fail
  refine wp_region_held_drew (S := fun Y => Y.cell? ⟨A, 0, none⟩ = some (.int .i64 (D.bi + n)) ∧ Y.cell? ⟨b, 7, none⟩ = some (.slice va D.log.length vc)) (by kernel_rfl) ⟨a0, c7⟩ (fun hHeld => ?_)
  refine wpAnyH_take (i := 0) (v := ?av0) rfl (by kernel_rfl) (by kernel_rfl) (by kernel_rfl) (fun _ _ _ h => h) (Or.inl ⟨by rfl, ?ay0⟩) (by assumption) ?ar0
  case ay0 => (intro w hSw; (try dsimp only at hSw); go_simp; try with_reducible rfl)
  (try simp only [Act.put, List.setIfInBounds_toArray, List.set_cons_zero, List.set_cons_succ, List.getElem_toArray, List.getElem_cons_succ, List.getElem_cons_zero])
  refine wpAnyH_take (i := 1) (v := ?av1) rfl (by kernel_rfl) (by kernel_rfl) (by kernel_rfl) (fun _ _ _ h => h) (Or.inl ⟨by rfl, ?ay1⟩) (by assumption) ?ar1
  case ay1 => (intro w hSw; (try dsimp only at hSw); go_simp; try with_reducible rfl)
  (try simp only [Act.put, List.setIfInBounds_toArray, List.set_cons_zero, List.set_cons_succ, List.getElem_toArray, List.getElem_cons_succ, List.getElem_cons_zero])
  refine wpAnyH_take (i := 2) (v := ?av2) rfl (by kernel_rfl) (by kernel_rfl) (by kernel_rfl) (fun _ _ _ h => h) (Or.inl ⟨by rfl, ?ay2⟩) (by assumption) ?ar2
  case ay2 => (intro w hSw; (try dsimp only at hSw); go_simp; try with_reducible rfl)
  (try simp only [Act.put, List.setIfInBounds_toArray, List.set_cons_zero, List.set_cons_succ, List.getElem_toArray, List.getElem_cons_succ, List.getElem_cons_zero])
  refine wpAnyH_take (i := 3) (v := ?av3) rfl (by kernel_rfl) (by kernel_rfl) (by kernel_rfl) (fun _ _ _ h => h) (Or.inl ⟨by rfl, ?ay3⟩) (by assumption) ?ar3
  case ay3 => (intro w hSw; (try dsimp only at hSw); go_simp; try with_reducible rfl)
  (try simp only [Act.put, List.setIfInBounds_toArray, List.set_cons_zero, List.set_cons_succ, List.getElem_toArray, List.getElem_cons_succ, List.getElem_cons_zero])
  refine wpAnyH_take (i := 4) (v := ?av4) rfl (by kernel_rfl) (by kernel_rfl) (by kernel_rfl) (fun _ _ _ h => h) (Or.inl ⟨by rfl, ?ay4⟩) (by assumption) ?ar4
  case ay4 => (intro w hSw; (try dsimp only at hSw); go_simp; try with_reducible rfl)
  (try simp only [Act.put, List.setIfInBounds_toArray, List.set_cons_zero, List.set_cons_succ, List.getElem_toArray, List.getElem_cons_succ, List.getElem_cons_zero])
  refine wpAnyH_take (i := 5) (v := ?av5) rfl (by kernel_rfl) (by kernel_rfl) (by kernel_rfl) (fun _ _ _ h => h) (Or.inl ⟨by rfl, ?ay5⟩) (by assumption) ?ar5
  case ay5 => (intro w hSw; (try dsimp only at hSw); go_simp; try with_reducible rfl)
  (try simp only [Act.put, List.setIfInBounds_toArray, List.set_cons_zero, List.set_cons_succ, List.getElem_toArray, List.getElem_cons_succ, List.getElem_cons_zero])
  refine wpAnyH_take (i := 6) (v := ?av6) rfl (by kernel_rfl) (by kernel_rfl) (by kernel_rfl) (fun _ _ _ h => h) (Or.inl ⟨by rfl, ?ay6⟩) (by assumption) ?ar6
  case ay6 => (intro w hSw; (try dsimp only at hSw); go_simp; try with_reducible rfl)
  (try simp only [Act.put, List.setIfInBounds_toArray, List.set_cons_zero, List.set_cons_succ, List.getElem_toArray, List.getElem_cons_succ, List.getElem_cons_zero])
  refine wpAnyH_take (i := 7) (v := ?av7) rfl (by kernel_rfl) (by kernel_rfl) (by kernel_rfl) (fun _ _ _ h => h) (Or.inl ⟨by rfl, ?ay7⟩) (by assumption) ?ar7
  case ay7 => (intro w hSw; (try dsimp only at hSw); go_simp; try with_reducible rfl)
  (try simp only [Act.put, List.setIfInBounds_toArray, List.set_cons_zero, List.set_cons_succ, List.getElem_toArray, List.getElem_cons_succ, List.getElem_cons_zero])
  refine wpAnyH_take (i := 8) (v := ?av8) rfl (by kernel_rfl) (by kernel_rfl) (by kernel_rfl) (fun _ _ _ h => h) (Or.inl ⟨by rfl, ?ay8⟩) (by assumption) ?ar8
  case ay8 => (intro w hSw; (try dsimp only at hSw); go_simp; try with_reducible rfl)
  (try simp only [Act.put, List.setIfInBounds_toArray, List.set_cons_zero, List.set_cons_succ, List.getElem_toArray, List.getElem_cons_succ, List.getElem_cons_zero])
  refine wpAnyH_ready (rs := [9]) (by kernel_rfl) (by simp) ?_
  refine AllReadyH.cons rfl (fun K hK => ?_) AllReadyH.nil
  rw [if_pos (by rfl)]
  go_simp
  refine (HPA.out _ (H2.out.below ((Below.refl _ _).drew))).mono ?_
  rintro e w3 ⟨v3, rfl, hb3, ho3⟩
  have B3 : Hid (Below w2.heap.size w2 w3) := hid (((Below.refl w2.heap.size w2).drew).trans hb3)
  have O3 : Hid (w3.ownsRow w2.heap.size 67 3 v3 (D.log.drop n).length (evs (D.log.drop n))) := hid ho3
  clear hb3 ho3
  refine hK.out _ _ ⟨cell_later B3.out hHeld0.1, cell_later B3.out hHeld0.2⟩ (fun hHeld => ?_)
  try clear hK K
  (try simp only [Act.put, List.setIfInBounds_toArray, List.set_cons_zero, List.set_cons_succ, List.getElem_toArray, List.getElem_cons_succ, List.getElem_cons_zero])
  refine wpAnyH_take (i := 10) (v := ?av10) rfl (by kernel_rfl) (by kernel_rfl) (by kernel_rfl) (fun _ _ _ h => h) (Or.inl ⟨by rfl, ?ay10⟩) (by assumption) ?ar10
  case ay10 => (intro w hSw; (try dsimp only at hSw); go_simp; try with_reducible rfl)
  (try simp only [Act.put, List.setIfInBounds_toArray, List.set_cons_zero, List.set_cons_succ, List.getElem_toArray, List.getElem_cons_succ, List.getElem_cons_zero])
  refine wpAnyH_done (by kernel_rfl) ?_ _
  obtain ⟨v3a, v3c, rfl⟩ := own_shape O3.out
  have hA3 := (B3.out.block A HS2.out).trans A2.out
  have C3 := hid (H2.out.below B3.out)
  have B03 := hid (B2.out.trans (B3.out.mono B2.out.size))
  clear a0 c7 hHeld0 hHeld
  have hth : w3.there b 3 (#[.int .i64 (D.bi + n), .int .i64 (tUp D n), .string vt, .string tx] : Array Value).size := C3.out.thereB
  have hsz : (Try.prog.info? 83).map (·.size) = some (#[.int .i64 (D.bi + n), .int .i64 (tUp D n), .string vt, .string tx] : Array Value).size := Try.sizeBase
  have hon : (#[.int .i64 (D.bi + n), .int .i64 (tUp D n), .string vt, .string tx] : Array Value).all (·.oneCell') = true := by simp [Value.oneCell']
  have HST := hid (fun (ops : Array Oper) rest op a Q hgd x y ho hx hy => wpList_store_mid (P := Try.prog) (ops := ops) (rest := rest) (op := op) (a := a) (Q := Q) hgd 83 x y ho b 3 _ hx hy hth hsz hon)
  clear hth hsz hon
  have hb4 : (w3.setCells b 3 [.int .i64 (D.bi + n), .int .i64 (tUp D n), .string vt, .string tx]).heap[b]? = some (.cells (coC { D with bi := D.bi + n, bt := tUp D n, bv := vt, bx := tx } (.slice va D.log.length vc)) 87 (0, 0)) := heap_setCell_same _ _ _ _ _ _ (heap_setCell_same _ _ _ _ _ _ (heap_setCell_same _ _ _ _ _ _ (heap_setCell_same _ _ _ _ _ _ C3.out.head)))
  have bt4 : Bt (fun q => q = b) w (w3.setCells b 3 [.int .i64 (D.bi + n), .int .i64 (tUp D n), .string vt, .string tx]) := Bt.set (Bt.set (Bt.set (Bt.set (R := fun q => q = b) (Bt.of_below B03.out) (.inl rfl)) (.inl rfl)) (.inl rfl)) (.inl rfl)
  have o4 : (w3.setCells b 3 [.int .i64 (D.bi + n), .int .i64 (tUp D n), .string vt, .string tx]).ownsRow 0 67 3 (.slice v3a (D.log.drop n).length v3c) (D.log.drop n).length (evs (D.log.drop n)) :=
    own_set (own_set (own_set (own_set (own_lower O3.out (Nat.zero_le _)) C3.out.head (by decide)) (heap_setCell_same _ _ _ _ _ _ C3.out.head) (by decide)) (heap_setCell_same _ _ _ _ _ _ (heap_setCell_same _ _ _ _ _ _ C3.out.head)) (by decide)) (heap_setCell_same _ _ _ _ _ _ (heap_setCell_same _ _ _ _ _ _ (heap_setCell_same _ _ _ _ _ _ C3.out.head))) (by decide)
  obtain ⟨w4, hw4⟩ : ∃ w4, w4 = w3.setCells b 3 [.int .i64 (D.bi + n), .int .i64 (tUp D n), .string vt, .string tx] := ⟨_, rfl⟩
  rw [← hw4] at hb4 bt4 o4 HST
  have HB4 := hid hb4
  have BT4 := hid bt4
  have O4 := hid o4
  have c74 : w4.cell? ⟨b, 7, none⟩ = some (.slice va D.log.length vc) := by rw [cell_of_row _ _ _ _ _ _ hb4]; rfl
  have f74 : w4.frozen? ⟨b, 7, none⟩ = false := by simp [World.frozen?, hb4]
  clear hb4 bt4 o4 hw4
  go_wp2_with (first | (refine wpl_loadB rfl _ rfl A rfl _ _ _ _ _ _ hA3 ?_) | (refine HST.out _ _ _ _ _ rfl _ _ rfl rfl rfl ?_))
  first | go_end0 | refine bodyPost_ret (results_none rfl _ _ _) rfl ?_
  have hld : (D.log.drop n).length = D.log.length - n := by simp
  refine ⟨rfl, .slice v3a (D.log.length - n) v3c, ⟨heap_setCell_same _ _ _ _ _ _ HB4.out, ?_⟩, Bt.set BT4.out (.inl rfl), fun q hq => ?_⟩
  · have := own_set (u := .slice v3a (D.log.length - n) v3c) (i := 7) O4.out HB4.out (by decide)
    rw [hld] at this
    show World.ownsRow _ 0 _ 3 _ (D.log.drop n).length (evs (D.log.drop n))
    rw [hld]
    exact this
  · rw [← hld] at hq
    have := (World.ownsRow.lt O3.out q hq).1
    exact Nat.le_trans B2.out.size this
set_option maxRecDepth 100000 in
set_option maxHeartbeats 4000000 in
/-- Compact that is done. -/
theorem compact_ok (b : Nat) (lv : Value) (D : CoD) (n : Nat) (tx : ByteArray) (w : World) (h : Co w 0 b lv D) (hi : CoI D) (hl : 0 < D.log.length) (hl9 : D.log.length ≤ 999999) (hn : n ≤ D.log.length) (hn0 : 0 < n) (ht : D.bi + (n : Int) ≤ D.told) (hm : D.bi + (n : Int) ≤ 1099511627776) (hx : (tx.size : Int) ≤ 1048576) :
    Calls Try.prog 14 #[.pointer (some ⟨b, 0, none⟩), .int .i64 (D.bi + (n : Int)), .string tx] w fun e w' => ∃ v, e = .returned (.tuple #[v, .int .i64 0]) ∧ CRet w b lv v w' (rebD D n (vUp D n) tx) ⟨true, [], []⟩ := by
  have H := hid h
  have HI := hid hi
  have hu : Try.prog.underlying 9 = some .string := by kernel_rfl
  obtain ⟨w1, hw1⟩ : ∃ w1, w1 = w.alloc wd0 := ⟨_, rfl⟩
  have B1 : Hid (Below w.heap.size w w1) := hid (by rw [hw1]; exact (Below.refl _ _).alloc (Nat.le_refl _) _)
  have hR : w1.heap[w.heap.size]? = some wd0 := by rw [hw1]; exact heap_alloc_new _ _
  have HW1 := hid hw1
  unfold wd0 at HW1
  clear hw1
  have H1 := hid (h.below B1.out)
  have c3 : w1.cell? ⟨b, 3, none⟩ = some (.int .i64 D.bi) := H1.out.cell 3
  have c10 : w1.cell? ⟨b, 10, none⟩ = some (.int .i64 D.told) := H1.out.cell 10
  have hg1 : ¬ D.bi + (n : Int) ≤ D.bi := by omega
  have hg3 : ¬ (1048576 : Int) < (tx.size : Int) := by omega
  clear h hi
  go_enter Try.func14, Try.ntmps14
  go_upto_region 1 with fail
  rw [← HW1.out]
  obtain ⟨R, hRe⟩ : ∃ R, R = w.heap.size := ⟨_, rfl⟩
  have HPL : Hid (w.heap.size ≤ R) := hid (by omega)
  rw [← hRe] at hR
  rw [← hRe]
  clear HW1 hRe
  have HR := hid hR
  clear hR
  have HTA := hid (termAt_any 0 b lv D n w1 H1.out HI.out hn)
  have HVA := hid (fun k => votersAt_any 0 b lv D n (w1.drewN k) (H1.out.below (belowN _ _)) HI.out hn)
  have HRB := hid (fun k => rebase_keep b lv D n (vUp D n) tx (w1.drewN k) (H1.out.below (belowN _ _)) HI.out hl hl9 hn hn0)
  by_cases hmn : (1099511627776 : Int) < D.told
  all_goals
    have hg2 : ¬ D.told < D.bi + (n : Int) := by omega
    have hg2b : ¬ (1099511627776 : Int) < D.bi + (n : Int) := by omega
    go_upto_region 8 with (first | (go_at_call 44; refine HTA.out.mono ?_; rintro e w2 ⟨rfl, m2, rfl⟩) | (go_at_call 36; refine (HVA.out _).mono ?_; rintro e w3 ⟨rfl, hw3⟩; replace hw3 := hw3.symm; subst hw3) | (go_at_call 43; refine (HRB.out _).mono ?_; rintro e w4 ⟨rfl, lv4, hc4, hb4, hl4⟩; have C4 := hid hc4; have T4 := hid hb4; have L4 := hid hl4; clear hc4 hb4 hl4))
    have hR4 : w4.heap[R]? = some wd0 := (T4.out.block R (lt_of_block HR.out) (fun e => by have := H1.out.head; rw [← e, HR.out] at this; cases this)).trans HR.out
    go_wp2_with (refine wpl_storeW rfl _ _ rfl R (.bool true) (.slice none 0 0) (.slice none 0 0) rfl rfl rfl rfl rfl _ _ _ _ hR4 ?_)
    (try simp only [Exit.inBlock, Exit.then])
    refine bodyPost_ret (results_wordE rfl _ _ R _ _ _ _ _ rfl (setRow_heap _ _ _ _ _ _ hR4)) rfl ?_
    refine ⟨_, rfl, lv4, _, _, rfl, ⟨(setRow_other _ _ _ _ fun e => ?_).trans C4.out.head, own_row C4.out.log hR4 (by decide)⟩, World.ownsRow_nil _ _ _ _, World.ownsRow_nil _ _ _ _, ⟨T4.out.os.trans B1.out.os, T4.out.tape.trans B1.out.tape, T4.out.output.trans B1.out.output, by simpa using Nat.le_trans B1.out.size T4.out.size, fun q hq hn => ?_⟩, fun q hq => .inr (Nat.le_trans B1.out.size (L4.out q hq))⟩
    · have := C4.out.head; rw [e, hR4] at this; cases this
    · rw [setRow_other _ _ _ _ (by have := HPL.out; omega)]
      exact (T4.out.block q (Nat.lt_of_lt_of_le hq B1.out.size) (fun e => hn (.inl e))).trans (B1.out.block q hq)
theorem CRet.same {w w1 : World} {b R : Nat} {lv : Value} {D : CoD} {cs : Array Value} {fr : Nat × Nat} (hb : Below w.heap.size w w1) (hR : w.heap.size ≤ R) (hR1 : w1.heap[R]? = some (.cells cs 34 fr)) (hc : Co w1 0 b lv D) (cs' : Array Value) (kp : Bool) : CRet w b lv (.agg #[.bool kp, .slice none 0 0, .slice none 0 0]) (w1.setRow R cs') D ⟨kp, [], []⟩ := by
  refine ⟨lv, _, _, rfl, ⟨(setRow_other _ _ _ _ fun e => ?_).trans hc.head, own_row hc.log hR1 (by decide)⟩, World.ownsRow_nil _ _ _ _, World.ownsRow_nil _ _ _ _, ⟨hb.os, hb.tape, hb.output, by simpa using hb.size, fun q hq hn => ?_⟩, .refl _ _⟩
  · have := hc.head; rw [e, hR1] at this; cases this
  · rw [setRow_other _ _ _ _ (by omega)]
    exact hb.block q hq
set_option maxRecDepth 100000 in
set_option maxHeartbeats 4000000 in
/-- Compact of an index that isn't behind the base, or isn't told. -/
theorem compact_arg (b : Nat) (lv : Value) (D : CoD) (i : Int) (tx : ByteArray) (w : World) (h : Co w 0 b lv D) (hb : i ≤ D.bi ∨ D.told < i) :
    Calls Try.prog 14 #[.pointer (some ⟨b, 0, none⟩), .int .i64 i, .string tx] w fun e w' => ∃ v, e = .returned (.tuple #[v, .int .i64 1]) ∧ CRet w b lv v w' D ⟨false, [], []⟩ := by
  obtain ⟨w1, hw1⟩ : ∃ w1, w1 = w.alloc wd0 := ⟨_, rfl⟩
  have B1 : Hid (Below w.heap.size w w1) := hid (by rw [hw1]; exact (Below.refl _ _).alloc (Nat.le_refl _) _)
  have hR : w1.heap[w.heap.size]? = some wd0 := by rw [hw1]; exact heap_alloc_new _ _
  have HW1 := hid hw1
  unfold wd0 at HW1
  clear hw1
  have H1 := hid (h.below B1.out)
  have c3 : w1.cell? ⟨b, 3, none⟩ = some (.int .i64 D.bi) := H1.out.cell 3
  have c10 : w1.cell? ⟨b, 10, none⟩ = some (.int .i64 D.told) := H1.out.cell 10
  clear h
  go_enter Try.func14, Try.ntmps14
  go_upto_region 1 with fail
  rw [← HW1.out]
  obtain ⟨R, hRe⟩ : ∃ R, R = w.heap.size := ⟨_, rfl⟩
  have HPL : Hid (w.heap.size ≤ R) := hid (by omega)
  rw [← hRe] at hR
  rw [← hRe]
  clear HW1 hRe
  by_cases hg1 : i ≤ D.bi
  · clear hb
    go_wp2_with (refine wpl_storeW rfl _ _ rfl R (.bool false) (.slice none 0 0) (.slice none 0 0) rfl rfl rfl rfl rfl _ _ _ _ hR ?_)
    (try simp only [Exit.inBlock, Exit.then])
    refine bodyPost_ret (results_wordE rfl _ _ R _ _ _ _ _ rfl (setRow_heap _ _ _ _ _ _ hR)) rfl ?_
    exact ⟨_, rfl, CRet.same B1.out HPL.out hR H1.out _ _⟩
  · have hg2 : D.told < i := by omega
    clear hb
    by_cases hmn : (1099511627776 : Int) < D.told
    all_goals
      try have hg3 : (1099511627776 : Int) < i := by omega
      go_wp2_with (refine wpl_storeW rfl _ _ rfl R (.bool false) (.slice none 0 0) (.slice none 0 0) rfl rfl rfl rfl rfl _ _ _ _ hR ?_)
      (try simp only [Exit.inBlock, Exit.then])
      refine bodyPost_ret (results_wordE rfl _ _ R _ _ _ _ _ rfl (setRow_heap _ _ _ _ _ _ hR)) rfl ?_
      exact ⟨_, rfl, CRet.same B1.out HPL.out hR H1.out _ _⟩
end Go.Proofs.Ythlmmkifcehplaa
