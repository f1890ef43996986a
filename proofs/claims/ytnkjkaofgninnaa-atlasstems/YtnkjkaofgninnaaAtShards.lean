/- Shards of a map: all its shards, copied, rising by their blocks. Conditions: the map lies in memory. -/
import Derived.Test.YtnkjkaofgninnaaAtEach
import Derived.RangeFuncBound
import Derived.RangeFuncNested
namespace Go.Proofs.Ytnkjkaofgninnaa
open Go.RowKit Go.Maps Go.Shelf
set_option linter.unusedVariables false
set_option linter.unusedSimpArgs false

theorem ShM.keep {w w' : World} {S : ShD} {mv pv : Value} (h : ShM w S mv pv) (hk : ∀ (q : Nat) (cs : Array Value) (t : TypeId) (fr : Nat × Nat), w.heap[q]? = some (.cells cs t fr) → (t = 3 ∨ t = 52) → w'.heap[q]? = w.heap[q]?) : ShM w' S mv pv := by
  obtain ⟨L, h1, h2, h3⟩ := h.p
  exact ⟨own_kept h.m fun q cs _ hh => hk q cs _ _ hh (.inl rfl), L, h1, own_kept h2 fun q cs _ hh => hk q cs _ _ hh (.inr rfl), fun x hx => own_kept (h3 x hx) fun q cs _ hh => hk q cs _ _ hh (.inl rfl)⟩
theorem AtM.keep {w w' : World} {b wb mb n : Nat} {ov : Value} {D : DataW Value} {N : AtN} {W : List Pc} {X : List SX} (h : AtM w b wb mb n ov D N W X) (hk : ∀ (q : Nat) (cs : Array Value) (t : TypeId) (fr : Nat × Nat), w.heap[q]? = some (.cells cs t fr) → t ≠ 40 → t ≠ 46 → w'.heap[q]? = w.heap[q]?) (hm : w'.heap[mb]? = w.heap[mb]?) : AtM w' b wb mb n ov D N W X := by
  obtain ⟨va, vc, h1, h2⟩ := h.whr.at'
  obtain ⟨es, clock, m1, m2⟩ := h.own
  exact ⟨(hk _ _ _ _ h.box (by decide) (by decide)).trans h.box, own_kept h.opn fun q cs _ hh => hk q cs _ _ hh (by decide) (by decide), ⟨⟨va, vc, (hk _ _ _ _ h1 (by decide) (by decide)).trans h1, own_kept h2 fun q cs _ hh => hk q cs _ _ hh (by decide) (by decide)⟩, h.whr.can, h.whr.ints⟩, ⟨es, clock, hm.trans m1, m2⟩, h.sm, fun x hx => (h.mem x hx).keep fun q cs t fr hq ht => hk q cs t fr hq (by rcases ht with rfl | rfl <;> decide) (by rcases ht with rfl | rfl <;> decide)⟩
theorem AtM.lookX {w : World} {b wb mb n : Nat} {ov : Value} {D : DataW Value} {N : AtN} {W : List Pc} {X : List SX} (h : AtM w b wb mb n ov D N W X) (x : SX) (hx : x ∈ X) (hI : I64 x.s.id) (hd : ∀ y ∈ X, y.s.id = x.s.id → y = x) : (Instr.lookup 62 (.map (some mb)) (.int .i64 x.s.id) false).run Try.prog w = .ok (shV x.s x.mv x.pv) w := by
  rcases h.look x.s.id hI with ⟨y, hy, hyi, -, hl⟩ | ⟨hno, -⟩
  · rw [hd y hy hyi] at hl; exact hl w (Below.refl _ _)
  · exact absurd rfl (hno x hx)
theorem exec_lookF {f : Operand → Value} {o : Oper} {w : World} {t : TypeId} {m x : Operand} (hop : o.op = .lookup t m x false) {mv key r : Value} (hm : f m = mv) (hx : f x = key)
    (hrun : (Instr.lookup t mv key false).run Try.prog w = .ok r w) : (execOp f o).run Try.prog w = .ok (.value r) w := by
  simp [execOp, hop, hm, hx, hrun, Result.andThen]
/-- The shard that a piece tells of. -/
def fS (X : List SX) (p : Pc) : ShD := ((X.find? fun y => y.s.id == p.2.2).map (·.s)).getD zS
theorem fS_of (X : List SX) (x : SX) (hx : x ∈ X) (hd : ∀ y ∈ X, y.s.id = x.s.id → y = x) : fS X x.pc = x.s := by
  unfold fS
  cases hf : X.find? (fun y => y.s.id == x.pc.2.2) with
  | none =>
    have := List.find?_eq_none.1 hf x hx
    exact absurd (beq_self_eq_true _) this
  | some y =>
    have h1 := List.find?_some hf
    have h2 := List.mem_of_find?_eq_some hf
    have e : y.s.id = x.pc.2.2 := by simpa using h1
    rw [hd y h2 e]
    rfl
structure SI (w5 : World) (B3 : Nat) (X : List SX) (pre : List Pc) (W : World) : Prop where
  grown : w5.grownBy W (some B3)
  row : ∃ (Y : List SX) (va : Option Addr) (vc : Nat), Y.map (·.s) = pre.map (fS X) ∧ W.heap[B3]? = some (.cells #[.slice va Y.length vc] 40 (0, 0)) ∧ W.ownsRow w5.heap.size 46 5 (.slice va Y.length vc) Y.length (shvs Y) ∧ ∀ y ∈ Y, ShM W y.s y.mv y.pv
theorem SI.turned {w5 U V : World} {B3 : Nat} {X : List SX} {pre : List Pc} {row : Option Nat} (h : SI w5 B3 X pre U) (hg : U.grownBy V row) (hr : ∀ r, row = some r → w5.heap.size ≤ r ∧ ∃ o : Obj, U.heap[r]? = some o ∧ o.isCells = false) : SI w5 B3 X pre V := by
  obtain ⟨Y, va, vc, h1, h2, h3, h4⟩ := h.row
  have hk : ∀ (q : Nat) (cs : Array Value) (t : TypeId) (fr : Nat × Nat), U.heap[q]? = some (.cells cs t fr) → V.heap[q]? = U.heap[q]? := fun q cs t fr hq => (cells_turnedP hq hg fun r e => (hr r e).2).trans hq.symm
  exact ⟨h.grown.andThen hg fun j e => .inl (hr j e).1, Y, va, vc, h1, (hk _ _ _ _ h2).trans h2, own_kept h3 fun q cs _ hh => hk q cs _ _ hh, fun y hy => (h4 y hy).keep fun q cs t fr hq _ => hk q cs t fr hq⟩
def AtG {α : Type} (Fr : α → Act) (x : α) (a' : Act) (W : World) : Prop := a' = Fr x
/-- What Shards leaves. -/
def ShP (X : List SX) (w : World) (e : Ending) (w' : World) : Prop := ∃ (Y : List SX) (va : Option Addr) (vc : Nat), e = .returned (.slice va Y.length vc) ∧ Y.map (·.s) = X.map (·.s) ∧ w'.ownsRow w.heap.size 46 5 (.slice va Y.length vc) Y.length (shvs Y) ∧ (∀ y ∈ Y, ShM w' y.s y.mv y.pv) ∧ Below w.heap.size w w'
set_option maxRecDepth 100000 in
set_option maxHeartbeats 8000000 in
theorem shardsW_any (b wb mb n : Nat) (ov : Value) (D : DataW Value) (N : AtN) (X : List SX) (w : World) (h : Aw w b wb mb n ov D N X) (hX : ∀ x ∈ X, ShB x.s) (hI : ∀ x ∈ X, I64 x.s.id) (hd : ∀ x ∈ X, ∀ y ∈ X, y.s.id = x.s.id → y = x) (hl : X.length ≤ 100000) :
    Calls Try.prog 13 #[.pointer (some ⟨b, 0, none⟩)] w (ShP X w) := by
  have hnil : ∀ (B : Nat) (W : World), (binOp BinOp.eql 83 (.func (.func 56) #[] #[.pointer (some ⟨B, 0, none⟩)]) .nilFunc).run Try.prog W = .ok (.bool false) W := fun _ _ => by kernel_rfl
  obtain ⟨w1, hw1⟩ : ∃ w1, w1 = (w.alloc (.cells #[.pointer (some ⟨b, 0, none⟩)] 27)).alloc (.cells #[.slice none 0 0] 40) := ⟨_, rfl⟩
  obtain ⟨hA, hB⟩ := heap_two w (.cells #[.pointer (some ⟨b, 0, none⟩)] 27) (.cells #[.slice none 0 0] 40)
  rw [← hw1] at hA hB
  have B1 : Hid (Below w.heap.size w w1) := hid (by rw [hw1]; exact ((Below.refl _ _).alloc (Nat.le_refl _) _).alloc (by simp) _)
  have hs1 : w1.heap.size = w.heap.size + 2 := by rw [hw1]; simp
  have HW1 := hid hw1
  have H1 := hid (h.below B1.out)
  have HX := hid hX
  have HI := hid hI
  have HD := hid hd
  clear h hX hI hd hw1
  refine (callsIn_wide (n := 3)).1 ?_
  refine callsIn_of_wp_marks Try.func13 rfl trivial ?_ rfl
  simp only [Try.ntmps13, List.size_toArray, List.length_cons, List.length_nil, Nat.reduceAdd, Nat.reduceSub, Array.replicate_succ, Array.replicate_zero, List.push_toArray, List.append_toArray, List.nil_append, List.cons_append]
  refine wpIn_wide.2 ?_
  have a0 : (w.alloc (.cells #[.pointer (some ⟨b, 0, none⟩)] 27)).cell? ⟨w.heap.size, 0, none⟩ = some (.pointer (some ⟨b, 0, none⟩)) := by rw [cell_of_row _ _ _ _ _ _ (heap_alloc_new _ _)]; rfl
  go_upto_region 4 with fail
  rw [← HW1.out]
  clear HW1 a0
  have a1 : w1.cell? ⟨w.heap.size, 0, none⟩ = some (.pointer (some ⟨b, 0, none⟩)) := by rw [cell_of_row _ _ _ _ _ _ hA]; rfl
  have c4 : w1.cell? ⟨b, 4, none⟩ = some (.pointer (some ⟨wb, 0, none⟩)) := H1.out.m.cell 4
  obtain ⟨A1, hA1e⟩ : ∃ A, A = w.heap.size := ⟨_, rfl⟩
  obtain ⟨B3, hB3e⟩ : ∃ B, B = w.heap.size + 1 := ⟨_, rfl⟩
  rw [← hA1e] at hA a1
  rw [← hB3e] at hB
  rw [← hB3e, ← hA1e]
  have HA1 := hid hA
  have HB3 := hid hB
  have HBW : Hid (w.heap.size ≤ B3) := hid (by omega)
  clear hA hB hA1e hB3e hs1
  go_wp2_with (go_at_call 34; refine (each_any wb _).mono ?_; rintro e w5 ⟨rfl, hw5⟩; have W5 := hid hw5; clear hw5)
  have hb5 : Below w1.heap.size w1 w5 := by rw [W5.out]; exact (Below.refl _ _).alloc (Nat.le_refl _) _
  have hE5 : w5.heap[w1.heap.size]? = some (.cells #[.pointer (some ⟨wb, 0, none⟩)] 61 (0, 0)) := by rw [W5.out]; exact heap_alloc_new _ _
  have A5 := hid (H1.out.below hb5)
  have BW5 := hid (B1.out.trans (hb5.mono B1.out.size))
  have HB5 := hid ((hb5.block B3 (lt_of_block HB3.out)).trans HB3.out)
  have HA5 := hid ((hb5.block A1 (lt_of_block HA1.out)).trans HA1.out)
  have hBlt : B3 < w5.heap.size := lt_of_block HB5.out
  obtain ⟨E5, hE5e⟩ : ∃ E, E = w1.heap.size := ⟨_, rfl⟩
  rw [← hE5e] at hE5
  rw [← hE5e]
  clear hb5 W5 hE5e HA1 HB3 H1 a1 c4 B1
  obtain ⟨ra, rc, hMr, hRow⟩ := A5.out.m.whr.at'
  obtain ⟨P, hPe⟩ : ∃ P, P = X.map SX.pc := ⟨_, rfl⟩
  rw [← hPe] at hMr hRow
  have HPE := hid hPe
  have hPl : P.length ≤ 1000000 := by rw [hPe, List.length_map]; omega
  clear hPe
  have hheld := (hRow.held 0 P.length (Nat.zero_le _) (Nat.le_refl _)).2
  simp only [List.take_length, List.drop_zero] at hheld
  have hsl : sliceP ra 0 P.length rc = .slice ra P.length rc := by cases ra <;> simp [sliceP, Addr.add]
  rw [hsl] at hheld
  have hrk : ∀ k, (Value.slice ra P.length rc).ownBlock = some k → k < w5.heap.size := fun k hk => hRow.lt k hk
  have HRT0 : Hid (∀ k, (Value.slice ra P.length rc).ownBlock = some k → ∃ cs fr, w5.heap[k]? = some (.cells cs 102 fr)) := hid fun k hk => by obtain ⟨cur, hc⟩ := own_typed hRow hk; exact ⟨cur, _, hc⟩
  clear hRow hsl
  refine (wpIn_wide (n := 3)).1 ?_
  refine wpIn_rangeFunc_ownH (F := Fence.wide) rfl (by omega) (gf := 56) (lb := #[.pointer (some ⟨E5, 0, none⟩)]) rfl trivial (enters_of Try.func56 (by kernel_rfl) rfl)
    (eachA_stops _ (by omega) E5 wb (.slice ra P.length rc) P (by omega) w5 hE5 hMr hheld) KeptR.trans ?keptb (Below.refl _ _) (fun _ => rfl)
    (fun pre W => SI w5 B3 X (pre.map (·.1)) W)
    (fun _ _ _ => False) ?hI (fun _ _ _ _ _ h _ _ => h) ⟨World.grownBy.refl _ _, [], none, 0, rfl, HB5.out, World.ownsRow_nil _ _ _ _, by simp⟩
    (AtG ?Fr)
    (fun _ _ _ _ _ _ h _ _ => h) ?assign ?body ?done (fun _ _ _ _ _ _ h _ => h.elim)
  case keptb =>
    intro W y o o' hy ho _ _ k hk
    have h1 := hrk k hk
    have h2 := lt_of_block ho
    refine (grownBy_putObj' W y o').block k (by omega) fun e => ?_
    have h3 : k = y := by simpa using e
    omega
  case hI =>
    intro s U V row h hg hr
    exact h.turned hg hr
  case assign =>
    intro y pre x W K h hK
    unfold eachV
    gi_wp2
    rw [Oper.semAt_some _ _ _ (by intro c hc; cases hc)]
    simp only [execOp, Act.eval, Sem.run_pure, Oper.uponIn]
    gi_wp2
    refine hK _ _ (KeepsFrom.refl _ _) (fun _ _ => rfl) h ?ax
    case ax =>
      clear hK
      show _ = _
      with_reducible rfl
  case body =>
    rintro y pre ⟨p, hp⟩ a' W hy _ hSI hfr hlt'
    obtain rfl : a' = _ := hfr
    obtain ⟨x, hx, rfl⟩ := List.mem_map.1 (show p ∈ X.map SX.pc by rw [← HPE.out]; exact hp)
    obtain ⟨Y, va, vc, hYS, hBR, hOR, hYM⟩ := hSI.row
    have HSI := hid hSI
    have HYS := hid hYS
    have HBR := hid hBR
    have OR := hid hOR
    have HYM := hid hYM
    have hYl : Y.length ≤ 100000 := by
      have e := congrArg List.length hYS
      rw [List.length_map, List.length_map, List.length_map] at e
      have h2 : P.length = X.length := by rw [HPE.out, List.length_map]
      have h3 : pre.length < P.length := hlt'
      omega
    have HSG : Hid (w5.heap.size ≤ W.heap.size) := hid hSI.grown.size
    have AW : Hid (AtM W b wb mb n ov D N (X.map SX.pc) X) := hid (A5.out.m.keep (fun q cs t fr hq h1 h2 => hSI.grown.block q (lt_of_block hq) (fun e => by cases e; rw [HB5.out] at hq; cases hq; exact h1 rfl)) (hSI.grown.block mb A5.out.m.own.lt (fun e => by cases e; obtain ⟨es, clock, hm, -⟩ := A5.out.m.own; rw [HB5.out] at hm; cases hm)))
    have HAW : Hid (W.heap[A1]? = some (.cells #[.pointer (some ⟨b, 0, none⟩)] 27 (0, 0))) := hid ((hSI.grown.block A1 (lt_of_block HA5.out) (fun e => by cases e; have h5 := HA5.out; rw [HB5.out] at h5; cases h5)).trans HA5.out)
    have HRT : Hid (∀ k, (Value.slice ra P.length rc).ownBlock = some k → ∃ cs fr, W.heap[k]? = some (.cells cs 102 fr)) := hid fun k hk => by
      obtain ⟨cs, fr, h5⟩ := HRT0.out k hk
      exact ⟨cs, fr, (hSI.grown.block k (lt_of_block h5) (fun e => by cases e; rw [HB5.out] at h5; cases h5)).trans h5⟩
    have HFS := hid (fS_of X x hx (HD.out x hx))
    have HLX := hid (fun (Z : World) (hZ : AtM Z b wb mb n ov D N (X.map SX.pc) X) => hZ.lookX x hx (HI.out x hx) (HD.out x hx))
    have HSX := hid (AW.out.mem x hx)
    have HBX := hid (HX.out x hx)
    obtain ⟨T, mvx, pvx⟩ := x
    obtain ⟨⟨max, mcx, e1⟩, ⟨pax, pcx, e2⟩⟩ := HSX.out.shape
    simp only at e1 e2
    subst e1 e2
    have HCP := hid (fun Z (hZ : Below W.heap.size W Z) => copyShard_any T _ _ Z (show ShM Z T (.slice max T.mem.length mcx) (.slice pax T.past.length pcx) from HSX.out.below hZ) HBX.out.m HBX.out.p HBX.out.q)
    have c3 : W.drew.cell? ⟨B3, 0, none⟩ = some (.slice va Y.length vc) := by show W.cell? _ = _; rw [cell_of_row _ _ _ _ _ _ hBR]; rfl
    have SK : Hid (∀ Z, (∀ (q : Nat) (cs : Array Value) (t : TypeId) (fr : Nat × Nat), W.heap[q]? = some (.cells cs t fr) → t ≠ 40 → t ≠ 46 → Z.heap[q]? = W.heap[q]?) → Z.heap[mb]? = W.heap[mb]? → Z.cell? ⟨A1, 0, none⟩ = some (.pointer (some ⟨b, 0, none⟩)) ∧ Z.cell? ⟨b, 5, none⟩ = some (.map (some mb)) ∧ (Instr.lookup 62 (.map (some mb)) (.int .i64 T.id) false).run Try.prog Z = .ok (shV T (.slice max T.mem.length mcx) (.slice pax T.past.length pcx)) Z) := hid fun Z h1 h2 =>
      ⟨by rw [cell_of_row _ _ _ _ _ _ ((h1 _ _ _ _ HAW.out (by decide) (by decide)).trans HAW.out)]; rfl, (AW.out.keep h1 h2).cell 5, HLX.out Z (AW.out.keep h1 h2)⟩
    have SB : Hid (∀ Z, Below W.heap.size W Z → Z.cell? ⟨A1, 0, none⟩ = some (.pointer (some ⟨b, 0, none⟩)) ∧ Z.cell? ⟨b, 5, none⟩ = some (.map (some mb)) ∧ (Instr.lookup 62 (.map (some mb)) (.int .i64 T.id) false).run Try.prog Z = .ok (shV T (.slice max T.mem.length mcx) (.slice pax T.past.length pcx)) Z) := hid fun Z hZ => SK.out Z (fun q cs t fr hq _ _ => hZ.block q (lt_of_block hq)) (hZ.block mb AW.out.own.lt)
    clear hSI hYS hBR hOR hYM hx
    simp only [SX.pc, ShD.pc]
    gi_wp2
    refine region_held_round (S := fun Z => Z.cell? ⟨A1, 0, none⟩ = some (.pointer (some ⟨b, 0, none⟩)) ∧ Z.cell? ⟨b, 5, none⟩ = some (.map (some mb)) ∧ (Instr.lookup 62 (.map (some mb)) (.int .i64 T.id) false).run Try.prog Z = .ok (shV T (.slice max T.mem.length mcx) (.slice pax T.past.length pcx)) Z) y (by rintro ⟨_, _, h⟩; exact h) (by kernel_rfl) (by kernel_rfl) (SB.out _ ((Below.refl _ _).drew)) (fun hHeld => ?_)
    refine wpAnyH_take (i := 1) (v := ?rv1) rfl (by kernel_rfl) (by kernel_rfl) (by kernel_rfl) (fun _ _ _ h => h) (Or.inl ⟨by rfl, ?ry1⟩) (by assumption) ?rr1
    case ry1 => (intro w hSw; (try dsimp only at hSw); go_simp; try with_reducible rfl)
    (try simp only [Act.put, putS])
    refine wpAnyH_take (i := 2) (v := ?rv2) rfl (by kernel_rfl) (by kernel_rfl) (by kernel_rfl) (fun _ _ _ h => h) (Or.inl ⟨by rfl, ?ry2⟩) (by assumption) ?rr2
    case ry2 => (intro w hSw; (try dsimp only at hSw); go_simp; try with_reducible rfl)
    (try simp only [Act.put, putS])
    refine wpAnyH_take (i := 3) (v := ?rv3) rfl (by kernel_rfl) (by kernel_rfl) (by kernel_rfl) (fun _ _ _ h => h) (Or.inl ⟨by rfl, ?ry3⟩) (by assumption) ?rr3
    case ry3 => (intro w hSw; (try dsimp only at hSw); go_simp; try with_reducible rfl)
    (try simp only [Act.put, putS])
    refine wpAnyH_take (i := 4) (v := ?rv4) rfl (by kernel_rfl) (by kernel_rfl) (by kernel_rfl) (fun _ _ _ h => h) (Or.inl ⟨by rfl, ?ry4⟩) (by assumption) ?rr4
    case ry4 => (intro w hSw; (try dsimp only at hSw); go_simp; try with_reducible rfl)
    (try simp only [Act.put, putS])
    refine wpAnyH_take (i := 5) (v := ?rv5) rfl (by kernel_rfl) (by kernel_rfl) (by kernel_rfl) (fun _ _ _ h => h) (Or.inl ⟨by rfl, ?ry5⟩) (by assumption) ?rr5
    case ry5 => (intro w hSw; (try dsimp only at hSw); go_simp; try with_reducible rfl)
    (try simp only [Act.put, putS])
    refine wpAnyH_take (i := 6) (v := shV T (.slice max T.mem.length mcx) (.slice pax T.past.length pcx)) rfl (by kernel_rfl) (by kernel_rfl) (by kernel_rfl) (fun _ _ _ h => h) (Or.inl ⟨by rfl, ?ry6⟩) (by assumption) ?rr6
    case ry6 =>
      intro Z hZ
      exact exec_lookF rfl rfl rfl hZ.2.2
    (try simp only [Act.put, putS])
    refine wpAnyH_ready (rs := [0, 7]) (by kernel_rfl) (by simp) ?_
    refine AllReadyH.cons rfl (fun K hK => ?_) (AllReadyH.cons rfl (fun K hK => ?_) AllReadyH.nil)
    · skip
      rw [if_pos (by rfl)]
      go_simp
      refine hK.out _ _ hHeld (fun hHeld => ?_)
      clear hK K
      (try simp only [Act.put, putS])
      refine wpAnyH_ready (rs := [7]) (by kernel_rfl) (by simp) ?_
      refine AllReadyH.cons rfl (fun K hK => ?_) AllReadyH.nil
      rw [if_pos (by rfl)]
      go_wp2_with fail
      refine (HCP.out _ ((Below.refl _ _).drew)).mono ?_
      rintro e w7 ⟨mv7, pv7, rfl, hs7, hb7⟩
      obtain ⟨⟨ma3, mc3, rfl⟩, ⟨pa3, pc3, rfl⟩⟩ := hs7.shape
      have S7 := hid hs7
      have B7 : Hid (Below W.heap.size W w7) := hid (((Below.refl W.heap.size W).drew).trans hb7)
      have c3b := cell_later B7.out c3
      have c3c : ((w7.alloc (.cells #[.int .i64 T.id, .int .i64 T.fr, .int .i64 T.to, .slice ma3 T.mem.length mc3, .slice pa3 T.past.length pc3] 46)).drew).cell? ⟨B3, 0, none⟩ = some (.slice va Y.length vc) := cell_later (((Below.refl _ _).alloc (Nat.le_refl w7.heap.size) _).drew) c3b
      have c3d : (w7.alloc (.cells #[.int .i64 T.id, .int .i64 T.fr, .int .i64 T.to, .slice ma3 T.mem.length mc3, .slice pa3 T.past.length pc3] 46)).cell? ⟨B3, 0, none⟩ = some (.slice va Y.length vc) := c3c
      clear hs7 hb7
      refine hK.out _ _ (SB.out _ B7.out) (fun hHeld => ?_)
      clear hK K
      unfold shV
      (try simp only [Act.put, putS])
      refine wpAnyH_ready (rs := [8]) (by kernel_rfl) (by simp) ?_
      refine AllReadyH.cons rfl (fun K hK => ?_) AllReadyH.nil
      rw [if_pos (by rfl)]
      go_simp
      refine hK.out _ _ (SB.out _ (B7.out.alloc B7.out.size _)) (fun hHeld => ?_)
      clear hK K
      (try simp only [Act.put, putS])
      clear c3 c3b c3c c3d
      have B8 : Hid (Below W.heap.size W (w7.alloc (.cells #[.int .i64 T.id, .int .i64 T.fr, .int .i64 T.to, .slice ma3 T.mem.length mc3, .slice pa3 T.past.length pc3] 46))) := hid (B7.out.alloc B7.out.size _)
      have O8 := hid (own_below OR.out B8.out)
      have Y8 : Hid (∀ j u, (SX.c ⟨T, .slice ma3 T.mem.length mc3, .slice pa3 T.past.length pc3⟩)[j]? = some u → (w7.alloc (.cells #[.int .i64 T.id, .int .i64 T.fr, .int .i64 T.to, .slice ma3 T.mem.length mc3, .slice pa3 T.past.length pc3] 46)).cell? ⟨w7.heap.size, j, none⟩ = some u) := hid fun j u hj => by
        rw [cell_of_row _ _ _ _ _ _ (heap_alloc_new _ _)]; unfold SX.c at hj; simpa using hj
      have S8 := hid (S7.out.below ((Below.refl w7.heap.size w7).alloc (Nat.le_refl _) (.cells #[.int .i64 T.id, .int .i64 T.fr, .int .i64 T.to, .slice ma3 T.mem.length mc3, .slice pa3 T.past.length pc3] 46)))
      refine wpAnyH_ready (rs := [9]) (by kernel_rfl) (by simp) ?_
      refine AllReadyH.cons rfl (fun K hK => ?_) AllReadyH.nil
      rw [if_pos (by rfl)]
      refine wp_app rowSh _ _ rfl w5.heap.size (.slice va Y.length vc) Y.length (shvs Y) rfl O8.out w7.heap.size 1 1 (SX.c ⟨T, .slice ma3 T.mem.length mc3, .slice pa3 T.past.length pc3⟩) rfl rfl Y8.out (by simp [SX.c, Value.oneCell']) (by omega) (Nat.le_trans HSG.out B8.out.size) ?_
      generalize w7.alloc (.cells #[.int .i64 T.id, .int .i64 T.fr, .int .i64 T.to, .slice ma3 T.mem.length mc3, .slice pa3 T.past.length pc3] 46) = w8 at *
      intro va9 vc9 w9 ho9 hg9
      have hkp : ∀ (q : Nat) (cs : Array Value) (t : TypeId) (fr : Nat × Nat), W.heap[q]? = some (.cells cs t fr) → t ≠ 46 → w9.heap[q]? = W.heap[q]? := fun q cs t fr hq ht => (hg9.block q (Nat.lt_of_lt_of_le (lt_of_block hq) B8.out.size) fun e => own_ne O8.out ((B8.out.block q (lt_of_block hq)).trans hq) ht e.symm).trans (B8.out.block q (lt_of_block hq))
      have hmp : w9.heap[mb]? = W.heap[mb]? := (hg9.block mb (Nat.lt_of_lt_of_le AW.out.own.lt B8.out.size) (own_nm (AW.out.below B8.out).own O8.out)).trans (B8.out.block mb AW.out.own.lt)
      have b39 : w9.heap[B3]? = some (.cells #[.slice va Y.length vc] 40 (0, 0)) := (hkp _ _ _ _ HBR.out (by decide)).trans HBR.out
      refine hK.out _ _ (SK.out w9 (fun q cs t fr hq _ ht => hkp q cs t fr hq ht) hmp) (fun hHeld => ?_)
      clear hK K
      (try simp only [Act.put, putS])
      have k9 : w9.cell? ⟨B3, 0, none⟩ = some (.slice va Y.length vc) := by rw [cell_of_row _ _ _ _ _ _ b39]; rfl
      have f9 : w9.frozen? ⟨B3, 0, none⟩ = false := frozen_of_row _ _ _ _ _ b39
      refine wpAnyH_ready (rs := [10]) (by kernel_rfl) (by simp) ?_
      refine AllReadyH.cons rfl (fun K hK => ?_) AllReadyH.nil
      rw [if_pos (by rfl)]
      go_simp
      have hkq : ∀ (q : Nat) (cs : Array Value) (t : TypeId) (fr : Nat × Nat), W.heap[q]? = some (.cells cs t fr) → t ≠ 40 → t ≠ 46 → (w9.setCell ⟨B3, 0, none⟩ (.slice va9 (Y.length + 1) vc9)).heap[q]? = W.heap[q]? := fun q cs t fr hq h1 h2 => (Below.heap_setCell _ _ _ _ fun e => by have e' : q = B3 := e; rw [e', HBR.out] at hq; cases hq; exact h1 rfl).trans (hkp q cs t fr hq h2)
      have hmq : (w9.setCell ⟨B3, 0, none⟩ (.slice va9 (Y.length + 1) vc9)).heap[mb]? = W.heap[mb]? := (Below.heap_setCell _ _ _ _ fun e => by have e' : mb = B3 := e; obtain ⟨es, clock, hm, -⟩ := AW.out.own; rw [e', HBR.out] at hm; cases hm).trans hmp
      refine hK.out _ _ (SK.out _ hkq hmq) (fun hHeld => ?_)
      clear hK K
      (try simp only [Act.put, putS])
      refine wpAnyH_done (by kernel_rfl) ?_ _
      have HKQ := hid hkq
      have HG9 := hid hg9
      have HO9 := hid ho9
      have HB9 := hid b39
      have HKP := hid hkp
      clear hkq hmq hkp hmp hHeld k9 f9 hg9 ho9 b39
      gi_wp2
      have ko9 : KeepsOthers W w9 := (show KeepsOthers W w8 from ⟨B8.out.size, fun j o hj _ => (B8.out.block j (lt_of_block hj)).trans hj⟩).trans (KeepsOthers.of_grownBy HG9.out fun j o hj hoj => by obtain ⟨cur, hc⟩ := own_typed O8.out hj; rw [hc] at hoj; cases hoj; rfl)
      refine ⟨(ko9.trans (KeepsOthers.setCell _ _ _)).from _, ?_, ?_⟩
      · intro q hq
        have h1 := hrk q hq
        obtain ⟨cs, fr, h2⟩ := HRT.out q hq
        exact HKQ.out q cs _ fr h2 (by decide) (by decide)
      · refine ⟨⟨HG9.out.os.trans (B8.out.os.trans HSI.out.grown.os), HG9.out.tape.trans (B8.out.tape.trans HSI.out.grown.tape), HG9.out.output.trans (B8.out.output.trans HSI.out.grown.output), Nat.le_trans HSI.out.grown.size (Nat.le_trans B8.out.size (by simpa using HG9.out.size)), fun q hq hne => ?_⟩, Y ++ [⟨T, .slice ma3 T.mem.length mc3, .slice pa3 T.past.length pc3⟩], va9, vc9, ?_, ?_, ?_, ?_⟩
        · have hq' : q < W.heap.size := Nat.lt_of_lt_of_le hq HSI.out.grown.size
          refine ((Below.heap_setCell _ _ _ _ fun e => hne (by rw [show q = B3 from e])).trans ?_).trans (HSI.out.grown.block q hq hne)
          exact (HG9.out.block q (Nat.lt_of_lt_of_le hq' B8.out.size) fun e => by have := (World.ownsRow.lt O8.out q e.symm).1; omega).trans (B8.out.block q hq')
        · rw [List.map_append, List.map_append, List.map_append, HYS.out]
          simp only [List.map_cons, List.map_nil]
          rw [show fS X (T.fr, T.to, T.id) = T from HFS.out]
        · rw [List.length_append]
          exact heap_setCell_same _ _ _ _ _ _ HB9.out
        · rw [shvs_append, List.length_append]
          have := own_set (i := 0) (u := .slice va9 (Y.length + 1) vc9) HO9.out HB9.out (by decide)
          simpa [shvs] using this
        · intro z hz
          rcases List.mem_append.1 hz with hz | hz
          · exact (HYM.out z hz).keep fun q cs t fr hq ht => HKQ.out q cs t fr hq (by rcases ht with rfl | rfl <;> decide) (by rcases ht with rfl | rfl <;> decide)
          · rw [List.mem_singleton.1 hz]
            refine S8.out.keep fun q cs t fr hq ht => ?_
            refine (Below.heap_setCell _ _ _ _ fun e => ?_).trans (HG9.out.block q (lt_of_block hq) fun e => own_ne O8.out hq (by rcases ht with rfl | rfl <;> decide) e.symm)
            have e' : q = B3 := e
            rw [e', (B8.out.block B3 (lt_of_block HBR.out)).trans HBR.out] at hq
            cases hq
            rcases ht with h | h <;> exact absurd h (by decide)
    · skip
      rw [if_pos (by rfl)]
      go_wp2_with fail
      refine (HCP.out _ ((Below.refl _ _).drew)).mono ?_
      rintro e w7 ⟨mv7, pv7, rfl, hs7, hb7⟩
      obtain ⟨⟨ma3, mc3, rfl⟩, ⟨pa3, pc3, rfl⟩⟩ := hs7.shape
      have S7 := hid hs7
      have B7 : Hid (Below W.heap.size W w7) := hid (((Below.refl W.heap.size W).drew).trans hb7)
      have c3b := cell_later B7.out c3
      have c3c : ((w7.alloc (.cells #[.int .i64 T.id, .int .i64 T.fr, .int .i64 T.to, .slice ma3 T.mem.length mc3, .slice pa3 T.past.length pc3] 46)).drew).cell? ⟨B3, 0, none⟩ = some (.slice va Y.length vc) := cell_later (((Below.refl _ _).alloc (Nat.le_refl w7.heap.size) _).drew) c3b
      have c3d : (w7.alloc (.cells #[.int .i64 T.id, .int .i64 T.fr, .int .i64 T.to, .slice ma3 T.mem.length mc3, .slice pa3 T.past.length pc3] 46)).cell? ⟨B3, 0, none⟩ = some (.slice va Y.length vc) := c3c
      clear hs7 hb7
      refine hK.out _ _ (SB.out _ B7.out) (fun hHeld => ?_)
      clear hK K
      unfold shV
      (try simp only [Act.put, putS])
      refine wpAnyH_ready (rs := [0, 8]) (by kernel_rfl) (by simp) ?_
      refine AllReadyH.cons rfl (fun K hK => ?_) (AllReadyH.cons rfl (fun K hK => ?_) AllReadyH.nil)
      · skip
        rw [if_pos (by rfl)]
        go_simp
        refine hK.out _ _ hHeld (fun hHeld => ?_)
        clear hK K
        (try simp only [Act.put, putS])
        refine wpAnyH_ready (rs := [8]) (by kernel_rfl) (by simp) ?_
        refine AllReadyH.cons rfl (fun K hK => ?_) AllReadyH.nil
        rw [if_pos (by rfl)]
        go_simp
        refine hK.out _ _ (SB.out _ (B7.out.alloc B7.out.size _)) (fun hHeld => ?_)
        clear hK K
        (try simp only [Act.put, putS])
        clear c3 c3b c3c c3d
        have B8 : Hid (Below W.heap.size W (w7.alloc (.cells #[.int .i64 T.id, .int .i64 T.fr, .int .i64 T.to, .slice ma3 T.mem.length mc3, .slice pa3 T.past.length pc3] 46))) := hid (B7.out.alloc B7.out.size _)
        have O8 := hid (own_below OR.out B8.out)
        have Y8 : Hid (∀ j u, (SX.c ⟨T, .slice ma3 T.mem.length mc3, .slice pa3 T.past.length pc3⟩)[j]? = some u → (w7.alloc (.cells #[.int .i64 T.id, .int .i64 T.fr, .int .i64 T.to, .slice ma3 T.mem.length mc3, .slice pa3 T.past.length pc3] 46)).cell? ⟨w7.heap.size, j, none⟩ = some u) := hid fun j u hj => by
          rw [cell_of_row _ _ _ _ _ _ (heap_alloc_new _ _)]; unfold SX.c at hj; simpa using hj
        have S8 := hid (S7.out.below ((Below.refl w7.heap.size w7).alloc (Nat.le_refl _) (.cells #[.int .i64 T.id, .int .i64 T.fr, .int .i64 T.to, .slice ma3 T.mem.length mc3, .slice pa3 T.past.length pc3] 46)))
        refine wpAnyH_ready (rs := [9]) (by kernel_rfl) (by simp) ?_
        refine AllReadyH.cons rfl (fun K hK => ?_) AllReadyH.nil
        rw [if_pos (by rfl)]
        refine wp_app rowSh _ _ rfl w5.heap.size (.slice va Y.length vc) Y.length (shvs Y) rfl O8.out w7.heap.size 1 1 (SX.c ⟨T, .slice ma3 T.mem.length mc3, .slice pa3 T.past.length pc3⟩) rfl rfl Y8.out (by simp [SX.c, Value.oneCell']) (by omega) (Nat.le_trans HSG.out B8.out.size) ?_
        generalize w7.alloc (.cells #[.int .i64 T.id, .int .i64 T.fr, .int .i64 T.to, .slice ma3 T.mem.length mc3, .slice pa3 T.past.length pc3] 46) = w8 at *
        intro va9 vc9 w9 ho9 hg9
        have hkp : ∀ (q : Nat) (cs : Array Value) (t : TypeId) (fr : Nat × Nat), W.heap[q]? = some (.cells cs t fr) → t ≠ 46 → w9.heap[q]? = W.heap[q]? := fun q cs t fr hq ht => (hg9.block q (Nat.lt_of_lt_of_le (lt_of_block hq) B8.out.size) fun e => own_ne O8.out ((B8.out.block q (lt_of_block hq)).trans hq) ht e.symm).trans (B8.out.block q (lt_of_block hq))
        have hmp : w9.heap[mb]? = W.heap[mb]? := (hg9.block mb (Nat.lt_of_lt_of_le AW.out.own.lt B8.out.size) (own_nm (AW.out.below B8.out).own O8.out)).trans (B8.out.block mb AW.out.own.lt)
        have b39 : w9.heap[B3]? = some (.cells #[.slice va Y.length vc] 40 (0, 0)) := (hkp _ _ _ _ HBR.out (by decide)).trans HBR.out
        refine hK.out _ _ (SK.out w9 (fun q cs t fr hq _ ht => hkp q cs t fr hq ht) hmp) (fun hHeld => ?_)
        clear hK K
        (try simp only [Act.put, putS])
        have k9 : w9.cell? ⟨B3, 0, none⟩ = some (.slice va Y.length vc) := by rw [cell_of_row _ _ _ _ _ _ b39]; rfl
        have f9 : w9.frozen? ⟨B3, 0, none⟩ = false := frozen_of_row _ _ _ _ _ b39
        refine wpAnyH_ready (rs := [10]) (by kernel_rfl) (by simp) ?_
        refine AllReadyH.cons rfl (fun K hK => ?_) AllReadyH.nil
        rw [if_pos (by rfl)]
        go_simp
        have hkq : ∀ (q : Nat) (cs : Array Value) (t : TypeId) (fr : Nat × Nat), W.heap[q]? = some (.cells cs t fr) → t ≠ 40 → t ≠ 46 → (w9.setCell ⟨B3, 0, none⟩ (.slice va9 (Y.length + 1) vc9)).heap[q]? = W.heap[q]? := fun q cs t fr hq h1 h2 => (Below.heap_setCell _ _ _ _ fun e => by have e' : q = B3 := e; rw [e', HBR.out] at hq; cases hq; exact h1 rfl).trans (hkp q cs t fr hq h2)
        have hmq : (w9.setCell ⟨B3, 0, none⟩ (.slice va9 (Y.length + 1) vc9)).heap[mb]? = W.heap[mb]? := (Below.heap_setCell _ _ _ _ fun e => by have e' : mb = B3 := e; obtain ⟨es, clock, hm, -⟩ := AW.out.own; rw [e', HBR.out] at hm; cases hm).trans hmp
        refine hK.out _ _ (SK.out _ hkq hmq) (fun hHeld => ?_)
        clear hK K
        (try simp only [Act.put, putS])
        refine wpAnyH_done (by kernel_rfl) ?_ _
        have HKQ := hid hkq
        have HG9 := hid hg9
        have HO9 := hid ho9
        have HB9 := hid b39
        have HKP := hid hkp
        clear hkq hmq hkp hmp hHeld k9 f9 hg9 ho9 b39
        gi_wp2
        have ko9 : KeepsOthers W w9 := (show KeepsOthers W w8 from ⟨B8.out.size, fun j o hj _ => (B8.out.block j (lt_of_block hj)).trans hj⟩).trans (KeepsOthers.of_grownBy HG9.out fun j o hj hoj => by obtain ⟨cur, hc⟩ := own_typed O8.out hj; rw [hc] at hoj; cases hoj; rfl)
        refine ⟨(ko9.trans (KeepsOthers.setCell _ _ _)).from _, ?_, ?_⟩
        · intro q hq
          have h1 := hrk q hq
          obtain ⟨cs, fr, h2⟩ := HRT.out q hq
          exact HKQ.out q cs _ fr h2 (by decide) (by decide)
        · refine ⟨⟨HG9.out.os.trans (B8.out.os.trans HSI.out.grown.os), HG9.out.tape.trans (B8.out.tape.trans HSI.out.grown.tape), HG9.out.output.trans (B8.out.output.trans HSI.out.grown.output), Nat.le_trans HSI.out.grown.size (Nat.le_trans B8.out.size (by simpa using HG9.out.size)), fun q hq hne => ?_⟩, Y ++ [⟨T, .slice ma3 T.mem.length mc3, .slice pa3 T.past.length pc3⟩], va9, vc9, ?_, ?_, ?_, ?_⟩
          · have hq' : q < W.heap.size := Nat.lt_of_lt_of_le hq HSI.out.grown.size
            refine ((Below.heap_setCell _ _ _ _ fun e => hne (by rw [show q = B3 from e])).trans ?_).trans (HSI.out.grown.block q hq hne)
            exact (HG9.out.block q (Nat.lt_of_lt_of_le hq' B8.out.size) fun e => by have := (World.ownsRow.lt O8.out q e.symm).1; omega).trans (B8.out.block q hq')
          · rw [List.map_append, List.map_append, List.map_append, HYS.out]
            simp only [List.map_cons, List.map_nil]
            rw [show fS X (T.fr, T.to, T.id) = T from HFS.out]
          · rw [List.length_append]
            exact heap_setCell_same _ _ _ _ _ _ HB9.out
          · rw [shvs_append, List.length_append]
            have := own_set (i := 0) (u := .slice va9 (Y.length + 1) vc9) HO9.out HB9.out (by decide)
            simpa [shvs] using this
          · intro z hz
            rcases List.mem_append.1 hz with hz | hz
            · exact (HYM.out z hz).keep fun q cs t fr hq ht => HKQ.out q cs t fr hq (by rcases ht with rfl | rfl <;> decide) (by rcases ht with rfl | rfl <;> decide)
            · rw [List.mem_singleton.1 hz]
              refine S8.out.keep fun q cs t fr hq ht => ?_
              refine (Below.heap_setCell _ _ _ _ fun e => ?_).trans (HG9.out.block q (lt_of_block hq) fun e => own_ne O8.out hq (by rcases ht with rfl | rfl <;> decide) e.symm)
              have e' : q = B3 := e
              rw [e', (B8.out.block B3 (lt_of_block HBR.out)).trans HBR.out] at hq
              cases hq
              rcases ht with h | h <;> exact absurd h (by decide)
      · skip
        rw [if_pos (by rfl)]
        go_simp
        refine hK.out _ _ (SB.out _ (B7.out.alloc B7.out.size _)) (fun hHeld => ?_)
        clear hK K
        (try simp only [Act.put, putS])
        refine wpAnyH_ready (rs := [0]) (by kernel_rfl) (by simp) ?_
        refine AllReadyH.cons rfl (fun K hK => ?_) AllReadyH.nil
        rw [if_pos (by rfl)]
        go_simp
        refine hK.out _ _ hHeld (fun hHeld => ?_)
        clear hK K
        (try simp only [Act.put, putS])
        clear c3 c3b c3c c3d
        have B8 : Hid (Below W.heap.size W (w7.alloc (.cells #[.int .i64 T.id, .int .i64 T.fr, .int .i64 T.to, .slice ma3 T.mem.length mc3, .slice pa3 T.past.length pc3] 46))) := hid (B7.out.alloc B7.out.size _)
        have O8 := hid (own_below OR.out B8.out)
        have Y8 : Hid (∀ j u, (SX.c ⟨T, .slice ma3 T.mem.length mc3, .slice pa3 T.past.length pc3⟩)[j]? = some u → (w7.alloc (.cells #[.int .i64 T.id, .int .i64 T.fr, .int .i64 T.to, .slice ma3 T.mem.length mc3, .slice pa3 T.past.length pc3] 46)).cell? ⟨w7.heap.size, j, none⟩ = some u) := hid fun j u hj => by
          rw [cell_of_row _ _ _ _ _ _ (heap_alloc_new _ _)]; unfold SX.c at hj; simpa using hj
        have S8 := hid (S7.out.below ((Below.refl w7.heap.size w7).alloc (Nat.le_refl _) (.cells #[.int .i64 T.id, .int .i64 T.fr, .int .i64 T.to, .slice ma3 T.mem.length mc3, .slice pa3 T.past.length pc3] 46)))
        refine wpAnyH_ready (rs := [9]) (by kernel_rfl) (by simp) ?_
        refine AllReadyH.cons rfl (fun K hK => ?_) AllReadyH.nil
        rw [if_pos (by rfl)]
        refine wp_app rowSh _ _ rfl w5.heap.size (.slice va Y.length vc) Y.length (shvs Y) rfl O8.out w7.heap.size 1 1 (SX.c ⟨T, .slice ma3 T.mem.length mc3, .slice pa3 T.past.length pc3⟩) rfl rfl Y8.out (by simp [SX.c, Value.oneCell']) (by omega) (Nat.le_trans HSG.out B8.out.size) ?_
        generalize w7.alloc (.cells #[.int .i64 T.id, .int .i64 T.fr, .int .i64 T.to, .slice ma3 T.mem.length mc3, .slice pa3 T.past.length pc3] 46) = w8 at *
        intro va9 vc9 w9 ho9 hg9
        have hkp : ∀ (q : Nat) (cs : Array Value) (t : TypeId) (fr : Nat × Nat), W.heap[q]? = some (.cells cs t fr) → t ≠ 46 → w9.heap[q]? = W.heap[q]? := fun q cs t fr hq ht => (hg9.block q (Nat.lt_of_lt_of_le (lt_of_block hq) B8.out.size) fun e => own_ne O8.out ((B8.out.block q (lt_of_block hq)).trans hq) ht e.symm).trans (B8.out.block q (lt_of_block hq))
        have hmp : w9.heap[mb]? = W.heap[mb]? := (hg9.block mb (Nat.lt_of_lt_of_le AW.out.own.lt B8.out.size) (own_nm (AW.out.below B8.out).own O8.out)).trans (B8.out.block mb AW.out.own.lt)
        have b39 : w9.heap[B3]? = some (.cells #[.slice va Y.length vc] 40 (0, 0)) := (hkp _ _ _ _ HBR.out (by decide)).trans HBR.out
        refine hK.out _ _ (SK.out w9 (fun q cs t fr hq _ ht => hkp q cs t fr hq ht) hmp) (fun hHeld => ?_)
        clear hK K
        (try simp only [Act.put, putS])
        have k9 : w9.cell? ⟨B3, 0, none⟩ = some (.slice va Y.length vc) := by rw [cell_of_row _ _ _ _ _ _ b39]; rfl
        have f9 : w9.frozen? ⟨B3, 0, none⟩ = false := frozen_of_row _ _ _ _ _ b39
        refine wpAnyH_ready (rs := [10]) (by kernel_rfl) (by simp) ?_
        refine AllReadyH.cons rfl (fun K hK => ?_) AllReadyH.nil
        rw [if_pos (by rfl)]
        go_simp
        have hkq : ∀ (q : Nat) (cs : Array Value) (t : TypeId) (fr : Nat × Nat), W.heap[q]? = some (.cells cs t fr) → t ≠ 40 → t ≠ 46 → (w9.setCell ⟨B3, 0, none⟩ (.slice va9 (Y.length + 1) vc9)).heap[q]? = W.heap[q]? := fun q cs t fr hq h1 h2 => (Below.heap_setCell _ _ _ _ fun e => by have e' : q = B3 := e; rw [e', HBR.out] at hq; cases hq; exact h1 rfl).trans (hkp q cs t fr hq h2)
        have hmq : (w9.setCell ⟨B3, 0, none⟩ (.slice va9 (Y.length + 1) vc9)).heap[mb]? = W.heap[mb]? := (Below.heap_setCell _ _ _ _ fun e => by have e' : mb = B3 := e; obtain ⟨es, clock, hm, -⟩ := AW.out.own; rw [e', HBR.out] at hm; cases hm).trans hmp
        refine hK.out _ _ (SK.out _ hkq hmq) (fun hHeld => ?_)
        clear hK K
        (try simp only [Act.put, putS])
        refine wpAnyH_done (by kernel_rfl) ?_ _
        have HKQ := hid hkq
        have HG9 := hid hg9
        have HO9 := hid ho9
        have HB9 := hid b39
        have HKP := hid hkp
        clear hkq hmq hkp hmp hHeld k9 f9 hg9 ho9 b39
        gi_wp2
        have ko9 : KeepsOthers W w9 := (show KeepsOthers W w8 from ⟨B8.out.size, fun j o hj _ => (B8.out.block j (lt_of_block hj)).trans hj⟩).trans (KeepsOthers.of_grownBy HG9.out fun j o hj hoj => by obtain ⟨cur, hc⟩ := own_typed O8.out hj; rw [hc] at hoj; cases hoj; rfl)
        refine ⟨(ko9.trans (KeepsOthers.setCell _ _ _)).from _, ?_, ?_⟩
        · intro q hq
          have h1 := hrk q hq
          obtain ⟨cs, fr, h2⟩ := HRT.out q hq
          exact HKQ.out q cs _ fr h2 (by decide) (by decide)
        · refine ⟨⟨HG9.out.os.trans (B8.out.os.trans HSI.out.grown.os), HG9.out.tape.trans (B8.out.tape.trans HSI.out.grown.tape), HG9.out.output.trans (B8.out.output.trans HSI.out.grown.output), Nat.le_trans HSI.out.grown.size (Nat.le_trans B8.out.size (by simpa using HG9.out.size)), fun q hq hne => ?_⟩, Y ++ [⟨T, .slice ma3 T.mem.length mc3, .slice pa3 T.past.length pc3⟩], va9, vc9, ?_, ?_, ?_, ?_⟩
          · have hq' : q < W.heap.size := Nat.lt_of_lt_of_le hq HSI.out.grown.size
            refine ((Below.heap_setCell _ _ _ _ fun e => hne (by rw [show q = B3 from e])).trans ?_).trans (HSI.out.grown.block q hq hne)
            exact (HG9.out.block q (Nat.lt_of_lt_of_le hq' B8.out.size) fun e => by have := (World.ownsRow.lt O8.out q e.symm).1; omega).trans (B8.out.block q hq')
          · rw [List.map_append, List.map_append, List.map_append, HYS.out]
            simp only [List.map_cons, List.map_nil]
            rw [show fS X (T.fr, T.to, T.id) = T from HFS.out]
          · rw [List.length_append]
            exact heap_setCell_same _ _ _ _ _ _ HB9.out
          · rw [shvs_append, List.length_append]
            have := own_set (i := 0) (u := .slice va9 (Y.length + 1) vc9) HO9.out HB9.out (by decide)
            simpa [shvs] using this
          · intro z hz
            rcases List.mem_append.1 hz with hz | hz
            · exact (HYM.out z hz).keep fun q cs t fr hq ht => HKQ.out q cs t fr hq (by rcases ht with rfl | rfl <;> decide) (by rcases ht with rfl | rfl <;> decide)
            · rw [List.mem_singleton.1 hz]
              refine S8.out.keep fun q cs t fr hq ht => ?_
              refine (Below.heap_setCell _ _ _ _ fun e => ?_).trans (HG9.out.block q (lt_of_block hq) fun e => own_ne O8.out hq (by rcases ht with rfl | rfl <;> decide) e.symm)
              have e' : q = B3 := e
              rw [e', (B8.out.block B3 (lt_of_block HBR.out)).trans HBR.out] at hq
              cases hq
              rcases ht with h | h <;> exact absurd h (by decide)
  case done =>
    intro DD ys W hDD hys hSI hK
    rw [hys] at hSI
    have hDl := lt_of_block hK
    have HK := hid hK
    obtain ⟨Y, va, vc, h1, h2, h3, h4⟩ := hSI.row
    have HSI := hid hSI
    have H1 : Hid (Y.map (·.s) = X.map (·.s)) := hid (by
      rw [h1, HPE.out, List.map_map]
      refine List.map_congr_left fun x hx => ?_
      exact fS_of X x hx (HD.out x hx))
    have c3 : W.cell? ⟨B3, 0, none⟩ = some (.slice va Y.length vc) := by rw [cell_of_row _ _ _ _ _ _ h2]; rfl
    have H3 := hid h3
    have H4 := hid h4
    have H2 := hid h2
    clear hys hSI hK h1 h2 h3 h4
    go_wp2_with fail
    have gp := grownBy_putObj' W DD (.deferred none)
    have rp : ∀ r, some DD = some r → w5.heap.size ≤ r ∧ ∃ o : Obj, W.heap[r]? = some o ∧ o.isCells = false := fun r e => by cases e; exact ⟨hDD, _, HK.out, rfl⟩
    have hkc : ∀ (q : Nat) (cs : Array Value) (t : TypeId) (fr : Nat × Nat), W.heap[q]? = some (.cells cs t fr) → _ = W.heap[q]? := fun q cs t fr hq => (cells_turnedP hq gp fun r e => (rp r e).2).trans hq.symm
    have C9 := HSI.out.turned gp rp
    refine ⟨by simp, .inl ⟨_, _, rfl, run_takeDeferred HK.out, _, results_tmp rfl _ _ _, Y, va, vc, rfl, H1.out, own_lower (own_kept H3.out fun q cs _ hh => hkc q cs _ _ hh) BW5.out.size, (fun y hy => (H4.out y hy).keep fun q cs t fr hq _ => hkc q cs t fr hq), ?_⟩⟩
    exact ⟨C9.grown.os.trans BW5.out.os, C9.grown.tape.trans BW5.out.tape, C9.grown.output.trans BW5.out.output, Nat.le_trans BW5.out.size C9.grown.size, fun q hq => (C9.grown.block q (Nat.lt_of_lt_of_le hq BW5.out.size) (fun e => by cases e; have := HBW.out; omega)).trans (BW5.out.block q hq)⟩
theorem shards_any (b wb mb n : Nat) (ov : Value) (D : DataW Value) (N : AtN) (X : List SX) (w : World) (h : At w b wb mb n ov D N X) (hX : ∀ x ∈ X, ShB x.s) (hI : ∀ x ∈ X, I64 x.s.id) (hd : ∀ x ∈ X, ∀ y ∈ X, y.s.id = x.s.id → y = x) (hl : X.length ≤ 100000) :
    Calls Try.prog 13 #[.pointer (some ⟨b, 0, none⟩)] w (ShP X w) :=
  shardsW_any b wb mb n ov D N X w h.aw hX hI hd hl
end Go.Proofs.Ytnkjkaofgninnaa
