/- stand: an election of one that has nobody else to ask. What win leaves is handed in. -/
import Derived.Test.YtjimneaimnjanaaCoWin
namespace Go.Proofs.Ytjimneaimnjanaa
open Go.RowKit
set_option linter.unusedVariables false
set_option linter.unusedSimpArgs false

/-- The council and the Word lie where they lay; only their own blocks have turned. -/
structure CK (w0 w : World) (b wb : Nat) (lv ms ns : Value) (D : CoD) (W : WdD) : Prop where
  co : Co w 0 b lv D
  wd : Wd w wb ms ns W
  bt : Bt (fun q => q = b ∨ q = wb) w0 w
theorem CK.refl {w : World} {b wb : Nat} {lv ms ns : Value} {D : CoD} {W : WdD} (h : Co w 0 b lv D) (k : Wd w wb ms ns W) : CK w w b wb lv ms ns D W := ⟨h, k, .refl _ _⟩
theorem CK.set {w0 w : World} {b wb : Nat} {lv ms ns : Value} {D D' : CoD} {W : WdD} (h : CK w0 w b wb lv ms ns D W) (i : Nat) (v : Value) (hc : (coC D lv).setIfInBounds i v = coC D' lv) (hl : D'.log = D.log) : CK w0 (w.setCell ⟨b, i, none⟩ v) b wb lv ms ns D' W :=
  ⟨h.co.set hc hl, h.wd.set h.co, Bt.set (X := b) h.bt (.inl (.inl rfl))⟩
theorem CK.keep {w0 w : World} {b wb : Nat} {lv ms ns : Value} {D : CoD} {W : WdD} (h : CK w0 w b wb lv ms ns D W) (kp : Bool) : CK w0 (w.setCell ⟨wb, 0, none⟩ (.bool kp)) b wb lv ms ns D { W with keep := kp } :=
  ⟨h.co.setW h.wd, ⟨heap_setCell_same _ _ _ _ _ _ h.wd.head, own_set h.wd.mails h.wd.head (by decide), own_set h.wd.news h.wd.head (by decide)⟩, Bt.set (X := wb) h.bt (.inl (.inr rfl))⟩
theorem CK.below {w0 w w1 : World} {b wb : Nat} {lv ms ns : Value} {D : CoD} {W : WdD} (h : CK w0 w b wb lv ms ns D W) (hb : Below w.heap.size w w1) : CK w0 w1 b wb lv ms ns D W :=
  ⟨h.co.below hb, h.wd.below hb, h.bt.trans (Bt.of_below (R := fun _ => False) hb) (fun q hq => hq.elim)⟩
theorem CK.step {w0 w : World} {b wb : Nat} {lv ms ns : Value} {D : CoD} {W : WdD} (h : CK w0 w b wb lv ms ns D W) : CStep w0 b wb lv ms ns w D W :=
  ⟨lv, ms, ns, h.co, h.wd, ⟨h.bt.os, h.bt.tape, h.bt.output, h.bt.size, fun q hq hn => h.bt.block q hq fun e => hn (e.elim .inl (fun e => .inr (.inl e)))⟩, .refl _ _, .refl _ _, .refl _ _⟩
theorem CK.on {w0 w w2 : World} {b wb : Nat} {lv ms ns : Value} {D D2 : CoD} {W W2 : WdD} (h : CK w0 w b wb lv ms ns D W) (k : CStep w b wb lv ms ns w2 D2 W2) : CStep w0 b wb lv ms ns w2 D2 W2 := by
  refine CStep.glue (lv1 := lv) (ms1 := ms) (ns1 := ns) ?_ (.refl _ _) (.refl _ _) (.refl _ _) k
  exact ⟨h.bt.os, h.bt.tape, h.bt.output, h.bt.size, fun q hq hn => h.bt.block q hq fun e => hn (e.elim .inl (fun e => .inr (.inl e)))⟩
theorem Co.fz {w : World} {base b : Nat} {lv : Value} {D : CoD} (h : Co w base b lv D) (i : Nat) : w.frozen? ⟨b, i, none⟩ = false := by simp [World.frozen?, h.head]
theorem Wd.fz {w : World} {wb : Nat} {ms ns : Value} {W : WdD} (h : Wd w wb ms ns W) (i : Nat) : w.frozen? ⟨wb, i, none⟩ = false := by simp [World.frozen?, h.head]
theorem Wd.cell {w : World} {wb : Nat} {ms ns : Value} {W : WdD} (h : Wd w wb ms ns W) (i : Nat) : w.cell? ⟨wb, i, none⟩ = (#[Value.bool W.keep, ms, ns])[i]? := by
  rw [cell_of_row _ _ _ _ _ _ h.head]
theorem coC_vot (D : CoD) (lv : Value) (n : Nat) (hn : n < 7) (v : Bool) : (coC D lv).setIfInBounds (12 + n) (.bool v) = coC { D with votes := upd D.votes n v } lv := by
  match n, hn with
  | 0, _ => rfl
  | 1, _ => rfl
  | 2, _ => rfl
  | 3, _ => rfl
  | 4, _ => rfl
  | 5, _ => rfl
  | 6, _ => rfl
def noVotes : Array Value := #[.bool false, .bool false, .bool false, .bool false, .bool false, .bool false, .bool false]
theorem CK.votes {w0 w : World} {b wb : Nat} {lv ms ns : Value} {D : CoD} {W : WdD} (h : CK w0 w b wb lv ms ns D W) : CK w0 (w.setCells b 12 noVotes.toList) b wb lv ms ns { D with votes := fun _ => false } W := by
  have h7 := ((((((h.set 12 (.bool false) (coC_vot D lv 0 (by omega) false) rfl).set 13 (.bool false) (coC_vot _ lv 1 (by omega) false) rfl).set 14 (.bool false) (coC_vot _ lv 2 (by omega) false) rfl).set 15 (.bool false) (coC_vot _ lv 3 (by omega) false) rfl).set 16 (.bool false) (coC_vot _ lv 4 (by omega) false) rfl).set 17 (.bool false) (coC_vot _ lv 5 (by omega) false) rfl).set 18 (.bool false) (coC_vot _ lv 6 (by omega) false) rfl
  exact ⟨⟨h7.co.head, h7.co.log⟩, h7.wd, h7.bt⟩
theorem Co.there {w : World} {base b : Nat} {lv : Value} {D : CoD} (h : Co w base b lv D) : w.there b 12 7 := fun j hj => ⟨by rw [h.vot j hj]; rfl, h.fz _⟩
/-- What stand leaves ahead of win. -/
def standD (D : CoD) : CoD := { D with term := D.term + 1, vote := D.self, role := 1, leader := -1, clock := 0, votes := upd (fun _ => false) D.self.toNat true }
theorem vNow_eq {D D' : CoD} (h1 : D'.bv = D.bv) (h2 : D'.log = D.log) : vNow D' = vNow D := by unfold vNow; rw [h2]; exact vUp_eq h1 h2 _
theorem oRow_eq {D D' : CoD} (h1 : D'.bv = D.bv) (h2 : D'.log = D.log) (h3 : D'.self = D.self) : oRow D' = oRow D := by unfold oRow; rw [vNow_eq h1 h2, h3]
set_option maxRecDepth 100000 in
set_option maxHeartbeats 4000000 in
theorem stand_alone (b wb : Nat) (lv ms ns : Value) (D D2 : CoD) (W W2 : WdD) (w : World) (h : Co w 0 b lv D) (k : Wd w wb ms ns W) (hi : CoI D) (hs : (vNow D).size ≤ 999999) (ho : oRow D = []) (hn0 : 0 ≤ D.self) (hn1 : D.self < 7) (ht0 : 0 ≤ D.term) (ht1 : D.term ≤ 1099511627776)
    (hwn : ∀ w1, Co w1 0 b lv (standD D) → Wd w1 wb ms ns { W with keep := true } → Calls Try.prog 92 #[.pointer (some ⟨b, 0, none⟩), .pointer (some ⟨wb, 0, none⟩)] w1 fun e w' => e = .returned (.tuple #[]) ∧ CStep w1 b wb lv ms ns w' D2 W2) :
    Calls Try.prog 73 #[.pointer (some ⟨b, 0, none⟩), .pointer (some ⟨wb, 0, none⟩)] w fun e w' => e = .returned (.tuple #[]) ∧ CStep w b wb lv ms ns w' D2 W2 := by
  have HWN := hid hwn
  have HI := hid hi
  have HSZ := hid hs
  have H := hid h
  have K0 := hid k
  have HO := hid ho
  have c0 : w.drew.cell? ⟨b, 0, none⟩ = some (.int .i64 D.self) := h.cell 0
  have c1 : w.drew.cell? ⟨b, 1, none⟩ = some (.int .i64 D.term) := h.cell 1
  have hw1 : IntKind.i64.wrap (D.term + 1) = D.term + 1 := IntWalk.i64_in _ ⟨by omega, by omega⟩
  clear h k hi hs ho hwn
  go_enter Try.func73, Try.ntmps73
  go_wp2_with fail
  refine wp_region_held_drew (S := fun Y => Y.cell? ⟨b, 0, none⟩ = some (.int .i64 D.self)) (by kernel_rfl) c0 (fun hHeld => ?_)
  refine wpAnyH_take (i := 0) (v := ?av0) rfl (by kernel_rfl) (by kernel_rfl) (by kernel_rfl) (fun _ _ _ h => h) (Or.inl ⟨by rfl, ?ay0⟩) (by assumption) ?ar0
  case ay0 => (intro w hSw; (try dsimp only at hSw); go_simp; try with_reducible rfl)
  (try simp only [Act.put, List.setIfInBounds_toArray, List.set_cons_zero, List.set_cons_succ, List.getElem_toArray, List.getElem_cons_succ, List.getElem_cons_zero])
  refine wpAnyH_take (i := 1) (v := ?av1) rfl (by kernel_rfl) (by kernel_rfl) (by kernel_rfl) (fun _ _ _ h => h) (Or.inl ⟨by rfl, ?ay1⟩) (by assumption) ?ar1
  case ay1 => (intro w hSw; (try dsimp only at hSw); go_simp; try with_reducible rfl)
  (try simp only [Act.put, List.setIfInBounds_toArray, List.set_cons_zero, List.set_cons_succ, List.getElem_toArray, List.getElem_cons_succ, List.getElem_cons_zero])
  refine wpAnyH_take (i := 2) (v := ?av2) rfl (by kernel_rfl) (by kernel_rfl) (by kernel_rfl) (fun _ _ _ h => h) (Or.inl ⟨by rfl, ?ay2⟩) (by assumption) ?ar2
  case ay2 => (intro w hSw; (try dsimp only at hSw); go_simp; try with_reducible rfl)
  (try simp only [Act.put, List.setIfInBounds_toArray, List.set_cons_zero, List.set_cons_succ, List.getElem_toArray, List.getElem_cons_succ, List.getElem_cons_zero])
  refine wpAnyH_take (i := 3) (v := ?av3) rfl (by kernel_rfl) (by kernel_rfl) (by kernel_rfl) (fun _ _ _ h => h) (Or.inl ⟨by rfl, ?ay3⟩) (by assumption) ?ar3
  case ay3 => (intro w hSw; (try dsimp only at hSw); go_simp; try with_reducible rfl)
  (try simp only [Act.put, List.setIfInBounds_toArray, List.set_cons_zero, List.set_cons_succ, List.getElem_toArray, List.getElem_cons_succ, List.getElem_cons_zero])
  refine wpAnyH_take (i := 4) (v := ?av4) rfl (by kernel_rfl) (by kernel_rfl) (by kernel_rfl) (fun _ _ _ h => h) (Or.inl ⟨by rfl, ?ay4⟩) (by assumption) ?ar4
  case ay4 => (intro w hSw; (try dsimp only at hSw); go_simp; try with_reducible rfl)
  (try simp only [Act.put, List.setIfInBounds_toArray, List.set_cons_zero, List.set_cons_succ, List.getElem_toArray, List.getElem_cons_succ, List.getElem_cons_zero])
  refine wpAnyH_take (i := 7) (v := ?av7) rfl (by kernel_rfl) (by kernel_rfl) (by kernel_rfl) (fun _ _ _ h => h) (Or.inl ⟨by rfl, ?ay7⟩) (by assumption) ?ar7
  case ay7 => (intro w hSw; (try dsimp only at hSw); go_simp; try with_reducible rfl)
  (try simp only [Act.put, List.setIfInBounds_toArray, List.set_cons_zero, List.set_cons_succ, List.getElem_toArray, List.getElem_cons_succ, List.getElem_cons_zero])
  refine wpAnyH_take (i := 8) (v := ?av8) rfl (by kernel_rfl) (by kernel_rfl) (by kernel_rfl) (fun _ _ _ h => h) (Or.inl ⟨by rfl, ?ay8⟩) (by assumption) ?ar8
  case ay8 => (intro w hSw; (try dsimp only at hSw); go_simp; try with_reducible rfl)
  (try simp only [Act.put, List.setIfInBounds_toArray, List.set_cons_zero, List.set_cons_succ, List.getElem_toArray, List.getElem_cons_succ, List.getElem_cons_zero])
  refine wpAnyH_take (i := 9) (v := ?av9) rfl (by kernel_rfl) (by kernel_rfl) (by kernel_rfl) (fun _ _ _ h => h) (Or.inl ⟨by rfl, ?ay9⟩) (by assumption) ?ar9
  case ay9 => (intro w hSw; (try dsimp only at hSw); go_simp; try with_reducible rfl)
  (try simp only [Act.put, List.setIfInBounds_toArray, List.set_cons_zero, List.set_cons_succ, List.getElem_toArray, List.getElem_cons_succ, List.getElem_cons_zero])
  refine wpAnyH_take (i := 10) (v := ?av10) rfl (by kernel_rfl) (by kernel_rfl) (by kernel_rfl) (fun _ _ _ h => h) (Or.inl ⟨by rfl, ?ay10⟩) (by assumption) ?ar10
  case ay10 => (intro w hSw; (try dsimp only at hSw); go_simp; try with_reducible rfl)
  (try simp only [Act.put, List.setIfInBounds_toArray, List.set_cons_zero, List.set_cons_succ, List.getElem_toArray, List.getElem_cons_succ, List.getElem_cons_zero])
  refine wpAnyH_ready (rs := [5]) (by kernel_rfl) (by simp) ?_
  refine AllReadyH.cons rfl (fun K hK => ?_) AllReadyH.nil
  rw [if_pos (by rfl)]
  go_simp
  refine hK.out _ _ hHeld (fun hHeld => ?_)
  try clear hK K
  (try simp only [Act.put, List.setIfInBounds_toArray, List.set_cons_zero, List.set_cons_succ, List.getElem_toArray, List.getElem_cons_succ, List.getElem_cons_zero])
  refine wpAnyH_take (i := 6) (v := ?av6) rfl (by kernel_rfl) (by kernel_rfl) (by kernel_rfl) (fun _ _ _ h => h) (Or.inl ⟨by rfl, ?ay6⟩) (by assumption) ?ar6
  case ay6 => (intro w hSw; (try dsimp only at hSw); go_simp; try with_reducible rfl)
  (try simp only [Act.put, List.setIfInBounds_toArray, List.set_cons_zero, List.set_cons_succ, List.getElem_toArray, List.getElem_cons_succ, List.getElem_cons_zero])
  refine wpAnyH_take (i := 11) (v := ?av11) rfl (by kernel_rfl) (by kernel_rfl) (by kernel_rfl) (fun _ _ _ h => h) (Or.inl ⟨by rfl, ?ay11⟩) (by assumption) ?ar11
  case ay11 => (intro w hSw; (try dsimp only at hSw); go_simp; try with_reducible rfl)
  (try simp only [Act.put, List.setIfInBounds_toArray, List.set_cons_zero, List.set_cons_succ, List.getElem_toArray, List.getElem_cons_succ, List.getElem_cons_zero])
  refine wpAnyH_take (i := 12) (v := ?av12) rfl (by kernel_rfl) (by kernel_rfl) (by kernel_rfl) (fun _ _ _ h => h) (Or.inl ⟨by rfl, ?ay12⟩) (by assumption) ?ar12
  case ay12 => (intro w hSw; (try dsimp only at hSw); go_simp; try with_reducible rfl)
  (try simp only [Act.put, List.setIfInBounds_toArray, List.set_cons_zero, List.set_cons_succ, List.getElem_toArray, List.getElem_cons_succ, List.getElem_cons_zero])
  refine wpAnyH_ready (rs := [13]) (by kernel_rfl) (by simp) ?_
  refine AllReadyH.cons rfl (fun K hK => ?_) AllReadyH.nil
  rw [if_pos (by rfl)]
  have f1 := H.out.fz 1
  have f1b : w.drew.frozen? ⟨b, 1, none⟩ = false := f1
  go_simp
  have C1 : Hid (CK w (w.drew.setCell ⟨b, 1, none⟩ (.int .i64 (D.term + 1))) b wb lv ms ns { D with term := D.term + 1 } W) := hid (((CK.refl H.out K0.out).below ((Below.refl _ _).drew)).set 1 _ rfl rfl)
  refine hK.out _ _ (C1.out.co.cell 0) (fun hHeld => ?_)
  clear f1 f1b
  try clear hK K
  (try simp only [Act.put, List.setIfInBounds_toArray, List.set_cons_zero, List.set_cons_succ, List.getElem_toArray, List.getElem_cons_succ, List.getElem_cons_zero])
  refine wpAnyH_take (i := 14) (v := ?av14) rfl (by kernel_rfl) (by kernel_rfl) (by kernel_rfl) (fun _ _ _ h => h) (Or.inl ⟨by rfl, ?ay14⟩) (by assumption) ?ar14
  case ay14 => (intro w hSw; (try dsimp only at hSw); go_simp; try with_reducible rfl)
  (try simp only [Act.put, List.setIfInBounds_toArray, List.set_cons_zero, List.set_cons_succ, List.getElem_toArray, List.getElem_cons_succ, List.getElem_cons_zero])
  refine wpAnyH_take (i := 15) (v := ?av15) rfl (by kernel_rfl) (by kernel_rfl) (by kernel_rfl) (fun _ _ _ h => h) (Or.inl ⟨by rfl, ?ay15⟩) (by assumption) ?ar15
  case ay15 => (intro w hSw; (try dsimp only at hSw); go_simp; try with_reducible rfl)
  (try simp only [Act.put, List.setIfInBounds_toArray, List.set_cons_zero, List.set_cons_succ, List.getElem_toArray, List.getElem_cons_succ, List.getElem_cons_zero])
  refine wpAnyH_ready (rs := [16]) (by kernel_rfl) (by simp) ?_
  refine AllReadyH.cons rfl (fun K hK => ?_) AllReadyH.nil
  rw [if_pos (by rfl)]
  have c2 := C1.out.co.cell 2
  have c2' : ((w.setCell ⟨b, 1, none⟩ (.int .i64 (D.term + 1))).drew).cell? ⟨b, 2, none⟩ = some (.int .i64 D.vote) := c2
  have f2 : ((w.setCell ⟨b, 1, none⟩ (.int .i64 (D.term + 1))).drew).frozen? ⟨b, 2, none⟩ = false := C1.out.co.fz 2
  clear c2
  go_simp
  have C2 : Hid (CK w ((w.drew.setCell ⟨b, 1, none⟩ (.int .i64 (D.term + 1))).setCell ⟨b, 2, none⟩ (.int .i64 D.self)) b wb lv ms ns { D with term := D.term + 1, vote := D.self } W) := hid (C1.out.set 2 _ rfl rfl)
  refine hK.out _ _ (C2.out.co.cell 0) (fun hHeld => ?_)
  clear f2 c2'
  try clear hK K
  (try simp only [Act.put, List.setIfInBounds_toArray, List.set_cons_zero, List.set_cons_succ, List.getElem_toArray, List.getElem_cons_succ, List.getElem_cons_zero])
  refine wpAnyH_done (by kernel_rfl) ?_ _
  obtain ⟨w2, hw2⟩ : ∃ w2, w2 = ((w.setCell ⟨b, 1, none⟩ (.int .i64 (D.term + 1))).setCell ⟨b, 2, none⟩ (.int .i64 D.self)).drew := ⟨_, rfl⟩
  have C2' : Hid (CK w w2 b wb lv ms ns { D with term := D.term + 1, vote := D.self } W) := hid (by rw [hw2]; exact C2.out)
  rw [← hw2]
  clear hw2 C1 C2 hHeld c0 c1 hw1
  have C3 := hid (C2'.out.set (D' := { D with term := D.term + 1, vote := D.self, role := 1 }) 8 (.int .i64 1) rfl rfl)
  have C4 := hid (C3.out.set (D' := { D with term := D.term + 1, vote := D.self, role := 1, leader := -1 }) 9 (.int .i64 (-1)) rfl rfl)
  have C5 := hid (C4.out.set (D' := { D with term := D.term + 1, vote := D.self, role := 1, leader := -1, clock := 0 }) 11 (.int .i64 0) rfl rfl)
  have c8 : w2.cell? ⟨b, 8, none⟩ = some (.int .i64 D.role) := C2'.out.co.cell 8
  have f8 := C2'.out.co.fz 8
  have c9 : (w2.setCell ⟨b, 8, none⟩ (.int .i64 1)).cell? ⟨b, 9, none⟩ = some (.int .i64 D.leader) := C3.out.co.cell 9
  have f9 := C3.out.co.fz 9
  have c11 : ((w2.setCell ⟨b, 8, none⟩ (.int .i64 1)).setCell ⟨b, 9, none⟩ (.int .i64 (-1))).cell? ⟨b, 11, none⟩ = some (.int .i64 D.clock) := C4.out.co.cell 11
  have f11 := C4.out.co.fz 11
  go_upto_region 2 with fail
  obtain ⟨w3, hw3⟩ : ∃ w3, w3 = ((w2.setCell ⟨b, 8, none⟩ (.int .i64 1)).setCell ⟨b, 9, none⟩ (.int .i64 (-1))).setCell ⟨b, 11, none⟩ (.int .i64 0) := ⟨_, rfl⟩
  rw [← hw3] at C5
  rw [← hw3]
  clear hw3 C3 C4 c8 f8 c9 f9 c11 f11
  have C6 := hid C5.out.votes
  have hth : w3.there b 12 (#[.bool false, .bool false, .bool false, .bool false, .bool false, .bool false, .bool false] : Array Value).size := C5.out.co.there
  have hsz : (Try.prog.info? 89).map (·.size) = some (#[.bool false, .bool false, .bool false, .bool false, .bool false, .bool false, .bool false] : Array Value).size := by kernel_rfl
  have hon : (#[.bool false, .bool false, .bool false, .bool false, .bool false, .bool false, .bool false] : Array Value).all (·.oneCell') = true := by simp [Value.oneCell']
  have HST := hid (fun (ops : Array Oper) rest op a Q hgd x y ho hx hy => wpList_store_mid (P := Try.prog) (ops := ops) (rest := rest) (op := op) (a := a) (Q := Q) hgd 89 x y ho b 12 _ hx hy hth hsz hon)
  clear hth hsz hon
  go_wp2_with (refine HST.out _ _ _ _ _ rfl _ _ rfl rfl rfl ?_)
  obtain ⟨w4, hw4⟩ : ∃ w4, w4 = w3.setCells b 12 [.bool false, .bool false, .bool false, .bool false, .bool false, .bool false, .bool false] := ⟨_, rfl⟩
  have C6' : Hid (CK w w4 b wb lv ms ns { D with term := D.term + 1, vote := D.self, role := 1, leader := -1, clock := 0, votes := fun _ => false } W) := hid (by rw [hw4]; exact C6.out)
  rw [← hw4]
  clear hw4 C6 C5 HST
  have C6 := C6'
  clear C6'
  have c0 : w4.drew.cell? ⟨b, 0, none⟩ = some (.int .i64 D.self) := C6.out.co.cell 0
  refine wp_region_held_drew (S := fun Y => Y.cell? ⟨b, 0, none⟩ = some (.int .i64 D.self)) (by kernel_rfl) c0 (fun hHeld => ?_)
  refine wpAnyH_take (i := 0) (v := ?bv0) rfl (by kernel_rfl) (by kernel_rfl) (by kernel_rfl) (fun _ _ _ h => h) (Or.inl ⟨by rfl, ?by0⟩) (by assumption) ?br0
  case by0 => (intro w hSw; (try dsimp only at hSw); go_simp; try with_reducible rfl)
  (try simp only [Act.put, List.setIfInBounds_toArray, List.set_cons_zero, List.set_cons_succ, List.getElem_toArray, List.getElem_cons_succ, List.getElem_cons_zero])
  refine wpAnyH_take (i := 1) (v := ?bv1) rfl (by kernel_rfl) (by kernel_rfl) (by kernel_rfl) (fun _ _ _ h => h) (Or.inl ⟨by rfl, ?by1⟩) (by assumption) ?br1
  case by1 => (intro w hSw; (try dsimp only at hSw); go_simp; try with_reducible rfl)
  (try simp only [Act.put, List.setIfInBounds_toArray, List.set_cons_zero, List.set_cons_succ, List.getElem_toArray, List.getElem_cons_succ, List.getElem_cons_zero])
  refine wpAnyH_take (i := 2) (v := ?bv2) rfl (by kernel_rfl) (by kernel_rfl) (by kernel_rfl) (fun _ _ _ h => h) (Or.inl ⟨by rfl, ?by2⟩) (by assumption) ?br2
  case by2 => (intro w hSw; (try dsimp only at hSw); go_simp; try with_reducible rfl)
  (try simp only [Act.put, List.setIfInBounds_toArray, List.set_cons_zero, List.set_cons_succ, List.getElem_toArray, List.getElem_cons_succ, List.getElem_cons_zero])
  refine wpAnyH_take (i := 3) (v := ?bv3) rfl (by kernel_rfl) (by kernel_rfl) (by kernel_rfl) (fun _ _ _ h => h) (Or.inl ⟨by rfl, ?by3⟩) (by assumption) ?br3
  case by3 => (intro w hSw; (try dsimp only at hSw); go_simp; try with_reducible rfl)
  (try simp only [Act.put, List.setIfInBounds_toArray, List.set_cons_zero, List.set_cons_succ, List.getElem_toArray, List.getElem_cons_succ, List.getElem_cons_zero])
  refine wpAnyH_take (i := 4) (v := ?bv4) rfl (by kernel_rfl) (by kernel_rfl) (by kernel_rfl) (fun _ _ _ h => h) (Or.inl ⟨by rfl, ?by4⟩) (by assumption) ?br4
  case by4 => (intro w hSw; (try dsimp only at hSw); go_simp; try with_reducible rfl)
  (try simp only [Act.put, List.setIfInBounds_toArray, List.set_cons_zero, List.set_cons_succ, List.getElem_toArray, List.getElem_cons_succ, List.getElem_cons_zero])
  refine wpAnyH_take (i := 5) (v := ?bv5) rfl (by kernel_rfl) (by kernel_rfl) (by kernel_rfl) (fun _ _ _ h => h) (Or.inl ⟨by rfl, ?by5⟩) (by assumption) ?br5
  case by5 => (intro w hSw; (try dsimp only at hSw); go_simp; try with_reducible rfl)
  (try simp only [Act.put, List.setIfInBounds_toArray, List.set_cons_zero, List.set_cons_succ, List.getElem_toArray, List.getElem_cons_succ, List.getElem_cons_zero])
  refine wpAnyH_take (i := 6) (v := ?bv6) rfl (by kernel_rfl) (by kernel_rfl) (by kernel_rfl) (fun _ _ _ h => h) (Or.inl ⟨by rfl, ?by6⟩) (by assumption) ?br6
  case by6 => (intro w hSw; (try dsimp only at hSw); go_simp; try with_reducible rfl)
  (try simp only [Act.put, List.setIfInBounds_toArray, List.set_cons_zero, List.set_cons_succ, List.getElem_toArray, List.getElem_cons_succ, List.getElem_cons_zero])
  refine wpAnyH_take (i := 7) (v := ?bv7) rfl (by kernel_rfl) (by kernel_rfl) (by kernel_rfl) (fun _ _ _ h => h) (Or.inl ⟨by rfl, ?by7⟩) (by assumption) ?br7
  case by7 => (intro w hSw; (try dsimp only at hSw); go_simp; try with_reducible rfl)
  (try simp only [Act.put, List.setIfInBounds_toArray, List.set_cons_zero, List.set_cons_succ, List.getElem_toArray, List.getElem_cons_succ, List.getElem_cons_zero])
  refine wpAnyH_ready (rs := [8]) (by kernel_rfl) (by simp) ?_
  refine AllReadyH.cons rfl (fun K hK => ?_) AllReadyH.nil
  rw [if_pos (by rfl)]
  have v1 := C6.out.co.vot D.self.toNat (by omega)
  have v1' : w4.drew.cell? ⟨b, 12 + D.self.toNat, none⟩ = some (.bool false) := v1
  have f1 : w4.drew.frozen? ⟨b, 12 + D.self.toNat, none⟩ = false := C6.out.co.fz _
  clear v1
  go_simp
  have C7 : Hid (CK w (w4.drew.setCell ⟨b, 12 + D.self.toNat, none⟩ (.bool true)) b wb lv ms ns (standD D) W) := hid ((C6.out.below ((Below.refl _ _).drew)).set _ _ (coC_vot _ lv D.self.toNat (by omega) true) rfl)
  refine hK.out _ _ (C7.out.co.cell 0) (fun hHeld => ?_)
  clear f1 v1'
  try clear hK K
  (try simp only [Act.put, List.setIfInBounds_toArray, List.set_cons_zero, List.set_cons_succ, List.getElem_toArray, List.getElem_cons_succ, List.getElem_cons_zero])
  refine wpAnyH_done (by kernel_rfl) ?_ _
  obtain ⟨w5, hw5⟩ : ∃ w5, w5 = (w4.setCell ⟨b, 12 + D.self.toNat, none⟩ (.bool true)).drew := ⟨_, rfl⟩
  have C8 : Hid (CK w w5 b wb lv ms ns (standD D) W) := hid (by rw [hw5]; exact C7.out)
  rw [← hw5]
  clear hw5 C6 C7 hHeld c0
  have C9 := hid (C8.out.keep true)
  have k0 : w5.cell? ⟨wb, 0, none⟩ = some (.bool W.keep) := C8.out.wd.cell 0
  have kf := C8.out.wd.fz 0
  go_upto_region 5 with fail
  obtain ⟨w6, hw6⟩ : ∃ w6, w6 = w5.setCell ⟨wb, 0, none⟩ (.bool true) := ⟨_, rfl⟩
  rw [← hw6] at C9
  rw [← hw6]
  clear hw6 C8 k0 kf
  have HI9 : Hid (CoI (standD D)) := hid ⟨HI.out.lo, HI.out.hi, HI.out.len⟩
  have HOT := hid (fun Y (hY : Co Y 0 b lv (standD D)) => others_any 0 b lv (standD D) Y hY HI9.out (by rw [vNow_eq (D := D) (D' := standD D) rfl rfl]; exact HSZ.out))
  rw [oRow_eq (D := D) (D' := standD D) rfl rfl rfl, HO.out] at HOT
  go_wp2_with (first | (go_at_call 16; refine (last_any 0 b lv _ _ C9.out.co HI9.out).mono ?_; rintro e w7 ⟨rfl, m7, rfl⟩) | (go_at_call 65; refine (HOT.out _ (C9.out.below (belowN _ _)).co).mono ?_; rintro e w8 ⟨v8, rfl, hb8, ho8⟩; obtain ⟨va8, vc8, rfl⟩ := own_shape ho8; have B8 := hid ((belowN w6 m7).trans hb8); clear hb8 ho8))
  go_loopw [6, 51] (fun _ iv wr => iv = .int .i64 0 ∧ wr = w8) (fun _ _ _ => 0)
  case atStart => exact ⟨rfl, rfl⟩
  case round =>
    obtain ⟨rfl, hwr⟩ := hrel
    replace hwr := hwr.symm
    subst hwr
    have CW := hid (C9.out.below B8.out)
    go_wp2_with (go_at_call 92; refine (HWN.out _ CW.out.co CW.out.wd).mono ?_; rintro e w9 ⟨rfl, hst⟩; have ST := hid hst; clear hst)
    first | go_end0 | refine bodyPost_ret (results_none rfl _ _ _) rfl ?_
    exact ⟨rfl, CW.out.on ST.out⟩
end Go.Proofs.Ytjimneaimnjanaa
