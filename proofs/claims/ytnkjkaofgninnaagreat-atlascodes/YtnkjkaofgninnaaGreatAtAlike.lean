/- Alike: a map of shards and the document's that has the same. Conditions: both lie in memory, the shards stand one behind the other. -/
import Derived.Test.YtnkjkaofgninnaaGreatAtShards
namespace Go.Proofs.YtnkjkaofgninnaaGreat
open Go.RowKit Go.Maps Go.Shelf
set_option linter.unusedVariables false
set_option linter.unusedSimpArgs false

/-- What holds of each map of shards. -/
structure AIn (N : AtN) (X : List SX) : Prop where
  ch : Chn 0 X N.bl
  shb : ∀ x ∈ X, ShB x.s
  id : ∀ x ∈ X, 1 ≤ x.s.id ∧ x.s.id ≤ 4611686018427387904
  one : ∀ x ∈ X, ∀ y ∈ X, y.s.id = x.s.id → y = x
  len : X.length ≤ 100000
  opl : N.op.length ≤ 1000000
  bl : N.bl ≤ 1000000
theorem AIn.i64 {N : AtN} {X : List SX} (h : AIn N X) : ∀ x ∈ X, I64 x.s.id := fun x hx => by have := h.id x hx; constructor <;> omega
theorem find_yesW (b wb mb n : Nat) (ov : Value) (D : DataW Value) (N : AtN) (X : List SX) (k : Int) (x : SX) (a t : Int) (w : World) (h : Aw w b wb mb n ov D N X) (hc : Chn a X t) (hx : x ∈ X) (hk : x.s.fr ≤ k ∧ k < x.s.to) (hb : ShB x.s) (hI : I64 x.s.id) (hd : ∀ y ∈ X, y.s.id = x.s.id → y = x) (hl : X.length ≤ 1000000) (hu : ∀ u v, HasP (X.map SX.pc) k u → HasP (X.map SX.pc) k v → u = v) :
    Calls Tryz.prog 41 #[.pointer (some ⟨b, 0, none⟩), .int .i64 k] w (GtS x.s true w) := by
  have hlk : ∀ Y, Below w.heap.size w Y → (Instr.lookup 52 (.map (some mb)) (.int .i64 x.s.id) false).run Tryz.prog Y = .ok (shV x.s x.mv x.pv) Y := by
    rcases h.m.look x.s.id hI with ⟨y, hy, hyi, -, hl⟩ | ⟨hno, -⟩
    · rw [hd y hy hyi] at hl; exact hl
    · exact absurd rfl (hno x hx)
  have hg : GetOf (X.map SX.pc) k x.s.id true := ⟨fun _ => (has_pc X k _).2 ⟨x, hx, hk.1, hk.2, rfl⟩, fun e => by cases e⟩
  refine find_at b wb mb n ov D N _ X k x.s.id x.s x.mv x.pv true w h.m (h.m.mem x hx) hb (fun Y hY => ?_) hlk
  refine (getM_any wb (X.map SX.pc) k Y (h.m.whr.kept hY) (by rw [List.length_map]; exact hl)).mono ?_
  rintro e w' ⟨i, o, h1, rfl, hb'⟩
  obtain ⟨rfl, rfl⟩ := getOf_eq hu h1 hg
  exact ⟨rfl, hb'⟩
set_option maxRecDepth 100000 in
set_option maxHeartbeats 8000000 in
theorem alikeW_any (b wb mb n xb : Nat) (ov rv sv : Value) (D : DataW Value) (N : AtN) (X Z : List SX) (w : World) (h : Aw w b wb mb n ov D N X) (hi : AIn N X) (hr : RA w xb N rv sv Z) (hz : Z.map (·.s) = X.map (·.s)) :
    Calls Tryz.prog 9 #[.pointer (some ⟨b, 0, none⟩), .pointer (some ⟨xb, 0, none⟩)] w fun e w' => e = .returned (.bool true) ∧ Below w.heap.size w w' := by
  have HA := hid h
  have HIN := hid hi
  have HR := hid hr
  have HZ := hid hz
  have hzl : Z.length = X.length := by have := congrArg List.length hz; simpa using this
  have HZL := hid hzl
  clear hzl
  obtain ⟨ra, rc, hre⟩ := hr.opn.shape
  obtain ⟨sa, sc, hse⟩ := own_shape hr.row
  subst hre hse
  clear h hi hr hz
  have SW : Hid (∀ Y, Below w.heap.size w Y → Y.cell? ⟨xb, 0, none⟩ = some (.int .i64 N.bl) ∧ Y.cell? ⟨xb, 1, none⟩ = some (.int .i64 N.ep) ∧ Y.cell? ⟨xb, 2, none⟩ = some (.int .i64 N.nx) ∧ Y.cell? ⟨xb, 3, none⟩ = some (.slice ra N.op.length rc)) := hid fun Y hY => by
    have h1 := (hY.block xb (lt_of_block HR.out.box)).trans HR.out.box
    exact ⟨by rw [cell_of_row _ _ _ _ _ _ h1]; rfl, by rw [cell_of_row _ _ _ _ _ _ h1]; rfl, by rw [cell_of_row _ _ _ _ _ _ h1]; rfl, by rw [cell_of_row _ _ _ _ _ _ h1]; rfl⟩
  go_enter Tryz.func9, Tryz.ntmps9
  go_upto_region 1 with fail
  have BT : Hid (Below w.heap.size w w.drew) := hid ((Below.refl _ _).drew)
  refine wp_region_held_drew (S := fun Y => Y.cell? ⟨xb, 0, none⟩ = some (.int .i64 N.bl) ∧ Y.cell? ⟨xb, 1, none⟩ = some (.int .i64 N.ep) ∧ Y.cell? ⟨xb, 2, none⟩ = some (.int .i64 N.nx) ∧ Y.cell? ⟨xb, 3, none⟩ = some (.slice ra N.op.length rc)) (by kernel_rfl) (SW.out _ BT.out) (fun hHeld => ?_)
  refine wpAnyH_take (i := 0) (v := ?pv0) rfl (by kernel_rfl) (by kernel_rfl) (by kernel_rfl) (fun _ _ _ h => h) (Or.inl ⟨by rfl, ?py0⟩) (by assumption) ?pr0
  case py0 => (intro w hSw; (try dsimp only at hSw); go_simp; try with_reducible rfl)
  (try simp only [Act.put, putS])
  refine wpAnyH_take (i := 1) (v := ?pv1) rfl (by kernel_rfl) (by kernel_rfl) (by kernel_rfl) (fun _ _ _ h => h) (Or.inl ⟨by rfl, ?py1⟩) (by assumption) ?pr1
  case py1 => (intro w hSw; (try dsimp only at hSw); go_simp; try with_reducible rfl)
  (try simp only [Act.put, putS])
  refine wpAnyH_take (i := 2) (v := ?pv2) rfl (by kernel_rfl) (by kernel_rfl) (by kernel_rfl) (fun _ _ _ h => h) (Or.inl ⟨by rfl, ?py2⟩) (by assumption) ?pr2
  case py2 => (intro w hSw; (try dsimp only at hSw); go_simp; try with_reducible rfl)
  (try simp only [Act.put, putS])
  refine wpAnyH_take (i := 3) (v := ?pv3) rfl (by kernel_rfl) (by kernel_rfl) (by kernel_rfl) (fun _ _ _ h => h) (Or.inl ⟨by rfl, ?py3⟩) (by assumption) ?pr3
  case py3 => (intro w hSw; (try dsimp only at hSw); go_simp; try with_reducible rfl)
  (try simp only [Act.put, putS])
  refine wpAnyH_take (i := 5) (v := ?pv5) rfl (by kernel_rfl) (by kernel_rfl) (by kernel_rfl) (fun _ _ _ h => h) (Or.inl ⟨by rfl, ?py5⟩) (by assumption) ?pr5
  case py5 => (intro w hSw; (try dsimp only at hSw); go_simp; try with_reducible rfl)
  (try simp only [Act.put, putS])
  refine wpAnyH_take (i := 6) (v := ?pv6) rfl (by kernel_rfl) (by kernel_rfl) (by kernel_rfl) (fun _ _ _ h => h) (Or.inl ⟨by rfl, ?py6⟩) (by assumption) ?pr6
  case py6 => (intro w hSw; (try dsimp only at hSw); go_simp; try with_reducible rfl)
  (try simp only [Act.put, putS])
  refine wpAnyH_take (i := 7) (v := ?pv7) rfl (by kernel_rfl) (by kernel_rfl) (by kernel_rfl) (fun _ _ _ h => h) (Or.inl ⟨by rfl, ?py7⟩) (by assumption) ?pr7
  case py7 => (intro w hSw; (try dsimp only at hSw); go_simp; try with_reducible rfl)
  (try simp only [Act.put, putS])
  refine wpAnyH_take (i := 8) (v := ?pv8) rfl (by kernel_rfl) (by kernel_rfl) (by kernel_rfl) (fun _ _ _ h => h) (Or.inl ⟨by rfl, ?py8⟩) (by assumption) ?pr8
  case py8 => (intro w hSw; (try dsimp only at hSw); go_simp; try with_reducible rfl)
  (try simp only [Act.put, putS])
  refine wpAnyH_ready (rs := [4]) (by kernel_rfl) (by simp) ?_
  refine AllReadyH.cons rfl (fun K hK => ?_) AllReadyH.nil
  rw [if_pos (by rfl)]
  go_wp2_with fail
  refine (ablocks_any b wb mb n ov D N _ X _ (HA.out.m.below BT.out)).mono ?_
  rintro e wx ⟨rfl, hx⟩
  replace hx := hx.symm
  subst hx
  refine hK.out _ _ (SW.out _ BT.out) (fun hHeld => ?_)
  try clear hK K
  (try simp only [Act.put, putS])
  refine wpAnyH_take (i := 9) (v := ?pv9) rfl (by kernel_rfl) (by kernel_rfl) (by kernel_rfl) (fun _ _ _ h => h) (Or.inl ⟨by rfl, ?py9⟩) (by assumption) ?pr9
  case py9 => (intro w hSw; (try dsimp only at hSw); go_simp; try with_reducible rfl)
  (try simp only [Act.put, putS])
  refine wpAnyH_take (i := 10) (v := ?pv10) rfl (by kernel_rfl) (by kernel_rfl) (by kernel_rfl) (fun _ _ _ h => h) (Or.inl ⟨by rfl, ?py10⟩) (by assumption) ?pr10
  case py10 => (intro w hSw; (try dsimp only at hSw); go_simp; try with_reducible rfl)
  (try simp only [Act.put, putS])
  refine wpAnyH_take (i := 11) (v := ?pv11) rfl (by kernel_rfl) (by kernel_rfl) (by kernel_rfl) (fun _ _ _ h => h) (Or.inl ⟨by rfl, ?py11⟩) (by assumption) ?pr11
  case py11 => (intro w hSw; (try dsimp only at hSw); go_simp; try with_reducible rfl)
  (try simp only [Act.put, putS])
  refine wpAnyH_take (i := 12) (v := ?pv12) rfl (by kernel_rfl) (by kernel_rfl) (by kernel_rfl) (fun _ _ _ h => h) (Or.inl ⟨by rfl, ?py12⟩) (by assumption) ?pr12
  case py12 => (intro w hSw; (try dsimp only at hSw); go_simp; try with_reducible rfl)
  (try simp only [Act.put, putS])
  refine wpAnyH_take (i := 14) (v := ?pv14) rfl (by kernel_rfl) (by kernel_rfl) (by kernel_rfl) (fun _ _ _ h => h) (Or.inl ⟨by rfl, ?py14⟩) (by assumption) ?pr14
  case py14 => (intro w hSw; (try dsimp only at hSw); go_simp; try with_reducible rfl)
  (try simp only [Act.put, putS])
  refine wpAnyH_take (i := 15) (v := ?pv15) rfl (by kernel_rfl) (by kernel_rfl) (by kernel_rfl) (fun _ _ _ h => h) (Or.inl ⟨by rfl, ?py15⟩) (by assumption) ?pr15
  case py15 => (intro w hSw; (try dsimp only at hSw); go_simp; try with_reducible rfl)
  (try simp only [Act.put, putS])
  refine wpAnyH_take (i := 16) (v := ?pv16) rfl (by kernel_rfl) (by kernel_rfl) (by kernel_rfl) (fun _ _ _ h => h) (Or.inl ⟨by rfl, ?py16⟩) (by assumption) ?pr16
  case py16 => (intro w hSw; (try dsimp only at hSw); go_simp; try with_reducible rfl)
  (try simp only [Act.put, putS])
  refine wpAnyH_take (i := 17) (v := ?pv17) rfl (by kernel_rfl) (by kernel_rfl) (by kernel_rfl) (fun _ _ _ h => h) (Or.inl ⟨by rfl, ?py17⟩) (by assumption) ?pr17
  case py17 => (intro w hSw; (try dsimp only at hSw); go_simp; try with_reducible rfl)
  (try simp only [Act.put, putS])
  refine wpAnyH_ready (rs := [13]) (by kernel_rfl) (by simp) ?_
  refine AllReadyH.cons rfl (fun K hK => ?_) AllReadyH.nil
  rw [if_pos (by rfl)]
  go_wp2_with fail
  refine (aepoch_any b wb mb n ov D N _ X _ (HA.out.m.below BT.out)).mono ?_
  rintro e wx ⟨rfl, hx⟩
  replace hx := hx.symm
  subst hx
  refine hK.out _ _ (SW.out _ BT.out) (fun hHeld => ?_)
  try clear hK K
  (try simp only [Act.put, putS])
  refine wpAnyH_take (i := 18) (v := ?pv18) rfl (by kernel_rfl) (by kernel_rfl) (by kernel_rfl) (fun _ _ _ h => h) (Or.inl ⟨by rfl, ?py18⟩) (by assumption) ?pr18
  case py18 => (intro w hSw; (try dsimp only at hSw); go_simp; try with_reducible rfl)
  (try simp only [Act.put, putS])
  refine wpAnyH_take (i := 19) (v := ?pv19) rfl (by kernel_rfl) (by kernel_rfl) (by kernel_rfl) (fun _ _ _ h => h) (Or.inl ⟨by rfl, ?py19⟩) (by assumption) ?pr19
  case py19 => (intro w hSw; (try dsimp only at hSw); go_simp; try with_reducible rfl)
  (try simp only [Act.put, putS])
  refine wpAnyH_take (i := 20) (v := ?pv20) rfl (by kernel_rfl) (by kernel_rfl) (by kernel_rfl) (fun _ _ _ h => h) (Or.inl ⟨by rfl, ?py20⟩) (by assumption) ?pr20
  case py20 => (intro w hSw; (try dsimp only at hSw); go_simp; try with_reducible rfl)
  (try simp only [Act.put, putS])
  refine wpAnyH_take (i := 21) (v := ?pv21) rfl (by kernel_rfl) (by kernel_rfl) (by kernel_rfl) (fun _ _ _ h => h) (Or.inl ⟨by rfl, ?py21⟩) (by assumption) ?pr21
  case py21 => (intro w hSw; (try dsimp only at hSw); go_simp; try with_reducible rfl)
  (try simp only [Act.put, putS])
  refine wpAnyH_take (i := 23) (v := ?pv23) rfl (by kernel_rfl) (by kernel_rfl) (by kernel_rfl) (fun _ _ _ h => h) (Or.inl ⟨by rfl, ?py23⟩) (by assumption) ?pr23
  case py23 => (intro w hSw; (try dsimp only at hSw); go_simp; try with_reducible rfl)
  (try simp only [Act.put, putS])
  refine wpAnyH_take (i := 24) (v := ?pv24) rfl (by kernel_rfl) (by kernel_rfl) (by kernel_rfl) (fun _ _ _ h => h) (Or.inl ⟨by rfl, ?py24⟩) (by assumption) ?pr24
  case py24 => (intro w hSw; (try dsimp only at hSw); go_simp; try with_reducible rfl)
  (try simp only [Act.put, putS])
  refine wpAnyH_take (i := 25) (v := ?pv25) rfl (by kernel_rfl) (by kernel_rfl) (by kernel_rfl) (fun _ _ _ h => h) (Or.inl ⟨by rfl, ?py25⟩) (by assumption) ?pr25
  case py25 => (intro w hSw; (try dsimp only at hSw); go_simp; try with_reducible rfl)
  (try simp only [Act.put, putS])
  refine wpAnyH_take (i := 26) (v := ?pv26) rfl (by kernel_rfl) (by kernel_rfl) (by kernel_rfl) (fun _ _ _ h => h) (Or.inl ⟨by rfl, ?py26⟩) (by assumption) ?pr26
  case py26 => (intro w hSw; (try dsimp only at hSw); go_simp; try with_reducible rfl)
  (try simp only [Act.put, putS])
  refine wpAnyH_ready (rs := [22]) (by kernel_rfl) (by simp) ?_
  refine AllReadyH.cons rfl (fun K hK => ?_) AllReadyH.nil
  rw [if_pos (by rfl)]
  go_wp2_with fail
  refine (anext_any b wb mb n ov D N _ X _ (HA.out.m.below BT.out)).mono ?_
  rintro e wx ⟨rfl, hx⟩
  replace hx := hx.symm
  subst hx
  refine hK.out _ _ (SW.out _ BT.out) (fun hHeld => ?_)
  try clear hK K
  (try simp only [Act.put, putS])
  refine wpAnyH_take (i := 27) (v := ?pv27) rfl (by kernel_rfl) (by kernel_rfl) (by kernel_rfl) (fun _ _ _ h => h) (Or.inl ⟨by rfl, ?py27⟩) (by assumption) ?pr27
  case py27 => (intro w hSw; (try dsimp only at hSw); go_simp; try with_reducible rfl)
  (try simp only [Act.put, putS])
  refine wpAnyH_take (i := 28) (v := ?pv28) rfl (by kernel_rfl) (by kernel_rfl) (by kernel_rfl) (fun _ _ _ h => h) (Or.inl ⟨by rfl, ?py28⟩) (by assumption) ?pr28
  case py28 => (intro w hSw; (try dsimp only at hSw); go_simp; try with_reducible rfl)
  (try simp only [Act.put, putS])
  refine wpAnyH_take (i := 29) (v := ?pv29) rfl (by kernel_rfl) (by kernel_rfl) (by kernel_rfl) (fun _ _ _ h => h) (Or.inl ⟨by rfl, ?py29⟩) (by assumption) ?pr29
  case py29 => (intro w hSw; (try dsimp only at hSw); go_simp; try with_reducible rfl)
  (try simp only [Act.put, putS])
  refine wpAnyH_take (i := 30) (v := ?pv30) rfl (by kernel_rfl) (by kernel_rfl) (by kernel_rfl) (fun _ _ _ h => h) (Or.inl ⟨by rfl, ?py30⟩) (by assumption) ?pr30
  case py30 => (intro w hSw; (try dsimp only at hSw); go_simp; try with_reducible rfl)
  (try simp only [Act.put, putS])
  refine wpAnyH_take (i := 32) (v := ?pv32) rfl (by kernel_rfl) (by kernel_rfl) (by kernel_rfl) (fun _ _ _ h => h) (Or.inl ⟨by rfl, ?py32⟩) (by assumption) ?pr32
  case py32 => (intro w hSw; (try dsimp only at hSw); go_simp; try with_reducible rfl)
  (try simp only [Act.put, putS])
  refine wpAnyH_take (i := 33) (v := ?pv33) rfl (by kernel_rfl) (by kernel_rfl) (by kernel_rfl) (fun _ _ _ h => h) (Or.inl ⟨by rfl, ?py33⟩) (by assumption) ?pr33
  case py33 => (intro w hSw; (try dsimp only at hSw); go_simp; try with_reducible rfl)
  (try simp only [Act.put, putS])
  refine wpAnyH_take (i := 34) (v := ?pv34) rfl (by kernel_rfl) (by kernel_rfl) (by kernel_rfl) (fun _ _ _ h => h) (Or.inl ⟨by rfl, ?py34⟩) (by assumption) ?pr34
  case py34 => (intro w hSw; (try dsimp only at hSw); go_simp; try with_reducible rfl)
  (try simp only [Act.put, putS])
  refine wpAnyH_take (i := 35) (v := ?pv35) rfl (by kernel_rfl) (by kernel_rfl) (by kernel_rfl) (fun _ _ _ h => h) (Or.inl ⟨by rfl, ?py35⟩) (by assumption) ?pr35
  case py35 => (intro w hSw; (try dsimp only at hSw); go_simp; try with_reducible rfl)
  (try simp only [Act.put, putS])
  refine wpAnyH_ready (rs := [31]) (by kernel_rfl) (by simp) ?_
  refine AllReadyH.cons rfl (fun K hK => ?_) AllReadyH.nil
  rw [if_pos (by rfl)]
  go_wp2_with fail
  refine (aopen_any b wb mb n ov D N _ X _ (HA.out.m.below BT.out) HIN.out.opl).mono ?_
  rintro e w3 ⟨va3, vc3, rfl, ho3, hb3⟩
  have O3 := hid (nums_own ho3 rfl)
  replace BT := hid (BT.out.trans (hb3.mono BT.out.size))
  clear ho3 hb3
  refine hK.out _ _ (SW.out _ BT.out) (fun hHeld => ?_)
  try clear hK K
  (try simp only [Act.put, putS])
  refine wpAnyH_ready (rs := [36]) (by kernel_rfl) (by simp) ?_
  refine AllReadyH.cons rfl (fun K hK => ?_) AllReadyH.nil
  rw [if_pos (by rfl)]
  go_wp2_with fail
  refine (sameInts_eq N.op _ _ _ O3.out (HR.out.opn.below BT.out)).mono ?_
  rintro e w4 ⟨rfl, hb4⟩
  replace BT := hid (BT.out.trans (hb4.mono BT.out.size))
  clear hb4
  refine hK.out _ _ (SW.out _ BT.out) (fun hHeld => ?_)
  try clear hK K
  (try simp only [Act.put, putS])
  refine wpAnyH_take (i := 37) (v := ?pv37) rfl (by kernel_rfl) (by kernel_rfl) (by kernel_rfl) (fun _ _ _ h => h) (Or.inl ⟨by rfl, ?py37⟩) (by assumption) ?pr37
  case py37 => (intro w hSw; (try dsimp only at hSw); go_simp; try with_reducible rfl)
  (try simp only [Act.put, putS])
  refine wpAnyH_take (i := 38) (v := ?pv38) rfl (by kernel_rfl) (by kernel_rfl) (by kernel_rfl) (fun _ _ _ h => h) (Or.inl ⟨by rfl, ?py38⟩) (by assumption) ?pr38
  case py38 => (intro w hSw; (try dsimp only at hSw); go_simp; try with_reducible rfl)
  (try simp only [Act.put, putS])
  refine wpAnyH_done (by kernel_rfl) ?_ _
  clear hHeld
  go_upto_region 4 with (go_at_call 19; refine (shardsW_any b wb mb n ov D N X _ (HA.out.below BT.out) HIN.out.shb HIN.out.i64 HIN.out.one HIN.out.len).mono ?_; rintro e w5 ⟨Y, va5, vc5, rfl, hy5, ho5, hm5, hb5⟩; have Y5 := hid hy5; have O5 := hid ho5; have M5 := hid hm5; have B5 := hid (BT.out.trans (hb5.mono BT.out.size)); clear hy5 ho5 hm5 hb5)
  have hR5 := (B5.out.block xb (lt_of_block HR.out.box)).trans HR.out.box
  have c4 : w5.cell? ⟨xb, 4, none⟩ = some (.slice sa Z.length sc) := by rw [cell_of_row _ _ _ _ _ _ hR5]; rfl
  have hyl : Y.length = Z.length := by have := congrArg List.length Y5.out; rw [List.length_map, List.length_map] at this; have := HZL.out; omega
  have HYL := hid hyl
  have hzI : (Z.length : Int) ≤ 100000 := by have := HIN.out.len; have := HZL.out; omega
  rw [hyl]
  clear hyl hR5
  go_wp2_with fail
  go_loopw [6, 7, 8, 9, 10, 11, 66] (fun _ _ _ _ _ _ iv wr => ∃ i : Nat, iv = .int .i64 i ∧ i ≤ Z.length ∧ Below w5.heap.size w5 wr) (fun _ _ _ _ _ _ iv _ => Z.length - (intOf iv).toNat)
  case atStart => exact ⟨0, rfl, Nat.zero_le _, Below.refl _ _⟩
  case round =>
    obtain ⟨i, rfl, hi, hb⟩ := hrel
    have BR := hid hb
    have BWR := hid (B5.out.trans (hb.mono B5.out.size))
    clear hb c4
    by_cases hlt : (i : Int) < (Z.length : Int)
    · have hil : i < Z.length := by omega
      have hix : i < X.length := by have := HZL.out; omega
      have hiy : i < Y.length := by have := HYL.out; omega
      have hzs : Z[i].s = X[i].s := by have h1 : (Z.map (·.s))[i]? = (X.map (·.s))[i]? := by rw [HZ.out]
                                       simpa [hil, hix] using h1
      have hys : Y[i].s = X[i].s := by have h1 : (Y.map (·.s))[i]? = (X.map (·.s))[i]? := by rw [Y5.out]
                                       simpa [hiy, hix] using h1
      have hx := List.getElem_mem hix
      have hrow := own_below HR.out.row BWR.out
      obtain ⟨gs, rfl⟩ : ∃ g, sa = some ⟨g, 0, none⟩ := own_some hrow (by omega)
      have hrg := own_range hrow (i * 5) _ (shvs_part Z i hil)
      have hnz := (HR.out.mem _ (List.getElem_mem hil)).below BWR.out
      have hny := ((M5.out _ (List.getElem_mem hiy)).n).below BR.out
      have hyrow := own_below O5.out BR.out
      obtain ⟨gy, rfl⟩ : ∃ g, va5 = some ⟨g, 0, none⟩ := own_some hyrow (by omega)
      have hyg := own_range hyrow (i * 5) _ (shvs_part Y i hiy)
      have AR := hid (HA.out.below BWR.out)
      have HSB := hid (HIN.out.shb _ hx)
      have HID := hid (HIN.out.i64 _ hx)
      have HON := hid (HIN.out.one _ hx)
      have HCM := hid (Chn.mem X 0 N.bl HIN.out.ch _ hx)
      have HXM := hid hx
      obtain ⟨xi, hxi⟩ : ∃ xi, xi = X[i] := ⟨_, rfl⟩
      obtain ⟨S, hS⟩ : ∃ S, S = xi.s := ⟨_, rfl⟩
      rw [← hxi] at hzs hys HSB HID HON HCM HXM
      rw [← hS] at hzs hys HSB HID HCM
      have hON : ∀ y ∈ X, y.s.id = S.id → y = xi := by rw [hS]; exact HON.out
      rw [hzs] at hnz
      rw [hys] at hny
      obtain ⟨⟨za, zc, ez1⟩, ⟨zp, zq, ez2⟩⟩ := hnz.shape
      obtain ⟨⟨ya, yc, ey1⟩, ⟨yp, yq, ey2⟩⟩ := hny.shape
      unfold SX.c at hrg hyg
      rw [hzs, ez1, ez2] at hrg
      rw [hys, ey1, ey2] at hyg
      rw [ez1, ez2] at hnz
      rw [ey1, ey2] at hny
      have NZ0 := hid hnz
      have NY0 := hid hny
      have HYG := hid hyg
      have HPL := hid HSB.out.p
      have HGET := hid (fun Q (hQ : Aw Q b wb mb n ov D N X) => (aget_any b wb mb n ov D N _ X S.id Q hQ.m HID.out HIN.out.shb).mono (fun e w' (hg : GtP X S.id Q e w') => show GtS S true Q e w' from by
        rcases hg with ⟨y, hy, hyi, hg⟩ | ⟨hno, -⟩
        · rw [hON y hy hyi, ← hS] at hg; exact hg
        · exact absurd (by rw [hS]) (hno xi HXM.out)))
      have HFND := hid (fun Q (hQ : Aw Q b wb mb n ov D N X) => (find_yesW b wb mb n ov D N X (S.to - 1) xi 0 N.bl Q hQ HIN.out.ch HXM.out (by rw [← hS]; have := HCM.out; omega) (by rw [← hS]; exact HSB.out) (by rw [← hS]; exact HID.out) (by rw [← hS]; exact hON) (by have := HIN.out.len; omega) (chn_one X 0 N.bl (S.to - 1) HIN.out.ch)).mono (fun e w' hg => show GtS S true Q e w' from by rw [← hS] at hg; exact hg))
      have hwt : IntKind.i64.wrap (S.to - 1) = S.to - 1 := IntWalk.i64_in _ ⟨by have := HCM.out; omega, by have := HCM.out; have := HIN.out.bl; omega⟩
      clear hzs hys hx hrow hnz hny hyrow hyg hxi hS hON ez1 ez2 ey1 ey2 HSB HID HON HXM HCM
      go_upto_region 9 with (refine wpl_loadM rfl _ rfl gs (i * 5) (by go_simp) _ _ _ _ _ hrg ?_)
      have hb7 : Below wr.heap.size wr (wr.alloc (.cells #[.int .i64 S.id, .int .i64 S.fr, .int .i64 S.to, .slice za S.mem.length zc, .slice zp S.past.length zq] 61)) := (Below.refl _ _).alloc (Nat.le_refl _) _
      have hg7 := heap_alloc_new wr (.cells #[.int .i64 S.id, .int .i64 S.fr, .int .i64 S.to, .slice za S.mem.length zc, .slice zp S.past.length zq] 61)
      have B7 := hid hb7
      have G7 := hid hg7
      clear hb7 hg7 hrg
      generalize wr.alloc (.cells #[.int .i64 S.id, .int .i64 S.fr, .int .i64 S.to, .slice za S.mem.length zc, .slice zp S.past.length zq] 61) = w7 at *
      obtain ⟨P7, hP7⟩ : ∃ P, P = wr.heap.size := ⟨_, rfl⟩
      rw [← hP7] at G7
      rw [← hP7]
      clear hP7
      have i0 : w7.cell? ⟨P7, 0, none⟩ = some (.int .i64 S.id) := by rw [cell_of_row _ _ _ _ _ _ G7.out]; rfl
      go_upto_region 10 with (go_at_call 40; refine (HGET.out _ (AR.out.below B7.out)).mono ?_; rintro e w8 ⟨mg, pg, rfl, hsg, hbg⟩; obtain ⟨⟨ga, gc, rfl⟩, ⟨gp, gq, rfl⟩⟩ := hsg.shape; have SG := hid hsg; have B78 := hid hbg; unfold shV; clear hsg hbg)
      clear i0
      have hb8 : Below w8.heap.size w8 (w8.alloc (.cells #[.int .i64 S.id, .int .i64 S.fr, .int .i64 S.to, .slice ga S.mem.length gc, .slice gp S.past.length gq] 61)) := (Below.refl _ _).alloc (Nat.le_refl _) _
      have hg8 := heap_alloc_new w8 (.cells #[.int .i64 S.id, .int .i64 S.fr, .int .i64 S.to, .slice ga S.mem.length gc, .slice gp S.past.length gq] 61)
      have B8 := hid ((B7.out.trans (B78.out.mono B7.out.size)).trans (hb8.mono (B7.out.trans (B78.out.mono B7.out.size)).size))
      have G8 := hid hg8
      have NG8 := hid (SG.out.n.below hb8)
      have G78 := hid ((hb8.block P7 (Nat.lt_of_lt_of_le (lt_of_block G7.out) B78.out.size)).trans ((B78.out.block P7 (lt_of_block G7.out)).trans G7.out))
      clear hb8 hg8
      generalize w8.alloc (.cells #[.int .i64 S.id, .int .i64 S.fr, .int .i64 S.to, .slice ga S.mem.length gc, .slice gp S.past.length gq] 61) = w8b at *
      obtain ⟨P8, hP8⟩ : ∃ P, P = w8.heap.size := ⟨_, rfl⟩
      rw [← hP8] at G8
      rw [← hP8]
      clear hP8
      have i2 : w8b.cell? ⟨P7, 2, none⟩ = some (.int .i64 S.to) := by rw [cell_of_row _ _ _ _ _ _ G78.out]; rfl
      go_upto_region 11 with (go_at_call 41; refine (HFND.out _ (AR.out.below B8.out)).mono ?_; rintro e w9 ⟨mf, pf, rfl, hsf, hbf⟩; obtain ⟨⟨fa, fc, rfl⟩, ⟨fp, fq, rfl⟩⟩ := hsf.shape; have SF := hid hsf; have B89 := hid hbf; unfold shV; clear hsf hbf)
      clear i2
      have hb9 : Below w9.heap.size w9 (w9.alloc (.cells #[.int .i64 S.id, .int .i64 S.fr, .int .i64 S.to, .slice fa S.mem.length fc, .slice fp S.past.length fq] 61)) := (Below.refl _ _).alloc (Nat.le_refl _) _
      have hg9 := heap_alloc_new w9 (.cells #[.int .i64 S.id, .int .i64 S.fr, .int .i64 S.to, .slice fa S.mem.length fc, .slice fp S.past.length fq] 61)
      have hb89 := B89.out.trans (hb9.mono B89.out.size)
      have B9 := hid (B8.out.trans (hb89.mono B8.out.size))
      have G9 := hid hg9
      have NF := hid (SF.out.n.below hb9)
      have NG := hid (NG8.out.below hb89)
      have G79 := hid ((hb89.block P7 (lt_of_block G78.out)).trans G78.out)
      have G89 := hid ((hb89.block P8 (lt_of_block G8.out)).trans G8.out)
      clear hb9 hg9 hb89
      generalize w9.alloc (.cells #[.int .i64 S.id, .int .i64 S.fr, .int .i64 S.to, .slice fa S.mem.length fc, .slice fp S.past.length fq] 61) = wv at *
      obtain ⟨P9, hP9⟩ : ∃ P, P = w9.heap.size := ⟨_, rfl⟩
      rw [← hP9] at G9
      rw [← hP9]
      clear hP9
      have NZ := hid (NZ0.out.below B9.out)
      have NY := hid (NY0.out.below B9.out)
      have SV : Hid (∀ Q, Below wv.heap.size wv Q → Q.rangeAt gy (i * 5) [.int .i64 S.id, .int .i64 S.fr, .int .i64 S.to, .slice ya S.mem.length yc, .slice yp S.past.length yq] ∧ Q.rangeAt P7 0 [.int .i64 S.id, .int .i64 S.fr, .int .i64 S.to, .slice za S.mem.length zc, .slice zp S.past.length zq] ∧ Q.rangeAt P8 0 [.int .i64 S.id, .int .i64 S.fr, .int .i64 S.to, .slice ga S.mem.length gc, .slice gp S.past.length gq] ∧ Q.rangeAt P9 0 [.int .i64 S.id, .int .i64 S.fr, .int .i64 S.to, .slice fa S.mem.length fc, .slice fp S.past.length fq]) := hid fun Q hQ =>
        ⟨fun j v hv => cell_later (B9.out.trans (hQ.mono B9.out.size)) (HYG.out j v hv), range_of_row ((hQ.block P7 (lt_of_block G79.out)).trans G79.out) 0 _ (fun j v hv => by rw [Nat.zero_add]; simpa using hv), range_of_row ((hQ.block P8 (lt_of_block G89.out)).trans G89.out) 0 _ (fun j v hv => by rw [Nat.zero_add]; simpa using hv), range_of_row ((hQ.block P9 (lt_of_block G9.out)).trans G9.out) 0 _ (fun j v hv => by rw [Nat.zero_add]; simpa using hv)⟩
      obtain ⟨dS, hdS1, hdS2⟩ := Tryz.rowSh
      clear BT
      have BT : Hid (Below wv.heap.size wv wv.drew) := hid ((Below.refl _ _).drew)
      have hlz : (i : Int) < (Z.length : Int) := hlt
      refine wp_region_held_drew (S := fun Q => Q.rangeAt gy (i * 5) [.int .i64 S.id, .int .i64 S.fr, .int .i64 S.to, .slice ya S.mem.length yc, .slice yp S.past.length yq] ∧ Q.rangeAt P7 0 [.int .i64 S.id, .int .i64 S.fr, .int .i64 S.to, .slice za S.mem.length zc, .slice zp S.past.length zq] ∧ Q.rangeAt P8 0 [.int .i64 S.id, .int .i64 S.fr, .int .i64 S.to, .slice ga S.mem.length gc, .slice gp S.past.length gq] ∧ Q.rangeAt P9 0 [.int .i64 S.id, .int .i64 S.fr, .int .i64 S.to, .slice fa S.mem.length fc, .slice fp S.past.length fq]) (by kernel_rfl) (SV.out _ BT.out) (fun hHeld => ?_)
      refine wpAnyH_take (i := 0) (v := ?qv0) rfl (by kernel_rfl) (by kernel_rfl) (by kernel_rfl) (fun _ _ _ h => h) (Or.inl ⟨by rfl, ?qy0⟩) (by assumption) ?qr0
      case qy0 => (intro w hSw; (try dsimp only at hSw); go_simp; try with_reducible rfl)
      (try simp only [Act.put, putS])
      refine wpAnyH_take (i := 1) (v := ?qv1) rfl (by kernel_rfl) (by kernel_rfl) (by kernel_rfl) (fun _ _ _ h => h) (Or.inl ⟨by rfl, ?qy1⟩) (by assumption) ?qr1
      case qy1 => (intro w hSw; (try dsimp only at hSw); go_simp; try with_reducible rfl)
      (try simp only [Act.put, putS])
      refine wpAnyH_take (i := 2) (v := ?qv2) rfl (by kernel_rfl) (by kernel_rfl) (by kernel_rfl) (fun _ _ _ h => h) (Or.inl ⟨by rfl, ?qy2⟩) (by assumption) ?qr2
      case qy2 => (intro w hSw; (try dsimp only at hSw); go_simp; try with_reducible rfl)
      (try simp only [Act.put, putS])
      refine wpAnyH_take (i := 3) (v := ?qv3) rfl (by kernel_rfl) (by kernel_rfl) (by kernel_rfl) (fun _ _ _ h => h) (Or.inl ⟨by rfl, ?qy3⟩) (by assumption) ?qr3
      case qy3 => (intro w hSw; (try dsimp only at hSw); go_simp; try with_reducible rfl)
      (try simp only [Act.put, putS])
      refine wpAnyH_take (i := 4) (v := ?qv4) rfl (by kernel_rfl) (by kernel_rfl) (by kernel_rfl) (fun _ _ _ h => h) (Or.inl ⟨by rfl, ?qy4⟩) (by assumption) ?qr4
      case qy4 => (intro w hSw; (try dsimp only at hSw); go_simp; try with_reducible rfl)
      (try simp only [Act.put, putS])
      refine wpAnyH_take (i := 5) (v := ?qv5) rfl (by kernel_rfl) (by kernel_rfl) (by kernel_rfl) (fun _ _ _ h => h) (Or.inl ⟨by rfl, ?qy5⟩) (by assumption) ?qr5
      case qy5 => (intro w hSw; (try dsimp only at hSw); go_simp; try with_reducible rfl)
      (try simp only [Act.put, putS])
      refine wpAnyH_take (i := 6) (v := ?qv6) rfl (by kernel_rfl) (by kernel_rfl) (by kernel_rfl) (fun _ _ _ h => h) (Or.inl ⟨by rfl, ?qy6⟩) (by assumption) ?qr6
      case qy6 => (intro w hSw; (try dsimp only at hSw); go_simp; try with_reducible rfl)
      (try simp only [Act.put, putS])
      refine wpAnyH_take (i := 7) (v := ?qv7) rfl (by kernel_rfl) (by kernel_rfl) (by kernel_rfl) (fun _ _ _ h => h) (Or.inl ⟨by rfl, ?qy7⟩) (by assumption) ?qr7
      case qy7 => (intro w hSw; (try dsimp only at hSw); go_simp; try with_reducible rfl)
      (try simp only [Act.put, putS])
      refine wpAnyH_take (i := 8) (v := ?qv8) rfl (by kernel_rfl) (by kernel_rfl) (by kernel_rfl) (fun _ _ _ h => h) (Or.inl ⟨by rfl, ?qy8⟩) (by assumption) ?qr8
      case qy8 => (intro w hSw; (try dsimp only at hSw); go_simp; try with_reducible rfl)
      (try simp only [Act.put, putS])
      refine wpAnyH_take (i := 9) (v := ?qv9) rfl (by kernel_rfl) (by kernel_rfl) (by kernel_rfl) (fun _ _ _ h => h) (Or.inl ⟨by rfl, ?qy9⟩) (by assumption) ?qr9
      case qy9 => (intro w hSw; (try dsimp only at hSw); go_simp; try with_reducible rfl)
      (try simp only [Act.put, putS])
      refine wpAnyH_take (i := 10) (v := .agg #[.int .i64 S.id, .int .i64 S.fr, .int .i64 S.to, .slice ya S.mem.length yc, .slice yp S.past.length yq]) rfl (by kernel_rfl) (by kernel_rfl) (by kernel_rfl) (fun _ _ _ h => h) (yieldsIf_load_mid rfl _ _ rfl gy (i * 5) (by go_simp) [.int .i64 S.id, .int .i64 S.fr, .int .i64 S.to, .slice ya S.mem.length yc, .slice yp S.past.length yq] dS (fun Y hY => hY.1) hdS1 hdS2 Tryz.sizeSh) (by assumption) ?_
      (try simp only [Act.put, putS])
      refine wpAnyH_take (i := 11) (v := .agg #[.int .i64 S.id, .int .i64 S.fr, .int .i64 S.to, .slice za S.mem.length zc, .slice zp S.past.length zq]) rfl (by kernel_rfl) (by kernel_rfl) (by kernel_rfl) (fun _ _ _ h => h) (yieldsIf_load_mid rfl _ _ rfl P7 0 rfl [.int .i64 S.id, .int .i64 S.fr, .int .i64 S.to, .slice za S.mem.length zc, .slice zp S.past.length zq] dS (fun Y hY => hY.2.1) hdS1 hdS2 Tryz.sizeSh) (by assumption) ?_
      (try simp only [Act.put, putS])
      refine wpAnyH_ready (rs := [12]) (by kernel_rfl) (by simp) ?_
      refine AllReadyH.cons rfl (fun K hK => ?_) AllReadyH.nil
      rw [if_pos (by rfl)]
      go_wp2_with fail
      refine (sameShard_eq S _ _ _ _ _ (NY.out.below BT.out) (NZ.out.below BT.out) HPL.out).mono ?_
      rintro e wq ⟨rfl, hbq⟩
      replace BT := hid (BT.out.trans (hbq.mono BT.out.size))
      clear hbq
      refine hK.out _ _ (SV.out _ BT.out) (fun hHeld => ?_)
      try clear hK K
      (try simp only [Act.put, putS])
      refine wpAnyH_take (i := 13) (v := ?rv13) rfl (by kernel_rfl) (by kernel_rfl) (by kernel_rfl) (fun _ _ _ h => h) (Or.inl ⟨by rfl, ?ry13⟩) (by assumption) ?rr13
      case ry13 => (intro w hSw; (try dsimp only at hSw); go_simp; try with_reducible rfl)
      (try simp only [Act.put, putS])
      refine wpAnyH_take (i := 14) (v := ?rv14) rfl (by kernel_rfl) (by kernel_rfl) (by kernel_rfl) (fun _ _ _ h => h) (Or.inl ⟨by rfl, ?ry14⟩) (by assumption) ?rr14
      case ry14 => (intro w hSw; (try dsimp only at hSw); go_simp; try with_reducible rfl)
      (try simp only [Act.put, putS])
      refine wpAnyH_take (i := 15) (v := ?rv15) rfl (by kernel_rfl) (by kernel_rfl) (by kernel_rfl) (fun _ _ _ h => h) (Or.inl ⟨by rfl, ?ry15⟩) (by assumption) ?rr15
      case ry15 => (intro w hSw; (try dsimp only at hSw); go_simp; try with_reducible rfl)
      (try simp only [Act.put, putS])
      refine wpAnyH_take (i := 16) (v := .agg #[.int .i64 S.id, .int .i64 S.fr, .int .i64 S.to, .slice ga S.mem.length gc, .slice gp S.past.length gq]) rfl (by kernel_rfl) (by kernel_rfl) (by kernel_rfl) (fun _ _ _ h => h) (yieldsIf_load_mid rfl _ _ rfl P8 0 rfl [.int .i64 S.id, .int .i64 S.fr, .int .i64 S.to, .slice ga S.mem.length gc, .slice gp S.past.length gq] dS (fun Y hY => hY.2.2.1) hdS1 hdS2 Tryz.sizeSh) (by assumption) ?_
      (try simp only [Act.put, putS])
      refine wpAnyH_take (i := 17) (v := .agg #[.int .i64 S.id, .int .i64 S.fr, .int .i64 S.to, .slice za S.mem.length zc, .slice zp S.past.length zq]) rfl (by kernel_rfl) (by kernel_rfl) (by kernel_rfl) (fun _ _ _ h => h) (yieldsIf_load_mid rfl _ _ rfl P7 0 rfl [.int .i64 S.id, .int .i64 S.fr, .int .i64 S.to, .slice za S.mem.length zc, .slice zp S.past.length zq] dS (fun Y hY => hY.2.1) hdS1 hdS2 Tryz.sizeSh) (by assumption) ?_
      (try simp only [Act.put, putS])
      refine wpAnyH_ready (rs := [18]) (by kernel_rfl) (by simp) ?_
      refine AllReadyH.cons rfl (fun K hK => ?_) AllReadyH.nil
      rw [if_pos (by rfl)]
      go_wp2_with fail
      refine (sameShard_eq S _ _ _ _ _ (NG.out.below BT.out) (NZ.out.below BT.out) HPL.out).mono ?_
      rintro e wq ⟨rfl, hbq⟩
      replace BT := hid (BT.out.trans (hbq.mono BT.out.size))
      clear hbq
      refine hK.out _ _ (SV.out _ BT.out) (fun hHeld => ?_)
      try clear hK K
      (try simp only [Act.put, putS])
      refine wpAnyH_take (i := 19) (v := ?sv19) rfl (by kernel_rfl) (by kernel_rfl) (by kernel_rfl) (fun _ _ _ h => h) (Or.inl ⟨by rfl, ?sy19⟩) (by assumption) ?sr19
      case sy19 => (intro w hSw; (try dsimp only at hSw); go_simp; try with_reducible rfl)
      (try simp only [Act.put, putS])
      refine wpAnyH_take (i := 20) (v := ?sv20) rfl (by kernel_rfl) (by kernel_rfl) (by kernel_rfl) (fun _ _ _ h => h) (Or.inl ⟨by rfl, ?sy20⟩) (by assumption) ?sr20
      case sy20 => (intro w hSw; (try dsimp only at hSw); go_simp; try with_reducible rfl)
      (try simp only [Act.put, putS])
      refine wpAnyH_take (i := 21) (v := ?sv21) rfl (by kernel_rfl) (by kernel_rfl) (by kernel_rfl) (fun _ _ _ h => h) (Or.inl ⟨by rfl, ?sy21⟩) (by assumption) ?sr21
      case sy21 => (intro w hSw; (try dsimp only at hSw); go_simp; try with_reducible rfl)
      (try simp only [Act.put, putS])
      refine wpAnyH_take (i := 22) (v := .agg #[.int .i64 S.id, .int .i64 S.fr, .int .i64 S.to, .slice fa S.mem.length fc, .slice fp S.past.length fq]) rfl (by kernel_rfl) (by kernel_rfl) (by kernel_rfl) (fun _ _ _ h => h) (yieldsIf_load_mid rfl _ _ rfl P9 0 rfl [.int .i64 S.id, .int .i64 S.fr, .int .i64 S.to, .slice fa S.mem.length fc, .slice fp S.past.length fq] dS (fun Y hY => hY.2.2.2) hdS1 hdS2 Tryz.sizeSh) (by assumption) ?_
      (try simp only [Act.put, putS])
      refine wpAnyH_take (i := 23) (v := .agg #[.int .i64 S.id, .int .i64 S.fr, .int .i64 S.to, .slice za S.mem.length zc, .slice zp S.past.length zq]) rfl (by kernel_rfl) (by kernel_rfl) (by kernel_rfl) (fun _ _ _ h => h) (yieldsIf_load_mid rfl _ _ rfl P7 0 rfl [.int .i64 S.id, .int .i64 S.fr, .int .i64 S.to, .slice za S.mem.length zc, .slice zp S.past.length zq] dS (fun Y hY => hY.2.1) hdS1 hdS2 Tryz.sizeSh) (by assumption) ?_
      (try simp only [Act.put, putS])
      refine wpAnyH_ready (rs := [24]) (by kernel_rfl) (by simp) ?_
      refine AllReadyH.cons rfl (fun K hK => ?_) AllReadyH.nil
      rw [if_pos (by rfl)]
      go_wp2_with fail
      refine (sameShard_eq S _ _ _ _ _ (NF.out.below BT.out) (NZ.out.below BT.out) HPL.out).mono ?_
      rintro e wq ⟨rfl, hbq⟩
      replace BT := hid (BT.out.trans (hbq.mono BT.out.size))
      clear hbq
      refine hK.out _ _ (SV.out _ BT.out) (fun hHeld => ?_)
      try clear hK K
      (try simp only [Act.put, putS])
      refine wpAnyH_take (i := 25) (v := ?tv25) rfl (by kernel_rfl) (by kernel_rfl) (by kernel_rfl) (fun _ _ _ h => h) (Or.inl ⟨by rfl, ?ty25⟩) (by assumption) ?tr25
      case ty25 => (intro w hSw; (try dsimp only at hSw); go_simp; try with_reducible rfl)
      (try simp only [Act.put, putS])
      refine wpAnyH_take (i := 26) (v := ?tv26) rfl (by kernel_rfl) (by kernel_rfl) (by kernel_rfl) (fun _ _ _ h => h) (Or.inl ⟨by rfl, ?ty26⟩) (by assumption) ?tr26
      case ty26 => (intro w hSw; (try dsimp only at hSw); go_simp; try with_reducible rfl)
      (try simp only [Act.put, putS])
      refine wpAnyH_done (by kernel_rfl) ?_ _
      go_wp2_with fail
      go_roundw
      case rel => exact ⟨i + 1, by go_num, by omega, (BR.out.trans (B9.out.mono BR.out.size)).trans (BT.out.mono (BR.out.trans (B9.out.mono BR.out.size)).size)⟩
      case measure => simp [intOf]; omega
    · go_wp2_with fail
      go_ret
      exact ⟨rfl, BWR.out⟩
theorem alike_any (b wb mb n xb : Nat) (ov rv sv : Value) (D : DataW Value) (N : AtN) (X Z : List SX) (w : World) (h : At w b wb mb n ov D N X) (hi : AIn N X) (hr : RA w xb N rv sv Z) (hz : Z.map (·.s) = X.map (·.s)) :
    Calls Tryz.prog 9 #[.pointer (some ⟨b, 0, none⟩), .pointer (some ⟨xb, 0, none⟩)] w fun e w' => e = .returned (.bool true) ∧ Below w.heap.size w w' :=
  alikeW_any b wb mb n xb ov rv sv D N X Z w h.aw hi hr hz
end Go.Proofs.YtnkjkaofgninnaaGreat
