/- SpClone AtCloneA: joined. No condition. -/
import Derived.Test.YtnkjkaofgninnaaSpEach
import Derived.Test.YtnkjkaofgninnaaSpGet
import Derived.Lib.SliceRun
import Derived.Test.YtnkjkaofgninnaaAtNew
import Derived.Test.YtnkjkaofgninnaaAtMClone
namespace Go.Proofs.Ytnkjkaofgninnaa
open Go.RowKit Go.Shelf
attribute [local go_sem] Oper.semAt_some

theorem OwnP.empty (w : World) : OwnP (w.alloc (.cells #[] 102)) w.heap.size (.slice (some ⟨w.heap.size, 0, none⟩) 0 0) [] :=
  ⟨rfl, .inr ⟨w.heap.size, 0, #[], rfl, Nat.le_refl _, heap_alloc_new _ _, Nat.le_refl _, Nat.zero_le _, rfl, rfl⟩⟩
set_option maxHeartbeats 800000 in
theorem cloneP_any (v : Value) (l : List Pc) (w : World) (hv : Pcs w v l) (hl : l.length ≤ 1000000000) :
    Calls Try.prog 44 #[v] w fun e w' => ∃ va vc, e = .returned (.slice va l.length vc) ∧ OwnP w' w.heap.size (.slice va l.length vc) l ∧ Below w.heap.size w w' := by
  have HV := hid hv
  obtain ⟨ao, n, cap, rfl, rfl, hc, hcap, hnone, hcell⟩ := hv
  clear hcell
  cases ao with
  | none =>
    have h0 : l = [] := List.eq_nil_of_length_eq_zero (by have := hnone rfl; omega)
    subst h0
    clear hnone
    have hnil := Lib.run_eql_slice_nil (P := Try.prog) w 97 102 none 0 cap 0 0 Try.underlyingPs
    go_enter Try.func44, Try.ntmps44
    go_wp2
    go_ret
    exact ⟨none, 0, rfl, OwnP.nil _ _, Below.refl _ _⟩
  | some a =>
    clear hnone
    have HO := hid (OwnP.empty w)
    have hba : Below w.heap.size w (w.alloc (.cells #[] 102)) := (Below.refl _ _).alloc (Nat.le_refl _) _
    have HA1 := hid (HV.out.below hba)
    have hnil := Lib.run_eql_slice_nil (P := Try.prog) w 97 102 (some a) l.length cap 0 0 Try.underlyingPs
    go_enter Try.func44, Try.ntmps44
    go_wp2_with (at_builtin; refine wpl_appendP rfl _ _ rfl w.heap.size (.slice (some ⟨w.heap.size, 0, none⟩) 0 0) [] rfl HO.out _ l rfl HA1.out (by simp; omega) (by simp) ?_; intro va1 vc1 w2 ho1 hg1; simp only [List.length_nil, Nat.zero_add, List.nil_append] at ho1; have HB2 := hid (hba.trans (belowP_grown HO.out hg1 (by simp))); have HO1 := hid ho1; clear ho1 hg1)
    go_ret
    exact ⟨va1, vc1, by simp, HO1.out, HB2.out⟩
set_option maxHeartbeats 1600000 in
theorem cloneM_any (b : Nat) (l : List Pc) (w : World) (hm : MapC w b l) (hl : l.length ≤ 1000000) :
    Calls Try.prog 22 #[.pointer (some ⟨b, 0, none⟩)] w fun e w' => ∃ g, e = .returned (.pointer (some ⟨g, 0, none⟩)) ∧ MapC w' g l ∧ w.heap.size ≤ g ∧ g < w'.heap.size ∧ Below w.heap.size w w' := by
  have HC := hid hm.can
  have HI := hid hm.ints
  obtain ⟨va, vc, h1, h2⟩ := hm.at'
  have HP := hid (OwnP.pcs h2)
  have cb : w.cell? ⟨b, 0, none⟩ = some (.slice va l.length vc) := by rw [cell_of_row _ _ _ _ _ _ h1]; rfl
  clear hm h1 h2
  go_enter Try.func22, Try.ntmps22
  go_wp2_with fail
  refine (cloneP_any _ l _ HP.out (by omega)).mono ?_
  rintro e w1 ⟨va1, vc1, rfl, ho, hb⟩
  have HO := hid ho
  have HB := hid hb
  clear ho hb
  go_wp2_with fail
  go_ret
  have ba : Below w1.heap.size w1 (w1.alloc (.cells #[.slice va1 l.length vc1] 99)) := (Below.refl _ _).alloc (Nat.le_refl _) _
  exact ⟨w1.heap.size, rfl, ⟨⟨va1, vc1, heap_alloc_new _ _, (HO.out.below ba).lower (Nat.zero_le _)⟩, HC.out, HI.out⟩, HB.out.size, by simp, HB.out.alloc HB.out.size _⟩
set_option maxRecDepth 100000 in
set_option maxHeartbeats 2000000 in
theorem change_nil (pv : Value) (s : Sp) (w : World) :
    Calls Try.prog 65 #[.pointer none, .agg #[.int .i64 s.1, .int .i64 s.2], pv] w fun e w' => e = .returned (.tuple #[]) ∧ Below w.heap.size w w' := by
  obtain ⟨s1, s2⟩ := s
  refine (callsIn_wide (n := 3)).1 ?_
  refine callsIn_of_wp_marks Try.func65 rfl trivial ?_ rfl
  simp only [Try.ntmps65, List.size_toArray, List.length_cons, List.length_nil, Nat.reduceAdd, Nat.reduceSub, Array.replicate_succ, Array.replicate_zero, List.push_toArray, List.append_toArray, List.nil_append, List.cons_append]
  refine wpIn_wide.2 ?_
  go_wp2_with fail
  refine ⟨_, results_none rfl _ _ _, rfl, ?_⟩
  exact (Below.refl _ _).alloc (Nat.le_refl _) _
set_option maxHeartbeats 1600000 in
theorem put_nil (s : Sp) (x : Int) (w : World) :
    Calls Try.prog 59 #[.pointer none, .agg #[.int .i64 s.1, .int .i64 s.2], .int .i64 x] w fun e w' => e = .returned (.tuple #[]) ∧ Below w.heap.size w w' := by
  obtain ⟨s1, s2⟩ := s
  go_enter Try.func59, Try.ntmps59
  go_wp2_with (go_at_call 65; refine (change_nil _ (s1, s2) _).mono ?_; rintro e w2 ⟨rfl, hb⟩; have B2 := hid hb; clear hb)
  go_end0
  have b0 : Below w.heap.size w ((w.alloc (.cells #[.int .i64 s1, .int .i64 s2] 43)).alloc (.cells #[.int .i64 s1, .int .i64 s2, .int .i64 x] 102)) := ((Below.refl _ _).alloc (Nat.le_refl _) _).alloc (by simp) _
  exact ⟨rfl, b0.trans (B2.out.mono b0.size)⟩
set_option maxHeartbeats 1600000 in
theorem clone_nil (w : World) :
    Calls Try.prog 22 #[.pointer none] w fun e w' => ∃ g, e = .returned (.pointer (some ⟨g, 0, none⟩)) ∧ MapC w' g [] ∧ Below w.heap.size w w' := by
  go_enter Try.func22, Try.ntmps22
  go_wp2_with fail
  go_ret
  exact ⟨w.heap.size, rfl, ⟨⟨none, 0, heap_alloc_new _ _, OwnP.nil _ _⟩, ⟨(fun x hx => by cases hx), List.Pairwise.nil⟩, fun x hx => by cases hx⟩, (Below.refl _ _).alloc (Nat.le_refl _) _⟩
set_option maxHeartbeats 1000000 in
theorem each_nil (w : World) :
    Calls Try.prog 34 #[.pointer none] w fun e w' => e = .returned (.func (.func 56) #[] #[.pointer (some ⟨w.heap.size, 0, none⟩)]) ∧
      w' = w.alloc (.cells #[.pointer none] 61 (0, 0)) := by
  have hmf : ∀ (fn : Fn) (first cap : Array Value) (w : World), (Instr.makeFunc fn first cap).run Try.prog w = .ok (.func fn first cap) w := fun _ _ _ _ => rfl
  go_enter Try.func34, Try.ntmps34
  go_wp2_with fail
  go_ret
  exact ⟨rfl, rfl⟩
set_option maxRecDepth 100000 in
set_option maxHeartbeats 1000000 in
theorem each1_none (n : Nat) (y B : Nat) (J : List Pc → World → Prop) (W : World) (hB : W.cell? ⟨B, 0, none⟩ = some (.pointer none)) (h0 : J [] W) :
    CallsIn Fence.wide n Try.prog 56 #[.func (.yield y) #[] #[], .pointer (some ⟨B, 0, none⟩)] W fun e W' => (∃ v, e = .returned v) ∧ J [] W' := by
  refine callsIn_of_wp Try.func56 rfl trivial ?_ rfl
  simp only [Try.ntmps56, List.size_toArray, List.length_cons, List.length_nil, Nat.reduceAdd, Nat.reduceSub, Array.replicate_succ, Array.replicate_zero, List.push_toArray, List.append_toArray, List.nil_append, List.cons_append]
  gi_wp2
  refine bodyPost_ret (results_none rfl _ _ _) rfl ?_
  exact ⟨⟨_, rfl⟩, h0⟩
theorem eachn_stops (n : Nat) (B : Nat) (w : World)
    (hB : w.heap[B]? = some (.cells #[.pointer none] 61 (0, 0))) :
    SeqStopsK Fence.wide n Try.prog 56 #[.pointer (some ⟨B, 0, none⟩)] eachV (fun _ _ => True) (fun ys => ys = []) (fun _ => False) 0 w := fun y J Jx W hW hJ _ hY h0 => by
  have hp := (hW.block B (lt_of_block hB)).trans hB
  have hcB : W.cell? ⟨B, 0, none⟩ = some (.pointer none) := by rw [cell_of_row _ _ _ _ _ _ hp]; rfl
  exact (each1_none n y B J W hcB h0).mono fun e W' ⟨he, hj⟩ => ⟨he, .inl ⟨_, rfl, hj⟩⟩
end Go.Proofs.Ytnkjkaofgninnaa
namespace Go.Proofs.Ytnkjkaofgninnaa
open Go.RowKit Go.Maps Go.Shelf
set_option linter.unusedVariables false
set_option linter.unusedSimpArgs false

theorem cloneN_nil (w : World) : Calls Try.prog 21 #[.slice none 0 0] w fun e w' => e = .returned (.slice none 0 0) ∧ w' = w := by
  have hnil := Lib.run_eql_slice_nil (P := Try.prog) w 38 3 none 0 0 0 0 Try.underlyingIs
  go_enter Try.func21, Try.ntmps21
  go_wp2
  go_ret
  exact ⟨rfl, rfl⟩
theorem Try.sizeAt : (Try.prog.info? 64).map (·.size) = some 6 := by kernel_rfl
theorem Try.structAt0 : (Try.prog.underlying 64).map (fun d => match d with | .struct _ | .array _ _ => true | _ => false) = some true := by kernel_rfl
theorem Try.structAt : ∃ d, Try.prog.underlying 64 = some d ∧ (match d with | .struct _ | .array _ _ => true | _ => false) = true := by
  have h := Try.structAt0
  cases hd : Try.prog.underlying 64 with
  | none => rw [hd] at h; cases h
  | some d => rw [hd] at h; exact ⟨d, rfl, by simpa using h⟩
theorem wpl_loadA {ops : Array Oper} {rest : List Oper} {o : Oper} {a : Act} {w : World} {Q : Exit → Act → World → Prop} (hgd : o.guard = none) (x : Operand) (ho : o.op = .load 64 x)
    (g : Nat) (hx : a.eval x = .pointer (some ⟨g, 0, none⟩)) (t : TypeId) (cs : Array Value) (fr : Nat × Nat) (hs : cs.size = 6) (hg : w.heap[g]? = some (.cells cs t fr))
    (h : wpList Try.prog ops Q rest (a.put o.dst (.agg cs)) w) : wpList Try.prog ops Q (o :: rest) a w := by
  obtain ⟨d, hd1, hd2⟩ := Try.structAt
  exact wpList_load_row hgd _ x ho g hx t _ fr d hg hd1 (by cases d <;> first | rfl | (simp at hd2)) (by rw [hs]; exact Try.sizeAt) h
theorem wpl_storeA {ops : Array Oper} {rest : List Oper} {o : Oper} {a : Act} {w : World} {Q : Exit → Act → World → Prop} (hgd : o.guard = none) (x y : Operand) (ho : o.op = .store 64 x y)
    (g : Nat) (a0 a1 a2 a3 a4 a5 : Value) (hx : a.eval x = .pointer (some ⟨g, 0, none⟩)) (hy : a.eval y = .agg #[a0, a1, a2, a3, a4, a5]) (h0 : a0.oneCell' = true) (h1 : a1.oneCell' = true) (h2 : a2.oneCell' = true) (h3 : a3.oneCell' = true) (h4 : a4.oneCell' = true) (h5 : a5.oneCell' = true)
    (t : TypeId) (c0 : Array Value) (hc : c0.size = 6) (hg : w.heap[g]? = some (.cells c0 t (0, 0)))
    (h : wpList Try.prog ops Q rest (a.put o.dst undef) (w.setRow g #[a0, a1, a2, a3, a4, a5])) : wpList Try.prog ops Q (o :: rest) a w :=
  wpList_store_row hgd _ x y ho g _ hx hy t _ hg Try.sizeAt (by rw [hc]; rfl) (by simp [h0, h1, h2, h3, h4, h5]) h
theorem mclone_any (mb n : Nat) (D : DataW Value) (w : World) (h : w.ownsMap Try.prog 3 RHs mb n D) :
    Calls Try.prog 23 #[.map (some mb)] w fun e w' => ∃ m, e = .returned (.map (some m)) ∧ w'.ownsMap Try.prog 3 RHs m n D ∧ w.heap.size ≤ m ∧ Below w.heap.size w w' := by
  have hcon := AnyW.maps_Clone_owns Try.cloneSh 3 RHs mb n D w h
  change Calls Try.prog 23 _ _ _ at hcon
  exact hcon.mono fun e w' ⟨he, h1, _, hb⟩ => ⟨_, he, h1, Nat.le_refl _, hb⟩
/-- What Clone leaves. -/
def ClP (n : Nat) (D : DataW Value) (N : AtN) (X : List SX) (w : World) (e : Ending) (w' : World) : Prop := ∃ c wc mc ov', e = .returned (.pointer (some ⟨c, 0, none⟩)) ∧ At w' c wc mc n ov' D N X ∧ Below w.heap.size w w' ∧ ∀ q, AtR c wc mc q → w.heap.size ≤ q
theorem cloneOp_any (va : Option Addr) (vc : Nat) (l : List Int) (w : World) (hn : l = [] → Value.slice va l.length vc = .slice none 0 0) (hv : Nums w (.slice va l.length vc) l) (hl : l.length ≤ 1000000) :
    Calls Try.prog 21 #[.slice va l.length vc] w fun e w' => ∃ ua uc, e = .returned (.slice ua l.length uc) ∧ w'.ownsRow w.heap.size 3 1 (.slice ua l.length uc) l.length (nvs l) ∧ (l = [] → Value.slice ua l.length uc = .slice none 0 0) ∧ Below w.heap.size w w' := by
  cases l with
  | nil =>
    have h := hn rfl
    rw [show (Value.slice va ([] : List Int).length vc) = .slice none 0 0 from h]
    refine (cloneN_nil w).mono ?_
    rintro e w' ⟨rfl, rfl⟩
    exact ⟨none, 0, rfl, World.ownsRow_nil _ _ _ _, fun _ => rfl, Below.refl _ _⟩
  | cons x l =>
    refine (cloneN_any _ _ w hv (by omega)).mono ?_
    rintro e w' ⟨ua, uc, rfl, ho, hb⟩
    exact ⟨ua, uc, rfl, ho, (fun e => by cases e), hb⟩
set_option maxRecDepth 100000 in
set_option maxHeartbeats 4000000 in
theorem aclone_any (b wb mb n : Nat) (ov : Value) (D : DataW Value) (N : AtN) (X : List SX) (w : World) (h : At w b wb mb n ov D N X) (hl : N.op.length ≤ 1000000) (hX : X.length ≤ 1000000) :
    Calls Try.prog 5 #[.pointer (some ⟨b, 0, none⟩)] w (ClP n D N X w) := by
  obtain ⟨va, vc, rfl⟩ := h.m.shape
  have H := hid h
  have hbox := h.m.box
  have HN := hid h.nil
  have HL := hid hl
  have HX := hid hX
  clear h hl hX
  go_enter Try.func5, Try.ntmps5
  unfold atC at hbox
  go_upto_region 4 with (first | (refine wpl_loadA rfl _ rfl b rfl _ _ _ rfl hbox ?_) | (refine wpl_storeA rfl _ _ rfl w.heap.size _ _ _ _ _ _ rfl rfl rfl rfl rfl rfl rfl rfl _ _ rfl (heap_alloc_new _ _) ?_))
  have hC3 := setRow_heap _ _ _ #[.int .i64 N.bl, .int .i64 N.ep, .int .i64 N.nx, .slice va N.op.length vc, .pointer (some ⟨wb, 0, none⟩), .map (some mb)] _ _ (heap_alloc_new w (.cells #[.int .i64 0, .int .i64 0, .int .i64 0, .slice none 0 0, .pointer none, .map none] 64))
  have hB3 := below_row ((Below.refl w.heap.size w).alloc (Nat.le_refl _) (.cells #[.int .i64 0, .int .i64 0, .int .i64 0, .slice none 0 0, .pointer none, .map none] 64)) (Nat.le_refl w.heap.size) #[.int .i64 N.bl, .int .i64 N.ep, .int .i64 N.nx, .slice va N.op.length vc, .pointer (some ⟨wb, 0, none⟩), .map (some mb)]
  generalize (w.alloc (.cells #[.int .i64 0, .int .i64 0, .int .i64 0, .slice none 0 0, .pointer none, .map none] 64)).setRow w.heap.size #[.int .i64 N.bl, .int .i64 N.ep, .int .i64 N.nx, .slice va N.op.length vc, .pointer (some ⟨wb, 0, none⟩), .map (some mb)] = w3 at *
  obtain ⟨C, hCe⟩ : ∃ C, C = w.heap.size := ⟨_, rfl⟩
  rw [← hCe] at hC3
  rw [← hCe]
  have HCE := hid hCe
  have HB3 := hid hB3
  have HC3 := hid hC3
  have H3 := hid (H.out.below hB3)
  clear hCe hB3 hC3 hbox
  have c3 : w3.cell? ⟨b, 3, none⟩ = some (.slice va N.op.length vc) := H3.out.m.cell 3
  go_upto_region 5 with (go_at_call 21; refine (cloneOp_any va vc N.op _ HN.out (nums_own H3.out.m.opn rfl) HL.out).mono ?_; rintro e w4 ⟨ua, uc, rfl, ho4, hn4, hb4⟩; have O4 := hid ho4; have N4 := hid hn4; have HB4 := hid hb4; have k4 : w4.cell? ⟨C, 3, none⟩ = some (.slice va N.op.length vc) := (cell_of_row _ _ _ _ _ _ ((hb4.block C (lt_of_block HC3.out)).trans HC3.out)).trans rfl; have f4 : w4.frozen? ⟨C, 3, none⟩ = false := frozen_of_row _ _ _ _ _ ((hb4.block C (lt_of_block HC3.out)).trans HC3.out); clear ho4 hn4 hb4 c3)
  have hC4 := (HB4.out.block C (lt_of_block HC3.out)).trans HC3.out
  have HC5 := hid (show (w4.setCell ⟨C, 3, none⟩ (.slice ua N.op.length uc)).heap[C]? = _ from heap_setCell_same _ _ _ _ _ _ hC4)
  have T5 : Hid (Tr (fun q => q = C) w4 (w4.setCell ⟨C, 3, none⟩ (.slice ua N.op.length uc))) := hid (Tr.set rfl)
  have HB45 : Hid (Below w.heap.size w w4) := hid (HB3.out.trans (HB4.out.mono HB3.out.size))
  have B5 := hid (HB45.out.trans (T5.out.to (fun q hq => by rw [show q = C from hq, HCE.out]; exact Nat.le_refl _) HB45.out.size))
  have HC4 := hid hC4
  have L5 : Hid (C < (w4.setCell ⟨C, 3, none⟩ (.slice ua N.op.length uc)).heap.size) := hid (lt_of_block HC5.out)
  clear hC4 k4 f4 HC3
  generalize w4.setCell ⟨C, 3, none⟩ (.slice ua N.op.length uc) = w5 at *
  have H5 := hid (H.out.below B5.out)
  have c5 : w5.cell? ⟨b, 4, none⟩ = some (.pointer (some ⟨wb, 0, none⟩)) := H5.out.m.cell 4
  go_upto_region 6 with (go_at_call 22; refine (cloneM_any wb _ _ H5.out.m.whr (by rw [List.length_map]; exact HX.out)).mono ?_; rintro e w6 ⟨g, rfl, hm6, hg6, -, hb6⟩; have M6 := hid hm6; have G6 := hid hg6; have HB6 := hid hb6; have k6 : w6.cell? ⟨C, 4, none⟩ = some (.pointer (some ⟨wb, 0, none⟩)) := (cell_of_row _ _ _ _ _ _ ((hb6.block C (lt_of_block HC5.out)).trans HC5.out)).trans rfl; have f6 : w6.frozen? ⟨C, 4, none⟩ = false := frozen_of_row _ _ _ _ _ ((hb6.block C (lt_of_block HC5.out)).trans HC5.out); clear hm6 hg6 hb6 c5)
  have hC6 := (HB6.out.block C (lt_of_block HC5.out)).trans HC5.out
  have HC7 := hid (show (w6.setCell ⟨C, 4, none⟩ (.pointer (some ⟨g, 0, none⟩))).heap[C]? = _ from heap_setCell_same _ _ _ _ _ _ hC6)
  have T7 : Hid (Tr (fun q => q = C) w6 (w6.setCell ⟨C, 4, none⟩ (.pointer (some ⟨g, 0, none⟩)))) := hid (Tr.set rfl)
  have HB67 : Hid (Below w.heap.size w w6) := hid (B5.out.trans (HB6.out.mono B5.out.size))
  have B7 := hid (HB67.out.trans (T7.out.to (fun q hq => by rw [show q = C from hq, HCE.out]; exact Nat.le_refl _) HB67.out.size))
  have HC6 := hid hC6
  have L7 : Hid (C < (w6.setCell ⟨C, 4, none⟩ (.pointer (some ⟨g, 0, none⟩))).heap.size) := hid (lt_of_block HC7.out)
  clear hC6 k6 f6 HC5
  generalize w6.setCell ⟨C, 4, none⟩ (.pointer (some ⟨g, 0, none⟩)) = w7 at *
  have H7 := hid (H.out.below B7.out)
  have c7 : w7.cell? ⟨b, 5, none⟩ = some (.map (some mb)) := H7.out.m.cell 5
  go_wp2_with (go_at_call 23; refine (mclone_any mb n D _ H7.out.m.own).mono ?_; rintro e w8 ⟨m, rfl, hm8, hg8, hb8⟩; have M8 := hid hm8; have G8 := hid hg8; have HB8 := hid hb8; have k8 : w8.cell? ⟨C, 5, none⟩ = some (.map (some mb)) := (cell_of_row _ _ _ _ _ _ ((hb8.block C (lt_of_block HC7.out)).trans HC7.out)).trans rfl; have f8 : w8.frozen? ⟨C, 5, none⟩ = false := frozen_of_row _ _ _ _ _ ((hb8.block C (lt_of_block HC7.out)).trans HC7.out); clear hm8 hg8 hb8 c7)
  go_ret
  have hC8 := (HB8.out.block C (lt_of_block HC7.out)).trans HC7.out
  have HC9 := (show (w8.setCell ⟨C, 5, none⟩ (.map (some m))).heap[C]? = _ from heap_setCell_same _ _ _ _ _ _ hC8)
  have T9 : Tr (fun q => q = C) w8 (w8.setCell ⟨C, 5, none⟩ (.map (some m))) := Tr.set rfl
  have HB89 : Below w.heap.size w w8 := B7.out.trans (HB8.out.mono B7.out.size)
  have B9 := HB89.trans (T9.to (fun q hq => by rw [show q = C from hq, HCE.out]; exact Nat.le_refl _) HB89.size)
  have hg : g ≠ C := by have h1 := G6.out; have h2 := L5.out; omega
  have hm : m ≠ C := by have h1 := G8.out; have h2 := L7.out; omega
  have T69 : Tr (fun q => q = C) w6 (w8.setCell ⟨C, 5, none⟩ (.map (some m))) := T7.out.trans ((Tr.below HB8.out).trans T9)
  have T49 : Tr (fun q => q = C) w4 (w8.setCell ⟨C, 5, none⟩ (.map (some m))) := T5.out.trans ((Tr.below HB6.out).trans T69)
  refine ⟨C, g, m, .slice ua N.op.length uc, rfl, ⟨⟨by simpa [atC] using HC9, ?_, ?_, M8.out.setCell (a := ⟨C, 5, none⟩) hm _, H.out.m.sm, fun x hx => (H.out.m.mem x hx).below B9⟩, N4.out⟩, B9, ?_⟩
  · exact own_lower (own_kept O4.out fun q cs _ hh => T49.block q (lt_of_block hh) fun e => by rw [show q = C from e, HC4.out] at hh; cases hh) (Nat.zero_le _)
  · obtain ⟨va7, vc7, h1, h2⟩ := M6.out.at'
    exact ⟨⟨va7, vc7, (T69.block g (lt_of_block h1) hg).trans h1, own_kept h2 fun q cs _ hh => T69.block q (lt_of_block hh) fun e => by rw [show q = C from e, HC6.out] at hh; cases hh⟩, M6.out.can, M6.out.ints⟩
  · rintro q (rfl | rfl | rfl)
    · rw [HCE.out]; exact Nat.le_refl _
    · exact Nat.le_trans B5.out.size G6.out
    · exact Nat.le_trans B7.out.size G8.out
end Go.Proofs.Ytnkjkaofgninnaa
