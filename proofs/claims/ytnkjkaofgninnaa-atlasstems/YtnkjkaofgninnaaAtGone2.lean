/- gone: the shards that a change takes away. Conditions: map and change lie in memory. -/
import Derived.Test.YtnkjkaofgninnaaAtGone
namespace Go.Proofs.Ytnkjkaofgninnaa
open Go.RowKit Go.Maps Go.Shelf
set_option linter.unusedVariables false
set_option linter.unusedSimpArgs false

def SX.c (x : SX) : List Value := [.int .i64 x.s.id, .int .i64 x.s.fr, .int .i64 x.s.to, x.mv, x.pv]
def shvs (l : List SX) : List Value := l.flatMap SX.c
theorem shvs_cons (x : SX) (l : List SX) : shvs (x :: l) = x.c ++ shvs l := rfl
theorem shvs_append (a b : List SX) : shvs (a ++ b) = shvs a ++ shvs b := by simp [shvs]
theorem shvs_len (l : List SX) : (shvs l).length = l.length * 5 := by
  induction l with
  | nil => rfl
  | cons x l ih => rw [shvs_cons, List.length_append, ih]; simp [SX.c]; omega
theorem rowSh : RowT 40 46 (.agg #[.int .i64 0, .int .i64 0, .int .i64 0, .slice none 0 0, .slice none 0 0]) 5 72 := ⟨by kernel_rfl, by kernel_rfl, rfl, by decide, by decide⟩
/-- The numbers that a change names. -/
def idsD (c : ChD) : List Int := if c.k = 2 then [c.sh, c.ot] else [c.sh]
/-- What gone answers where nothing is open. -/
def GnP (X : List SX) (ids : List Int) (w : World) (e : Ending) (w' : World) : Prop :=
  ((∃ G : List SX, G.map (·.s.id) = ids ∧ (∀ x ∈ G, x ∈ X) ∧ ∃ va vc, e = .returned (.tuple #[.slice va G.length vc, .int .i64 0]) ∧ w'.ownsRow w.heap.size 46 5 (.slice va G.length vc) G.length (shvs G)) ∨ ((∃ i ∈ ids, ∀ x ∈ X, x.s.id ≠ i) ∧ e = .returned (.tuple #[.slice none 0 0, .int .i64 8]))) ∧ Below w.heap.size w w'
set_option maxRecDepth 100000 in
set_option maxHeartbeats 1600000 in
theorem gone_down (b wb mb n : Nat) (ov : Value) (D : DataW Value) (N : AtN) (W : List Pc) (X : List SX) (c : ChD) (w : World) (h : AtM w b wb mb n ov D N W X) (ho : N.op ≠ []) :
    Calls Try.prog 27 #[.pointer (some ⟨b, 0, none⟩), chV c] w fun e w' => e = .returned (.tuple #[.slice none 0 0, .int .i64 7]) ∧ Below w.heap.size w w' := by
  obtain ⟨va, vc, rfl⟩ := h.shape
  have hpos : (0 : Int) < (N.op.length : Int) := by have := List.length_pos_iff.2 ho; omega
  have c3 := cell_later ((Below.refl w.heap.size w).alloc (Nat.le_refl _) (.cells #[.int .i64 c.k, .int .i64 c.sh, .int .i64 c.ot, .int .i64 c.at', .int .i64 c.out, .int .i64 c.in'] 24)) (show w.cell? ⟨b, 3, none⟩ = some (.slice va N.op.length vc) from h.cell 3)
  have HB : Hid (Below w.heap.size w (w.alloc (.cells #[.int .i64 c.k, .int .i64 c.sh, .int .i64 c.ot, .int .i64 c.at', .int .i64 c.out, .int .i64 c.in'] 24))) := hid ((Below.refl w.heap.size w).alloc (Nat.le_refl _) _)
  clear h ho
  unfold chV
  go_enter Try.func27, Try.ntmps27
  go_wp2_with fail
  go_ret2
  exact ⟨rfl, HB.out⟩
theorem heap_two (w : World) (A B : Obj) : ((w.alloc A).alloc B).heap[w.heap.size]? = some A ∧ ((w.alloc A).alloc B).heap[w.heap.size + 1]? = some B := by
  refine ⟨?_, ?_⟩
  · rw [Below.heap_alloc _ _ _ (by simp)]; exact heap_alloc_new _ _
  · have := heap_alloc_new (w.alloc A) B; simpa using this
theorem own_one (w : World) (E : TypeId) (v : Value) {B : Nat} (hB : B ≤ w.heap.size) : (w.alloc (.cells #[v] E)).ownsRow B E 1 (.slice (some ⟨w.heap.size, 0, none⟩) 1 1) 1 [v] :=
  ⟨rfl, .inr ⟨w.heap.size, 1, #[v], rfl, hB, heap_alloc_new _ _, Nat.le_refl _, by unfold maxLen; omega, rfl, rfl⟩⟩
theorem own_some {w : World} {B : Nat} {E : TypeId} {sz n : Nat} {va : Option Addr} {vc m : Nat} {xs : List Value} (h : w.ownsRow B E sz (.slice va m vc) n xs) (hn : 0 < n) : ∃ g, va = some ⟨g, 0, none⟩ := by
  obtain ⟨_, h2⟩ := h
  rcases h2 with ⟨e, h0⟩ | ⟨g, cap, cur, e, -⟩
  · omega
  · cases e; exact ⟨g, rfl⟩
set_option maxRecDepth 100000 in
set_option maxHeartbeats 4000000 in
theorem gone_any (b wb mb n : Nat) (ov : Value) (D : DataW Value) (N : AtN) (W : List Pc) (X : List SX) (c : ChD) (w : World) (h : AtM w b wb mb n ov D N W X) (ho : N.op = []) (hs : I64 c.sh) (hot : I64 c.ot) :
    Calls Try.prog 27 #[.pointer (some ⟨b, 0, none⟩), chV c] w (GnP X (idsD c) w) := by
  obtain ⟨va, vc, rfl⟩ := h.shape
  obtain ⟨k, sh, ot, at', out, in'⟩ := c
  simp only at hs hot
  obtain ⟨w1, hw1⟩ : ∃ w1, w1 = w.alloc (.cells #[.int .i64 k, .int .i64 sh, .int .i64 ot, .int .i64 at', .int .i64 out, .int .i64 in'] 24) := ⟨_, rfl⟩
  have B1 : Below w.heap.size w w1 := by rw [hw1]; exact (Below.refl _ _).alloc (Nat.le_refl _) _
  have hA1 : w1.heap[w.heap.size]? = some (.cells #[.int .i64 k, .int .i64 sh, .int .i64 ot, .int .i64 at', .int .i64 out, .int .i64 in'] 24 (0, 0)) := by rw [hw1]; exact heap_alloc_new _ _
  have c3 : w1.cell? ⟨b, 3, none⟩ = some (.slice va 0 vc) := by have := (h.below B1).cell 3; rw [ho] at this; exact this
  have HW1 := hid hw1
  have HWA := hid hA1
  have H := hid h
  have HB1 := hid B1
  clear h ho hw1 hA1 B1
  by_cases h2 : k = 2
  · obtain ⟨ids, hide⟩ : ∃ ids, ids = idsD ⟨k, sh, ot, at', out, in'⟩ := ⟨_, rfl⟩
    have he2 : ids = [sh, ot] := by rw [hide]; unfold idsD; rw [if_pos h2]
    rw [← hide]
    have hil2 : ids.length ≤ 2 := by rw [he2]; simp
    have HII : Hid (∀ d ∈ ids, I64 d) := hid (by rw [he2]; intro d hd; simp at hd; rcases hd with rfl | rfl <;> assumption)
    have HI2 := hid he2
    subst h2
    have a0 : w1.cell? ⟨w.heap.size, 0, none⟩ = some (.int .i64 2) := by rw [cell_of_row _ _ _ _ _ _ HWA.out]; rfl
    have a1 : w1.cell? ⟨w.heap.size, 1, none⟩ = some (.int .i64 sh) := by rw [cell_of_row _ _ _ _ _ _ HWA.out]; rfl
    have a2 : w1.cell? ⟨w.heap.size, 2, none⟩ = some (.int .i64 ot) := by rw [cell_of_row _ _ _ _ _ _ HWA.out]; rfl
    clear hide he2 hs hot
    unfold chV
    go_enter Try.func27, Try.ntmps27
    go_upto_region 1 with fail
    rw [← HW1.out]
    clear HW1
    obtain ⟨C, hCe⟩ : ∃ C, C = w.heap.size := ⟨_, rfl⟩
    rw [← hCe]
    rw [← hCe] at a0 a1 a2
    have HCE := hid hCe
    clear hCe
    go_upto_region 4 with fail
    have hb2 : Below w1.heap.size w1 (w1.alloc (.cells #[.int .i64 sh] 3)) := (Below.refl _ _).alloc (Nat.le_refl _) _
    have O2 := hid (own_one w1 3 (.int .i64 sh) HB1.out.size)
    have B2 := hid (HB1.out.trans (hb2.mono HB1.out.size))
    replace a0 := cell_later hb2 a0
    replace a2 := cell_later hb2 a2
    clear hb2 a1
    generalize w1.alloc (.cells #[.int .i64 sh] 3) = w2 at *
    generalize w1.heap.size = g0 at *
    have hb3 : Below w2.heap.size w2 (w2.alloc (.cells #[.int .i64 ot] 3)) := (Below.refl _ _).alloc (Nat.le_refl _) _
    have O3 := hid (own_below O2.out hb3)
    have B3 := hid (B2.out.trans (hb3.mono B2.out.size))
    have Y3 : Hid (∀ j u, [Value.int .i64 ot][j]? = some u → (w2.alloc (.cells #[.int .i64 ot] 3)).cell? ⟨w2.heap.size, j, none⟩ = some u) := hid fun j u hj => by
      rw [cell_of_row _ _ _ _ _ _ (heap_alloc_new _ _)]; simpa using hj
    clear hb3
    go_upto_region 6 with (at_builtin; refine wpl_app rowNm rfl _ _ rfl w.heap.size (.slice (some ⟨g0, 0, none⟩) 1 1) 1 [.int .i64 sh] rfl O3.out w2.heap.size 1 1 [.int .i64 ot] rfl rfl Y3.out (by simp [Value.oneCell']) (by omega) (by have := B2.out.size; simp; omega) ?_; intro va4 ci w4 ho4 hg4; have O4 := hid ho4; have BI := hid (B3.out.trans ((Below.refl w.heap.size _).grown hg4 B3.out.size fun k hk => (World.ownsRow.lt O3.out k hk).1)); clear ho4 hg4)
    obtain ⟨gi, rfl⟩ := own_some O4.out (by omega)
    have hl2 : ids.length = 2 := by rw [HI2.out]; rfl
    rw [show (Value.slice (some ⟨gi, 0, none⟩) 2 ci) = .slice (some ⟨gi, 0, none⟩) ids.length ci from by rw [hl2]]
    have OI : Hid (w4.ownsRow w.heap.size 3 1 (.slice (some ⟨gi, 0, none⟩) ids.length ci) ids.length (nvs ids)) := hid (by rw [hl2, HI2.out]; exact O4.out)
    clear O2 O3 O4 Y3 B2 B3 a0 a2 hl2 HB1 HI2 HCE
    clear c3 HWA
    have HIL : Hid (ids.length ≤ 2) := hid hil2
    go_wp2_with fail
    go_loopw [7, 9, 10, 11, 31] (fun lv _ _ _ iv wr => ∃ (i : Nat) (G : List SX), iv = .int .i64 i ∧ i ≤ ids.length ∧ G.length = i ∧ G.map (·.s.id) = ids.take i ∧ (∀ x ∈ G, x ∈ X) ∧ wr.ownsRow w.heap.size 46 5 lv i (shvs G) ∧ wr.ownsRow w.heap.size 3 1 (.slice (some ⟨gi, 0, none⟩) ids.length ci) ids.length (nvs ids) ∧ Below w.heap.size w wr) (fun _ _ _ _ iv _ => ids.length - (intOf iv).toNat)
    case atStart => exact ⟨0, [], rfl, Nat.zero_le _, rfl, rfl, (fun x hx => by cases hx), World.ownsRow_nil _ _ _ _, OI.out, BI.out⟩
    case round =>
      obtain ⟨i, G, rfl, hi, hGl, hG1, hG2, hG3, hI, hB⟩ := hrel
      obtain ⟨la, lc, rfl⟩ := own_shape hG3
      have OG := hid hG3
      have OR := hid hI
      have BR := hid hB
      have HG1 := hid hG1
      have HG2 := hid hG2
      have HGL := hid hGl
      clear hG1 hG2 hG3 hI hB OI BI hGl
      by_cases hlt : (i : Int) < (ids.length : Int)
      · have hil : i < ids.length := by omega
        have cI := own_cell OR.out (j := i) (u := .int .i64 ids[i]) (by simp [nvs, hil])
        have HR := hid (H.out.below BR.out)
        have cM : wr.cell? ⟨b, 5, none⟩ = some (.map (some mb)) := HR.out.cell 5
        have HID : Hid (ids[i] ∈ ids) := hid (List.getElem_mem hil)
        have HTK : Hid (ids.take (i + 1) = ids.take i ++ [ids[i]]) := hid (by rw [List.take_add_one]; simp [hil])
        obtain ⟨di, hdi⟩ : ∃ di, di = ids[i] := ⟨_, rfl⟩
        rw [← hdi] at cI HID HTK
        clear hdi
        rcases HR.out.look di (HII.out di HID.out) with ⟨x, hx, hxi, hl, -⟩ | ⟨hno, hl, -⟩
        · obtain ⟨T, mv, pv⟩ := x
          obtain ⟨⟨ma, mc, e1⟩, ⟨pa, pc, e2⟩⟩ := (HR.out.mem _ hx).shape
          simp only at e1 e2
          subst e1 e2
          have hlk := hl _ (Below.refl _ _)
          unfold SX.v shV at hlk
          simp only at hlk
          have HX := hid hx
          have HXI := hid hxi
          have hg1 := heap_alloc_new wr (.cells #[.int .i64 T.id, .int .i64 T.fr, .int .i64 T.to, .slice ma T.mem.length mc, .slice pa T.past.length pc] 46)
          obtain ⟨h2a, h2b⟩ := heap_two wr (.cells #[.int .i64 T.id, .int .i64 T.fr, .int .i64 T.to, .slice ma T.mem.length mc, .slice pa T.past.length pc] 46) (.cells #[.int .i64 T.id, .int .i64 T.fr, .int .i64 T.to, .slice ma T.mem.length mc, .slice pa T.past.length pc] 46)
          have B2 : Hid (Below wr.heap.size wr ((wr.alloc (.cells #[.int .i64 T.id, .int .i64 T.fr, .int .i64 T.to, .slice ma T.mem.length mc, .slice pa T.past.length pc] 46)).alloc (.cells #[.int .i64 T.id, .int .i64 T.fr, .int .i64 T.to, .slice ma T.mem.length mc, .slice pa T.past.length pc] 46))) := hid (((Below.refl _ _).alloc (Nat.le_refl _) _).alloc (by simp) _)
          have HYS : Hid (∀ j u, (SX.c ⟨T, .slice ma T.mem.length mc, .slice pa T.past.length pc⟩)[j]? = some u → ((wr.alloc (.cells #[.int .i64 T.id, .int .i64 T.fr, .int .i64 T.to, .slice ma T.mem.length mc, .slice pa T.past.length pc] 46)).alloc (.cells #[.int .i64 T.id, .int .i64 T.fr, .int .i64 T.to, .slice ma T.mem.length mc, .slice pa T.past.length pc] 46)).cell? ⟨wr.heap.size + 1, j, none⟩ = some u) := hid fun j u hj => by
            rw [cell_of_row _ _ _ _ _ _ h2b]; unfold SX.c at hj; simpa using hj
          have HOW := hid (own_below OG.out B2.out)
          clear hl hx hxi h2a h2b
          go_wp2_with (first | (refine wpl_loadH rfl _ rfl wr.heap.size rfl _ _ _ rfl hg1 ?_) | (at_builtin; refine wpl_app rowSh rfl _ _ rfl w.heap.size (.slice la i lc) i (shvs G) rfl HOW.out (wr.heap.size + 1) 1 1 (SX.c ⟨T, .slice ma T.mem.length mc, .slice pa T.past.length pc⟩) rfl rfl HYS.out (by simp [SX.c, Value.oneCell']) (by have := HIL.out; omega) (by have := BR.out.size; simp; omega) ?_; intro va2 vc2 w2 ho2 hg2; have O2 := hid ho2; have B3 := hid ((BR.out.trans (B2.out.mono BR.out.size)).trans ((Below.refl w.heap.size _).grown hg2 (by have := BR.out.size; simp; omega) fun k hk => (World.ownsRow.lt HOW.out k hk).1)); have I2 := hid (own_kept (own_below OR.out B2.out) fun q cs hq hh => hg2.block q (lt_of_block hh) fun e => own_ne HOW.out hh (by decide) e.symm); clear ho2 hg2))
          go_roundw
          case rel =>
            refine ⟨i + 1, G ++ [⟨T, .slice ma T.mem.length mc, .slice pa T.past.length pc⟩], by go_num, by omega, by rw [List.length_append, HGL.out]; rfl, by rw [List.map_append, HG1.out, HTK.out, ← HXI.out]; rfl, ?_, by rw [shvs_append]; simpa [shvs] using O2.out, I2.out, B3.out⟩
            intro x hx
            rcases List.mem_append.1 hx with hx | hx
            · exact HG2.out x hx
            · rw [List.mem_singleton.1 hx]; exact HX.out
          case measure => simp [intOf]; omega
        · have hlk := hl _ (Below.refl _ _)
          unfold zV shV at hlk
          have HNO := hid hno
          have B2 : Hid (Below wr.heap.size wr (wr.alloc (.cells #[.int .i64 zS.id, .int .i64 zS.fr, .int .i64 zS.to, .slice none 0 0, .slice none 0 0] 46))) := hid ((Below.refl _ _).alloc (Nat.le_refl _) _)
          clear hl hno
          go_wp2_with fail
          go_ret2
          exact ⟨.inr ⟨⟨di, HID.out, HNO.out⟩, rfl⟩, BR.out.trans (B2.out.mono BR.out.size)⟩
      · have hiL : i = ids.length := by omega
        have HF : Hid (G.map (·.s.id) = ids) := hid (by rw [HG1.out, hiL, List.take_length])
        go_wp2_with fail
        go_ret2
        refine ⟨.inl ⟨G, HF.out, HG2.out, la, lc, by rw [HGL.out, hiL]; rfl, by rw [HGL.out]; exact OG.out⟩, BR.out⟩
  · obtain ⟨ids, hide⟩ : ∃ ids, ids = idsD ⟨k, sh, ot, at', out, in'⟩ := ⟨_, rfl⟩
    have he2 : ids = [sh] := by rw [hide]; unfold idsD; rw [if_neg h2]
    rw [← hide]
    have hil2 : ids.length ≤ 2 := by rw [he2]; simp
    have HII : Hid (∀ d ∈ ids, I64 d) := hid (by rw [he2]; intro d hd; simp at hd; rcases hd with rfl; assumption)
    have HI2 := hid he2
    have hk2 : (k == 2) = false := by simpa using h2
    have a0 : w1.cell? ⟨w.heap.size, 0, none⟩ = some (.int .i64 k) := by rw [cell_of_row _ _ _ _ _ _ HWA.out]; rfl
    have a1 : w1.cell? ⟨w.heap.size, 1, none⟩ = some (.int .i64 sh) := by rw [cell_of_row _ _ _ _ _ _ HWA.out]; rfl
    clear hide he2 hs hot
    unfold chV
    go_enter Try.func27, Try.ntmps27
    go_upto_region 1 with fail
    rw [← HW1.out]
    clear HW1
    obtain ⟨C, hCe⟩ : ∃ C, C = w.heap.size := ⟨_, rfl⟩
    rw [← hCe]
    rw [← hCe] at a0 a1
    have HCE := hid hCe
    clear hCe
    go_upto_region 4 with fail
    have hb2 : Below w1.heap.size w1 (w1.alloc (.cells #[.int .i64 sh] 3)) := (Below.refl _ _).alloc (Nat.le_refl _) _
    have O2 := hid (own_one w1 3 (.int .i64 sh) HB1.out.size)
    have BI := hid (HB1.out.trans (hb2.mono HB1.out.size))
    replace a0 := cell_later hb2 a0
    clear hb2 a1
    generalize w1.alloc (.cells #[.int .i64 sh] 3) = w2 at *
    generalize w1.heap.size = gi at *
    obtain ⟨ci, hci⟩ : ∃ ci : Nat, ci = 1 := ⟨_, rfl⟩
    have OI : Hid (w2.ownsRow w.heap.size 3 1 (.slice (some ⟨gi, 0, none⟩) ids.length ci) ids.length (nvs ids)) := hid (by rw [HI2.out, hci]; exact O2.out)
    go_upto_region 6 with fail
    have hl2 : ids.length = 1 := by rw [HI2.out]; rfl
    rw [show (Value.slice (some ⟨gi, 0, none⟩) 1 1) = .slice (some ⟨gi, 0, none⟩) ids.length ci from by rw [hl2, hci]]
    clear O2 a0 hl2 HB1 HI2 HCE hci h2 hk2
    clear c3 HWA
    have HIL : Hid (ids.length ≤ 2) := hid hil2
    go_wp2_with fail
    go_loopw [7, 9, 10, 11, 31] (fun lv _ _ _ iv wr => ∃ (i : Nat) (G : List SX), iv = .int .i64 i ∧ i ≤ ids.length ∧ G.length = i ∧ G.map (·.s.id) = ids.take i ∧ (∀ x ∈ G, x ∈ X) ∧ wr.ownsRow w.heap.size 46 5 lv i (shvs G) ∧ wr.ownsRow w.heap.size 3 1 (.slice (some ⟨gi, 0, none⟩) ids.length ci) ids.length (nvs ids) ∧ Below w.heap.size w wr) (fun _ _ _ _ iv _ => ids.length - (intOf iv).toNat)
    case atStart => exact ⟨0, [], rfl, Nat.zero_le _, rfl, rfl, (fun x hx => by cases hx), World.ownsRow_nil _ _ _ _, OI.out, BI.out⟩
    case round =>
      obtain ⟨i, G, rfl, hi, hGl, hG1, hG2, hG3, hI, hB⟩ := hrel
      obtain ⟨la, lc, rfl⟩ := own_shape hG3
      have OG := hid hG3
      have OR := hid hI
      have BR := hid hB
      have HG1 := hid hG1
      have HG2 := hid hG2
      have HGL := hid hGl
      clear hG1 hG2 hG3 hI hB OI BI hGl
      by_cases hlt : (i : Int) < (ids.length : Int)
      · have hil : i < ids.length := by omega
        have cI := own_cell OR.out (j := i) (u := .int .i64 ids[i]) (by simp [nvs, hil])
        have HR := hid (H.out.below BR.out)
        have cM : wr.cell? ⟨b, 5, none⟩ = some (.map (some mb)) := HR.out.cell 5
        have HID : Hid (ids[i] ∈ ids) := hid (List.getElem_mem hil)
        have HTK : Hid (ids.take (i + 1) = ids.take i ++ [ids[i]]) := hid (by rw [List.take_add_one]; simp [hil])
        obtain ⟨di, hdi⟩ : ∃ di, di = ids[i] := ⟨_, rfl⟩
        rw [← hdi] at cI HID HTK
        clear hdi
        rcases HR.out.look di (HII.out di HID.out) with ⟨x, hx, hxi, hl, -⟩ | ⟨hno, hl, -⟩
        · obtain ⟨T, mv, pv⟩ := x
          obtain ⟨⟨ma, mc, e1⟩, ⟨pa, pc, e2⟩⟩ := (HR.out.mem _ hx).shape
          simp only at e1 e2
          subst e1 e2
          have hlk := hl _ (Below.refl _ _)
          unfold SX.v shV at hlk
          simp only at hlk
          have HX := hid hx
          have HXI := hid hxi
          have hg1 := heap_alloc_new wr (.cells #[.int .i64 T.id, .int .i64 T.fr, .int .i64 T.to, .slice ma T.mem.length mc, .slice pa T.past.length pc] 46)
          obtain ⟨h2a, h2b⟩ := heap_two wr (.cells #[.int .i64 T.id, .int .i64 T.fr, .int .i64 T.to, .slice ma T.mem.length mc, .slice pa T.past.length pc] 46) (.cells #[.int .i64 T.id, .int .i64 T.fr, .int .i64 T.to, .slice ma T.mem.length mc, .slice pa T.past.length pc] 46)
          have B2 : Hid (Below wr.heap.size wr ((wr.alloc (.cells #[.int .i64 T.id, .int .i64 T.fr, .int .i64 T.to, .slice ma T.mem.length mc, .slice pa T.past.length pc] 46)).alloc (.cells #[.int .i64 T.id, .int .i64 T.fr, .int .i64 T.to, .slice ma T.mem.length mc, .slice pa T.past.length pc] 46))) := hid (((Below.refl _ _).alloc (Nat.le_refl _) _).alloc (by simp) _)
          have HYS : Hid (∀ j u, (SX.c ⟨T, .slice ma T.mem.length mc, .slice pa T.past.length pc⟩)[j]? = some u → ((wr.alloc (.cells #[.int .i64 T.id, .int .i64 T.fr, .int .i64 T.to, .slice ma T.mem.length mc, .slice pa T.past.length pc] 46)).alloc (.cells #[.int .i64 T.id, .int .i64 T.fr, .int .i64 T.to, .slice ma T.mem.length mc, .slice pa T.past.length pc] 46)).cell? ⟨wr.heap.size + 1, j, none⟩ = some u) := hid fun j u hj => by
            rw [cell_of_row _ _ _ _ _ _ h2b]; unfold SX.c at hj; simpa using hj
          have HOW := hid (own_below OG.out B2.out)
          clear hl hx hxi h2a h2b
          go_wp2_with (first | (refine wpl_loadH rfl _ rfl wr.heap.size rfl _ _ _ rfl hg1 ?_) | (at_builtin; refine wpl_app rowSh rfl _ _ rfl w.heap.size (.slice la i lc) i (shvs G) rfl HOW.out (wr.heap.size + 1) 1 1 (SX.c ⟨T, .slice ma T.mem.length mc, .slice pa T.past.length pc⟩) rfl rfl HYS.out (by simp [SX.c, Value.oneCell']) (by have := HIL.out; omega) (by have := BR.out.size; simp; omega) ?_; intro va2 vc2 w2 ho2 hg2; have O2 := hid ho2; have B3 := hid ((BR.out.trans (B2.out.mono BR.out.size)).trans ((Below.refl w.heap.size _).grown hg2 (by have := BR.out.size; simp; omega) fun k hk => (World.ownsRow.lt HOW.out k hk).1)); have I2 := hid (own_kept (own_below OR.out B2.out) fun q cs hq hh => hg2.block q (lt_of_block hh) fun e => own_ne HOW.out hh (by decide) e.symm); clear ho2 hg2))
          go_roundw
          case rel =>
            refine ⟨i + 1, G ++ [⟨T, .slice ma T.mem.length mc, .slice pa T.past.length pc⟩], by go_num, by omega, by rw [List.length_append, HGL.out]; rfl, by rw [List.map_append, HG1.out, HTK.out, ← HXI.out]; rfl, ?_, by rw [shvs_append]; simpa [shvs] using O2.out, I2.out, B3.out⟩
            intro x hx
            rcases List.mem_append.1 hx with hx | hx
            · exact HG2.out x hx
            · rw [List.mem_singleton.1 hx]; exact HX.out
          case measure => simp [intOf]; omega
        · have hlk := hl _ (Below.refl _ _)
          unfold zV shV at hlk
          have HNO := hid hno
          have B2 : Hid (Below wr.heap.size wr (wr.alloc (.cells #[.int .i64 zS.id, .int .i64 zS.fr, .int .i64 zS.to, .slice none 0 0, .slice none 0 0] 46))) := hid ((Below.refl _ _).alloc (Nat.le_refl _) _)
          clear hl hno
          go_wp2_with fail
          go_ret2
          exact ⟨.inr ⟨⟨di, HID.out, HNO.out⟩, rfl⟩, BR.out.trans (B2.out.mono BR.out.size)⟩
      · have hiL : i = ids.length := by omega
        have HF : Hid (G.map (·.s.id) = ids) := hid (by rw [HG1.out, hiL, List.take_length])
        go_wp2_with fail
        go_ret2
        refine ⟨.inl ⟨G, HF.out, HG2.out, la, lc, by rw [HGL.out, hiL]; rfl, by rw [HGL.out]; exact OG.out⟩, BR.out⟩
end Go.Proofs.Ytnkjkaofgninnaa
