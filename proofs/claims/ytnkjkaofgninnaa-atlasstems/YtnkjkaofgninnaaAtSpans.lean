/- spans, members, origin: of changes but Replace. Conditions: shards and change lie in memory. -/
import Derived.Test.YtnkjkaofgninnaaAtFits
namespace Go.Proofs.Ytnkjkaofgninnaa
open Go.RowKit Go.Maps Go.Shelf
set_option linter.unusedVariables false
set_option linter.unusedSimpArgs false

theorem Try.sizeOr' : (Try.prog.info? 52).map (·.size) = some 4 := by kernel_rfl
theorem results_or {fn : Func} {p : Tmp} (h : fn.results = #[.cell p 52]) (tmps : Array Value) (w : World) (g : Nat) (t : TypeId) (cs : Array Value) (fr : Nat × Nat) (hs : cs.size = 4)
    (hp : tmps.getD p undef = .pointer (some ⟨g, 0, none⟩)) (hg : w.heap[g]? = some (.cells cs t fr)) : (results fn tmps).run Try.prog w = .ok (.agg cs) w := by
  obtain ⟨d, hd1, hd2⟩ := Try.structOr
  have hp' : tmps[p]?.getD undef = .pointer (some ⟨g, 0, none⟩) := by simpa using hp
  have hl := run_loadVar_row w g t 52 cs fr d hg hd1 (by cases d <;> first | rfl | (simp at hd2)) (by rw [hs]; exact Try.sizeOr)
  simp [results, h, hp', asAddr, hl]
set_option maxRecDepth 100000 in
set_option maxHeartbeats 4000000 in
theorem origin_any (S : ShD) (ma : Option Addr) (mn mc : Nat) (pa : Option Addr) (pn pc : Nat) (w : World) :
    Calls Try.prog 48 #[.agg #[.int .i64 S.id, .int .i64 S.fr, .int .i64 S.to, .slice ma mn mc, .slice pa pn pc]] w fun e w' => e = .returned (.agg #[.int .i64 S.id, .int .i64 S.fr, .int .i64 S.to, .slice ma mn mc]) ∧ Below w.heap.size w w' := by
  obtain ⟨w1, hw1⟩ : ∃ w1, w1 = (w.alloc (.cells #[.int .i64 S.id, .int .i64 S.fr, .int .i64 S.to, .slice ma mn mc, .slice pa pn pc] 46)).alloc (.cells #[.int .i64 0, .int .i64 0, .int .i64 0, .slice none 0 0] 52) := ⟨_, rfl⟩
  obtain ⟨hA1, hR1⟩ := heap_two w (.cells #[.int .i64 S.id, .int .i64 S.fr, .int .i64 S.to, .slice ma mn mc, .slice pa pn pc] 46) (.cells #[.int .i64 0, .int .i64 0, .int .i64 0, .slice none 0 0] 52)
  rw [← hw1] at hA1 hR1
  have HB1 : Hid (Below w.heap.size w w1) := hid (by rw [hw1]; exact ((Below.refl _ _).alloc (Nat.le_refl _) _).alloc (by simp) _)
  have HW1 := hid hw1
  have c0 : w1.cell? ⟨w.heap.size, 0, none⟩ = some (.int .i64 S.id) := by rw [cell_of_row _ _ _ _ _ _ hA1]; rfl
  have c1 : w1.cell? ⟨w.heap.size, 1, none⟩ = some (.int .i64 S.fr) := by rw [cell_of_row _ _ _ _ _ _ hA1]; rfl
  have c2 : w1.cell? ⟨w.heap.size, 2, none⟩ = some (.int .i64 S.to) := by rw [cell_of_row _ _ _ _ _ _ hA1]; rfl
  have c3 : w1.cell? ⟨w.heap.size, 3, none⟩ = some (.slice ma mn mc) := by rw [cell_of_row _ _ _ _ _ _ hA1]; rfl
  have hRG : w1.rangeAt w.heap.size 1 [.int .i64 S.fr, .int .i64 S.to] := range_of_row hA1 1 _ fun j v hv => by
    match j, hv with
    | 0, hv => exact hv
    | 1, hv => exact hv
  obtain ⟨dP, hdP1, hdP2⟩ := Try.rowSp
  clear hw1 hA1
  go_enter Try.func48, Try.ntmps48
  go_upto_region 1 with fail
  rw [← HW1.out]
  clear HW1
  go_wp2_with (first | (refine wpList_load_mid rfl _ _ rfl w.heap.size 1 (by go_simp) [.int .i64 S.fr, .int .i64 S.to] dP hRG hdP1 hdP2 Try.sizeSp ?_) | (refine wpl_storeO rfl _ _ rfl (w.heap.size + 1) _ _ _ _ rfl rfl rfl rfl rfl rfl _ _ rfl hR1 ?_))
  (try simp only [Exit.inBlock, Exit.then])
  refine bodyPost_ret (results_or rfl _ _ (w.heap.size + 1) _ _ _ rfl rfl (setRow_heap _ _ _ _ _ _ hR1)) rfl ?_
  exact ⟨rfl, below_row HB1.out (by omega) _⟩
set_option maxRecDepth 100000 in
set_option maxHeartbeats 4000000 in
theorem members_any (c : ChD) (S : ShD) (mv pv : Value) (w : World) (hk : c.k ≠ 3) (h : ShM w S mv pv) (hm : S.mem.length ≤ 1000000) :
    Calls Try.prog 31 #[chV c, shV S mv pv] w fun e w' => ∃ va vc, e = .returned (.slice va S.mem.length vc) ∧ w'.ownsRow w.heap.size 3 1 (.slice va S.mem.length vc) S.mem.length (nvs S.mem) ∧ Below w.heap.size w w' := by
  obtain ⟨⟨ma, mc, rfl⟩, ⟨pa, pc, rfl⟩⟩ := h.shape
  obtain ⟨k, sh, ot, at', out, in'⟩ := c
  simp only at hk
  have g3 : (k == 3) = false := by simpa using hk
  obtain ⟨w1, hw1⟩ : ∃ w1, w1 = (w.alloc (.cells #[.int .i64 k, .int .i64 sh, .int .i64 ot, .int .i64 at', .int .i64 out, .int .i64 in'] 24)).alloc (.cells #[.int .i64 S.id, .int .i64 S.fr, .int .i64 S.to, .slice ma S.mem.length mc, .slice pa S.past.length pc] 46) := ⟨_, rfl⟩
  obtain ⟨hA1, hR1⟩ := heap_two w (.cells #[.int .i64 k, .int .i64 sh, .int .i64 ot, .int .i64 at', .int .i64 out, .int .i64 in'] 24) (.cells #[.int .i64 S.id, .int .i64 S.fr, .int .i64 S.to, .slice ma S.mem.length mc, .slice pa S.past.length pc] 46)
  rw [← hw1] at hA1 hR1
  have HB1 : Hid (Below w.heap.size w w1) := hid (by rw [hw1]; exact ((Below.refl _ _).alloc (Nat.le_refl _) _).alloc (by simp) _)
  have HW1 := hid hw1
  have c3 : w1.cell? ⟨w.heap.size + 1, 3, none⟩ = some (.slice ma S.mem.length mc) := by rw [cell_of_row _ _ _ _ _ _ hR1]; rfl
  have HM := hid (nums_own (own_below h.m HB1.out) rfl)
  have c0 : Hid (w1.cell? ⟨w.heap.size, 0, none⟩ = some (.int .i64 k)) := hid (by rw [cell_of_row _ _ _ _ _ _ hA1]; rfl)
  clear hw1 hA1 hR1 h hk
  unfold chV shV
  go_enter Try.func31, Try.ntmps31
  go_upto_region 1 with fail
  rw [← HW1.out]
  clear HW1
  go_wp2_with (go_at_call 21; refine (cloneN_any _ _ _ HM.out (by omega)).mono ?_; rintro e w2 ⟨va2, vc2, rfl, ho2, hb2⟩; have O2 := hid (own_lower ho2 HB1.out.size); have B2 := hid (HB1.out.trans (hb2.mono HB1.out.size)); have d0 := cell_later hb2 c0.out; clear ho2 hb2)
  go_ret
  exact ⟨va2, vc2, rfl, O2.out, B2.out⟩
end Go.Proofs.Ytnkjkaofgninnaa
