/- meetAnew: a leader begins to learn how far a node's log goes. -/
import Derived.Test.YtjimneaimnjanaaCoSmall
namespace Go.Proofs.Ytjimneaimnjanaa
open Go.RowKit
set_option linter.unusedVariables false
set_option linter.unusedSimpArgs false

def upd {α : Type} (f : Nat → α) (n : Nat) (v : α) : Nat → α := fun k => if k = n then v else f k
theorem coC_mt (D : CoD) (lv : Value) (n : Nat) (hn : n < 7) (v : Int) : (coC D lv).setIfInBounds (20 + n) (.int .i64 v) = coC { D with mt := upd D.mt n v } lv := by
  match n, hn with
  | 0, _ => rfl
  | 1, _ => rfl
  | 2, _ => rfl
  | 3, _ => rfl
  | 4, _ => rfl
  | 5, _ => rfl
  | 6, _ => rfl
theorem coC_nx (D : CoD) (lv : Value) (n : Nat) (hn : n < 7) (v : Int) : (coC D lv).setIfInBounds (27 + n) (.int .i64 v) = coC { D with nx := upd D.nx n v } lv := by
  match n, hn with
  | 0, _ => rfl
  | 1, _ => rfl
  | 2, _ => rfl
  | 3, _ => rfl
  | 4, _ => rfl
  | 5, _ => rfl
  | 6, _ => rfl
theorem Co.nxc {w : World} {base b : Nat} {lv : Value} {D : CoD} (h : Co w base b lv D) (n : Nat) (hn : n < 7) : w.cell? ⟨b, 27 + n, none⟩ = some (.int .i64 (D.nx n)) := by
  rw [h.cell]
  match n, hn with
  | 0, _ => rfl
  | 1, _ => rfl
  | 2, _ => rfl
  | 3, _ => rfl
  | 4, _ => rfl
  | 5, _ => rfl
  | 6, _ => rfl
def meetD (D : CoD) (n : Nat) : CoD := { D with mt := upd D.mt n 0, nx := upd D.nx n (D.bi + D.log.length + 1) }
set_option maxRecDepth 100000 in
set_option maxHeartbeats 4000000 in
theorem meetAnew_any (b : Nat) (lv : Value) (D : CoD) (n : Nat) (w : World) (h : Co w 0 b lv D) (hi : CoI D) (hn : n < 7) :
    Calls Try.prog 67 #[.pointer (some ⟨b, 0, none⟩), .int .i64 (n : Int)] w fun e w' => e = .returned (.tuple #[]) ∧ Co w' 0 b lv (meetD D n) ∧ Bt (fun q => q = b) w w' ∧ (∀ wb ms ns W, Wd w wb ms ns W → Wd w' wb ms ns W) := by
  obtain ⟨va, vc, rfl⟩ := h.shape
  have H := hid h
  have HI := hid hi
  have hlo := hi.lo
  have hhi := hi.hi
  have hll := hi.len
  have hlt : (n : Int) < 7 := by omega
  have hw : IntKind.i64.wrap (D.bi + (D.log.length : Int) + 1) = D.bi + (D.log.length : Int) + 1 := IntWalk.i64_in _ ⟨by omega, by omega⟩
  clear h hi
  go_enter Try.func67, Try.ntmps67
  go_wp2_with fail
  refine wp_region_held_drew (S := fun Y => True) (by kernel_rfl) trivial (fun hHeld => ?_)
  refine wpAnyH_take (i := 0) (v := ?av0) rfl (by kernel_rfl) (by kernel_rfl) (by kernel_rfl) (fun _ _ _ h => h) (Or.inl ⟨by rfl, ?ay0⟩) (by assumption) ?ar0
  case ay0 => (intro w hSw; (try dsimp only at hSw); go_simp; try with_reducible rfl)
  (try simp only [Act.put, List.setIfInBounds_toArray, List.set_cons_zero, List.set_cons_succ, List.getElem_toArray, List.getElem_cons_succ, List.getElem_cons_zero])
  refine wpAnyH_take (i := 1) (v := ?av1) rfl (by kernel_rfl) (by kernel_rfl) (by kernel_rfl) (fun _ _ _ h => h) (Or.inl ⟨by rfl, ?ay1⟩) (by assumption) ?ar1
  case ay1 => (intro w hSw; (try dsimp only at hSw); go_simp; try with_reducible rfl)
  (try simp only [Act.put, List.setIfInBounds_toArray, List.set_cons_zero, List.set_cons_succ, List.getElem_toArray, List.getElem_cons_succ, List.getElem_cons_zero])
  refine wpAnyH_take (i := 2) (v := ?av2) rfl (by kernel_rfl) (by kernel_rfl) (by kernel_rfl) (fun _ _ _ h => h) (Or.inl ⟨by rfl, ?ay2⟩) (by assumption) ?ar2
  case ay2 => (intro w hSw; (try dsimp only at hSw); go_simp; try with_reducible rfl)
  (try simp only [Act.put, List.setIfInBounds_toArray, List.set_cons_zero, List.set_cons_succ, List.getElem_toArray, List.getElem_cons_succ, List.getElem_cons_zero])
  refine wpAnyH_take (i := 3) (v := ?av3) rfl (by kernel_rfl) (by kernel_rfl) (by kernel_rfl) (fun _ _ _ h => h) (Or.inl ⟨by rfl, ?ay3⟩) (by assumption) ?ar3
  case ay3 => (intro w hSw; (try dsimp only at hSw); go_simp; try with_reducible rfl)
  (try simp only [Act.put, List.setIfInBounds_toArray, List.set_cons_zero, List.set_cons_succ, List.getElem_toArray, List.getElem_cons_succ, List.getElem_cons_zero])
  refine wpAnyH_take (i := 4) (v := ?av4) rfl (by kernel_rfl) (by kernel_rfl) (by kernel_rfl) (fun _ _ _ h => h) (Or.inl ⟨by rfl, ?ay4⟩) (by assumption) ?ar4
  case ay4 => (intro w hSw; (try dsimp only at hSw); go_simp; try with_reducible rfl)
  (try simp only [Act.put, List.setIfInBounds_toArray, List.set_cons_zero, List.set_cons_succ, List.getElem_toArray, List.getElem_cons_succ, List.getElem_cons_zero])
  refine wpAnyH_take (i := 7) (v := ?av7) rfl (by kernel_rfl) (by kernel_rfl) (by kernel_rfl) (fun _ _ _ h => h) (Or.inl ⟨by rfl, ?ay7⟩) (by assumption) ?ar7
  case ay7 => (intro w hSw; (try dsimp only at hSw); go_simp; try with_reducible rfl)
  (try simp only [Act.put, List.setIfInBounds_toArray, List.set_cons_zero, List.set_cons_succ, List.getElem_toArray, List.getElem_cons_succ, List.getElem_cons_zero])
  refine wpAnyH_take (i := 8) (v := ?av8) rfl (by kernel_rfl) (by kernel_rfl) (by kernel_rfl) (fun _ _ _ h => h) (Or.inl ⟨by rfl, ?ay8⟩) (by assumption) ?ar8
  case ay8 => (intro w hSw; (try dsimp only at hSw); go_simp; try with_reducible rfl)
  (try simp only [Act.put, List.setIfInBounds_toArray, List.set_cons_zero, List.set_cons_succ, List.getElem_toArray, List.getElem_cons_succ, List.getElem_cons_zero])
  refine wpAnyH_take (i := 11) (v := ?av11) rfl (by kernel_rfl) (by kernel_rfl) (by kernel_rfl) (fun _ _ _ h => h) (Or.inl ⟨by rfl, ?ay11⟩) (by assumption) ?ar11
  case ay11 => (intro w hSw; (try dsimp only at hSw); go_simp; try with_reducible rfl)
  (try simp only [Act.put, List.setIfInBounds_toArray, List.set_cons_zero, List.set_cons_succ, List.getElem_toArray, List.getElem_cons_succ, List.getElem_cons_zero])
  refine wpAnyH_take (i := 12) (v := ?av12) rfl (by kernel_rfl) (by kernel_rfl) (by kernel_rfl) (fun _ _ _ h => h) (Or.inl ⟨by rfl, ?ay12⟩) (by assumption) ?ar12
  case ay12 => (intro w hSw; (try dsimp only at hSw); go_simp; try with_reducible rfl)
  (try simp only [Act.put, List.setIfInBounds_toArray, List.set_cons_zero, List.set_cons_succ, List.getElem_toArray, List.getElem_cons_succ, List.getElem_cons_zero])
  refine wpAnyH_ready (rs := [5]) (by kernel_rfl) (by simp) ?_
  refine AllReadyH.cons rfl (fun K hK => ?_) AllReadyH.nil
  rw [if_pos (by rfl)]
  go_simp
  refine (last_any 0 b _ D _ (H.out.below ((Below.refl _ _).drew)) HI.out).mono ?_
  rintro e w1 ⟨rfl, m1, hw1⟩
  have hq : Below w.heap.size w.drew (w.drew.drewN m1) := belowN w.drew m1
  have H1 : Hid (Co w1 0 b (.slice va D.log.length vc) D) := hid (by rw [hw1]; exact H.out.below (((Below.refl _ _).drew).trans hq))
  have T1 : Hid (Bt (fun q => q = b) w w1 ∧ (∀ wb ms ns W, Wd w wb ms ns W → Wd w1 wb ms ns W)) := hid (by
    have hb : Below w.heap.size w w1 := by rw [hw1]; exact ((Below.refl _ _).drew).trans hq
    exact ⟨.of_below hb, fun wb ms ns W k => ⟨(hb.block wb (lt_of_block k.head)).trans k.head, own_below k.mails hb, own_below k.news hb⟩⟩)
  clear hw1 hq
  refine hK.out _ _ trivial (fun hHeld => ?_)
  try clear hK K
  (try simp only [Act.put, List.setIfInBounds_toArray, List.set_cons_zero, List.set_cons_succ, List.getElem_toArray, List.getElem_cons_succ, List.getElem_cons_zero])
  refine wpAnyH_take (i := 6) (v := ?av6) rfl (by kernel_rfl) (by kernel_rfl) (by kernel_rfl) (fun _ _ _ h => h) (Or.inl ⟨by rfl, ?ay6⟩) (by assumption) ?ar6
  case ay6 => (intro w hSw; (try dsimp only at hSw); go_simp; try with_reducible rfl)
  (try simp only [Act.put, List.setIfInBounds_toArray, List.set_cons_zero, List.set_cons_succ, List.getElem_toArray, List.getElem_cons_succ, List.getElem_cons_zero])
  refine wpAnyH_take (i := 9) (v := ?av9) rfl (by kernel_rfl) (by kernel_rfl) (by kernel_rfl) (fun _ _ _ h => h) (Or.inl ⟨by rfl, ?ay9⟩) (by assumption) ?ar9
  case ay9 => (intro w hSw; (try dsimp only at hSw); go_simp; try with_reducible rfl)
  (try simp only [Act.put, List.setIfInBounds_toArray, List.set_cons_zero, List.set_cons_succ, List.getElem_toArray, List.getElem_cons_succ, List.getElem_cons_zero])
  refine wpAnyH_ready (rs := [10]) (by kernel_rfl) (by simp) ?_
  refine AllReadyH.cons rfl (fun K hK => ?_) AllReadyH.nil
  rw [if_pos (by rfl)]
  have m1c := H1.out.mt n hn
  have m1f : w1.frozen? ⟨b, 20 + n, none⟩ = false := by simp [World.frozen?, H1.out.head]
  have H2 : Hid (Co (w1.setCell ⟨b, 20 + n, none⟩ (.int .i64 0)) 0 b (.slice va D.log.length vc) { D with mt := upd D.mt n 0 }) := hid (H1.out.set (coC_mt D _ n hn 0) rfl)
  go_simp
  clear m1c m1f
  refine hK.out _ _ trivial (fun hHeld => ?_)
  try clear hK K
  (try simp only [Act.put, List.setIfInBounds_toArray, List.set_cons_zero, List.set_cons_succ, List.getElem_toArray, List.getElem_cons_succ, List.getElem_cons_zero])
  refine wpAnyH_take (i := 13) (v := ?av13) rfl (by kernel_rfl) (by kernel_rfl) (by kernel_rfl) (fun _ _ _ h => h) (Or.inl ⟨by rfl, ?ay13⟩) (by assumption) ?ar13
  case ay13 => (intro w hSw; (try dsimp only at hSw); go_simp; try with_reducible rfl)
  (try simp only [Act.put, List.setIfInBounds_toArray, List.set_cons_zero, List.set_cons_succ, List.getElem_toArray, List.getElem_cons_succ, List.getElem_cons_zero])
  refine wpAnyH_ready (rs := [14]) (by kernel_rfl) (by simp) ?_
  refine AllReadyH.cons rfl (fun K hK => ?_) AllReadyH.nil
  rw [if_pos (by rfl)]
  have m2c := H2.out.nxc n hn
  have m2f : (w1.setCell ⟨b, 20 + n, none⟩ (.int .i64 0)).frozen? ⟨b, 27 + n, none⟩ = false := by simp [World.frozen?, H2.out.head]
  have H3 : Hid (Co ((w1.setCell ⟨b, 20 + n, none⟩ (.int .i64 0)).setCell ⟨b, 27 + n, none⟩ (.int .i64 (D.bi + (D.log.length : Int) + 1))) 0 b (.slice va D.log.length vc) (meetD D n)) := hid (H2.out.set (coC_nx _ _ n hn _) rfl)
  go_simp
  clear m2c m2f
  refine hK.out _ _ trivial (fun hHeld => ?_)
  try clear hK K
  (try simp only [Act.put, List.setIfInBounds_toArray, List.set_cons_zero, List.set_cons_succ, List.getElem_toArray, List.getElem_cons_succ, List.getElem_cons_zero])
  refine wpAnyH_done (by kernel_rfl) ?_ _
  go_wp2_with fail
  first | go_end0 | refine bodyPost_ret (results_none rfl _ _ _) rfl ?_
  exact ⟨rfl, H3.out, Bt.set (R := fun q => q = b) (Bt.set T1.out.1 (.inl rfl)) (.inl rfl), fun wb ms ns W k => ((T1.out.2 wb ms ns W k).set H1.out).set H2.out⟩
end Go.Proofs.Ytjimneaimnjanaa
