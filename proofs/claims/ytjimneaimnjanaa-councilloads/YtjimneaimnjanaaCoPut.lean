/- An entry is put behind the log. -/
import Derived.Test.YtjimneaimnjanaaCoStep
namespace Go.Proofs.Ytjimneaimnjanaa
open Go.RowKit
set_option linter.unusedVariables false
set_option linter.unusedSimpArgs false

theorem own_ne {w : World} {E T : TypeId} {sz n : Nat} {v : Value} {xs cs : _} {q : Nat} {fr : Nat × Nat} (h : w.ownsRow 0 E sz v n xs) (hq : w.heap[q]? = some (.cells cs T fr)) (ht : T ≠ E) : v.ownBlock ≠ some q := fun e => by
  obtain ⟨cur, hc⟩ := own_typed h e
  rw [hq] at hc; cases hc; exact ht rfl
theorem own_set {w : World} {E T : TypeId} {sz n : Nat} {v u : Value} {xs : List Value} {cs : Array Value} {X i : Nat} {fr : Nat × Nat} (h : w.ownsRow 0 E sz v n xs) (hX : w.heap[X]? = some (.cells cs T fr)) (ht : T ≠ E) : (w.setCell ⟨X, i, none⟩ u).ownsRow 0 E sz v n xs :=
  own_kept h fun q cs' hq _ => Below.heap_setCell w ⟨X, i, none⟩ u q fun e => by
    obtain rfl : q = X := e
    exact own_ne h hX ht hq
theorem own_grown {w w' : World} {E T : TypeId} {sz sz' n n' : Nat} {v u : Value} {xs ys : List Value} (h : w.ownsRow 0 E sz v n xs) (k : w.ownsRow 0 T sz' u n' ys) (hg : w.grownBy w' u.ownBlock) (ht : E ≠ T) : w'.ownsRow 0 E sz v n xs :=
  own_kept h fun q cs hq hh => hg.block q (lt_of_block hh) fun e => own_ne k hh ht e.symm
def putD (D : CoD) (kind : Int) (text : ByteArray) : CoD := { D with log := D.log ++ [⟨D.term, kind, text⟩] }
set_option maxRecDepth 100000 in
set_option maxHeartbeats 4000000 in
theorem put_any (b wb : Nat) (lv ms ns : Value) (D : CoD) (W : WdD) (kind : Int) (text : ByteArray) (w : World) (h : Co w 0 b lv D) (k : Wd w wb ms ns W) (hl : D.log.length ≤ 999998) :
    Calls Try.prog 64 #[.pointer (some ⟨b, 0, none⟩), .pointer (some ⟨wb, 0, none⟩), .int .i64 kind, .string text] w fun e w' => e = .returned (.tuple #[]) ∧ CStep w b wb lv ms ns w' (putD D kind text) { W with keep := true } := by
  obtain ⟨va, vc, rfl⟩ := h.shape
  have H := hid h
  have K0 := hid k
  have c1 : w.cell? ⟨b, 1, none⟩ = some (.int .i64 D.term) := h.cell 1
  have c7 : w.drew.cell? ⟨b, 7, none⟩ = some (.slice va D.log.length vc) := h.cell 7
  clear h k
  go_enter Try.func64, Try.ntmps64
  go_wp2_with fail
  refine wp_region_held_drew (S := fun Y => Y.cell? ⟨b, 1, none⟩ = some (.int .i64 D.term)) (by kernel_rfl) c1 (fun hHeld => ?_)
  have BA : Hid (Below w.heap.size w (w.drew.alloc (.cells #[.int .i64 D.term, .int .i64 kind, .string text] 73))) := hid (((Below.refl w.heap.size w).drew).alloc (Nat.le_refl _) _)
  have HA : Hid ((w.drew.alloc (.cells #[.int .i64 D.term, .int .i64 kind, .string text] 73)).heap[b]? = some (.cells (coC D (.slice va D.log.length vc)) 92 (0, 0))) := hid ((BA.out.block b (lt_of_block H.out.head)).trans H.out.head)
  have OA := hid (own_below H.out.log BA.out)
  have KA : Hid (Wd (w.drew.alloc (.cells #[.int .i64 D.term, .int .i64 kind, .string text] 73)) wb ms ns W) := hid ⟨(BA.out.block wb (lt_of_block K0.out.head)).trans K0.out.head, own_below K0.out.mails BA.out, own_below K0.out.news BA.out⟩
  have HY : Hid (∀ j u, ([.int .i64 D.term, .int .i64 kind, .string text] : List Value)[j]? = some u → (w.drew.alloc (.cells #[.int .i64 D.term, .int .i64 kind, .string text] 73)).cell? ⟨w.heap.size, j, none⟩ = some u) := hid fun j u hj => by
    have hn := heap_alloc_new w.drew (.cells #[.int .i64 D.term, .int .i64 kind, .string text] 73)
    have hn' : (w.drew.alloc (.cells #[.int .i64 D.term, .int .i64 kind, .string text] 73)).heap[w.heap.size]? = _ := hn
    rw [cell_of_row _ _ _ _ _ _ hn']
    match j with
    | 0 => simpa using hj
    | 1 => simpa using hj
    | 2 => simpa using hj
    | j + 3 => simp at hj
  have c7b : (w.drew.alloc (.cells #[.int .i64 D.term, .int .i64 kind, .string text] 73)).cell? ⟨b, 7, none⟩ = some (.slice va D.log.length vc) := by rw [cell_of_row _ _ _ _ _ _ HA.out]; rfl
  have c7c : ((w.alloc (.cells #[.int .i64 D.term, .int .i64 kind, .string text] 73)).drew).cell? ⟨b, 7, none⟩ = some (.slice va D.log.length vc) := c7b
  refine wpAnyH_take (i := 0) (v := ?av0) rfl (by kernel_rfl) (by kernel_rfl) (by kernel_rfl) (fun _ _ _ h => h) (Or.inl ⟨by rfl, ?ay0⟩) (by assumption) ?ar0
  case ay0 => (intro w hSw; (try dsimp only at hSw); go_simp; try with_reducible rfl)
  (try simp only [Act.put, List.setIfInBounds_toArray, List.set_cons_zero, List.set_cons_succ, List.getElem_toArray, List.getElem_cons_succ, List.getElem_cons_zero])
  refine wpAnyH_take (i := 1) (v := ?av1) rfl (by kernel_rfl) (by kernel_rfl) (by kernel_rfl) (fun _ _ _ h => h) (Or.inl ⟨by rfl, ?ay1⟩) (by assumption) ?ar1
  case ay1 => (intro w hSw; (try dsimp only at hSw); go_simp; try with_reducible rfl)
  (try simp only [Act.put, List.setIfInBounds_toArray, List.set_cons_zero, List.set_cons_succ, List.getElem_toArray, List.getElem_cons_succ, List.getElem_cons_zero])
  refine wpAnyH_take (i := 2) (v := ?av2) rfl (by kernel_rfl) (by kernel_rfl) (by kernel_rfl) (fun _ _ _ h => h) (Or.inl ⟨by rfl, ?ay2⟩) (by assumption) ?ar2
  case ay2 => (intro w hSw; (try dsimp only at hSw); go_simp; try with_reducible rfl)
  (try simp only [Act.put, List.setIfInBounds_toArray, List.set_cons_zero, List.set_cons_succ, List.getElem_toArray, List.getElem_cons_succ, List.getElem_cons_zero])
  refine wpAnyH_take (i := 3) (v := ?av3) rfl (by kernel_rfl) (by kernel_rfl) (by kernel_rfl) (fun _ _ _ h => h) (Or.inl ⟨by rfl, ?ay3⟩) (by assumption) ?ar3
  case ay3 => (intro w hSw; (try dsimp only at hSw); go_simp; try with_reducible rfl)
  (try simp only [Act.put, List.setIfInBounds_toArray, List.set_cons_zero, List.set_cons_succ, List.getElem_toArray, List.getElem_cons_succ, List.getElem_cons_zero])
  refine wpAnyH_take (i := 5) (v := ?av5) rfl (by kernel_rfl) (by kernel_rfl) (by kernel_rfl) (fun _ _ _ h => h) (Or.inl ⟨by rfl, ?ay5⟩) (by assumption) ?ar5
  case ay5 => (intro w hSw; (try dsimp only at hSw); go_simp; try with_reducible rfl)
  (try simp only [Act.put, List.setIfInBounds_toArray, List.set_cons_zero, List.set_cons_succ, List.getElem_toArray, List.getElem_cons_succ, List.getElem_cons_zero])
  refine wpAnyH_take (i := 6) (v := ?av6) rfl (by kernel_rfl) (by kernel_rfl) (by kernel_rfl) (fun _ _ _ h => h) (Or.inl ⟨by rfl, ?ay6⟩) (by assumption) ?ar6
  case ay6 => (intro w hSw; (try dsimp only at hSw); go_simp; try with_reducible rfl)
  (try simp only [Act.put, List.setIfInBounds_toArray, List.set_cons_zero, List.set_cons_succ, List.getElem_toArray, List.getElem_cons_succ, List.getElem_cons_zero])
  refine wpAnyH_take (i := 7) (v := ?av7) rfl (by kernel_rfl) (by kernel_rfl) (by kernel_rfl) (fun _ _ _ h => h) (Or.inl ⟨by rfl, ?ay7⟩) (by assumption) ?ar7
  case ay7 => (intro w hSw; (try dsimp only at hSw); go_simp; try with_reducible rfl)
  (try simp only [Act.put, List.setIfInBounds_toArray, List.set_cons_zero, List.set_cons_succ, List.getElem_toArray, List.getElem_cons_succ, List.getElem_cons_zero])
  refine wpAnyH_take (i := 8) (v := ?av8) rfl (by kernel_rfl) (by kernel_rfl) (by kernel_rfl) (fun _ _ _ h => h) (Or.inl ⟨by rfl, ?ay8⟩) (by assumption) ?ar8
  case ay8 => (intro w hSw; (try dsimp only at hSw); go_simp; try with_reducible rfl)
  (try simp only [Act.put, List.setIfInBounds_toArray, List.set_cons_zero, List.set_cons_succ, List.getElem_toArray, List.getElem_cons_succ, List.getElem_cons_zero])
  refine wpAnyH_take (i := 9) (v := ?av9) rfl (by kernel_rfl) (by kernel_rfl) (by kernel_rfl) (fun _ _ _ h => h) (Or.inl ⟨by rfl, ?ay9⟩) (by assumption) ?ar9
  case ay9 => (intro w hSw; (try dsimp only at hSw); go_simp; try with_reducible rfl)
  (try simp only [Act.put, List.setIfInBounds_toArray, List.set_cons_zero, List.set_cons_succ, List.getElem_toArray, List.getElem_cons_succ, List.getElem_cons_zero])
  refine wpAnyH_take (i := 10) (v := ?av10) rfl (by kernel_rfl) (by kernel_rfl) (by kernel_rfl) (fun _ _ _ h => h) (Or.inl ⟨by rfl, ?ay10⟩) (by assumption) ?ar10
  case ay10 => (intro w hSw; (try dsimp only at hSw); go_simp; try with_reducible rfl)
  (try simp only [Act.put, List.setIfInBounds_toArray, List.set_cons_zero, List.set_cons_succ, List.getElem_toArray, List.getElem_cons_succ, List.getElem_cons_zero])
  refine wpAnyH_take (i := 11) (v := ?av11) rfl (by kernel_rfl) (by kernel_rfl) (by kernel_rfl) (fun _ _ _ h => h) (Or.inl ⟨by rfl, ?ay11⟩) (by assumption) ?ar11
  case ay11 => (intro w hSw; (try dsimp only at hSw); go_simp; try with_reducible rfl)
  (try simp only [Act.put, List.setIfInBounds_toArray, List.set_cons_zero, List.set_cons_succ, List.getElem_toArray, List.getElem_cons_succ, List.getElem_cons_zero])
  refine wpAnyH_ready (rs := [4, 12]) (by kernel_rfl) (by simp) ?_
  refine AllReadyH.cons rfl (fun K hK => ?_) (AllReadyH.cons rfl (fun K hK => ?_) AllReadyH.nil)
  · skip
    rw [if_pos (by rfl)]
    go_simp
    refine hK.out _ _ hHeld (fun hHeld => ?_)
    clear hK K
    (try simp only [Act.put, List.setIfInBounds_toArray, List.set_cons_zero, List.set_cons_succ, List.getElem_toArray, List.getElem_cons_succ, List.getElem_cons_zero])
    refine wpAnyH_ready (rs := [12]) (by kernel_rfl) (by simp) ?_
    refine AllReadyH.cons rfl (fun K hK => ?_) AllReadyH.nil
    rw [if_pos (by rfl)]
    go_simp
    refine hK.out _ _ (cell_later (((Below.refl w.heap.size w).drew).alloc (Nat.le_refl _) _) c1) (fun hHeld => ?_)
    clear hK K
    (try simp only [Act.put, List.setIfInBounds_toArray, List.set_cons_zero, List.set_cons_succ, List.getElem_toArray, List.getElem_cons_succ, List.getElem_cons_zero])
    clear c7 c7b c7c
    refine wpAnyH_ready (rs := [13]) (by kernel_rfl) (by simp) ?_
    refine AllReadyH.cons rfl (fun K hK => ?_) AllReadyH.nil
    rw [if_pos (by rfl)]
    refine wp_appN rowEn _ _ rfl (.slice va D.log.length vc) D.log.length (evs D.log) rfl OA.out w.heap.size 1 1 [.int .i64 D.term, .int .i64 kind, .string text] rfl rfl HY.out (by intro u hu; simp at hu; rcases hu with rfl | rfl | rfl <;> rfl) (by omega) ?_
    intro va' vc' W2 ho2 hg2 hn2
    have hb2 : W2.heap[b]? = some (.cells (coC D (.slice va D.log.length vc)) 92 (0, 0)) := (hg2.block b (lt_of_block HA.out) (fun e => own_ne OA.out HA.out (by decide) e.symm)).trans HA.out
    have hw2 : W2.heap[wb]? = some (.cells #[.bool W.keep, ms, ns] 61 (0, 0)) := (hg2.block wb (lt_of_block KA.out.head) (fun e => own_ne OA.out KA.out.head (by decide) e.symm)).trans KA.out.head
    have hm2 := own_grown KA.out.mails OA.out hg2 (by decide)
    have hs2 := own_grown KA.out.news OA.out hg2 (by decide)
    have bt2 := Bt.grown (R := Blk b wb (.slice va D.log.length vc) ms ns) (Bt.of_below BA.out) hg2 (fun q hq => .inl (.inr (.inr (.inl hq))))
    have nw2 : Nw w (.slice va D.log.length vc) (.slice va' (D.log.length + 1) vc') := fun q hq => by
      rcases hn2 q hq with h1 | h1
      · exact .inl h1
      · exact .inr (Nat.le_trans BA.out.size h1)
    refine hK.out _ _ (by rw [cell_of_row _ _ _ _ _ _ hb2]; rfl) (fun hHeld => ?_)
    clear hK K
    (try simp only [Act.put, List.setIfInBounds_toArray, List.set_cons_zero, List.set_cons_succ, List.getElem_toArray, List.getElem_cons_succ, List.getElem_cons_zero])
    refine wpAnyH_take (i := 14) (v := ?bv14) rfl (by kernel_rfl) (by kernel_rfl) (by kernel_rfl) (fun _ _ _ h => h) (Or.inl ⟨by rfl, ?by14⟩) (by assumption) ?br14
    case by14 => (intro w hSw; (try dsimp only at hSw); go_simp; try with_reducible rfl)
    (try simp only [Act.put, List.setIfInBounds_toArray, List.set_cons_zero, List.set_cons_succ, List.getElem_toArray, List.getElem_cons_succ, List.getElem_cons_zero])
    refine wpAnyH_take (i := 15) (v := ?bv15) rfl (by kernel_rfl) (by kernel_rfl) (by kernel_rfl) (fun _ _ _ h => h) (Or.inl ⟨by rfl, ?by15⟩) (by assumption) ?br15
    case by15 => (intro w hSw; (try dsimp only at hSw); go_simp; try with_reducible rfl)
    (try simp only [Act.put, List.setIfInBounds_toArray, List.set_cons_zero, List.set_cons_succ, List.getElem_toArray, List.getElem_cons_succ, List.getElem_cons_zero])
    have c72 : W2.cell? ⟨b, 7, none⟩ = some (.slice va D.log.length vc) := by rw [cell_of_row _ _ _ _ _ _ hb2]; rfl
    have f72 : W2.frozen? ⟨b, 7, none⟩ = false := by simp [World.frozen?, hb2]
    refine wpAnyH_ready (rs := [16]) (by kernel_rfl) (by simp) ?_
    refine AllReadyH.cons rfl (fun K hK => ?_) AllReadyH.nil
    rw [if_pos (by rfl)]
    go_simp
    have hb3 : (W2.setCell ⟨b, 7, none⟩ (.slice va' (D.log.length + 1) vc')).heap[b]? = some (.cells (coC (putD D kind text) (.slice va' (D.log.length + 1) vc')) 92 (0, 0)) := heap_setCell_same _ _ _ _ _ _ hb2
    have hne : wb ≠ b := fun e => by rw [e, hb2] at hw2; cases hw2
    have hw3 := (Below.heap_setCell W2 ⟨b, 7, none⟩ (.slice va' (D.log.length + 1) vc') wb hne).trans hw2
    have ho3 := own_set (u := .slice va' (D.log.length + 1) vc') (i := 7) ho2 hb2 (by decide)
    have hm3 := own_set (u := .slice va' (D.log.length + 1) vc') (i := 7) hm2 hb2 (by decide)
    have hs3 := own_set (u := .slice va' (D.log.length + 1) vc') (i := 7) hs2 hb2 (by decide)
    have bt3 := Bt.set (X := b) (i := 7) (v := .slice va' (D.log.length + 1) vc') bt2 (.inl (.inl rfl))
    refine hK.out _ _ (by rw [cell_of_row _ _ _ _ _ _ hb3]; rfl) (fun hHeld => ?_)
    clear hK K
    (try simp only [Act.put, List.setIfInBounds_toArray, List.set_cons_zero, List.set_cons_succ, List.getElem_toArray, List.getElem_cons_succ, List.getElem_cons_zero])
    refine wpAnyH_done (by kernel_rfl) ?_ _
    generalize W2.setCell ⟨b, 7, none⟩ (.slice va' (D.log.length + 1) vc') = W3 at hb3 hw3 ho3 hm3 hs3 bt3 ⊢
    have HB3 := hid hb3
    have HW3 := hid hw3
    have HO3 := hid ho3
    have HM3 := hid hm3
    have HS3 := hid hs3
    have BT3 := hid bt3
    have NW2 := hid nw2
    have k0 : W3.cell? ⟨wb, 0, none⟩ = some (.bool W.keep) := by rw [cell_of_row _ _ _ _ _ _ hw3]; rfl
    have kf : W3.frozen? ⟨wb, 0, none⟩ = false := by simp [World.frozen?, hw3]
    clear hb3 hw3 ho3 hm3 hs3 bt3 nw2 hHeld c72 f72 hb2 hw2 hm2 hs2 bt2 ho2 hg2 hn2
    go_wp2_with fail
    first | go_end0 | refine bodyPost_ret (results_none rfl _ _ _) rfl ?_
    refine ⟨rfl, _, _, _, ⟨(Below.heap_setCell W3 ⟨wb, 0, none⟩ (.bool true) b hne.symm).trans HB3.out, ?_⟩, ⟨heap_setCell_same _ _ _ _ _ _ HW3.out, own_set HM3.out HW3.out (by decide), own_set HS3.out HW3.out (by decide)⟩, Bt.set BT3.out (.inl (.inr (.inl rfl))), NW2.out, Nw.refl _ _, Nw.refl _ _⟩
    show World.ownsRow _ _ _ _ _ (D.log ++ [_]).length (evs (D.log ++ [_]))
    rw [List.length_append, evs_snoc]
    exact own_set HO3.out HW3.out (by decide)
  · skip
    rw [if_pos (by rfl)]
    go_simp
    refine hK.out _ _ (cell_later (((Below.refl w.heap.size w).drew).alloc (Nat.le_refl _) _) c1) (fun hHeld => ?_)
    clear hK K
    (try simp only [Act.put, List.setIfInBounds_toArray, List.set_cons_zero, List.set_cons_succ, List.getElem_toArray, List.getElem_cons_succ, List.getElem_cons_zero])
    refine wpAnyH_ready (rs := [4]) (by kernel_rfl) (by simp) ?_
    refine AllReadyH.cons rfl (fun K hK => ?_) AllReadyH.nil
    rw [if_pos (by rfl)]
    go_simp
    refine hK.out _ _ hHeld (fun hHeld => ?_)
    clear hK K
    (try simp only [Act.put, List.setIfInBounds_toArray, List.set_cons_zero, List.set_cons_succ, List.getElem_toArray, List.getElem_cons_succ, List.getElem_cons_zero])
    clear c7 c7b c7c
    refine wpAnyH_ready (rs := [13]) (by kernel_rfl) (by simp) ?_
    refine AllReadyH.cons rfl (fun K hK => ?_) AllReadyH.nil
    rw [if_pos (by rfl)]
    refine wp_appN rowEn _ _ rfl (.slice va D.log.length vc) D.log.length (evs D.log) rfl OA.out w.heap.size 1 1 [.int .i64 D.term, .int .i64 kind, .string text] rfl rfl HY.out (by intro u hu; simp at hu; rcases hu with rfl | rfl | rfl <;> rfl) (by omega) ?_
    intro va' vc' W2 ho2 hg2 hn2
    have hb2 : W2.heap[b]? = some (.cells (coC D (.slice va D.log.length vc)) 92 (0, 0)) := (hg2.block b (lt_of_block HA.out) (fun e => own_ne OA.out HA.out (by decide) e.symm)).trans HA.out
    have hw2 : W2.heap[wb]? = some (.cells #[.bool W.keep, ms, ns] 61 (0, 0)) := (hg2.block wb (lt_of_block KA.out.head) (fun e => own_ne OA.out KA.out.head (by decide) e.symm)).trans KA.out.head
    have hm2 := own_grown KA.out.mails OA.out hg2 (by decide)
    have hs2 := own_grown KA.out.news OA.out hg2 (by decide)
    have bt2 := Bt.grown (R := Blk b wb (.slice va D.log.length vc) ms ns) (Bt.of_below BA.out) hg2 (fun q hq => .inl (.inr (.inr (.inl hq))))
    have nw2 : Nw w (.slice va D.log.length vc) (.slice va' (D.log.length + 1) vc') := fun q hq => by
      rcases hn2 q hq with h1 | h1
      · exact .inl h1
      · exact .inr (Nat.le_trans BA.out.size h1)
    refine hK.out _ _ (by rw [cell_of_row _ _ _ _ _ _ hb2]; rfl) (fun hHeld => ?_)
    clear hK K
    (try simp only [Act.put, List.setIfInBounds_toArray, List.set_cons_zero, List.set_cons_succ, List.getElem_toArray, List.getElem_cons_succ, List.getElem_cons_zero])
    refine wpAnyH_take (i := 14) (v := ?cv14) rfl (by kernel_rfl) (by kernel_rfl) (by kernel_rfl) (fun _ _ _ h => h) (Or.inl ⟨by rfl, ?cy14⟩) (by assumption) ?cr14
    case cy14 => (intro w hSw; (try dsimp only at hSw); go_simp; try with_reducible rfl)
    (try simp only [Act.put, List.setIfInBounds_toArray, List.set_cons_zero, List.set_cons_succ, List.getElem_toArray, List.getElem_cons_succ, List.getElem_cons_zero])
    refine wpAnyH_take (i := 15) (v := ?cv15) rfl (by kernel_rfl) (by kernel_rfl) (by kernel_rfl) (fun _ _ _ h => h) (Or.inl ⟨by rfl, ?cy15⟩) (by assumption) ?cr15
    case cy15 => (intro w hSw; (try dsimp only at hSw); go_simp; try with_reducible rfl)
    (try simp only [Act.put, List.setIfInBounds_toArray, List.set_cons_zero, List.set_cons_succ, List.getElem_toArray, List.getElem_cons_succ, List.getElem_cons_zero])
    have c72 : W2.cell? ⟨b, 7, none⟩ = some (.slice va D.log.length vc) := by rw [cell_of_row _ _ _ _ _ _ hb2]; rfl
    have f72 : W2.frozen? ⟨b, 7, none⟩ = false := by simp [World.frozen?, hb2]
    refine wpAnyH_ready (rs := [16]) (by kernel_rfl) (by simp) ?_
    refine AllReadyH.cons rfl (fun K hK => ?_) AllReadyH.nil
    rw [if_pos (by rfl)]
    go_simp
    have hb3 : (W2.setCell ⟨b, 7, none⟩ (.slice va' (D.log.length + 1) vc')).heap[b]? = some (.cells (coC (putD D kind text) (.slice va' (D.log.length + 1) vc')) 92 (0, 0)) := heap_setCell_same _ _ _ _ _ _ hb2
    have hne : wb ≠ b := fun e => by rw [e, hb2] at hw2; cases hw2
    have hw3 := (Below.heap_setCell W2 ⟨b, 7, none⟩ (.slice va' (D.log.length + 1) vc') wb hne).trans hw2
    have ho3 := own_set (u := .slice va' (D.log.length + 1) vc') (i := 7) ho2 hb2 (by decide)
    have hm3 := own_set (u := .slice va' (D.log.length + 1) vc') (i := 7) hm2 hb2 (by decide)
    have hs3 := own_set (u := .slice va' (D.log.length + 1) vc') (i := 7) hs2 hb2 (by decide)
    have bt3 := Bt.set (X := b) (i := 7) (v := .slice va' (D.log.length + 1) vc') bt2 (.inl (.inl rfl))
    refine hK.out _ _ (by rw [cell_of_row _ _ _ _ _ _ hb3]; rfl) (fun hHeld => ?_)
    clear hK K
    (try simp only [Act.put, List.setIfInBounds_toArray, List.set_cons_zero, List.set_cons_succ, List.getElem_toArray, List.getElem_cons_succ, List.getElem_cons_zero])
    refine wpAnyH_done (by kernel_rfl) ?_ _
    generalize W2.setCell ⟨b, 7, none⟩ (.slice va' (D.log.length + 1) vc') = W3 at hb3 hw3 ho3 hm3 hs3 bt3 ⊢
    have HB3 := hid hb3
    have HW3 := hid hw3
    have HO3 := hid ho3
    have HM3 := hid hm3
    have HS3 := hid hs3
    have BT3 := hid bt3
    have NW2 := hid nw2
    have k0 : W3.cell? ⟨wb, 0, none⟩ = some (.bool W.keep) := by rw [cell_of_row _ _ _ _ _ _ hw3]; rfl
    have kf : W3.frozen? ⟨wb, 0, none⟩ = false := by simp [World.frozen?, hw3]
    clear hb3 hw3 ho3 hm3 hs3 bt3 nw2 hHeld c72 f72 hb2 hw2 hm2 hs2 bt2 ho2 hg2 hn2
    go_wp2_with fail
    first | go_end0 | refine bodyPost_ret (results_none rfl _ _ _) rfl ?_
    refine ⟨rfl, _, _, _, ⟨(Below.heap_setCell W3 ⟨wb, 0, none⟩ (.bool true) b hne.symm).trans HB3.out, ?_⟩, ⟨heap_setCell_same _ _ _ _ _ _ HW3.out, own_set HM3.out HW3.out (by decide), own_set HS3.out HW3.out (by decide)⟩, Bt.set BT3.out (.inl (.inr (.inl rfl))), NW2.out, Nw.refl _ _, Nw.refl _ _⟩
    show World.ownsRow _ _ _ _ _ (D.log ++ [_]).length (evs (D.log ++ [_]))
    rw [List.length_append, evs_snoc]
    exact own_set HO3.out HW3.out (by decide)
end Go.Proofs.Ytjimneaimnjanaa
