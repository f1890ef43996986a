/- What the iterator over a table's instances gives, by the list of its entries. Conditions: the table lies in memory. -/
import Derived.Test.YtadjeefigjdkiaaInGet
namespace Go.Proofs.Ytadjeefigjdkiaa
open Go.RowKit Go.Maps Go.Shelf
attribute [local go_sem] Oper.semAt_some
set_option linter.unusedVariables false
set_option linter.unusedSimpArgs false

/-- Maps and their walks are as they were, but for one block. -/
structure KWB (z : Nat) (W W' : World) : Prop where
  size : W.heap.size ≤ W'.heap.size
  same : ∀ (k : Nat) (o : Obj), k ≠ z → W.heap[k]? = some o → o.isWalk = true → W'.heap[k]? = some o
theorem KWB.trans {z : Nat} {A B C : World} (h : KWB z A B) (k : KWB z B C) : KWB z A C := ⟨Nat.le_trans h.size k.size, fun i o hz hi ho => k.same i o hz (h.same i o hz hi ho) ho⟩
theorem KWB.of {z : Nat} {A B : World} (h : KeepsWalks A B) : KWB z A B := ⟨h.size, fun k o _ hk ho => h.same k o hk ho⟩
theorem KWB.grown {z : Nat} {A B : World} (h : A.grownBy B (some z)) : KWB z A B := ⟨h.size, fun k o hz hk _ => (h.block k (Array.getElem?_eq_some_iff.1 hk).1 (fun e => hz (Option.some.inj e))).trans hk⟩
theorem ranges_kwb {k : TypeId} {R : Value → Option (DataW Value × List MemPlace)} {w w' : World} {b r n z : Nat} {D : DataW Value} {left : Lit → Bool} {cnt : Nat}
    (h : w.ranges Try.prog k R b r n D left cnt) (hk : KWB z w w') (hb : b ≠ z) (hr : r ≠ z) : w'.ranges Try.prog k R b r n D left cnt := by
  obtain ⟨es, clock, since, seen, c0, hb', F, hs, hD, hr', rest⟩ := h
  exact ⟨es, clock, since, seen, c0, hk.same b _ hb hb' rfl, F, hs, hD, hk.same r _ hr hr' rfl, rest⟩
/-- The entry number j, under its key. -/
def enL (L : List EnI) (j : Fin L.length) : EnI := ⟨refK L[j.1].x.ref, L[j.1].x, L[j.1].ua, L[j.1].un, L[j.1].uc, L[j.1].va, L[j.1].vn, L[j.1].vc⟩
set_option maxRecDepth 100000 in
set_option maxHeartbeats 2000000 in
theorem known1L_in (n : Nat) (hn : 1 ≤ n) (l B tb mb nn : Nat) (D : DataW Value) (L : List EnI) (hTL : TL D L) (z : Nat) (hzb : mb ≠ z) (J Jx : List (Fin L.length) → World → Prop)
    (hY : ∀ pre x W, J pre W → pre.length < Maps.size D → YieldAt Fence.wide (n - 1) Try.prog l #[(enL L x).v] W fun e W' =>
      (e = .returned (.bool true) ∧ J (pre ++ [x]) W' ∧ KWB z W W') ∨ (e = .returned (.bool false) ∧ Jx (pre ++ [x]) W'))
    (W : World) (hzW : z < W.heap.size) (hJ : AbidesFrom W.heap.size J) (hB : W.cell? ⟨B, 0, none⟩ = some (.pointer (some ⟨tb, 0, none⟩))) (hT : Tb W tb mb nn D) (h0 : J [] W) :
    CallsIn Fence.wide n Try.prog 59 #[.func (.yield l) #[] #[], .pointer (some ⟨B, 0, none⟩)] W fun e W' => (∃ v, e = .returned v) ∧
      ((∃ ss, Came D (fun _ => false) (ss.map (enL L)) ∧ J ss W') ∨ (∃ pre left, Came D left (pre.map (enL L)) ∧ Jx pre W')) := by
  have hbox : W.cell? ⟨tb, 0, none⟩ = some (.map (some mb)) := by rw [cell_of_row _ _ _ _ _ _ hT.box]; rfl
  have hown := hT.own
  clear hT
  refine callsIn_of_wp Try.func59 rfl trivial ?_ rfl
  simp only [Try.ntmps59, List.size_toArray, List.length_cons, List.length_nil, Nat.reduceAdd, Nat.reduceSub, Array.replicate_succ, Array.replicate_zero, List.push_toArray, List.append_toArray, List.nil_append, List.cons_append]
  gi_wp2_with (first
    | (gi_at_range; refine wpListIn_range_own _ rfl _ 67 rfl 23 31 refLaw Try.underlyingTab _ mb nn _ rfl hown ?_; intro w0 hrg0 hg0 hs0)
    | gi_in)
  go_frame
  gi_loopw [12] (fun _ wr => ∃ (left : Lit → Bool) (cnt : Nat) (ss : List (Fin L.length)), wr.ranges Try.prog 23 RH mb W.heap.size nn D left cnt ∧ ss.length + cnt ≤ Maps.size D ∧ Came D left (ss.map (enL L)) ∧ J ss wr)
    (fun _ wr => wr.rangeLeft mb W.heap.size)
  case atStart =>
    exact ⟨_, _, [], hrg0, by simp, Came.start D, hJ [] W w0 none h0 hg0 (fun r e => by cases e)⟩
  case round =>
    obtain ⟨left, cnt, ss, hrg, hcs, hC, hJs⟩ := hrel
    gi_wp2_with (first
      | (gi_at_next; refine wpListIn_next_ranges _ rfl _ rfl 23 refLaw RH (fun x : Value => x) (fun e : EnI => Value.agg e.c) (fun key kl hk => ⟨key, rfl⟩) (fun v y hv => by obtain ⟨⟨x, a1, a2, a3, a4, a5, a6, rfl⟩, _⟩ := RH_inv (d := y.1) (ps := y.2) hv; exact ⟨⟨.bool true, x, a1, a2, a3, a4, a5, a6⟩, rfl⟩) mb W.heap.size nn _ _ _ rfl hrg ?_ ?_)
      | gi_in)
    · intro hc0 hl0
      gi_wp2
      go_end0
      refine ⟨⟨_, rfl⟩, .inl ⟨ss, ?_, hJs⟩⟩
      have e : left = fun _ => false := funext hl0
      rw [← e]; exact hC
    · intro x c0 kl yd yp w2 cnt2 hkey hlk hv hat hrg2 hlt hg2 hs2 hen
      have hc3 : yd = .held c0.v := by obtain ⟨_, h3, _⟩ := RH_inv hv; exact h3
      obtain ⟨z2, hz2, hkz⟩ := hTL.all kl (has_true_of_atKey fun zd => (hat zd).trans hc3)
      obtain ⟨j, hj⟩ : ∃ j : Fin L.length, L[j.1] = z2 := by
        obtain ⟨j, hj, e⟩ := List.getElem_of_mem hz2
        exact ⟨⟨j, hj⟩, e⟩
      obtain ⟨e, he⟩ : ∃ e : EnI, e = enL L j := ⟨_, rfl⟩
      have hek : e.kl = kl := by rw [he, hkz]; show refK L[j.1].x.ref = _; rw [hj]
      have hev : c0.v = e.v := by
        have h4 := hat .nil
        rw [hc3, hkz, hTL.each z2 hz2 .nil] at h4
        have h5 := DataW.held.inj h4
        rw [← h5, he]
        show z2.v = L[j.1].v
        rw [hj]
      have hec : c0.c = e.c := by have := hev; unfold EnI.v instV at this; exact Value.agg.inj this
      rw [hec] at hen
      rw [hec]
      rw [← hek] at hlk hrg2 hat
      rw [hev] at hc3
      have hC2 := hC.step hlk (fun zd => (hat zd).trans hc3)
      have hyv : Value.agg e.c = e.v := rfl
      have HY3 := hid (fun W h1 h2 => hY ss j W h1 h2)
      rw [← he, ← hyv] at HY3
      have HE := hid he
      clear he hec hyv hkz hj hz2 hev
      obtain ⟨c, hc⟩ : ∃ c, c = e.c := ⟨_, rfl⟩
      have hc1 : c.size = 16 := by rw [hc]; rfl
      have hc2 : c.all (·.oneCell') = true := by rw [hc]; exact instC_one _ _ _ rfl rfl
      rw [← hc] at HY3 hen
      rw [← hc]
      clear hc
      obtain ⟨w3, hw3⟩ : ∃ w3, w3 = (w2.alloc (.cells (instC zeroI (.slice none 0 0) (.slice none 0 0)) 31)).setRow w2.heap.size c := ⟨_, rfl⟩
      have hb3 : Below w2.heap.size w2 w3 := by rw [hw3]; exact below_row ((Below.refl _ _).alloc (Nat.le_refl _) _) (Nat.le_refl _) _
      have hg3 : w2.grownBy w3 none := ⟨hb3.os, hb3.tape, hb3.output, hb3.size, fun k hk _ => hb3.block k hk⟩
      have hrow : w3.heap[w2.heap.size]? = some (.cells c 31 (0, 0)) := by rw [hw3]; exact setRow_heap _ _ _ _ _ _ (heap_alloc_new _ _)
      have hJ2 : J ss w2 := hJ ss wr w2 (some W.heap.size) hJs hg2 (fun r e => by cases e; exact ⟨Nat.le_refl _, hrg.iter_walk⟩)
      have hJ3 : J ss w3 := hJ ss w2 w3 none hJ2 hg3 (fun r e => by cases e)
      have hrg3 := hrg2.kept hg3 (by simp) (by simp)
      obtain ⟨fn, tmps, assign, body, hy, hR⟩ := HY3.out w3 hJ3 (by omega)
      rw [hw3] at hrow hy hR
      unfold instC zeroI at hrow hy hR
      simp only at hrow hy hR
      have HC2 := hid hC2
      have HRG3 := hid hrg3
      have HG3 := hid hg3
      have HW3 := hid hw3
      clear hs2 hC2 hrg3 hg3 hb3 hw3 hJ2 hJ3 hv hkey hat hc3 HY3
      gi_wp2_with (first | (refine wplI_storeC rfl _ _ rfl w2.heap.size c rfl rfl hc1 hc2 _ zeroI (.slice none 0 0) (.slice none 0 0) (heap_alloc_new _ _) ?_) | (refine wplI_loadC rfl _ rfl w2.heap.size rfl c hc1 _ _ hrow ?_) | gi_in)
      refine hR.mono ?_
      rintro e' W3 (⟨rfl, hJ3, hk3⟩ | ⟨rfl, hJx3⟩)
      · have HRG4 := hid (ranges_kwb HRG3.out (by rw [HW3.out]; exact hk3) hzb (by omega))
        gi_wp2
        go_roundw
        case rel => exact ⟨_, cnt2, ss ++ [j], HRG4.out, by simp; omega, by rw [List.map_append, List.map_singleton, ← HE.out]; exact HC2.out, hJ3⟩
        case measure => rw [HRG4.out.left_eq, hrg.left_eq]; exact hlt
      · gi_wp2
        refine bodyPost_ret (results_none rfl _ _ _) rfl ?_
        exact ⟨⟨_, rfl⟩, .inr ⟨ss ++ [j], _, by rw [List.map_append, List.map_singleton, ← HE.out]; exact HC2.out, hJx3⟩⟩
theorem knownL_stops (n : Nat) (hn : 1 ≤ n) (B tb mb nn : Nat) (D : DataW Value) (L : List EnI) (hTL : TL D L) (z : Nat) (hzb : mb ≠ z) (w : World) (hzW : z < w.heap.size) (hB : w.heap[B]? = some (.cells #[.pointer (some ⟨tb, 0, none⟩)] 36 (0, 0))) (hT : Tb w tb mb nn D) :
    SeqStopsK Fence.wide n Try.prog 59 #[.pointer (some ⟨B, 0, none⟩)] (fun x : Fin L.length => #[(enL L x).v]) (KWB z) (fun ss => Came D (fun _ => false) (ss.map (enL L))) (fun pre => ∃ left, Came D left (pre.map (enL L))) (Maps.size D) w := fun y J Jx W hW hJ _ hY h0 => by
  have hp := (hW.block B (lt_of_block hB)).trans hB
  have hcB : W.cell? ⟨B, 0, none⟩ = some (.pointer (some ⟨tb, 0, none⟩)) := by rw [cell_of_row _ _ _ _ _ _ hp]; rfl
  refine (known1L_in n hn y B tb mb nn D L hTL z hzb J Jx hY W (Nat.lt_of_lt_of_le hzW hW.size) hJ hcB (hT.below hW) h0).mono ?_
  rintro e W' ⟨he, h | ⟨pre, left, h1, h2⟩⟩
  · exact ⟨he, .inl h⟩
  · exact ⟨he, .inr ⟨pre, ⟨left, h1⟩, h2⟩⟩
end Go.Proofs.Ytadjeefigjdkiaa
