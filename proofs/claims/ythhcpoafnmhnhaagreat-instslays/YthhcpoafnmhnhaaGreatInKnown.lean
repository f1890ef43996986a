/- What the iterator over a table's instances gives: each once, in some order. Conditions: the table lies in memory. -/
import Derived.Test.YthhcpoafnmhnhaaGreatInPut
import Derived.RangeFuncKeeps
import Derived.Sort.MapsRangeIn
import Derived.RangeFuncNested
import Derived.RangeFuncBound
import Derived.RangeFuncCalls
import Derived.RangeFuncLeaves
import Derived.Shelf.Abstract
import Derived.Shelf.RegionOpen
import Derived.OwnWalkIn
import Derived.TacticsInMore
import Derived.LoopNIn
import Derived.LoopIn
import Derived.Stop.RegionWithIn
namespace Go.Proofs.YthhcpoafnmhnhaaGreat
open Go.RowKit Go.Maps Go.Shelf
attribute [local go_sem] Oper.semAt_some
set_option linter.unusedVariables false
set_option linter.unusedSimpArgs false

theorem wplI_storeC {F : Fence} {n : Nat} {ops : Array Oper} {rest : List Oper} {o : Oper} {a : Act} {w : World} {Q : Exit → Act → World → Prop} (hgd : o.guard = none) (x y : Operand) (ho : o.op = .store 31 x y)
    (g : Nat) (cs : Array Value) (hx : a.eval x = .pointer (some ⟨g, 0, none⟩)) (hy : a.eval y = .agg cs) (hs : cs.size = 16) (h1 : cs.all (·.oneCell') = true)
    (t : TypeId) (X0 : InD) (u0 v0 : Value) (hg : w.heap[g]? = some (.cells (instC X0 u0 v0) t (0, 0)))
    (h : wpListIn F n Tryz.prog ops Q rest (a.put o.dst undef) (w.setRow g cs)) : wpListIn F n Tryz.prog ops Q (o :: rest) a w := by
  have hr := run_storeVar_row (P := Tryz.prog) w g t 31 _ cs hg (by rw [hs]; exact Tryz.sizeInst) (by rw [hs]; rfl) h1
  refine wpListIn_plain hgd fun K' hK' => ?_
  unfold Oper.wpIn
  refine ⟨by simp [Oper.about, ho], ?_⟩
  rw [Oper.semAt_plain F _ _ (by rw [ho]; intro c hc'; cases hc')]
  unfold execOp
  simp only [ho, hx, hy, Instr.storeAt, Instr.sureAddr, Sem.run_bind, Sem.run_pure, Result.andThen_ok, hr]
  exact hK' _ _ h
theorem wplI_loadC {F : Fence} {n : Nat} {ops : Array Oper} {rest : List Oper} {o : Oper} {a : Act} {w : World} {Q : Exit → Act → World → Prop} (hgd : o.guard = none) (x : Operand) (ho : o.op = .load 31 x)
    (g : Nat) (hx : a.eval x = .pointer (some ⟨g, 0, none⟩)) (cs : Array Value) (hs : cs.size = 16) (t : TypeId) (fr : Nat × Nat) (hg : w.heap[g]? = some (.cells cs t fr))
    (h : wpListIn F n Tryz.prog ops Q rest (a.put o.dst (.agg cs)) w) : wpListIn F n Tryz.prog ops Q (o :: rest) a w := by
  obtain ⟨d, hd1, hd2⟩ := Tryz.structInst
  have hr := run_loadVar_row (P := Tryz.prog) w g t 31 cs fr d hg hd1 (by cases d <;> first | rfl | (simp at hd2)) (by rw [hs]; exact Tryz.sizeInst)
  refine wpListIn_plain hgd fun K' hK' => ?_
  unfold Oper.wpIn
  refine ⟨by simp [Oper.about, ho], ?_⟩
  rw [Oper.semAt_plain F _ _ (by rw [ho]; intro c hc'; cases hc')]
  unfold execOp
  simp only [ho, hx, Instr.loadAt, Instr.sureAddr, Sem.run_bind, Sem.run_pure, Result.andThen_ok, hr]
  exact hK' _ _ h
/-- An entry of a table. -/
structure EnI where
  kl : Lit
  x : InD
  ua : Option Addr
  un : Nat
  uc : Nat
  va : Option Addr
  vn : Nat
  vc : Nat
def EnI.c (e : EnI) : Array Value := instC e.x (.slice e.ua e.un e.uc) (.slice e.va e.vn e.vc)
def EnI.v (e : EnI) : Value := instV e.x (.slice e.ua e.un e.uc) (.slice e.va e.vn e.vc)
/-- What has come of a table: each entry once; what has not come is left. -/
structure Came (D : DataW Value) (left : Lit → Bool) (ss : List EnI) : Prop where
  each : ∀ y ∈ ss, ∀ zd, D.atKey y.kl zd = .held y.v
  all : ∀ kl, Maps.has D kl = true → left kl = true ∨ ∃ y ∈ ss, kl.sameKey y.kl = true
  gone : ∀ y ∈ ss, ∀ z, left z = true → z.sameKey y.kl = false
  once : ss.Pairwise fun a b => b.kl.sameKey a.kl = false
theorem Came.start (D : DataW Value) : Came D (Maps.has D) [] := ⟨by simp, fun kl h => .inl h, by simp, List.Pairwise.nil⟩
theorem Came.step {D : DataW Value} {left : Lit → Bool} {ss : List EnI} (h : Came D left ss) {e : EnI} (hl : left e.kl = true) (ha : ∀ zd, D.atKey e.kl zd = .held e.v) :
    Came D (fun z => left z && !z.sameKey e.kl) (ss ++ [e]) := by
  refine ⟨?_, ?_, ?_, ?_⟩
  · intro y hy
    rcases List.mem_append.1 hy with hy | hy
    · exact h.each y hy
    · obtain rfl := List.mem_singleton.1 hy
      exact ha
  · intro z hz
    rcases h.all z hz with hz | ⟨y, hy, hk⟩
    · cases hk : z.sameKey e.kl with
      | true => exact .inr ⟨e, by simp, hk⟩
      | false => exact .inl (by simp [hz, hk])
    · exact .inr ⟨y, by simp [hy], hk⟩
  · intro y hy z hz
    simp only [Bool.and_eq_true, Bool.not_eq_true'] at hz
    rcases List.mem_append.1 hy with hy | hy
    · exact h.gone y hy z hz.1
    · obtain rfl := List.mem_singleton.1 hy
      exact hz.2
  · refine List.pairwise_append.2 ⟨h.once, List.pairwise_singleton _ _, ?_⟩
    intro a ha' b hb
    obtain rfl := List.mem_singleton.1 hb
    exact h.gone a ha' _ hl
set_option maxRecDepth 100000 in
set_option maxHeartbeats 2000000 in
theorem known1_in (n : Nat) (hn : 1 ≤ n) (l B tb mb nn : Nat) (D : DataW Value) (J Jx : List EnI → World → Prop)
    (hY : ∀ pre x W, J pre W → pre.length < Maps.size D → YieldAt Fence.wide (n - 1) Tryz.prog l #[x.v] W fun e W' =>
      (e = .returned (.bool true) ∧ J (pre ++ [x]) W' ∧ KeepsWalks W W') ∨ (e = .returned (.bool false) ∧ Jx (pre ++ [x]) W'))
    (W : World) (hJ : AbidesFrom W.heap.size J) (hB : W.cell? ⟨B, 0, none⟩ = some (.pointer (some ⟨tb, 0, none⟩))) (hT : Tb W tb mb nn D) (h0 : J [] W) :
    CallsIn Fence.wide n Tryz.prog 58 #[.func (.yield l) #[] #[], .pointer (some ⟨B, 0, none⟩)] W fun e W' => (∃ v, e = .returned v) ∧
      ((∃ ss, Came D (fun _ => false) ss ∧ J ss W') ∨ (∃ pre left, Came D left pre ∧ Jx pre W')) := by
  have hbox : W.cell? ⟨tb, 0, none⟩ = some (.map (some mb)) := by rw [cell_of_row _ _ _ _ _ _ hT.box]; rfl
  have hown := hT.own
  clear hT
  refine callsIn_of_wp Tryz.func58 rfl trivial ?_ rfl
  simp only [Tryz.ntmps58, List.size_toArray, List.length_cons, List.length_nil, Nat.reduceAdd, Nat.reduceSub, Array.replicate_succ, Array.replicate_zero, List.push_toArray, List.append_toArray, List.nil_append, List.cons_append]
  gi_wp2_with (first
    | (gi_at_range; refine wpListIn_range_own _ rfl _ 77 rfl 23 31 refLaw Tryz.underlyingTab _ mb nn _ rfl hown ?_; intro w0 hrg0 hg0 hs0)
    | gi_in)
  go_frame
  gi_loopw [12] (fun _ wr => ∃ (left : Lit → Bool) (cnt : Nat) (ss : List EnI), wr.ranges Tryz.prog 23 RH mb W.heap.size nn D left cnt ∧ ss.length + cnt ≤ Maps.size D ∧ Came D left ss ∧ J ss wr)
    (fun _ wr => wr.rangeLeft mb W.heap.size)
  case atStart =>
    exact ⟨_, _, [], hrg0, by simp, Came.start D, hJ [] W w0 none h0 hg0 (fun r e => by cases e)⟩
  case round =>
    obtain ⟨left, cnt, ss, hrg, hcs, hC, hJs⟩ := hrel
    gi_wp2_with (first
      | (gi_at_next; refine wpListIn_next_ranges _ rfl _ rfl 23 refLaw RH (fun x : Value => x) (fun e : EnI => Value.agg e.c) (fun key kl hk => ⟨key, rfl⟩) (fun v y hv => by obtain ⟨⟨x, a1, a2, a3, a4, a5, a6, rfl⟩, _⟩ := RH_inv (d := y.1) (ps := y.2) hv; exact ⟨⟨.bool true, x, a1, a2, a3, a4, a5, a6⟩, rfl⟩) mb W.heap.size nn _ _ _ rfl hrg ?_ ?_)
      | gi_in)
    · intro hc0 hl0
      gi_wp2
      go_end0
      refine ⟨⟨_, rfl⟩, .inl ⟨ss, ?_, hJs⟩⟩
      have e : left = fun _ => false := funext hl0
      rw [← e]; exact hC
    · intro x c0 kl yd yp w2 cnt2 hkey hlk hv hat hrg2 hlt hg2 hs2 hen
      obtain ⟨e, he⟩ : ∃ e : EnI, e = ⟨kl, c0.x, c0.ua, c0.un, c0.uc, c0.va, c0.vn, c0.vc⟩ := ⟨_, rfl⟩
      have hec : c0.c = e.c := by rw [he]; rfl
      have hek : e.kl = kl := by rw [he]
      have hc3 : yd = .held e.v := by obtain ⟨_, h3, _⟩ := RH_inv hv; rw [h3, hec]; rfl
      rw [hec] at hen
      rw [hec]
      rw [← hek] at hlk hrg2 hat
      have hC2 := hC.step hlk (fun zd => (hat zd).trans hc3)
      have hyv : Value.agg e.c = e.v := rfl
      have HY3 := hid (fun W h1 h2 => hY ss e W h1 h2)
      rw [← hyv] at HY3
      clear he hec hyv
      obtain ⟨c, hc⟩ : ∃ c, c = e.c := ⟨_, rfl⟩
      have hc1 : c.size = 16 := by rw [hc]; rfl
      have hc2 : c.all (·.oneCell') = true := by rw [hc]; exact instC_one _ _ _ rfl rfl
      rw [← hc] at HY3 hen
      rw [← hc]
      clear hc
      obtain ⟨w3, hw3⟩ : ∃ w3, w3 = (w2.alloc (.cells (instC zeroI (.slice none 0 0) (.slice none 0 0)) 31)).setRow w2.heap.size c := ⟨_, rfl⟩
      have hb3 : Below w2.heap.size w2 w3 := by rw [hw3]; exact below_row ((Below.refl _ _).alloc (Nat.le_refl _) _) (Nat.le_refl _) _
      have hg3 : w2.grownBy w3 none := ⟨hb3.os, hb3.tape, hb3.output, hb3.size, fun k hk _ => hb3.block k hk⟩
      have hrow : w3.heap[w2.heap.size]? = some (.cells c 31 (0, 0)) := by rw [hw3]; exact setRow_heap _ _ _ _ _ _ (heap_alloc_new _ _)
      have hJ2 : J ss w2 := hJ ss wr w2 (some W.heap.size) hJs hg2 (fun r e => by cases e; exact ⟨Nat.le_refl _, hrg.iter_walk⟩)
      have hJ3 : J ss w3 := hJ ss w2 w3 none hJ2 hg3 (fun r e => by cases e)
      have hrg3 := hrg2.kept hg3 (by simp) (by simp)
      obtain ⟨fn, tmps, assign, body, hy, hR⟩ := HY3.out w3 hJ3 (by omega)
      rw [hw3] at hrow hy hR
      unfold instC zeroI at hrow hy hR
      simp only at hrow hy hR
      have HC2 := hid hC2
      have HRG3 := hid hrg3
      have HG3 := hid hg3
      have HW3 := hid hw3
      clear hs2 hC2 hrg3 hg3 hb3 hw3 hJ2 hJ3 hv hkey hat hc3 HY3
      gi_wp2_with (first | (refine wplI_storeC rfl _ _ rfl w2.heap.size c rfl rfl hc1 hc2 _ zeroI (.slice none 0 0) (.slice none 0 0) (heap_alloc_new _ _) ?_) | (refine wplI_loadC rfl _ rfl w2.heap.size rfl c hc1 _ _ hrow ?_) | gi_in)
      refine hR.mono ?_
      rintro e' W3 (⟨rfl, hJ3, hk3⟩ | ⟨rfl, hJx3⟩)
      · have HRG4 := hid (HRG3.out.of_walks (by rw [HW3.out]; exact hk3))
        gi_wp2
        go_roundw
        case rel => exact ⟨_, cnt2, ss ++ [e], HRG4.out, by simp; omega, HC2.out, hJ3⟩
        case measure => rw [HRG4.out.left_eq, hrg.left_eq]; exact hlt
      · gi_wp2
        refine bodyPost_ret (results_none rfl _ _ _) rfl ?_
        exact ⟨⟨_, rfl⟩, .inr ⟨ss ++ [e], _, HC2.out, hJx3⟩⟩
theorem known_stops (n : Nat) (hn : 1 ≤ n) (B tb mb nn : Nat) (D : DataW Value) (w : World) (hB : w.heap[B]? = some (.cells #[.pointer (some ⟨tb, 0, none⟩)] 48 (0, 0))) (hT : Tb w tb mb nn D) :
    SeqStopsK Fence.wide n Tryz.prog 58 #[.pointer (some ⟨B, 0, none⟩)] (fun x : EnI => #[x.v]) KeepsWalks (fun ss => Came D (fun _ => false) ss) (fun pre => ∃ left, Came D left pre) (Maps.size D) w := fun y J Jx W hW hJ _ hY h0 => by
  have hp := (hW.block B (lt_of_block hB)).trans hB
  have hcB : W.cell? ⟨B, 0, none⟩ = some (.pointer (some ⟨tb, 0, none⟩)) := by rw [cell_of_row _ _ _ _ _ _ hp]; rfl
  refine (known1_in n hn y B tb mb nn D J Jx hY W hJ hcB (hT.below hW) h0).mono ?_
  rintro e W' ⟨he, h | ⟨pre, left, h1, h2⟩⟩
  · exact ⟨he, .inl h⟩
  · exact ⟨he, .inr ⟨pre, ⟨left, h1⟩, h2⟩⟩
theorem known_any (b : Value) (w : World) (hb : ∃ q, b = .pointer q) :
    Calls Tryz.prog 36 #[b] w fun e w' => e = .returned (.func (.func 58) #[] #[.pointer (some ⟨w.heap.size, 0, none⟩)]) ∧
      w' = w.alloc (.cells #[b] 48 (0, 0)) := by
  have hmf : ∀ (fn : Fn) (first cap : Array Value) (w : World), (Instr.makeFunc fn first cap).run Tryz.prog w = .ok (.func fn first cap) w := fun _ _ _ _ => rfl
  obtain ⟨q, rfl⟩ := hb
  go_enter Tryz.func36, Tryz.ntmps36
  go_wp2_with fail
  go_ret
  exact ⟨rfl, rfl⟩
end Go.Proofs.YthhcpoafnmhnhaaGreat
