/- A map's bytes are the document's, and are read as the same map, for any number of blocks and any steps. No condition. -/
import Derived.Test.YtnkjkaofgninnaaGreatAtChain
import Derived.Test.YtnkjkaofgninnaaGreatAtSpans
import Derived.Test.YtnkjkaofgninnaaGreatAtChJ
import Derived.Test.YtnkjkaofgninnaaGreatCdC
import Derived.Test.YtnkjkaofgninnaaGreatCdA
import Derived.Test.YtnkjkaofgninnaaGreatAtBase
import Derived.ProofKit
import Derived.OpenShut
import Derived.ChangeOld
import Derived.Deep.SlicePairs
import Derived.Lib.SmallJoins
import Derived.Test.YtnkjkaofgninnaaGreatRows
import Derived.WalkKit
import Derived.ShutString
import Derived.Below
namespace Go.Proofs.YtnkjkaofgninnaaGreat
open Go.RowKit Go.Maps Go.Shelf
set_option linter.unusedVariables false
set_option linter.unusedSimpArgs false

/-- An origin that may have been. -/
structure BnJ (o : OrD) : Prop where
  i : 1 ≤ o.id
  f : 0 ≤ o.fr ∧ o.fr < o.to
  m : memB o.mem = true
set_option maxRecDepth 100000 in
set_option maxHeartbeats 4000000 in
theorem been_any (o : OrD) (ma : Option Addr) (mc : Nat) (w : World) (hm : w.ownsRow 0 3 1 (.slice ma o.mem.length mc) o.mem.length (nvs o.mem)) (h : BnJ o) :
    Calls Tryz.prog 82 #[.agg #[.int .i64 o.id, .int .i64 o.fr, .int .i64 o.to, .slice ma o.mem.length mc]] w fun e w' => e = .returned (.bool true) ∧ Below w.heap.size w w' := by
  obtain ⟨id, fr, tt, mem⟩ := o
  obtain ⟨h1, ⟨h2, h3⟩, h4⟩ := h
  simp only at hm h1 h2 h3 h4 ⊢
  obtain ⟨w1, hw1⟩ : ∃ w1, w1 = w.alloc (.cells #[.int .i64 id, .int .i64 fr, .int .i64 tt, .slice ma mem.length mc] 80) := ⟨_, rfl⟩
  have hb1 : Below w.heap.size w w1 := by rw [hw1]; exact (Below.refl _ _).alloc (Nat.le_refl _) _
  have hA : w1.heap[w.heap.size]? = some (.cells #[.int .i64 id, .int .i64 fr, .int .i64 tt, .slice ma mem.length mc] 80 (0, 0)) := by rw [hw1]; exact heap_alloc_new _ _
  have HB1 := hid hb1
  have HM := hid (isMembers_any mem _ w1 (nums_own (own_below hm hb1) rfl))
  rw [h4] at HM
  have HW1 := hid hw1
  clear hm hb1 hw1
  go_enter Tryz.func82, Tryz.ntmps82
  go_upto_region 1 with fail
  rw [← HW1.out]
  clear HW1
  generalize w.heap.size = A at hA ⊢
  have c0 : w1.cell? ⟨A, 0, none⟩ = some (.int .i64 id) := by rw [cell_of_row _ _ _ _ _ _ hA]; rfl
  have c1 : w1.cell? ⟨A, 1, none⟩ = some (.int .i64 fr) := by rw [cell_of_row _ _ _ _ _ _ hA]; rfl
  have c2 : w1.cell? ⟨A, 2, none⟩ = some (.int .i64 tt) := by rw [cell_of_row _ _ _ _ _ _ hA]; rfl
  have c3 : w1.cell? ⟨A, 3, none⟩ = some (.slice ma mem.length mc) := by rw [cell_of_row _ _ _ _ _ _ hA]; rfl
  clear hA
  go_wp2_with (go_at_call 43; refine HM.out.mono ?_; rintro e w2 ⟨rfl, rfl⟩)
  go_ret
  exact ⟨by simp, HB1.out⟩
set_option maxRecDepth 100000 in
set_option maxHeartbeats 1600000 in
theorem counted_any (b wb mb n : Nat) (ov : Value) (D : DataW Value) (N : AtN) (W : List Pc) (X : List SX) (w : World) (h : AtM w b wb mb n ov D N W X) (h1 : 1 ≤ N.bl ∧ N.bl ≤ 256) (h2 : 1 ≤ N.ep ∧ N.ep ≤ 1073741826) (h3 : 1 < N.nx ∧ N.nx ≤ 1073741826) :
    Calls Tryz.prog 29 #[.pointer (some ⟨b, 0, none⟩)] w fun e w' => e = .returned (.bool true) ∧ w' = w := by
  have c0 : w.cell? ⟨b, 0, none⟩ = some (.int .i64 N.bl) := by rw [cell_of_row _ _ _ _ _ _ h.box]; rfl
  have c1 : w.cell? ⟨b, 1, none⟩ = some (.int .i64 N.ep) := by rw [cell_of_row _ _ _ _ _ _ h.box]; rfl
  have c2 : w.cell? ⟨b, 2, none⟩ = some (.int .i64 N.nx) := by rw [cell_of_row _ _ _ _ _ _ h.box]; rfl
  obtain ⟨b1, b2⟩ := h1
  obtain ⟨e1, e2⟩ := h2
  obtain ⟨n1, n2⟩ := h3
  clear h
  go_enter Tryz.func29, Tryz.ntmps29
  go_wp2_with fail
  go_ret
  exact ⟨by simp, rfl⟩
/-- A load of a shard from its own box, of an origin, under a guard that is met. -/
theorem wpl_loadHG {ops : Array Oper} {rest : List Oper} {o : Oper} {a : Act} {w : World} {Q : Exit → Act → World → Prop} (hw : Region.wanted o (yielded ops a.tmps) = true) (x : Operand) (ho : o.op = .load 61 x)
    (g : Nat) (hx : a.eval x = .pointer (some ⟨g, 0, none⟩)) (t : TypeId) (cs : Array Value) (fr : Nat × Nat) (hs : cs.size = 5) (hg : w.heap[g]? = some (.cells cs t fr))
    (h : wpList Tryz.prog ops Q rest (a.put o.dst (.agg cs)) w) : wpList Tryz.prog ops Q (o :: rest) a w := by
  obtain ⟨d, hd1, hd2⟩ := Tryz.structSh
  refine wpList_step fun K hK => ?_
  rw [if_pos hw]
  exact wp_load_row _ x ho g hx t cs fr d hg hd1 (by cases d <;> first | rfl | (simp at hd2)) (by rw [hs]; exact Tryz.sizeSh) (hK _ _ h)
/-- What a shard's past is. -/
structure PaJ (S : ShD) : Prop where
  b : BnJ ⟨S.id, S.fr, S.to, S.mem⟩
  l : S.past.length ≤ 2
  o : ∀ o ∈ S.past, BnJ o ∧ o.id < S.id
  a : ∀ i (h : i + 1 < S.past.length), S.past[i].to = S.past[i + 1].fr
set_option maxRecDepth 100000 in
set_option maxHeartbeats 4000000 in
theorem mayBe_any (S : ShD) (mv pv : Value) (w : World) (h : ShM w S mv pv) (hp : PaJ S) :
    Calls Tryz.prog 69 #[shV S mv pv] w fun e w' => e = .returned (.bool true) ∧ Below w.heap.size w w' := by
  obtain ⟨⟨ma, mc, rfl⟩, ⟨pa, pc, rfl⟩⟩ := h.shape
  obtain ⟨L, hL1, hL2, hL3⟩ := h.p
  have hLL : S.past.length = L.length := by rw [← hL1]; simp
  rw [hLL] at hL2
  obtain ⟨dO, hdO1, hdO2⟩ := Tryz.structOr
  have hdO2' : dO.isRow = true := by cases dO <;> first | rfl | (simp at hdO2)
  obtain ⟨w1, hw1⟩ : ∃ w1, w1 = w.alloc (.cells #[.int .i64 S.id, .int .i64 S.fr, .int .i64 S.to, .slice ma S.mem.length mc, .slice pa L.length pc] 61) := ⟨_, rfl⟩
  have hb1 : Below w.heap.size w w1 := by rw [hw1]; exact (Below.refl _ _).alloc (Nat.le_refl _) _
  have hA : w1.heap[w.heap.size]? = some (.cells #[.int .i64 S.id, .int .i64 S.fr, .int .i64 S.to, .slice ma S.mem.length mc, .slice pa L.length pc] 61 (0, 0)) := by rw [hw1]; exact heap_alloc_new _ _
  have HB1 := hid hb1
  have M1 := hid (own_below h.m hb1)
  have P1 : Hid (w1.ownsRow 0 80 4 (.slice pa L.length pc) L.length (orvs L)) := hid (own_below hL2 hb1)
  have E1 : Hid (Mems w1 L) := hid fun x hx => own_below (hL3 x hx) hb1
  have HLL := hid hLL
  have HLM : Hid (L.map (·.o) = S.past) := hid hL1
  have HP := hid hp
  have HA := hid hA
  have HW1 := hid hw1
  have hl2 : ¬ (2 : Int) < (L.length : Int) := by have := hp.l; omega
  clear h hL1 hL2 hL3 hp hw1 hb1 hLL hdO2
  unfold shV
  rw [HLL.out]
  go_enter Tryz.func69, Tryz.ntmps69
  go_upto_region 1 with fail
  rw [← HW1.out]
  clear HW1
  obtain ⟨A, hAe⟩ : ∃ A, A = w.heap.size := ⟨_, rfl⟩
  rw [← hAe] at hA HA
  rw [← hAe]
  clear hAe
  have c4 : w1.cell? ⟨A, 4, none⟩ = some (.slice pa L.length pc) := by rw [cell_of_row _ _ _ _ _ _ hA]; rfl
  go_upto_region 3 with (first
    | (refine wpl_loadHG (by rfl) _ rfl A rfl _ _ _ rfl hA ?_)
    | (go_at_call 60; refine (origin_any S ma S.mem.length mc pa L.length pc _).mono ?_; rintro e w2 ⟨rfl, hb2⟩; have B2 := hid (HB1.out.trans (hb2.mono HB1.out.size)); have M2 := hid (own_below M1.out hb2); have X2 := hid hb2; clear hb2)
    | (go_at_call 82; refine (been_any ⟨S.id, S.fr, S.to, S.mem⟩ ma mc _ M2.out HP.out.b).mono ?_; rintro e w3 ⟨rfl, hb3⟩; have B3 := hid (B2.out.trans (hb3.mono B2.out.size)); have X3 := hid (X2.out.trans (hb3.mono X2.out.size)); clear hb3))
  have A3 := hid ((X3.out.block A (lt_of_block HA.out)).trans HA.out)
  have P3 := hid (own_below P1.out X3.out)
  have E3 : Hid (Mems w3 L) := hid fun x hx => own_below (E1.out x hx) X3.out
  clear c4 hA M1 P1 E1 HA HB1 B2 M2 X2 X3
  have c4 : w3.cell? ⟨A, 4, none⟩ = some (.slice pa L.length pc) := by rw [cell_of_row _ _ _ _ _ _ A3.out]; rfl
  go_wp2_with fail
  clear c4
  go_loopw [3, 4, 18] (fun _ _ iv wr => ∃ i : Nat, iv = .int .i64 i ∧ i ≤ L.length ∧ Below w3.heap.size w3 wr) (fun _ _ iv _ => L.length - (intOf iv).toNat)
  case atStart => exact ⟨0, rfl, Nat.zero_le _, Below.refl _ _⟩
  case round =>
    obtain ⟨i, rfl, hi, hb⟩ := hrel
    have BR := hid hb
    clear hb
    by_cases hlt : (i : Int) < (L.length : Int)
    · have hil : i < L.length := by have := HLL.out; omega
      have PR := hid (own_below P3.out BR.out)
      have ER : Hid (Mems wr L) := hid fun x hx => own_below (E3.out x hx) BR.out
      have AR := hid ((BR.out.block A (lt_of_block A3.out)).trans A3.out)
      obtain ⟨g, rfl⟩ : ∃ g, pa = some ⟨g, 0, none⟩ := by
        obtain ⟨_, h2⟩ := PR.out
        rcases h2 with ⟨e, h0⟩ | ⟨g, cap, cur, e, -⟩
        · exfalso; omega
        · cases e; exact ⟨g, rfl⟩
      have hRO := own_range PR.out (i * 4) (orC L[i]) (orvs_part L i hil)
      have HM0 := hid (ER.out L[i] (List.getElem_mem hil))
      have HX0 : Hid (L[i].o ∈ S.past) := hid (by rw [← HLM.out]; exact List.mem_map_of_mem (List.getElem_mem hil))
      have HJ := HP.out.o _ HX0.out
      have HFR : Hid (∀ k, k + 1 = i → ∀ hk : k < L.length, (L[k]'hk).o.to = L[i].o.fr) := hid fun k hk hk2 => by
        subst hk
        have h0 := HP.out.a
        have e : ∀ (P : List OrD), L.map (·.o) = P → (∀ j (h : j + 1 < P.length), P[j].to = P[j + 1].fr) → (L[k]'hk2).o.to = L[k + 1].o.fr := fun P hP h => by
          subst hP
          have := h k (by simpa using hil)
          simpa using this
        exact e _ HLM.out h0
      obtain ⟨oa, oc, hoe⟩ := own_shape HM0.out
      obtain ⟨⟨⟨oi, of', ot, om⟩, omv⟩, hx⟩ : ∃ x, x = L[i] := ⟨_, rfl⟩
      rw [← hx] at hRO HM0 HX0 HJ HFR hoe
      simp only at hoe HFR
      subst hoe
      have HBN : Hid (BnJ ⟨oi, of', ot, om⟩) := hid HJ.1
      have HID : oi < S.id := HJ.2
      clear hx HX0 HJ
      unfold orC at hRO
      simp only at hRO
      have HM0 : Hid (wr.ownsRow 0 3 1 (.slice oa om.length oc) om.length (nvs om)) := HM0
      go_upto_region 6 with (first | (refine wpl_loadO rfl _ rfl g (i * 4) (by go_simp) _ _ _ _ hRO ?_) | (refine wpl_newO (w3 := wr) rfl _ _ rfl _ _ _ _ rfl rfl rfl rfl rfl rfl rfl ?_; intro w2 hg2 hb2; have O2 := hid hg2; have OM := hid (own_below HM0.out hb2); have P2 := hid (own_below PR.out hb2); have A2 := hid ((hb2.block A (lt_of_block AR.out)).trans AR.out); have B2 := hid (BR.out.trans (hb2.mono BR.out.size)); clear hg2 hb2))
      have hge : ¬ S.id ≤ oi := by omega
      have M0 := hid HM0
      clear hRO HM0 HID
      have SO : Hid (∀ Y, Below w2.heap.size w2 Y → Y.cell? ⟨wr.heap.size, 0, none⟩ = some (.int .i64 oi) ∧ Y.cell? ⟨A, 0, none⟩ = some (.int .i64 S.id) ∧ Y.rangeAt wr.heap.size 0 [.int .i64 oi, .int .i64 of', .int .i64 ot, .slice oa om.length oc]) := hid fun Y hY => by
        have h1 := (hY.block _ (lt_of_block O2.out)).trans O2.out
        have h2 := (hY.block A (lt_of_block A2.out)).trans A2.out
        exact ⟨by rw [cell_of_row _ _ _ _ _ _ h1]; rfl, by rw [cell_of_row _ _ _ _ _ _ h2]; rfl, range_of_row h1 0 _ fun j v hv => by rw [Nat.zero_add]; simpa using hv⟩
      cases i with
      | zero =>
        have SW : Hid (∀ Y, Below w2.heap.size w2 Y → Y.cell? ⟨wr.heap.size, 0, none⟩ = some (.int .i64 oi) ∧ Y.cell? ⟨A, 0, none⟩ = some (.int .i64 S.id) ∧ Y.rangeAt wr.heap.size 0 [.int .i64 oi, .int .i64 of', .int .i64 ot, .slice oa om.length oc]) := SO
        refine wp_region_held_drew (S := fun Y => Y.cell? ⟨wr.heap.size, 0, none⟩ = some (.int .i64 oi) ∧ Y.cell? ⟨A, 0, none⟩ = some (.int .i64 S.id) ∧ Y.rangeAt wr.heap.size 0 [.int .i64 oi, .int .i64 of', .int .i64 ot, .slice oa om.length oc]) (by kernel_rfl) (SW.out _ ((Below.refl _ _).drew)) (fun hHeld => ?_)
        refine wpAnyH_take (i := 0) (v := ?pv0) rfl (by kernel_rfl) (by kernel_rfl) (by kernel_rfl) (fun _ _ _ h => h) (Or.inl ⟨by rfl, ?py0⟩) (by assumption) ?pr0
        case py0 => (intro w hSw; (try dsimp only at hSw); go_simp; try with_reducible rfl)
        (try simp only [Act.put, putS])
        refine wpAnyH_take (i := 1) (v := ?pv1) rfl (by kernel_rfl) (by kernel_rfl) (by kernel_rfl) (fun _ _ _ h => h) (Or.inl ⟨by rfl, ?py1⟩) (by assumption) ?pr1
        case py1 => (intro w hSw; (try dsimp only at hSw); go_simp; try with_reducible rfl)
        (try simp only [Act.put, putS])
        refine wpAnyH_take (i := 2) (v := ?pv2) rfl (by kernel_rfl) (by kernel_rfl) (by kernel_rfl) (fun _ _ _ h => h) (Or.inl ⟨by rfl, ?py2⟩) (by assumption) ?pr2
        case py2 => (intro w hSw; (try dsimp only at hSw); go_simp; try with_reducible rfl)
        (try simp only [Act.put, putS])
        refine wpAnyH_take (i := 3) (v := ?pv3) rfl (by kernel_rfl) (by kernel_rfl) (by kernel_rfl) (fun _ _ _ h => h) (Or.inl ⟨by rfl, ?py3⟩) (by assumption) ?pr3
        case py3 => (intro w hSw; (try dsimp only at hSw); go_simp; try with_reducible rfl)
        (try simp only [Act.put, putS])
        refine wpAnyH_take (i := 4) (v := ?pv4) rfl (by kernel_rfl) (by kernel_rfl) (by kernel_rfl) (fun _ _ _ h => h) (Or.inl ⟨by rfl, ?py4⟩) (by assumption) ?pr4
        case py4 => (intro w hSw; (try dsimp only at hSw); go_simp; try with_reducible rfl)
        (try simp only [Act.put, putS])
        refine wpAnyH_take (i := 5) (v := ?pv5) rfl (by kernel_rfl) (by kernel_rfl) (by kernel_rfl) (fun _ _ _ h => h) (Or.inl ⟨by rfl, ?py5⟩) (by assumption) ?pr5
        case py5 => (intro w hSw; (try dsimp only at hSw); go_simp; try with_reducible rfl)
        (try simp only [Act.put, putS])
        refine wpAnyH_take (i := 6) (v := ?pv6) rfl (by kernel_rfl) (by kernel_rfl) (by kernel_rfl) (fun _ _ _ h => h) (Or.inl ⟨by rfl, ?py6⟩) (by assumption) ?pr6
        case py6 => (intro w hSw; (try dsimp only at hSw); go_simp; try with_reducible rfl)
        (try simp only [Act.put, putS])
        refine wpAnyH_take (i := 7) (v := ?pv7) rfl (by kernel_rfl) (by kernel_rfl) (by kernel_rfl) (fun _ _ _ h => h) (Or.inl ⟨by rfl, ?py7⟩) (by assumption) ?pr7
        case py7 => (intro w hSw; (try dsimp only at hSw); go_simp; try with_reducible rfl)
        (try simp only [Act.put, putS])
        refine wpAnyH_take (i := 8) (v := ?pv8) rfl (by kernel_rfl) (by kernel_rfl) (by kernel_rfl) (fun _ _ _ h => h) (Or.inl ⟨by rfl, ?py8⟩) (by assumption) ?pr8
        case py8 => (intro w hSw; (try dsimp only at hSw); go_simp; try with_reducible rfl)
        (try simp only [Act.put, putS])
        refine wpAnyH_take (i := 9) (v := undef) rfl (by kernel_rfl) (by kernel_rfl) (by kernel_rfl) (fun _ _ _ h => h) (Or.inr ⟨by rfl, rfl⟩) (by assumption) ?_
        (try simp only [Act.put, putS])
        refine wpAnyH_take (i := 10) (v := undef) rfl (by kernel_rfl) (by kernel_rfl) (by kernel_rfl) (fun _ _ _ h => h) (Or.inr ⟨by rfl, rfl⟩) (by assumption) ?_
        (try simp only [Act.put, putS])
        refine wpAnyH_take (i := 11) (v := undef) rfl (by kernel_rfl) (by kernel_rfl) (by kernel_rfl) (fun _ _ _ h => h) (Or.inr ⟨by rfl, rfl⟩) (by assumption) ?_
        (try simp only [Act.put, putS])
        refine wpAnyH_take (i := 12) (v := undef) rfl (by kernel_rfl) (by kernel_rfl) (by kernel_rfl) (fun _ _ _ h => h) (Or.inr ⟨by rfl, rfl⟩) (by assumption) ?_
        (try simp only [Act.put, putS])
        refine wpAnyH_take (i := 13) (v := undef) rfl (by kernel_rfl) (by kernel_rfl) (by kernel_rfl) (fun _ _ _ h => h) (Or.inr ⟨by rfl, rfl⟩) (by assumption) ?_
        (try simp only [Act.put, putS])
        refine wpAnyH_take (i := 14) (v := undef) rfl (by kernel_rfl) (by kernel_rfl) (by kernel_rfl) (fun _ _ _ h => h) (Or.inr ⟨by rfl, rfl⟩) (by assumption) ?_
        (try simp only [Act.put, putS])
        refine wpAnyH_take (i := 15) (v := undef) rfl (by kernel_rfl) (by kernel_rfl) (by kernel_rfl) (fun _ _ _ h => h) (Or.inr ⟨by rfl, rfl⟩) (by assumption) ?_
        (try simp only [Act.put, putS])
        refine wpAnyH_take (i := 16) (v := undef) rfl (by kernel_rfl) (by kernel_rfl) (by kernel_rfl) (fun _ _ _ h => h) (Or.inr ⟨by rfl, rfl⟩) (by assumption) ?_
        (try simp only [Act.put, putS])
        refine wpAnyH_take (i := 17) (v := undef) rfl (by kernel_rfl) (by kernel_rfl) (by kernel_rfl) (fun _ _ _ h => h) (Or.inr ⟨by rfl, rfl⟩) (by assumption) ?_
        (try simp only [Act.put, putS])
        refine wpAnyH_take (i := 18) (v := undef) rfl (by kernel_rfl) (by kernel_rfl) (by kernel_rfl) (fun _ _ _ h => h) (Or.inr ⟨by rfl, rfl⟩) (by assumption) ?_
        (try simp only [Act.put, putS])
        refine wpAnyH_take (i := 19) (v := undef) rfl (by kernel_rfl) (by kernel_rfl) (by kernel_rfl) (fun _ _ _ h => h) (Or.inr ⟨by rfl, rfl⟩) (by assumption) ?_
        (try simp only [Act.put, putS])
        refine wpAnyH_take (i := 20) (v := undef) rfl (by kernel_rfl) (by kernel_rfl) (by kernel_rfl) (fun _ _ _ h => h) (Or.inr ⟨by rfl, rfl⟩) (by assumption) ?_
        (try simp only [Act.put, putS])
        refine wpAnyH_take (i := 21) (v := ?pv21) rfl (by kernel_rfl) (by kernel_rfl) (by kernel_rfl) (fun _ _ _ h => h) (Or.inl ⟨by rfl, ?py21⟩) (by assumption) ?pr21
        case py21 => (intro w hSw; (try dsimp only at hSw); go_simp; try with_reducible rfl)
        (try simp only [Act.put, putS])
        refine wpAnyH_take (i := 22) (v := ?pv22) rfl (by kernel_rfl) (by kernel_rfl) (by kernel_rfl) (fun _ _ _ h => h) (Or.inl ⟨by rfl, ?py22⟩) (by assumption) ?pr22
        case py22 => (intro w hSw; (try dsimp only at hSw); go_simp; try with_reducible rfl)
        (try simp only [Act.put, putS])
        refine wpAnyH_take (i := 23) (v := ?pv23) rfl (by kernel_rfl) (by kernel_rfl) (by kernel_rfl) (fun _ _ _ h => h) (Or.inl ⟨by rfl, ?py23⟩) (by assumption) ?pr23
        case py23 => (intro w hSw; (try dsimp only at hSw); go_simp; try with_reducible rfl)
        (try simp only [Act.put, putS])
        refine wpAnyH_take (i := 24) (v := .agg [Value.int .i64 oi, .int .i64 of', .int .i64 ot, .slice oa om.length oc].toArray) rfl (by kernel_rfl) (by kernel_rfl) (by kernel_rfl) (fun _ _ _ h => h) (yieldsIf_load_mid (by rfl) _ _ rfl wr.heap.size 0 rfl [Value.int .i64 oi, .int .i64 of', .int .i64 ot, .slice oa om.length oc] dO (fun Y hY => hY.2.2) hdO1 hdO2' Tryz.sizeOr) (by assumption) ?_
        (try simp only [Act.put, putS])
        refine wpAnyH_ready (rs := [25]) (by kernel_rfl) (by simp) ?_
        refine AllReadyH.cons rfl (fun K hK => ?_) AllReadyH.nil
        rw [if_pos (by rfl)]
        go_wp2_with fail
        refine (been_any ⟨oi, of', ot, om⟩ oa oc _ (own_below OM.out ((Below.refl _ _).drew)) HBN.out).mono ?_
        rintro e w3 ⟨rfl, hb3⟩
        have B3 := hid (B2.out.trans ((((Below.refl w2.heap.size w2).drew).trans hb3).mono B2.out.size))
        have HX3 := hid (((Below.refl w2.heap.size w2).drew).trans hb3)
        clear hb3
        refine hK.out _ _ (SW.out _ HX3.out) (fun hHeld => ?_)
        try clear hK K
        (try simp only [Act.put, putS])
        refine wpAnyH_take (i := 26) (v := ?qv26) rfl (by kernel_rfl) (by kernel_rfl) (by kernel_rfl) (fun _ _ _ h => h) (Or.inl ⟨by rfl, ?qy26⟩) (by assumption) ?qr26
        case qy26 => (intro w hSw; (try dsimp only at hSw); go_simp; try with_reducible rfl)
        (try simp only [Act.put, putS])
        refine wpAnyH_take (i := 27) (v := ?qv27) rfl (by kernel_rfl) (by kernel_rfl) (by kernel_rfl) (fun _ _ _ h => h) (Or.inl ⟨by rfl, ?qy27⟩) (by assumption) ?qr27
        case qy27 => (intro w hSw; (try dsimp only at hSw); go_simp; try with_reducible rfl)
        (try simp only [Act.put, putS])
        refine wpAnyH_done (by kernel_rfl) ?_ _
        go_wp2_with fail
        go_roundw
        case rel => exact ⟨1, by go_num, by omega, B3.out⟩
        case measure => simp [intOf]; omega
      | succ k =>
        have hkl : k < L.length := by omega
        have hpr : w2.cell? ⟨g, k * 4 + 2, none⟩ = some (.int .i64 of') := by
          have h1 := own_cell P2.out (orvs_at L k hkl).2.2.1
          rw [HFR.out k rfl hkl] at h1
          exact h1
        have SW : Hid (∀ Y, Below w2.heap.size w2 Y → Y.cell? ⟨wr.heap.size, 0, none⟩ = some (.int .i64 oi) ∧ Y.cell? ⟨A, 0, none⟩ = some (.int .i64 S.id) ∧ Y.rangeAt wr.heap.size 0 [.int .i64 oi, .int .i64 of', .int .i64 ot, .slice oa om.length oc] ∧ Y.cell? ⟨A, 4, none⟩ = some (.slice (some ⟨g, 0, none⟩) L.length pc) ∧ Y.cell? ⟨g, k * 4 + 2, none⟩ = some (.int .i64 of') ∧ Y.cell? ⟨wr.heap.size, 1, none⟩ = some (.int .i64 of')) := hid fun Y hY => by
          have h1 := (hY.block _ (lt_of_block O2.out)).trans O2.out
          have h2 := (hY.block A (lt_of_block A2.out)).trans A2.out
          obtain ⟨o1, o2, o3⟩ := SO.out Y hY
          exact ⟨o1, o2, o3, by rw [cell_of_row _ _ _ _ _ _ h2]; rfl, cell_later hY hpr, by rw [cell_of_row _ _ _ _ _ _ h1]; rfl⟩
        have hpos : (0 : Int) < ((k + 1 : Nat) : Int) := by omega
        have hk64 : IntKind.i64.wrap (k : Int) = (k : Int) := IntWalk.i64_in _ ⟨by omega, by omega⟩
        have hsub : IntKind.i64.wrap (((k + 1 : Nat) : Int) - 1) = (k : Int) := by rw [IntWalk.i64_in _ ⟨by omega, by omega⟩]; omega
        refine wp_region_held_drew (S := fun Y => Y.cell? ⟨wr.heap.size, 0, none⟩ = some (.int .i64 oi) ∧ Y.cell? ⟨A, 0, none⟩ = some (.int .i64 S.id) ∧ Y.rangeAt wr.heap.size 0 [.int .i64 oi, .int .i64 of', .int .i64 ot, .slice oa om.length oc] ∧ Y.cell? ⟨A, 4, none⟩ = some (.slice (some ⟨g, 0, none⟩) L.length pc) ∧ Y.cell? ⟨g, k * 4 + 2, none⟩ = some (.int .i64 of') ∧ Y.cell? ⟨wr.heap.size, 1, none⟩ = some (.int .i64 of')) (by kernel_rfl) (SW.out _ ((Below.refl _ _).drew)) (fun hHeld => ?_)
        refine wpAnyH_take (i := 0) (v := ?rv0) rfl (by kernel_rfl) (by kernel_rfl) (by kernel_rfl) (fun _ _ _ h => h) (Or.inl ⟨by rfl, ?ry0⟩) (by assumption) ?rr0
        case ry0 => (intro w hSw; (try dsimp only at hSw); go_simp; try with_reducible rfl)
        (try simp only [Act.put, putS])
        refine wpAnyH_take (i := 1) (v := ?rv1) rfl (by kernel_rfl) (by kernel_rfl) (by kernel_rfl) (fun _ _ _ h => h) (Or.inl ⟨by rfl, ?ry1⟩) (by assumption) ?rr1
        case ry1 => (intro w hSw; (try dsimp only at hSw); go_simp; try with_reducible rfl)
        (try simp only [Act.put, putS])
        refine wpAnyH_take (i := 2) (v := ?rv2) rfl (by kernel_rfl) (by kernel_rfl) (by kernel_rfl) (fun _ _ _ h => h) (Or.inl ⟨by rfl, ?ry2⟩) (by assumption) ?rr2
        case ry2 => (intro w hSw; (try dsimp only at hSw); go_simp; try with_reducible rfl)
        (try simp only [Act.put, putS])
        refine wpAnyH_take (i := 3) (v := ?rv3) rfl (by kernel_rfl) (by kernel_rfl) (by kernel_rfl) (fun _ _ _ h => h) (Or.inl ⟨by rfl, ?ry3⟩) (by assumption) ?rr3
        case ry3 => (intro w hSw; (try dsimp only at hSw); go_simp; try with_reducible rfl)
        (try simp only [Act.put, putS])
        refine wpAnyH_take (i := 4) (v := ?rv4) rfl (by kernel_rfl) (by kernel_rfl) (by kernel_rfl) (fun _ _ _ h => h) (Or.inl ⟨by rfl, ?ry4⟩) (by assumption) ?rr4
        case ry4 => (intro w hSw; (try dsimp only at hSw); go_simp; try with_reducible rfl)
        (try simp only [Act.put, putS])
        refine wpAnyH_take (i := 5) (v := ?rv5) rfl (by kernel_rfl) (by kernel_rfl) (by kernel_rfl) (fun _ _ _ h => h) (Or.inl ⟨by rfl, ?ry5⟩) (by assumption) ?rr5
        case ry5 => (intro w hSw; (try dsimp only at hSw); go_simp; try with_reducible rfl)
        (try simp only [Act.put, putS])
        refine wpAnyH_take (i := 6) (v := ?rv6) rfl (by kernel_rfl) (by kernel_rfl) (by kernel_rfl) (fun _ _ _ h => h) (Or.inl ⟨by rfl, ?ry6⟩) (by assumption) ?rr6
        case ry6 => (intro w hSw; (try dsimp only at hSw); go_simp; try with_reducible rfl)
        (try simp only [Act.put, putS])
        refine wpAnyH_take (i := 7) (v := ?rv7) rfl (by kernel_rfl) (by kernel_rfl) (by kernel_rfl) (fun _ _ _ h => h) (Or.inl ⟨by rfl, ?ry7⟩) (by assumption) ?rr7
        case ry7 => (intro w hSw; (try dsimp only at hSw); go_simp; try with_reducible rfl)
        (try simp only [Act.put, putS])
        refine wpAnyH_take (i := 8) (v := ?rv8) rfl (by kernel_rfl) (by kernel_rfl) (by kernel_rfl) (fun _ _ _ h => h) (Or.inl ⟨by rfl, ?ry8⟩) (by assumption) ?rr8
        case ry8 => (intro w hSw; (try dsimp only at hSw); go_simp; try with_reducible rfl)
        (try simp only [Act.put, putS])
        refine wpAnyH_take (i := 9) (v := ?rv9) rfl (by kernel_rfl) (by kernel_rfl) (by kernel_rfl) (fun _ _ _ h => h) (Or.inl ⟨by rfl, ?ry9⟩) (by assumption) ?rr9
        case ry9 => (intro w hSw; (try dsimp only at hSw); go_simp; try with_reducible rfl)
        (try simp only [Act.put, putS])
        refine wpAnyH_take (i := 10) (v := ?rv10) rfl (by kernel_rfl) (by kernel_rfl) (by kernel_rfl) (fun _ _ _ h => h) (Or.inl ⟨by rfl, ?ry10⟩) (by assumption) ?rr10
        case ry10 => (intro w hSw; (try dsimp only at hSw); go_simp; try with_reducible rfl)
        (try simp only [Act.put, putS])
        refine wpAnyH_take (i := 11) (v := ?rv11) rfl (by kernel_rfl) (by kernel_rfl) (by kernel_rfl) (fun _ _ _ h => h) (Or.inl ⟨by rfl, ?ry11⟩) (by assumption) ?rr11
        case ry11 => (intro w hSw; (try dsimp only at hSw); go_simp; try with_reducible rfl)
        (try simp only [Act.put, putS])
        refine wpAnyH_take (i := 12) (v := (.int .i64 (k : Int))) rfl (by kernel_rfl) (by kernel_rfl) (by kernel_rfl) (fun _ _ _ h => h) (Or.inl ⟨by rfl, ?ry12⟩) (by assumption) ?rr12
        case ry12 => (intro w hSw; (try dsimp only at hSw); go_simp; try with_reducible rfl)
        (try simp only [Act.put, putS])
        refine wpAnyH_take (i := 13) (v := (.pointer (some ⟨g, k * 4, none⟩))) rfl (by kernel_rfl) (by kernel_rfl) (by kernel_rfl) (fun _ _ _ h => h) (Or.inl ⟨by rfl, ?ry13⟩) (by assumption) ?rr13
        case ry13 => (intro w hSw; (try dsimp only at hSw); go_simp; try with_reducible rfl)
        (try simp only [Act.put, putS])
        refine wpAnyH_take (i := 14) (v := ?rv14) rfl (by kernel_rfl) (by kernel_rfl) (by kernel_rfl) (fun _ _ _ h => h) (Or.inl ⟨by rfl, ?ry14⟩) (by assumption) ?rr14
        case ry14 => (intro w hSw; (try dsimp only at hSw); go_simp; try with_reducible rfl)
        (try simp only [Act.put, putS])
        refine wpAnyH_take (i := 15) (v := ?rv15) rfl (by kernel_rfl) (by kernel_rfl) (by kernel_rfl) (fun _ _ _ h => h) (Or.inl ⟨by rfl, ?ry15⟩) (by assumption) ?rr15
        case ry15 => (intro w hSw; (try dsimp only at hSw); go_simp; try with_reducible rfl)
        (try simp only [Act.put, putS])
        refine wpAnyH_take (i := 16) (v := ?rv16) rfl (by kernel_rfl) (by kernel_rfl) (by kernel_rfl) (fun _ _ _ h => h) (Or.inl ⟨by rfl, ?ry16⟩) (by assumption) ?rr16
        case ry16 => (intro w hSw; (try dsimp only at hSw); go_simp; try with_reducible rfl)
        (try simp only [Act.put, putS])
        refine wpAnyH_take (i := 17) (v := ?rv17) rfl (by kernel_rfl) (by kernel_rfl) (by kernel_rfl) (fun _ _ _ h => h) (Or.inl ⟨by rfl, ?ry17⟩) (by assumption) ?rr17
        case ry17 => (intro w hSw; (try dsimp only at hSw); go_simp; try with_reducible rfl)
        (try simp only [Act.put, putS])
        refine wpAnyH_take (i := 18) (v := ?rv18) rfl (by kernel_rfl) (by kernel_rfl) (by kernel_rfl) (fun _ _ _ h => h) (Or.inl ⟨by rfl, ?ry18⟩) (by assumption) ?rr18
        case ry18 => (intro w hSw; (try dsimp only at hSw); go_simp; try with_reducible rfl)
        (try simp only [Act.put, putS])
        refine wpAnyH_take (i := 19) (v := ?rv19) rfl (by kernel_rfl) (by kernel_rfl) (by kernel_rfl) (fun _ _ _ h => h) (Or.inl ⟨by rfl, ?ry19⟩) (by assumption) ?rr19
        case ry19 => (intro w hSw; (try dsimp only at hSw); go_simp; try with_reducible rfl)
        (try simp only [Act.put, putS])
        refine wpAnyH_take (i := 20) (v := ?rv20) rfl (by kernel_rfl) (by kernel_rfl) (by kernel_rfl) (fun _ _ _ h => h) (Or.inl ⟨by rfl, ?ry20⟩) (by assumption) ?rr20
        case ry20 => (intro w hSw; (try dsimp only at hSw); go_simp; try with_reducible rfl)
        (try simp only [Act.put, putS])
        refine wpAnyH_take (i := 21) (v := ?rv21) rfl (by kernel_rfl) (by kernel_rfl) (by kernel_rfl) (fun _ _ _ h => h) (Or.inl ⟨by rfl, ?ry21⟩) (by assumption) ?rr21
        case ry21 => (intro w hSw; (try dsimp only at hSw); go_simp; try with_reducible rfl)
        (try simp only [Act.put, putS])
        refine wpAnyH_take (i := 22) (v := ?rv22) rfl (by kernel_rfl) (by kernel_rfl) (by kernel_rfl) (fun _ _ _ h => h) (Or.inl ⟨by rfl, ?ry22⟩) (by assumption) ?rr22
        case ry22 => (intro w hSw; (try dsimp only at hSw); go_simp; try with_reducible rfl)
        (try simp only [Act.put, putS])
        refine wpAnyH_take (i := 23) (v := ?rv23) rfl (by kernel_rfl) (by kernel_rfl) (by kernel_rfl) (fun _ _ _ h => h) (Or.inl ⟨by rfl, ?ry23⟩) (by assumption) ?rr23
        case ry23 => (intro w hSw; (try dsimp only at hSw); go_simp; try with_reducible rfl)
        (try simp only [Act.put, putS])
        refine wpAnyH_take (i := 24) (v := .agg [Value.int .i64 oi, .int .i64 of', .int .i64 ot, .slice oa om.length oc].toArray) rfl (by kernel_rfl) (by kernel_rfl) (by kernel_rfl) (fun _ _ _ h => h) (yieldsIf_load_mid (by rfl) _ _ rfl wr.heap.size 0 rfl [Value.int .i64 oi, .int .i64 of', .int .i64 ot, .slice oa om.length oc] dO (fun Y hY => hY.2.2.1) hdO1 hdO2' Tryz.sizeOr) (by assumption) ?_
        (try simp only [Act.put, putS])
        refine wpAnyH_ready (rs := [25]) (by kernel_rfl) (by simp) ?_
        refine AllReadyH.cons rfl (fun K hK => ?_) AllReadyH.nil
        rw [if_pos (by rfl)]
        go_wp2_with fail
        refine (been_any ⟨oi, of', ot, om⟩ oa oc _ (own_below OM.out ((Below.refl _ _).drew)) HBN.out).mono ?_
        rintro e w3 ⟨rfl, hb3⟩
        have B3 := hid (B2.out.trans ((((Below.refl w2.heap.size w2).drew).trans hb3).mono B2.out.size))
        have HX3 := hid (((Below.refl w2.heap.size w2).drew).trans hb3)
        clear hb3
        refine hK.out _ _ (SW.out _ HX3.out) (fun hHeld => ?_)
        try clear hK K
        (try simp only [Act.put, putS])
        refine wpAnyH_take (i := 26) (v := ?sv26) rfl (by kernel_rfl) (by kernel_rfl) (by kernel_rfl) (fun _ _ _ h => h) (Or.inl ⟨by rfl, ?sy26⟩) (by assumption) ?sr26
        case sy26 => (intro w hSw; (try dsimp only at hSw); go_simp; try with_reducible rfl)
        (try simp only [Act.put, putS])
        refine wpAnyH_take (i := 27) (v := ?sv27) rfl (by kernel_rfl) (by kernel_rfl) (by kernel_rfl) (fun _ _ _ h => h) (Or.inl ⟨by rfl, ?sy27⟩) (by assumption) ?sr27
        case sy27 => (intro w hSw; (try dsimp only at hSw); go_simp; try with_reducible rfl)
        (try simp only [Act.put, putS])
        refine wpAnyH_done (by kernel_rfl) ?_ _
        go_wp2_with fail
        go_roundw
        case rel => exact ⟨k + 2, by go_num, by omega, B3.out⟩
        case measure => simp [intOf]; omega
    · go_wp2_with fail
      go_ret
      exact ⟨rfl, B3.out.trans (BR.out.mono B3.out.size)⟩
end Go.Proofs.YtnkjkaofgninnaaGreat
namespace Go.Proofs.YtnkjkaofgninnaaGreat
open Go.RowKit Go.Maps Go.Shelf
set_option linter.unusedVariables false
set_option linter.unusedSimpArgs false

theorem AtM.perm {w : World} {b wb mb n : Nat} {ov : Value} {D : DataW Value} {N : AtN} {W W' : List Pc} {X Y : List SX} (h : AtM w b wb mb n ov D N W X) (he : ∀ x, x ∈ Y ↔ x ∈ X) (hw : W = W') : AtM w b wb mb n ov D N W' Y := by
  subst hw
  exact ⟨h.box, h.opn, h.whr, h.own, h.sm.congr he, fun x hx => h.mem x ((he x).1 hx)⟩
/-- Where blocks are, once one shard more is kept behind the others. -/
theorem whr_put (P : List SX) (x : SX) (e : Int) (W' : List Pc) (hP : Chn 0 P e) (hx : x.s.fr = e ∧ x.s.fr < x.s.to) (hd : (P ++ [x]).Pairwise fun x y => x.s.id ≠ y.s.id) (hc : Can W') (hch : ChP (P.map SX.pc) (x.s.fr, x.s.to) [(x.s.fr, x.s.to, x.s.id)] W') : W' = (P ++ [x]).map SX.pc := by
  have hch2 : Chn 0 (P ++ [x]) x.s.to := (Chn.append P [x] 0 x.s.to).2 ⟨e, hP, hx.1, hx.2, rfl⟩
  refine can_unique _ _ hc (Chn.can _ _ _ hch2 hd) fun k v => ?_
  rw [hch.2 k v, has_pc (P ++ [x])]
  by_cases hk : x.s.fr ≤ k ∧ k < x.s.to
  · rw [if_pos hk, HasP_one]
    constructor
    · rintro ⟨h1, h2, h3⟩
      exact ⟨x, by simp, h1, h2, h3⟩
    · rintro ⟨y, hy, h1, h2, h3⟩
      rcases List.mem_append.1 hy with hy | hy
      · have := Chn.mem P 0 e hP y hy
        omega
      · rw [List.mem_singleton.1 hy] at h3
        exact ⟨hk.1, hk.2, h3⟩
  · rw [if_neg hk, has_pc P]
    constructor
    · rintro ⟨y, hy, h⟩
      exact ⟨y, by simp [hy], h⟩
    · rintro ⟨y, hy, h1, h2, h3⟩
      rcases List.mem_append.1 hy with hy | hy
      · exact ⟨y, hy, h1, h2, h3⟩
      · rw [List.mem_singleton.1 hy] at h1 h2
        exact absurd ⟨h1, h2⟩ hk
/-- What holds at a round's head. -/
structure FiI (w wr : World) (b wb mb : Nat) (N : AtN) (G : List SX) (i : Nat) (e : Int) (D : DataW Value) : Prop where
  le : i ≤ G.length
  m : AtM wr b wb mb i (.slice none 0 0) D N ((G.take i).map SX.pc) (G.take i)
  p : Chn 0 (G.take i) e
  q : Chn e (G.drop i) N.bl
  t : Tr (AtR b wb mb) w wr
/-- Shards that may be a map's. -/
structure FiJ (N : AtN) (G : List SX) : Prop where
  ch : Chn 0 G N.bl
  ne : G.Pairwise fun x y => x.s.id ≠ y.s.id
  pa : ∀ x ∈ G, PaJ x.s
  nx : ∀ x ∈ G, x.s.id < N.nx
  l : G.length ≤ 100000
  bl : N.bl ≤ 256
  b : N.nx ≤ 2000000000
set_option maxRecDepth 100000 in
set_option maxHeartbeats 4000000 in
theorem fill_any (b wb mb : Nat) (N : AtN) (G : List SX) (v : Value) (w : World) (h : AtM w b wb mb 0 (.slice none 0 0) (.map []) N [] []) (hG : ShR w v G) (hj : FiJ N G) :
    Calls Tryz.prog 30 #[.pointer (some ⟨b, 0, none⟩), v] w fun e w' => e = .returned (.bool true) ∧ (∃ D, AtM w' b wb mb G.length (.slice none 0 0) D N (G.map SX.pc) G) ∧ Tr (AtR b wb mb) w w' := by
  obtain ⟨va, vc, rfl⟩ := own_shape hG.o
  obtain ⟨dS, hdS1, hdS2⟩ := Tryz.rowSh
  have H := hid h
  have HG := hid hG
  have HJ := hid hj
  have hgl := hj.l
  clear h hG hj
  go_enter Tryz.func30, Tryz.ntmps30
  go_wp2_with fail
  go_loopw [5, 7, 8, 9, 12] (fun ev _ _ _ iv wr => ∃ (i : Nat) (e : Int) (D : DataW Value), ev = .int .i64 e ∧ iv = .int .i64 i ∧ FiI w wr b wb mb N G i e D) (fun _ _ _ _ iv _ => G.length - (intOf iv).toNat)
  case atStart => exact ⟨0, 0, .map [], rfl, rfl, Nat.zero_le _, H.out, rfl, HJ.out.ch, Tr.refl _ _⟩
  case round =>
    obtain ⟨i, e, D, rfl, rfl, hI⟩ := hrel
    have IR := hid hI
    have hil := hI.le
    clear hI
    by_cases hlt : (i : Int) < (G.length : Int)
    · have hil' : i < G.length := by omega
      have GR := hid (ShR.tr H.out IR.out.t HG.out)
      obtain ⟨g, rfl⟩ : ∃ g, va = some ⟨g, 0, none⟩ := own_some GR.out.o (by omega)
      have hRG := GR.out.range i hil'
      have HM0 := hid (GR.out.m G[i] (List.getElem_mem hil'))
      have HPA := hid (HJ.out.pa G[i] (List.getElem_mem hil'))
      have HNX := HJ.out.nx G[i] (List.getElem_mem hil')
      have HTK : Hid (G.take (i + 1) = G.take i ++ [G[i]]) := hid (List.take_succ_eq_append_getElem hil')
      have HDR : Hid (G.drop i = G[i] :: G.drop (i + 1)) := hid (List.drop_eq_getElem_cons hil')
      have HNE : Hid (∀ y ∈ G.take i, y.s.id ≠ G[i].s.id) := hid fun y hy => by
        have h1 := List.Pairwise.sublist (List.take_sublist (i + 1) G) HJ.out.ne
        rw [HTK.out] at h1
        exact (List.pairwise_append.1 h1).2.2 y hy G[i] (by simp)
      have HPW : Hid ((G.take i ++ [G[i]]).Pairwise fun x y => x.s.id ≠ y.s.id) := hid (by rw [← HTK.out]; exact List.Pairwise.sublist (List.take_sublist (i + 1) G) HJ.out.ne)
      generalize G[i] = x at *
      obtain ⟨S, mv, pv⟩ := x
      have HQ := IR.out.q
      rw [HDR.out] at HQ
      obtain ⟨hfe, hft, hQ⟩ := HQ
      have HQ := hid hQ
      have HFT := hid hft
      have HTB := hid (Chn.le _ _ _ hQ)
      simp only at hfe HNX
      subst hfe
      obtain ⟨⟨ma, mc, rfl⟩, ⟨pa, pc, rfl⟩⟩ := (show ShM wr S mv pv from HM0.out).shape
      have HID : Hid (I64 S.id) := hid (by have h1 := HPA.out.b.i; have h2 := HJ.out.b; simp only at h1; constructor <;> omega)
      have HLK := hid (match IR.out.m.look S.id HID.out with
        | .inl ⟨y, hy, hyi, _⟩ => absurd hyi (HNE.out y hy)
        | .inr h => h.2.1)
      have hge : ¬ N.nx ≤ S.id := by omega
      unfold SX.c at hRG
      simp only at hRG
      clear hQ hft HNX
      go_upto_region 5 with (refine wpl_loadM rfl _ rfl g (i * 5) (by go_simp) _ _ _ _ _ hRG ?_)
      have hb2 : Below wr.heap.size wr (wr.alloc (.cells #[.int .i64 S.id, .int .i64 S.fr, .int .i64 S.to, .slice ma S.mem.length mc, .slice pa S.past.length pc] 61)) := (Below.refl _ _).alloc (Nat.le_refl _) _
      have hP2 := heap_alloc_new wr (.cells #[.int .i64 S.id, .int .i64 S.fr, .int .i64 S.to, .slice ma S.mem.length mc, .slice pa S.past.length pc] 61)
      have B2 := hid hb2
      have A2 := hid (IR.out.m.below hb2)
      have M2 := hid ((show ShM wr S _ _ from HM0.out).below hb2)
      have P2 := hid hP2
      clear hb2 hP2 hRG
      generalize wr.alloc (.cells #[.int .i64 S.id, .int .i64 S.fr, .int .i64 S.to, .slice ma S.mem.length mc, .slice pa S.past.length pc] 61) = w2 at *
      have HPQ : Hid (wr.heap.size < w2.heap.size) := hid (lt_of_block P2.out)
      have SW : Hid (∀ Y, Below w2.heap.size w2 Y → Y.cell? ⟨b, 5, none⟩ = some (.map (some mb)) ∧ Y.cell? ⟨wr.heap.size, 0, none⟩ = some (.int .i64 S.id) ∧ (Instr.lookup 52 (.map (some mb)) (.int .i64 S.id) true).run Tryz.prog Y = .ok (.tuple #[zV, .bool false]) Y) := hid fun Y hY => by
        have h1 := (hY.block _ (lt_of_block P2.out)).trans P2.out
        have h2 := (hY.block b (lt_of_block A2.out.box)).trans A2.out.box
        exact ⟨by rw [cell_of_row _ _ _ _ _ _ h2]; rfl, by rw [cell_of_row _ _ _ _ _ _ h1]; rfl, HLK.out Y (B2.out.trans (hY.mono B2.out.size))⟩
      refine wp_region_held_drew (S := fun Y => Y.cell? ⟨b, 5, none⟩ = some (.map (some mb)) ∧ Y.cell? ⟨wr.heap.size, 0, none⟩ = some (.int .i64 S.id) ∧ (Instr.lookup 52 (.map (some mb)) (.int .i64 S.id) true).run Tryz.prog Y = .ok (.tuple #[zV, .bool false]) Y) (by kernel_rfl) (SW.out _ ((Below.refl _ _).drew)) (fun hHeld => ?_)
      refine wpAnyH_take (i := 0) (v := ?pv0) rfl (by kernel_rfl) (by kernel_rfl) (by kernel_rfl) (fun _ _ _ h => h) (Or.inl ⟨by rfl, ?py0⟩) (by assumption) ?pr0
      case py0 => (intro w hSw; (try dsimp only at hSw); go_simp; try with_reducible rfl)
      (try simp only [Act.put, putS])
      refine wpAnyH_take (i := 1) (v := ?pv1) rfl (by kernel_rfl) (by kernel_rfl) (by kernel_rfl) (fun _ _ _ h => h) (Or.inl ⟨by rfl, ?py1⟩) (by assumption) ?pr1
      case py1 => (intro w hSw; (try dsimp only at hSw); go_simp; try with_reducible rfl)
      (try simp only [Act.put, putS])
      refine wpAnyH_take (i := 2) (v := ?pv2) rfl (by kernel_rfl) (by kernel_rfl) (by kernel_rfl) (fun _ _ _ h => h) (Or.inl ⟨by rfl, ?py2⟩) (by assumption) ?pr2
      case py2 => (intro w hSw; (try dsimp only at hSw); go_simp; try with_reducible rfl)
      (try simp only [Act.put, putS])
      refine wpAnyH_take (i := 3) (v := ?pv3) rfl (by kernel_rfl) (by kernel_rfl) (by kernel_rfl) (fun _ _ _ h => h) (Or.inl ⟨by rfl, ?py3⟩) (by assumption) ?pr3
      case py3 => (intro w hSw; (try dsimp only at hSw); go_simp; try with_reducible rfl)
      (try simp only [Act.put, putS])
      refine wpAnyH_take (i := 4) (v := ?pv4) rfl (by kernel_rfl) (by kernel_rfl) (by kernel_rfl) (fun _ _ _ h => h) (Or.inl ⟨by rfl, ?py4⟩) (by assumption) ?pr4
      case py4 => (intro w hSw; (try dsimp only at hSw); go_simp; try with_reducible rfl)
      (try simp only [Act.put, putS])
      refine wpAnyH_take (i := 5) (v := ?pv5) rfl (by kernel_rfl) (by kernel_rfl) (by kernel_rfl) (fun _ _ _ h => h) (Or.inl ⟨by rfl, ?py5⟩) (by assumption) ?pr5
      case py5 => (intro w hSw; (try dsimp only at hSw); go_simp; try with_reducible rfl)
      (try simp only [Act.put, putS])
      refine wpAnyH_take (i := 6) (v := (.tuple #[zV, .bool false])) rfl (by kernel_rfl) (by kernel_rfl) (by kernel_rfl) (fun _ _ _ h => h) (Or.inl ⟨by rfl, ?py6⟩) (by assumption) ?pr6
      case py6 => (intro w hSw; (try dsimp only at hSw); go_simp; try with_reducible rfl)
      (try simp only [Act.put, putS])
      refine wpAnyH_take (i := 7) (v := ?pv7) rfl (by kernel_rfl) (by kernel_rfl) (by kernel_rfl) (fun _ _ _ h => h) (Or.inl ⟨by rfl, ?py7⟩) (by assumption) ?pr7
      case py7 => (intro w hSw; (try dsimp only at hSw); go_simp; try with_reducible rfl)
      (try simp only [Act.put, putS])
      refine wpAnyH_take (i := 8) (v := ?pv8) rfl (by kernel_rfl) (by kernel_rfl) (by kernel_rfl) (fun _ _ _ h => h) (Or.inl ⟨by rfl, ?py8⟩) (by assumption) ?pr8
      case py8 => (intro w hSw; (try dsimp only at hSw); go_simp; try with_reducible rfl)
      (try simp only [Act.put, putS])
      refine wpAnyH_take (i := 9) (v := ?pv9) rfl (by kernel_rfl) (by kernel_rfl) (by kernel_rfl) (fun _ _ _ h => h) (Or.inl ⟨by rfl, ?py9⟩) (by assumption) ?pr9
      case py9 => (intro w hSw; (try dsimp only at hSw); go_simp; try with_reducible rfl)
      (try simp only [Act.put, putS])
      refine wpAnyH_ready (rs := [10]) (by kernel_rfl) (by simp) ?_
      refine AllReadyH.cons rfl (fun K hK => ?_) AllReadyH.nil
      rw [if_pos (by rfl)]
      go_wp2_with fail
      refine hK.out _ _ (SW.out _ (((Below.refl w2.heap.size w2).drew).alloc (by simp) _)) (fun hHeld => ?_)
      try clear hK K
      (try simp only [Act.put, putS])
      refine wpAnyH_ready (rs := [11]) (by kernel_rfl) (by simp) ?_
      refine AllReadyH.cons rfl (fun K hK => ?_) AllReadyH.nil
      rw [if_pos (by rfl)]
      have hN3 : (w2.drew.alloc (.cells z5 61)).heap[w2.heap.size]? = some (.cells z5 61 (0, 0)) := heap_alloc_new w2.drew _
      refine wp_store_row _ _ _ rfl w2.heap.size #[.int .i64 0, .int .i64 0, .int .i64 0, .slice none 0 0, .slice none 0 0] rfl rfl _ _ hN3 Tryz.sizeSh rfl (by simp [Value.oneCell']) ?_
      refine hK.out _ _ (SW.out _ (below_row (((Below.refl w2.heap.size w2).drew).alloc (by simp) _) (Nat.le_refl _) _)) (fun hHeld => ?_)
      try clear hK K
      (try simp only [Act.put, putS])
      refine wpAnyH_take (i := 12) (v := ?pv12) rfl (by kernel_rfl) (by kernel_rfl) (by kernel_rfl) (fun _ _ _ h => h) (Or.inl ⟨by rfl, ?py12⟩) (by assumption) ?pr12
      case py12 => (intro w hSw; (try dsimp only at hSw); go_simp; try with_reducible rfl)
      (try simp only [Act.put, putS])
      refine wpAnyH_done (by kernel_rfl) ?_ _
      clear hHeld
      have hb3 : Below w2.heap.size w2 ((w2.alloc (.cells #[.int .i64 0, .int .i64 0, .int .i64 0, .slice none 0 0, .slice none 0 0] 61)).drew.setRow w2.heap.size #[.int .i64 0, .int .i64 0, .int .i64 0, .slice none 0 0, .slice none 0 0]) := below_row ((((Below.refl w2.heap.size w2).alloc (Nat.le_refl _) _)).drew) (Nat.le_refl _) _
      have B3 := hid (B2.out.trans (hb3.mono B2.out.size))
      have A3 := hid (A2.out.below hb3)
      have M3 := hid (M2.out.below hb3)
      have P3 := hid ((hb3.block _ (lt_of_block P2.out)).trans P2.out)
      clear hb3 B2 A2 M2 P2 SW HPQ HLK
      generalize (w2.alloc (.cells #[.int .i64 0, .int .i64 0, .int .i64 0, .slice none 0 0, .slice none 0 0] 61)).drew.setRow w2.heap.size #[.int .i64 0, .int .i64 0, .int .i64 0, .slice none 0 0, .slice none 0 0] = w3 at *
      have SQ : Hid (∀ Y, Below w3.heap.size w3 Y → Y.cell? ⟨wr.heap.size, 0, none⟩ = some (.int .i64 S.id) ∧ Y.cell? ⟨b, 2, none⟩ = some (.int .i64 N.nx) ∧ Y.cell? ⟨wr.heap.size, 1, none⟩ = some (.int .i64 S.fr) ∧ Y.rangeAt wr.heap.size 0 [.int .i64 S.id, .int .i64 S.fr, .int .i64 S.to, .slice ma S.mem.length mc, .slice pa S.past.length pc]) := hid fun Y hY => by
        have h1 := (hY.block _ (lt_of_block P3.out)).trans P3.out
        have h2 := (hY.block b (lt_of_block A3.out.box)).trans A3.out.box
        exact ⟨by rw [cell_of_row _ _ _ _ _ _ h1]; rfl, by rw [cell_of_row _ _ _ _ _ _ h2]; rfl, by rw [cell_of_row _ _ _ _ _ _ h1]; rfl, range_of_row h1 0 _ fun j v hv => by rw [Nat.zero_add]; simpa using hv⟩
      have hge2 : ¬ N.nx ≤ S.id := by omega
      go_upto_region 6 with fail
      refine wp_region_held_drew (S := fun Y => Y.cell? ⟨wr.heap.size, 0, none⟩ = some (.int .i64 S.id) ∧ Y.cell? ⟨b, 2, none⟩ = some (.int .i64 N.nx) ∧ Y.cell? ⟨wr.heap.size, 1, none⟩ = some (.int .i64 S.fr) ∧ Y.rangeAt wr.heap.size 0 [.int .i64 S.id, .int .i64 S.fr, .int .i64 S.to, .slice ma S.mem.length mc, .slice pa S.past.length pc]) (by kernel_rfl) (SQ.out _ ((Below.refl _ _).drew)) (fun hHeld => ?_)
      refine wpAnyH_take (i := 0) (v := ?qv0) rfl (by kernel_rfl) (by kernel_rfl) (by kernel_rfl) (fun _ _ _ h => h) (Or.inl ⟨by rfl, ?qy0⟩) (by assumption) ?qr0
      case qy0 => (intro w hSw; (try dsimp only at hSw); go_simp; try with_reducible rfl)
      (try simp only [Act.put, putS])
      refine wpAnyH_take (i := 1) (v := ?qv1) rfl (by kernel_rfl) (by kernel_rfl) (by kernel_rfl) (fun _ _ _ h => h) (Or.inl ⟨by rfl, ?qy1⟩) (by assumption) ?qr1
      case qy1 => (intro w hSw; (try dsimp only at hSw); go_simp; try with_reducible rfl)
      (try simp only [Act.put, putS])
      refine wpAnyH_take (i := 2) (v := ?qv2) rfl (by kernel_rfl) (by kernel_rfl) (by kernel_rfl) (fun _ _ _ h => h) (Or.inl ⟨by rfl, ?qy2⟩) (by assumption) ?qr2
      case qy2 => (intro w hSw; (try dsimp only at hSw); go_simp; try with_reducible rfl)
      (try simp only [Act.put, putS])
      refine wpAnyH_take (i := 3) (v := ?qv3) rfl (by kernel_rfl) (by kernel_rfl) (by kernel_rfl) (fun _ _ _ h => h) (Or.inl ⟨by rfl, ?qy3⟩) (by assumption) ?qr3
      case qy3 => (intro w hSw; (try dsimp only at hSw); go_simp; try with_reducible rfl)
      (try simp only [Act.put, putS])
      refine wpAnyH_take (i := 4) (v := ?qv4) rfl (by kernel_rfl) (by kernel_rfl) (by kernel_rfl) (fun _ _ _ h => h) (Or.inl ⟨by rfl, ?qy4⟩) (by assumption) ?qr4
      case qy4 => (intro w hSw; (try dsimp only at hSw); go_simp; try with_reducible rfl)
      (try simp only [Act.put, putS])
      refine wpAnyH_take (i := 5) (v := ?qv5) rfl (by kernel_rfl) (by kernel_rfl) (by kernel_rfl) (fun _ _ _ h => h) (Or.inl ⟨by rfl, ?qy5⟩) (by assumption) ?qr5
      case qy5 => (intro w hSw; (try dsimp only at hSw); go_simp; try with_reducible rfl)
      (try simp only [Act.put, putS])
      refine wpAnyH_take (i := 6) (v := ?qv6) rfl (by kernel_rfl) (by kernel_rfl) (by kernel_rfl) (fun _ _ _ h => h) (Or.inl ⟨by rfl, ?qy6⟩) (by assumption) ?qr6
      case qy6 => (intro w hSw; (try dsimp only at hSw); go_simp; try with_reducible rfl)
      (try simp only [Act.put, putS])
      refine wpAnyH_take (i := 7) (v := ?qv7) rfl (by kernel_rfl) (by kernel_rfl) (by kernel_rfl) (fun _ _ _ h => h) (Or.inl ⟨by rfl, ?qy7⟩) (by assumption) ?qr7
      case qy7 => (intro w hSw; (try dsimp only at hSw); go_simp; try with_reducible rfl)
      (try simp only [Act.put, putS])
      refine wpAnyH_take (i := 8) (v := ?qv8) rfl (by kernel_rfl) (by kernel_rfl) (by kernel_rfl) (fun _ _ _ h => h) (Or.inl ⟨by rfl, ?qy8⟩) (by assumption) ?qr8
      case qy8 => (intro w hSw; (try dsimp only at hSw); go_simp; try with_reducible rfl)
      (try simp only [Act.put, putS])
      refine wpAnyH_take (i := 9) (v := ?qv9) rfl (by kernel_rfl) (by kernel_rfl) (by kernel_rfl) (fun _ _ _ h => h) (Or.inl ⟨by rfl, ?qy9⟩) (by assumption) ?qr9
      case qy9 => (intro w hSw; (try dsimp only at hSw); go_simp; try with_reducible rfl)
      (try simp only [Act.put, putS])
      refine wpAnyH_take (i := 10) (v := ?qv10) rfl (by kernel_rfl) (by kernel_rfl) (by kernel_rfl) (fun _ _ _ h => h) (Or.inl ⟨by rfl, ?qy10⟩) (by assumption) ?qr10
      case qy10 => (intro w hSw; (try dsimp only at hSw); go_simp; try with_reducible rfl)
      (try simp only [Act.put, putS])
      refine wpAnyH_take (i := 11) (v := ?qv11) rfl (by kernel_rfl) (by kernel_rfl) (by kernel_rfl) (fun _ _ _ h => h) (Or.inl ⟨by rfl, ?qy11⟩) (by assumption) ?qr11
      case qy11 => (intro w hSw; (try dsimp only at hSw); go_simp; try with_reducible rfl)
      (try simp only [Act.put, putS])
      refine wpAnyH_take (i := 12) (v := ?qv12) rfl (by kernel_rfl) (by kernel_rfl) (by kernel_rfl) (fun _ _ _ h => h) (Or.inl ⟨by rfl, ?qy12⟩) (by assumption) ?qr12
      case qy12 => (intro w hSw; (try dsimp only at hSw); go_simp; try with_reducible rfl)
      (try simp only [Act.put, putS])
      refine wpAnyH_take (i := 13) (v := ?qv13) rfl (by kernel_rfl) (by kernel_rfl) (by kernel_rfl) (fun _ _ _ h => h) (Or.inl ⟨by rfl, ?qy13⟩) (by assumption) ?qr13
      case qy13 => (intro w hSw; (try dsimp only at hSw); go_simp; try with_reducible rfl)
      (try simp only [Act.put, putS])
      refine wpAnyH_take (i := 14) (v := ?qv14) rfl (by kernel_rfl) (by kernel_rfl) (by kernel_rfl) (fun _ _ _ h => h) (Or.inl ⟨by rfl, ?qy14⟩) (by assumption) ?qr14
      case qy14 => (intro w hSw; (try dsimp only at hSw); go_simp; try with_reducible rfl)
      (try simp only [Act.put, putS])
      refine wpAnyH_take (i := 15) (v := ?qv15) rfl (by kernel_rfl) (by kernel_rfl) (by kernel_rfl) (fun _ _ _ h => h) (Or.inl ⟨by rfl, ?qy15⟩) (by assumption) ?qr15
      case qy15 => (intro w hSw; (try dsimp only at hSw); go_simp; try with_reducible rfl)
      (try simp only [Act.put, putS])
      refine wpAnyH_take (i := 16) (v := ?qv16) rfl (by kernel_rfl) (by kernel_rfl) (by kernel_rfl) (fun _ _ _ h => h) (Or.inl ⟨by rfl, ?qy16⟩) (by assumption) ?qr16
      case qy16 => (intro w hSw; (try dsimp only at hSw); go_simp; try with_reducible rfl)
      (try simp only [Act.put, putS])
      refine wpAnyH_take (i := 17) (v := ?qv17) rfl (by kernel_rfl) (by kernel_rfl) (by kernel_rfl) (fun _ _ _ h => h) (Or.inl ⟨by rfl, ?qy17⟩) (by assumption) ?qr17
      case qy17 => (intro w hSw; (try dsimp only at hSw); go_simp; try with_reducible rfl)
      (try simp only [Act.put, putS])
      refine wpAnyH_take (i := 18) (v := .agg [Value.int .i64 S.id, .int .i64 S.fr, .int .i64 S.to, .slice ma S.mem.length mc, .slice pa S.past.length pc].toArray) rfl (by kernel_rfl) (by kernel_rfl) (by kernel_rfl) (fun _ _ _ h => h) (yieldsIf_load_mid (by rfl) _ _ rfl wr.heap.size 0 rfl [Value.int .i64 S.id, .int .i64 S.fr, .int .i64 S.to, .slice ma S.mem.length mc, .slice pa S.past.length pc] dS (fun Y hY => hY.2.2.2) hdS1 hdS2 Tryz.sizeSh) (by assumption) ?_
      (try simp only [Act.put, putS])
      refine wpAnyH_ready (rs := [19]) (by kernel_rfl) (by simp) ?_
      refine AllReadyH.cons rfl (fun K hK => ?_) AllReadyH.nil
      rw [if_pos (by rfl)]
      go_wp2_with fail
      refine (mayBe_any S _ _ _ (M3.out.below ((Below.refl _ _).drew)) HPA.out).mono ?_
      rintro e w4 ⟨rfl, hb4⟩
      have hb34 := ((Below.refl w3.heap.size w3).drew).trans hb4
      have B4 := hid (B3.out.trans (hb34.mono B3.out.size))
      have A4 := hid (A3.out.below hb34)
      have M4 := hid (M3.out.below hb34)
      have P4 := hid ((hb34.block _ (lt_of_block P3.out)).trans P3.out)
      clear hb4
      refine hK.out _ _ (SQ.out _ hb34) (fun hHeld => ?_)
      try clear hK K
      (try simp only [Act.put, putS])
      refine wpAnyH_take (i := 20) (v := ?rv20) rfl (by kernel_rfl) (by kernel_rfl) (by kernel_rfl) (fun _ _ _ h => h) (Or.inl ⟨by rfl, ?ry20⟩) (by assumption) ?rr20
      case ry20 => (intro w hSw; (try dsimp only at hSw); go_simp; try with_reducible rfl)
      (try simp only [Act.put, putS])
      refine wpAnyH_take (i := 21) (v := ?rv21) rfl (by kernel_rfl) (by kernel_rfl) (by kernel_rfl) (fun _ _ _ h => h) (Or.inl ⟨by rfl, ?ry21⟩) (by assumption) ?rr21
      case ry21 => (intro w hSw; (try dsimp only at hSw); go_simp; try with_reducible rfl)
      (try simp only [Act.put, putS])
      refine wpAnyH_done (by kernel_rfl) ?_ _
      clear hHeld
      have P4' := P4.out
      go_upto_region 8 with fail
      have HKP := hid (keep_any b wb mb i (.slice none 0 0) D N ((G.take i).map SX.pc) (G.take i) S (.slice ma S.mem.length mc) (.slice pa S.past.length pc) w4 A4.out (by have := HJ.out.l; omega) M4.out HID.out HNE.out (by have := HJ.out.l; rw [List.length_map, List.length_take]; omega) ⟨by have h1 := HPA.out.b.f; simp only at h1; omega, by have h1 := HTB.out; have h2 := HJ.out.bl; omega⟩)
      go_upto_region 9 with (first | (refine wpl_loadH rfl _ rfl wr.heap.size rfl _ _ _ rfl P4' ?_) | (go_at_call 44; refine HKP.out.mono ?_; rintro e w5 ⟨rfl, W', ha5, hc5, ht5⟩; have A5 := hid ha5; have C5 := hid hc5; have T5 := hid ht5; have P5 := hid ((ht5.block _ (lt_of_block P4') (A4.out.nob P4' (by decide) (by decide))).trans P4'); clear ha5 hc5 ht5))
      have p2 : w5.cell? ⟨wr.heap.size, 2, none⟩ = some (.int .i64 S.to) := by rw [cell_of_row _ _ _ _ _ _ P5.out]; rfl
      clear P4'
      go_wp2_with fail
      go_roundw
      case rel =>
        have hW := whr_put (G.take i) ⟨S, .slice ma S.mem.length mc, .slice pa S.past.length pc⟩ S.fr W' IR.out.p ⟨rfl, HFT.out⟩ HPW.out A5.out.whr.can C5.out
        refine ⟨i + 1, S.to, _, rfl, by go_num, by omega, A5.out.perm (fun y => ?_) (by rw [HTK.out]; exact hW), ?_, HQ.out, (IR.out.t.trans (Tr.below B4.out)).trans T5.out⟩
        · rw [HTK.out]; simp [or_comm]
        · rw [HTK.out]
          exact (Chn.append _ _ _ _).2 ⟨S.fr, IR.out.p, rfl, HFT.out, rfl⟩
      case measure => simp [intOf]; omega
    · have hin : i = G.length := by omega
      subst hin
      have hm := IR.out.m
      have hq := IR.out.q
      rw [List.take_length] at hm
      rw [List.drop_length] at hq
      have hq : e = N.bl := hq
      have c0 : wr.cell? ⟨b, 0, none⟩ = some (.int .i64 N.bl) := by rw [cell_of_row _ _ _ _ _ _ hm.box]; rfl
      have HM := hid hm
      have HT := hid IR.out.t
      subst hq
      clear hm
      go_wp2_with fail
      go_ret
      exact ⟨by simp, ⟨D, HM.out⟩, HT.out⟩
end Go.Proofs.YtnkjkaofgninnaaGreat
namespace Go.Proofs.YtnkjkaofgninnaaGreat
open Go.RowKit Go.Maps Go.Shelf
set_option linter.unusedVariables false
set_option linter.unusedSimpArgs false

set_option maxRecDepth 100000 in
set_option maxHeartbeats 4000000 in
theorem reopen_any (b wb mb n : Nat) (ov : Value) (D : DataW Value) (N : AtN) (W : List Pc) (X : List SX) (op : List Int) (va : Option Addr) (vc : Nat) (w : World) (h : AtM w b wb mb n ov D N W X) (ho : w.ownsRow 0 3 1 (.slice va op.length vc) op.length (nvs op))
    (hx : ∀ k ∈ op, ∃ x ∈ X, x.s.id = k) (hr : ∀ i (h : i + 1 < op.length), op[i] < op[i + 1]) (hI : ∀ k ∈ op, I64 k) (hl : op.length ≤ 100000) :
    Calls Tryz.prog 31 #[.pointer (some ⟨b, 0, none⟩), .slice va op.length vc] w fun e w' => e = .returned (.bool true) ∧ AtM w' b wb mb n (.slice va op.length vc) D { N with op := op } W X ∧ Tr (AtR b wb mb) w w' := by
  have H := hid h
  have HO := hid ho
  have HX := hid hx
  have HR := hid hr
  have HI := hid hI
  clear h ho hx hr hI
  go_enter Tryz.func31, Tryz.ntmps31
  go_wp2_with fail
  go_loopw [5, 6, 7, 8, 11] (fun _ _ _ _ iv wr => ∃ i : Nat, iv = .int .i64 i ∧ i ≤ op.length ∧ Below w.heap.size w wr) (fun _ _ _ _ iv _ => op.length - (intOf iv).toNat)
  case atStart => exact ⟨0, rfl, Nat.zero_le _, Below.refl _ _⟩
  case round =>
    obtain ⟨i, rfl, hi, hb⟩ := hrel
    have BR := hid hb
    clear hb
    by_cases hlt : (i : Int) < (op.length : Int)
    · have hil : i < op.length := by omega
      have AR := hid (H.out.below BR.out)
      have OR := hid (own_below HO.out BR.out)
      obtain ⟨g, rfl⟩ : ∃ g, va = some ⟨g, 0, none⟩ := own_some OR.out (by omega)
      have ce : wr.cell? ⟨g, i, none⟩ = some (.int .i64 op[i]) := own_cell OR.out (by simp [nvs, List.getElem?_eq_getElem hil])
      have HIK := hid (HI.out op[i] (List.getElem_mem hil))
      have HXK := hid (HX.out op[i] (List.getElem_mem hil))
      have HPV : Hid (∀ k, k + 1 = i → ∀ hk : k < op.length, op[k] < op[i]) := hid fun k hk hk2 => by subst hk; exact HR.out k hil
      generalize op[i] = id at *
      have hlk : ∃ x ∈ X, ∀ Y : World, Below wr.heap.size wr Y → (Instr.lookup 52 (.map (some mb)) (.int .i64 id) true).run Tryz.prog Y = .ok (.tuple #[x.v, .bool true]) Y := by
        rcases AR.out.look id HIK.out with ⟨x, hx, hxi, h, _⟩ | h
        · exact ⟨x, hx, h⟩
        · obtain ⟨x, hx, e⟩ := HXK.out
          exact absurd e (h.1 x hx)
      obtain ⟨⟨S, mv, pv⟩, hxX, hlk⟩ := hlk
      obtain ⟨⟨ma, mc, rfl⟩, ⟨pa, pc, rfl⟩⟩ := (show ShM wr S mv pv from AR.out.mem _ hxX).shape
      have hlk := hlk wr (Below.refl _ _)
      unfold SX.v shV at hlk
      have c5 : wr.cell? ⟨b, 5, none⟩ = some (.map (some mb)) := by rw [cell_of_row _ _ _ _ _ _ AR.out.box]; rfl
      clear hxX
      go_upto_region 5 with fail
      have hb2 : Below wr.heap.size wr (wr.alloc (.cells #[.int .i64 S.id, .int .i64 S.fr, .int .i64 S.to, .slice ma S.mem.length mc, .slice pa S.past.length pc] 61)) := (Below.refl _ _).alloc (Nat.le_refl _) _
      have B2 := hid (BR.out.trans (hb2.mono BR.out.size))
      have O2 := hid (own_below OR.out hb2)
      clear hb2 hlk c5 ce
      generalize wr.alloc (.cells #[.int .i64 S.id, .int .i64 S.fr, .int .i64 S.to, .slice ma S.mem.length mc, .slice pa S.past.length pc] 61) = w2 at *
      cases i with
      | zero =>
        go_wp2_with fail
        go_roundw
        case rel => exact ⟨1, by go_num, by omega, B2.out⟩
        case measure => simp [intOf]; omega
      | succ k =>
        have hkl : k < op.length := by omega
        have cp : w2.cell? ⟨g, k, none⟩ = some (.int .i64 op[k]) := own_cell O2.out (by simp [nvs, List.getElem?_eq_getElem hkl])
        have hpv := HPV.out k rfl hkl
        generalize op[k] = pid at *
        have hge : ¬ id ≤ pid := by omega
        have hpos : (0 : Int) < ((k + 1 : Nat) : Int) := by omega
        have hk64 : IntKind.i64.wrap (k : Int) = (k : Int) := IntWalk.i64_in _ ⟨by omega, by omega⟩
        go_wp2_with fail
        go_roundw
        case rel => exact ⟨k + 2, by go_num, by omega, B2.out⟩
        case measure => simp [intOf]; omega
    · have AR := hid (H.out.below BR.out)
      have OR := hid (own_below HO.out BR.out)
      have c3 : wr.cell? ⟨b, 3, none⟩ = some ov := by rw [cell_of_row _ _ _ _ _ _ AR.out.box]; rfl
      have f3 : wr.frozen? ⟨b, 3, none⟩ = false := AR.out.fz 3
      have A2 := hid (AR.out.set (ov' := .slice va op.length vc) (N' := { N with op := op }) 3 (.slice va op.length vc) rfl OR.out)
      have T2 : Hid (Tr (AtR b wb mb) w (wr.setCell ⟨b, 3, none⟩ (.slice va op.length vc))) := hid ((Tr.below BR.out).trans (Tr.set (.inl rfl)))
      go_wp2_with fail
      go_ret
      exact ⟨rfl, A2.out, T2.out⟩
end Go.Proofs.YtnkjkaofgninnaaGreat
namespace Go.Proofs.YtnkjkaofgninnaaGreat
open Go.RowKit
def stC (x : ChD × Bool) : List Value := [.int .i64 x.1.k, .int .i64 x.1.sh, .int .i64 x.1.ot, .int .i64 x.1.at', .int .i64 x.1.out, .int .i64 x.1.in', .bool x.2]
/-- The value v is a slice of the steps l. -/
def Stps (w : World) (v : Value) (l : List (ChD × Bool)) : Prop :=
  ∃ ao n cap, v = .slice ao n cap ∧ n = l.length ∧ n ≤ cap ∧ cap ≤ 9223372036854775807 ∧ (ao = none → cap = 0) ∧ ∀ ad, ao = some ad → ∀ j, (h : j < l.length) → ∀ k u, (stC l[j])[k]? = some u → w.cell? (ad.add (j * 7 + k)) = some u
theorem Stps.below {w w' : World} {v : Value} {l : List (ChD × Bool)} (h : Stps w v l) (hb : Below w.heap.size w w') : Stps w' v l := by
  obtain ⟨ao, n, cap, rfl, h1, h2, h3, h4, h5⟩ := h
  exact ⟨ao, n, cap, rfl, h1, h2, h3, h4, fun ad had j hj k u hk => cell_later hb (h5 ad had j hj k u hk)⟩
theorem Stps.shape {w : World} {v : Value} {l : List (ChD × Bool)} (h : Stps w v l) : ∃ va vc, v = .slice va l.length vc := by
  obtain ⟨ao, n, cap, rfl, rfl, -⟩ := h; exact ⟨_, _, rfl⟩
theorem Stps.len {w : World} {v : Value} {l : List (ChD × Bool)} (h : Stps w v l) : (l.length : Int) ≤ 9223372036854775807 := by
  obtain ⟨ao, n, cap, rfl, h1, h2, h3, -⟩ := h; omega
theorem Stps.addr {w : World} {ao : Option Addr} {cap : Nat} {l : List (ChD × Bool)} (h : Stps w (.slice ao l.length cap) l) (hl : 0 < l.length) : ∃ b o, ao = some ⟨b, o, none⟩ := by
  obtain ⟨ao', n, cap', e, h1, h2, h3, h4, h5⟩ := h
  cases e
  cases ao with
  | none => have := h4 rfl; omega
  | some a =>
    have h0 := h5 a rfl 0 hl 0 _ rfl
    have := World.cell?_spot h0
    obtain ⟨b, o, sp⟩ := a
    simp [Addr.add] at this
    subst this
    exact ⟨b, o, rfl⟩
theorem Stps.range {w : World} {b o cap : Nat} {l : List (ChD × Bool)} (h : Stps w (.slice (some ⟨b, o, none⟩) l.length cap) l) (j : Nat) (hj : j < l.length) : w.rangeAt b (o + j * 7) (stC l[j]) := by
  obtain ⟨ao, n, cap', e, h1, h2, h3, h4, h5⟩ := h
  cases e
  intro k u hk
  have := h5 _ rfl j hj k u hk
  rw [Addr.add_lit, ← Nat.add_assoc] at this
  exact this
end Go.Proofs.YtnkjkaofgninnaaGreat
namespace Go.Proofs.YtnkjkaofgninnaaGreat
open Go.RowKit Go.Maps Go.Shelf
set_option linter.unusedVariables false
set_option linter.unusedSimpArgs false

/-- What the document's New leaves, in rows of its own. -/
def RNb (bl : Int) (l : List Int) (w : World) (e : Ending) (w' : World) : Prop := ∃ b sv X, e = .returned (.pointer (some ⟨b, 0, none⟩)) ∧ RB w' b ⟨bl, 1, 2, []⟩ (.slice none 0 0) sv X ∧ X.map (·.s) = [⟨1, 0, bl, l, []⟩] ∧ Below w.heap.size w w' ∧ w.heap.size ≤ b
set_option maxRecDepth 100000 in
set_option maxHeartbeats 4000000 in
theorem rnewB_any (bl : Int) (l : List Int) (va : Option Addr) (vc : Nat) (w : World) (hv : w.ownsRow 0 3 1 (.slice va l.length vc) l.length (nvs l)) :
    Calls Tryz.prog 12 #[.int .i64 bl, .slice va l.length vc] w (RNb bl l w) := by
  have HV := hid hv
  clear hv
  obtain ⟨h1, h2⟩ := heap_two w (.cells #[.int .i64 1, .int .i64 0, .int .i64 bl, .slice va l.length vc, .slice none 0 0] 61) (.cells #[.int .i64 bl, .int .i64 1, .int .i64 2, .slice none 0 0, .slice (some ⟨w.heap.size, 0, none⟩) 1 1] 77)
  have hb : Below w.heap.size w ((w.alloc (.cells #[.int .i64 1, .int .i64 0, .int .i64 bl, .slice va l.length vc, .slice none 0 0] 61)).alloc (.cells #[.int .i64 bl, .int .i64 1, .int .i64 2, .slice none 0 0, .slice (some ⟨w.heap.size, 0, none⟩) 1 1] 77)) := ((Below.refl _ _).alloc (Nat.le_refl _) _).alloc (by simp) _
  have HF : Hid (RNb bl l w (.returned (.pointer (some ⟨w.heap.size + 1, 0, none⟩))) ((w.alloc (.cells #[.int .i64 1, .int .i64 0, .int .i64 bl, .slice va l.length vc, .slice none 0 0] 61)).alloc (.cells #[.int .i64 bl, .int .i64 1, .int .i64 2, .slice none 0 0, .slice (some ⟨w.heap.size, 0, none⟩) 1 1] 77))) := hid (by
    refine ⟨w.heap.size + 1, .slice (some ⟨w.heap.size, 0, none⟩) 1 1, [⟨⟨1, 0, bl, l, []⟩, .slice va l.length vc, .slice none 0 0⟩], rfl, ⟨h2, World.ownsRow_nil _ _ _ _, ?_, ?_, fun _ => rfl⟩, rfl, hb, by omega⟩
    · exact ⟨rfl, .inr ⟨w.heap.size, 1, _, rfl, Nat.zero_le _, h1, Nat.le_refl _, by unfold maxLen; omega, rfl, rfl⟩⟩
    · intro x hx
      rw [List.mem_singleton.1 hx]
      exact ⟨own_below HV.out hb, [], rfl, World.ownsRow_nil _ _ _ _, fun x hx => by cases hx⟩)
  clear h1 h2 hb
  go_enter Tryz.func12, Tryz.ntmps12
  go_wp2_with fail
  go_ret
  simpa using HF.out
/-- What play leaves. -/
def PlyP (w : World) (e : Ending) (w' : World) : Prop := ∃ b wb mb n ov D N X xb rv sv Y, e = .returned (.tuple #[.pointer (some ⟨b, 0, none⟩), .pointer (some ⟨xb, 0, none⟩), .bool true]) ∧ At w' b wb mb n ov D N X ∧ RB w' xb N rv sv Y ∧ Y.map (·.s) = X.map (·.s) ∧ Gd 100 N (X.map (·.s)) ∧ n ≤ 100 ∧ Below w.heap.size w w' ∧ (∀ q, AtR b wb mb q → w.heap.size ≤ q) ∧ w.heap.size ≤ xb ∧ ∀ S ∈ X.map (·.s), S.mem.length = 3
/-- Members stay three. -/
theorem three_step {B : Nat} {N N' : AtN} {Z Z' : List ShD} {c : ChD} {r : Int} (g : Gd B N Z) (h : ∀ S ∈ Z, S.mem.length = 3) (hs : StepR N Z c r N' Z') : ∀ S ∈ Z', S.mem.length = 3 := by
  cases hs with
  | bad _ => exact h
  | calm _ _ _ _ => exact h
  | settle _ _ _ _ => exact h
  | down _ _ _ _ => exact h
  | miss _ _ _ _ _ => exact h
  | miss2 _ _ _ _ _ _ _ _ _ _ => exact h
  | unfit _ _ _ _ _ _ _ _ _ _ _ => exact h
  | unfit2 _ _ _ _ _ _ _ _ _ _ _ _ _ _ _ => exact h
  | one hk hn h5 h2 ho P Q S hZ hi hf =>
    subst hZ
    have hS := h S (by simp)
    have hm := g.mb S (by simp)
    have hl : (mlD c S).length = 3 := by
      unfold mlD
      split
      · rename_i hk3
        unfold fit1 at hf
        rw [if_neg (by omega), if_pos hk3] at hf
        obtain ⟨hr, hnn, -⟩ := mem_rise hm
        have hs3 : c.out ∈ S.mem ∧ c.in' ∉ S.mem ∧ (0 ≤ c.in' ∧ c.in' < 7) := by simpa [swB, nodeB] using hf
        obtain ⟨k, hk', hke⟩ := List.mem_iff_getElem.1 hs3.1
        rw [swD_len S.mem c.out c.in' k hk' hke hr hnn hs3.2.2 hs3.2.1]; exact hS
      · exact hS
    intro T hT
    rcases List.mem_append.1 hT with hT | hT
    · rcases List.mem_append.1 hT with hT | hT
      · exact h T (by simp [hT])
      · rw [(nwD_mem _ _ _ _ T hT).1]; exact hl
    · exact h T (by simp [hT])
  | two hk hn h2 ho P Q S U hZ hi hj =>
    subst hZ
    intro T hT
    rcases List.mem_append.1 hT with hT | hT
    · rcases List.mem_append.1 hT with hT | hT
      · exact h T (by simp [hT])
      · rw [(nwD_mem _ _ _ _ T hT).1]; exact h S (by simp)
    · exact h T (by simp [hT])
/-- Both maps side by side, behind i steps. -/
structure PlI (w : World) (b wb mb xb i : Nat) (wr : World) : Prop where
  both : ∃ n ov D N X rv sv Y, At wr b wb mb n ov D N X ∧ RB wr xb N rv sv Y ∧ Y.map (·.s) = X.map (·.s) ∧ Gd (2 + 2 * i) N (X.map (·.s)) ∧ n ≤ 1 + 2 * i ∧ ∀ S ∈ X.map (·.s), S.mem.length = 3
  bel : Below w.heap.size w wr
  ra : ∀ q, AtR b wb mb q → w.heap.size ≤ q
  rx : w.heap.size ≤ xb
theorem mem012 : memB [0, 1, 2] = true := by decide
theorem gd_new (bl : Int) (h : 1 ≤ bl ∧ bl ≤ 256) : Gd 2 ⟨bl, 1, 2, []⟩ [⟨1, 0, bl, [0, 1, 2], []⟩] :=
  ⟨⟨rfl, by show (0 : Int) < bl; omega, rfl⟩, by intro S hS; rw [List.mem_singleton.1 hS]; exact mem012, by intro S hS; rw [List.mem_singleton.1 hS]; exact ⟨by simp, by intro o ho; cases ho⟩, by intro S hS; rw [List.mem_singleton.1 hS]; exact ⟨by show (1 : Int) ≤ 1; omega, by show (1 : Int) < 2; omega⟩, List.pairwise_singleton _ _, ⟨by show (2 : Int) ≤ 2; omega, by show (2 : Int) ≤ 2; omega⟩, ⟨by show (1 : Int) ≤ 1; omega, by show (1 : Int) ≤ 2; omega⟩, by simp, by simp, h⟩
theorem Tryz.rowSt : ∃ d : TypeDesc, Tryz.prog.underlying 43 = some d ∧ d.isRow = true := by
  obtain ⟨d, h1, h2⟩ : ∃ d, Tryz.prog.underlying 43 = some d ∧ d.isRow = true := by
    have h : (Tryz.prog.underlying 43).map (·.isRow) = some true := by kernel_rfl
    cases hu : Tryz.prog.underlying 43 with
    | none => rw [hu] at h; cases h
    | some d => rw [hu] at h; exact ⟨d, rfl, by simpa using h⟩
  exact ⟨d, h1, h2⟩
theorem Tryz.sizeSt : (Tryz.prog.info? 43).map (·.size) = some 7 := by kernel_rfl
theorem rest_in64 (t m : Int) (h0 : 1 ≤ m) (h1 : m ≤ 1000000000) : 0 ≤ wrap64 ((IntKind.u64.wrap t).tmod m) ∧ wrap64 ((IntKind.u64.wrap t).tmod m) < m := by
  rw [u64_mod, Int.tmod_eq_emod_of_nonneg (by omega)]
  have a := Int.emod_nonneg (t % 18446744073709551616) (b := m) (by omega)
  have b := Int.emod_lt_of_pos (t % 18446744073709551616) (b := m) (by omega)
  rw [IntWalk.wrap64_in _ (by omega)]
  exact ⟨a, b⟩
set_option maxRecDepth 100000 in
set_option maxHeartbeats 8000000 in
theorem play_any (bl : Int) (L : List (ChD × Bool)) (v : Value) (w : World) (hv : Stps w v L) (hj : ∀ x ∈ L, ChJ x.1) :
    Calls Tryz.prog 4 #[.int .i64 bl, v] w (PlyP w) := by
  have HV := hid hv
  have HJ := hid hj
  have hL := hv.len
  obtain ⟨va, vc, rfl⟩ := hv.shape
  clear hv hj
  have hrr := rest_in64 bl 60 (by omega) (by omega)
  obtain ⟨nb, hnb⟩ : ∃ nb, nb = wrap64 (1 + wrap64 ((IntKind.u64.wrap bl).tmod 60)) := ⟨_, rfl⟩
  have HNB : Hid (1 ≤ nb ∧ nb ≤ 256) := hid (by rw [hnb, IntWalk.wrap64_in _ (by omega)]; omega)
  have HQ := hid hnb
  clear hnb hrr
  have HO : Hid (∀ W : World, (W.alloc (.cells #[.int .i64 0, .int .i64 1, .int .i64 2] 3)).ownsRow 0 3 1 (.slice (some ⟨W.heap.size, 0, none⟩) 3 3) 3 (nvs [0, 1, 2])) := hid fun W => own_many W 3 #[.int .i64 0, .int .i64 1, .int .i64 2] 1 3 (Nat.zero_le _) rfl (by omega)
  have HN1 := hid (anew_yes nb [0, 1, 2] (.slice (some ⟨w.heap.size, 0, none⟩) 3 3) (w.alloc (.cells #[.int .i64 0, .int .i64 1, .int .i64 2] 3)) (nums_own (HO.out w) rfl) (by simp) (by unfold anewB; rw [decide_eq_true HNB.out.1, decide_eq_true HNB.out.2, mem012]; rfl))
  have HN3 := hid fun W : World => rnewB_any nb [0, 1, 2] (some ⟨W.heap.size, 0, none⟩) 3 (W.alloc (.cells #[.int .i64 0, .int .i64 1, .int .i64 2] 3)) (HO.out W)
  go_enter Tryz.func4, Tryz.ntmps4
  go_upto_region 2 with fail
  rw [← HQ.out]
  clear HQ
  go_upto_region 3 with (go_at_call 11; refine HN1.out.mono ?_; rintro e w2 ⟨b, wb, mb, D, mv, pv, rfl, ha2, hb2, hr2⟩; have A2 := hid ha2; have HR2 := hid hr2; have B2 := hid (((Below.refl w.heap.size w).alloc (Nat.le_refl _) (.cells #[.int .i64 0, .int .i64 1, .int .i64 2] 3)).trans (hb2.mono (by simp))); clear ha2 hb2 hr2)
  go_upto_region 4 with (go_at_call 12; refine (HN3.out w2).mono ?_; rintro e w3 ⟨xb, sv, Y0, rfl, hr3, hy3, hb3, hx3⟩; have R3 := hid hr3; have HY3 := hid hy3; have HX3 : Hid (w.heap.size ≤ xb) := hid (Nat.le_trans B2.out.size (Nat.le_trans (by simp) hx3)); have HB3 := hid (((Below.refl w2.heap.size w2).alloc (Nat.le_refl _) (.cells #[.int .i64 0, .int .i64 1, .int .i64 2] 3)).trans (hb3.mono (by simp))); clear hr3 hy3 hb3 hx3)
  have HPI : Hid (PlI w b wb mb xb 0 w3) := hid ⟨⟨1, _, D, ⟨nb, 1, 2, []⟩, _, _, sv, Y0, A2.out.below HB3.out, R3.out, HY3.out, gd_new nb HNB.out, by omega, by intro S hS; rw [List.mem_singleton.1 hS]; rfl⟩, B2.out.trans (HB3.out.mono B2.out.size), fun q hq => Nat.le_trans (by simp) (HR2.out q hq), HX3.out⟩
  clear A2 HR2 B2 R3 HY3 HX3 HB3 HN1 HN3 HO
  go_wp2_with fail
  go_loopw [11, 12, 13, 32] (fun _ _ _ iv wr => ∃ i : Nat, iv = .int .i64 i ∧ i ≤ L.length ∧ i ≤ 40 ∧ PlI w b wb mb xb i wr) (fun _ _ _ iv _ => L.length - (intOf iv).toNat)
  case atStart => exact ⟨0, rfl, Nat.zero_le _, by omega, HPI.out⟩
  case round =>
    obtain ⟨i, rfl, hi, hi40, hpi⟩ := hrel
    have P := hid hpi
    have HFIN : Hid (PlyP w (.returned (.tuple #[.pointer (some ⟨b, 0, none⟩), .pointer (some ⟨xb, 0, none⟩), .bool true])) wr) := hid (by
      obtain ⟨⟨n, ov, D, N, X, rv, sv, Y, h1, h2, h3, h4, h5, h9⟩, h6, h7, h8⟩ := hpi
      exact ⟨b, wb, mb, n, ov, D, N, X, xb, rv, sv, Y, rfl, h1, h2, h3, h4.mono (by omega), by omega, h6, h7, h8, h9⟩)
    clear hpi
    by_cases hlt : (i : Int) < (L.length : Int)
    · have hil : i < L.length := by omega
      have HVR := hid (HV.out.below P.out.bel)
      obtain ⟨gs, os, rfl⟩ := HVR.out.addr (by omega)
      have hrg := HVR.out.range i hil
      have HXJ := hid (HJ.out L[i] (List.getElem_mem hil))
      obtain ⟨⟨⟨k0, k1, k2, k3, k4, k5⟩, nr⟩, hx⟩ : ∃ x, x = L[i] := ⟨_, rfl⟩
      rw [← hx] at hrg HXJ
      clear hx
      unfold stC at hrg
      obtain ⟨dT, hdT1, hdT2⟩ := Tryz.rowSt
      obtain ⟨w3, hw3⟩ : ∃ w3, w3 = wr.alloc (.cells #[.int .i64 k0, .int .i64 k1, .int .i64 k2, .int .i64 k3, .int .i64 k4, .int .i64 k5, .bool nr] 43) := ⟨_, rfl⟩
      have HB3 : Hid (Below wr.heap.size wr w3) := hid (by rw [hw3]; exact (Below.refl _ _).alloc (Nat.le_refl _) _)
      have HS3 : Hid (w3.heap[wr.heap.size]? = some (.cells #[.int .i64 k0, .int .i64 k1, .int .i64 k2, .int .i64 k3, .int .i64 k4, .int .i64 k5, .bool nr] 43 (0, 0))) := hid (by rw [hw3]; exact heap_alloc_new _ _)
      have HW3 := hid hw3
      clear hw3
      go_upto_region 9 with (refine wpList_load_mid rfl _ _ rfl gs (os + i * 7) (by go_simp) [.int .i64 k0, .int .i64 k1, .int .i64 k2, .int .i64 k3, .int .i64 k4, .int .i64 k5, .bool nr] dT hrg hdT1 hdT2 Tryz.sizeSt ?_)
      rw [← HW3.out]
      clear HW3 hrg
      by_cases h40 : (40 : Int) ≤ (i : Int)
      · have HF3 : Hid (PlyP w (.returned (.tuple #[.pointer (some ⟨b, 0, none⟩), .pointer (some ⟨xb, 0, none⟩), .bool true])) w3) := hid (by
          obtain ⟨⟨n, ov, D, N, X, rv, sv, Y, h1, h2, h3, h4, h5, h9⟩, h6, h7, h8⟩ := P.out
          exact ⟨b, wb, mb, n, ov, D, N, X, xb, rv, sv, Y, rfl, h1.below HB3.out, h2.below HB3.out, h3, h4.mono (by omega), by omega, h6.trans (HB3.out.mono h6.size), h7, h8, h9⟩)
        go_wp2_with fail
        go_ret3
        exact HF3.out
      · have HI40 : Hid (i < 40) := hid (by omega)
        obtain ⟨⟨n, ov, D, N, X, rv, sv, Y, h1, h2, h3, h4, h5, h9⟩, h6, h7, h8⟩ := P.out
        have A3 := hid (h1.below HB3.out)
        have R3 := hid (h2.below HB3.out)
        have HYX := hid h3
        have HGX := hid h4
        have HGY : Hid (Gd (2 + 2 * i) N (Y.map (·.s))) := hid (by rw [h3]; exact h4)
        have HNI := hid h5
        have B3 := hid (h6.trans (HB3.out.mono h6.size))
        have HRA := hid h7
        have HRX := hid h8
        have HT9 := hid h9
        clear h1 h2 h3 h4 h5 h6 h7 h8 h9 HVR P HFIN
        have HOF := hid (of_any ⟨k0, k1, k2, k3, k4, k5⟩ nr xb (2 + 2 * i) rv sv N Y w3 HXJ.out R3.out HGY.out (by have := HI40.out; omega))
        unfold stV at HOF
        have hrg3 : w3.rangeAt wr.heap.size 0 [.int .i64 k0, .int .i64 k1, .int .i64 k2, .int .i64 k3, .int .i64 k4, .int .i64 k5, .bool nr] := range_of_row HS3.out 0 _ fun j v hv => by rw [Nat.zero_add]; simpa using hv
        generalize wr.heap.size = S3 at *
        go_upto_region 11 with (first | (refine wpList_load_mid rfl _ _ rfl S3 0 (by go_simp) [.int .i64 k0, .int .i64 k1, .int .i64 k2, .int .i64 k3, .int .i64 k4, .int .i64 k5, .bool nr] dT hrg3 hdT1 hdT2 Tryz.sizeSt ?_) | (go_at_call 13; refine HOF.out.mono ?_; rintro e w4 ⟨⟨c0, c1, c2, c3, c4, c5⟩, rfl, hcj, hb4⟩; unfold chV; have HCJ := hid hcj; have HB4 := hid hb4; clear hcj hb4))
        obtain ⟨w5, hw5⟩ : ∃ w5, w5 = w4.alloc (.cells #[.int .i64 c0, .int .i64 c1, .int .i64 c2, .int .i64 c3, .int .i64 c4, .int .i64 c5] 41) := ⟨_, rfl⟩
        have HB5 : Hid (Below w4.heap.size w4 w5) := hid (by rw [hw5]; exact (Below.refl _ _).alloc (Nat.le_refl _) _)
        have HC5 : Hid (w5.heap[w4.heap.size]? = some (.cells #[.int .i64 c0, .int .i64 c1, .int .i64 c2, .int .i64 c3, .int .i64 c4, .int .i64 c5] 41 (0, 0))) := hid (by rw [hw5]; exact heap_alloc_new _ _)
        rw [← hw5]
        clear hw5
        have HB35 := hid (HB4.out.trans (HB5.out.mono HB4.out.size))
        have A5 := hid (A3.out.below HB35.out)
        have R5 := hid (R3.out.below HB35.out)
        have B5 := hid (B3.out.trans (HB35.out.mono B3.out.size))
        generalize w4.heap.size = C5 at *
        obtain ⟨r, N', Z', hst⟩ := step_ex N (X.map (·.s)) ⟨c0, c1, c2, c3, c4, c5⟩ HGX.out.ne
        have HST := hid hst
        have HG2 := hid (gd_step HGX.out hst)
        have HT2 := hid (three_step HGX.out HT9.out hst)
        clear hst HB4 HB5 HB35 A3 R3 B3 HOF hrg3 HS3 HB3
        obtain ⟨dC, hdC1, hdC2⟩ := Tryz.rowCh
        have HSW : Hid (∀ Y : World, Y.heap[C5]? = some (.cells #[.int .i64 c0, .int .i64 c1, .int .i64 c2, .int .i64 c3, .int .i64 c4, .int .i64 c5] 41 (0, 0)) → Y.rangeAt C5 0 [.int .i64 c0, .int .i64 c1, .int .i64 c2, .int .i64 c3, .int .i64 c4, .int .i64 c5]) := hid fun Y hY => range_of_row hY 0 _ fun j v hv => by rw [Nat.zero_add]; simpa using hv
        refine wp_region_held_drew (S := fun Y => Y.rangeAt C5 0 [.int .i64 c0, .int .i64 c1, .int .i64 c2, .int .i64 c3, .int .i64 c4, .int .i64 c5]) (by kernel_rfl) (HSW.out _ HC5.out) (fun hHeld => ?_)
        refine wpAnyH_take (i := 0) (v := ?av0) rfl (by kernel_rfl) (by kernel_rfl) (by kernel_rfl) (fun _ _ _ h => h) (Or.inl ⟨by rfl, ?ay0⟩) (by assumption) ?ar0
        case ay0 => (intro w hSw; (try dsimp only at hSw); go_simp; try with_reducible rfl)
        (try simp only [Act.put, putS])
        refine wpAnyH_take (i := 1) (v := .agg #[.int .i64 c0, .int .i64 c1, .int .i64 c2, .int .i64 c3, .int .i64 c4, .int .i64 c5]) rfl (by kernel_rfl) (by kernel_rfl) (by kernel_rfl) (fun _ _ _ h => h) (yieldsIf_load_mid rfl _ _ rfl C5 0 rfl [.int .i64 c0, .int .i64 c1, .int .i64 c2, .int .i64 c3, .int .i64 c4, .int .i64 c5] dC (fun Y hY => hY) hdC1 hdC2 Tryz.sizeCh) (by assumption) ?_
        (try simp only [Act.put, putS])
        refine wpAnyH_take (i := 3) (v := ?bv3) rfl (by kernel_rfl) (by kernel_rfl) (by kernel_rfl) (fun _ _ _ h => h) (Or.inl ⟨by rfl, ?by3⟩) (by assumption) ?br3
        case by3 => (intro w hSw; (try dsimp only at hSw); go_simp; try with_reducible rfl)
        (try simp only [Act.put, putS])
        refine wpAnyH_take (i := 4) (v := .agg #[.int .i64 c0, .int .i64 c1, .int .i64 c2, .int .i64 c3, .int .i64 c4, .int .i64 c5]) rfl (by kernel_rfl) (by kernel_rfl) (by kernel_rfl) (fun _ _ _ h => h) (yieldsIf_load_mid rfl _ _ rfl C5 0 rfl [.int .i64 c0, .int .i64 c1, .int .i64 c2, .int .i64 c3, .int .i64 c4, .int .i64 c5] dC (fun Y hY => hY) hdC1 hdC2 Tryz.sizeCh) (by assumption) ?_
        (try simp only [Act.put, putS])
        refine wpAnyH_ready (rs := [2]) (by kernel_rfl) (by simp) ?_
        refine AllReadyH.cons rfl (fun K hK => ?_) AllReadyH.nil
        rw [if_pos (by rfl)]
        go_wp2_with fail
        refine (aapply_any b wb mb n (2 + 2 * i) ov D N N' X Z' ⟨c0, c1, c2, c3, c4, c5⟩ r _ (A5.out.below ((Below.refl _ _).drew)) HGX.out HST.out HCJ.out (by have := HI40.out; omega) (by have := HI40.out; have := HNI.out; omega)).mono ?_
        rintro e w6 ⟨n6, ov6, D6, X6, rfl, ha6, hx6, hn6, ht6⟩
        have T6 := hid ((Tr.below (R := AtR b wb mb) ((Below.refl w5.heap.size w5).drew)).trans ht6)
        have A6 := hid ha6
        have HX6 := hid hx6
        have HN6 := hid hn6
        have R6 := hid (R5.out.away A5.out.m T6.out)
        have C6 := hid ((T6.out.block C5 (lt_of_block HC5.out) (A5.out.m.nob HC5.out (by decide) (by decide))).trans HC5.out)
        clear ha6 hx6 hn6 ht6
        refine hK.out _ _ (HSW.out _ C6.out) (fun hHeld => ?_)
        try clear hK K
        (try simp only [Act.put, putS])
        refine wpAnyH_ready (rs := [5]) (by kernel_rfl) (by simp) ?_
        refine AllReadyH.cons rfl (fun K hK => ?_) AllReadyH.nil
        rw [if_pos (by rfl)]
        go_wp2_with fail
        refine (rapply_any xb (2 + 2 * i) rv sv N N' Y Z' ⟨c0, c1, c2, c3, c4, c5⟩ r _ R6.out HGY.out (by rw [HYX.out]; exact HST.out) (by have := HI40.out; omega)).mono ?_
        rintro e w7 ⟨rv7, sv7, Y7, rfl, hr7, hy7, ht7⟩
        have R7 := hid hr7
        have HY7 := hid hy7
        have A7 := hid (A6.out.away R6.out.box ht7)
        have C7 : Hid (w7.heap[C5]? = some (.cells #[.int .i64 c0, .int .i64 c1, .int .i64 c2, .int .i64 c3, .int .i64 c4, .int .i64 c5] 41 (0, 0))) := hid ((ht7.block C5 (lt_of_block C6.out) (fun e => by
          have e' : C5 = xb := e
          have h1 := C6.out
          rw [e', R6.out.box] at h1
          cases h1)).trans C6.out)
        have T7 := hid ht7
        clear hr7 hy7 ht7
        refine hK.out _ _ (HSW.out _ C7.out) (fun hHeld => ?_)
        try clear hK K
        (try simp only [Act.put, putS])
        refine wpAnyH_take (i := 6) (v := ?dv6) rfl (by kernel_rfl) (by kernel_rfl) (by kernel_rfl) (fun _ _ _ h => h) (Or.inl ⟨by rfl, ?dy6⟩) (by assumption) ?dr6
        case dy6 => (intro w hSw; (try dsimp only at hSw); go_simp; try with_reducible rfl)
        (try simp only [Act.put, putS])
        refine wpAnyH_done (by kernel_rfl) ?_ _
        have HREL : Hid (PlI w b wb mb xb (i + 1) w7) := hid ⟨⟨n6, ov6, D6, N', X6, rv7, sv7, Y7, A7.out, R7.out, by rw [HY7.out, HX6.out], by rw [HX6.out]; exact HG2.out.mono (by omega), by have := HN6.out; have := HNI.out; omega, by rw [HX6.out]; exact HT2.out⟩, (B5.out.trans (T6.out.to HRA.out B5.out.size)).trans (T7.out.to (fun q hq => by have e : q = xb := hq; rw [e]; exact HRX.out) (Nat.le_trans B5.out.size T6.out.size)), HRA.out, HRX.out⟩
        go_wp2_with fail
        go_roundw
        case rel => exact ⟨i + 1, by go_num, by omega, by omega, HREL.out⟩
        case measure => simp [intOf]; omega
    · go_wp2_with fail
      go_ret3
      exact HFIN.out
end Go.Proofs.YtnkjkaofgninnaaGreat
namespace Go.Proofs.YtnkjkaofgninnaaGreat
open Go.RowKit Go.Maps Go.Shelf
set_option linter.unusedVariables false
set_option linter.unusedSimpArgs false

theorem ain_of {B : Nat} {N : AtN} {X : List SX} (g : Gd B N (X.map (·.s))) (hB : B ≤ 1000) : AIn N X := by
  have hm : ∀ x ∈ X, x.s ∈ X.map (·.s) := fun x hx => List.mem_map.2 ⟨x, hx, rfl⟩
  refine ⟨(chn_d X 0 N.bl).2 g.ch, fun x hx => ⟨?_, ?_, fun o ho => ?_⟩, fun x hx => ?_, one_of (ne_map g.ne), ?_, ?_, ?_⟩
  · have := mem7 (g.mb x.s (hm x hx)); omega
  · have := (g.pa x.s (hm x hx)).1; omega
  · have := mem7 ((g.pa x.s (hm x hx)).2 o ho); omega
  · have := g.id x.s (hm x hx); have := g.nx; omega
  · have := g.len; rw [List.length_map] at this; omega
  · have := g.opl; omega
  · have := g.bl; omega
end Go.Proofs.YtnkjkaofgninnaaGreat
namespace Go.Proofs.YtnkjkaofgninnaaGreat
open Go.RowKit Go.Maps Go.Shelf
set_option linter.unusedVariables false
set_option linter.unusedSimpArgs false

structure Gp (N : AtN) (Z : List ShD) : Prop where
  p : ∀ S ∈ Z, ∀ o ∈ S.past, (1 ≤ o.id ∧ o.id < N.nx) ∧ (0 ≤ o.fr ∧ o.fr ≤ 256) ∧ (0 ≤ o.to ∧ o.to ≤ 256)
  o : ∀ n ∈ N.op, 1 ≤ n ∧ n < N.nx
  q : ∀ S ∈ Z, (∀ o ∈ S.past, o.id < S.id ∧ o.fr < o.to) ∧ ∀ i (h : i + 1 < S.past.length), S.past[i].to = S.past[i + 1].fr
  r : ∀ i (h : i + 1 < N.op.length), N.op[i] < N.op[i + 1]
  x : ∀ k ∈ N.op, ∃ S ∈ Z, S.id = k
theorem ChnD.next : ∀ (G : List ShD) (a b : Int), ChnD a G b → ∀ i (h : i + 1 < G.length), G[i].to = G[i + 1].fr
  | [], _, _, _, i, h => by cases h
  | [x], _, _, _, i, h => by simp at h
  | x :: y :: l, a, b, ⟨h1, h2, h3⟩, i, h => by
    cases i with
    | zero => exact h3.1.symm
    | succ i => exact ChnD.next (y :: l) x.to b h3 i (by simpa using h)
theorem nwD_has (ml : List Int) (ps : List OrD) : ∀ (l : List Sp) (nx : Int) (i : Nat), i < l.length → ∃ S ∈ nwD nx ml ps l, S.id = nx + i
  | [], nx, i, h => by cases h
  | t :: l, nx, i, h => by
    cases i with
    | zero => exact ⟨_, List.mem_cons_self .., by simp⟩
    | succ i =>
      obtain ⟨S, hS, e⟩ := nwD_has ml ps l (nx + 1) i (by simpa using h)
      exact ⟨S, List.mem_cons_of_mem _ hS, by rw [e]; omega⟩
theorem or_small {B : Nat} {N : AtN} {Z : List ShD} (g : Gd B N Z) (S : ShD) (hS : S ∈ Z) : (1 ≤ S.or.id ∧ S.or.id < N.nx) ∧ (0 ≤ S.or.fr ∧ S.or.fr ≤ 256) ∧ (0 ≤ S.or.to ∧ S.or.to ≤ 256) := by
  have h1 := g.id S hS
  have h2 := ChnD.mem Z 0 N.bl g.ch S hS
  have h3 := g.bl
  exact ⟨h1, ⟨by show 0 ≤ S.fr; omega, by show S.fr ≤ 256; omega⟩, ⟨by show 0 ≤ S.to; omega, by show S.to ≤ 256; omega⟩⟩
theorem opD_mem (nx : Int) (j : Nat) (n : Int) (h : n ∈ opD nx j) : nx ≤ n ∧ n < nx + j := by
  obtain ⟨i, hi, rfl⟩ := List.mem_map.1 h
  have := List.mem_range.1 hi
  constructor <;> omega
theorem Gp.put {B : Nat} {N : AtN} {P G Q : List ShD} {ml : List Int} {sp : List Sp} (g : Gd B N (P ++ G ++ Q)) (h : Gp N (P ++ G ++ Q)) : Gp (afD N sp) (P ++ nwD N.nx ml (G.map ShD.or) sp ++ Q) := by
  have hnx := g.nx
  have hcase : ∀ S ∈ P ++ nwD N.nx ml (G.map ShD.or) sp ++ Q, S ∈ P ++ G ++ Q ∨ S ∈ nwD N.nx ml (G.map ShD.or) sp := fun S hS => by
    rcases List.mem_append.1 hS with hS | hS
    · rcases List.mem_append.1 hS with hS | hS
      · exact .inl (by simp [hS])
      · exact .inr hS
    · exact .inl (by simp [hS])
  refine ⟨fun S hS o ho => ?_, fun n hn => ?_, fun S hS => ?_, fun i h => ?_, fun k hk => ?_⟩
  · show (1 ≤ o.id ∧ o.id < N.nx + sp.length) ∧ _
    rcases hcase S hS with h1 | h1
    · have := h.p S h1 o ho
      exact ⟨by omega, this.2⟩
    · rw [(nwD_mem _ _ _ _ S h1).2.1] at ho
      obtain ⟨T, hT, rfl⟩ := List.mem_map.1 ho
      have := or_small g T (by simp [hT])
      exact ⟨by omega, this.2⟩
  · have := opD_mem _ _ n hn
    show 1 ≤ n ∧ n < N.nx + sp.length
    omega
  · rcases hcase S hS with h1 | h1
    · exact h.q S h1
    · obtain ⟨h2, h3, h4, h5⟩ := nwD_mem _ _ _ _ S h1
      have key : ∀ ps : List OrD, ps = G.map ShD.or → (∀ o ∈ ps, o.id < S.id ∧ o.fr < o.to) ∧ ∀ i (h : i + 1 < ps.length), ps[i].to = ps[i + 1].fr := ?_
      · exact key _ h3
      rintro _ rfl
      refine ⟨fun o ho => ?_, fun i hi => ?_⟩
      · obtain ⟨T, hT, rfl⟩ := List.mem_map.1 ho
        have h6 := or_small g T (by simp [hT])
        have h7 := ChnD.mem _ _ _ g.ch T (by simp [hT])
        refine ⟨by omega, ?_⟩
        show T.fr < T.to
        exact h7.2.1
      · obtain ⟨m1, hP, hm1⟩ := (ChnD.append (P ++ G) Q _ _).1 g.ch
        obtain ⟨m2, hP2, hG2⟩ := (ChnD.append P G _ _).1 hP
        have := ChnD.next G _ _ hG2 i (by simpa using hi)
        simpa [ShD.or] using this
  · simp only [afD, opD, List.length_map, List.length_range, List.getElem_map, List.getElem_range] at h ⊢
    omega
  · obtain ⟨i, hi, rfl⟩ := List.mem_map.1 hk
    obtain ⟨S, hS, e⟩ := nwD_has ml (G.map ShD.or) sp N.nx i (List.mem_range.1 hi)
    exact ⟨S, by simp [hS], e⟩
theorem gp_step {B : Nat} {N N' : AtN} {Z Z' : List ShD} {c : ChD} {r : Int} (g : Gd B N Z) (h : Gp N Z) (hs : StepR N Z c r N' Z') : Gp N' Z' := by
  cases hs with
  | bad _ => exact h
  | calm _ _ _ _ => exact h
  | settle _ _ _ _ => exact ⟨h.p, fun n hn => (by cases hn), h.q, fun i hi => (by simp at hi), fun k hk => (by cases hk)⟩
  | down _ _ _ _ => exact h
  | miss _ _ _ _ _ => exact h
  | miss2 _ _ _ _ _ _ _ _ _ _ => exact h
  | unfit _ _ _ _ _ _ _ _ _ _ _ => exact h
  | unfit2 _ _ _ _ _ _ _ _ _ _ _ _ _ _ _ => exact h
  | one hk hn h5 h2 ho P Q S hZ hi hf =>
    have e : Z = P ++ [S] ++ Q := by rw [hZ]; simp
    rw [e] at g h
    exact Gp.put (G := [S]) g h
  | two hk hn h2 ho P Q S U hZ hi hj =>
    have e : Z = P ++ [S, U] ++ Q := by rw [hZ]; simp
    rw [e] at g h
    exact Gp.put (G := [S, U]) g h
theorem Gp.new (N : AtN) (Z : List ShD) (h : N.op = []) (hp : ∀ S ∈ Z, S.past = []) : Gp N Z := by
  refine ⟨fun S hS o ho => ?_, fun n hn => ?_, fun S hS => ⟨fun o ho => ?_, fun i hi => ?_⟩, fun i hi => ?_, fun k hk => ?_⟩
  · rw [hp S hS] at ho; cases ho
  · rw [h] at hn; cases hn
  · rw [hp S hS] at ho; cases ho
  · exfalso; simp [hp S hS] at hi
  · exfalso; simp [h] at hi
  · rw [h] at hk; cases hk
theorem mem_small {l : List Int} (h : memB l = true) : (∀ n ∈ l, 0 ≤ n ∧ n < 7) ∧ l.length ≤ 7 := ⟨(mem_rise h).2.1, by have := mem7 h; omega⟩
/-- Such a map may be laid. -/
theorem enj_of {B : Nat} {N : AtN} {X : List SX} (g : Gd B N (X.map (·.s))) (h : Gp N (X.map (·.s))) (hB : B ≤ 1000) : EnJ N X := by
  have hnx := g.nx
  have hep := g.ep
  have hbl := g.bl
  have hol := g.opl
  refine ⟨by omega, by omega, by omega, fun n hn => by have := h.o n hn; omega, by omega, fun x hx => ?_⟩
  have hm : x.s ∈ X.map (·.s) := List.mem_map.2 ⟨x, hx, rfl⟩
  obtain ⟨m1, m2⟩ := mem_small (g.mb x.s hm)
  have ho := or_small g x.s hm
  have h0 : (1 ≤ x.s.id ∧ x.s.id < N.nx) ∧ (0 ≤ x.s.fr ∧ x.s.fr ≤ 256) ∧ (0 ≤ x.s.to ∧ x.s.to ≤ 256) := ho
  refine ⟨⟨⟨?_, ?_⟩, h0.2.1, h0.2.2, m1, m2⟩, fun o hop => ?_, (g.pa x.s hm).1⟩
  · show 0 ≤ x.s.id; omega
  · show x.s.id ≤ 2000000000; omega
  · obtain ⟨n1, n2⟩ := mem_small ((g.pa x.s hm).2 o hop)
    have hp := h.p x.s hm o hop
    exact ⟨by omega, hp.2.1, hp.2.2, n1, n2⟩
end Go.Proofs.YtnkjkaofgninnaaGreat
namespace Go.Proofs.YtnkjkaofgninnaaGreat
open Go.RowKit Go.Maps Go.Shelf
set_option linter.unusedVariables false
set_option linter.unusedSimpArgs false

/-- What a map has that may be read back. -/
structure DcJ (N : AtN) (Z : List ShD) : Prop where
  b : 1 ≤ N.bl ∧ N.bl ≤ 256
  e : 1 ≤ N.ep ∧ N.ep ≤ 1000000
  n : 2 ≤ N.nx ∧ N.nx ≤ 1000000
  o : ∀ n ∈ N.op, 0 ≤ n ∧ n ≤ 2000000000
  ol : N.op.length ≤ 4096
  ox : ∀ k ∈ N.op, ∃ S ∈ Z, S.id = k
  or : ∀ i (h : i + 1 < N.op.length), N.op[i] < N.op[i + 1]
  s : ∀ S ∈ Z, ShJ S
  p : ∀ S ∈ Z, PaJ S
  id : ∀ S ∈ Z, S.id < N.nx
  ne : Z.Pairwise fun x y => x.id ≠ y.id
  ch : ChnD 0 Z N.bl
  l : Z.length ≤ 4096
theorem DcJ.fij {N : AtN} {G : List SX} (h : DcJ N (G.map (·.s))) : FiJ ⟨N.bl, N.ep, N.nx, []⟩ G := by
  refine ⟨(chn_d G 0 N.bl).2 h.ch, ?_, fun x hx => h.p _ (List.mem_map.2 ⟨x, hx, rfl⟩), fun x hx => h.id _ (List.mem_map.2 ⟨x, hx, rfl⟩), by have := h.l; rw [List.length_map] at this; omega, h.b.2, by show N.nx ≤ _; have := h.n; omega⟩
  have := h.ne
  rw [List.pairwise_map] at this
  exact this
/-- What Decode leaves. -/
def DcP (N : AtN) (Z : List ShD) (w : World) (e : Ending) (w' : World) : Prop := ∃ b wb mb n ov D X, e = .returned (.tuple #[.pointer (some ⟨b, 0, none⟩), .int .i64 0]) ∧ Aw w' b wb mb n ov D N X ∧ X.map (·.s) = Z ∧ Below w.heap.size w w' ∧ ∀ q, AtR b wb mb q → w.heap.size ≤ q
set_option maxRecDepth 100000 in
set_option maxHeartbeats 4000000 in
theorem decode_any (N : AtN) (Z : List ShD) (v : Value) (w : World) (hv : Bts w v (encB N Z)) (hl : (encB N Z).length ≤ 100000000) (hj : DcJ N Z) :
    Calls Tryz.prog 6 #[v] w (DcP N Z w) := by
  obtain ⟨bl, ep, nx, op⟩ := N
  have HJ := hid hj
  have H0 := hid (newReader_any v _ w hv (by omega))
  have hE : encB ⟨bl, ep, nx, op⟩ Z = numB bl.toNat ++ (numB ep.toNat ++ (numB nx.toNat ++ (listB nuBy op ++ (listB shBy Z ++ [])))) := by unfold encB; simp
  rw [hE] at H0
  clear hv hj hE hl
  have hbl := HJ.out.b
  have hep := HJ.out.e
  have hnx := HJ.out.n
  simp only at hbl hep hnx
  go_enter Tryz.func6, Tryz.ntmps6
  go_upto_region 2 with (go_at_call 22; refine H0.out.mono ?_; rintro e w1 ⟨rb, rfl, hrb, hr1, hb1⟩; have R1 := hid hr1; have B1 := hid hb1; have RB := hid hrb; clear hr1 hb1 hrb)
  have HNB : Hid (∀ W W' : World, Below w.heap.size w W → W.grownBy W' (some rb) → Below w.heap.size w W') := hid fun W W' h1 h2 => grown_below h1 h2 h1.size RB.out
  go_upto_region 3 with (first
    | (go_at_call 23; refine (takeN_kt rb bl _ _ (by omega) (by omega) R1.out).mono ?_; rintro e w2 ⟨rfl, hr2, hg2⟩; have R2 := hid hr2; have B2 := hid (HNB.out _ _ B1.out hg2); clear hr2 hg2 R1)
    | (go_at_call 23; refine (takeN_kt rb ep _ _ (by omega) (by omega) R2.out).mono ?_; rintro e w3 ⟨rfl, hr3, hg3⟩; have R3 := hid hr3; have B3 := hid (HNB.out _ _ B2.out hg3); clear hr3 hg3 R2)
    | (go_at_call 23; refine (takeN_kt rb nx _ _ (by omega) (by omega) R3.out).mono ?_; rintro e w4 ⟨rfl, hr4, hg4⟩; have R4 := hid hr4; have B4 := hid (HNB.out _ _ B3.out hg4); clear hr4 hg4))
  go_upto_region 4 with (go_at_call 24; refine (getN_kt rb op _ _ HJ.out.ol HJ.out.o R4.out).mono ?_; rintro e w5 ⟨oa, oc, rfl, ho5, hr5, hg5⟩; have R5 := hid hr5; have B5 := hid (HNB.out _ _ B4.out hg5); have O5 := hid (own_low ho5 (Nat.zero_le _)); clear hr5 hg5 ho5)
  go_upto_region 5 with (go_at_call 25; refine (getS_kt rb Z [] _ HJ.out.l HJ.out.s R5.out).mono ?_; rintro e w6 ⟨sa, sc, rfl, G, hx6, ho6, hm6, hr6, hg6⟩; have R6 := hid hr6; have B6 := hid (HNB.out _ _ B5.out hg6); have O6 := hid (own_rd O5.out R5.out (by decide) hg6); have S6 := hid (own_low ho6 (Nat.zero_le _)); have M6 := hid hm6; have X6 := hid hx6; clear hr6 hg6 ho6 hm6 hx6)
  have hgl : Z.length = G.length := by have := congrArg List.length X6.out; rw [List.length_map] at this; omega
  have GR : Hid (ShR w6 (.slice sa Z.length sc) G) := hid ⟨by rw [← hgl]; exact S6.out, M6.out⟩
  clear hgl
  go_upto_region 6 with (go_at_call 27; refine (aempty_any bl ep nx _).mono ?_; rintro e w7 ⟨b, wb, mb, rfl, ha7, hb7, hr7⟩; have A7 := hid ha7; have B7 := hid (B6.out.trans (hb7.mono B6.out.size)); have R7 := hid (R6.out.kept hb7); have O7 := hid (own_below O6.out hb7); have G7 := hid (GR.out.below hb7); have Q7 := hid (fun q hq => Nat.le_trans B6.out.size (hr7 q hq)); clear ha7 hb7 hr7)
  have HJG : Hid (DcJ ⟨bl, ep, nx, op⟩ (G.map (·.s))) := hid (by rw [X6.out]; exact HJ.out)
  have HI : Hid (∀ k ∈ op, I64 k) := hid fun k hk => by have := HJ.out.o k hk; constructor <;> omega
  have HX : Hid (∀ k ∈ op, ∃ x ∈ G, x.s.id = k) := hid fun k hk => by
    obtain ⟨S, hS, e⟩ := HJG.out.ox k hk
    obtain ⟨x, hx, rfl⟩ := List.mem_map.1 hS
    exact ⟨x, hx, e⟩
  have HOR : Hid (∀ i (h : i + 1 < op.length), op[i] < op[i + 1]) := hid HJ.out.or
  have HOL : Hid (op.length ≤ 100000) := hid (by have := HJ.out.ol; simp only at this; omega)
  clear R3 R4 R5 R6 B1 B2 B3 B4 B5 B6 O5 O6 S6 M6 GR HNB
  go_wp2_with (first
    | (go_at_call 28; refine (end_any rb _ _ R7.out).mono ?_; rintro e w8 ⟨rfl, hw8⟩; replace hw8 := hw8.symm; subst hw8; simp only [endB])
    | (go_at_call 29; refine (counted_any b wb mb 0 _ _ ⟨bl, ep, nx, []⟩ _ _ _ A7.out hbl ⟨hep.1, by show ep ≤ _; omega⟩ ⟨by show 1 < nx; omega, by show nx ≤ _; omega⟩).mono ?_; rintro e w8 ⟨rfl, hw8⟩; replace hw8 := hw8.symm; subst hw8)
    | (go_at_call 30; refine (fill_any b wb mb ⟨bl, ep, nx, []⟩ G _ _ A7.out G7.out HJG.out.fij).mono ?_; rintro e w8 ⟨rfl, ⟨D8, ha8⟩, ht8⟩; have A8 := hid ha8; have T8 := hid ht8; have O8 := hid (own_tr A7.out ht8 O7.out (by decide) (by decide)); clear ha8 ht8)
    | (go_at_call 31; refine (reopen_any b wb mb G.length _ D8 ⟨bl, ep, nx, []⟩ _ G op oa oc _ A8.out O8.out HX.out HOR.out HI.out HOL.out).mono ?_; rintro e w9 ⟨rfl, ha9, ht9⟩; have A9 := hid ha9; have T9 := hid ht9; clear ha9 ht9))
  go_ret2
  exact ⟨b, wb, mb, G.length, _, D8, G, rfl, ⟨A9.out⟩, X6.out, B7.out.trans ((T8.out.trans T9.out).to Q7.out B7.out.size), Q7.out⟩
end Go.Proofs.YtnkjkaofgninnaaGreat
namespace Go.Proofs.YtnkjkaofgninnaaGreat
open Go.RowKit Go.Maps Go.Shelf
set_option linter.unusedVariables false
set_option linter.unusedSimpArgs false

/-- What play leaves. -/
def PlyG (w : World) (e : Ending) (w' : World) : Prop := ∃ b wb mb n ov D N X xb rv sv Y, e = .returned (.tuple #[.pointer (some ⟨b, 0, none⟩), .pointer (some ⟨xb, 0, none⟩), .bool true]) ∧ At w' b wb mb n ov D N X ∧ RB w' xb N rv sv Y ∧ Y.map (·.s) = X.map (·.s) ∧ Gd 100 N (X.map (·.s)) ∧ n ≤ 100 ∧ Below w.heap.size w w' ∧ (∀ q, AtR b wb mb q → w.heap.size ≤ q) ∧ w.heap.size ≤ xb ∧ Gp N (X.map (·.s))
/-- Both maps side by side, behind i steps. -/
structure PlG (w : World) (b wb mb xb i : Nat) (wr : World) : Prop where
  both : ∃ n ov D N X rv sv Y, At wr b wb mb n ov D N X ∧ RB wr xb N rv sv Y ∧ Y.map (·.s) = X.map (·.s) ∧ Gd (2 + 2 * i) N (X.map (·.s)) ∧ n ≤ 1 + 2 * i ∧ Gp N (X.map (·.s))
  bel : Below w.heap.size w wr
  ra : ∀ q, AtR b wb mb q → w.heap.size ≤ q
  rx : w.heap.size ≤ xb
set_option maxRecDepth 100000 in
set_option maxHeartbeats 8000000 in
theorem playG_any (bl : Int) (L : List (ChD × Bool)) (v : Value) (w : World) (hv : Stps w v L) (hj : ∀ x ∈ L, ChJ x.1) :
    Calls Tryz.prog 4 #[.int .i64 bl, v] w (PlyG w) := by
  have HV := hid hv
  have HJ := hid hj
  have hL := hv.len
  obtain ⟨va, vc, rfl⟩ := hv.shape
  clear hv hj
  have hrr := rest_in64 bl 60 (by omega) (by omega)
  obtain ⟨nb, hnb⟩ : ∃ nb, nb = wrap64 (1 + wrap64 ((IntKind.u64.wrap bl).tmod 60)) := ⟨_, rfl⟩
  have HNB : Hid (1 ≤ nb ∧ nb ≤ 256) := hid (by rw [hnb, IntWalk.wrap64_in _ (by omega)]; omega)
  have HQ := hid hnb
  clear hnb hrr
  have HO : Hid (∀ W : World, (W.alloc (.cells #[.int .i64 0, .int .i64 1, .int .i64 2] 3)).ownsRow 0 3 1 (.slice (some ⟨W.heap.size, 0, none⟩) 3 3) 3 (nvs [0, 1, 2])) := hid fun W => own_many W 3 #[.int .i64 0, .int .i64 1, .int .i64 2] 1 3 (Nat.zero_le _) rfl (by omega)
  have HN1 := hid (anew_yes nb [0, 1, 2] (.slice (some ⟨w.heap.size, 0, none⟩) 3 3) (w.alloc (.cells #[.int .i64 0, .int .i64 1, .int .i64 2] 3)) (nums_own (HO.out w) rfl) (by simp) (by unfold anewB; rw [decide_eq_true HNB.out.1, decide_eq_true HNB.out.2, mem012]; rfl))
  have HN3 := hid fun W : World => rnewB_any nb [0, 1, 2] (some ⟨W.heap.size, 0, none⟩) 3 (W.alloc (.cells #[.int .i64 0, .int .i64 1, .int .i64 2] 3)) (HO.out W)
  go_enter Tryz.func4, Tryz.ntmps4
  go_upto_region 2 with fail
  rw [← HQ.out]
  clear HQ
  go_upto_region 3 with (go_at_call 11; refine HN1.out.mono ?_; rintro e w2 ⟨b, wb, mb, D, mv, pv, rfl, ha2, hb2, hr2⟩; have A2 := hid ha2; have HR2 := hid hr2; have B2 := hid (((Below.refl w.heap.size w).alloc (Nat.le_refl _) (.cells #[.int .i64 0, .int .i64 1, .int .i64 2] 3)).trans (hb2.mono (by simp))); clear ha2 hb2 hr2)
  go_upto_region 4 with (go_at_call 12; refine (HN3.out w2).mono ?_; rintro e w3 ⟨xb, sv, Y0, rfl, hr3, hy3, hb3, hx3⟩; have R3 := hid hr3; have HY3 := hid hy3; have HX3 : Hid (w.heap.size ≤ xb) := hid (Nat.le_trans B2.out.size (Nat.le_trans (by simp) hx3)); have HB3 := hid (((Below.refl w2.heap.size w2).alloc (Nat.le_refl _) (.cells #[.int .i64 0, .int .i64 1, .int .i64 2] 3)).trans (hb3.mono (by simp))); clear hr3 hy3 hb3 hx3)
  have HPI : Hid (PlG w b wb mb xb 0 w3) := hid ⟨⟨1, _, D, ⟨nb, 1, 2, []⟩, _, _, sv, Y0, A2.out.below HB3.out, R3.out, HY3.out, gd_new nb HNB.out, by omega, Gp.new _ _ rfl (by intro S hS; rw [List.mem_singleton.1 hS])⟩, B2.out.trans (HB3.out.mono B2.out.size), fun q hq => Nat.le_trans (by simp) (HR2.out q hq), HX3.out⟩
  clear A2 HR2 B2 R3 HY3 HX3 HB3 HN1 HN3 HO
  go_wp2_with fail
  go_loopw [11, 12, 13, 32] (fun _ _ _ iv wr => ∃ i : Nat, iv = .int .i64 i ∧ i ≤ L.length ∧ i ≤ 40 ∧ PlG w b wb mb xb i wr) (fun _ _ _ iv _ => L.length - (intOf iv).toNat)
  case atStart => exact ⟨0, rfl, Nat.zero_le _, by omega, HPI.out⟩
  case round =>
    obtain ⟨i, rfl, hi, hi40, hpi⟩ := hrel
    have P := hid hpi
    have HFIN : Hid (PlyG w (.returned (.tuple #[.pointer (some ⟨b, 0, none⟩), .pointer (some ⟨xb, 0, none⟩), .bool true])) wr) := hid (by
      obtain ⟨⟨n, ov, D, N, X, rv, sv, Y, h1, h2, h3, h4, h5, h9⟩, h6, h7, h8⟩ := hpi
      exact ⟨b, wb, mb, n, ov, D, N, X, xb, rv, sv, Y, rfl, h1, h2, h3, h4.mono (by omega), by omega, h6, h7, h8, h9⟩)
    clear hpi
    by_cases hlt : (i : Int) < (L.length : Int)
    · have hil : i < L.length := by omega
      have HVR := hid (HV.out.below P.out.bel)
      obtain ⟨gs, os, rfl⟩ := HVR.out.addr (by omega)
      have hrg := HVR.out.range i hil
      have HXJ := hid (HJ.out L[i] (List.getElem_mem hil))
      obtain ⟨⟨⟨k0, k1, k2, k3, k4, k5⟩, nr⟩, hx⟩ : ∃ x, x = L[i] := ⟨_, rfl⟩
      rw [← hx] at hrg HXJ
      clear hx
      unfold stC at hrg
      obtain ⟨dT, hdT1, hdT2⟩ := Tryz.rowSt
      obtain ⟨w3, hw3⟩ : ∃ w3, w3 = wr.alloc (.cells #[.int .i64 k0, .int .i64 k1, .int .i64 k2, .int .i64 k3, .int .i64 k4, .int .i64 k5, .bool nr] 43) := ⟨_, rfl⟩
      have HB3 : Hid (Below wr.heap.size wr w3) := hid (by rw [hw3]; exact (Below.refl _ _).alloc (Nat.le_refl _) _)
      have HS3 : Hid (w3.heap[wr.heap.size]? = some (.cells #[.int .i64 k0, .int .i64 k1, .int .i64 k2, .int .i64 k3, .int .i64 k4, .int .i64 k5, .bool nr] 43 (0, 0))) := hid (by rw [hw3]; exact heap_alloc_new _ _)
      have HW3 := hid hw3
      clear hw3
      go_upto_region 9 with (refine wpList_load_mid rfl _ _ rfl gs (os + i * 7) (by go_simp) [.int .i64 k0, .int .i64 k1, .int .i64 k2, .int .i64 k3, .int .i64 k4, .int .i64 k5, .bool nr] dT hrg hdT1 hdT2 Tryz.sizeSt ?_)
      rw [← HW3.out]
      clear HW3 hrg
      by_cases h40 : (40 : Int) ≤ (i : Int)
      · have HF3 : Hid (PlyG w (.returned (.tuple #[.pointer (some ⟨b, 0, none⟩), .pointer (some ⟨xb, 0, none⟩), .bool true])) w3) := hid (by
          obtain ⟨⟨n, ov, D, N, X, rv, sv, Y, h1, h2, h3, h4, h5, h9⟩, h6, h7, h8⟩ := P.out
          exact ⟨b, wb, mb, n, ov, D, N, X, xb, rv, sv, Y, rfl, h1.below HB3.out, h2.below HB3.out, h3, h4.mono (by omega), by omega, h6.trans (HB3.out.mono h6.size), h7, h8, h9⟩)
        go_wp2_with fail
        go_ret3
        exact HF3.out
      · have HI40 : Hid (i < 40) := hid (by omega)
        obtain ⟨⟨n, ov, D, N, X, rv, sv, Y, h1, h2, h3, h4, h5, h9⟩, h6, h7, h8⟩ := P.out
        have A3 := hid (h1.below HB3.out)
        have R3 := hid (h2.below HB3.out)
        have HYX := hid h3
        have HGX := hid h4
        have HGY : Hid (Gd (2 + 2 * i) N (Y.map (·.s))) := hid (by rw [h3]; exact h4)
        have HNI := hid h5
        have B3 := hid (h6.trans (HB3.out.mono h6.size))
        have HRA := hid h7
        have HRX := hid h8
        have HT9 := hid h9
        clear h1 h2 h3 h4 h5 h6 h7 h8 h9 HVR P HFIN
        have HOF := hid (of_any ⟨k0, k1, k2, k3, k4, k5⟩ nr xb (2 + 2 * i) rv sv N Y w3 HXJ.out R3.out HGY.out (by have := HI40.out; omega))
        unfold stV at HOF
        have hrg3 : w3.rangeAt wr.heap.size 0 [.int .i64 k0, .int .i64 k1, .int .i64 k2, .int .i64 k3, .int .i64 k4, .int .i64 k5, .bool nr] := range_of_row HS3.out 0 _ fun j v hv => by rw [Nat.zero_add]; simpa using hv
        generalize wr.heap.size = S3 at *
        go_upto_region 11 with (first | (refine wpList_load_mid rfl _ _ rfl S3 0 (by go_simp) [.int .i64 k0, .int .i64 k1, .int .i64 k2, .int .i64 k3, .int .i64 k4, .int .i64 k5, .bool nr] dT hrg3 hdT1 hdT2 Tryz.sizeSt ?_) | (go_at_call 13; refine HOF.out.mono ?_; rintro e w4 ⟨⟨c0, c1, c2, c3, c4, c5⟩, rfl, hcj, hb4⟩; unfold chV; have HCJ := hid hcj; have HB4 := hid hb4; clear hcj hb4))
        obtain ⟨w5, hw5⟩ : ∃ w5, w5 = w4.alloc (.cells #[.int .i64 c0, .int .i64 c1, .int .i64 c2, .int .i64 c3, .int .i64 c4, .int .i64 c5] 41) := ⟨_, rfl⟩
        have HB5 : Hid (Below w4.heap.size w4 w5) := hid (by rw [hw5]; exact (Below.refl _ _).alloc (Nat.le_refl _) _)
        have HC5 : Hid (w5.heap[w4.heap.size]? = some (.cells #[.int .i64 c0, .int .i64 c1, .int .i64 c2, .int .i64 c3, .int .i64 c4, .int .i64 c5] 41 (0, 0))) := hid (by rw [hw5]; exact heap_alloc_new _ _)
        rw [← hw5]
        clear hw5
        have HB35 := hid (HB4.out.trans (HB5.out.mono HB4.out.size))
        have A5 := hid (A3.out.below HB35.out)
        have R5 := hid (R3.out.below HB35.out)
        have B5 := hid (B3.out.trans (HB35.out.mono B3.out.size))
        generalize w4.heap.size = C5 at *
        obtain ⟨r, N', Z', hst⟩ := step_ex N (X.map (·.s)) ⟨c0, c1, c2, c3, c4, c5⟩ HGX.out.ne
        have HST := hid hst
        have HG2 := hid (gd_step HGX.out hst)
        have HT2 := hid (gp_step HGX.out HT9.out hst)
        clear hst HB4 HB5 HB35 A3 R3 B3 HOF hrg3 HS3 HB3
        obtain ⟨dC, hdC1, hdC2⟩ := Tryz.rowCh
        have HSW : Hid (∀ Y : World, Y.heap[C5]? = some (.cells #[.int .i64 c0, .int .i64 c1, .int .i64 c2, .int .i64 c3, .int .i64 c4, .int .i64 c5] 41 (0, 0)) → Y.rangeAt C5 0 [.int .i64 c0, .int .i64 c1, .int .i64 c2, .int .i64 c3, .int .i64 c4, .int .i64 c5]) := hid fun Y hY => range_of_row hY 0 _ fun j v hv => by rw [Nat.zero_add]; simpa using hv
        refine wp_region_held_drew (S := fun Y => Y.rangeAt C5 0 [.int .i64 c0, .int .i64 c1, .int .i64 c2, .int .i64 c3, .int .i64 c4, .int .i64 c5]) (by kernel_rfl) (HSW.out _ HC5.out) (fun hHeld => ?_)
        refine wpAnyH_take (i := 0) (v := ?av0) rfl (by kernel_rfl) (by kernel_rfl) (by kernel_rfl) (fun _ _ _ h => h) (Or.inl ⟨by rfl, ?ay0⟩) (by assumption) ?ar0
        case ay0 => (intro w hSw; (try dsimp only at hSw); go_simp; try with_reducible rfl)
        (try simp only [Act.put, putS])
        refine wpAnyH_take (i := 1) (v := .agg #[.int .i64 c0, .int .i64 c1, .int .i64 c2, .int .i64 c3, .int .i64 c4, .int .i64 c5]) rfl (by kernel_rfl) (by kernel_rfl) (by kernel_rfl) (fun _ _ _ h => h) (yieldsIf_load_mid rfl _ _ rfl C5 0 rfl [.int .i64 c0, .int .i64 c1, .int .i64 c2, .int .i64 c3, .int .i64 c4, .int .i64 c5] dC (fun Y hY => hY) hdC1 hdC2 Tryz.sizeCh) (by assumption) ?_
        (try simp only [Act.put, putS])
        refine wpAnyH_take (i := 3) (v := ?bv3) rfl (by kernel_rfl) (by kernel_rfl) (by kernel_rfl) (fun _ _ _ h => h) (Or.inl ⟨by rfl, ?by3⟩) (by assumption) ?br3
        case by3 => (intro w hSw; (try dsimp only at hSw); go_simp; try with_reducible rfl)
        (try simp only [Act.put, putS])
        refine wpAnyH_take (i := 4) (v := .agg #[.int .i64 c0, .int .i64 c1, .int .i64 c2, .int .i64 c3, .int .i64 c4, .int .i64 c5]) rfl (by kernel_rfl) (by kernel_rfl) (by kernel_rfl) (fun _ _ _ h => h) (yieldsIf_load_mid rfl _ _ rfl C5 0 rfl [.int .i64 c0, .int .i64 c1, .int .i64 c2, .int .i64 c3, .int .i64 c4, .int .i64 c5] dC (fun Y hY => hY) hdC1 hdC2 Tryz.sizeCh) (by assumption) ?_
        (try simp only [Act.put, putS])
        refine wpAnyH_ready (rs := [2]) (by kernel_rfl) (by simp) ?_
        refine AllReadyH.cons rfl (fun K hK => ?_) AllReadyH.nil
        rw [if_pos (by rfl)]
        go_wp2_with fail
        refine (aapply_any b wb mb n (2 + 2 * i) ov D N N' X Z' ⟨c0, c1, c2, c3, c4, c5⟩ r _ (A5.out.below ((Below.refl _ _).drew)) HGX.out HST.out HCJ.out (by have := HI40.out; omega) (by have := HI40.out; have := HNI.out; omega)).mono ?_
        rintro e w6 ⟨n6, ov6, D6, X6, rfl, ha6, hx6, hn6, ht6⟩
        have T6 := hid ((Tr.below (R := AtR b wb mb) ((Below.refl w5.heap.size w5).drew)).trans ht6)
        have A6 := hid ha6
        have HX6 := hid hx6
        have HN6 := hid hn6
        have R6 := hid (R5.out.away A5.out.m T6.out)
        have C6 := hid ((T6.out.block C5 (lt_of_block HC5.out) (A5.out.m.nob HC5.out (by decide) (by decide))).trans HC5.out)
        clear ha6 hx6 hn6 ht6
        refine hK.out _ _ (HSW.out _ C6.out) (fun hHeld => ?_)
        try clear hK K
        (try simp only [Act.put, putS])
        refine wpAnyH_ready (rs := [5]) (by kernel_rfl) (by simp) ?_
        refine AllReadyH.cons rfl (fun K hK => ?_) AllReadyH.nil
        rw [if_pos (by rfl)]
        go_wp2_with fail
        refine (rapply_any xb (2 + 2 * i) rv sv N N' Y Z' ⟨c0, c1, c2, c3, c4, c5⟩ r _ R6.out HGY.out (by rw [HYX.out]; exact HST.out) (by have := HI40.out; omega)).mono ?_
        rintro e w7 ⟨rv7, sv7, Y7, rfl, hr7, hy7, ht7⟩
        have R7 := hid hr7
        have HY7 := hid hy7
        have A7 := hid (A6.out.away R6.out.box ht7)
        have C7 : Hid (w7.heap[C5]? = some (.cells #[.int .i64 c0, .int .i64 c1, .int .i64 c2, .int .i64 c3, .int .i64 c4, .int .i64 c5] 41 (0, 0))) := hid ((ht7.block C5 (lt_of_block C6.out) (fun e => by
          have e' : C5 = xb := e
          have h1 := C6.out
          rw [e', R6.out.box] at h1
          cases h1)).trans C6.out)
        have T7 := hid ht7
        clear hr7 hy7 ht7
        refine hK.out _ _ (HSW.out _ C7.out) (fun hHeld => ?_)
        try clear hK K
        (try simp only [Act.put, putS])
        refine wpAnyH_take (i := 6) (v := ?dv6) rfl (by kernel_rfl) (by kernel_rfl) (by kernel_rfl) (fun _ _ _ h => h) (Or.inl ⟨by rfl, ?dy6⟩) (by assumption) ?dr6
        case dy6 => (intro w hSw; (try dsimp only at hSw); go_simp; try with_reducible rfl)
        (try simp only [Act.put, putS])
        refine wpAnyH_done (by kernel_rfl) ?_ _
        have HREL : Hid (PlG w b wb mb xb (i + 1) w7) := hid ⟨⟨n6, ov6, D6, N', X6, rv7, sv7, Y7, A7.out, R7.out, by rw [HY7.out, HX6.out], by rw [HX6.out]; exact HG2.out.mono (by omega), by have := HN6.out; have := HNI.out; omega, by rw [HX6.out]; exact HT2.out⟩, (B5.out.trans (T6.out.to HRA.out B5.out.size)).trans (T7.out.to (fun q hq => by have e : q = xb := hq; rw [e]; exact HRX.out) (Nat.le_trans B5.out.size T6.out.size)), HRA.out, HRX.out⟩
        go_wp2_with fail
        go_roundw
        case rel => exact ⟨i + 1, by go_num, by omega, by omega, HREL.out⟩
        case measure => simp [intOf]; omega
    · go_wp2_with fail
      go_ret3
      exact HFIN.out
end Go.Proofs.YtnkjkaofgninnaaGreat
namespace Go.Proofs.YtnkjkaofgninnaaGreat
open Go.RowKit Go.Maps Go.Shelf
set_option linter.unusedVariables false
set_option linter.unusedSimpArgs false

theorem dcj_of {B : Nat} {N : AtN} {X : List SX} (g : Gd B N (X.map (·.s))) (h : Gp N (X.map (·.s))) (hB : B ≤ 1000) : DcJ N (X.map (·.s)) := by
  have hj := enj_of g h hB
  have hnx := g.nx
  have hep := g.ep
  refine ⟨g.bl, by omega, by omega, hj.o, by have := g.opl; omega, h.x, h.r, fun S hS => ?_, fun S hS => ?_, fun S hS => (g.id S hS).2, g.ne, g.ch, by have := g.len; omega⟩
  · obtain ⟨x, hx, rfl⟩ := List.mem_map.1 hS
    exact hj.s x hx
  · have h1 := g.id S hS
    have h2 := ChnD.mem _ _ _ g.ch S hS
    refine ⟨⟨?_, ?_, g.mb S hS⟩, (g.pa S hS).1, fun o ho => ⟨⟨?_, ?_, (g.pa S hS).2 o ho⟩, ((h.q S hS).1 o ho).1⟩, (h.q S hS).2⟩
    · exact h1.1
    · exact ⟨h2.1, h2.2.1⟩
    · exact (h.p S hS o ho).1.1
    · exact ⟨(h.p S hS o ho).2.1.1, ((h.q S hS).1 o ho).2⟩
set_option maxRecDepth 100000 in
set_option maxHeartbeats 4000000 in
theorem atlasCodes_any (bl : Int) (L : List (ChD × Bool)) (v : Value) (w : World) (hv : Stps w v L) (hj : ∀ x ∈ L, ChJ x.1) :
    Calls Tryz.prog 3 #[.int .i64 bl, v] w fun e w' => e = .returned (.bool true) ∧ Below w.heap.size w w' := by
  obtain ⟨va, vc, rfl⟩ := hv.shape
  have HP := hid (playG_any bl L _ w hv hj)
  clear hv hj
  go_enter Tryz.func3, Tryz.ntmps3
  go_upto_region 4 with (go_at_call 4; refine HP.out.mono ?_; rintro e w2 ⟨b, wb, mb, n, ov, D, N, X, xb, rv, sv, Y, rfl, ha, hr, hy, hg, hn, hb, -, -, hgp⟩; have A2 := hid ha.aw; have R2 := hid hr; have HYX := hid hy; have HGD := hid hg; have HGP := hid hgp; have B2 := hid hb; clear ha hr hy hg hn hb hgp)
  have GX := hid (ain_of HGD.out (by omega))
  have JX := hid (enj_of HGD.out HGP.out (by omega))
  have DX := hid (dcj_of HGD.out HGP.out (by omega))
  have HBE := hid (encB_len N X GX.out JX.out)
  obtain ⟨bs, hbs⟩ : ∃ bs, bs = encB N (X.map (·.s)) := ⟨_, rfl⟩
  have HBS := hid hbs
  have HEN := hid (encodeW_any b wb mb n ov D N X w2 A2.out GX.out JX.out)
  rw [← HBS.out] at HEN HBE
  clear hbs HP
  go_upto_region 5 with (go_at_call 5; refine HEN.out.mono ?_; rintro e w3 ⟨ba, bc, rfl, ho3, hb3⟩; have O3 := hid ho3; have Q3 := hid hb3; clear ho3 hb3)
  have HDC := hid (decode_any N (X.map (·.s)) (.slice ba bs.length bc) w3 (by rw [← HBS.out]; exact O3.out.bts) (by rw [← HBS.out]; exact HBE.out) DX.out)
  go_upto_region 6 with (go_at_call 6; refine HDC.out.mono ?_; rintro e w4 ⟨c, wc, mc, n2, ov2, D2, Z, rfl, hc4, hz4, hb4, -⟩; have C3 := hid hc4; have HZX := hid hz4; have Q4 := hid hb4; clear hc4 hz4 hb4)
  have B4 := hid (B2.out.trans ((Q3.out.trans (Q4.out.mono Q3.out.size)).mono B2.out.size))
  have A3 := hid (A2.out.below (Q3.out.trans (Q4.out.mono Q3.out.size)))
  have R3 := hid (R2.out.below (Q3.out.trans (Q4.out.mono Q3.out.size)))
  have O4 := hid (own_below O3.out Q4.out)
  have GY : Hid (AIn N Y) := hid (ain_of (by rw [HYX.out]; exact HGD.out) (by omega))
  have JY : Hid (EnJ N Y) := hid (enj_of (by rw [HYX.out]; exact HGD.out) (by rw [HYX.out]; exact HGP.out) (by omega))
  have GZ : Hid (AIn N Z) := hid (ain_of (by rw [HZX.out]; exact HGD.out) (by omega))
  have JZ : Hid (EnJ N Z) := hid (enj_of (by rw [HZX.out]; exact HGD.out) (by rw [HZX.out]; exact HGP.out) (by omega))
  have HYZ : Hid (Y.map (·.s) = Z.map (·.s)) := hid (HYX.out.trans HZX.out.symm)
  have SW : Hid (∀ Y, Below w4.heap.size w4 Y → (convert 27 9 (.slice ba bs.length bc)).run Tryz.prog Y = .ok (.string ⟨bs.toArray⟩) Y) := hid fun Y hY => conv_string _ _ _ (show Own Y w2.heap.size (.slice ba bs.length bc) bs from own_below O4.out hY).bts
  have BT : Hid (Below w4.heap.size w4 w4.drew) := hid ((Below.refl _ _).drew)
  clear HGD HGP DX HEN HDC A2 R2 Q3 Q4 O3 B2 HBE O4
  refine wp_region_held_drew (S := fun Y => (convert 27 9 (.slice ba bs.length bc)).run Tryz.prog Y = .ok (.string ⟨bs.toArray⟩) Y) (by kernel_rfl) (SW.out _ BT.out) (fun hHeld => ?_)
  refine wpAnyH_take (i := 0) (v := ?pv0) rfl (by kernel_rfl) (by kernel_rfl) (by kernel_rfl) (fun _ _ _ h => h) (Or.inl ⟨by rfl, ?py0⟩) (by assumption) ?pr0
  case py0 => (intro w hSw; (try dsimp only at hSw); go_simp; try with_reducible rfl)
  (try simp only [Act.put, putS])
  refine wpAnyH_take (i := 1) (v := ?pv1) rfl (by kernel_rfl) (by kernel_rfl) (by kernel_rfl) (fun _ _ _ h => h) (Or.inl ⟨by rfl, ?py1⟩) (by assumption) ?pr1
  case py1 => (intro w hSw; (try dsimp only at hSw); go_simp; try with_reducible rfl)
  (try simp only [Act.put, putS])
  refine wpAnyH_take (i := 2) (v := ?pv2) rfl (by kernel_rfl) (by kernel_rfl) (by kernel_rfl) (fun _ _ _ h => h) (Or.inl ⟨by rfl, ?py2⟩) (by assumption) ?pr2
  case py2 => (intro w hSw; (try dsimp only at hSw); go_simp; try with_reducible rfl)
  (try simp only [Act.put, putS])
  refine wpAnyH_ready (rs := [3]) (by kernel_rfl) (by simp) ?_
  refine AllReadyH.cons rfl (fun K hK => ?_) AllReadyH.nil
  rw [if_pos (by rfl)]
  go_wp2_with fail
  refine (rcodeA_any xb N rv sv Y _ (R3.out.below BT.out) GY.out JY.out).mono ?_
  rw [HYX.out, ← HBS.out]
  rintro e w6 ⟨va6, vc6, rfl, ho6, hb6⟩
  replace BT := hid (BT.out.trans (hb6.mono BT.out.size))
  have K2 := hid (conv_string _ _ _ ho6.bts)
  clear ho6 hb6
  refine hK.out _ _ (SW.out _ BT.out) (fun hHeld => ?_)
  try clear hK K
  (try simp only [Act.put, putS])
  refine wpAnyH_ready (rs := [4]) (by kernel_rfl) (by simp) ?_
  refine AllReadyH.cons rfl (fun K hK => ?_) AllReadyH.nil
  rw [if_pos (by rfl)]
  have k2 := K2.out
  go_simp
  refine hK.out _ _ (SW.out _ BT.out) (fun hHeld => ?_)
  clear k2
  try clear hK K
  (try simp only [Act.put, putS])
  refine wpAnyH_take (i := 5) (v := ?pv5) rfl (by kernel_rfl) (by kernel_rfl) (by kernel_rfl) (fun _ _ _ h => h) (Or.inl ⟨by rfl, ?py5⟩) (by assumption) ?pr5
  case py5 => (intro w hSw; (try dsimp only at hSw); go_simp; try with_reducible rfl)
  (try simp only [Act.put, putS])
  refine wpAnyH_take (i := 6) (v := ?pv6) rfl (by kernel_rfl) (by kernel_rfl) (by kernel_rfl) (fun _ _ _ h => h) (Or.inl ⟨by rfl, ?py6⟩) (by assumption) ?pr6
  case py6 => (intro w hSw; (try dsimp only at hSw); go_simp; try with_reducible rfl)
  (try simp only [Act.put, putS])
  refine wpAnyH_take (i := 7) (v := ?pv7) rfl (by kernel_rfl) (by kernel_rfl) (by kernel_rfl) (fun _ _ _ h => h) (Or.inl ⟨by rfl, ?py7⟩) (by assumption) ?pr7
  case py7 => (intro w hSw; (try dsimp only at hSw); go_simp; try with_reducible rfl)
  (try simp only [Act.put, putS])
  refine wpAnyH_take (i := 8) (v := ?pv8) rfl (by kernel_rfl) (by kernel_rfl) (by kernel_rfl) (fun _ _ _ h => h) (Or.inl ⟨by rfl, ?py8⟩) (by assumption) ?pr8
  case py8 => (intro w hSw; (try dsimp only at hSw); go_simp; try with_reducible rfl)
  (try simp only [Act.put, putS])
  refine wpAnyH_take (i := 9) (v := ?pv9) rfl (by kernel_rfl) (by kernel_rfl) (by kernel_rfl) (fun _ _ _ h => h) (Or.inl ⟨by rfl, ?py9⟩) (by assumption) ?pr9
  case py9 => (intro w hSw; (try dsimp only at hSw); go_simp; try with_reducible rfl)
  (try simp only [Act.put, putS])
  refine wpAnyH_take (i := 10) (v := ?pv10) rfl (by kernel_rfl) (by kernel_rfl) (by kernel_rfl) (fun _ _ _ h => h) (Or.inl ⟨by rfl, ?py10⟩) (by assumption) ?pr10
  case py10 => (intro w hSw; (try dsimp only at hSw); go_simp; try with_reducible rfl)
  (try simp only [Act.put, putS])
  refine wpAnyH_take (i := 11) (v := ?pv11) rfl (by kernel_rfl) (by kernel_rfl) (by kernel_rfl) (fun _ _ _ h => h) (Or.inl ⟨by rfl, ?py11⟩) (by assumption) ?pr11
  case py11 => (intro w hSw; (try dsimp only at hSw); go_simp; try with_reducible rfl)
  (try simp only [Act.put, putS])
  refine wpAnyH_take (i := 12) (v := ?pv12) rfl (by kernel_rfl) (by kernel_rfl) (by kernel_rfl) (fun _ _ _ h => h) (Or.inl ⟨by rfl, ?py12⟩) (by assumption) ?pr12
  case py12 => (intro w hSw; (try dsimp only at hSw); go_simp; try with_reducible rfl)
  (try simp only [Act.put, putS])
  refine wpAnyH_ready (rs := [13]) (by kernel_rfl) (by simp) ?_
  refine AllReadyH.cons rfl (fun K hK => ?_) AllReadyH.nil
  rw [if_pos (by rfl)]
  go_wp2_with fail
  refine (samAW_any b wb mb n ov D c wc mc n2 ov2 D2 N X Z _ (A3.out.below BT.out) (C3.out.below BT.out) GX.out JX.out GZ.out JZ.out HZX.out).mono ?_
  rintro e w7 ⟨rfl, hb7⟩
  replace BT := hid (BT.out.trans (hb7.mono BT.out.size))
  clear hb7
  refine hK.out _ _ (SW.out _ BT.out) (fun hHeld => ?_)
  try clear hK K
  (try simp only [Act.put, putS])
  refine wpAnyH_take (i := 14) (v := ?pv14) rfl (by kernel_rfl) (by kernel_rfl) (by kernel_rfl) (fun _ _ _ h => h) (Or.inl ⟨by rfl, ?py14⟩) (by assumption) ?pr14
  case py14 => (intro w hSw; (try dsimp only at hSw); go_simp; try with_reducible rfl)
  (try simp only [Act.put, putS])
  refine wpAnyH_take (i := 15) (v := ?pv15) rfl (by kernel_rfl) (by kernel_rfl) (by kernel_rfl) (fun _ _ _ h => h) (Or.inl ⟨by rfl, ?py15⟩) (by assumption) ?pr15
  case py15 => (intro w hSw; (try dsimp only at hSw); go_simp; try with_reducible rfl)
  (try simp only [Act.put, putS])
  refine wpAnyH_take (i := 16) (v := ?pv16) rfl (by kernel_rfl) (by kernel_rfl) (by kernel_rfl) (fun _ _ _ h => h) (Or.inl ⟨by rfl, ?py16⟩) (by assumption) ?pr16
  case py16 => (intro w hSw; (try dsimp only at hSw); go_simp; try with_reducible rfl)
  (try simp only [Act.put, putS])
  refine wpAnyH_take (i := 17) (v := ?pv17) rfl (by kernel_rfl) (by kernel_rfl) (by kernel_rfl) (fun _ _ _ h => h) (Or.inl ⟨by rfl, ?py17⟩) (by assumption) ?pr17
  case py17 => (intro w hSw; (try dsimp only at hSw); go_simp; try with_reducible rfl)
  (try simp only [Act.put, putS])
  refine wpAnyH_ready (rs := [18]) (by kernel_rfl) (by simp) ?_
  refine AllReadyH.cons rfl (fun K hK => ?_) AllReadyH.nil
  rw [if_pos (by rfl)]
  go_wp2_with fail
  refine (alikeW_any c wc mc n2 xb ov2 rv sv D2 N Z Y _ (C3.out.below BT.out) GZ.out (R3.out.below BT.out).ra HYZ.out).mono ?_
  rintro e w8 ⟨rfl, hb8⟩
  replace BT := hid (BT.out.trans (hb8.mono BT.out.size))
  clear hb8
  refine hK.out _ _ (SW.out _ BT.out) (fun hHeld => ?_)
  try clear hK K
  (try simp only [Act.put, putS])
  refine wpAnyH_take (i := 19) (v := ?pv19) rfl (by kernel_rfl) (by kernel_rfl) (by kernel_rfl) (fun _ _ _ h => h) (Or.inl ⟨by rfl, ?py19⟩) (by assumption) ?pr19
  case py19 => (intro w hSw; (try dsimp only at hSw); go_simp; try with_reducible rfl)
  (try simp only [Act.put, putS])
  refine wpAnyH_take (i := 20) (v := ?pv20) rfl (by kernel_rfl) (by kernel_rfl) (by kernel_rfl) (fun _ _ _ h => h) (Or.inl ⟨by rfl, ?py20⟩) (by assumption) ?pr20
  case py20 => (intro w hSw; (try dsimp only at hSw); go_simp; try with_reducible rfl)
  (try simp only [Act.put, putS])
  refine wpAnyH_ready (rs := [21]) (by kernel_rfl) (by simp) ?_
  refine AllReadyH.cons rfl (fun K hK => ?_) AllReadyH.nil
  rw [if_pos (by rfl)]
  go_wp2_with fail
  refine (lives_any _).mono ?_
  rintro e w9 ⟨rfl, hb9⟩
  replace BT := hid (BT.out.trans (hb9.mono BT.out.size))
  clear hb9
  refine hK.out _ _ (SW.out _ BT.out) (fun hHeld => ?_)
  try clear hK K
  (try simp only [Act.put, putS])
  refine wpAnyH_take (i := 22) (v := ?pv22) rfl (by kernel_rfl) (by kernel_rfl) (by kernel_rfl) (fun _ _ _ h => h) (Or.inl ⟨by rfl, ?py22⟩) (by assumption) ?pr22
  case py22 => (intro w hSw; (try dsimp only at hSw); go_simp; try with_reducible rfl)
  (try simp only [Act.put, putS])
  refine wpAnyH_take (i := 23) (v := ?pv23) rfl (by kernel_rfl) (by kernel_rfl) (by kernel_rfl) (fun _ _ _ h => h) (Or.inl ⟨by rfl, ?py23⟩) (by assumption) ?pr23
  case py23 => (intro w hSw; (try dsimp only at hSw); go_simp; try with_reducible rfl)
  (try simp only [Act.put, putS])
  refine wpAnyH_done (by kernel_rfl) ?_ _
  clear hHeld
  go_wp2_with fail
  go_ret
  exact ⟨rfl, B4.out.trans (BT.out.mono B4.out.size)⟩
end Go.Proofs.YtnkjkaofgninnaaGreat
namespace Go.Proofs.YtnkjkaofgninnaaGreat
open Go.ChangeShapes Go.WideShapes Go.ChangeAt Go.RowKit Go.Deep
set_option maxRecDepth 100000

variable {H : Type} {enc : TypeId × Value → H} {w : World} {base : Nat} {spare : Nat → Bool} {held : Bool}

theorem Tryz.cellsI : Tryz.prog.cellsOf 3 = 1 := by kernel_rfl
theorem int_of {n : Nat} {v0 : Value} {y0 : DataW H × List MemPlace} (h0 : DataW.trod enc Tryz.prog w base spare held n 3 [v0] = some y0) : ∃ x : Int, v0 = .int .i64 x ∧ I64 x := by
  obtain ⟨a0, e0, rfl, w0⟩ := DataW.trod_int Tryz.underlying3 h0
  simp at e0
  subst e0
  have s0 : -9223372036854775808 ≤ a0 ∧ a0 ≤ 9223372036854775807 := by simpa [Lit.wf, IntKind.min, IntKind.max, IntKind.signed, IntKind.bits] using w0
  exact ⟨a0, rfl, s0⟩
/-- A slice of numbers that came in. -/
theorem nums_of {n : Nat} {v : Value} {y : DataW H × List MemPlace} (h : DataW.trod enc Tryz.prog w base spare held n 38 [v] = some y) : ∃ l, Nums w v l ∧ ∀ x ∈ l, I64 x := by
  rcases DataW.trod_slice Tryz.underlying38 h with ⟨hcs, _⟩ | ⟨a, len, cap, elems, rest, n', _, hcs, _, hb, hl, hm, hlen, hel, _, _⟩
  · simp at hcs
    subst hcs
    exact ⟨[], ⟨none, 0, 0, rfl, rfl, Nat.le_refl _, by omega, (fun _ => rfl), (fun ad h => by cases h)⟩, by simp⟩
  · simp at hcs
    subst hcs
    have each : ∀ i, i < len → ∃ q : Int, w.cell? (a.add i) = some (.int .i64 q) ∧ I64 q := by
      intro i hi
      have h1 := hel i hi
      rw [List.getElem?_eq_getElem (by omega), Tryz.cellsI] at h1
      obtain ⟨cs, h2, h3⟩ := Option.bind_eq_some_iff.1 h1
      obtain ⟨_, hcl, hcell⟩ := World.cells?_some h2
      match cs, hcl with
      | [v0], _ =>
        obtain ⟨x, rfl, hx⟩ := int_of h3
        have e0 := hcell 0 (by omega)
        rw [Addr.add_add] at e0
        exact ⟨x, by simpa using e0, hx⟩
    obtain ⟨q, hq⟩ := choose_lt each
    refine ⟨(List.range len).map q, ⟨some a, len, cap, rfl, by simp, hl, by unfold maxLen at hm; omega, (fun h => by cases h), fun ad had j hj => ?_⟩, ?_⟩
    · obtain rfl := Option.some.inj had
      have hj' : j < len := by simpa using hj
      simp only [List.getElem_map, List.getElem_range]
      exact (hq j hj').1
    · intro x hx
      simp only [List.mem_map, List.mem_range] at hx
      obtain ⟨i, hi, rfl⟩ := hx
      exact (hq i hi).2
end Go.Proofs.YtnkjkaofgninnaaGreat
namespace Go.Proofs.YtnkjkaofgninnaaGreat
open Go.ChangeShapes Go.WideShapes Go.ChangeAt Go.RowKit Go.Deep
set_option maxRecDepth 100000

variable {H : Type} {enc : TypeId × Value → H} {w : World} {base : Nat} {spare : Nat → Bool} {held : Bool}
theorem Tryz.cellsCh : Tryz.prog.cellsOf 41 = 6 := by kernel_rfl
theorem ch6_of {n : Nat} {v0 v1 v2 v3 v4 v5 : Value} {y : DataW H × List MemPlace} (h : DataW.trod enc Tryz.prog w base spare held n 41 [v0, v1, v2, v3, v4, v5] = some y) : ∃ c : ChD, v0 = .int .i64 c.k ∧ v1 = .int .i64 c.sh ∧ v2 = .int .i64 c.ot ∧ v3 = .int .i64 c.at' ∧ v4 = .int .i64 c.out ∧ v5 = .int .i64 c.in' ∧ ChJ c := by
  obtain ⟨xs, k, hk, hxy, _, hxl, hf⟩ := DataW.trod_struct Tryz.underlying41 h
  match xs, hxl with
  | [y0, y1, y2, y3, y4, y5], _ =>
    have g0 := hf 0 _ rfl
    have g1 := hf 1 _ rfl
    have g2 := hf 2 _ rfl
    have g3 := hf 3 _ rfl
    have g4 := hf 4 _ rfl
    have g5 := hf 5 _ rfl
    simp [Tryz.cellsI] at g0 g1 g2 g3 g4 g5
    obtain ⟨x0, rfl, i0⟩ := int_of g0
    obtain ⟨x1, rfl, i1⟩ := int_of g1
    obtain ⟨x2, rfl, i2⟩ := int_of g2
    obtain ⟨x3, rfl, i3⟩ := int_of g3
    obtain ⟨x4, rfl, i4⟩ := int_of g4
    obtain ⟨x5, rfl, i5⟩ := int_of g5
    refine ⟨⟨x0, x1, x2, x3, x4, x5⟩, rfl, rfl, rfl, rfl, rfl, rfl, ?_⟩
    intro x hx
    simp only [numC, List.mem_cons, List.not_mem_nil, or_false] at hx
    rcases hx with rfl | rfl | rfl | rfl | rfl | rfl <;> assumption
/-- A change by value. -/
theorem ch_of {r : Reach} {b0 : Nat} {v : Value} {d : DataW H} {p : List MemPlace} (hv : Value.okWide Tryz.prog w r b0 41 v) (h : DataW.Trod enc Tryz.prog w base spare held 41 v d p) : ∃ c : ChD, v = chV c ∧ ChJ c := by
  simp only [Value.okWide, Tryz.underlying41] at hv
  obtain ⟨cs, rfl, h2, -⟩ := hv
  rw [Tryz.cellsCh] at h2
  obtain ⟨l⟩ := cs
  obtain ⟨fuel, hf⟩ := h
  match l, h2 with
  | [c0, c1, c2, c3, c4, c5], _ =>
    obtain ⟨c, rfl, rfl, rfl, rfl, rfl, rfl, hj⟩ := ch6_of hf
    exact ⟨c, rfl, hj⟩
end Go.Proofs.YtnkjkaofgninnaaGreat
namespace Go.Proofs.YtnkjkaofgninnaaGreat
open Go.ChangeShapes Go.WideShapes Go.ChangeAt Go.RowKit Go.Deep
set_option maxRecDepth 100000
set_option linter.unusedVariables false

variable {H : Type} {enc : TypeId × Value → H} {w : World} {base : Nat} {spare : Nat → Bool} {held : Bool}
theorem Tryz.cellsBs : Tryz.prog.cellsOf 4 = 1 := by kernel_rfl
theorem Tryz.cellsSt : Tryz.prog.cellsOf 43 = 7 := by kernel_rfl
theorem choose_ltT {α : Type} [Inhabited α] {n : Nat} {P : Nat → α → Prop} (h : ∀ i, i < n → ∃ x, P i x) : ∃ f : Nat → α, ∀ i, i < n → P i (f i) :=
  Classical.axiomOfChoice (r := fun i x => i < n → P i x) fun i => by
    by_cases hi : i < n
    · obtain ⟨x, hx⟩ := h i hi; exact ⟨x, fun _ => hx⟩
    · exact ⟨default, fun hh => absurd hh hi⟩
theorem st7_of {n : Nat} {v0 v1 v2 v3 v4 v5 v6 : Value} {y : DataW H × List MemPlace} (h : DataW.trod enc Tryz.prog w base spare held n 43 [v0, v1, v2, v3, v4, v5, v6] = some y) : ∃ (c : ChD) (nr : Bool), v0 = .int .i64 c.k ∧ v1 = .int .i64 c.sh ∧ v2 = .int .i64 c.ot ∧ v3 = .int .i64 c.at' ∧ v4 = .int .i64 c.out ∧ v5 = .int .i64 c.in' ∧ v6 = .bool nr ∧ ChJ c := by
  obtain ⟨xs, k, hk, hxy, _, hxl, hf⟩ := DataW.trod_struct Tryz.underlying43 h
  match xs, hxl with
  | [y0, y1], _ =>
    have g0 := hf 0 _ rfl
    have g1 := hf 1 _ rfl
    simp [Tryz.cellsCh, Tryz.cellsBs] at g0 g1
    obtain ⟨c, e0, e1, e2, e3, e4, e5, hj⟩ := ch6_of g0
    obtain ⟨nr, hb, _⟩ := DataW.trod_bool Tryz.underlying4 g1
    exact ⟨c, nr, e0, e1, e2, e3, e4, e5, by simpa using hb, hj⟩
/-- A step by value. -/
theorem st_of {r : Reach} {b0 : Nat} {v : Value} {d : DataW H} {p : List MemPlace} (hv : Value.okWide Tryz.prog w r b0 43 v) (h : DataW.Trod enc Tryz.prog w base spare held 43 v d p) : ∃ x : ChD × Bool, v = .agg (stC x).toArray ∧ ChJ x.1 := by
  simp only [Value.okWide, Tryz.underlying43] at hv
  obtain ⟨cs, rfl, h2, -⟩ := hv
  rw [Tryz.cellsSt] at h2
  obtain ⟨l⟩ := cs
  obtain ⟨fuel, hf⟩ := h
  match l, h2 with
  | [c0, c1, c2, c3, c4, c5, c6], _ =>
    obtain ⟨c, nr, rfl, rfl, rfl, rfl, rfl, rfl, rfl, hj⟩ := st7_of hf
    exact ⟨(c, nr), rfl, hj⟩
/-- A slice of steps that came in. -/
theorem stps_of {n : Nat} {v : Value} {y : DataW H × List MemPlace} (h : DataW.trod enc Tryz.prog w base spare held n 22 [v] = some y) : ∃ l, Stps w v l ∧ ∀ x ∈ l, ChJ x.1 := by
  rcases DataW.trod_slice Tryz.underlying22 h with ⟨hcs, _⟩ | ⟨a, len, cap, elems, rest, n', _, hcs, _, hb, hl, hm, hlen, hel, _, _⟩
  · simp at hcs
    subst hcs
    exact ⟨[], ⟨none, 0, 0, rfl, rfl, Nat.le_refl _, by omega, (fun _ => rfl), (fun ad h => by cases h)⟩, by simp⟩
  · simp at hcs
    subst hcs
    have each : ∀ i, i < len → ∃ q : ChD × Bool, (∀ k u, (stC q)[k]? = some u → w.cell? (a.add (i * 7 + k)) = some u) ∧ ChJ q.1 := by
      intro i hi
      have h1 := hel i hi
      rw [List.getElem?_eq_getElem (by omega), Tryz.cellsSt] at h1
      obtain ⟨cs, h2, h3⟩ := Option.bind_eq_some_iff.1 h1
      obtain ⟨_, hcl, hcell⟩ := World.cells?_some h2
      match cs, hcl with
      | [v0, v1, v2, v3, v4, v5, v6], _ =>
        obtain ⟨c, nr, rfl, rfl, rfl, rfl, rfl, rfl, rfl, hj⟩ := st7_of h3
        refine ⟨(c, nr), fun k u hk => ?_, hj⟩
        have hk7 : k < 7 := (List.getElem?_eq_some_iff.1 hk).1
        have e := hcell k (by simpa using hk7)
        rw [Addr.add_add] at e
        rw [e]
        have : (stC (c, nr))[k]? = _ := hk
        unfold stC at this
        simpa using this
    haveI : Inhabited (ChD × Bool) := ⟨(⟨0, 0, 0, 0, 0, 0⟩, false)⟩
    obtain ⟨q, hq⟩ := choose_ltT each
    refine ⟨(List.range len).map q, ⟨some a, len, cap, rfl, by simp, hl, by unfold maxLen at hm; omega, (fun h => by cases h), fun ad had j hj => ?_⟩, ?_⟩
    · obtain rfl := Option.some.inj had
      have hj' : j < len := by simpa using hj
      simp only [List.getElem_map, List.getElem_range]
      exact (hq j hj').1
    · intro x hx
      simp only [List.mem_map, List.mem_range] at hx
      obtain ⟨i, hi, rfl⟩ := hx
      exact (hq i hi).2
end Go.Proofs.YtnkjkaofgninnaaGreat
namespace Go.Proofs.YtnkjkaofgninnaaGreat.atlasCodes
open Go.ChangeShapes Go.WideShapes Go.ChangeAt Go.RowKit
set_option linter.unusedVariables false

theorem own : ownKnob Tryz.prog.godebug = none := by kernel_rfl
theorem laidOut : laidOutB Tryz.prog = true := by kernel_rfl

set_option maxRecDepth 100000 in
set_option maxHeartbeats 1600000 in
theorem lifted (os : Os) (started : os.Started) (H : Type) (enc : TypeId × Value → H) :
    ReturnsInHanded {} Tryz.checked os 3 .any (Rows.atlasCodesSpec.pre6 enc Tryz.prog Tryz.f3 Rows.atlasCodesRow.domain false) (Rows.atlasCodesSpec.post enc Tryz.prog Tryz.f3 false true false false) := by
  refine returnsInHanded_of_change (C := Tryz.checked) own started (by kernel_rfl) Tryz.func3
    (ChangeSpec.witness6 (enc := enc) (C := Tryz.checked) false ⟨#[], #[.int .i64 0, .slice none 0 0], []⟩ 8 (by kernel_rfl) (by kernel_rfl) (by kernel_rfl) (by kernel_rfl)) ?_
  intro W base args ds gs before hval0 hW hcnd _
  have hval : ∀ (j : Nat) t v, Tryz.f3.params[j]? = some t → args[j]? = some v → Value.okWide Tryz.prog W .any base t v := hval0
  have hW' := hW
  obtain ⟨p, q, hA0, hV, rfl, hfz, hnd⟩ := hW
  have hA : DataW.TrodAll enc Tryz.prog W 0 (fun _ => true) true Tryz.f3.params.toList args.toList ds p := hA0
  rw [Tryz.params3] at hA hval
  obtain ⟨v0, vs0, d0, ds0, p0, q0, hargs, rfl, rfl, h0, r0⟩ := trodAll_cons hA
  obtain ⟨v1, vs1, d1, ds1, p1, q1, rfl, rfl, rfl, h1, r1⟩ := trodAll_cons r0
  obtain ⟨rfl, rfl, rfl⟩ := trodAll_nil r1
  obtain rfl : args = #[v0, v1] := by cases args; simp_all
  obtain ⟨rfl, rfl⟩ := trodVars_none hV
  have k0 := h0
  have lt0 : ∀ x ∈ p0, x.block < W.heap.size := by obtain ⟨m, hm⟩ := k0; exact DataW.trod_lt m _ _ _ hm
  obtain ⟨x0, rfl⟩ := okWide_int Tryz.underlying3 (hval 0 3 v0 rfl rfl)
  obtain ⟨f0, hf0⟩ := h0
  obtain ⟨z0, e0, -, w0⟩ := DataW.trod_int Tryz.underlying3 hf0
  simp [Value.cells] at e0
  subst e0
  have s0 : -9223372036854775808 ≤ x0 ∧ x0 ≤ 9223372036854775807 := by simpa [Lit.wf, IntKind.min, IntKind.max, IntKind.signed, IntKind.bits] using w0
  have k1 := h1
  have lt1 : ∀ x ∈ p1, x.block < W.heap.size := by obtain ⟨m, hm⟩ := k1; exact DataW.trod_lt m _ _ _ hm
  obtain ⟨a1, len1, cap1, rfl⟩ := okWide_slice Tryz.underlying22 (hval 1 22 v1 rfl rfl)
  obtain ⟨f1, hf1⟩ := h1
  obtain ⟨l1, H1, J1⟩ := stps_of hf1
  clear hA0 hval0
  refine (atlasCodes_any x0 l1 _ W H1 J1).mono fun e W' ⟨he, bel⟩ => ?_
  subst he
  have t0 := Below.trod laidOut (by kernel_rfl) (of_decide_eq_true (by kernel_rfl)) k0 bel lt0
  have t1 := Below.trod laidOut (by kernel_rfl) (of_decide_eq_true (by kernel_rfl)) k1 bel lt1
  have T := trodAll_cons_mk t0 (trodAll_cons_mk t1 trodAll_mk0)
  exact ⟨_, rfl, _, _, _, [], _, [], hW', trodAll_mk1 (shut_bool Tryz.underlying4 _), T, rfl, bel.frame _, fun h => by cases h⟩

theorem over : Rows.atlasCodesRow.holds Tryz.pinned (OpenSpec.ofChange Rows.atlasCodesSpec) :=
  OpenClaim.holds_of_wide 3 Tryz.f3 rfl rfl rfl rfl rfl rfl rfl ⟨rfl, rfl, rfl, rfl, rfl⟩ rfl rfl rfl rfl rfl (by kernel_rfl) Tryz.func3 (by kernel_rfl)
    (of_decide_eq_true (by kernel_rfl)) (by unfold Func.isWrapper; first | (rw [if_pos (by decide +kernel)]; kernel_rfl) | (rw [if_neg (by decide +kernel)]; exact ⟨rfl, rfl⟩))
    (fun os started H enc _ => lifted os started H enc)

theorem proved : Rows.AtlasCodesSaid := over
end Go.Proofs.YtnkjkaofgninnaaGreat.atlasCodes
namespace Go.Proofs.YtnkjkaofgninnaaGreat
/-- The statement. -/
theorem atlasCodes_holds : Rows.AtlasCodesSaid := atlasCodes.proved
end Go.Proofs.YtnkjkaofgninnaaGreat
