/- AtlasApart: what is handed out shares nothing with the map, a clone and its original go on apart, and a map that there isn't has nothing. No condition: for every input. -/
import Derived.Test.YtmocedkbabnpfaaGreatAtCopy
import Derived.Test.YtmocedkbabnpfaaGreatAtShards
import Derived.Test.YtmocedkbabnpfaaGreatSpEach
import Derived.Test.YtmocedkbabnpfaaGreatSpGet
import Derived.Lib.SliceRun
import Derived.Test.YtmocedkbabnpfaaGreatAtNew
import Derived.Test.YtmocedkbabnpfaaGreatAtMClone
import Derived.Test.YtmocedkbabnpfaaGreatAtRefuse
import Derived.Test.YtmocedkbabnpfaaGreatAtChJ
import Derived.Test.YtmocedkbabnpfaaGreatAtDo
import Derived.Test.YtmocedkbabnpfaaGreatAtBase
import Derived.ProofKit
import Derived.OpenShut
import Derived.ChangeOld
import Derived.Deep.SlicePairs
import Derived.Lib.SmallJoins
import Derived.Test.YtmocedkbabnpfaaGreatRows
import Derived.WalkKit
import Derived.ShutString
import Derived.Below
namespace Go.Proofs.YtmocedkbabnpfaaGreat
open Go.RowKit
set_option linter.unusedVariables false
set_option linter.unusedSimpArgs false

/-- A shard lies in rows of its own, all from a place on. -/
structure ShF (w : World) (B : Nat) (S : ShD) (mv pv : Value) : Prop where
  m : w.ownsRow B 3 1 mv S.mem.length (nvs S.mem)
  p : ∃ L : List OrX, L.map (·.o) = S.past ∧ w.ownsRow B 58 4 pv L.length (orvs L) ∧ ∀ x ∈ L, w.ownsRow B 3 1 x.mv x.o.mem.length (nvs x.o.mem)
theorem ShF.keep {w w' : World} {B : Nat} {S : ShD} {mv pv : Value} (h : ShF w B S mv pv) (hk : ∀ (q : Nat) (cs : Array Value) (t : TypeId) (fr : Nat × Nat), w.heap[q]? = some (.cells cs t fr) → (t = 3 ∨ t = 58) → w'.heap[q]? = w.heap[q]?) : ShF w' B S mv pv := by
  obtain ⟨L, h1, h2, h3⟩ := h.p
  exact ⟨own_kept h.m fun q cs _ hh => hk q cs _ _ hh (.inl rfl), L, h1, own_kept h2 fun q cs _ hh => hk q cs _ _ hh (.inr rfl), fun x hx => own_kept (h3 x hx) fun q cs _ hh => hk q cs _ _ hh (.inl rfl)⟩
theorem ShF.below {w w' : World} {B : Nat} {S : ShD} {mv pv : Value} (h : ShF w B S mv pv) (hb : Below w.heap.size w w') : ShF w' B S mv pv := h.keep fun q cs t fr hq _ => hb.block q (lt_of_block hq)
theorem ShF.lower {w : World} {B B' : Nat} {S : ShD} {mv pv : Value} (h : ShF w B S mv pv) (hb : B' ≤ B) : ShF w B' S mv pv := by
  obtain ⟨L, h1, h2, h3⟩ := h.p
  exact ⟨own_lower h.m hb, L, h1, own_lower h2 hb, fun x hx => own_lower (h3 x hx) hb⟩
theorem ShF.sh {w : World} {B : Nat} {S : ShD} {mv pv : Value} (h : ShF w B S mv pv) : ShM w S mv pv := by
  obtain ⟨L, h1, h2, h3⟩ := h.p
  exact ⟨own_lower h.m (Nat.zero_le _), L, h1, own_lower h2 (Nat.zero_le _), fun x hx => own_lower (h3 x hx) (Nat.zero_le _)⟩
set_option maxRecDepth 100000 in
set_option maxHeartbeats 4000000 in
theorem copyShardF_any (S : ShD) (mv pv : Value) (w : World) (h : ShM w S mv pv) (hm : S.mem.length ≤ 1000000) (hp : S.past.length ≤ 1000000) (hq : ∀ o ∈ S.past, o.mem.length ≤ 1000000) :
    Calls Tryz.prog 33 #[shV S mv pv] w fun e w' => ∃ mv' pv', e = .returned (shV S mv' pv') ∧ ShF w' w.heap.size S mv' pv' ∧ Below w.heap.size w w' := by
  obtain ⟨⟨mva, mvc, rfl⟩, ⟨pva, pvc, rfl⟩⟩ := h.shape
  obtain ⟨L, hL1, hL2, hL3⟩ := h.p
  have HLP := hid hL1
  have hLL : S.past.length = L.length := by rw [← hL1]; simp
  have HLL := hid hLL
  obtain ⟨w1, hw1⟩ : ∃ w1, w1 = (w.alloc (.cells (shC S (.slice mva S.mem.length mvc) (.slice pva S.past.length pvc)) 34)).alloc (.cells z5 34) := ⟨_, rfl⟩
  have B1 : Below w.heap.size w w1 := by rw [hw1]; exact ((Below.refl _ _).alloc (Nat.le_refl _) _).alloc (by simp) _
  have hA : w1.heap[w.heap.size]? = some (.cells (shC S (.slice mva S.mem.length mvc) (.slice pva S.past.length pvc)) 34 (0, 0)) := by
    rw [hw1, Below.heap_alloc _ _ _ (by simp)]; exact heap_alloc_new _ _
  have hR : w1.heap[w.heap.size + 1]? = some (.cells z5 34 (0, 0)) := by
    rw [hw1]; have := heap_alloc_new (w.alloc (.cells (shC S (.slice mva S.mem.length mvc) (.slice pva S.past.length pvc)) 34)) (.cells z5 34); simpa using this
  have I1 : Hid (CpI w w1 w.heap.size (w.heap.size + 1) S (.slice mva S.mem.length mvc) (.slice pva S.past.length pvc)) := hid ⟨hA, hR, B1, Nat.le_refl _, by omega, by omega⟩
  have M1 := hid (nums_own (own_below h.m B1) rfl)
  have P1 := hid (own_below hL2 B1)
  have E1 := hid (show Mems w1 L from fun x hx => own_below (hL3 x hx) B1)
  have HW1 := hid hw1
  have HSZ : Hid (w.heap.size ≤ w1.heap.size) := hid B1.size
  have HQ := hid hq
  have HP9 := hid hp
  clear hw1 hA hR B1 hL1 hL2 hL3 h hq hp hLL
  unfold z5 shC at HW1
  unfold shV
  go_enter Tryz.func33, Tryz.ntmps33
  go_upto_region 1 with fail
  rw [← HW1.out]
  clear HW1
  obtain ⟨R, hRe⟩ : ∃ R, R = w.heap.size + 1 := ⟨_, rfl⟩
  obtain ⟨A, hAe⟩ : ∃ A, A = w.heap.size := ⟨_, rfl⟩
  rw [← hRe]
  rw [← hAe]
  replace I1 : Hid (CpI w w1 A R S (.slice mva S.mem.length mvc) (.slice pva S.past.length pvc)) := hid (by rw [hRe, hAe]; exact I1.out)
  clear hRe hAe
  have c3 : w1.cell? ⟨A, 3, none⟩ = some (.slice mva S.mem.length mvc) := I1.out.cell 3
  go_upto_region 2 with (go_at_call 57; refine (cloneN_any _ _ _ M1.out (by omega)).mono ?_; rintro e w2 ⟨va2, vc2, rfl, ho2, hb2⟩; have I2 := hid (I1.out.below hb2); have O2 := hid ho2; have P2 := hid (own_below P1.out hb2); have E2 := hid (show Mems w2 L from fun x hx => own_below (E1.out x hx) hb2); have B2 := hid hb2; have d3 : w2.cell? ⟨A, 3, none⟩ = some (.slice mva S.mem.length mvc) := I2.out.cell 3; have f3 := I2.out.fz 3; clear ho2 hb2)
  have I3 := hid (I2.out.setM (v := .slice va2 S.mem.length vc2))
  have O3 := hid (own_set (i := 3) (u := .slice va2 S.mem.length vc2) O2.out I2.out.a (by decide))
  have P3 := hid (own_set (i := 3) (u := .slice va2 S.mem.length vc2) P2.out I2.out.a (by decide))
  have E3 := hid (show Mems (w2.setCell ⟨A, 3, none⟩ (.slice va2 S.mem.length vc2)) L from fun x hx => own_set (E2.out x hx) I2.out.a (by decide))
  have hs3 : w1.heap.size ≤ (w2.setCell ⟨A, 3, none⟩ (.slice va2 S.mem.length vc2)).heap.size := by simpa using B2.out.size
  generalize w2.setCell ⟨A, 3, none⟩ (.slice va2 S.mem.length vc2) = w3 at *
  clear c3 d3 f3 I1 I2 O2 P1 P2 E1 E2 M1 B2
  have c4 : w3.cell? ⟨A, 4, none⟩ = some (.slice pva S.past.length pvc) := I3.out.cell 4
  have HPL : Hid (w3.ownsRow 0 58 4 (.slice pva S.past.length pvc) L.length (orvs L)) := P3
  go_upto_region 3 with (go_at_call 79; refine (cloneO_any _ L _ HPL.out E3.out (by have := HP9.out; rw [HLL.out] at this; omega)).mono ?_; rintro e w4 ⟨va4, vc4, rfl, ho4, hb4⟩; have I4 := hid (I3.out.below hb4); have O4 := hid (own_below O3.out hb4); have P4 := hid ho4; have E4 := hid (show Mems w4 L from fun x hx => own_below (E3.out x hx) hb4); have d4 : w4.cell? ⟨A, 4, none⟩ = some (.slice pva S.past.length pvc) := I4.out.cell 4; have f4 := I4.out.fz 4; clear ho4 hb4)
  have I5 := hid (I4.out.setP (v := .slice va4 L.length vc4))
  have O5 := hid (own_set (i := 4) (u := .slice va4 L.length vc4) O4.out I4.out.a (by decide))
  have P5 := hid (own_lower (own_set (i := 4) (u := .slice va4 L.length vc4) P4.out I4.out.a (by decide)) (show w.heap.size ≤ w3.heap.size from I3.out.bel.size))
  have E5 := hid (show Mems (w4.setCell ⟨A, 4, none⟩ (.slice va4 L.length vc4)) L from fun x hx => own_set (E4.out x hx) I4.out.a (by decide))
  generalize w4.setCell ⟨A, 4, none⟩ (.slice va4 L.length vc4) = w5 at *
  clear c4 d4 f4 I3 I4 O3 O4 P3 P4 E3 E4 HPL hs3
  have c5 : w5.cell? ⟨A, 4, none⟩ = some (.slice va4 L.length vc4) := I5.out.cell 4
  go_wp2_with fail
  clear c5
  have hLb : (L.length : Int) ≤ 1000000 := by have := HP9.out; rw [HLL.out] at this; omega
  have hsz1 := HSZ.out
  go_loopw [3, 4, 16] (fun _ _ iv wr => ∃ (i : Nat) (J : List OrX), iv = .int .i64 i ∧ i ≤ L.length ∧ J.length = L.length ∧ J.map (·.o) = S.past ∧ CpI w wr A R S (.slice va2 S.mem.length vc2) (.slice va4 L.length vc4) ∧ wr.ownsRow w1.heap.size 3 1 (.slice va2 S.mem.length vc2) S.mem.length (nvs S.mem) ∧ wr.ownsRow w.heap.size 58 4 (.slice va4 L.length vc4) L.length (orvs J) ∧ Mems wr J ∧ (∀ k (hk : k < J.length), k < i → wr.ownsRow w.heap.size 3 1 J[k].mv J[k].o.mem.length (nvs J[k].o.mem))) (fun _ _ iv _ => L.length - (intOf iv).toNat)
  case atStart => exact ⟨0, L, rfl, Nat.zero_le _, rfl, HLP.out, I5.out, O5.out, P5.out, E5.out, fun k hk h => by omega⟩
  case round =>
    obtain ⟨i, J, rfl, hi, hKL, hK1, hI, hO, hP, hE, hFr⟩ := hrel
    have FR := hid hFr
    have IR := hid hI
    have OR := hid hO
    have PR := hid hP
    have ER := hid hE
    have HKL := hid hKL
    have HK1 := hid hK1
    clear hI hO hP hE hKL hK1 hFr I5 O5 P5 E5
    by_cases hlt : (i : Int) < (L.length : Int)
    · have hil : i < L.length := by omega
      have hik : i < J.length := by rw [HKL.out]; exact hil
      obtain ⟨g4, rfl⟩ : ∃ g, va4 = some ⟨g, 0, none⟩ := by
        obtain ⟨_, h2⟩ := PR.out
        rcases h2 with ⟨e, h0⟩ | ⟨g, cap, cur, e, -⟩
        · omega
        · cases e; exact ⟨g, rfl⟩
      have HRG := hid (own_range PR.out (i * 4) (orC J[i]) (orvs_part J i hik))
      have HM0 := hid (ER.out J[i] (List.getElem_mem hik))
      have HX0 : Hid (J[i].o ∈ S.past) := hid (by rw [← HK1.out]; exact List.mem_map_of_mem (List.getElem_mem hik))
      have HML := hid (HQ.out _ HX0.out)
      obtain ⟨xa, xc, hxe⟩ := own_shape HM0.out
      have HK2 : Hid (J[i] = ⟨J[i].o, J[i].mv⟩) := hid rfl
      generalize hOD : J[i].o = od at *
      rw [hxe] at HM0 HK2
      unfold orC at HRG
      rw [hxe, hOD] at HRG
      clear hxe HX0
      have HOD := hid hOD
      clear hOD
      go_upto_region 6 with (first | (refine wpl_loadO rfl _ rfl g4 (i * 4) (by go_simp) _ _ _ _ HRG.out ?_) | (refine wpl_newO (w3 := wr) rfl _ _ rfl _ _ _ _ rfl rfl rfl rfl rfl rfl rfl ?_; intro w6 hg6 hb6; have G6 := hid hg6; have I6 := hid (IR.out.below hb6); have P6 := hid (own_below PR.out hb6); have O6 := hid (own_below OR.out hb6); have E6 := hid (show Mems w6 J from fun x hx => own_below (ER.out x hx) hb6); have F6 := hid (show ∀ k (hk : k < J.length), k < i → w6.ownsRow w.heap.size 3 1 J[k].mv J[k].o.mem.length (nvs J[k].o.mem) from fun k hk h => own_below (FR.out k hk h) hb6); have MV := hid (own_below HM0.out hb6); have B6 := hid hb6; clear hg6 hb6))
      obtain ⟨B, hBe⟩ : ∃ B, B = wr.heap.size := ⟨_, rfl⟩
      rw [← hBe] at G6
      rw [← hBe]
      have TC := hid (own_cell P6.out (orvs_at J i hik).2.2.2)
      have hg4 : w.heap.size ≤ g4 ∧ g4 < B := by
        have h1 := (World.ownsRow.lt PR.out g4 rfl).1
        have h2 := (World.ownsRow.lt PR.out g4 rfl).2
        omega
      obtain ⟨cur, hcur⟩ := own_typed P6.out (q := g4) rfl
      have HCU := hid hcur
      have HG4 := hid hg4
      clear hBe hcur hg4
      rw [show J[i].mv = .slice xa od.mem.length xc from by rw [HK2.out]] at TC
      have SW : Hid (∀ Y, Below w6.heap.size w6 Y → Y.cell? ⟨A, 4, none⟩ = some (.slice (some ⟨g4, 0, none⟩) L.length vc4) ∧ Y.cell? ⟨B, 3, none⟩ = some (.slice xa od.mem.length xc)) := hid fun Y hY => by
        refine ⟨(I6.out.below hY).cell 4, ?_⟩
        rw [cell_of_row _ _ _ _ _ _ ((hY.block B (lt_of_block G6.out)).trans G6.out)]; rfl
      have SS : Hid (∀ Y, Below w6.heap.size w6 Y → ∀ v, (Y.setCell ⟨g4, i * 4 + 3, none⟩ v).cell? ⟨A, 4, none⟩ = some (.slice (some ⟨g4, 0, none⟩) L.length vc4) ∧ (Y.setCell ⟨g4, i * 4 + 3, none⟩ v).cell? ⟨B, 3, none⟩ = some (.slice xa od.mem.length xc)) := hid fun Y hY v => by
        have hA := (I6.out.below hY).a
        have hB := (hY.block B (lt_of_block G6.out)).trans G6.out
        have hC := (hY.block g4 (lt_of_block HCU.out)).trans HCU.out
        have n1 : A ≠ g4 := fun e => by rw [e, hC] at hA; cases hA
        have n2 : B ≠ g4 := by have := HG4.out; omega
        constructor
        · rw [cell_of_row _ _ _ _ _ _ ((Below.heap_setCell Y ⟨g4, i * 4 + 3, none⟩ v A n1).trans hA)]; rfl
        · rw [cell_of_row _ _ _ _ _ _ ((Below.heap_setCell Y ⟨g4, i * 4 + 3, none⟩ v B n2).trans hB)]; rfl
      refine wp_region_held_drew (S := fun Y => Y.cell? ⟨A, 4, none⟩ = some (.slice (some ⟨g4, 0, none⟩) L.length vc4) ∧ Y.cell? ⟨B, 3, none⟩ = some (.slice xa od.mem.length xc)) (by kernel_rfl) (SW.out _ ((Below.refl _ _).drew)) (fun hHeld => ?_)
      refine wpAnyH_take (i := 0) (v := ?pv0) rfl (by kernel_rfl) (by kernel_rfl) (by kernel_rfl) (fun _ _ _ h => h) (Or.inl ⟨by rfl, ?py0⟩) (by assumption) ?pr0
      case py0 => (intro w hSw; (try dsimp only at hSw); go_simp; try with_reducible rfl)
      (try simp only [Act.put, List.setIfInBounds_toArray, List.set_cons_zero, List.set_cons_succ, List.getElem_toArray, List.getElem_cons_succ, List.getElem_cons_zero])
      refine wpAnyH_take (i := 1) (v := ?pv1) rfl (by kernel_rfl) (by kernel_rfl) (by kernel_rfl) (fun _ _ _ h => h) (Or.inl ⟨by rfl, ?py1⟩) (by assumption) ?pr1
      case py1 => (intro w hSw; (try dsimp only at hSw); go_simp; try with_reducible rfl)
      (try simp only [Act.put, List.setIfInBounds_toArray, List.set_cons_zero, List.set_cons_succ, List.getElem_toArray, List.getElem_cons_succ, List.getElem_cons_zero])
      refine wpAnyH_take (i := 2) (v := ?pv2) rfl (by kernel_rfl) (by kernel_rfl) (by kernel_rfl) (fun _ _ _ h => h) (Or.inl ⟨by rfl, ?py2⟩) (by assumption) ?pr2
      case py2 => (intro w hSw; (try dsimp only at hSw); go_simp; try with_reducible rfl)
      (try simp only [Act.put, List.setIfInBounds_toArray, List.set_cons_zero, List.set_cons_succ, List.getElem_toArray, List.getElem_cons_succ, List.getElem_cons_zero])
      refine wpAnyH_take (i := 3) (v := ?pv3) rfl (by kernel_rfl) (by kernel_rfl) (by kernel_rfl) (fun _ _ _ h => h) (Or.inl ⟨by rfl, ?py3⟩) (by assumption) ?pr3
      case py3 => (intro w hSw; (try dsimp only at hSw); go_simp; try with_reducible rfl)
      (try simp only [Act.put, List.setIfInBounds_toArray, List.set_cons_zero, List.set_cons_succ, List.getElem_toArray, List.getElem_cons_succ, List.getElem_cons_zero])
      refine wpAnyH_take (i := 4) (v := ?pv4) rfl (by kernel_rfl) (by kernel_rfl) (by kernel_rfl) (fun _ _ _ h => h) (Or.inl ⟨by rfl, ?py4⟩) (by assumption) ?pr4
      case py4 => (intro w hSw; (try dsimp only at hSw); go_simp; try with_reducible rfl)
      (try simp only [Act.put, List.setIfInBounds_toArray, List.set_cons_zero, List.set_cons_succ, List.getElem_toArray, List.getElem_cons_succ, List.getElem_cons_zero])
      refine wpAnyH_ready (rs := [5]) (by kernel_rfl) (by simp) ?_
      refine AllReadyH.cons rfl (fun K hK => ?_) AllReadyH.nil
      rw [if_pos (by rfl)]
      go_wp2_with fail
      refine (cloneN_any _ _ _ (nums_own (own_below MV.out ((Below.refl _ _).drew)) rfl) (by have := HML.out; omega)).mono ?_
      rintro e w7 ⟨va7, vc7, rfl, ho7, hb7⟩
      have B7 := hid (((Below.refl w6.heap.size w6).drew).trans hb7)
      have O7 := hid ho7
      clear ho7 hb7
      refine hK.out _ _ (SW.out _ B7.out) (fun hHeld => ?_)
      try clear hK K
      (try simp only [Act.put, List.setIfInBounds_toArray, List.set_cons_zero, List.set_cons_succ, List.getElem_toArray, List.getElem_cons_succ, List.getElem_cons_zero])
      refine wpAnyH_take (i := 6) (v := ?pv6) rfl (by kernel_rfl) (by kernel_rfl) (by kernel_rfl) (fun _ _ _ h => h) (Or.inl ⟨by rfl, ?py6⟩) (by assumption) ?pr6
      case py6 => (intro w hSw; (try dsimp only at hSw); go_simp; try with_reducible rfl)
      (try simp only [Act.put, List.setIfInBounds_toArray, List.set_cons_zero, List.set_cons_succ, List.getElem_toArray, List.getElem_cons_succ, List.getElem_cons_zero])
      refine wpAnyH_take (i := 7) (v := ?pv7) rfl (by kernel_rfl) (by kernel_rfl) (by kernel_rfl) (fun _ _ _ h => h) (Or.inl ⟨by rfl, ?py7⟩) (by assumption) ?pr7
      case py7 => (intro w hSw; (try dsimp only at hSw); go_simp; try with_reducible rfl)
      (try simp only [Act.put, List.setIfInBounds_toArray, List.set_cons_zero, List.set_cons_succ, List.getElem_toArray, List.getElem_cons_succ, List.getElem_cons_zero])
      refine wpAnyH_ready (rs := [8]) (by kernel_rfl) (by simp) ?_
      refine AllReadyH.cons rfl (fun K hK => ?_) AllReadyH.nil
      rw [if_pos (by rfl)]
      have t1 := cell_later B7.out TC.out
      have t2 : w7.frozen? ⟨g4, i * 4 + 3, none⟩ = false := by
        have := own_below P6.out B7.out
        obtain ⟨cur, hc⟩ := own_typed this rfl
        exact frozen_of_row _ _ _ _ _ hc
      go_simp
      refine hK.out _ _ (SS.out _ B7.out _) (fun hHeld => ?_)
      clear t1 t2
      try clear hK K
      (try simp only [Act.put, List.setIfInBounds_toArray, List.set_cons_zero, List.set_cons_succ, List.getElem_toArray, List.getElem_cons_succ, List.getElem_cons_zero])
      refine wpAnyH_done (by kernel_rfl) ?_ _
      have I7 := hid (I6.out.below B7.out)
      have P7 := hid (own_below P6.out B7.out)
      have N7 := hid (own_below O6.out B7.out)
      have E7 := hid (show Mems w7 J from fun x hx => own_below (E6.out x hx) B7.out)
      have F7 := hid (show ∀ k (hk : k < J.length), k < i → w7.ownsRow w.heap.size 3 1 J[k].mv J[k].o.mem.length (nvs J[k].o.mem) from fun k hk h => own_below (F6.out k hk h) B7.out)
      have HB7w : Hid (w.heap.size ≤ w6.heap.size) := hid I6.out.bel.size
      have C7 := hid ((B7.out.block g4 (lt_of_block HCU.out)).trans HCU.out)
      have HREL : Hid (∃ J' : List OrX, J'.length = L.length ∧ J'.map (·.o) = S.past ∧ CpI w (w7.setCell ⟨g4, i * 4 + 3, none⟩ (.slice va7 od.mem.length vc7)) A R S (.slice va2 S.mem.length vc2) (.slice (some ⟨g4, 0, none⟩) L.length vc4) ∧ (w7.setCell ⟨g4, i * 4 + 3, none⟩ (.slice va7 od.mem.length vc7)).ownsRow w1.heap.size 3 1 (.slice va2 S.mem.length vc2) S.mem.length (nvs S.mem) ∧ (w7.setCell ⟨g4, i * 4 + 3, none⟩ (.slice va7 od.mem.length vc7)).ownsRow w.heap.size 58 4 (.slice (some ⟨g4, 0, none⟩) L.length vc4) L.length (orvs J') ∧ Mems (w7.setCell ⟨g4, i * 4 + 3, none⟩ (.slice va7 od.mem.length vc7)) J' ∧ (∀ k (hk : k < J'.length), k < i + 1 → (w7.setCell ⟨g4, i * 4 + 3, none⟩ (.slice va7 od.mem.length vc7)).ownsRow w.heap.size 3 1 J'[k].mv J'[k].o.mem.length (nvs J'[k].o.mem))) := hid (by
        refine ⟨J.set i { J[i] with mv := .slice va7 od.mem.length vc7 }, by rw [List.length_set]; exact HKL.out, ?_, ?_, own_set N7.out C7.out (by decide), ?_, ?_, ?_⟩
        · rw [List.map_set, ← HK1.out]
          apply List.ext_getElem (by simp)
          intro k h1 h2
          rw [List.getElem_set]
          split
          · next e => subst e; simp
          · rfl
        · have hA := I7.out.a
          have hR := I7.out.r
          have n1 : A ≠ g4 := fun e => by rw [e, C7.out] at hA; cases hA
          have n2 : R ≠ g4 := fun e => by rw [e, C7.out] at hR; cases hR
          exact ⟨(Below.heap_setCell _ _ _ _ n1).trans hA, (Below.heap_setCell _ _ _ _ n2).trans hR, below_set I7.out.bel HG4.out.1, I7.out.pa, I7.out.pr, I7.out.ne⟩
        · have := own_put (i := i * 4 + 3) (u := .slice va7 od.mem.length vc7) P7.out (by omega)
          rw [orvs_set J i hik] at this
          exact this
        · intro x hx
          rcases List.mem_or_eq_of_mem_set hx with hx | rfl
          · exact own_set (E7.out x hx) C7.out (by decide)
          · show World.ownsRow _ 0 _ 1 _ J[i].o.mem.length (nvs J[i].o.mem)
            rw [HOD.out]
            exact own_set (own_lower O7.out (Nat.zero_le _)) C7.out (by decide)
        · intro k hk hk1
          have hkl : k < J.length := by simpa using hk
          rcases Nat.lt_or_ge k i with h1 | h1
          · have e : (J.set i { J[i] with mv := .slice va7 od.mem.length vc7 })[k] = J[k] := by rw [List.getElem_set_ne (by omega)]
            rw [e]
            exact own_set (F7.out k hkl h1) C7.out (by decide)
          · obtain rfl : k = i := by omega
            have e : (J.set k { J[k] with mv := .slice va7 od.mem.length vc7 })[k] = { J[k] with mv := .slice va7 od.mem.length vc7 } := by rw [List.getElem_set_self]
            rw [e]
            show World.ownsRow _ _ _ 1 _ J[k].o.mem.length (nvs J[k].o.mem)
            rw [HOD.out]
            exact own_set (own_lower O7.out HB7w.out) C7.out (by decide))
      generalize w7.setCell ⟨g4, i * 4 + 3, none⟩ (.slice va7 od.mem.length vc7) = w8 at *
      go_wp2_with fail
      go_roundw
      case rel => exact ⟨i + 1, HREL.out.choose, by go_num, by omega, HREL.out.choose_spec⟩
      case measure => simp [intOf]; omega
    · have hiL : i = L.length := by omega
      have hA := IR.out.a
      have hR := IR.out.r
      have HF : Hid (∃ X, X = wr.setRow R (shC S (.slice va2 S.mem.length vc2) (.slice va4 L.length vc4)) ∧ X.heap[R]? = some (.cells (shC S (.slice va2 S.mem.length vc2) (.slice va4 L.length vc4)) 34 (0, 0)) ∧ ShF X w.heap.size S (.slice va2 S.mem.length vc2) (.slice va4 L.length vc4) ∧ Below w.heap.size w X) := hid (by
        have hk : ∀ E sz n v xs B, E ≠ 34 → w.heap.size ≤ B → wr.ownsRow B E sz v n xs → (wr.setRow R (shC S (.slice va2 S.mem.length vc2) (.slice va4 L.length vc4))).ownsRow w.heap.size E sz v n xs := fun E sz n v xs B hE hB ho => own_lower (own_kept ho fun q cs hq hh => setRow_other _ _ _ _ fun e => by rw [e, hR] at hh; cases hh; exact hE rfl) hB
        refine ⟨_, rfl, setRow_heap _ _ _ _ _ _ hR, ⟨hk _ _ _ _ _ _ (by decide) hsz1 OR.out, J, HK1.out, ?_, fun x hx => ?_⟩, below_row IR.out.bel IR.out.pr _⟩
        · have := hk _ _ _ _ _ _ (by decide) (Nat.le_refl _) PR.out
          rw [HKL.out]
          exact this
        · obtain ⟨k, hkk, rfl⟩ := List.mem_iff_getElem.1 hx
          exact hk _ _ _ _ _ _ (by decide) (Nat.le_refl _) (FR.out k hkk (by rw [HKL.out] at hkk; omega)))
      unfold shC at hA
      unfold z5 at hR
      go_wp2_with (first | (refine wpl_loadH rfl _ rfl A rfl _ _ _ rfl hA ?_) | (refine wpl_storeH rfl _ _ rfl R _ _ _ _ _ rfl rfl rfl rfl rfl rfl rfl _ _ rfl hR ?_))
      (try simp only [Exit.inBlock, Exit.then])
      obtain ⟨X, hX, h1, h2, h3⟩ := HF.out
      unfold shC at hX h1
      rw [← hX]
      refine bodyPost_ret (results_sh rfl _ _ R _ _ _ rfl rfl h1) rfl ?_
      exact ⟨_, _, rfl, h2, h3⟩
end Go.Proofs.YtmocedkbabnpfaaGreat
namespace Go.Proofs.YtmocedkbabnpfaaGreat
open Go.RowKit Go.Maps Go.Shelf
set_option linter.unusedVariables false
set_option linter.unusedSimpArgs false

structure SIF (w5 : World) (B3 : Nat) (X : List SX) (pre : List Pc) (W : World) : Prop where
  grown : w5.grownBy W (some B3)
  row : ∃ (Y : List SX) (va : Option Addr) (vc : Nat), Y.map (·.s) = pre.map (fS X) ∧ W.heap[B3]? = some (.cells #[.slice va Y.length vc] 55 (0, 0)) ∧ W.ownsRow w5.heap.size 34 5 (.slice va Y.length vc) Y.length (shvs Y) ∧ ∀ y ∈ Y, ShF W w5.heap.size y.s y.mv y.pv
theorem SIF.turned {w5 U V : World} {B3 : Nat} {X : List SX} {pre : List Pc} {row : Option Nat} (h : SIF w5 B3 X pre U) (hg : U.grownBy V row) (hr : ∀ r, row = some r → w5.heap.size ≤ r ∧ ∃ o : Obj, U.heap[r]? = some o ∧ o.isCells = false) : SIF w5 B3 X pre V := by
  obtain ⟨Y, va, vc, h1, h2, h3, h4⟩ := h.row
  have hk : ∀ (q : Nat) (cs : Array Value) (t : TypeId) (fr : Nat × Nat), U.heap[q]? = some (.cells cs t fr) → V.heap[q]? = U.heap[q]? := fun q cs t fr hq => (cells_turnedP hq hg fun r e => (hr r e).2).trans hq.symm
  exact ⟨h.grown.andThen hg fun j e => .inl (hr j e).1, Y, va, vc, h1, (hk _ _ _ _ h2).trans h2, own_kept h3 fun q cs _ hh => hk q cs _ _ hh, fun y hy => (h4 y hy).keep fun q cs t fr hq _ => hk q cs t fr hq⟩
/-- What Shards leaves. -/
def ShPF (X : List SX) (w : World) (e : Ending) (w' : World) : Prop := ∃ (Y : List SX) (va : Option Addr) (vc : Nat), e = .returned (.slice va Y.length vc) ∧ Y.map (·.s) = X.map (·.s) ∧ w'.ownsRow w.heap.size 34 5 (.slice va Y.length vc) Y.length (shvs Y) ∧ (∀ y ∈ Y, ShF w' w.heap.size y.s y.mv y.pv) ∧ Below w.heap.size w w'
set_option maxRecDepth 100000 in
set_option maxHeartbeats 8000000 in
theorem shardsF_any (b wb mb n : Nat) (ov : Value) (D : DataW Value) (N : AtN) (X : List SX) (w : World) (h : At w b wb mb n ov D N X) (hX : ∀ x ∈ X, ShB x.s) (hI : ∀ x ∈ X, I64 x.s.id) (hd : ∀ x ∈ X, ∀ y ∈ X, y.s.id = x.s.id → y = x) (hl : X.length ≤ 100000) :
    Calls Tryz.prog 19 #[.pointer (some ⟨b, 0, none⟩)] w (ShPF X w) := by
  have hnil : ∀ (B : Nat) (W : World), (binOp BinOp.eql 68 (.func (.func 72) #[] #[.pointer (some ⟨B, 0, none⟩)]) .nilFunc).run Tryz.prog W = .ok (.bool false) W := fun _ _ => by kernel_rfl
  obtain ⟨w1, hw1⟩ : ∃ w1, w1 = (w.alloc (.cells #[.pointer (some ⟨b, 0, none⟩)] 25)).alloc (.cells #[.slice none 0 0] 55) := ⟨_, rfl⟩
  obtain ⟨hA, hB⟩ := heap_two w (.cells #[.pointer (some ⟨b, 0, none⟩)] 25) (.cells #[.slice none 0 0] 55)
  rw [← hw1] at hA hB
  have B1 : Hid (Below w.heap.size w w1) := hid (by rw [hw1]; exact ((Below.refl _ _).alloc (Nat.le_refl _) _).alloc (by simp) _)
  have hs1 : w1.heap.size = w.heap.size + 2 := by rw [hw1]; simp
  have HW1 := hid hw1
  have H1 := hid (h.below B1.out)
  have HX := hid hX
  have HI := hid hI
  have HD := hid hd
  clear h hX hI hd hw1
  refine (callsIn_wide (n := 3)).1 ?_
  refine callsIn_of_wp_marks Tryz.func19 rfl trivial ?_ rfl
  simp only [Tryz.ntmps19, List.size_toArray, List.length_cons, List.length_nil, Nat.reduceAdd, Nat.reduceSub, Array.replicate_succ, Array.replicate_zero, List.push_toArray, List.append_toArray, List.nil_append, List.cons_append]
  refine wpIn_wide.2 ?_
  have a0 : (w.alloc (.cells #[.pointer (some ⟨b, 0, none⟩)] 25)).cell? ⟨w.heap.size, 0, none⟩ = some (.pointer (some ⟨b, 0, none⟩)) := by rw [cell_of_row _ _ _ _ _ _ (heap_alloc_new _ _)]; rfl
  go_upto_region 4 with fail
  rw [← HW1.out]
  clear HW1 a0
  have a1 : w1.cell? ⟨w.heap.size, 0, none⟩ = some (.pointer (some ⟨b, 0, none⟩)) := by rw [cell_of_row _ _ _ _ _ _ hA]; rfl
  have c4 : w1.cell? ⟨b, 4, none⟩ = some (.pointer (some ⟨wb, 0, none⟩)) := H1.out.m.cell 4
  obtain ⟨A1, hA1e⟩ : ∃ A, A = w.heap.size := ⟨_, rfl⟩
  obtain ⟨B3, hB3e⟩ : ∃ B, B = w.heap.size + 1 := ⟨_, rfl⟩
  rw [← hA1e] at hA a1
  rw [← hB3e] at hB
  rw [← hB3e, ← hA1e]
  have HA1 := hid hA
  have HB3 := hid hB
  have HBW : Hid (w.heap.size ≤ B3) := hid (by omega)
  clear hA hB hA1e hB3e hs1
  go_wp2_with (go_at_call 29; refine (each_any wb _).mono ?_; rintro e w5 ⟨rfl, hw5⟩; have W5 := hid hw5; clear hw5)
  have hb5 : Below w1.heap.size w1 w5 := by rw [W5.out]; exact (Below.refl _ _).alloc (Nat.le_refl _) _
  have hE5 : w5.heap[w1.heap.size]? = some (.cells #[.pointer (some ⟨wb, 0, none⟩)] 69 (0, 0)) := by rw [W5.out]; exact heap_alloc_new _ _
  have A5 := hid (H1.out.below hb5)
  have BW5 := hid (B1.out.trans (hb5.mono B1.out.size))
  have HB5 := hid ((hb5.block B3 (lt_of_block HB3.out)).trans HB3.out)
  have HA5 := hid ((hb5.block A1 (lt_of_block HA1.out)).trans HA1.out)
  have hBlt : B3 < w5.heap.size := lt_of_block HB5.out
  obtain ⟨E5, hE5e⟩ : ∃ E, E = w1.heap.size := ⟨_, rfl⟩
  rw [← hE5e] at hE5
  rw [← hE5e]
  clear hb5 W5 hE5e HA1 HB3 H1 a1 c4 B1
  obtain ⟨ra, rc, hMr, hRow⟩ := A5.out.m.whr.at'
  obtain ⟨P, hPe⟩ : ∃ P, P = X.map SX.pc := ⟨_, rfl⟩
  rw [← hPe] at hMr hRow
  have HPE := hid hPe
  have hPl : P.length ≤ 1000000 := by rw [hPe, List.length_map]; omega
  clear hPe
  have hheld := (hRow.held 0 P.length (Nat.zero_le _) (Nat.le_refl _)).2
  simp only [List.take_length, List.drop_zero] at hheld
  have hsl : sliceP ra 0 P.length rc = .slice ra P.length rc := by cases ra <;> simp [sliceP, Addr.add]
  rw [hsl] at hheld
  have hrk : ∀ k, (Value.slice ra P.length rc).ownBlock = some k → k < w5.heap.size := fun k hk => hRow.lt k hk
  have HRT0 : Hid (∀ k, (Value.slice ra P.length rc).ownBlock = some k → ∃ cs fr, w5.heap[k]? = some (.cells cs 129 fr)) := hid fun k hk => by obtain ⟨cur, hc⟩ := own_typed hRow hk; exact ⟨cur, _, hc⟩
  clear hRow hsl
  refine (wpIn_wide (n := 3)).1 ?_
  refine wpIn_rangeFunc_ownH (F := Fence.wide) rfl (by omega) (gf := 72) (lb := #[.pointer (some ⟨E5, 0, none⟩)]) rfl trivial (enters_of Tryz.func72 (by kernel_rfl) rfl)
    (eachA_stops _ (by omega) E5 wb (.slice ra P.length rc) P (by omega) w5 hE5 hMr hheld) KeptR.trans ?keptb (Below.refl _ _) (fun _ => rfl)
    (fun pre W => SIF w5 B3 X (pre.map (·.1)) W)
    (fun _ _ _ => False) ?hI (fun _ _ _ _ _ h _ _ => h) ⟨World.grownBy.refl _ _, [], none, 0, rfl, HB5.out, World.ownsRow_nil _ _ _ _, by simp⟩
    (AtG ?Fr)
    (fun _ _ _ _ _ _ h _ _ => h) ?assign ?body ?done (fun _ _ _ _ _ _ h _ => h.elim)
  case keptb =>
    intro W y o o' hy ho _ _ k hk
    have h1 := hrk k hk
    have h2 := lt_of_block ho
    refine (grownBy_putObj' W y o').block k (by omega) fun e => ?_
    have h3 : k = y := by simpa using e
    omega
  case hI =>
    intro s U V row h hg hr
    exact h.turned hg hr
  case assign =>
    intro y pre x W K h hK
    unfold eachV
    gi_wp2
    rw [Oper.semAt_some _ _ _ (by intro c hc; cases hc)]
    simp only [execOp, Act.eval, Sem.run_pure, Oper.uponIn]
    gi_wp2
    refine hK _ _ (KeepsFrom.refl _ _) (fun _ _ => rfl) h ?ax
    case ax =>
      clear hK
      show _ = _
      with_reducible rfl
  case body =>
    rintro y pre ⟨p, hp⟩ a' W hy _ hSI hfr hlt'
    obtain rfl : a' = _ := hfr
    obtain ⟨x, hx, rfl⟩ := List.mem_map.1 (show p ∈ X.map SX.pc by rw [← HPE.out]; exact hp)
    obtain ⟨Y, va, vc, hYS, hBR, hOR, hYM⟩ := hSI.row
    have HSI := hid hSI
    have HYS := hid hYS
    have HBR := hid hBR
    have OR := hid hOR
    have HYM := hid hYM
    have hYl : Y.length ≤ 100000 := by
      have e := congrArg List.length hYS
      rw [List.length_map, List.length_map, List.length_map] at e
      have h2 : P.length = X.length := by rw [HPE.out, List.length_map]
      have h3 : pre.length < P.length := hlt'
      omega
    have HSG : Hid (w5.heap.size ≤ W.heap.size) := hid hSI.grown.size
    have AW : Hid (AtM W b wb mb n ov D N (X.map SX.pc) X) := hid (A5.out.m.keep (fun q cs t fr hq h1 h2 => hSI.grown.block q (lt_of_block hq) (fun e => by cases e; rw [HB5.out] at hq; cases hq; exact h1 rfl)) (hSI.grown.block mb A5.out.m.own.lt (fun e => by cases e; obtain ⟨es, clock, hm, -⟩ := A5.out.m.own; rw [HB5.out] at hm; cases hm)))
    have HAW : Hid (W.heap[A1]? = some (.cells #[.pointer (some ⟨b, 0, none⟩)] 25 (0, 0))) := hid ((hSI.grown.block A1 (lt_of_block HA5.out) (fun e => by cases e; have h5 := HA5.out; rw [HB5.out] at h5; cases h5)).trans HA5.out)
    have HRT : Hid (∀ k, (Value.slice ra P.length rc).ownBlock = some k → ∃ cs fr, W.heap[k]? = some (.cells cs 129 fr)) := hid fun k hk => by
      obtain ⟨cs, fr, h5⟩ := HRT0.out k hk
      exact ⟨cs, fr, (hSI.grown.block k (lt_of_block h5) (fun e => by cases e; rw [HB5.out] at h5; cases h5)).trans h5⟩
    have HFS := hid (fS_of X x hx (HD.out x hx))
    have HLX := hid (fun (Z : World) (hZ : AtM Z b wb mb n ov D N (X.map SX.pc) X) => hZ.lookX x hx (HI.out x hx) (HD.out x hx))
    have HSX := hid (AW.out.mem x hx)
    have HBX := hid (HX.out x hx)
    obtain ⟨T, mvx, pvx⟩ := x
    obtain ⟨⟨max, mcx, e1⟩, ⟨pax, pcx, e2⟩⟩ := HSX.out.shape
    simp only at e1 e2
    subst e1 e2
    have HCP := hid (fun Z (hZ : Below W.heap.size W Z) => copyShardF_any T _ _ Z (show ShM Z T (.slice max T.mem.length mcx) (.slice pax T.past.length pcx) from HSX.out.below hZ) HBX.out.m HBX.out.p HBX.out.q)
    have c3 : W.drew.cell? ⟨B3, 0, none⟩ = some (.slice va Y.length vc) := by show W.cell? _ = _; rw [cell_of_row _ _ _ _ _ _ hBR]; rfl
    have SK : Hid (∀ Z, (∀ (q : Nat) (cs : Array Value) (t : TypeId) (fr : Nat × Nat), W.heap[q]? = some (.cells cs t fr) → t ≠ 55 → t ≠ 34 → Z.heap[q]? = W.heap[q]?) → Z.heap[mb]? = W.heap[mb]? → Z.cell? ⟨A1, 0, none⟩ = some (.pointer (some ⟨b, 0, none⟩)) ∧ Z.cell? ⟨b, 5, none⟩ = some (.map (some mb)) ∧ (Instr.lookup 70 (.map (some mb)) (.int .i64 T.id) false).run Tryz.prog Z = .ok (shV T (.slice max T.mem.length mcx) (.slice pax T.past.length pcx)) Z) := hid fun Z h1 h2 =>
      ⟨by rw [cell_of_row _ _ _ _ _ _ ((h1 _ _ _ _ HAW.out (by decide) (by decide)).trans HAW.out)]; rfl, (AW.out.keep h1 h2).cell 5, HLX.out Z (AW.out.keep h1 h2)⟩
    have SB : Hid (∀ Z, Below W.heap.size W Z → Z.cell? ⟨A1, 0, none⟩ = some (.pointer (some ⟨b, 0, none⟩)) ∧ Z.cell? ⟨b, 5, none⟩ = some (.map (some mb)) ∧ (Instr.lookup 70 (.map (some mb)) (.int .i64 T.id) false).run Tryz.prog Z = .ok (shV T (.slice max T.mem.length mcx) (.slice pax T.past.length pcx)) Z) := hid fun Z hZ => SK.out Z (fun q cs t fr hq _ _ => hZ.block q (lt_of_block hq)) (hZ.block mb AW.out.own.lt)
    clear hSI hYS hBR hOR hYM hx
    simp only [SX.pc, ShD.pc]
    gi_wp2
    refine region_held_round (S := fun Z => Z.cell? ⟨A1, 0, none⟩ = some (.pointer (some ⟨b, 0, none⟩)) ∧ Z.cell? ⟨b, 5, none⟩ = some (.map (some mb)) ∧ (Instr.lookup 70 (.map (some mb)) (.int .i64 T.id) false).run Tryz.prog Z = .ok (shV T (.slice max T.mem.length mcx) (.slice pax T.past.length pcx)) Z) y (by rintro ⟨_, _, h⟩; exact h) (by kernel_rfl) (by kernel_rfl) (SB.out _ ((Below.refl _ _).drew)) (fun hHeld => ?_)
    refine wpAnyH_take (i := 1) (v := ?rv1) rfl (by kernel_rfl) (by kernel_rfl) (by kernel_rfl) (fun _ _ _ h => h) (Or.inl ⟨by rfl, ?ry1⟩) (by assumption) ?rr1
    case ry1 => (intro w hSw; (try dsimp only at hSw); go_simp; try with_reducible rfl)
    (try simp only [Act.put, List.setIfInBounds_toArray, List.set_cons_zero, List.set_cons_succ, List.getElem_toArray, List.getElem_cons_succ, List.getElem_cons_zero])
    refine wpAnyH_take (i := 2) (v := ?rv2) rfl (by kernel_rfl) (by kernel_rfl) (by kernel_rfl) (fun _ _ _ h => h) (Or.inl ⟨by rfl, ?ry2⟩) (by assumption) ?rr2
    case ry2 => (intro w hSw; (try dsimp only at hSw); go_simp; try with_reducible rfl)
    (try simp only [Act.put, List.setIfInBounds_toArray, List.set_cons_zero, List.set_cons_succ, List.getElem_toArray, List.getElem_cons_succ, List.getElem_cons_zero])
    refine wpAnyH_take (i := 3) (v := ?rv3) rfl (by kernel_rfl) (by kernel_rfl) (by kernel_rfl) (fun _ _ _ h => h) (Or.inl ⟨by rfl, ?ry3⟩) (by assumption) ?rr3
    case ry3 => (intro w hSw; (try dsimp only at hSw); go_simp; try with_reducible rfl)
    (try simp only [Act.put, List.setIfInBounds_toArray, List.set_cons_zero, List.set_cons_succ, List.getElem_toArray, List.getElem_cons_succ, List.getElem_cons_zero])
    refine wpAnyH_take (i := 4) (v := ?rv4) rfl (by kernel_rfl) (by kernel_rfl) (by kernel_rfl) (fun _ _ _ h => h) (Or.inl ⟨by rfl, ?ry4⟩) (by assumption) ?rr4
    case ry4 => (intro w hSw; (try dsimp only at hSw); go_simp; try with_reducible rfl)
    (try simp only [Act.put, List.setIfInBounds_toArray, List.set_cons_zero, List.set_cons_succ, List.getElem_toArray, List.getElem_cons_succ, List.getElem_cons_zero])
    refine wpAnyH_take (i := 5) (v := ?rv5) rfl (by kernel_rfl) (by kernel_rfl) (by kernel_rfl) (fun _ _ _ h => h) (Or.inl ⟨by rfl, ?ry5⟩) (by assumption) ?rr5
    case ry5 => (intro w hSw; (try dsimp only at hSw); go_simp; try with_reducible rfl)
    (try simp only [Act.put, List.setIfInBounds_toArray, List.set_cons_zero, List.set_cons_succ, List.getElem_toArray, List.getElem_cons_succ, List.getElem_cons_zero])
    refine wpAnyH_take (i := 6) (v := shV T (.slice max T.mem.length mcx) (.slice pax T.past.length pcx)) rfl (by kernel_rfl) (by kernel_rfl) (by kernel_rfl) (fun _ _ _ h => h) (Or.inl ⟨by rfl, ?ry6⟩) (by assumption) ?rr6
    case ry6 =>
      intro Z hZ
      exact exec_lookF rfl rfl rfl hZ.2.2
    (try simp only [Act.put, List.setIfInBounds_toArray, List.set_cons_zero, List.set_cons_succ, List.getElem_toArray, List.getElem_cons_succ, List.getElem_cons_zero])
    refine wpAnyH_ready (rs := [0, 7]) (by kernel_rfl) (by simp) ?_
    refine AllReadyH.cons rfl (fun K hK => ?_) (AllReadyH.cons rfl (fun K hK => ?_) AllReadyH.nil)
    · skip
      rw [if_pos (by rfl)]
      go_simp
      refine hK.out _ _ hHeld (fun hHeld => ?_)
      clear hK K
      (try simp only [Act.put, List.setIfInBounds_toArray, List.set_cons_zero, List.set_cons_succ, List.getElem_toArray, List.getElem_cons_succ, List.getElem_cons_zero])
      refine wpAnyH_ready (rs := [7]) (by kernel_rfl) (by simp) ?_
      refine AllReadyH.cons rfl (fun K hK => ?_) AllReadyH.nil
      rw [if_pos (by rfl)]
      go_wp2_with fail
      refine (HCP.out _ ((Below.refl _ _).drew)).mono ?_
      rintro e w7 ⟨mv7, pv7, rfl, hs7, hb7⟩
      obtain ⟨⟨ma3, mc3, rfl⟩, ⟨pa3, pc3, rfl⟩⟩ := hs7.sh.shape
      have S7 := hid hs7
      have B7 : Hid (Below W.heap.size W w7) := hid (((Below.refl W.heap.size W).drew).trans hb7)
      have c3b := cell_later B7.out c3
      have c3c : ((w7.alloc (.cells #[.int .i64 T.id, .int .i64 T.fr, .int .i64 T.to, .slice ma3 T.mem.length mc3, .slice pa3 T.past.length pc3] 34)).drew).cell? ⟨B3, 0, none⟩ = some (.slice va Y.length vc) := cell_later (((Below.refl _ _).alloc (Nat.le_refl w7.heap.size) _).drew) c3b
      have c3d : (w7.alloc (.cells #[.int .i64 T.id, .int .i64 T.fr, .int .i64 T.to, .slice ma3 T.mem.length mc3, .slice pa3 T.past.length pc3] 34)).cell? ⟨B3, 0, none⟩ = some (.slice va Y.length vc) := c3c
      clear hs7 hb7
      refine hK.out _ _ (SB.out _ B7.out) (fun hHeld => ?_)
      clear hK K
      unfold shV
      (try simp only [Act.put, List.setIfInBounds_toArray, List.set_cons_zero, List.set_cons_succ, List.getElem_toArray, List.getElem_cons_succ, List.getElem_cons_zero])
      refine wpAnyH_ready (rs := [8]) (by kernel_rfl) (by simp) ?_
      refine AllReadyH.cons rfl (fun K hK => ?_) AllReadyH.nil
      rw [if_pos (by rfl)]
      go_simp
      refine hK.out _ _ (SB.out _ (B7.out.alloc B7.out.size _)) (fun hHeld => ?_)
      clear hK K
      (try simp only [Act.put, List.setIfInBounds_toArray, List.set_cons_zero, List.set_cons_succ, List.getElem_toArray, List.getElem_cons_succ, List.getElem_cons_zero])
      clear c3 c3b c3c c3d
      have B8 : Hid (Below W.heap.size W (w7.alloc (.cells #[.int .i64 T.id, .int .i64 T.fr, .int .i64 T.to, .slice ma3 T.mem.length mc3, .slice pa3 T.past.length pc3] 34))) := hid (B7.out.alloc B7.out.size _)
      have O8 := hid (own_below OR.out B8.out)
      have Y8 : Hid (∀ j u, (SX.c ⟨T, .slice ma3 T.mem.length mc3, .slice pa3 T.past.length pc3⟩)[j]? = some u → (w7.alloc (.cells #[.int .i64 T.id, .int .i64 T.fr, .int .i64 T.to, .slice ma3 T.mem.length mc3, .slice pa3 T.past.length pc3] 34)).cell? ⟨w7.heap.size, j, none⟩ = some u) := hid fun j u hj => by
        rw [cell_of_row _ _ _ _ _ _ (heap_alloc_new _ _)]; unfold SX.c at hj; simpa using hj
      have S8 := hid (S7.out.below ((Below.refl w7.heap.size w7).alloc (Nat.le_refl _) (.cells #[.int .i64 T.id, .int .i64 T.fr, .int .i64 T.to, .slice ma3 T.mem.length mc3, .slice pa3 T.past.length pc3] 34)))
      refine wpAnyH_ready (rs := [9]) (by kernel_rfl) (by simp) ?_
      refine AllReadyH.cons rfl (fun K hK => ?_) AllReadyH.nil
      rw [if_pos (by rfl)]
      refine wp_app rowSh _ _ rfl w5.heap.size (.slice va Y.length vc) Y.length (shvs Y) rfl O8.out w7.heap.size 1 1 (SX.c ⟨T, .slice ma3 T.mem.length mc3, .slice pa3 T.past.length pc3⟩) rfl rfl Y8.out (by simp [SX.c, Value.oneCell']) (by omega) (Nat.le_trans HSG.out B8.out.size) ?_
      generalize w7.alloc (.cells #[.int .i64 T.id, .int .i64 T.fr, .int .i64 T.to, .slice ma3 T.mem.length mc3, .slice pa3 T.past.length pc3] 34) = w8 at *
      intro va9 vc9 w9 ho9 hg9
      have hkp : ∀ (q : Nat) (cs : Array Value) (t : TypeId) (fr : Nat × Nat), W.heap[q]? = some (.cells cs t fr) → t ≠ 34 → w9.heap[q]? = W.heap[q]? := fun q cs t fr hq ht => (hg9.block q (Nat.lt_of_lt_of_le (lt_of_block hq) B8.out.size) fun e => own_ne O8.out ((B8.out.block q (lt_of_block hq)).trans hq) ht e.symm).trans (B8.out.block q (lt_of_block hq))
      have hmp : w9.heap[mb]? = W.heap[mb]? := (hg9.block mb (Nat.lt_of_lt_of_le AW.out.own.lt B8.out.size) (own_nm (AW.out.below B8.out).own O8.out)).trans (B8.out.block mb AW.out.own.lt)
      have b39 : w9.heap[B3]? = some (.cells #[.slice va Y.length vc] 55 (0, 0)) := (hkp _ _ _ _ HBR.out (by decide)).trans HBR.out
      refine hK.out _ _ (SK.out w9 (fun q cs t fr hq _ ht => hkp q cs t fr hq ht) hmp) (fun hHeld => ?_)
      clear hK K
      (try simp only [Act.put, List.setIfInBounds_toArray, List.set_cons_zero, List.set_cons_succ, List.getElem_toArray, List.getElem_cons_succ, List.getElem_cons_zero])
      have k9 : w9.cell? ⟨B3, 0, none⟩ = some (.slice va Y.length vc) := by rw [cell_of_row _ _ _ _ _ _ b39]; rfl
      have f9 : w9.frozen? ⟨B3, 0, none⟩ = false := frozen_of_row _ _ _ _ _ b39
      refine wpAnyH_ready (rs := [10]) (by kernel_rfl) (by simp) ?_
      refine AllReadyH.cons rfl (fun K hK => ?_) AllReadyH.nil
      rw [if_pos (by rfl)]
      go_simp
      have hkq : ∀ (q : Nat) (cs : Array Value) (t : TypeId) (fr : Nat × Nat), W.heap[q]? = some (.cells cs t fr) → t ≠ 55 → t ≠ 34 → (w9.setCell ⟨B3, 0, none⟩ (.slice va9 (Y.length + 1) vc9)).heap[q]? = W.heap[q]? := fun q cs t fr hq h1 h2 => (Below.heap_setCell _ _ _ _ fun e => by have e' : q = B3 := e; rw [e', HBR.out] at hq; cases hq; exact h1 rfl).trans (hkp q cs t fr hq h2)
      have hmq : (w9.setCell ⟨B3, 0, none⟩ (.slice va9 (Y.length + 1) vc9)).heap[mb]? = W.heap[mb]? := (Below.heap_setCell _ _ _ _ fun e => by have e' : mb = B3 := e; obtain ⟨es, clock, hm, -⟩ := AW.out.own; rw [e', HBR.out] at hm; cases hm).trans hmp
      refine hK.out _ _ (SK.out _ hkq hmq) (fun hHeld => ?_)
      clear hK K
      (try simp only [Act.put, List.setIfInBounds_toArray, List.set_cons_zero, List.set_cons_succ, List.getElem_toArray, List.getElem_cons_succ, List.getElem_cons_zero])
      refine wpAnyH_done (by kernel_rfl) ?_ _
      have HKQ := hid hkq
      have HG9 := hid hg9
      have HO9 := hid ho9
      have HB9 := hid b39
      have HKP := hid hkp
      clear hkq hmq hkp hmp hHeld k9 f9 hg9 ho9 b39
      gi_wp2
      have ko9 : KeepsOthers W w9 := (show KeepsOthers W w8 from ⟨B8.out.size, fun j o hj _ => (B8.out.block j (lt_of_block hj)).trans hj⟩).trans (KeepsOthers.of_grownBy HG9.out fun j o hj hoj => by obtain ⟨cur, hc⟩ := own_typed O8.out hj; rw [hc] at hoj; cases hoj; rfl)
      refine ⟨(ko9.trans (KeepsOthers.setCell _ _ _)).from _, ?_, ?_⟩
      · intro q hq
        have h1 := hrk q hq
        obtain ⟨cs, fr, h2⟩ := HRT.out q hq
        exact HKQ.out q cs _ fr h2 (by decide) (by decide)
      · refine ⟨⟨HG9.out.os.trans (B8.out.os.trans HSI.out.grown.os), HG9.out.tape.trans (B8.out.tape.trans HSI.out.grown.tape), HG9.out.output.trans (B8.out.output.trans HSI.out.grown.output), Nat.le_trans HSI.out.grown.size (Nat.le_trans B8.out.size (by simpa using HG9.out.size)), fun q hq hne => ?_⟩, Y ++ [⟨T, .slice ma3 T.mem.length mc3, .slice pa3 T.past.length pc3⟩], va9, vc9, ?_, ?_, ?_, ?_⟩
        · have hq' : q < W.heap.size := Nat.lt_of_lt_of_le hq HSI.out.grown.size
          refine ((Below.heap_setCell _ _ _ _ fun e => hne (by rw [show q = B3 from e])).trans ?_).trans (HSI.out.grown.block q hq hne)
          exact (HG9.out.block q (Nat.lt_of_lt_of_le hq' B8.out.size) fun e => by have := (World.ownsRow.lt O8.out q e.symm).1; omega).trans (B8.out.block q hq')
        · rw [List.map_append, List.map_append, List.map_append, HYS.out]
          simp only [List.map_cons, List.map_nil]
          rw [show fS X (T.fr, T.to, T.id) = T from HFS.out]
        · rw [List.length_append]
          exact heap_setCell_same _ _ _ _ _ _ HB9.out
        · rw [shvs_append, List.length_append]
          have := own_set (i := 0) (u := .slice va9 (Y.length + 1) vc9) HO9.out HB9.out (by decide)
          simpa [shvs] using this
        · intro z hz
          rcases List.mem_append.1 hz with hz | hz
          · exact (HYM.out z hz).keep fun q cs t fr hq ht => HKQ.out q cs t fr hq (by rcases ht with rfl | rfl <;> decide) (by rcases ht with rfl | rfl <;> decide)
          · rw [List.mem_singleton.1 hz]
            refine (S8.out.lower HSG.out).keep fun q cs t fr hq ht => ?_
            refine (Below.heap_setCell _ _ _ _ fun e => ?_).trans (HG9.out.block q (lt_of_block hq) fun e => own_ne O8.out hq (by rcases ht with rfl | rfl <;> decide) e.symm)
            have e' : q = B3 := e
            rw [e', (B8.out.block B3 (lt_of_block HBR.out)).trans HBR.out] at hq
            cases hq
            rcases ht with h | h <;> exact absurd h (by decide)
    · skip
      rw [if_pos (by rfl)]
      go_wp2_with fail
      refine (HCP.out _ ((Below.refl _ _).drew)).mono ?_
      rintro e w7 ⟨mv7, pv7, rfl, hs7, hb7⟩
      obtain ⟨⟨ma3, mc3, rfl⟩, ⟨pa3, pc3, rfl⟩⟩ := hs7.sh.shape
      have S7 := hid hs7
      have B7 : Hid (Below W.heap.size W w7) := hid (((Below.refl W.heap.size W).drew).trans hb7)
      have c3b := cell_later B7.out c3
      have c3c : ((w7.alloc (.cells #[.int .i64 T.id, .int .i64 T.fr, .int .i64 T.to, .slice ma3 T.mem.length mc3, .slice pa3 T.past.length pc3] 34)).drew).cell? ⟨B3, 0, none⟩ = some (.slice va Y.length vc) := cell_later (((Below.refl _ _).alloc (Nat.le_refl w7.heap.size) _).drew) c3b
      have c3d : (w7.alloc (.cells #[.int .i64 T.id, .int .i64 T.fr, .int .i64 T.to, .slice ma3 T.mem.length mc3, .slice pa3 T.past.length pc3] 34)).cell? ⟨B3, 0, none⟩ = some (.slice va Y.length vc) := c3c
      clear hs7 hb7
      refine hK.out _ _ (SB.out _ B7.out) (fun hHeld => ?_)
      clear hK K
      unfold shV
      (try simp only [Act.put, List.setIfInBounds_toArray, List.set_cons_zero, List.set_cons_succ, List.getElem_toArray, List.getElem_cons_succ, List.getElem_cons_zero])
      refine wpAnyH_ready (rs := [0, 8]) (by kernel_rfl) (by simp) ?_
      refine AllReadyH.cons rfl (fun K hK => ?_) (AllReadyH.cons rfl (fun K hK => ?_) AllReadyH.nil)
      · skip
        rw [if_pos (by rfl)]
        go_simp
        refine hK.out _ _ hHeld (fun hHeld => ?_)
        clear hK K
        (try simp only [Act.put, List.setIfInBounds_toArray, List.set_cons_zero, List.set_cons_succ, List.getElem_toArray, List.getElem_cons_succ, List.getElem_cons_zero])
        refine wpAnyH_ready (rs := [8]) (by kernel_rfl) (by simp) ?_
        refine AllReadyH.cons rfl (fun K hK => ?_) AllReadyH.nil
        rw [if_pos (by rfl)]
        go_simp
        refine hK.out _ _ (SB.out _ (B7.out.alloc B7.out.size _)) (fun hHeld => ?_)
        clear hK K
        (try simp only [Act.put, List.setIfInBounds_toArray, List.set_cons_zero, List.set_cons_succ, List.getElem_toArray, List.getElem_cons_succ, List.getElem_cons_zero])
        clear c3 c3b c3c c3d
        have B8 : Hid (Below W.heap.size W (w7.alloc (.cells #[.int .i64 T.id, .int .i64 T.fr, .int .i64 T.to, .slice ma3 T.mem.length mc3, .slice pa3 T.past.length pc3] 34))) := hid (B7.out.alloc B7.out.size _)
        have O8 := hid (own_below OR.out B8.out)
        have Y8 : Hid (∀ j u, (SX.c ⟨T, .slice ma3 T.mem.length mc3, .slice pa3 T.past.length pc3⟩)[j]? = some u → (w7.alloc (.cells #[.int .i64 T.id, .int .i64 T.fr, .int .i64 T.to, .slice ma3 T.mem.length mc3, .slice pa3 T.past.length pc3] 34)).cell? ⟨w7.heap.size, j, none⟩ = some u) := hid fun j u hj => by
          rw [cell_of_row _ _ _ _ _ _ (heap_alloc_new _ _)]; unfold SX.c at hj; simpa using hj
        have S8 := hid (S7.out.below ((Below.refl w7.heap.size w7).alloc (Nat.le_refl _) (.cells #[.int .i64 T.id, .int .i64 T.fr, .int .i64 T.to, .slice ma3 T.mem.length mc3, .slice pa3 T.past.length pc3] 34)))
        refine wpAnyH_ready (rs := [9]) (by kernel_rfl) (by simp) ?_
        refine AllReadyH.cons rfl (fun K hK => ?_) AllReadyH.nil
        rw [if_pos (by rfl)]
        refine wp_app rowSh _ _ rfl w5.heap.size (.slice va Y.length vc) Y.length (shvs Y) rfl O8.out w7.heap.size 1 1 (SX.c ⟨T, .slice ma3 T.mem.length mc3, .slice pa3 T.past.length pc3⟩) rfl rfl Y8.out (by simp [SX.c, Value.oneCell']) (by omega) (Nat.le_trans HSG.out B8.out.size) ?_
        generalize w7.alloc (.cells #[.int .i64 T.id, .int .i64 T.fr, .int .i64 T.to, .slice ma3 T.mem.length mc3, .slice pa3 T.past.length pc3] 34) = w8 at *
        intro va9 vc9 w9 ho9 hg9
        have hkp : ∀ (q : Nat) (cs : Array Value) (t : TypeId) (fr : Nat × Nat), W.heap[q]? = some (.cells cs t fr) → t ≠ 34 → w9.heap[q]? = W.heap[q]? := fun q cs t fr hq ht => (hg9.block q (Nat.lt_of_lt_of_le (lt_of_block hq) B8.out.size) fun e => own_ne O8.out ((B8.out.block q (lt_of_block hq)).trans hq) ht e.symm).trans (B8.out.block q (lt_of_block hq))
        have hmp : w9.heap[mb]? = W.heap[mb]? := (hg9.block mb (Nat.lt_of_lt_of_le AW.out.own.lt B8.out.size) (own_nm (AW.out.below B8.out).own O8.out)).trans (B8.out.block mb AW.out.own.lt)
        have b39 : w9.heap[B3]? = some (.cells #[.slice va Y.length vc] 55 (0, 0)) := (hkp _ _ _ _ HBR.out (by decide)).trans HBR.out
        refine hK.out _ _ (SK.out w9 (fun q cs t fr hq _ ht => hkp q cs t fr hq ht) hmp) (fun hHeld => ?_)
        clear hK K
        (try simp only [Act.put, List.setIfInBounds_toArray, List.set_cons_zero, List.set_cons_succ, List.getElem_toArray, List.getElem_cons_succ, List.getElem_cons_zero])
        have k9 : w9.cell? ⟨B3, 0, none⟩ = some (.slice va Y.length vc) := by rw [cell_of_row _ _ _ _ _ _ b39]; rfl
        have f9 : w9.frozen? ⟨B3, 0, none⟩ = false := frozen_of_row _ _ _ _ _ b39
        refine wpAnyH_ready (rs := [10]) (by kernel_rfl) (by simp) ?_
        refine AllReadyH.cons rfl (fun K hK => ?_) AllReadyH.nil
        rw [if_pos (by rfl)]
        go_simp
        have hkq : ∀ (q : Nat) (cs : Array Value) (t : TypeId) (fr : Nat × Nat), W.heap[q]? = some (.cells cs t fr) → t ≠ 55 → t ≠ 34 → (w9.setCell ⟨B3, 0, none⟩ (.slice va9 (Y.length + 1) vc9)).heap[q]? = W.heap[q]? := fun q cs t fr hq h1 h2 => (Below.heap_setCell _ _ _ _ fun e => by have e' : q = B3 := e; rw [e', HBR.out] at hq; cases hq; exact h1 rfl).trans (hkp q cs t fr hq h2)
        have hmq : (w9.setCell ⟨B3, 0, none⟩ (.slice va9 (Y.length + 1) vc9)).heap[mb]? = W.heap[mb]? := (Below.heap_setCell _ _ _ _ fun e => by have e' : mb = B3 := e; obtain ⟨es, clock, hm, -⟩ := AW.out.own; rw [e', HBR.out] at hm; cases hm).trans hmp
        refine hK.out _ _ (SK.out _ hkq hmq) (fun hHeld => ?_)
        clear hK K
        (try simp only [Act.put, List.setIfInBounds_toArray, List.set_cons_zero, List.set_cons_succ, List.getElem_toArray, List.getElem_cons_succ, List.getElem_cons_zero])
        refine wpAnyH_done (by kernel_rfl) ?_ _
        have HKQ := hid hkq
        have HG9 := hid hg9
        have HO9 := hid ho9
        have HB9 := hid b39
        have HKP := hid hkp
        clear hkq hmq hkp hmp hHeld k9 f9 hg9 ho9 b39
        gi_wp2
        have ko9 : KeepsOthers W w9 := (show KeepsOthers W w8 from ⟨B8.out.size, fun j o hj _ => (B8.out.block j (lt_of_block hj)).trans hj⟩).trans (KeepsOthers.of_grownBy HG9.out fun j o hj hoj => by obtain ⟨cur, hc⟩ := own_typed O8.out hj; rw [hc] at hoj; cases hoj; rfl)
        refine ⟨(ko9.trans (KeepsOthers.setCell _ _ _)).from _, ?_, ?_⟩
        · intro q hq
          have h1 := hrk q hq
          obtain ⟨cs, fr, h2⟩ := HRT.out q hq
          exact HKQ.out q cs _ fr h2 (by decide) (by decide)
        · refine ⟨⟨HG9.out.os.trans (B8.out.os.trans HSI.out.grown.os), HG9.out.tape.trans (B8.out.tape.trans HSI.out.grown.tape), HG9.out.output.trans (B8.out.output.trans HSI.out.grown.output), Nat.le_trans HSI.out.grown.size (Nat.le_trans B8.out.size (by simpa using HG9.out.size)), fun q hq hne => ?_⟩, Y ++ [⟨T, .slice ma3 T.mem.length mc3, .slice pa3 T.past.length pc3⟩], va9, vc9, ?_, ?_, ?_, ?_⟩
          · have hq' : q < W.heap.size := Nat.lt_of_lt_of_le hq HSI.out.grown.size
            refine ((Below.heap_setCell _ _ _ _ fun e => hne (by rw [show q = B3 from e])).trans ?_).trans (HSI.out.grown.block q hq hne)
            exact (HG9.out.block q (Nat.lt_of_lt_of_le hq' B8.out.size) fun e => by have := (World.ownsRow.lt O8.out q e.symm).1; omega).trans (B8.out.block q hq')
          · rw [List.map_append, List.map_append, List.map_append, HYS.out]
            simp only [List.map_cons, List.map_nil]
            rw [show fS X (T.fr, T.to, T.id) = T from HFS.out]
          · rw [List.length_append]
            exact heap_setCell_same _ _ _ _ _ _ HB9.out
          · rw [shvs_append, List.length_append]
            have := own_set (i := 0) (u := .slice va9 (Y.length + 1) vc9) HO9.out HB9.out (by decide)
            simpa [shvs] using this
          · intro z hz
            rcases List.mem_append.1 hz with hz | hz
            · exact (HYM.out z hz).keep fun q cs t fr hq ht => HKQ.out q cs t fr hq (by rcases ht with rfl | rfl <;> decide) (by rcases ht with rfl | rfl <;> decide)
            · rw [List.mem_singleton.1 hz]
              refine (S8.out.lower HSG.out).keep fun q cs t fr hq ht => ?_
              refine (Below.heap_setCell _ _ _ _ fun e => ?_).trans (HG9.out.block q (lt_of_block hq) fun e => own_ne O8.out hq (by rcases ht with rfl | rfl <;> decide) e.symm)
              have e' : q = B3 := e
              rw [e', (B8.out.block B3 (lt_of_block HBR.out)).trans HBR.out] at hq
              cases hq
              rcases ht with h | h <;> exact absurd h (by decide)
      · skip
        rw [if_pos (by rfl)]
        go_simp
        refine hK.out _ _ (SB.out _ (B7.out.alloc B7.out.size _)) (fun hHeld => ?_)
        clear hK K
        (try simp only [Act.put, List.setIfInBounds_toArray, List.set_cons_zero, List.set_cons_succ, List.getElem_toArray, List.getElem_cons_succ, List.getElem_cons_zero])
        refine wpAnyH_ready (rs := [0]) (by kernel_rfl) (by simp) ?_
        refine AllReadyH.cons rfl (fun K hK => ?_) AllReadyH.nil
        rw [if_pos (by rfl)]
        go_simp
        refine hK.out _ _ hHeld (fun hHeld => ?_)
        clear hK K
        (try simp only [Act.put, List.setIfInBounds_toArray, List.set_cons_zero, List.set_cons_succ, List.getElem_toArray, List.getElem_cons_succ, List.getElem_cons_zero])
        clear c3 c3b c3c c3d
        have B8 : Hid (Below W.heap.size W (w7.alloc (.cells #[.int .i64 T.id, .int .i64 T.fr, .int .i64 T.to, .slice ma3 T.mem.length mc3, .slice pa3 T.past.length pc3] 34))) := hid (B7.out.alloc B7.out.size _)
        have O8 := hid (own_below OR.out B8.out)
        have Y8 : Hid (∀ j u, (SX.c ⟨T, .slice ma3 T.mem.length mc3, .slice pa3 T.past.length pc3⟩)[j]? = some u → (w7.alloc (.cells #[.int .i64 T.id, .int .i64 T.fr, .int .i64 T.to, .slice ma3 T.mem.length mc3, .slice pa3 T.past.length pc3] 34)).cell? ⟨w7.heap.size, j, none⟩ = some u) := hid fun j u hj => by
          rw [cell_of_row _ _ _ _ _ _ (heap_alloc_new _ _)]; unfold SX.c at hj; simpa using hj
        have S8 := hid (S7.out.below ((Below.refl w7.heap.size w7).alloc (Nat.le_refl _) (.cells #[.int .i64 T.id, .int .i64 T.fr, .int .i64 T.to, .slice ma3 T.mem.length mc3, .slice pa3 T.past.length pc3] 34)))
        refine wpAnyH_ready (rs := [9]) (by kernel_rfl) (by simp) ?_
        refine AllReadyH.cons rfl (fun K hK => ?_) AllReadyH.nil
        rw [if_pos (by rfl)]
        refine wp_app rowSh _ _ rfl w5.heap.size (.slice va Y.length vc) Y.length (shvs Y) rfl O8.out w7.heap.size 1 1 (SX.c ⟨T, .slice ma3 T.mem.length mc3, .slice pa3 T.past.length pc3⟩) rfl rfl Y8.out (by simp [SX.c, Value.oneCell']) (by omega) (Nat.le_trans HSG.out B8.out.size) ?_
        generalize w7.alloc (.cells #[.int .i64 T.id, .int .i64 T.fr, .int .i64 T.to, .slice ma3 T.mem.length mc3, .slice pa3 T.past.length pc3] 34) = w8 at *
        intro va9 vc9 w9 ho9 hg9
        have hkp : ∀ (q : Nat) (cs : Array Value) (t : TypeId) (fr : Nat × Nat), W.heap[q]? = some (.cells cs t fr) → t ≠ 34 → w9.heap[q]? = W.heap[q]? := fun q cs t fr hq ht => (hg9.block q (Nat.lt_of_lt_of_le (lt_of_block hq) B8.out.size) fun e => own_ne O8.out ((B8.out.block q (lt_of_block hq)).trans hq) ht e.symm).trans (B8.out.block q (lt_of_block hq))
        have hmp : w9.heap[mb]? = W.heap[mb]? := (hg9.block mb (Nat.lt_of_lt_of_le AW.out.own.lt B8.out.size) (own_nm (AW.out.below B8.out).own O8.out)).trans (B8.out.block mb AW.out.own.lt)
        have b39 : w9.heap[B3]? = some (.cells #[.slice va Y.length vc] 55 (0, 0)) := (hkp _ _ _ _ HBR.out (by decide)).trans HBR.out
        refine hK.out _ _ (SK.out w9 (fun q cs t fr hq _ ht => hkp q cs t fr hq ht) hmp) (fun hHeld => ?_)
        clear hK K
        (try simp only [Act.put, List.setIfInBounds_toArray, List.set_cons_zero, List.set_cons_succ, List.getElem_toArray, List.getElem_cons_succ, List.getElem_cons_zero])
        have k9 : w9.cell? ⟨B3, 0, none⟩ = some (.slice va Y.length vc) := by rw [cell_of_row _ _ _ _ _ _ b39]; rfl
        have f9 : w9.frozen? ⟨B3, 0, none⟩ = false := frozen_of_row _ _ _ _ _ b39
        refine wpAnyH_ready (rs := [10]) (by kernel_rfl) (by simp) ?_
        refine AllReadyH.cons rfl (fun K hK => ?_) AllReadyH.nil
        rw [if_pos (by rfl)]
        go_simp
        have hkq : ∀ (q : Nat) (cs : Array Value) (t : TypeId) (fr : Nat × Nat), W.heap[q]? = some (.cells cs t fr) → t ≠ 55 → t ≠ 34 → (w9.setCell ⟨B3, 0, none⟩ (.slice va9 (Y.length + 1) vc9)).heap[q]? = W.heap[q]? := fun q cs t fr hq h1 h2 => (Below.heap_setCell _ _ _ _ fun e => by have e' : q = B3 := e; rw [e', HBR.out] at hq; cases hq; exact h1 rfl).trans (hkp q cs t fr hq h2)
        have hmq : (w9.setCell ⟨B3, 0, none⟩ (.slice va9 (Y.length + 1) vc9)).heap[mb]? = W.heap[mb]? := (Below.heap_setCell _ _ _ _ fun e => by have e' : mb = B3 := e; obtain ⟨es, clock, hm, -⟩ := AW.out.own; rw [e', HBR.out] at hm; cases hm).trans hmp
        refine hK.out _ _ (SK.out _ hkq hmq) (fun hHeld => ?_)
        clear hK K
        (try simp only [Act.put, List.setIfInBounds_toArray, List.set_cons_zero, List.set_cons_succ, List.getElem_toArray, List.getElem_cons_succ, List.getElem_cons_zero])
        refine wpAnyH_done (by kernel_rfl) ?_ _
        have HKQ := hid hkq
        have HG9 := hid hg9
        have HO9 := hid ho9
        have HB9 := hid b39
        have HKP := hid hkp
        clear hkq hmq hkp hmp hHeld k9 f9 hg9 ho9 b39
        gi_wp2
        have ko9 : KeepsOthers W w9 := (show KeepsOthers W w8 from ⟨B8.out.size, fun j o hj _ => (B8.out.block j (lt_of_block hj)).trans hj⟩).trans (KeepsOthers.of_grownBy HG9.out fun j o hj hoj => by obtain ⟨cur, hc⟩ := own_typed O8.out hj; rw [hc] at hoj; cases hoj; rfl)
        refine ⟨(ko9.trans (KeepsOthers.setCell _ _ _)).from _, ?_, ?_⟩
        · intro q hq
          have h1 := hrk q hq
          obtain ⟨cs, fr, h2⟩ := HRT.out q hq
          exact HKQ.out q cs _ fr h2 (by decide) (by decide)
        · refine ⟨⟨HG9.out.os.trans (B8.out.os.trans HSI.out.grown.os), HG9.out.tape.trans (B8.out.tape.trans HSI.out.grown.tape), HG9.out.output.trans (B8.out.output.trans HSI.out.grown.output), Nat.le_trans HSI.out.grown.size (Nat.le_trans B8.out.size (by simpa using HG9.out.size)), fun q hq hne => ?_⟩, Y ++ [⟨T, .slice ma3 T.mem.length mc3, .slice pa3 T.past.length pc3⟩], va9, vc9, ?_, ?_, ?_, ?_⟩
          · have hq' : q < W.heap.size := Nat.lt_of_lt_of_le hq HSI.out.grown.size
            refine ((Below.heap_setCell _ _ _ _ fun e => hne (by rw [show q = B3 from e])).trans ?_).trans (HSI.out.grown.block q hq hne)
            exact (HG9.out.block q (Nat.lt_of_lt_of_le hq' B8.out.size) fun e => by have := (World.ownsRow.lt O8.out q e.symm).1; omega).trans (B8.out.block q hq')
          · rw [List.map_append, List.map_append, List.map_append, HYS.out]
            simp only [List.map_cons, List.map_nil]
            rw [show fS X (T.fr, T.to, T.id) = T from HFS.out]
          · rw [List.length_append]
            exact heap_setCell_same _ _ _ _ _ _ HB9.out
          · rw [shvs_append, List.length_append]
            have := own_set (i := 0) (u := .slice va9 (Y.length + 1) vc9) HO9.out HB9.out (by decide)
            simpa [shvs] using this
          · intro z hz
            rcases List.mem_append.1 hz with hz | hz
            · exact (HYM.out z hz).keep fun q cs t fr hq ht => HKQ.out q cs t fr hq (by rcases ht with rfl | rfl <;> decide) (by rcases ht with rfl | rfl <;> decide)
            · rw [List.mem_singleton.1 hz]
              refine (S8.out.lower HSG.out).keep fun q cs t fr hq ht => ?_
              refine (Below.heap_setCell _ _ _ _ fun e => ?_).trans (HG9.out.block q (lt_of_block hq) fun e => own_ne O8.out hq (by rcases ht with rfl | rfl <;> decide) e.symm)
              have e' : q = B3 := e
              rw [e', (B8.out.block B3 (lt_of_block HBR.out)).trans HBR.out] at hq
              cases hq
              rcases ht with h | h <;> exact absurd h (by decide)
  case done =>
    intro DD ys W hDD hys hSI hK
    rw [hys] at hSI
    have hDl := lt_of_block hK
    have HK := hid hK
    obtain ⟨Y, va, vc, h1, h2, h3, h4⟩ := hSI.row
    have HSI := hid hSI
    have H1 : Hid (Y.map (·.s) = X.map (·.s)) := hid (by
      rw [h1, HPE.out, List.map_map]
      refine List.map_congr_left fun x hx => ?_
      exact fS_of X x hx (HD.out x hx))
    have c3 : W.cell? ⟨B3, 0, none⟩ = some (.slice va Y.length vc) := by rw [cell_of_row _ _ _ _ _ _ h2]; rfl
    have H3 := hid h3
    have H4 := hid h4
    have H2 := hid h2
    clear hys hSI hK h1 h2 h3 h4
    go_wp2_with fail
    have gp := grownBy_putObj' W DD (.deferred none)
    have rp : ∀ r, some DD = some r → w5.heap.size ≤ r ∧ ∃ o : Obj, W.heap[r]? = some o ∧ o.isCells = false := fun r e => by cases e; exact ⟨hDD, _, HK.out, rfl⟩
    have hkc : ∀ (q : Nat) (cs : Array Value) (t : TypeId) (fr : Nat × Nat), W.heap[q]? = some (.cells cs t fr) → _ = W.heap[q]? := fun q cs t fr hq => (cells_turnedP hq gp fun r e => (rp r e).2).trans hq.symm
    have C9 := HSI.out.turned gp rp
    refine ⟨by simp, .inl ⟨_, _, rfl, run_takeDeferred HK.out, _, results_tmp rfl _ _ _, Y, va, vc, rfl, H1.out, own_lower (own_kept H3.out fun q cs _ hh => hkc q cs _ _ hh) BW5.out.size, (fun y hy => ((H4.out y hy).lower BW5.out.size).keep fun q cs t fr hq _ => hkc q cs t fr hq), ?_⟩⟩
    exact ⟨C9.grown.os.trans BW5.out.os, C9.grown.tape.trans BW5.out.tape, C9.grown.output.trans BW5.out.output, Nat.le_trans BW5.out.size C9.grown.size, fun q hq => (C9.grown.block q (Nat.lt_of_lt_of_le hq BW5.out.size) (fun e => by cases e; have := HBW.out; omega)).trans (BW5.out.block q hq)⟩
end Go.Proofs.YtmocedkbabnpfaaGreat
namespace Go.Proofs.YtmocedkbabnpfaaGreat
open Go.RowKit Go.Shelf
attribute [local go_sem] Oper.semAt_some

theorem OwnP.empty (w : World) : OwnP (w.alloc (.cells #[] 129)) w.heap.size (.slice (some ⟨w.heap.size, 0, none⟩) 0 0) [] :=
  ⟨rfl, .inr ⟨w.heap.size, 0, #[], rfl, Nat.le_refl _, heap_alloc_new _ _, Nat.le_refl _, Nat.zero_le _, rfl, rfl⟩⟩
set_option maxHeartbeats 800000 in
theorem cloneP_any (v : Value) (l : List Pc) (w : World) (hv : Pcs w v l) (hl : l.length ≤ 1000000000) :
    Calls Tryz.prog 93 #[v] w fun e w' => ∃ va vc, e = .returned (.slice va l.length vc) ∧ OwnP w' w.heap.size (.slice va l.length vc) l ∧ Below w.heap.size w w' := by
  have HV := hid hv
  obtain ⟨ao, n, cap, rfl, rfl, hc, hcap, hnone, hcell⟩ := hv
  clear hcell
  cases ao with
  | none =>
    have h0 : l = [] := List.eq_nil_of_length_eq_zero (by have := hnone rfl; omega)
    subst h0
    clear hnone
    have hnil := Lib.run_eql_slice_nil (P := Tryz.prog) w 125 129 none 0 cap 0 0 Tryz.underlyingPs
    go_enter Tryz.func93, Tryz.ntmps93
    go_wp2
    go_ret
    exact ⟨none, 0, rfl, OwnP.nil _ _, Below.refl _ _⟩
  | some a =>
    clear hnone
    have HO := hid (OwnP.empty w)
    have hba : Below w.heap.size w (w.alloc (.cells #[] 129)) := (Below.refl _ _).alloc (Nat.le_refl _) _
    have HA1 := hid (HV.out.below hba)
    have hnil := Lib.run_eql_slice_nil (P := Tryz.prog) w 125 129 (some a) l.length cap 0 0 Tryz.underlyingPs
    go_enter Tryz.func93, Tryz.ntmps93
    go_wp2_with (at_builtin; refine wpl_appendP rfl _ _ rfl w.heap.size (.slice (some ⟨w.heap.size, 0, none⟩) 0 0) [] rfl HO.out _ l rfl HA1.out (by simp; omega) (by simp) ?_; intro va1 vc1 w2 ho1 hg1; simp only [List.length_nil, Nat.zero_add, List.nil_append] at ho1; have HB2 := hid (hba.trans (belowP_grown HO.out hg1 (by simp))); have HO1 := hid ho1; clear ho1 hg1)
    go_ret
    exact ⟨va1, vc1, by simp, HO1.out, HB2.out⟩
set_option maxHeartbeats 1600000 in
theorem cloneM_any (b : Nat) (l : List Pc) (w : World) (hm : MapC w b l) (hl : l.length ≤ 1000000) :
    Calls Tryz.prog 58 #[.pointer (some ⟨b, 0, none⟩)] w fun e w' => ∃ g, e = .returned (.pointer (some ⟨g, 0, none⟩)) ∧ MapC w' g l ∧ w.heap.size ≤ g ∧ g < w'.heap.size ∧ Below w.heap.size w w' := by
  have HC := hid hm.can
  have HI := hid hm.ints
  obtain ⟨va, vc, h1, h2⟩ := hm.at'
  have HP := hid (OwnP.pcs h2)
  have cb : w.cell? ⟨b, 0, none⟩ = some (.slice va l.length vc) := by rw [cell_of_row _ _ _ _ _ _ h1]; rfl
  clear hm h1 h2
  go_enter Tryz.func58, Tryz.ntmps58
  go_wp2_with fail
  refine (cloneP_any _ l _ HP.out (by omega)).mono ?_
  rintro e w1 ⟨va1, vc1, rfl, ho, hb⟩
  have HO := hid ho
  have HB := hid hb
  clear ho hb
  go_wp2_with fail
  go_ret
  have ba : Below w1.heap.size w1 (w1.alloc (.cells #[.slice va1 l.length vc1] 127)) := (Below.refl _ _).alloc (Nat.le_refl _) _
  exact ⟨w1.heap.size, rfl, ⟨⟨va1, vc1, heap_alloc_new _ _, (HO.out.below ba).lower (Nat.zero_le _)⟩, HC.out, HI.out⟩, HB.out.size, by simp, HB.out.alloc HB.out.size _⟩
set_option maxRecDepth 100000 in
set_option maxHeartbeats 2000000 in
theorem change_nil (pv : Value) (s : Sp) (w : World) :
    Calls Tryz.prog 109 #[.pointer none, .agg #[.int .i64 s.1, .int .i64 s.2], pv] w fun e w' => e = .returned (.tuple #[]) ∧ Below w.heap.size w w' := by
  obtain ⟨s1, s2⟩ := s
  refine (callsIn_wide (n := 3)).1 ?_
  refine callsIn_of_wp_marks Tryz.func109 rfl trivial ?_ rfl
  simp only [Tryz.ntmps109, List.size_toArray, List.length_cons, List.length_nil, Nat.reduceAdd, Nat.reduceSub, Array.replicate_succ, Array.replicate_zero, List.push_toArray, List.append_toArray, List.nil_append, List.cons_append]
  refine wpIn_wide.2 ?_
  go_wp2_with fail
  refine ⟨_, results_none rfl _ _ _, rfl, ?_⟩
  exact (Below.refl _ _).alloc (Nat.le_refl _) _
set_option maxHeartbeats 1600000 in
theorem put_nil (s : Sp) (x : Int) (w : World) :
    Calls Tryz.prog 99 #[.pointer none, .agg #[.int .i64 s.1, .int .i64 s.2], .int .i64 x] w fun e w' => e = .returned (.tuple #[]) ∧ Below w.heap.size w w' := by
  obtain ⟨s1, s2⟩ := s
  go_enter Tryz.func99, Tryz.ntmps99
  go_wp2_with (go_at_call 109; refine (change_nil _ (s1, s2) _).mono ?_; rintro e w2 ⟨rfl, hb⟩; have B2 := hid hb; clear hb)
  go_end0
  have b0 : Below w.heap.size w ((w.alloc (.cells #[.int .i64 s1, .int .i64 s2] 24)).alloc (.cells #[.int .i64 s1, .int .i64 s2, .int .i64 x] 129)) := ((Below.refl _ _).alloc (Nat.le_refl _) _).alloc (by simp) _
  exact ⟨rfl, b0.trans (B2.out.mono b0.size)⟩
set_option maxHeartbeats 1600000 in
theorem get_nil (c : Int) (w : World) :
    Calls Tryz.prog 32 #[.pointer none, .int .i64 c] w fun e w' => e = .returned (.tuple #[.int .i64 0, .bool false]) ∧ Below w.heap.size w w' := by
  go_enter Tryz.func32, Tryz.ntmps32
  go_wp2_with fail
  go_ret2
  exact ⟨rfl, ((Below.refl _ _).alloc (Nat.le_refl _) _).alloc (by simp) _⟩
set_option maxHeartbeats 1600000 in
theorem clone_nil (w : World) :
    Calls Tryz.prog 58 #[.pointer none] w fun e w' => ∃ g, e = .returned (.pointer (some ⟨g, 0, none⟩)) ∧ MapC w' g [] ∧ Below w.heap.size w w' := by
  go_enter Tryz.func58, Tryz.ntmps58
  go_wp2_with fail
  go_ret
  exact ⟨w.heap.size, rfl, ⟨⟨none, 0, heap_alloc_new _ _, OwnP.nil _ _⟩, ⟨(fun x hx => by cases hx), List.Pairwise.nil⟩, fun x hx => by cases hx⟩, (Below.refl _ _).alloc (Nat.le_refl _) _⟩
set_option maxHeartbeats 1000000 in
theorem each_nil (w : World) :
    Calls Tryz.prog 29 #[.pointer none] w fun e w' => e = .returned (.func (.func 72) #[] #[.pointer (some ⟨w.heap.size, 0, none⟩)]) ∧
      w' = w.alloc (.cells #[.pointer none] 69 (0, 0)) := by
  have hmf : ∀ (fn : Fn) (first cap : Array Value) (w : World), (Instr.makeFunc fn first cap).run Tryz.prog w = .ok (.func fn first cap) w := fun _ _ _ _ => rfl
  go_enter Tryz.func29, Tryz.ntmps29
  go_wp2_with fail
  go_ret
  exact ⟨rfl, rfl⟩
set_option maxRecDepth 100000 in
set_option maxHeartbeats 1000000 in
theorem each1_none (n : Nat) (y B : Nat) (J : List Pc → World → Prop) (W : World) (hB : W.cell? ⟨B, 0, none⟩ = some (.pointer none)) (h0 : J [] W) :
    CallsIn Fence.wide n Tryz.prog 72 #[.func (.yield y) #[] #[], .pointer (some ⟨B, 0, none⟩)] W fun e W' => (∃ v, e = .returned v) ∧ J [] W' := by
  refine callsIn_of_wp Tryz.func72 rfl trivial ?_ rfl
  simp only [Tryz.ntmps72, List.size_toArray, List.length_cons, List.length_nil, Nat.reduceAdd, Nat.reduceSub, Array.replicate_succ, Array.replicate_zero, List.push_toArray, List.append_toArray, List.nil_append, List.cons_append]
  gi_wp2
  refine bodyPost_ret (results_none rfl _ _ _) rfl ?_
  exact ⟨⟨_, rfl⟩, h0⟩
theorem eachn_stops (n : Nat) (B : Nat) (w : World)
    (hB : w.heap[B]? = some (.cells #[.pointer none] 69 (0, 0))) :
    SeqStopsK Fence.wide n Tryz.prog 72 #[.pointer (some ⟨B, 0, none⟩)] eachV (fun _ _ => True) (fun ys => ys = []) (fun _ => False) 0 w := fun y J Jx W hW hJ _ hY h0 => by
  have hp := (hW.block B (lt_of_block hB)).trans hB
  have hcB : W.cell? ⟨B, 0, none⟩ = some (.pointer none) := by rw [cell_of_row _ _ _ _ _ _ hp]; rfl
  exact (each1_none n y B J W hcB h0).mono fun e W' ⟨he, hj⟩ => ⟨he, .inl ⟨_, rfl, hj⟩⟩
end Go.Proofs.YtmocedkbabnpfaaGreat
namespace Go.Proofs.YtmocedkbabnpfaaGreat
open Go.RowKit Go.Maps Go.Shelf
set_option linter.unusedVariables false
set_option linter.unusedSimpArgs false

theorem cloneN_nil (w : World) : Calls Tryz.prog 57 #[.slice none 0 0] w fun e w' => e = .returned (.slice none 0 0) ∧ w' = w := by
  have hnil := Lib.run_eql_slice_nil (P := Tryz.prog) w 31 3 none 0 0 0 0 Tryz.underlyingIs
  go_enter Tryz.func57, Tryz.ntmps57
  go_wp2
  go_ret
  exact ⟨rfl, rfl⟩
theorem Tryz.sizeAt : (Tryz.prog.info? 72).map (·.size) = some 6 := by kernel_rfl
theorem Tryz.structAt0 : (Tryz.prog.underlying 72).map (fun d => match d with | .struct _ | .array _ _ => true | _ => false) = some true := by kernel_rfl
theorem Tryz.structAt : ∃ d, Tryz.prog.underlying 72 = some d ∧ (match d with | .struct _ | .array _ _ => true | _ => false) = true := by
  have h := Tryz.structAt0
  cases hd : Tryz.prog.underlying 72 with
  | none => rw [hd] at h; cases h
  | some d => rw [hd] at h; exact ⟨d, rfl, by simpa using h⟩
theorem wpl_loadA {ops : Array Oper} {rest : List Oper} {o : Oper} {a : Act} {w : World} {Q : Exit → Act → World → Prop} (hgd : o.guard = none) (x : Operand) (ho : o.op = .load 72 x)
    (g : Nat) (hx : a.eval x = .pointer (some ⟨g, 0, none⟩)) (t : TypeId) (cs : Array Value) (fr : Nat × Nat) (hs : cs.size = 6) (hg : w.heap[g]? = some (.cells cs t fr))
    (h : wpList Tryz.prog ops Q rest (a.put o.dst (.agg cs)) w) : wpList Tryz.prog ops Q (o :: rest) a w := by
  obtain ⟨d, hd1, hd2⟩ := Tryz.structAt
  exact wpList_load_row hgd _ x ho g hx t _ fr d hg hd1 (by cases d <;> first | rfl | (simp at hd2)) (by rw [hs]; exact Tryz.sizeAt) h
theorem wpl_storeA {ops : Array Oper} {rest : List Oper} {o : Oper} {a : Act} {w : World} {Q : Exit → Act → World → Prop} (hgd : o.guard = none) (x y : Operand) (ho : o.op = .store 72 x y)
    (g : Nat) (a0 a1 a2 a3 a4 a5 : Value) (hx : a.eval x = .pointer (some ⟨g, 0, none⟩)) (hy : a.eval y = .agg #[a0, a1, a2, a3, a4, a5]) (h0 : a0.oneCell' = true) (h1 : a1.oneCell' = true) (h2 : a2.oneCell' = true) (h3 : a3.oneCell' = true) (h4 : a4.oneCell' = true) (h5 : a5.oneCell' = true)
    (t : TypeId) (c0 : Array Value) (hc : c0.size = 6) (hg : w.heap[g]? = some (.cells c0 t (0, 0)))
    (h : wpList Tryz.prog ops Q rest (a.put o.dst undef) (w.setRow g #[a0, a1, a2, a3, a4, a5])) : wpList Tryz.prog ops Q (o :: rest) a w :=
  wpList_store_row hgd _ x y ho g _ hx hy t _ hg Tryz.sizeAt (by rw [hc]; rfl) (by simp [h0, h1, h2, h3, h4, h5]) h
theorem mclone_any (mb n : Nat) (D : DataW Value) (w : World) (h : w.ownsMap Tryz.prog 3 RHs mb n D) :
    Calls Tryz.prog 59 #[.map (some mb)] w fun e w' => ∃ m, e = .returned (.map (some m)) ∧ w'.ownsMap Tryz.prog 3 RHs m n D ∧ w.heap.size ≤ m ∧ Below w.heap.size w w' := by
  have hcon := AnyW.maps_Clone_owns Tryz.cloneSh 3 RHs mb n D w h
  change Calls Tryz.prog 59 _ _ _ at hcon
  exact hcon.mono fun e w' ⟨he, h1, _, hb⟩ => ⟨_, he, h1, Nat.le_refl _, hb⟩
/-- What Clone leaves. -/
def ClP (n : Nat) (D : DataW Value) (N : AtN) (X : List SX) (w : World) (e : Ending) (w' : World) : Prop := ∃ c wc mc ov', e = .returned (.pointer (some ⟨c, 0, none⟩)) ∧ At w' c wc mc n ov' D N X ∧ Below w.heap.size w w' ∧ ∀ q, AtR c wc mc q → w.heap.size ≤ q
theorem cloneOp_any (va : Option Addr) (vc : Nat) (l : List Int) (w : World) (hn : l = [] → Value.slice va l.length vc = .slice none 0 0) (hv : Nums w (.slice va l.length vc) l) (hl : l.length ≤ 1000000) :
    Calls Tryz.prog 57 #[.slice va l.length vc] w fun e w' => ∃ ua uc, e = .returned (.slice ua l.length uc) ∧ w'.ownsRow w.heap.size 3 1 (.slice ua l.length uc) l.length (nvs l) ∧ (l = [] → Value.slice ua l.length uc = .slice none 0 0) ∧ Below w.heap.size w w' := by
  cases l with
  | nil =>
    have h := hn rfl
    rw [show (Value.slice va ([] : List Int).length vc) = .slice none 0 0 from h]
    refine (cloneN_nil w).mono ?_
    rintro e w' ⟨rfl, rfl⟩
    exact ⟨none, 0, rfl, World.ownsRow_nil _ _ _ _, fun _ => rfl, Below.refl _ _⟩
  | cons x l =>
    refine (cloneN_any _ _ w hv (by omega)).mono ?_
    rintro e w' ⟨ua, uc, rfl, ho, hb⟩
    exact ⟨ua, uc, rfl, ho, (fun e => by cases e), hb⟩
set_option maxRecDepth 100000 in
set_option maxHeartbeats 4000000 in
theorem aclone_any (b wb mb n : Nat) (ov : Value) (D : DataW Value) (N : AtN) (X : List SX) (w : World) (h : At w b wb mb n ov D N X) (hl : N.op.length ≤ 1000000) (hX : X.length ≤ 1000000) :
    Calls Tryz.prog 18 #[.pointer (some ⟨b, 0, none⟩)] w (ClP n D N X w) := by
  obtain ⟨va, vc, rfl⟩ := h.m.shape
  have H := hid h
  have hbox := h.m.box
  have HN := hid h.nil
  have HL := hid hl
  have HX := hid hX
  clear h hl hX
  go_enter Tryz.func18, Tryz.ntmps18
  unfold atC at hbox
  go_upto_region 4 with (first | (refine wpl_loadA rfl _ rfl b rfl _ _ _ rfl hbox ?_) | (refine wpl_storeA rfl _ _ rfl w.heap.size _ _ _ _ _ _ rfl rfl rfl rfl rfl rfl rfl rfl _ _ rfl (heap_alloc_new _ _) ?_))
  have hC3 := setRow_heap _ _ _ #[.int .i64 N.bl, .int .i64 N.ep, .int .i64 N.nx, .slice va N.op.length vc, .pointer (some ⟨wb, 0, none⟩), .map (some mb)] _ _ (heap_alloc_new w (.cells #[.int .i64 0, .int .i64 0, .int .i64 0, .slice none 0 0, .pointer none, .map none] 72))
  have hB3 := below_row ((Below.refl w.heap.size w).alloc (Nat.le_refl _) (.cells #[.int .i64 0, .int .i64 0, .int .i64 0, .slice none 0 0, .pointer none, .map none] 72)) (Nat.le_refl w.heap.size) #[.int .i64 N.bl, .int .i64 N.ep, .int .i64 N.nx, .slice va N.op.length vc, .pointer (some ⟨wb, 0, none⟩), .map (some mb)]
  generalize (w.alloc (.cells #[.int .i64 0, .int .i64 0, .int .i64 0, .slice none 0 0, .pointer none, .map none] 72)).setRow w.heap.size #[.int .i64 N.bl, .int .i64 N.ep, .int .i64 N.nx, .slice va N.op.length vc, .pointer (some ⟨wb, 0, none⟩), .map (some mb)] = w3 at *
  obtain ⟨C, hCe⟩ : ∃ C, C = w.heap.size := ⟨_, rfl⟩
  rw [← hCe] at hC3
  rw [← hCe]
  have HCE := hid hCe
  have HB3 := hid hB3
  have HC3 := hid hC3
  have H3 := hid (H.out.below hB3)
  clear hCe hB3 hC3 hbox
  have c3 : w3.cell? ⟨b, 3, none⟩ = some (.slice va N.op.length vc) := H3.out.m.cell 3
  go_upto_region 5 with (go_at_call 57; refine (cloneOp_any va vc N.op _ HN.out (nums_own H3.out.m.opn rfl) HL.out).mono ?_; rintro e w4 ⟨ua, uc, rfl, ho4, hn4, hb4⟩; have O4 := hid ho4; have N4 := hid hn4; have HB4 := hid hb4; have k4 : w4.cell? ⟨C, 3, none⟩ = some (.slice va N.op.length vc) := (cell_of_row _ _ _ _ _ _ ((hb4.block C (lt_of_block HC3.out)).trans HC3.out)).trans rfl; have f4 : w4.frozen? ⟨C, 3, none⟩ = false := frozen_of_row _ _ _ _ _ ((hb4.block C (lt_of_block HC3.out)).trans HC3.out); clear ho4 hn4 hb4 c3)
  have hC4 := (HB4.out.block C (lt_of_block HC3.out)).trans HC3.out
  have HC5 := hid (show (w4.setCell ⟨C, 3, none⟩ (.slice ua N.op.length uc)).heap[C]? = _ from heap_setCell_same _ _ _ _ _ _ hC4)
  have T5 : Hid (Tr (fun q => q = C) w4 (w4.setCell ⟨C, 3, none⟩ (.slice ua N.op.length uc))) := hid (Tr.set rfl)
  have HB45 : Hid (Below w.heap.size w w4) := hid (HB3.out.trans (HB4.out.mono HB3.out.size))
  have B5 := hid (HB45.out.trans (T5.out.to (fun q hq => by rw [show q = C from hq, HCE.out]; exact Nat.le_refl _) HB45.out.size))
  have HC4 := hid hC4
  have L5 : Hid (C < (w4.setCell ⟨C, 3, none⟩ (.slice ua N.op.length uc)).heap.size) := hid (lt_of_block HC5.out)
  clear hC4 k4 f4 HC3
  generalize w4.setCell ⟨C, 3, none⟩ (.slice ua N.op.length uc) = w5 at *
  have H5 := hid (H.out.below B5.out)
  have c5 : w5.cell? ⟨b, 4, none⟩ = some (.pointer (some ⟨wb, 0, none⟩)) := H5.out.m.cell 4
  go_upto_region 6 with (go_at_call 58; refine (cloneM_any wb _ _ H5.out.m.whr (by rw [List.length_map]; exact HX.out)).mono ?_; rintro e w6 ⟨g, rfl, hm6, hg6, -, hb6⟩; have M6 := hid hm6; have G6 := hid hg6; have HB6 := hid hb6; have k6 : w6.cell? ⟨C, 4, none⟩ = some (.pointer (some ⟨wb, 0, none⟩)) := (cell_of_row _ _ _ _ _ _ ((hb6.block C (lt_of_block HC5.out)).trans HC5.out)).trans rfl; have f6 : w6.frozen? ⟨C, 4, none⟩ = false := frozen_of_row _ _ _ _ _ ((hb6.block C (lt_of_block HC5.out)).trans HC5.out); clear hm6 hg6 hb6 c5)
  have hC6 := (HB6.out.block C (lt_of_block HC5.out)).trans HC5.out
  have HC7 := hid (show (w6.setCell ⟨C, 4, none⟩ (.pointer (some ⟨g, 0, none⟩))).heap[C]? = _ from heap_setCell_same _ _ _ _ _ _ hC6)
  have T7 : Hid (Tr (fun q => q = C) w6 (w6.setCell ⟨C, 4, none⟩ (.pointer (some ⟨g, 0, none⟩)))) := hid (Tr.set rfl)
  have HB67 : Hid (Below w.heap.size w w6) := hid (B5.out.trans (HB6.out.mono B5.out.size))
  have B7 := hid (HB67.out.trans (T7.out.to (fun q hq => by rw [show q = C from hq, HCE.out]; exact Nat.le_refl _) HB67.out.size))
  have HC6 := hid hC6
  have L7 : Hid (C < (w6.setCell ⟨C, 4, none⟩ (.pointer (some ⟨g, 0, none⟩))).heap.size) := hid (lt_of_block HC7.out)
  clear hC6 k6 f6 HC5
  generalize w6.setCell ⟨C, 4, none⟩ (.pointer (some ⟨g, 0, none⟩)) = w7 at *
  have H7 := hid (H.out.below B7.out)
  have c7 : w7.cell? ⟨b, 5, none⟩ = some (.map (some mb)) := H7.out.m.cell 5
  go_wp2_with (go_at_call 59; refine (mclone_any mb n D _ H7.out.m.own).mono ?_; rintro e w8 ⟨m, rfl, hm8, hg8, hb8⟩; have M8 := hid hm8; have G8 := hid hg8; have HB8 := hid hb8; have k8 : w8.cell? ⟨C, 5, none⟩ = some (.map (some mb)) := (cell_of_row _ _ _ _ _ _ ((hb8.block C (lt_of_block HC7.out)).trans HC7.out)).trans rfl; have f8 : w8.frozen? ⟨C, 5, none⟩ = false := frozen_of_row _ _ _ _ _ ((hb8.block C (lt_of_block HC7.out)).trans HC7.out); clear hm8 hg8 hb8 c7)
  go_ret
  have hC8 := (HB8.out.block C (lt_of_block HC7.out)).trans HC7.out
  have HC9 := (show (w8.setCell ⟨C, 5, none⟩ (.map (some m))).heap[C]? = _ from heap_setCell_same _ _ _ _ _ _ hC8)
  have T9 : Tr (fun q => q = C) w8 (w8.setCell ⟨C, 5, none⟩ (.map (some m))) := Tr.set rfl
  have HB89 : Below w.heap.size w w8 := B7.out.trans (HB8.out.mono B7.out.size)
  have B9 := HB89.trans (T9.to (fun q hq => by rw [show q = C from hq, HCE.out]; exact Nat.le_refl _) HB89.size)
  have hg : g ≠ C := by have h1 := G6.out; have h2 := L5.out; omega
  have hm : m ≠ C := by have h1 := G8.out; have h2 := L7.out; omega
  have T69 : Tr (fun q => q = C) w6 (w8.setCell ⟨C, 5, none⟩ (.map (some m))) := T7.out.trans ((Tr.below HB8.out).trans T9)
  have T49 : Tr (fun q => q = C) w4 (w8.setCell ⟨C, 5, none⟩ (.map (some m))) := T5.out.trans ((Tr.below HB6.out).trans T69)
  refine ⟨C, g, m, .slice ua N.op.length uc, rfl, ⟨⟨by simpa [atC] using HC9, ?_, ?_, M8.out.setCell (a := ⟨C, 5, none⟩) hm _, H.out.m.sm, fun x hx => (H.out.m.mem x hx).below B9⟩, N4.out⟩, B9, ?_⟩
  · exact own_lower (own_kept O4.out fun q cs _ hh => T49.block q (lt_of_block hh) fun e => by rw [show q = C from e, HC4.out] at hh; cases hh) (Nat.zero_le _)
  · obtain ⟨va7, vc7, h1, h2⟩ := M6.out.at'
    exact ⟨⟨va7, vc7, (T69.block g (lt_of_block h1) hg).trans h1, own_kept h2 fun q cs _ hh => T69.block q (lt_of_block hh) fun e => by rw [show q = C from e, HC6.out] at hh; cases hh⟩, M6.out.can, M6.out.ints⟩
  · rintro q (rfl | rfl | rfl)
    · rw [HCE.out]; exact Nat.le_refl _
    · exact Nat.le_trans B5.out.size G6.out
    · exact Nat.le_trans B7.out.size G8.out
end Go.Proofs.YtmocedkbabnpfaaGreat
namespace Go.Proofs.YtmocedkbabnpfaaGreat
open Go.RowKit Go.Maps Go.Shelf
set_option linter.unusedVariables false
set_option linter.unusedSimpArgs false

set_option maxRecDepth 100000 in
theorem nilGet_any (i : Int) (w : World) : Calls Tryz.prog 23 #[.pointer none, .int .i64 i] w fun e w' => e = .returned (.tuple #[.agg #[.int .i64 0, .int .i64 0, .int .i64 0, .slice none 0 0, .slice none 0 0], .bool false]) ∧ Below w.heap.size w w' := by
  go_enter Tryz.func23, Tryz.ntmps23
  go_wp2_with fail
  refine bodyPost_ret (results_shB rfl _ _ w.heap.size _ _ _ rfl rfl (heap_alloc_new _ _)) rfl ?_
  exact ⟨rfl, (Below.refl _ _).alloc (Nat.le_refl _) _⟩
set_option maxRecDepth 100000 in
theorem nilFind_any (i : Int) (w : World) : Calls Tryz.prog 8 #[.pointer none, .int .i64 i] w fun e w' => e = .returned (.tuple #[.agg #[.int .i64 0, .int .i64 0, .int .i64 0, .slice none 0 0, .slice none 0 0], .bool false]) ∧ Below w.heap.size w w' := by
  go_enter Tryz.func8, Tryz.ntmps8
  go_wp2_with fail
  refine bodyPost_ret (results_shB rfl _ _ w.heap.size _ _ _ rfl rfl (heap_alloc_new _ _)) rfl ?_
  exact ⟨rfl, (Below.refl _ _).alloc (Nat.le_refl _) _⟩
set_option maxRecDepth 100000 in
theorem nilApply_any (c : ChD) (w : World) : Calls Tryz.prog 21 #[.pointer none, chV c] w fun e w' => e = .returned (.int .i64 8) ∧ Below w.heap.size w w' := by
  unfold chV
  go_enter Tryz.func21, Tryz.ntmps21
  go_wp2_with fail
  go_ret
  exact ⟨rfl, (Below.refl _ _).alloc (Nat.le_refl _) _⟩
set_option maxRecDepth 100000 in
theorem nilClone_any (w : World) : Calls Tryz.prog 18 #[.pointer none] w fun e w' => e = .returned (.pointer none) ∧ Below w.heap.size w w' := by
  go_enter Tryz.func18, Tryz.ntmps18
  go_wp2_with fail
  go_ret
  exact ⟨rfl, Below.refl _ _⟩
set_option maxRecDepth 100000 in
theorem nilSame_any (w : World) : Calls Tryz.prog 16 #[.pointer none, .pointer none] w fun e w' => e = .returned (.bool true) ∧ Below w.heap.size w w' := by
  go_enter Tryz.func16, Tryz.ntmps16
  go_wp2_with fail
  go_ret
  exact ⟨rfl, Below.refl _ _⟩
set_option maxRecDepth 100000 in
theorem nilSame_one (b : Nat) (w : World) : Calls Tryz.prog 16 #[.pointer none, .pointer (some ⟨b, 0, none⟩)] w fun e w' => e = .returned (.bool false) ∧ Below w.heap.size w w' := by
  have hE : ∀ W : World, (binOp BinOp.eql 25 (.pointer none) (.pointer (some ⟨b, 0, none⟩))).run Tryz.prog W = .ok (.bool false) W := fun _ => by first | kernel_rfl | rfl | simp [binOp, go_sem]
  go_enter Tryz.func16, Tryz.ntmps16
  go_wp2_with fail
  go_ret
  exact ⟨rfl, Below.refl _ _⟩
set_option maxRecDepth 100000 in
theorem nilBlocks_any (w : World) : Calls Tryz.prog 11 #[.pointer none] w fun e w' => e = .returned (.int .i64 0) ∧ Below w.heap.size w w' := by
  go_enter Tryz.func11, Tryz.ntmps11
  go_wp2_with fail
  go_ret
  exact ⟨rfl, Below.refl _ _⟩
set_option maxRecDepth 100000 in
theorem nilEpoch_any (w : World) : Calls Tryz.prog 24 #[.pointer none] w fun e w' => e = .returned (.int .i64 0) ∧ Below w.heap.size w w' := by
  go_enter Tryz.func24, Tryz.ntmps24
  go_wp2_with fail
  go_ret
  exact ⟨rfl, Below.refl _ _⟩
set_option maxRecDepth 100000 in
theorem nilNext_any (w : World) : Calls Tryz.prog 25 #[.pointer none] w fun e w' => e = .returned (.int .i64 0) ∧ Below w.heap.size w w' := by
  go_enter Tryz.func25, Tryz.ntmps25
  go_wp2_with fail
  go_ret
  exact ⟨rfl, Below.refl _ _⟩
set_option maxRecDepth 100000 in
theorem nilOpen_any (w : World) : Calls Tryz.prog 20 #[.pointer none] w fun e w' => e = .returned (.slice none 0 0) ∧ Below w.heap.size w w' := by
  go_enter Tryz.func20, Tryz.ntmps20
  go_wp2_with fail
  go_ret
  exact ⟨rfl, Below.refl _ _⟩
set_option maxRecDepth 100000 in
theorem nilEncode_any (w : World) : Calls Tryz.prog 13 #[.pointer none] w fun e w' => e = .returned (.slice none 0 0) ∧ Below w.heap.size w w' := by
  go_enter Tryz.func13, Tryz.ntmps13
  go_wp2_with fail
  go_ret
  exact ⟨rfl, Below.refl _ _⟩
set_option maxRecDepth 100000 in
theorem nilShards_any (w : World) : Calls Tryz.prog 19 #[.pointer none] w fun e w' => e = .returned (.slice none 0 0) ∧ Below w.heap.size w w' := by
  have a0 : (w.alloc (.cells #[.pointer none] 25)).cell? ⟨w.heap.size, 0, none⟩ = some (.pointer none) := by rw [cell_of_row _ _ _ _ _ _ (heap_alloc_new _ _)]; rfl
  refine (callsIn_wide (n := 3)).1 ?_
  refine callsIn_of_wp_marks Tryz.func19 rfl trivial ?_ rfl
  simp only [Tryz.ntmps19, List.size_toArray, List.length_cons, List.length_nil, Nat.reduceAdd, Nat.reduceSub, Array.replicate_succ, Array.replicate_zero, List.push_toArray, List.append_toArray, List.nil_append, List.cons_append]
  refine wpIn_wide.2 ?_
  go_wp2_with fail
  exact ⟨_, results_tmp rfl _ _ _, rfl, (Below.refl _ _).alloc (Nat.le_refl _) _⟩
set_option maxRecDepth 100000 in
theorem nilPieces_any (a b : Int) (w : World) : Calls Tryz.prog 7 #[.pointer none, .agg #[.int .i64 a, .int .i64 b]] w fun e w' => e = .returned (.slice none 0 0) ∧ Below w.heap.size w w' := by
  refine (callsIn_wide (n := 3)).1 ?_
  refine callsIn_of_wp_marks Tryz.func7 rfl trivial ?_ rfl
  simp only [Tryz.ntmps7, List.size_toArray, List.length_cons, List.length_nil, Nat.reduceAdd, Nat.reduceSub, Array.replicate_succ, Array.replicate_zero, List.push_toArray, List.append_toArray, List.nil_append, List.cons_append]
  refine wpIn_wide.2 ?_
  go_wp2_with fail
  refine ⟨_, results_tmp rfl _ _ _, rfl, ?_⟩
  first | exact (Below.refl _ _).alloc (Nat.le_refl _) _ | exact ((Below.refl _ _).alloc (Nat.le_refl _) _).alloc (by simp) _ | exact Below.refl _ _
end Go.Proofs.YtmocedkbabnpfaaGreat
namespace Go.Proofs.YtmocedkbabnpfaaGreat
open Go.RowKit
def stC (x : ChD × Bool) : List Value := [.int .i64 x.1.k, .int .i64 x.1.sh, .int .i64 x.1.ot, .int .i64 x.1.at', .int .i64 x.1.out, .int .i64 x.1.in', .bool x.2]
/-- The value v is a slice of the steps l. -/
def Stps (w : World) (v : Value) (l : List (ChD × Bool)) : Prop :=
  ∃ ao n cap, v = .slice ao n cap ∧ n = l.length ∧ n ≤ cap ∧ cap ≤ 9223372036854775807 ∧ (ao = none → cap = 0) ∧ ∀ ad, ao = some ad → ∀ j, (h : j < l.length) → ∀ k u, (stC l[j])[k]? = some u → w.cell? (ad.add (j * 7 + k)) = some u
theorem Stps.below {w w' : World} {v : Value} {l : List (ChD × Bool)} (h : Stps w v l) (hb : Below w.heap.size w w') : Stps w' v l := by
  obtain ⟨ao, n, cap, rfl, h1, h2, h3, h4, h5⟩ := h
  exact ⟨ao, n, cap, rfl, h1, h2, h3, h4, fun ad had j hj k u hk => cell_later hb (h5 ad had j hj k u hk)⟩
theorem Stps.shape {w : World} {v : Value} {l : List (ChD × Bool)} (h : Stps w v l) : ∃ va vc, v = .slice va l.length vc := by
  obtain ⟨ao, n, cap, rfl, rfl, -⟩ := h; exact ⟨_, _, rfl⟩
theorem Stps.len {w : World} {v : Value} {l : List (ChD × Bool)} (h : Stps w v l) : (l.length : Int) ≤ 9223372036854775807 := by
  obtain ⟨ao, n, cap, rfl, h1, h2, h3, -⟩ := h; omega
theorem Stps.addr {w : World} {ao : Option Addr} {cap : Nat} {l : List (ChD × Bool)} (h : Stps w (.slice ao l.length cap) l) (hl : 0 < l.length) : ∃ b o, ao = some ⟨b, o, none⟩ := by
  obtain ⟨ao', n, cap', e, h1, h2, h3, h4, h5⟩ := h
  cases e
  cases ao with
  | none => have := h4 rfl; omega
  | some a =>
    have h0 := h5 a rfl 0 hl 0 _ rfl
    have := World.cell?_spot h0
    obtain ⟨b, o, sp⟩ := a
    simp [Addr.add] at this
    subst this
    exact ⟨b, o, rfl⟩
theorem Stps.range {w : World} {b o cap : Nat} {l : List (ChD × Bool)} (h : Stps w (.slice (some ⟨b, o, none⟩) l.length cap) l) (j : Nat) (hj : j < l.length) : w.rangeAt b (o + j * 7) (stC l[j]) := by
  obtain ⟨ao, n, cap', e, h1, h2, h3, h4, h5⟩ := h
  cases e
  intro k u hk
  have := h5 _ rfl j hj k u hk
  rw [Addr.add_lit, ← Nat.add_assoc] at this
  exact this
end Go.Proofs.YtmocedkbabnpfaaGreat
namespace Go.Proofs.YtmocedkbabnpfaaGreat
open Go.RowKit Go.Maps Go.Shelf
set_option linter.unusedVariables false
set_option linter.unusedSimpArgs false

theorem u64_mod (n : Int) : IntKind.u64.wrap n = n % 18446744073709551616 := by simp [IntKind.wrap, IntKind.bits, IntKind.signed]
theorem rest_in2 (t m : Int) (h0 : 1 ≤ m) (h1 : m ≤ 1000000000) : 0 ≤ IntKind.i64.wrap ((IntKind.u64.wrap t).tmod m) ∧ IntKind.i64.wrap ((IntKind.u64.wrap t).tmod m) < m := by
  rw [u64_mod, Int.tmod_eq_emod_of_nonneg (by omega)]
  have a := Int.emod_nonneg (t % 18446744073709551616) (b := m) (by omega)
  have b := Int.emod_lt_of_pos (t % 18446744073709551616) (b := m) (by omega)
  rw [IntWalk.i64_in _ ⟨by omega, by omega⟩]
  exact ⟨a, b⟩
def stV (c : ChD) (nr : Bool) : Value := .agg #[.int .i64 c.k, .int .i64 c.sh, .int .i64 c.ot, .int .i64 c.at', .int .i64 c.out, .int .i64 c.in', .bool nr]
/-- What Of answers. -/
def OfP (w : World) (e : Ending) (w' : World) : Prop := ∃ c : ChD, e = .returned (chV c) ∧ ChJ c ∧ Below w.heap.size w w'
theorem heap_three (w : World) (A B C : Obj) : (((w.alloc A).alloc B).alloc C).heap[w.heap.size]? = some A ∧ (((w.alloc A).alloc B).alloc C).heap[w.heap.size + 1]? = some B ∧ (((w.alloc A).alloc B).alloc C).heap[w.heap.size + 2]? = some C := by
  obtain ⟨h1, h2⟩ := heap_two w A B
  refine ⟨?_, ?_, ?_⟩
  · rw [Below.heap_alloc _ _ _ (by simp; omega)]; exact h1
  · rw [Below.heap_alloc _ _ _ (by simp)]; exact h2
  · have := heap_alloc_new ((w.alloc A).alloc B) C
    simpa using this
set_option maxRecDepth 100000 in
set_option maxHeartbeats 8000000 in
theorem of_any (c : ChD) (nr : Bool) (xb B : Nat) (rv sv : Value) (N : AtN) (Y : List SX) (w : World) (hc : ChJ c) (h : RB w xb N rv sv Y) (g : Gd B N (Y.map (·.s))) (hB : B ≤ 1000) :
    Calls Tryz.prog 22 #[stV c nr, .pointer (some ⟨xb, 0, none⟩)] w (OfP w) := by
  obtain ⟨k, sh, ot, at', out, in'⟩ := c
  cases nr with
  | false =>
    obtain ⟨nr, hnr⟩ : ∃ nr, nr = false := ⟨_, rfl⟩
    rw [← hnr]
    have HNR := hid hnr
    have HJ := hid hc
    clear hnr h g hc
    obtain ⟨w1, hw1⟩ : ∃ w1, w1 = ((w.alloc (.cells #[.int .i64 k, .int .i64 sh, .int .i64 ot, .int .i64 at', .int .i64 out, .int .i64 in', .bool nr] 53)).alloc (.cells z6 51)).alloc (.cells #[.int .i64 k, .int .i64 sh, .int .i64 ot, .int .i64 at', .int .i64 out, .int .i64 in'] 51) := ⟨_, rfl⟩
    obtain ⟨hC1, hR1, hA1⟩ := heap_three w (.cells #[.int .i64 k, .int .i64 sh, .int .i64 ot, .int .i64 at', .int .i64 out, .int .i64 in', .bool nr] 53) (.cells z6 51) (.cells #[.int .i64 k, .int .i64 sh, .int .i64 ot, .int .i64 at', .int .i64 out, .int .i64 in'] 51)
    rw [← hw1] at hC1 hR1 hA1
    have HB1 : Hid (Below w.heap.size w w1) := hid (by rw [hw1]; exact (((Below.refl _ _).alloc (Nat.le_refl _) _).alloc (by simp) _).alloc (by simp; omega) _)
    have HW1 := hid hw1
    have HC1 := hid hC1
    have HR1 := hid hR1
    have HA1 := hid hA1
    obtain ⟨w0, hw0⟩ : ∃ w0, w0 = (w.alloc (.cells #[.int .i64 k, .int .i64 sh, .int .i64 ot, .int .i64 at', .int .i64 out, .int .i64 in', .bool nr] 53)).alloc (.cells z6 51) := ⟨_, rfl⟩
    have hrg : w0.rangeAt w.heap.size 0 [.int .i64 k, .int .i64 sh, .int .i64 ot, .int .i64 at', .int .i64 out, .int .i64 in'] := by
      rw [hw0]
      refine range_of_row (heap_two w _ _).1 0 _ fun j v hv => ?_
      match j, hv with
      | 0, hv => exact hv
      | 1, hv => exact hv
      | 2, hv => exact hv
      | 3, hv => exact hv
      | 4, hv => exact hv
      | 5, hv => exact hv
    have HW0 := hid hw0
    have HS0 : Hid (w0.heap.size = w.heap.size + 2) := hid (by rw [hw0]; simp)
    rw [← hw0] at HW1
    clear hw1 hw0 hC1 hR1 hA1
    unfold z6 at HW0
    obtain ⟨dC, hdC1, hdC2⟩ := Tryz.rowCh
    unfold stV
    go_enter Tryz.func22, Tryz.ntmps22
    go_upto_region 1 with fail
    rw [← HW0.out]
    clear HW0
    go_upto_region 2 with (refine wpList_load_mid rfl _ _ rfl w.heap.size 0 (by go_simp) [.int .i64 k, .int .i64 sh, .int .i64 ot, .int .i64 at', .int .i64 out, .int .i64 in'] dC hrg hdC1 hdC2 Tryz.sizeCh ?_)
    rw [← HW1.out]
    rw [HS0.out]
    clear HW1 hrg HS0
    obtain ⟨C, hC⟩ : ∃ C, C = w.heap.size := ⟨_, rfl⟩
    rw [← hC] at HC1 HR1 HA1
    rw [← hC]
    have HCE : Hid (w.heap.size ≤ C) := hid (by omega)
    clear hC
    have c6 : w1.cell? ⟨C, 6, none⟩ = some (.bool nr) := (cell_of_row _ _ _ _ _ _ HC1.out).trans rfl
    obtain rfl := HNR.out
    have hA9 := HA1.out
    have hR9 := HR1.out
    have HB9 := HB1
    unfold z6 at hR9
    clear HA1 HR1
    go_wp2_with (first | (refine wpl_loadK rfl _ rfl (C + 2) rfl _ _ _ rfl hA9 ?_) | (refine wpl_storeK rfl _ _ rfl (C + 1) _ _ _ _ _ _ rfl rfl rfl rfl rfl rfl rfl rfl _ _ rfl hR9 ?_))
    (try simp only [Exit.inBlock, Exit.then])
    refine bodyPost_ret (results_ch rfl _ _ (C + 1) _ _ _ rfl rfl (setRow_heap _ _ _ _ _ _ hR9)) rfl ?_
    exact ⟨⟨_, _, _, _, _, _⟩, rfl, HJ.out, below_row HB9.out (by have := HCE.out; omega) _⟩
  | true =>
    obtain ⟨nr, hnr⟩ : ∃ nr, nr = true := ⟨_, rfl⟩
    rw [← hnr]
    have HNR := hid hnr
    have HJ := hid hc
    have H := hid h
    have G := hid g
    obtain ⟨-, sva, svc, rfl⟩ := h.shapes
    have HYL : Hid (0 < Y.length) := hid (by
      cases Y with
      | nil => have := g.bl; have h0 : (0 : Int) = N.bl := g.ch; omega
      | cons y l => simp)
    clear hnr h g hc
    obtain ⟨w1, hw1⟩ : ∃ w1, w1 = ((w.alloc (.cells #[.int .i64 k, .int .i64 sh, .int .i64 ot, .int .i64 at', .int .i64 out, .int .i64 in', .bool nr] 53)).alloc (.cells z6 51)).alloc (.cells #[.int .i64 k, .int .i64 sh, .int .i64 ot, .int .i64 at', .int .i64 out, .int .i64 in'] 51) := ⟨_, rfl⟩
    obtain ⟨hC1, hR1, hA1⟩ := heap_three w (.cells #[.int .i64 k, .int .i64 sh, .int .i64 ot, .int .i64 at', .int .i64 out, .int .i64 in', .bool nr] 53) (.cells z6 51) (.cells #[.int .i64 k, .int .i64 sh, .int .i64 ot, .int .i64 at', .int .i64 out, .int .i64 in'] 51)
    rw [← hw1] at hC1 hR1 hA1
    have HB1 : Hid (Below w.heap.size w w1) := hid (by rw [hw1]; exact (((Below.refl _ _).alloc (Nat.le_refl _) _).alloc (by simp) _).alloc (by simp; omega) _)
    have HW1 := hid hw1
    have HC1 := hid hC1
    have HR1 := hid hR1
    have HA1 := hid hA1
    obtain ⟨w0, hw0⟩ : ∃ w0, w0 = (w.alloc (.cells #[.int .i64 k, .int .i64 sh, .int .i64 ot, .int .i64 at', .int .i64 out, .int .i64 in', .bool nr] 53)).alloc (.cells z6 51) := ⟨_, rfl⟩
    have hrg : w0.rangeAt w.heap.size 0 [.int .i64 k, .int .i64 sh, .int .i64 ot, .int .i64 at', .int .i64 out, .int .i64 in'] := by
      rw [hw0]
      refine range_of_row (heap_two w _ _).1 0 _ fun j v hv => ?_
      match j, hv with
      | 0, hv => exact hv
      | 1, hv => exact hv
      | 2, hv => exact hv
      | 3, hv => exact hv
      | 4, hv => exact hv
      | 5, hv => exact hv
    have HW0 := hid hw0
    have HS0 : Hid (w0.heap.size = w.heap.size + 2) := hid (by rw [hw0]; simp)
    rw [← hw0] at HW1
    clear hw1 hw0 hC1 hR1 hA1
    unfold z6 at HW0
    obtain ⟨dC, hdC1, hdC2⟩ := Tryz.rowCh
    unfold stV
    go_enter Tryz.func22, Tryz.ntmps22
    go_upto_region 1 with fail
    rw [← HW0.out]
    clear HW0
    go_upto_region 2 with (refine wpList_load_mid rfl _ _ rfl w.heap.size 0 (by go_simp) [.int .i64 k, .int .i64 sh, .int .i64 ot, .int .i64 at', .int .i64 out, .int .i64 in'] dC hrg hdC1 hdC2 Tryz.sizeCh ?_)
    rw [← HW1.out]
    rw [HS0.out]
    clear HW1 hrg HS0
    obtain ⟨C, hC⟩ : ∃ C, C = w.heap.size := ⟨_, rfl⟩
    rw [← hC] at HC1 HR1 HA1
    rw [← hC]
    have HCE : Hid (w.heap.size ≤ C) := hid (by omega)
    clear hC
    have c6 : w1.cell? ⟨C, 6, none⟩ = some (.bool nr) := (cell_of_row _ _ _ _ _ _ HC1.out).trans rfl
    obtain rfl := HNR.out
    have a1 : w1.cell? ⟨C + 2, 1, none⟩ = some (.int .i64 sh) := (cell_of_row _ _ _ _ _ _ HA1.out).trans rfl
    have H1 := hid (H.out.below HB1.out)
    have x4 : w1.cell? ⟨xb, 4, none⟩ = some (.slice sva Y.length svc) := H1.out.cell 4
    go_upto_region 4 with fail
    refine wp_region_held_drew (S := fun Z => Z.cell? ⟨C + 2, 1, none⟩ = some (.int .i64 sh) ∧ Z.cell? ⟨xb, 4, none⟩ = some (.slice sva Y.length svc)) (by kernel_rfl) ⟨a1, x4⟩ (fun hHeld => ?_)
    have hwl : IntKind.u64.wrap (Y.length : Int) = (Y.length : Int) := IntWalk.u64_in _ ⟨by omega, by have := G.out.len; rw [List.length_map] at this; omega⟩
    have hwl0 : ¬ (Y.length : Int) = 0 := by have := HYL.out; omega
    have hyn : ¬ Y = [] := fun e => by have := HYL.out; rw [e] at this; simp at this
    refine wpAnyH_take (i := 0) (v := ?av0) rfl (by kernel_rfl) (by kernel_rfl) (by kernel_rfl) (fun _ _ _ h => h) (Or.inl ⟨by rfl, ?ay0⟩) (by assumption) ?ar0
    case ay0 => (intro w hSw; (try dsimp only at hSw); go_simp; try with_reducible rfl)
    (try simp only [Act.put, List.setIfInBounds_toArray, List.set_cons_zero, List.set_cons_succ, List.getElem_toArray, List.getElem_cons_succ, List.getElem_cons_zero])
    refine wpAnyH_take (i := 1) (v := ?av1) rfl (by kernel_rfl) (by kernel_rfl) (by kernel_rfl) (fun _ _ _ h => h) (Or.inl ⟨by rfl, ?ay1⟩) (by assumption) ?ar1
    case ay1 => (intro w hSw; (try dsimp only at hSw); go_simp; try with_reducible rfl)
    (try simp only [Act.put, List.setIfInBounds_toArray, List.set_cons_zero, List.set_cons_succ, List.getElem_toArray, List.getElem_cons_succ, List.getElem_cons_zero])
    refine wpAnyH_take (i := 2) (v := ?av2) rfl (by kernel_rfl) (by kernel_rfl) (by kernel_rfl) (fun _ _ _ h => h) (Or.inl ⟨by rfl, ?ay2⟩) (by assumption) ?ar2
    case ay2 => (intro w hSw; (try dsimp only at hSw); go_simp; try with_reducible rfl)
    (try simp only [Act.put, List.setIfInBounds_toArray, List.set_cons_zero, List.set_cons_succ, List.getElem_toArray, List.getElem_cons_succ, List.getElem_cons_zero])
    refine wpAnyH_take (i := 3) (v := ?av3) rfl (by kernel_rfl) (by kernel_rfl) (by kernel_rfl) (fun _ _ _ h => h) (Or.inl ⟨by rfl, ?ay3⟩) (by assumption) ?ar3
    case ay3 => (intro w hSw; (try dsimp only at hSw); go_simp; try with_reducible rfl)
    (try simp only [Act.put, List.setIfInBounds_toArray, List.set_cons_zero, List.set_cons_succ, List.getElem_toArray, List.getElem_cons_succ, List.getElem_cons_zero])
    refine wpAnyH_take (i := 4) (v := ?av4) rfl (by kernel_rfl) (by kernel_rfl) (by kernel_rfl) (fun _ _ _ h => h) (Or.inl ⟨by rfl, ?ay4⟩) (by assumption) ?ar4
    case ay4 => (intro w hSw; (try dsimp only at hSw); go_simp; try with_reducible rfl)
    (try simp only [Act.put, List.setIfInBounds_toArray, List.set_cons_zero, List.set_cons_succ, List.getElem_toArray, List.getElem_cons_succ, List.getElem_cons_zero])
    refine wpAnyH_take (i := 5) (v := ?av5) rfl (by kernel_rfl) (by kernel_rfl) (by kernel_rfl) (fun _ _ _ h => h) (Or.inl ⟨by rfl, ?ay5⟩) (by assumption) ?ar5
    case ay5 => (intro w hSw; (try dsimp only at hSw); go_simp; try with_reducible rfl)
    (try simp only [Act.put, List.setIfInBounds_toArray, List.set_cons_zero, List.set_cons_succ, List.getElem_toArray, List.getElem_cons_succ, List.getElem_cons_zero])
    refine wpAnyH_take (i := 6) (v := ?av6) rfl (by kernel_rfl) (by kernel_rfl) (by kernel_rfl) (fun _ _ _ h => h) (Or.inl ⟨by rfl, ?ay6⟩) (by assumption) ?ar6
    case ay6 => (intro w hSw; (try dsimp only at hSw); go_simp; try with_reducible rfl)
    (try simp only [Act.put, List.setIfInBounds_toArray, List.set_cons_zero, List.set_cons_succ, List.getElem_toArray, List.getElem_cons_succ, List.getElem_cons_zero])
    refine wpAnyH_take (i := 7) (v := ?av7) rfl (by kernel_rfl) (by kernel_rfl) (by kernel_rfl) (fun _ _ _ h => h) (Or.inl ⟨by rfl, ?ay7⟩) (by assumption) ?ar7
    case ay7 => (intro w hSw; (try dsimp only at hSw); go_simp; try with_reducible rfl)
    (try simp only [Act.put, List.setIfInBounds_toArray, List.set_cons_zero, List.set_cons_succ, List.getElem_toArray, List.getElem_cons_succ, List.getElem_cons_zero])
    refine wpAnyH_take (i := 8) (v := ?av8) rfl (by kernel_rfl) (by kernel_rfl) (by kernel_rfl) (fun _ _ _ h => h) (Or.inl ⟨by rfl, ?ay8⟩) (by assumption) ?ar8
    case ay8 => (intro w hSw; (try dsimp only at hSw); go_simp; try with_reducible rfl)
    (try simp only [Act.put, List.setIfInBounds_toArray, List.set_cons_zero, List.set_cons_succ, List.getElem_toArray, List.getElem_cons_succ, List.getElem_cons_zero])
    refine wpAnyH_take (i := 9) (v := ?av9) rfl (by kernel_rfl) (by kernel_rfl) (by kernel_rfl) (fun _ _ _ h => h) (Or.inl ⟨by rfl, ?ay9⟩) (by assumption) ?ar9
    case ay9 => (intro w hSw; (try dsimp only at hSw); go_simp; try with_reducible rfl)
    (try simp only [Act.put, List.setIfInBounds_toArray, List.set_cons_zero, List.set_cons_succ, List.getElem_toArray, List.getElem_cons_succ, List.getElem_cons_zero])
    refine wpAnyH_take (i := 10) (v := ?av10) rfl (by kernel_rfl) (by kernel_rfl) (by kernel_rfl) (fun _ _ _ h => h) (Or.inl ⟨by rfl, ?ay10⟩) (by assumption) ?ar10
    case ay10 => (intro w hSw; (try dsimp only at hSw); go_simp; try with_reducible rfl)
    (try simp only [Act.put, List.setIfInBounds_toArray, List.set_cons_zero, List.set_cons_succ, List.getElem_toArray, List.getElem_cons_succ, List.getElem_cons_zero])
    refine wpAnyH_take (i := 11) (v := ?av11) rfl (by kernel_rfl) (by kernel_rfl) (by kernel_rfl) (fun _ _ _ h => h) (Or.inl ⟨by rfl, ?ay11⟩) (by assumption) ?ar11
    case ay11 => (intro w hSw; (try dsimp only at hSw); go_simp; try with_reducible rfl)
    (try simp only [Act.put, List.setIfInBounds_toArray, List.set_cons_zero, List.set_cons_succ, List.getElem_toArray, List.getElem_cons_succ, List.getElem_cons_zero])
    refine wpAnyH_done (by kernel_rfl) ?_ _
    have hrr := rest_in2 sh (Y.length : Int) (by have := HYL.out; omega) (by have := G.out.len; rw [List.length_map] at this; omega)
    obtain ⟨i, hie⟩ : ∃ i : Nat, IntKind.i64.wrap ((IntKind.u64.wrap sh).tmod (Y.length : Int)) = (i : Int) := ⟨(IntKind.i64.wrap ((IntKind.u64.wrap sh).tmod (Y.length : Int))).toNat, by rw [Int.toNat_of_nonneg hrr.1]⟩
    have hil : (i : Int) < (Y.length : Int) := by rw [← hie]; exact hrr.2
    rw [hie]
    clear hrr hie hHeld hwl hwl0 hyn
    have HIL : Hid (i < Y.length) := hid (by omega)
    have H2 := hid (H1.out.below ((Below.refl w1.heap.size w1).drew))
    have HA2 : Hid (w1.drew.heap[C + 2]? = _) := hid HA1.out
    have HR2 : Hid (w1.drew.heap[C + 1]? = _) := hid HR1.out
    have HB2 : Hid (Below w.heap.size w w1.drew) := hid (HB1.out.drew)
    clear H1 HA1 HR1 HB1 HC1 a1 x4 c6
    generalize w1.drew = w2 at *
    obtain ⟨g, rfl⟩ : ∃ g, sva = some ⟨g, 0, none⟩ := own_some H.out.row HYL.out
    have x4 : w2.cell? ⟨xb, 4, none⟩ = some (.slice (some ⟨g, 0, none⟩) Y.length svc) := H2.out.cell 4
    have y0 : w2.cell? ⟨g, i * 5, none⟩ = some (.int .i64 Y[i].s.id) := own_cell H2.out.row (shvs_part Y i HIL.out 0 _ rfl)
    have a1 : w2.cell? ⟨C + 2, 1, none⟩ = some (.int .i64 sh) := (cell_of_row _ _ _ _ _ _ HA2.out).trans rfl
    have f1 : w2.frozen? ⟨C + 2, 1, none⟩ = false := frozen_of_row _ _ _ _ _ HA2.out
    have HID : Hid (1 ≤ Y[i].s.id ∧ I64 Y[i].s.id) := hid (by
      have := G.out.id Y[i].s (List.mem_map.2 ⟨Y[i], List.getElem_mem _, rfl⟩)
      have := G.out.nx
      exact ⟨by omega, by constructor <;> omega⟩)
    have HFT : Hid (0 ≤ Y[i].s.fr ∧ Y[i].s.fr < Y[i].s.to ∧ Y[i].s.to ≤ 256) := hid (by
      have := ChnD.mem _ _ _ G.out.ch Y[i].s (List.mem_map.2 ⟨Y[i], List.getElem_mem _, rfl⟩)
      have := G.out.bl
      omega)
    have HFC : Hid (∀ W : World, RB W xb N rv (.slice (some ⟨g, 0, none⟩) Y.length svc) Y → W.cell? ⟨g, i * 5 + 1, none⟩ = some (.int .i64 Y[i].s.fr) ∧ W.cell? ⟨g, i * 5 + 1 + 1, none⟩ = some (.int .i64 Y[i].s.to)) := hid fun W hW => ⟨own_cell hW.row (shvs_part Y i HIL.out 1 _ rfl), own_cell hW.row (shvs_part Y i HIL.out 2 _ rfl)⟩
    generalize Y[i].s.id = id at *
    generalize Y[i].s.fr = fr at *
    generalize Y[i].s.to = tt at *
    go_upto_region 6 with fail
    clear x4 y0 a1 f1
    have HA3 : Hid ((w2.setCell ⟨C + 2, 1, none⟩ (.int .i64 id)).heap[C + 2]? = some (.cells #[.int .i64 k, .int .i64 id, .int .i64 ot, .int .i64 at', .int .i64 out, .int .i64 in'] 51 (0, 0))) := hid (heap_setCell_same _ _ _ _ _ _ HA2.out)
    have HR3 : Hid ((w2.setCell ⟨C + 2, 1, none⟩ (.int .i64 id)).heap[C + 1]? = some (.cells z6 51 (0, 0))) := hid ((Below.heap_setCell _ _ _ _ (by show C + 1 ≠ C + 2; omega)).trans HR2.out)
    have HB3 : Hid (Below w.heap.size w (w2.setCell ⟨C + 2, 1, none⟩ (.int .i64 id))) := hid (below_set HB2.out (by have := HCE.out; omega))
    clear HA2 HR2 HB2 H2
    generalize w2.setCell ⟨C + 2, 1, none⟩ (.int .i64 id) = w3 at *
    have H3 := hid (H.out.below HB3.out)
    have x4 : w3.cell? ⟨xb, 4, none⟩ = some (.slice (some ⟨g, 0, none⟩) Y.length svc) := H3.out.cell 4
    have a0 : w3.cell? ⟨C + 2, 0, none⟩ = some (.int .i64 k) := (cell_of_row _ _ _ _ _ _ HA3.out).trans rfl
    have hwi : IntKind.i64.wrap ((i : Int) + 1) = (i : Int) + 1 := IntWalk.i64_in _ ⟨by omega, by have := G.out.len; rw [List.length_map] at this; omega⟩
    have hi0 : (0 : Int) ≤ (i : Int) + 1 := by omega
    by_cases h2 : k = 2
    · subst h2
      by_cases hlt : (i : Int) + 1 < (Y.length : Int)
      · have hi1 : i + 1 < Y.length := by omega
        have y1 : w3.cell? ⟨g, (i + 1) * 5, none⟩ = some (.int .i64 Y[i + 1].s.id) := own_cell H3.out.row (shvs_part Y (i + 1) hi1 0 _ rfl)
        have a2 : w3.cell? ⟨C + 2, 2, none⟩ = some (.int .i64 ot) := (cell_of_row _ _ _ _ _ _ HA3.out).trans rfl
        have f2 : w3.frozen? ⟨C + 2, 2, none⟩ = false := frozen_of_row _ _ _ _ _ HA3.out
        have HID2 : Hid (I64 Y[i + 1].s.id) := hid (by
          have := G.out.id Y[i + 1].s (List.mem_map.2 ⟨Y[i + 1], List.getElem_mem _, rfl⟩)
          have := G.out.nx
          constructor <;> omega)
        generalize Y[i + 1].s.id = id2 at *
        clear hi1
        go_upto_region 8 with fail
        clear x4 y1 a2 f2 a0
        have HA4 : Hid ((w3.setCell ⟨C + 2, 2, none⟩ (.int .i64 id2)).heap[C + 2]? = some (.cells #[.int .i64 2, .int .i64 id, .int .i64 id2, .int .i64 at', .int .i64 out, .int .i64 in'] 51 (0, 0))) := hid (heap_setCell_same _ _ _ _ _ _ HA3.out)
        have hR9 : (w3.setCell ⟨C + 2, 2, none⟩ (.int .i64 id2)).heap[C + 1]? = some (.cells z6 51 (0, 0)) := (Below.heap_setCell _ _ _ _ (by show C + 1 ≠ C + 2; omega)).trans HR3.out
        have HB9 : Hid (Below w.heap.size w (w3.setCell ⟨C + 2, 2, none⟩ (.int .i64 id2))) := hid (below_set HB3.out (by have := HCE.out; omega))
        clear HA3 HR3 HB3 H3
        generalize w3.setCell ⟨C + 2, 2, none⟩ (.int .i64 id2) = w4 at *
        have hA9 := HA4.out
        have a0 : w4.cell? ⟨C + 2, 0, none⟩ = some (.int .i64 2) := (cell_of_row _ _ _ _ _ _ HA4.out).trans rfl
        replace HJ : Hid (ChJ ⟨2, id, id2, at', out, in'⟩) := hid (by
          have hj := HJ.out
          intro x hx
          simp [numC] at hx
          rcases hx with rfl | rfl | rfl | rfl | rfl | rfl
          · exact hj _ (by simp [numC])
          · exact HID.out.2
          · exact HID2.out
          all_goals exact hj _ (by simp [numC]))
        clear HA4
        unfold z6 at hR9
        go_wp2_with (first | (refine wpl_loadK rfl _ rfl (C + 2) rfl _ _ _ rfl hA9 ?_) | (refine wpl_storeK rfl _ _ rfl (C + 1) _ _ _ _ _ _ rfl rfl rfl rfl rfl rfl rfl rfl _ _ rfl hR9 ?_))
        (try simp only [Exit.inBlock, Exit.then])
        refine bodyPost_ret (results_ch rfl _ _ (C + 1) _ _ _ rfl rfl (setRow_heap _ _ _ _ _ _ hR9)) rfl ?_
        exact ⟨⟨_, _, _, _, _, _⟩, rfl, HJ.out, below_row HB9.out (by have := HCE.out; omega) _⟩
      · have hA9 := HA3.out
        have hR9 := HR3.out
        have HB9 := HB3
        replace HJ : Hid (ChJ ⟨2, id, ot, at', out, in'⟩) := hid (by
          have hj := HJ.out
          intro x hx
          simp [numC] at hx
          rcases hx with rfl | rfl | rfl | rfl | rfl | rfl
          · exact hj _ (by simp [numC])
          · exact HID.out.2
          all_goals exact hj _ (by simp [numC]))
        unfold z6 at hR9
        go_wp2_with (first | (refine wpl_loadK rfl _ rfl (C + 2) rfl _ _ _ rfl hA9 ?_) | (refine wpl_storeK rfl _ _ rfl (C + 1) _ _ _ _ _ _ rfl rfl rfl rfl rfl rfl rfl rfl _ _ rfl hR9 ?_))
        (try simp only [Exit.inBlock, Exit.then])
        refine bodyPost_ret (results_ch rfl _ _ (C + 1) _ _ _ rfl rfl (setRow_heap _ _ _ _ _ _ hR9)) rfl ?_
        exact ⟨⟨_, _, _, _, _, _⟩, rfl, HJ.out, below_row HB9.out (by have := HCE.out; omega) _⟩
    replace HJ : Hid (ChJ ⟨k, id, ot, at', out, in'⟩) := hid (by
      have hj := HJ.out
      intro x hx
      simp [numC] at hx
      rcases hx with rfl | rfl | rfl | rfl | rfl | rfl
      · exact hj _ (by simp [numC])
      · exact HID.out.2
      all_goals exact hj _ (by simp [numC]))
    have g2 : (k == 2) = false := by simpa using h2
    by_cases h1 : k = 1
    · subst h1
      clear h2
      obtain ⟨y1, y2⟩ := HFC.out w3 H3.out
      have a3 : w3.cell? ⟨C + 2, 3, none⟩ = some (.int .i64 at') := (cell_of_row _ _ _ _ _ _ HA3.out).trans rfl
      have f3 : w3.frozen? ⟨C + 2, 3, none⟩ = false := frozen_of_row _ _ _ _ _ HA3.out
      have hs1 : IntKind.i64.wrap (tt - fr) = tt - fr := IntWalk.i64_in _ ⟨by have := HFT.out; omega, by have := HFT.out; omega⟩
      have hs2 : IntKind.i64.wrap (tt - fr + 1) = tt - fr + 1 := IntWalk.i64_in _ ⟨by have := HFT.out; omega, by have := HFT.out; omega⟩
      have hs3 : IntKind.u64.wrap (tt - fr + 1) = tt - fr + 1 := IntWalk.u64_in _ ⟨by have := HFT.out; omega, by have := HFT.out; omega⟩
      have hs4 : ¬ tt - fr + 1 = 0 := by have := HFT.out; omega
      have HRR := hid (rest_in2 at' (tt - fr + 1) (by have := HFT.out; omega) (by have := HFT.out; omega))
      have HSV : Hid (∀ v : Int, (w3.setCell ⟨C + 2, 3, none⟩ (.int .i64 v)).drew.cell? ⟨g, i * 5 + 1, none⟩ = some (.int .i64 fr) ∧ (w3.setCell ⟨C + 2, 3, none⟩ (.int .i64 v)).drew.cell? ⟨g, i * 5 + 1 + 1, none⟩ = some (.int .i64 tt) ∧ (w3.setCell ⟨C + 2, 3, none⟩ (.int .i64 v)).drew.cell? ⟨xb, 4, none⟩ = some (.slice (some ⟨g, 0, none⟩) Y.length svc)) := hid fun v => by
        have h4 := H.out.below ((below_set HB3.out (i := 3) (v := .int .i64 v) (show w.heap.size ≤ C + 2 by have := HCE.out; omega)).drew)
        exact ⟨(HFC.out _ h4).1, (HFC.out _ h4).2, h4.cell 4⟩
      go_upto_region 9 with fail
      refine wp_region_held_drew (S := fun Z => Z.cell? ⟨g, i * 5 + 1, none⟩ = some (.int .i64 fr) ∧ Z.cell? ⟨g, i * 5 + 1 + 1, none⟩ = some (.int .i64 tt) ∧ Z.cell? ⟨xb, 4, none⟩ = some (.slice (some ⟨g, 0, none⟩) Y.length svc)) (by kernel_rfl) ⟨y1, y2, x4⟩ (fun hHeld => ?_)
      refine wpAnyH_take (i := 0) (v := ?bv0) rfl (by kernel_rfl) (by kernel_rfl) (by kernel_rfl) (fun _ _ _ h => h) (Or.inl ⟨by rfl, ?by0⟩) (by assumption) ?br0
      case by0 => (intro w hSw; (try dsimp only at hSw); go_simp; try with_reducible rfl)
      (try simp only [Act.put, List.setIfInBounds_toArray, List.set_cons_zero, List.set_cons_succ, List.getElem_toArray, List.getElem_cons_succ, List.getElem_cons_zero])
      refine wpAnyH_take (i := 1) (v := ?bv1) rfl (by kernel_rfl) (by kernel_rfl) (by kernel_rfl) (fun _ _ _ h => h) (Or.inl ⟨by rfl, ?by1⟩) (by assumption) ?br1
      case by1 => (intro w hSw; (try dsimp only at hSw); go_simp; try with_reducible rfl)
      (try simp only [Act.put, List.setIfInBounds_toArray, List.set_cons_zero, List.set_cons_succ, List.getElem_toArray, List.getElem_cons_succ, List.getElem_cons_zero])
      refine wpAnyH_take (i := 2) (v := ?bv2) rfl (by kernel_rfl) (by kernel_rfl) (by kernel_rfl) (fun _ _ _ h => h) (Or.inl ⟨by rfl, ?by2⟩) (by assumption) ?br2
      case by2 => (intro w hSw; (try dsimp only at hSw); go_simp; try with_reducible rfl)
      (try simp only [Act.put, List.setIfInBounds_toArray, List.set_cons_zero, List.set_cons_succ, List.getElem_toArray, List.getElem_cons_succ, List.getElem_cons_zero])
      refine wpAnyH_take (i := 3) (v := ?bv3) rfl (by kernel_rfl) (by kernel_rfl) (by kernel_rfl) (fun _ _ _ h => h) (Or.inl ⟨by rfl, ?by3⟩) (by assumption) ?br3
      case by3 => (intro w hSw; (try dsimp only at hSw); go_simp; try with_reducible rfl)
      (try simp only [Act.put, List.setIfInBounds_toArray, List.set_cons_zero, List.set_cons_succ, List.getElem_toArray, List.getElem_cons_succ, List.getElem_cons_zero])
      refine wpAnyH_take (i := 4) (v := ?bv4) rfl (by kernel_rfl) (by kernel_rfl) (by kernel_rfl) (fun _ _ _ h => h) (Or.inl ⟨by rfl, ?by4⟩) (by assumption) ?br4
      case by4 => (intro w hSw; (try dsimp only at hSw); go_simp; try with_reducible rfl)
      (try simp only [Act.put, List.setIfInBounds_toArray, List.set_cons_zero, List.set_cons_succ, List.getElem_toArray, List.getElem_cons_succ, List.getElem_cons_zero])
      refine wpAnyH_take (i := 5) (v := ?bv5) rfl (by kernel_rfl) (by kernel_rfl) (by kernel_rfl) (fun _ _ _ h => h) (Or.inl ⟨by rfl, ?by5⟩) (by assumption) ?br5
      case by5 => (intro w hSw; (try dsimp only at hSw); go_simp; try with_reducible rfl)
      (try simp only [Act.put, List.setIfInBounds_toArray, List.set_cons_zero, List.set_cons_succ, List.getElem_toArray, List.getElem_cons_succ, List.getElem_cons_zero])
      refine wpAnyH_take (i := 6) (v := ?bv6) rfl (by kernel_rfl) (by kernel_rfl) (by kernel_rfl) (fun _ _ _ h => h) (Or.inl ⟨by rfl, ?by6⟩) (by assumption) ?br6
      case by6 => (intro w hSw; (try dsimp only at hSw); go_simp; try with_reducible rfl)
      (try simp only [Act.put, List.setIfInBounds_toArray, List.set_cons_zero, List.set_cons_succ, List.getElem_toArray, List.getElem_cons_succ, List.getElem_cons_zero])
      refine wpAnyH_take (i := 7) (v := ?bv7) rfl (by kernel_rfl) (by kernel_rfl) (by kernel_rfl) (fun _ _ _ h => h) (Or.inl ⟨by rfl, ?by7⟩) (by assumption) ?br7
      case by7 => (intro w hSw; (try dsimp only at hSw); go_simp; try with_reducible rfl)
      (try simp only [Act.put, List.setIfInBounds_toArray, List.set_cons_zero, List.set_cons_succ, List.getElem_toArray, List.getElem_cons_succ, List.getElem_cons_zero])
      refine wpAnyH_take (i := 8) (v := ?bv8) rfl (by kernel_rfl) (by kernel_rfl) (by kernel_rfl) (fun _ _ _ h => h) (Or.inl ⟨by rfl, ?by8⟩) (by assumption) ?br8
      case by8 => (intro w hSw; (try dsimp only at hSw); go_simp; try with_reducible rfl)
      (try simp only [Act.put, List.setIfInBounds_toArray, List.set_cons_zero, List.set_cons_succ, List.getElem_toArray, List.getElem_cons_succ, List.getElem_cons_zero])
      refine wpAnyH_take (i := 9) (v := ?bv9) rfl (by kernel_rfl) (by kernel_rfl) (by kernel_rfl) (fun _ _ _ h => h) (Or.inl ⟨by rfl, ?by9⟩) (by assumption) ?br9
      case by9 => (intro w hSw; (try dsimp only at hSw); go_simp; try with_reducible rfl)
      (try simp only [Act.put, List.setIfInBounds_toArray, List.set_cons_zero, List.set_cons_succ, List.getElem_toArray, List.getElem_cons_succ, List.getElem_cons_zero])
      refine wpAnyH_take (i := 12) (v := ?bv12) rfl (by kernel_rfl) (by kernel_rfl) (by kernel_rfl) (fun _ _ _ h => h) (Or.inl ⟨by rfl, ?by12⟩) (by assumption) ?br12
      case by12 => (intro w hSw; (try dsimp only at hSw); go_simp; try with_reducible rfl)
      (try simp only [Act.put, List.setIfInBounds_toArray, List.set_cons_zero, List.set_cons_succ, List.getElem_toArray, List.getElem_cons_succ, List.getElem_cons_zero])
      refine wpAnyH_take (i := 13) (v := ?bv13) rfl (by kernel_rfl) (by kernel_rfl) (by kernel_rfl) (fun _ _ _ h => h) (Or.inl ⟨by rfl, ?by13⟩) (by assumption) ?br13
      case by13 => (intro w hSw; (try dsimp only at hSw); go_simp; try with_reducible rfl)
      (try simp only [Act.put, List.setIfInBounds_toArray, List.set_cons_zero, List.set_cons_succ, List.getElem_toArray, List.getElem_cons_succ, List.getElem_cons_zero])
      refine wpAnyH_take (i := 14) (v := ?bv14) rfl (by kernel_rfl) (by kernel_rfl) (by kernel_rfl) (fun _ _ _ h => h) (Or.inl ⟨by rfl, ?by14⟩) (by assumption) ?br14
      case by14 => (intro w hSw; (try dsimp only at hSw); go_simp; try with_reducible rfl)
      (try simp only [Act.put, List.setIfInBounds_toArray, List.set_cons_zero, List.set_cons_succ, List.getElem_toArray, List.getElem_cons_succ, List.getElem_cons_zero])
      refine wpAnyH_take (i := 15) (v := ?bv15) rfl (by kernel_rfl) (by kernel_rfl) (by kernel_rfl) (fun _ _ _ h => h) (Or.inl ⟨by rfl, ?by15⟩) (by assumption) ?br15
      case by15 => (intro w hSw; (try dsimp only at hSw); go_simp; try with_reducible rfl)
      (try simp only [Act.put, List.setIfInBounds_toArray, List.set_cons_zero, List.set_cons_succ, List.getElem_toArray, List.getElem_cons_succ, List.getElem_cons_zero])
      refine wpAnyH_take (i := 16) (v := ?bv16) rfl (by kernel_rfl) (by kernel_rfl) (by kernel_rfl) (fun _ _ _ h => h) (Or.inl ⟨by rfl, ?by16⟩) (by assumption) ?br16
      case by16 => (intro w hSw; (try dsimp only at hSw); go_simp; try with_reducible rfl)
      (try simp only [Act.put, List.setIfInBounds_toArray, List.set_cons_zero, List.set_cons_succ, List.getElem_toArray, List.getElem_cons_succ, List.getElem_cons_zero])
      refine wpAnyH_take (i := 17) (v := ?bv17) rfl (by kernel_rfl) (by kernel_rfl) (by kernel_rfl) (fun _ _ _ h => h) (Or.inl ⟨by rfl, ?by17⟩) (by assumption) ?br17
      case by17 => (intro w hSw; (try dsimp only at hSw); go_simp; try with_reducible rfl)
      (try simp only [Act.put, List.setIfInBounds_toArray, List.set_cons_zero, List.set_cons_succ, List.getElem_toArray, List.getElem_cons_succ, List.getElem_cons_zero])
      refine wpAnyH_take (i := 18) (v := ?bv18) rfl (by kernel_rfl) (by kernel_rfl) (by kernel_rfl) (fun _ _ _ h => h) (Or.inl ⟨by rfl, ?by18⟩) (by assumption) ?br18
      case by18 => (intro w hSw; (try dsimp only at hSw); go_simp; try with_reducible rfl)
      (try simp only [Act.put, List.setIfInBounds_toArray, List.set_cons_zero, List.set_cons_succ, List.getElem_toArray, List.getElem_cons_succ, List.getElem_cons_zero])
      refine wpAnyH_take (i := 19) (v := ?bv19) rfl (by kernel_rfl) (by kernel_rfl) (by kernel_rfl) (fun _ _ _ h => h) (Or.inl ⟨by rfl, ?by19⟩) (by assumption) ?br19
      case by19 => (intro w hSw; (try dsimp only at hSw); go_simp; try with_reducible rfl)
      (try simp only [Act.put, List.setIfInBounds_toArray, List.set_cons_zero, List.set_cons_succ, List.getElem_toArray, List.getElem_cons_succ, List.getElem_cons_zero])
      refine wpAnyH_take (i := 20) (v := ?bv20) rfl (by kernel_rfl) (by kernel_rfl) (by kernel_rfl) (fun _ _ _ h => h) (Or.inl ⟨by rfl, ?by20⟩) (by assumption) ?br20
      case by20 => (intro w hSw; (try dsimp only at hSw); go_simp; try with_reducible rfl)
      (try simp only [Act.put, List.setIfInBounds_toArray, List.set_cons_zero, List.set_cons_succ, List.getElem_toArray, List.getElem_cons_succ, List.getElem_cons_zero])
      refine wpAnyH_take (i := 21) (v := ?bv21) rfl (by kernel_rfl) (by kernel_rfl) (by kernel_rfl) (fun _ _ _ h => h) (Or.inl ⟨by rfl, ?by21⟩) (by assumption) ?br21
      case by21 => (intro w hSw; (try dsimp only at hSw); go_simp; try with_reducible rfl)
      (try simp only [Act.put, List.setIfInBounds_toArray, List.set_cons_zero, List.set_cons_succ, List.getElem_toArray, List.getElem_cons_succ, List.getElem_cons_zero])
      refine wpAnyH_take (i := 22) (v := ?bv22) rfl (by kernel_rfl) (by kernel_rfl) (by kernel_rfl) (fun _ _ _ h => h) (Or.inl ⟨by rfl, ?by22⟩) (by assumption) ?br22
      case by22 => (intro w hSw; (try dsimp only at hSw); go_simp; try with_reducible rfl)
      (try simp only [Act.put, List.setIfInBounds_toArray, List.set_cons_zero, List.set_cons_succ, List.getElem_toArray, List.getElem_cons_succ, List.getElem_cons_zero])
      refine wpAnyH_take (i := 23) (v := ?bv23) rfl (by kernel_rfl) (by kernel_rfl) (by kernel_rfl) (fun _ _ _ h => h) (Or.inl ⟨by rfl, ?by23⟩) (by assumption) ?br23
      case by23 => (intro w hSw; (try dsimp only at hSw); go_simp; try with_reducible rfl)
      (try simp only [Act.put, List.setIfInBounds_toArray, List.set_cons_zero, List.set_cons_succ, List.getElem_toArray, List.getElem_cons_succ, List.getElem_cons_zero])
      refine wpAnyH_take (i := 24) (v := ?bv24) rfl (by kernel_rfl) (by kernel_rfl) (by kernel_rfl) (fun _ _ _ h => h) (Or.inl ⟨by rfl, ?by24⟩) (by assumption) ?br24
      case by24 => (intro w hSw; (try dsimp only at hSw); go_simp; try with_reducible rfl)
      (try simp only [Act.put, List.setIfInBounds_toArray, List.set_cons_zero, List.set_cons_succ, List.getElem_toArray, List.getElem_cons_succ, List.getElem_cons_zero])
      refine wpAnyH_take (i := 25) (v := ?bv25) rfl (by kernel_rfl) (by kernel_rfl) (by kernel_rfl) (fun _ _ _ h => h) (Or.inl ⟨by rfl, ?by25⟩) (by assumption) ?br25
      case by25 => (intro w hSw; (try dsimp only at hSw); go_simp; try with_reducible rfl)
      (try simp only [Act.put, List.setIfInBounds_toArray, List.set_cons_zero, List.set_cons_succ, List.getElem_toArray, List.getElem_cons_succ, List.getElem_cons_zero])
      refine wpAnyH_take (i := 26) (v := ?bv26) rfl (by kernel_rfl) (by kernel_rfl) (by kernel_rfl) (fun _ _ _ h => h) (Or.inl ⟨by rfl, ?by26⟩) (by assumption) ?br26
      case by26 => (intro w hSw; (try dsimp only at hSw); go_simp; try with_reducible rfl)
      (try simp only [Act.put, List.setIfInBounds_toArray, List.set_cons_zero, List.set_cons_succ, List.getElem_toArray, List.getElem_cons_succ, List.getElem_cons_zero])
      refine wpAnyH_take (i := 27) (v := ?bv27) rfl (by kernel_rfl) (by kernel_rfl) (by kernel_rfl) (fun _ _ _ h => h) (Or.inl ⟨by rfl, ?by27⟩) (by assumption) ?br27
      case by27 => (intro w hSw; (try dsimp only at hSw); go_simp; try with_reducible rfl)
      (try simp only [Act.put, List.setIfInBounds_toArray, List.set_cons_zero, List.set_cons_succ, List.getElem_toArray, List.getElem_cons_succ, List.getElem_cons_zero])
      refine wpAnyH_take (i := 28) (v := ?bv28) rfl (by kernel_rfl) (by kernel_rfl) (by kernel_rfl) (fun _ _ _ h => h) (Or.inl ⟨by rfl, ?by28⟩) (by assumption) ?br28
      case by28 => (intro w hSw; (try dsimp only at hSw); go_simp; try with_reducible rfl)
      (try simp only [Act.put, List.setIfInBounds_toArray, List.set_cons_zero, List.set_cons_succ, List.getElem_toArray, List.getElem_cons_succ, List.getElem_cons_zero])
      refine wpAnyH_take (i := 29) (v := ?bv29) rfl (by kernel_rfl) (by kernel_rfl) (by kernel_rfl) (fun _ _ _ h => h) (Or.inl ⟨by rfl, ?by29⟩) (by assumption) ?br29
      case by29 => (intro w hSw; (try dsimp only at hSw); go_simp; try with_reducible rfl)
      (try simp only [Act.put, List.setIfInBounds_toArray, List.set_cons_zero, List.set_cons_succ, List.getElem_toArray, List.getElem_cons_succ, List.getElem_cons_zero])
      refine wpAnyH_take (i := 30) (v := ?bv30) rfl (by kernel_rfl) (by kernel_rfl) (by kernel_rfl) (fun _ _ _ h => h) (Or.inl ⟨by rfl, ?by30⟩) (by assumption) ?br30
      case by30 => (intro w hSw; (try dsimp only at hSw); go_simp; try with_reducible rfl)
      (try simp only [Act.put, List.setIfInBounds_toArray, List.set_cons_zero, List.set_cons_succ, List.getElem_toArray, List.getElem_cons_succ, List.getElem_cons_zero])
      refine wpAnyH_take (i := 31) (v := ?bv31) rfl (by kernel_rfl) (by kernel_rfl) (by kernel_rfl) (fun _ _ _ h => h) (Or.inl ⟨by rfl, ?by31⟩) (by assumption) ?br31
      case by31 => (intro w hSw; (try dsimp only at hSw); go_simp; try with_reducible rfl)
      (try simp only [Act.put, List.setIfInBounds_toArray, List.set_cons_zero, List.set_cons_succ, List.getElem_toArray, List.getElem_cons_succ, List.getElem_cons_zero])
      refine wpAnyH_take (i := 32) (v := ?bv32) rfl (by kernel_rfl) (by kernel_rfl) (by kernel_rfl) (fun _ _ _ h => h) (Or.inl ⟨by rfl, ?by32⟩) (by assumption) ?br32
      case by32 => (intro w hSw; (try dsimp only at hSw); go_simp; try with_reducible rfl)
      (try simp only [Act.put, List.setIfInBounds_toArray, List.set_cons_zero, List.set_cons_succ, List.getElem_toArray, List.getElem_cons_succ, List.getElem_cons_zero])
      refine wpAnyH_ready (rs := [10]) (by kernel_rfl) (by simp) ?_
      refine AllReadyH.cons rfl (fun K hK => ?_) AllReadyH.nil
      rw [if_pos (by rfl)]
      go_simp
      refine hK.out _ _ hHeld (fun hHeld => ?_)
      try clear hK K
      (try simp only [Act.put, List.setIfInBounds_toArray, List.set_cons_zero, List.set_cons_succ, List.getElem_toArray, List.getElem_cons_succ, List.getElem_cons_zero])
      refine wpAnyH_take (i := 11) (v := ?bv11) rfl (by kernel_rfl) (by kernel_rfl) (by kernel_rfl) (fun _ _ _ h => h) (Or.inl ⟨by rfl, ?by11⟩) (by assumption) ?br11
      case by11 => (intro w hSw; (try dsimp only at hSw); go_simp; try with_reducible rfl)
      (try simp only [Act.put, List.setIfInBounds_toArray, List.set_cons_zero, List.set_cons_succ, List.getElem_toArray, List.getElem_cons_succ, List.getElem_cons_zero])
      refine wpAnyH_take (i := 33) (v := ?bv33) rfl (by kernel_rfl) (by kernel_rfl) (by kernel_rfl) (fun _ _ _ h => h) (Or.inl ⟨by rfl, ?by33⟩) (by assumption) ?br33
      case by33 => (intro w hSw; (try dsimp only at hSw); go_simp; try with_reducible rfl)
      (try simp only [Act.put, List.setIfInBounds_toArray, List.set_cons_zero, List.set_cons_succ, List.getElem_toArray, List.getElem_cons_succ, List.getElem_cons_zero])
      refine wpAnyH_take (i := 34) (v := ?bv34) rfl (by kernel_rfl) (by kernel_rfl) (by kernel_rfl) (fun _ _ _ h => h) (Or.inl ⟨by rfl, ?by34⟩) (by assumption) ?br34
      case by34 => (intro w hSw; (try dsimp only at hSw); go_simp; try with_reducible rfl)
      (try simp only [Act.put, List.setIfInBounds_toArray, List.set_cons_zero, List.set_cons_succ, List.getElem_toArray, List.getElem_cons_succ, List.getElem_cons_zero])
      refine wpAnyH_take (i := 35) (v := ?bv35) rfl (by kernel_rfl) (by kernel_rfl) (by kernel_rfl) (fun _ _ _ h => h) (Or.inl ⟨by rfl, ?by35⟩) (by assumption) ?br35
      case by35 => (intro w hSw; (try dsimp only at hSw); go_simp; try with_reducible rfl)
      (try simp only [Act.put, List.setIfInBounds_toArray, List.set_cons_zero, List.set_cons_succ, List.getElem_toArray, List.getElem_cons_succ, List.getElem_cons_zero])
      refine wpAnyH_take (i := 36) (v := ?bv36) rfl (by kernel_rfl) (by kernel_rfl) (by kernel_rfl) (fun _ _ _ h => h) (Or.inl ⟨by rfl, ?by36⟩) (by assumption) ?br36
      case by36 => (intro w hSw; (try dsimp only at hSw); go_simp; try with_reducible rfl)
      (try simp only [Act.put, List.setIfInBounds_toArray, List.set_cons_zero, List.set_cons_succ, List.getElem_toArray, List.getElem_cons_succ, List.getElem_cons_zero])
      refine wpAnyH_ready (rs := [37]) (by kernel_rfl) (by simp) ?_
      refine AllReadyH.cons rfl (fun K hK => ?_) AllReadyH.nil
      rw [if_pos (by rfl)]
      go_simp
      refine hK.out _ _ (HSV.out _) (fun hHeld => ?_)
      try clear hK K
      (try simp only [Act.put, List.setIfInBounds_toArray, List.set_cons_zero, List.set_cons_succ, List.getElem_toArray, List.getElem_cons_succ, List.getElem_cons_zero])
      refine wpAnyH_done (by kernel_rfl) ?_ _
      obtain ⟨v, hv⟩ : ∃ v, v = IntKind.i64.wrap (fr + IntKind.i64.wrap ((IntKind.u64.wrap at').tmod (tt - fr + 1))) := ⟨_, rfl⟩
      have HV : Hid (I64 v) := hid (by
        have h1 := HRR.out
        have h2 := HFT.out
        rw [hv, IntWalk.i64_in _ ⟨by omega, by omega⟩]
        constructor <;> omega)
      rw [← hv]
      clear hv hHeld y1 y2 a3 f3 hs1 hs2 hs3 hs4 x4 a0
      have HA4 : Hid ((w3.setCell ⟨C + 2, 3, none⟩ (.int .i64 v)).drew.heap[C + 2]? = some (.cells #[.int .i64 1, .int .i64 id, .int .i64 ot, .int .i64 v, .int .i64 out, .int .i64 in'] 51 (0, 0))) := hid (heap_setCell_same _ _ _ _ _ _ HA3.out)
      have hR9 : (w3.setCell ⟨C + 2, 3, none⟩ (.int .i64 v)).drew.heap[C + 1]? = some (.cells z6 51 (0, 0)) := (Below.heap_setCell _ _ _ _ (by show C + 1 ≠ C + 2; omega)).trans HR3.out
      have HB9 : Hid (Below w.heap.size w (w3.setCell ⟨C + 2, 3, none⟩ (.int .i64 v)).drew) := hid (below_set HB3.out (by have := HCE.out; omega)).drew
      clear HA3 HR3 HB3 H3
      generalize (w3.setCell ⟨C + 2, 3, none⟩ (.int .i64 v)).drew = w4 at *
      have hA9 := HA4.out
      have a0 : w4.cell? ⟨C + 2, 0, none⟩ = some (.int .i64 1) := (cell_of_row _ _ _ _ _ _ HA4.out).trans rfl
      replace HJ : Hid (ChJ ⟨1, id, ot, v, out, in'⟩) := hid (by
        have hj := HJ.out
        intro x hx
        simp [numC] at hx
        rcases hx with rfl | rfl | rfl | rfl | rfl | rfl
        · exact hj _ (by simp [numC])
        · exact HID.out.2
        · exact hj _ (by simp [numC])
        · exact HV.out
        all_goals exact hj _ (by simp [numC]))
      clear HA4
      unfold z6 at hR9
      go_wp2_with (first | (refine wpl_loadK rfl _ rfl (C + 2) rfl _ _ _ rfl hA9 ?_) | (refine wpl_storeK rfl _ _ rfl (C + 1) _ _ _ _ _ _ rfl rfl rfl rfl rfl rfl rfl rfl _ _ rfl hR9 ?_))
      (try simp only [Exit.inBlock, Exit.then])
      refine bodyPost_ret (results_ch rfl _ _ (C + 1) _ _ _ rfl rfl (setRow_heap _ _ _ _ _ _ hR9)) rfl ?_
      exact ⟨⟨_, _, _, _, _, _⟩, rfl, HJ.out, below_row HB9.out (by have := HCE.out; omega) _⟩
    have g1 : (k == 1) = false := by simpa using h1
    by_cases h5 : k = 5
    · subst h5
      have hA3 := HA3.out
      go_upto_region 12 with (refine wpl_storeK rfl _ _ rfl (C + 2) _ _ _ _ _ _ rfl rfl rfl rfl rfl rfl rfl rfl _ _ rfl hA3 ?_)
      clear hA3 x4 a0
      have HA4 : Hid ((w3.setRow (C + 2) #[.int .i64 5, .int .i64 0, .int .i64 0, .int .i64 0, .int .i64 0, .int .i64 0]).heap[C + 2]? = some (.cells #[.int .i64 5, .int .i64 0, .int .i64 0, .int .i64 0, .int .i64 0, .int .i64 0] 51 (0, 0))) := hid (setRow_heap _ _ _ _ _ _ HA3.out)
      have hR9 : (w3.setRow (C + 2) #[.int .i64 5, .int .i64 0, .int .i64 0, .int .i64 0, .int .i64 0, .int .i64 0]).heap[C + 1]? = some (.cells z6 51 (0, 0)) := (setRow_other _ _ _ _ (by omega)).trans HR3.out
      have HB9 : Hid (Below w.heap.size w (w3.setRow (C + 2) #[.int .i64 5, .int .i64 0, .int .i64 0, .int .i64 0, .int .i64 0, .int .i64 0])) := hid (below_row HB3.out (by have := HCE.out; omega) _)
      clear HA3 HR3 HB3 H3
      generalize w3.setRow (C + 2) #[.int .i64 5, .int .i64 0, .int .i64 0, .int .i64 0, .int .i64 0, .int .i64 0] = w4 at *
      have hA9 := HA4.out
      replace HJ : Hid (ChJ ⟨5, 0, 0, 0, 0, 0⟩) := hid (by
        intro x hx
        simp [numC] at hx
        rcases hx with rfl | rfl <;> constructor <;> omega)
      clear HA4
      unfold z6 at hR9
      go_wp2_with (first | (refine wpl_loadK rfl _ rfl (C + 2) rfl _ _ _ rfl hA9 ?_) | (refine wpl_storeK rfl _ _ rfl (C + 1) _ _ _ _ _ _ rfl rfl rfl rfl rfl rfl rfl rfl _ _ rfl hR9 ?_))
      (try simp only [Exit.inBlock, Exit.then])
      refine bodyPost_ret (results_ch rfl _ _ (C + 1) _ _ _ rfl rfl (setRow_heap _ _ _ _ _ _ hR9)) rfl ?_
      exact ⟨⟨_, _, _, _, _, _⟩, rfl, HJ.out, below_row HB9.out (by have := HCE.out; omega) _⟩
    · have g5 : (k == 5) = false := by simpa using h5
      have hA9 := HA3.out
      have hR9 := HR3.out
      have HB9 := HB3
      unfold z6 at hR9
      go_wp2_with (first | (refine wpl_loadK rfl _ rfl (C + 2) rfl _ _ _ rfl hA9 ?_) | (refine wpl_storeK rfl _ _ rfl (C + 1) _ _ _ _ _ _ rfl rfl rfl rfl rfl rfl rfl rfl _ _ rfl hR9 ?_))
      (try simp only [Exit.inBlock, Exit.then])
      refine bodyPost_ret (results_ch rfl _ _ (C + 1) _ _ _ rfl rfl (setRow_heap _ _ _ _ _ _ hR9)) rfl ?_
      exact ⟨⟨_, _, _, _, _, _⟩, rfl, HJ.out, below_row HB9.out (by have := HCE.out; omega) _⟩
end Go.Proofs.YtmocedkbabnpfaaGreat
namespace Go.Proofs.YtmocedkbabnpfaaGreat
open Go.RowKit Go.Maps Go.Shelf
set_option linter.unusedVariables false
set_option linter.unusedSimpArgs false

/-- What the document's New leaves, in rows of its own. -/
def RNb (bl : Int) (l : List Int) (w : World) (e : Ending) (w' : World) : Prop := ∃ b sv X, e = .returned (.pointer (some ⟨b, 0, none⟩)) ∧ RB w' b ⟨bl, 1, 2, []⟩ (.slice none 0 0) sv X ∧ X.map (·.s) = [⟨1, 0, bl, l, []⟩] ∧ Below w.heap.size w w' ∧ w.heap.size ≤ b
set_option maxRecDepth 100000 in
set_option maxHeartbeats 4000000 in
theorem rnewB_any (bl : Int) (l : List Int) (va : Option Addr) (vc : Nat) (w : World) (hv : w.ownsRow 0 3 1 (.slice va l.length vc) l.length (nvs l)) :
    Calls Tryz.prog 27 #[.int .i64 bl, .slice va l.length vc] w (RNb bl l w) := by
  have HV := hid hv
  clear hv
  obtain ⟨h1, h2⟩ := heap_two w (.cells #[.int .i64 1, .int .i64 0, .int .i64 bl, .slice va l.length vc, .slice none 0 0] 34) (.cells #[.int .i64 bl, .int .i64 1, .int .i64 2, .slice none 0 0, .slice (some ⟨w.heap.size, 0, none⟩) 1 1] 103)
  have hb : Below w.heap.size w ((w.alloc (.cells #[.int .i64 1, .int .i64 0, .int .i64 bl, .slice va l.length vc, .slice none 0 0] 34)).alloc (.cells #[.int .i64 bl, .int .i64 1, .int .i64 2, .slice none 0 0, .slice (some ⟨w.heap.size, 0, none⟩) 1 1] 103)) := ((Below.refl _ _).alloc (Nat.le_refl _) _).alloc (by simp) _
  have HF : Hid (RNb bl l w (.returned (.pointer (some ⟨w.heap.size + 1, 0, none⟩))) ((w.alloc (.cells #[.int .i64 1, .int .i64 0, .int .i64 bl, .slice va l.length vc, .slice none 0 0] 34)).alloc (.cells #[.int .i64 bl, .int .i64 1, .int .i64 2, .slice none 0 0, .slice (some ⟨w.heap.size, 0, none⟩) 1 1] 103))) := hid (by
    refine ⟨w.heap.size + 1, .slice (some ⟨w.heap.size, 0, none⟩) 1 1, [⟨⟨1, 0, bl, l, []⟩, .slice va l.length vc, .slice none 0 0⟩], rfl, ⟨h2, World.ownsRow_nil _ _ _ _, ?_, ?_, fun _ => rfl⟩, rfl, hb, by omega⟩
    · exact ⟨rfl, .inr ⟨w.heap.size, 1, _, rfl, Nat.zero_le _, h1, Nat.le_refl _, by unfold maxLen; omega, rfl, rfl⟩⟩
    · intro x hx
      rw [List.mem_singleton.1 hx]
      exact ⟨own_below HV.out hb, [], rfl, World.ownsRow_nil _ _ _ _, fun x hx => by cases hx⟩)
  clear h1 h2 hb
  go_enter Tryz.func27, Tryz.ntmps27
  go_wp2_with fail
  go_ret
  simpa using HF.out
/-- What play leaves. -/
def PlyP (w : World) (e : Ending) (w' : World) : Prop := ∃ b wb mb n ov D N X xb rv sv Y, e = .returned (.tuple #[.pointer (some ⟨b, 0, none⟩), .pointer (some ⟨xb, 0, none⟩), .bool true]) ∧ At w' b wb mb n ov D N X ∧ RB w' xb N rv sv Y ∧ Y.map (·.s) = X.map (·.s) ∧ Gd 100 N (X.map (·.s)) ∧ n ≤ 100 ∧ Below w.heap.size w w' ∧ (∀ q, AtR b wb mb q → w.heap.size ≤ q) ∧ w.heap.size ≤ xb ∧ ∀ S ∈ X.map (·.s), S.mem.length = 3
/-- Members stay three. -/
theorem three_step {B : Nat} {N N' : AtN} {Z Z' : List ShD} {c : ChD} {r : Int} (g : Gd B N Z) (h : ∀ S ∈ Z, S.mem.length = 3) (hs : StepR N Z c r N' Z') : ∀ S ∈ Z', S.mem.length = 3 := by
  cases hs with
  | bad _ => exact h
  | calm _ _ _ _ => exact h
  | settle _ _ _ _ => exact h
  | down _ _ _ _ => exact h
  | miss _ _ _ _ _ => exact h
  | miss2 _ _ _ _ _ _ _ _ _ _ => exact h
  | unfit _ _ _ _ _ _ _ _ _ _ _ => exact h
  | unfit2 _ _ _ _ _ _ _ _ _ _ _ _ _ _ _ => exact h
  | one hk hn h5 h2 ho P Q S hZ hi hf =>
    subst hZ
    have hS := h S (by simp)
    have hm := g.mb S (by simp)
    have hl : (mlD c S).length = 3 := by
      unfold mlD
      split
      · rename_i hk3
        unfold fit1 at hf
        rw [if_neg (by omega), if_pos hk3] at hf
        obtain ⟨hr, hnn, -⟩ := mem_rise hm
        have hs3 : c.out ∈ S.mem ∧ c.in' ∉ S.mem ∧ (0 ≤ c.in' ∧ c.in' < 7) := by simpa [swB, nodeB] using hf
        obtain ⟨k, hk', hke⟩ := List.mem_iff_getElem.1 hs3.1
        rw [swD_len S.mem c.out c.in' k hk' hke hr hnn hs3.2.2 hs3.2.1]; exact hS
      · exact hS
    intro T hT
    rcases List.mem_append.1 hT with hT | hT
    · rcases List.mem_append.1 hT with hT | hT
      · exact h T (by simp [hT])
      · rw [(nwD_mem _ _ _ _ T hT).1]; exact hl
    · exact h T (by simp [hT])
  | two hk hn h2 ho P Q S U hZ hi hj =>
    subst hZ
    intro T hT
    rcases List.mem_append.1 hT with hT | hT
    · rcases List.mem_append.1 hT with hT | hT
      · exact h T (by simp [hT])
      · rw [(nwD_mem _ _ _ _ T hT).1]; exact h S (by simp)
    · exact h T (by simp [hT])
/-- Both maps side by side, behind i steps. -/
structure PlI (w : World) (b wb mb xb i : Nat) (wr : World) : Prop where
  both : ∃ n ov D N X rv sv Y, At wr b wb mb n ov D N X ∧ RB wr xb N rv sv Y ∧ Y.map (·.s) = X.map (·.s) ∧ Gd (2 + 2 * i) N (X.map (·.s)) ∧ n ≤ 1 + 2 * i ∧ ∀ S ∈ X.map (·.s), S.mem.length = 3
  bel : Below w.heap.size w wr
  ra : ∀ q, AtR b wb mb q → w.heap.size ≤ q
  rx : w.heap.size ≤ xb
theorem mem012 : memB [0, 1, 2] = true := by decide
theorem gd_new (bl : Int) (h : 1 ≤ bl ∧ bl ≤ 256) : Gd 2 ⟨bl, 1, 2, []⟩ [⟨1, 0, bl, [0, 1, 2], []⟩] :=
  ⟨⟨rfl, by show (0 : Int) < bl; omega, rfl⟩, by intro S hS; rw [List.mem_singleton.1 hS]; exact mem012, by intro S hS; rw [List.mem_singleton.1 hS]; exact ⟨by simp, by intro o ho; cases ho⟩, by intro S hS; rw [List.mem_singleton.1 hS]; exact ⟨by show (1 : Int) ≤ 1; omega, by show (1 : Int) < 2; omega⟩, List.pairwise_singleton _ _, ⟨by show (2 : Int) ≤ 2; omega, by show (2 : Int) ≤ 2; omega⟩, ⟨by show (1 : Int) ≤ 1; omega, by show (1 : Int) ≤ 2; omega⟩, by simp, by simp, h⟩
theorem Tryz.rowSt : ∃ d : TypeDesc, Tryz.prog.underlying 53 = some d ∧ d.isRow = true := by
  obtain ⟨d, h1, h2⟩ : ∃ d, Tryz.prog.underlying 53 = some d ∧ d.isRow = true := by
    have h : (Tryz.prog.underlying 53).map (·.isRow) = some true := by kernel_rfl
    cases hu : Tryz.prog.underlying 53 with
    | none => rw [hu] at h; cases h
    | some d => rw [hu] at h; exact ⟨d, rfl, by simpa using h⟩
  exact ⟨d, h1, h2⟩
theorem Tryz.sizeSt : (Tryz.prog.info? 53).map (·.size) = some 7 := by kernel_rfl
theorem rest_in64 (t m : Int) (h0 : 1 ≤ m) (h1 : m ≤ 1000000000) : 0 ≤ wrap64 ((IntKind.u64.wrap t).tmod m) ∧ wrap64 ((IntKind.u64.wrap t).tmod m) < m := by
  rw [u64_mod, Int.tmod_eq_emod_of_nonneg (by omega)]
  have a := Int.emod_nonneg (t % 18446744073709551616) (b := m) (by omega)
  have b := Int.emod_lt_of_pos (t % 18446744073709551616) (b := m) (by omega)
  rw [IntWalk.wrap64_in _ (by omega)]
  exact ⟨a, b⟩
set_option maxRecDepth 100000 in
set_option maxHeartbeats 8000000 in
theorem play_any (bl : Int) (L : List (ChD × Bool)) (v : Value) (w : World) (hv : Stps w v L) (hj : ∀ x ∈ L, ChJ x.1) :
    Calls Tryz.prog 6 #[.int .i64 bl, v] w (PlyP w) := by
  have HV := hid hv
  have HJ := hid hj
  have hL := hv.len
  obtain ⟨va, vc, rfl⟩ := hv.shape
  clear hv hj
  have hrr := rest_in64 bl 60 (by omega) (by omega)
  obtain ⟨nb, hnb⟩ : ∃ nb, nb = wrap64 (1 + wrap64 ((IntKind.u64.wrap bl).tmod 60)) := ⟨_, rfl⟩
  have HNB : Hid (1 ≤ nb ∧ nb ≤ 256) := hid (by rw [hnb, IntWalk.wrap64_in _ (by omega)]; omega)
  have HQ := hid hnb
  clear hnb hrr
  have HO : Hid (∀ W : World, (W.alloc (.cells #[.int .i64 0, .int .i64 1, .int .i64 2] 3)).ownsRow 0 3 1 (.slice (some ⟨W.heap.size, 0, none⟩) 3 3) 3 (nvs [0, 1, 2])) := hid fun W => own_many W 3 #[.int .i64 0, .int .i64 1, .int .i64 2] 1 3 (Nat.zero_le _) rfl (by omega)
  have HN1 := hid (anew_yes nb [0, 1, 2] (.slice (some ⟨w.heap.size, 0, none⟩) 3 3) (w.alloc (.cells #[.int .i64 0, .int .i64 1, .int .i64 2] 3)) (nums_own (HO.out w) rfl) (by simp) (by unfold anewB; rw [decide_eq_true HNB.out.1, decide_eq_true HNB.out.2, mem012]; rfl))
  have HN3 := hid fun W : World => rnewB_any nb [0, 1, 2] (some ⟨W.heap.size, 0, none⟩) 3 (W.alloc (.cells #[.int .i64 0, .int .i64 1, .int .i64 2] 3)) (HO.out W)
  go_enter Tryz.func6, Tryz.ntmps6
  go_upto_region 2 with fail
  rw [← HQ.out]
  clear HQ
  go_upto_region 3 with (go_at_call 26; refine HN1.out.mono ?_; rintro e w2 ⟨b, wb, mb, D, mv, pv, rfl, ha2, hb2, hr2⟩; have A2 := hid ha2; have HR2 := hid hr2; have B2 := hid (((Below.refl w.heap.size w).alloc (Nat.le_refl _) (.cells #[.int .i64 0, .int .i64 1, .int .i64 2] 3)).trans (hb2.mono (by simp))); clear ha2 hb2 hr2)
  go_upto_region 4 with (go_at_call 27; refine (HN3.out w2).mono ?_; rintro e w3 ⟨xb, sv, Y0, rfl, hr3, hy3, hb3, hx3⟩; have R3 := hid hr3; have HY3 := hid hy3; have HX3 : Hid (w.heap.size ≤ xb) := hid (Nat.le_trans B2.out.size (Nat.le_trans (by simp) hx3)); have HB3 := hid (((Below.refl w2.heap.size w2).alloc (Nat.le_refl _) (.cells #[.int .i64 0, .int .i64 1, .int .i64 2] 3)).trans (hb3.mono (by simp))); clear hr3 hy3 hb3 hx3)
  have HPI : Hid (PlI w b wb mb xb 0 w3) := hid ⟨⟨1, _, D, ⟨nb, 1, 2, []⟩, _, _, sv, Y0, A2.out.below HB3.out, R3.out, HY3.out, gd_new nb HNB.out, by omega, by intro S hS; rw [List.mem_singleton.1 hS]; rfl⟩, B2.out.trans (HB3.out.mono B2.out.size), fun q hq => Nat.le_trans (by simp) (HR2.out q hq), HX3.out⟩
  clear A2 HR2 B2 R3 HY3 HX3 HB3 HN1 HN3 HO
  go_wp2_with fail
  go_loopw [11, 12, 13, 32] (fun _ _ _ iv wr => ∃ i : Nat, iv = .int .i64 i ∧ i ≤ L.length ∧ i ≤ 40 ∧ PlI w b wb mb xb i wr) (fun _ _ _ iv _ => L.length - (intOf iv).toNat)
  case atStart => exact ⟨0, rfl, Nat.zero_le _, by omega, HPI.out⟩
  case round =>
    obtain ⟨i, rfl, hi, hi40, hpi⟩ := hrel
    have P := hid hpi
    have HFIN : Hid (PlyP w (.returned (.tuple #[.pointer (some ⟨b, 0, none⟩), .pointer (some ⟨xb, 0, none⟩), .bool true])) wr) := hid (by
      obtain ⟨⟨n, ov, D, N, X, rv, sv, Y, h1, h2, h3, h4, h5, h9⟩, h6, h7, h8⟩ := hpi
      exact ⟨b, wb, mb, n, ov, D, N, X, xb, rv, sv, Y, rfl, h1, h2, h3, h4.mono (by omega), by omega, h6, h7, h8, h9⟩)
    clear hpi
    by_cases hlt : (i : Int) < (L.length : Int)
    · have hil : i < L.length := by omega
      have HVR := hid (HV.out.below P.out.bel)
      obtain ⟨gs, os, rfl⟩ := HVR.out.addr (by omega)
      have hrg := HVR.out.range i hil
      have HXJ := hid (HJ.out L[i] (List.getElem_mem hil))
      obtain ⟨⟨⟨k0, k1, k2, k3, k4, k5⟩, nr⟩, hx⟩ : ∃ x, x = L[i] := ⟨_, rfl⟩
      rw [← hx] at hrg HXJ
      clear hx
      unfold stC at hrg
      obtain ⟨dT, hdT1, hdT2⟩ := Tryz.rowSt
      obtain ⟨w3, hw3⟩ : ∃ w3, w3 = wr.alloc (.cells #[.int .i64 k0, .int .i64 k1, .int .i64 k2, .int .i64 k3, .int .i64 k4, .int .i64 k5, .bool nr] 53) := ⟨_, rfl⟩
      have HB3 : Hid (Below wr.heap.size wr w3) := hid (by rw [hw3]; exact (Below.refl _ _).alloc (Nat.le_refl _) _)
      have HS3 : Hid (w3.heap[wr.heap.size]? = some (.cells #[.int .i64 k0, .int .i64 k1, .int .i64 k2, .int .i64 k3, .int .i64 k4, .int .i64 k5, .bool nr] 53 (0, 0))) := hid (by rw [hw3]; exact heap_alloc_new _ _)
      have HW3 := hid hw3
      clear hw3
      go_upto_region 9 with (refine wpList_load_mid rfl _ _ rfl gs (os + i * 7) (by go_simp) [.int .i64 k0, .int .i64 k1, .int .i64 k2, .int .i64 k3, .int .i64 k4, .int .i64 k5, .bool nr] dT hrg hdT1 hdT2 Tryz.sizeSt ?_)
      rw [← HW3.out]
      clear HW3 hrg
      by_cases h40 : (40 : Int) ≤ (i : Int)
      · have HF3 : Hid (PlyP w (.returned (.tuple #[.pointer (some ⟨b, 0, none⟩), .pointer (some ⟨xb, 0, none⟩), .bool true])) w3) := hid (by
          obtain ⟨⟨n, ov, D, N, X, rv, sv, Y, h1, h2, h3, h4, h5, h9⟩, h6, h7, h8⟩ := P.out
          exact ⟨b, wb, mb, n, ov, D, N, X, xb, rv, sv, Y, rfl, h1.below HB3.out, h2.below HB3.out, h3, h4.mono (by omega), by omega, h6.trans (HB3.out.mono h6.size), h7, h8, h9⟩)
        go_wp2_with fail
        go_ret3
        exact HF3.out
      · have HI40 : Hid (i < 40) := hid (by omega)
        obtain ⟨⟨n, ov, D, N, X, rv, sv, Y, h1, h2, h3, h4, h5, h9⟩, h6, h7, h8⟩ := P.out
        have A3 := hid (h1.below HB3.out)
        have R3 := hid (h2.below HB3.out)
        have HYX := hid h3
        have HGX := hid h4
        have HGY : Hid (Gd (2 + 2 * i) N (Y.map (·.s))) := hid (by rw [h3]; exact h4)
        have HNI := hid h5
        have B3 := hid (h6.trans (HB3.out.mono h6.size))
        have HRA := hid h7
        have HRX := hid h8
        have HT9 := hid h9
        clear h1 h2 h3 h4 h5 h6 h7 h8 h9 HVR P HFIN
        have HOF := hid (of_any ⟨k0, k1, k2, k3, k4, k5⟩ nr xb (2 + 2 * i) rv sv N Y w3 HXJ.out R3.out HGY.out (by have := HI40.out; omega))
        unfold stV at HOF
        have hrg3 : w3.rangeAt wr.heap.size 0 [.int .i64 k0, .int .i64 k1, .int .i64 k2, .int .i64 k3, .int .i64 k4, .int .i64 k5, .bool nr] := range_of_row HS3.out 0 _ fun j v hv => by rw [Nat.zero_add]; simpa using hv
        generalize wr.heap.size = S3 at *
        go_upto_region 11 with (first | (refine wpList_load_mid rfl _ _ rfl S3 0 (by go_simp) [.int .i64 k0, .int .i64 k1, .int .i64 k2, .int .i64 k3, .int .i64 k4, .int .i64 k5, .bool nr] dT hrg3 hdT1 hdT2 Tryz.sizeSt ?_) | (go_at_call 22; refine HOF.out.mono ?_; rintro e w4 ⟨⟨c0, c1, c2, c3, c4, c5⟩, rfl, hcj, hb4⟩; unfold chV; have HCJ := hid hcj; have HB4 := hid hb4; clear hcj hb4))
        obtain ⟨w5, hw5⟩ : ∃ w5, w5 = w4.alloc (.cells #[.int .i64 c0, .int .i64 c1, .int .i64 c2, .int .i64 c3, .int .i64 c4, .int .i64 c5] 51) := ⟨_, rfl⟩
        have HB5 : Hid (Below w4.heap.size w4 w5) := hid (by rw [hw5]; exact (Below.refl _ _).alloc (Nat.le_refl _) _)
        have HC5 : Hid (w5.heap[w4.heap.size]? = some (.cells #[.int .i64 c0, .int .i64 c1, .int .i64 c2, .int .i64 c3, .int .i64 c4, .int .i64 c5] 51 (0, 0))) := hid (by rw [hw5]; exact heap_alloc_new _ _)
        rw [← hw5]
        clear hw5
        have HB35 := hid (HB4.out.trans (HB5.out.mono HB4.out.size))
        have A5 := hid (A3.out.below HB35.out)
        have R5 := hid (R3.out.below HB35.out)
        have B5 := hid (B3.out.trans (HB35.out.mono B3.out.size))
        generalize w4.heap.size = C5 at *
        obtain ⟨r, N', Z', hst⟩ := step_ex N (X.map (·.s)) ⟨c0, c1, c2, c3, c4, c5⟩ HGX.out.ne
        have HST := hid hst
        have HG2 := hid (gd_step HGX.out hst)
        have HT2 := hid (three_step HGX.out HT9.out hst)
        clear hst HB4 HB5 HB35 A3 R3 B3 HOF hrg3 HS3 HB3
        obtain ⟨dC, hdC1, hdC2⟩ := Tryz.rowCh
        have HSW : Hid (∀ Y : World, Y.heap[C5]? = some (.cells #[.int .i64 c0, .int .i64 c1, .int .i64 c2, .int .i64 c3, .int .i64 c4, .int .i64 c5] 51 (0, 0)) → Y.rangeAt C5 0 [.int .i64 c0, .int .i64 c1, .int .i64 c2, .int .i64 c3, .int .i64 c4, .int .i64 c5]) := hid fun Y hY => range_of_row hY 0 _ fun j v hv => by rw [Nat.zero_add]; simpa using hv
        refine wp_region_held_drew (S := fun Y => Y.rangeAt C5 0 [.int .i64 c0, .int .i64 c1, .int .i64 c2, .int .i64 c3, .int .i64 c4, .int .i64 c5]) (by kernel_rfl) (HSW.out _ HC5.out) (fun hHeld => ?_)
        refine wpAnyH_take (i := 0) (v := ?av0) rfl (by kernel_rfl) (by kernel_rfl) (by kernel_rfl) (fun _ _ _ h => h) (Or.inl ⟨by rfl, ?ay0⟩) (by assumption) ?ar0
        case ay0 => (intro w hSw; (try dsimp only at hSw); go_simp; try with_reducible rfl)
        (try simp only [Act.put, List.setIfInBounds_toArray, List.set_cons_zero, List.set_cons_succ, List.getElem_toArray, List.getElem_cons_succ, List.getElem_cons_zero])
        refine wpAnyH_take (i := 1) (v := .agg #[.int .i64 c0, .int .i64 c1, .int .i64 c2, .int .i64 c3, .int .i64 c4, .int .i64 c5]) rfl (by kernel_rfl) (by kernel_rfl) (by kernel_rfl) (fun _ _ _ h => h) (yieldsIf_load_mid rfl _ _ rfl C5 0 rfl [.int .i64 c0, .int .i64 c1, .int .i64 c2, .int .i64 c3, .int .i64 c4, .int .i64 c5] dC (fun Y hY => hY) hdC1 hdC2 Tryz.sizeCh) (by assumption) ?_
        (try simp only [Act.put, List.setIfInBounds_toArray, List.set_cons_zero, List.set_cons_succ, List.getElem_toArray, List.getElem_cons_succ, List.getElem_cons_zero])
        refine wpAnyH_take (i := 3) (v := ?bv3) rfl (by kernel_rfl) (by kernel_rfl) (by kernel_rfl) (fun _ _ _ h => h) (Or.inl ⟨by rfl, ?by3⟩) (by assumption) ?br3
        case by3 => (intro w hSw; (try dsimp only at hSw); go_simp; try with_reducible rfl)
        (try simp only [Act.put, List.setIfInBounds_toArray, List.set_cons_zero, List.set_cons_succ, List.getElem_toArray, List.getElem_cons_succ, List.getElem_cons_zero])
        refine wpAnyH_take (i := 4) (v := .agg #[.int .i64 c0, .int .i64 c1, .int .i64 c2, .int .i64 c3, .int .i64 c4, .int .i64 c5]) rfl (by kernel_rfl) (by kernel_rfl) (by kernel_rfl) (fun _ _ _ h => h) (yieldsIf_load_mid rfl _ _ rfl C5 0 rfl [.int .i64 c0, .int .i64 c1, .int .i64 c2, .int .i64 c3, .int .i64 c4, .int .i64 c5] dC (fun Y hY => hY) hdC1 hdC2 Tryz.sizeCh) (by assumption) ?_
        (try simp only [Act.put, List.setIfInBounds_toArray, List.set_cons_zero, List.set_cons_succ, List.getElem_toArray, List.getElem_cons_succ, List.getElem_cons_zero])
        refine wpAnyH_ready (rs := [2]) (by kernel_rfl) (by simp) ?_
        refine AllReadyH.cons rfl (fun K hK => ?_) AllReadyH.nil
        rw [if_pos (by rfl)]
        go_wp2_with fail
        refine (aapply_any b wb mb n (2 + 2 * i) ov D N N' X Z' ⟨c0, c1, c2, c3, c4, c5⟩ r _ (A5.out.below ((Below.refl _ _).drew)) HGX.out HST.out HCJ.out (by have := HI40.out; omega) (by have := HI40.out; have := HNI.out; omega)).mono ?_
        rintro e w6 ⟨n6, ov6, D6, X6, rfl, ha6, hx6, hn6, ht6⟩
        have T6 := hid ((Tr.below (R := AtR b wb mb) ((Below.refl w5.heap.size w5).drew)).trans ht6)
        have A6 := hid ha6
        have HX6 := hid hx6
        have HN6 := hid hn6
        have R6 := hid (R5.out.away A5.out.m T6.out)
        have C6 := hid ((T6.out.block C5 (lt_of_block HC5.out) (A5.out.m.nob HC5.out (by decide) (by decide))).trans HC5.out)
        clear ha6 hx6 hn6 ht6
        refine hK.out _ _ (HSW.out _ C6.out) (fun hHeld => ?_)
        try clear hK K
        (try simp only [Act.put, List.setIfInBounds_toArray, List.set_cons_zero, List.set_cons_succ, List.getElem_toArray, List.getElem_cons_succ, List.getElem_cons_zero])
        refine wpAnyH_ready (rs := [5]) (by kernel_rfl) (by simp) ?_
        refine AllReadyH.cons rfl (fun K hK => ?_) AllReadyH.nil
        rw [if_pos (by rfl)]
        go_wp2_with fail
        refine (rapply_any xb (2 + 2 * i) rv sv N N' Y Z' ⟨c0, c1, c2, c3, c4, c5⟩ r _ R6.out HGY.out (by rw [HYX.out]; exact HST.out) (by have := HI40.out; omega)).mono ?_
        rintro e w7 ⟨rv7, sv7, Y7, rfl, hr7, hy7, ht7⟩
        have R7 := hid hr7
        have HY7 := hid hy7
        have A7 := hid (A6.out.away R6.out.box ht7)
        have C7 : Hid (w7.heap[C5]? = some (.cells #[.int .i64 c0, .int .i64 c1, .int .i64 c2, .int .i64 c3, .int .i64 c4, .int .i64 c5] 51 (0, 0))) := hid ((ht7.block C5 (lt_of_block C6.out) (fun e => by
          have e' : C5 = xb := e
          have h1 := C6.out
          rw [e', R6.out.box] at h1
          cases h1)).trans C6.out)
        have T7 := hid ht7
        clear hr7 hy7 ht7
        refine hK.out _ _ (HSW.out _ C7.out) (fun hHeld => ?_)
        try clear hK K
        (try simp only [Act.put, List.setIfInBounds_toArray, List.set_cons_zero, List.set_cons_succ, List.getElem_toArray, List.getElem_cons_succ, List.getElem_cons_zero])
        refine wpAnyH_take (i := 6) (v := ?dv6) rfl (by kernel_rfl) (by kernel_rfl) (by kernel_rfl) (fun _ _ _ h => h) (Or.inl ⟨by rfl, ?dy6⟩) (by assumption) ?dr6
        case dy6 => (intro w hSw; (try dsimp only at hSw); go_simp; try with_reducible rfl)
        (try simp only [Act.put, List.setIfInBounds_toArray, List.set_cons_zero, List.set_cons_succ, List.getElem_toArray, List.getElem_cons_succ, List.getElem_cons_zero])
        refine wpAnyH_done (by kernel_rfl) ?_ _
        have HREL : Hid (PlI w b wb mb xb (i + 1) w7) := hid ⟨⟨n6, ov6, D6, N', X6, rv7, sv7, Y7, A7.out, R7.out, by rw [HY7.out, HX6.out], by rw [HX6.out]; exact HG2.out.mono (by omega), by have := HN6.out; have := HNI.out; omega, by rw [HX6.out]; exact HT2.out⟩, (B5.out.trans (T6.out.to HRA.out B5.out.size)).trans (T7.out.to (fun q hq => by have e : q = xb := hq; rw [e]; exact HRX.out) (Nat.le_trans B5.out.size T6.out.size)), HRA.out, HRX.out⟩
        go_wp2_with fail
        go_roundw
        case rel => exact ⟨i + 1, by go_num, by omega, by omega, HREL.out⟩
        case measure => simp [intOf]; omega
    · go_wp2_with fail
      go_ret3
      exact HFIN.out
end Go.Proofs.YtmocedkbabnpfaaGreat
namespace Go.Proofs.YtmocedkbabnpfaaGreat
open Go.RowKit Go.Maps Go.Shelf
set_option linter.unusedVariables false
set_option linter.unusedSimpArgs false

theorem ain_of {B : Nat} {N : AtN} {X : List SX} (g : Gd B N (X.map (·.s))) (hB : B ≤ 1000) : AIn N X := by
  have hm : ∀ x ∈ X, x.s ∈ X.map (·.s) := fun x hx => List.mem_map.2 ⟨x, hx, rfl⟩
  refine ⟨(chn_d X 0 N.bl).2 g.ch, fun x hx => ⟨?_, ?_, fun o ho => ?_⟩, fun x hx => ?_, one_of (ne_map g.ne), ?_, ?_, ?_⟩
  · have := mem7 (g.mb x.s (hm x hx)); omega
  · have := (g.pa x.s (hm x hx)).1; omega
  · have := mem7 ((g.pa x.s (hm x hx)).2 o ho); omega
  · have := g.id x.s (hm x hx); have := g.nx; omega
  · have := g.len; rw [List.length_map] at this; omega
  · have := g.opl; omega
  · have := g.bl; omega
end Go.Proofs.YtmocedkbabnpfaaGreat
namespace Go.Proofs.YtmocedkbabnpfaaGreat
open Go.RowKit Go.Maps Go.Shelf
set_option linter.unusedVariables false
set_option linter.unusedSimpArgs false

theorem nilSame_all (v : Value) (r : Bool) (h : (v = .pointer none ∧ r = true) ∨ ∃ b, v = .pointer (some ⟨b, 0, none⟩) ∧ r = false) (w : World) : Calls Tryz.prog 16 #[.pointer none, v] w fun e w' => e = .returned (.bool r) ∧ Below w.heap.size w w' := by
  rcases h with ⟨rfl, rfl⟩ | ⟨b, rfl, rfl⟩
  · exact nilSame_any w
  · exact nilSame_one b w
/-- Rows of numbers may turn, all else stays. -/
def KpI (w w' : World) : Prop := ∀ (q : Nat) (cs : Array Value) (t : TypeId) (fr : Nat × Nat), w.heap[q]? = some (.cells cs t fr) → (t ≠ 3 → w'.heap[q]? = w.heap[q]?) ∧ (t = 3 → ∃ cs', w'.heap[q]? = some (.cells cs' t fr) ∧ cs'.size = cs.size)
theorem KpI.refl (w : World) : KpI w w := fun q cs t fr h => ⟨fun _ => rfl, fun _ => ⟨cs, h, rfl⟩⟩
theorem KpI.trans {a b c : World} (h : KpI a b) (k : KpI b c) : KpI a c := fun q cs t fr hq => by
  obtain ⟨h1, h2⟩ := h q cs t fr hq
  constructor
  · intro ht
    have e := h1 ht
    exact ((k q cs t fr (e.trans hq)).1 ht).trans e
  · intro ht
    obtain ⟨cs1, e1, s1⟩ := h2 ht
    obtain ⟨cs2, e2, s2⟩ := (k q cs1 t fr e1).2 ht
    exact ⟨cs2, e2, s2.trans s1⟩
theorem KpI.below {a b : World} (h : Below a.heap.size a b) : KpI a b := fun q cs t fr hq => by
  have e := h.block q (lt_of_block hq)
  exact ⟨fun _ => e, fun _ => ⟨cs, e.trans hq, rfl⟩⟩
theorem KpI.set {w : World} {g i : Nat} {u : Value} {cs : Array Value} (h : w.heap[g]? = some (.cells cs 3 (0, 0))) : KpI w (w.setCell ⟨g, i, none⟩ u) := fun q cs' t fr hq => by
  by_cases e : q = g
  · subst e
    rw [h] at hq
    cases hq
    exact ⟨fun ht => absurd rfl ht, fun _ => ⟨_, heap_setCell_same _ _ _ _ _ _ h, by simp⟩⟩
  · have e2 : (w.setCell ⟨g, i, none⟩ u).heap[q]? = w.heap[q]? := Below.heap_setCell _ _ _ _ e
    exact ⟨fun _ => e2, fun _ => ⟨cs', e2.trans hq, rfl⟩⟩
/-- A row of numbers, whichever. -/
def Blk (w : World) (B : Nat) (v : Value) (n : Nat) : Prop := (v = .slice none 0 0 ∧ n = 0) ∨ ∃ g cap cs, v = .slice (some ⟨g, 0, none⟩) n cap ∧ B ≤ g ∧ w.heap[g]? = some (.cells cs 3 (0, 0)) ∧ n ≤ cs.size
theorem Blk.kp {w w' : World} {B n : Nat} {v : Value} (h : Blk w B v n) (k : KpI w w') : Blk w' B v n := by
  rcases h with h | ⟨g, cap, cs, h1, h2, h3, h4⟩
  · exact .inl h
  · obtain ⟨cs', e1, e2⟩ := (k g cs _ _ h3).2 rfl
    exact .inr ⟨g, cap, cs', h1, h2, e1, by omega⟩
theorem Blk.own {w : World} {B n : Nat} {v : Value} {xs : List Value} (h : w.ownsRow B 3 1 v n xs) : Blk w B v n := by
  obtain ⟨h0, h | ⟨g, cap, cur, h1, h2, h3, h4, h5, h6, h7⟩⟩ := h
  · exact .inl h
  · exact .inr ⟨g, cap, cur, h1, h2, h3, by omega⟩
theorem Blk.some {w : World} {B n i : Nat} {va : Option Addr} {vc : Nat} (h : Blk w B (.slice va n vc) n) (hi : i < n) : ∃ g cs u, va = some ⟨g, 0, none⟩ ∧ B ≤ g ∧ w.heap[g]? = some (.cells cs 3 (0, 0)) ∧ w.cell? ⟨g, i, none⟩ = some u ∧ w.frozen? ⟨g, i, none⟩ = false := by
  rcases h with ⟨h1, h2⟩ | ⟨g, cap, cs, h1, h2, h3, h4⟩
  · omega
  · cases h1
    refine ⟨g, cs, cs[i]'(by omega), rfl, h2, h3, ?_, frozen_of_row _ _ _ _ _ h3⟩
    rw [cell_of_row _ _ _ _ _ _ h3]
    exact Array.getElem?_eq_getElem _
theorem Blk.shape {w : World} {B n : Nat} {v : Value} (h : Blk w B v n) : ∃ va vc, v = .slice va n vc := by
  rcases h with ⟨rfl, rfl⟩ | ⟨g, cap, cs, rfl, -⟩
  · exact ⟨_, _, rfl⟩
  · exact ⟨_, _, rfl⟩
theorem own_kpi {w w' : World} {B sz n : Nat} {E : TypeId} {v : Value} {xs : List Value} (h : w.ownsRow B E sz v n xs) (k : KpI w w') (hE : E ≠ 3) : w'.ownsRow B E sz v n xs := own_kept h fun q cs _ hh => (k q cs _ _ hh).1 hE
set_option maxRecDepth 100000 in
theorem row6Ch {w : World} {A : Nat} {c0 c1 c2 c3 c4 c5 c6 : Value} {t : TypeId} (h : w.heap[A]? = some (.cells #[c0, c1, c2, c3, c4, c5, c6] t (0, 0))) : w.rangeAt A 0 [c0, c1, c2, c3, c4, c5] := range_of_row h 0 _ fun j v hv => by
  match j, hv with
  | 0, hv => exact hv
  | 1, hv => exact hv
  | 2, hv => exact hv
  | 3, hv => exact hv
  | 4, hv => exact hv
  | 5, hv => exact hv
theorem wpl_loadChG {ops : Array Oper} {rest : List Oper} {o : Oper} {a : Act} {w : World} {Q : Exit → Act → World → Prop} (hgd : Region.wanted o (yielded ops a.tmps) = true) (x : Operand) (ho : o.op = .load 51 x)
    (b f : Nat) (hx : a.eval x = .pointer (some ⟨b, f, none⟩)) (c0 c1 c2 c3 c4 c5 : Value) (hg : w.rangeAt b f [c0, c1, c2, c3, c4, c5])
    (h : wpList Tryz.prog ops Q rest (a.put o.dst (.agg #[c0, c1, c2, c3, c4, c5])) w) : wpList Tryz.prog ops Q (o :: rest) a w := by
  obtain ⟨d, hd1, hd2⟩ := Tryz.rowCh
  exact wpList_step fun K hK => by rw [if_pos hgd]; exact wp_load_mid _ x ho b f hx [c0, c1, c2, c3, c4, c5] d hg hd1 hd2 Tryz.sizeCh (hK _ _ h)
set_option maxRecDepth 100000 in
set_option maxHeartbeats 16000000 in
theorem atlasApart_any (bl : Int) (L : List (ChD × Bool)) (v : Value) (x : ChD × Bool) (w : World) (hv : Stps w v L) (hj : ∀ x ∈ L, ChJ x.1) (hx : ChJ x.1) :
    Calls Tryz.prog 5 #[.int .i64 bl, v, .agg (stC x).toArray] w fun e w' => e = .returned (.bool true) ∧ Below w.heap.size w w' := by
  obtain ⟨⟨k, sh, ot, at', out, in'⟩, nr⟩ := x
  obtain ⟨sa, sc, rfl⟩ := hv.shape
  obtain ⟨w1, hw1⟩ : ∃ w1, w1 = w.alloc (.cells #[.int .i64 k, .int .i64 sh, .int .i64 ot, .int .i64 at', .int .i64 out, .int .i64 in', .bool nr] 53) := ⟨_, rfl⟩
  have B1 : Hid (Below w.heap.size w w1) := hid (by rw [hw1]; exact (Below.refl _ _).alloc (Nat.le_refl _) _)
  have hA1 : w1.heap[w.heap.size]? = some (.cells #[.int .i64 k, .int .i64 sh, .int .i64 ot, .int .i64 at', .int .i64 out, .int .i64 in', .bool nr] 53 (0, 0)) := by rw [hw1]; exact heap_alloc_new _ _
  have HW1 := hid hw1
  have HPL := hid (play_any bl L _ w1 (hv.below B1.out) hj)
  have HCJ := hid hx
  clear hv hj hw1 hx
  unfold stC
  simp only
  go_enter Tryz.func5, Tryz.ntmps5
  go_upto_region 1 with fail
  rw [← HW1.out]
  clear HW1
  obtain ⟨A, hA⟩ : ∃ A, A = w.heap.size := ⟨_, rfl⟩
  rw [← hA] at hA1
  rw [← hA]
  have HA1 := hid hA1
  clear hA hA1
  go_upto_region 4 with (go_at_call 6; refine HPL.out.mono ?_; rintro e w2 ⟨b, wb, mb, n, ov, D, N, X, xb, rv, sv, Yx, rfl, ha, hr, hy, hg, hn, hb, -, -, -⟩; have A0 := hid ha; have R0 := hid hr; have HYX := hid hy; have HG := hid hg; have HN := hid hn; have HGY : Hid (Gd 100 N (Yx.map (·.s))) := hid (by rw [hy]; exact hg); have HA2 := hid ((hb.block A (lt_of_block HA1.out)).trans HA1.out); have B2 := hid (B1.out.trans (hb.mono B1.out.size)); clear ha hr hy hg hn hb)
  clear HPL HA1 B1
  have AI := hid (ain_of HG.out (by omega))
  have HOL : Hid (N.op.length ≤ 1000000) := hid (by have := HG.out.opl; omega)
  go_upto_region 5 with (go_at_call 18; refine (aclone_any b wb mb n ov D N X _ A0.out HOL.out (by have := AI.out.len; omega)).mono ?_; rintro e w3 ⟨c1, wc, mc, ov1, rfl, hac, hb3, hrc⟩; have C3 := hid hac; have B3 := hid hb3; have HRC := hid hrc; clear hac hb3 hrc)
  go_upto_region 6 with (go_at_call 19; refine (shardsF_any b wb mb n ov D N X _ (A0.out.below B3.out) AI.out.shb AI.out.i64 AI.out.one AI.out.len).mono ?_; rintro e w4 ⟨Yr, ra, rc, rfl, hy4, ho4, hm4, hb4⟩; have O4 := hid ho4; have HY4 := hid hy4; have M4 := hid hm4; have B4 := hid hb4; clear hy4 ho4 hm4 hb4)
  have hyb : (Yr.length : Int) ≤ 1000 := by
    have e := congrArg List.length HY4.out
    rw [List.length_map, List.length_map] at e
    have := HG.out.len
    rw [List.length_map] at this
    omega
  go_wp2_with fail
  go_loopw [12, 13, 15, 16, 37, 44, 55, 62] (fun _ _ _ _ iv _ _ _ wr => ∃ j : Nat, iv = .int .i64 j ∧ j ≤ Yr.length ∧ KpI w4 wr ∧ Below w3.heap.size w3 wr) (fun _ _ _ _ iv _ _ _ _ => Yr.length - (intOf iv).toNat)
  case atStart => exact ⟨0, rfl, Nat.zero_le _, KpI.refl _, B4.out⟩
  case round =>
    obtain ⟨j, rfl, hjl, hkp, hbr⟩ := hrel
    have KR := hid hkp
    have BR := hid hbr
    clear hkp hbr
    by_cases hlt : (j : Int) < (Yr.length : Int)
    · have hjl2 : j < Yr.length := by omega
      obtain ⟨g, rfl⟩ : ∃ g, ra = some ⟨g, 0, none⟩ := own_some O4.out (by omega)
      have hRG : wr.rangeAt g (j * 5) (Yr[j]'hjl2).c := own_range (own_kpi O4.out KR.out (by decide)) (j * 5) _ fun k v hv => shvs_part Yr j hjl2 k v hv
      have HSF := hid (M4.out (Yr[j]'hjl2) (List.getElem_mem _))
      have HSX : Hid ((Yr[j]'hjl2).s ∈ X.map (·.s)) := hid (by rw [← HY4.out]; exact List.mem_map.2 ⟨_, List.getElem_mem _, rfl⟩)
      obtain ⟨⟨S, mv, pv⟩, hyj⟩ : ∃ y, y = Yr[j]'hjl2 := ⟨_, rfl⟩
      rw [← hyj] at hRG HSF HSX
      clear hyj
      obtain ⟨Lp, hL1, hL2, hL3⟩ := HSF.out.p
      have MB : Hid (Blk w4 w3.heap.size mv S.mem.length) := hid (Blk.own HSF.out.m)
      have PO : Hid (w4.ownsRow w3.heap.size 58 4 pv Lp.length (orvs Lp)) := hid hL2
      have PB : Hid (∀ o ∈ Lp, Blk w4 w3.heap.size o.mv o.o.mem.length) := hid fun o ho => Blk.own (hL3 o ho)
      obtain ⟨ma, mc', rfl⟩ := MB.out.shape
      obtain ⟨pa, pc, rfl⟩ := own_shape PO.out
      have hml : (S.mem.length : Int) ≤ 7 := by have := mem7 (HG.out.mb S HSX.out); omega
      have hpa := HG.out.pa S HSX.out
      have hpl : (Lp.length : Int) ≤ 2 := by have e := congrArg List.length hL1; rw [List.length_map] at e; have e2 : Lp.length = S.past.length := e; omega
      have PM : Hid (∀ o ∈ Lp, (o.o.mem.length : Int) ≤ 7) := hid fun o ho => by
        have hm : o.o ∈ S.past := by
          have e : Lp.map (·.o) = S.past := hL1
          rw [← e]; exact List.mem_map.2 ⟨o, ho, rfl⟩
        have := mem7 (hpa.2 o.o hm); omega
      clear hL1 hL2 hL3 HSF HSX hpa
      unfold SX.c at hRG
      simp only at hRG
      obtain ⟨w5, hw5⟩ : ∃ w5, w5 = wr.alloc (.cells #[.int .i64 S.id, .int .i64 S.fr, .int .i64 S.to, .slice ma S.mem.length mc', .slice pa Lp.length pc] 34) := ⟨_, rfl⟩
      have hb5 : Below wr.heap.size wr w5 := by rw [hw5]; exact (Below.refl _ _).alloc (Nat.le_refl _) _
      have HP5 : Hid (w5.heap[wr.heap.size]? = some (.cells #[.int .i64 S.id, .int .i64 S.fr, .int .i64 S.to, .slice ma S.mem.length mc', .slice pa Lp.length pc] 34 (0, 0))) := hid (by rw [hw5]; exact heap_alloc_new _ _)
      have K5 := hid (KR.out.trans (KpI.below hb5))
      have B5 := hid (BR.out.trans (hb5.mono BR.out.size))
      have HW5 := hid hw5
      clear hw5 hb5
      go_upto_region 8 with (refine wpl_loadM rfl _ rfl g (j * 5) (by go_simp) _ _ _ _ _ hRG ?_)
      rw [← HW5.out]
      clear HW5 hRG
      obtain ⟨P, hP⟩ : ∃ P, P = wr.heap.size := ⟨_, rfl⟩
      rw [← hP] at HP5 ⊢
      clear hP
      have c3 : w5.cell? ⟨P, 3, none⟩ = some (.slice ma S.mem.length mc') := by rw [cell_of_row _ _ _ _ _ _ HP5.out]; rfl
      go_wp2_with fail
      clear c3
      go_loopw [13, 44] (fun _ iv wr => ∃ i : Nat, iv = .int .i64 i ∧ i ≤ S.mem.length ∧ KpI w5 wr ∧ Below w3.heap.size w3 wr) (fun _ iv _ => S.mem.length - (intOf iv).toNat)
      case atStart => exact ⟨0, rfl, Nat.zero_le _, KpI.refl _, B5.out⟩
      case round =>
        obtain ⟨i, rfl, hil, hkp, hbr⟩ := hrel
        have K6 := hid hkp
        have B6 := hid hbr
        clear hkp hbr
        have HP6 := hid (((K6.out P _ _ _ HP5.out).1 (by decide)).trans HP5.out)
        by_cases hlt2 : (i : Int) < (S.mem.length : Int)
        · obtain ⟨gm, cs, u, rfl, hgm, hcs, hcu, hfu⟩ := (MB.out.kp (K5.out.trans K6.out)).some (i := i) (by omega)
          have c3 : wr.cell? ⟨P, 3, none⟩ = some (.slice (some ⟨gm, 0, none⟩) S.mem.length mc') := by rw [cell_of_row _ _ _ _ _ _ HP6.out]; rfl
          have HREL : Hid (KpI w5 (wr.setCell ⟨gm, i, none⟩ (.int .i64 6)) ∧ Below w3.heap.size w3 (wr.setCell ⟨gm, i, none⟩ (.int .i64 6))) := hid ⟨K6.out.trans (KpI.set hcs), below_set B6.out hgm⟩
          clear hcs hgm
          go_wp2_with fail
          go_roundw
          case rel => exact ⟨i + 1, by go_num, by omega, HREL.out.1, HREL.out.2⟩
          case measure => simp [intOf]; omega
        · have c4 : wr.cell? ⟨P, 4, none⟩ = some (.slice pa Lp.length pc) := by rw [cell_of_row _ _ _ _ _ _ HP6.out]; rfl
          go_wp2_with fail
          clear c4
          obtain ⟨wk, rfl⟩ : ∃ x, x = wr := ⟨_, rfl⟩
          go_loopw [15, 16, 55, 62] (fun _ _ iv _ wr => ∃ q : Nat, iv = .int .i64 q ∧ q ≤ Lp.length ∧ KpI w5 wr ∧ Below w3.heap.size w3 wr) (fun _ _ iv _ _ => Lp.length - (intOf iv).toNat)
          case atStart => exact ⟨0, rfl, Nat.zero_le _, K6.out, B6.out⟩
          case round =>
            obtain ⟨q, rfl, hql, hkp, hbr⟩ := hrel
            have K7 := hid hkp
            have B7 := hid hbr
            clear hkp hbr
            by_cases hlt3 : (q : Int) < (Lp.length : Int)
            · have hql2 : q < Lp.length := by omega
              have PO7 := own_kpi PO.out (K5.out.trans K7.out) (by decide)
              obtain ⟨go, rfl⟩ : ∃ go, pa = some ⟨go, 0, none⟩ := own_some PO7 (by omega)
              have hRO : wr.rangeAt go (q * 4) (orC (Lp[q]'hql2)) := own_range PO7 (q * 4) (orC (Lp[q]'hql2)) (orvs_part Lp q hql2)
              have OB : Hid (Blk wr w3.heap.size (Lp[q]'hql2).mv (Lp[q]'hql2).o.mem.length) := hid ((PB.out _ (List.getElem_mem hql2)).kp (K5.out.trans K7.out))
              have hom := PM.out _ (List.getElem_mem hql2)
              obtain ⟨⟨od, omv⟩, hoj⟩ : ∃ y, y = Lp[q]'hql2 := ⟨_, rfl⟩
              rw [← hoj] at hRO OB hom
              clear hoj PO7
              simp only at hom
              have OB : Hid (Blk wr w3.heap.size omv od.mem.length) := OB
              obtain ⟨oa, oc, rfl⟩ := OB.out.shape
              unfold orC at hRO
              simp only at hRO
              go_upto_region 16 with (first | (refine wpl_loadO rfl _ rfl go (q * 4) (by go_simp) _ _ _ _ hRO ?_) | (refine wpl_newO (w3 := wr) rfl _ _ rfl _ _ _ _ rfl rfl rfl rfl rfl rfl rfl ?_; intro w8 hg8 hb8; have G8 := hid hg8; have K8 := hid (K7.out.trans (KpI.below hb8)); have B8 := hid (B7.out.trans (hb8.mono B7.out.size)); have OB8 := hid (OB.out.kp (KpI.below hb8)); clear hg8 hb8))
              obtain ⟨Q, hQ⟩ : ∃ Q, Q = wr.heap.size := ⟨_, rfl⟩
              rw [← hQ] at G8 ⊢
              clear hQ hRO
              have c3 : w8.cell? ⟨Q, 3, none⟩ = some (.slice oa od.mem.length oc) := by rw [cell_of_row _ _ _ _ _ _ G8.out]; rfl
              go_wp2_with fail
              clear c3
              go_loopw [16, 62] (fun _ iv wr => ∃ i : Nat, iv = .int .i64 i ∧ i ≤ od.mem.length ∧ KpI w8 wr ∧ Below w3.heap.size w3 wr) (fun _ iv _ => od.mem.length - (intOf iv).toNat)
              case atStart => exact ⟨0, rfl, Nat.zero_le _, KpI.refl _, B8.out⟩
              case round =>
                obtain ⟨i2, rfl, hil2, hkp, hbr⟩ := hrel
                have K9 := hid hkp
                have B9 := hid hbr
                clear hkp hbr
                have G9 := hid (((K9.out Q _ _ _ G8.out).1 (by decide)).trans G8.out)
                by_cases hlt4 : (i2 : Int) < (od.mem.length : Int)
                · obtain ⟨gm, cs, u, rfl, hgm, hcs, hcu, hfu⟩ := (OB8.out.kp K9.out).some (i := i2) (by omega)
                  have c3 : wr.cell? ⟨Q, 3, none⟩ = some (.slice (some ⟨gm, 0, none⟩) od.mem.length oc) := by rw [cell_of_row _ _ _ _ _ _ G9.out]; rfl
                  have HREL : Hid (KpI w8 (wr.setCell ⟨gm, i2, none⟩ (.int .i64 6)) ∧ Below w3.heap.size w3 (wr.setCell ⟨gm, i2, none⟩ (.int .i64 6))) := hid ⟨K9.out.trans (KpI.set hcs), below_set B9.out hgm⟩
                  clear hcs hgm
                  go_wp2_with fail
                  go_roundw
                  case rel => exact ⟨i2 + 1, by go_num, by omega, HREL.out.1, HREL.out.2⟩
                  case measure => simp [intOf]; omega
                · go_wp2_with fail
                  go_roundw
                  case rel => exact ⟨q + 1, by go_num, by omega, K8.out.trans K9.out, B9.out⟩
                  case measure => simp [intOf]; omega
            · go_wp2_with fail
              go_roundw
              case rel => exact ⟨j + 1, by go_num, by omega, K5.out.trans K7.out, B7.out⟩
              case measure => simp [intOf]; omega
    · have BZ := hid (B3.out.trans (BR.out.mono B3.out.size))
      clear KR O4 M4 HY4 hyb
      have hopl : (N.op.length : Int) ≤ 1000000 := by have := HOL.out; omega
      go_upto_region 24 with (go_at_call 20; refine (aopen_any b wb mb n ov D N _ X _ (A0.out.below BZ.out).m HOL.out).mono ?_; rintro e wo ⟨oa, oc, rfl, -, hbo⟩; have BO := hid (BR.out.trans (hbo.mono BR.out.size)); clear hbo)
      clear BZ
      go_loopw [17, 75] (fun _ iv wr => ∃ i : Nat, iv = .int .i64 i ∧ i ≤ N.op.length ∧ Below w3.heap.size w3 wr) (fun _ iv _ => N.op.length - (intOf iv).toNat)
      case atStart => exact ⟨0, rfl, Nat.zero_le _, BO.out⟩
      case round =>
        obtain ⟨i, rfl, hil, hbr⟩ := hrel
        have BQ := hid hbr
        have BZ := hid (B3.out.trans (hbr.mono B3.out.size))
        clear hbr
        by_cases hlt5 : (i : Int) < (N.op.length : Int)
        · have hio : i < N.op.length := by omega
          go_upto_region 26 with fail
          go_upto_region 27 with (go_at_call 20; refine (aopen_any b wb mb n ov D N _ X _ (A0.out.below BZ.out).m HOL.out).mono ?_; rintro e wp ⟨oa2, oc2, rfl, hoo, hbo⟩; obtain ⟨gm, cs, u, rfl, hgm, hcs, hcu, hfu⟩ := (Blk.own hoo).some (i := i) hio; have HREL : Hid (Below w3.heap.size w3 (wp.setCell ⟨gm, i, none⟩ (.int .i64 (-1)))) := hid (below_set (BQ.out.trans (hbo.mono BQ.out.size)) (Nat.le_trans BQ.out.size hgm)); clear hoo hbo hgm hcs)
          go_wp2_with fail
          go_roundw
          case rel => exact ⟨i + 1, by go_num, by omega, HREL.out⟩
          case measure => simp [intOf]; omega
        · have HAZ := hid ((BZ.out.block A (lt_of_block HA2.out)).trans HA2.out)
          have HOF := hid (of_any ⟨k, sh, ot, at', out, in'⟩ nr xb 100 rv sv N Yx wr HCJ.out (R0.out.below BZ.out) HGY.out (by omega))
          unfold stV at HOF
          obtain ⟨dT, hdT1, hdT2⟩ := Tryz.rowSt
          have hrA : wr.rangeAt A 0 [.int .i64 k, .int .i64 sh, .int .i64 ot, .int .i64 at', .int .i64 out, .int .i64 in', .bool nr] := range_of_row HAZ.out 0 _ fun j v hv => by rw [Nat.zero_add]; simpa using hv
          go_upto_region 29 with (first | (refine wpList_load_mid rfl _ _ rfl A 0 (by go_simp) [.int .i64 k, .int .i64 sh, .int .i64 ot, .int .i64 at', .int .i64 out, .int .i64 in', .bool nr] dT hrA hdT1 hdT2 Tryz.sizeSt ?_) | (go_at_call 22; refine HOF.out.mono ?_; rintro e w6 ⟨⟨k0, k1, k2, k3, k4, k5⟩, rfl, hcj, hb6⟩; unfold chV; have HC6 := hid hcj; have BZ6 := hid (BZ.out.trans (hb6.mono BZ.out.size)); have BQ6 := hid (BQ.out.trans (hb6.mono BQ.out.size)); clear hcj hb6) | (go_at_call 21; obtain ⟨q, N', Z', hst⟩ := step_ex N (X.map (·.s)) ⟨k0, k1, k2, k3, k4, k5⟩ HG.out.ne; have HPA := hid (aapply_any c1 wc mc n 100 ov1 D N N' X Z' ⟨k0, k1, k2, k3, k4, k5⟩ q w6 (C3.out.below BQ6.out) HG.out hst HC6.out (by omega) (by have := HN.out; omega)); unfold chV at HPA; refine HPA.out.mono ?_; rintro e w7 ⟨n7, ov7, D7, X7, rfl, -, -, -, ht⟩; have BZ7 := hid (BZ6.out.trans (ht.to HRC.out BZ6.out.size)); clear ht hst HPA))
          clear hrA HOF HAZ BZ BQ BZ6 BQ6
          have HNA := hid (fun W => nilApply_any ⟨k, sh, ot, at', out, in'⟩ W)
          unfold chV at HNA
          go_upto_region 31 with (go_at_call 23; refine (nilGet_any 1 _).mono ?_; rintro e w8 ⟨rfl, hb8⟩; have BZ8 := hid (BZ7.out.trans (hb8.mono BZ7.out.size)); clear hb8)
          have BZ9 := hid (BZ8.out.alloc BZ8.out.size (.cells #[.int .i64 0, .int .i64 0, .int .i64 0, .slice none 0 0, .slice none 0 0] 34))
          have BZ := BZ9
          clear BZ9 BZ8 BZ7
          generalize w8.alloc (.cells #[.int .i64 0, .int .i64 0, .int .i64 0, .slice none 0 0, .slice none 0 0] 34) = w9 at *
          go_wp2_with (first | (go_at_call 8; refine (nilFind_any 0 _).mono ?_; rintro e wa ⟨rfl, hb⟩; have BZ := hid (BZ.out.trans (hb.mono BZ.out.size)); clear hb) | (go_at_call 17; refine (alike_any b wb mb n xb ov rv sv D N X Yx _ (A0.out.below (BZ.out.alloc BZ.out.size _)) AI.out (R0.out.below (BZ.out.alloc BZ.out.size _)).ra HYX.out).mono ?_; rintro e wa ⟨rfl, hb⟩; have BZ := hid ((BZ.out.alloc BZ.out.size _).trans (hb.mono (BZ.out.alloc BZ.out.size _).size)); have hAz := (BZ.out.block A (lt_of_block HA2.out)).trans HA2.out; have p0 : wa.cell? ⟨A, 0, none⟩ = some (.int .i64 k) := (by rw [cell_of_row _ _ _ _ _ _ hAz]; rfl); have p1 : wa.cell? ⟨A, 1, none⟩ = some (.int .i64 sh) := (by rw [cell_of_row _ _ _ _ _ _ hAz]; rfl); have p2 : wa.cell? ⟨A, 2, none⟩ = some (.int .i64 ot) := (by rw [cell_of_row _ _ _ _ _ _ hAz]; rfl); have p3 : wa.cell? ⟨A, 3, none⟩ = some (.int .i64 at') := (by rw [cell_of_row _ _ _ _ _ _ hAz]; rfl); have p4 : wa.cell? ⟨A, 4, none⟩ = some (.int .i64 out) := (by rw [cell_of_row _ _ _ _ _ _ hAz]; rfl); have p5 : wa.cell? ⟨A, 5, none⟩ = some (.int .i64 in') := (by rw [cell_of_row _ _ _ _ _ _ hAz]; rfl); clear hb hAz) | (go_at_call 21; refine (HNA.out _).mono ?_; rintro e wa ⟨rfl, hb⟩; have BZ := hid (BZ.out.trans (hb.mono BZ.out.size)); clear hb) | (go_at_call 18; refine (nilClone_any _).mono ?_; rintro e wa ⟨rfl, hb⟩; have BZ := hid (BZ.out.trans (hb.mono BZ.out.size)); clear hb) | (go_at_call 16; refine (nilSame_all _ _ (by first | exact Or.inl ⟨rfl, rfl⟩ | exact Or.inr ⟨_, rfl, rfl⟩) _).mono ?_; rintro e wa ⟨rfl, hb⟩; have BZ := hid (BZ.out.trans (hb.mono BZ.out.size)); clear hb) | (go_at_call 11; refine (nilBlocks_any _).mono ?_; rintro e wa ⟨rfl, hb⟩; have BZ := hid (BZ.out.trans (hb.mono BZ.out.size)); clear hb) | (go_at_call 24; refine (nilEpoch_any _).mono ?_; rintro e wa ⟨rfl, hb⟩; have BZ := hid (BZ.out.trans (hb.mono BZ.out.size)); clear hb) | (go_at_call 25; refine (nilNext_any _).mono ?_; rintro e wa ⟨rfl, hb⟩; have BZ := hid (BZ.out.trans (hb.mono BZ.out.size)); clear hb) | (go_at_call 20; refine (nilOpen_any _).mono ?_; rintro e wa ⟨rfl, hb⟩; have BZ := hid (BZ.out.trans (hb.mono BZ.out.size)); clear hb) | (go_at_call 19; refine (nilShards_any _).mono ?_; rintro e wa ⟨rfl, hb⟩; have BZ := hid (BZ.out.trans (hb.mono BZ.out.size)); clear hb) | (go_at_call 13; refine (nilEncode_any _).mono ?_; rintro e wa ⟨rfl, hb⟩; have BZ := hid (BZ.out.trans (hb.mono BZ.out.size)); clear hb) | (go_at_call 7; refine (nilPieces_any 0 9 _).mono ?_; rintro e wa ⟨rfl, hb⟩; have BZ := hid (BZ.out.trans (hb.mono BZ.out.size)); clear hb) | (go_at_call 12; refine (lives_any _).mono ?_; rintro e wa ⟨rfl, hb⟩; have BZ := hid (BZ.out.trans (hb.mono BZ.out.size)); clear hb))
          go_ret
          exact ⟨rfl, B2.out.trans (BZ.out.mono B2.out.size)⟩
end Go.Proofs.YtmocedkbabnpfaaGreat
namespace Go.Proofs.YtmocedkbabnpfaaGreat
open Go.ChangeShapes Go.WideShapes Go.ChangeAt Go.RowKit Go.Deep
set_option maxRecDepth 100000

variable {H : Type} {enc : TypeId × Value → H} {w : World} {base : Nat} {spare : Nat → Bool} {held : Bool}

theorem Tryz.cellsI : Tryz.prog.cellsOf 3 = 1 := by kernel_rfl
theorem int_of {n : Nat} {v0 : Value} {y0 : DataW H × List MemPlace} (h0 : DataW.trod enc Tryz.prog w base spare held n 3 [v0] = some y0) : ∃ x : Int, v0 = .int .i64 x ∧ I64 x := by
  obtain ⟨a0, e0, rfl, w0⟩ := DataW.trod_int Tryz.underlying3 h0
  simp at e0
  subst e0
  have s0 : -9223372036854775808 ≤ a0 ∧ a0 ≤ 9223372036854775807 := by simpa [Lit.wf, IntKind.min, IntKind.max, IntKind.signed, IntKind.bits] using w0
  exact ⟨a0, rfl, s0⟩
/-- A slice of numbers that came in. -/
theorem nums_of {n : Nat} {v : Value} {y : DataW H × List MemPlace} (h : DataW.trod enc Tryz.prog w base spare held n 31 [v] = some y) : ∃ l, Nums w v l ∧ ∀ x ∈ l, I64 x := by
  rcases DataW.trod_slice Tryz.underlying31 h with ⟨hcs, _⟩ | ⟨a, len, cap, elems, rest, n', _, hcs, _, hb, hl, hm, hlen, hel, _, _⟩
  · simp at hcs
    subst hcs
    exact ⟨[], ⟨none, 0, 0, rfl, rfl, Nat.le_refl _, by omega, (fun _ => rfl), (fun ad h => by cases h)⟩, by simp⟩
  · simp at hcs
    subst hcs
    have each : ∀ i, i < len → ∃ q : Int, w.cell? (a.add i) = some (.int .i64 q) ∧ I64 q := by
      intro i hi
      have h1 := hel i hi
      rw [List.getElem?_eq_getElem (by omega), Tryz.cellsI] at h1
      obtain ⟨cs, h2, h3⟩ := Option.bind_eq_some_iff.1 h1
      obtain ⟨_, hcl, hcell⟩ := World.cells?_some h2
      match cs, hcl with
      | [v0], _ =>
        obtain ⟨x, rfl, hx⟩ := int_of h3
        have e0 := hcell 0 (by omega)
        rw [Addr.add_add] at e0
        exact ⟨x, by simpa using e0, hx⟩
    obtain ⟨q, hq⟩ := choose_lt each
    refine ⟨(List.range len).map q, ⟨some a, len, cap, rfl, by simp, hl, by unfold maxLen at hm; omega, (fun h => by cases h), fun ad had j hj => ?_⟩, ?_⟩
    · obtain rfl := Option.some.inj had
      have hj' : j < len := by simpa using hj
      simp only [List.getElem_map, List.getElem_range]
      exact (hq j hj').1
    · intro x hx
      simp only [List.mem_map, List.mem_range] at hx
      obtain ⟨i, hi, rfl⟩ := hx
      exact (hq i hi).2
end Go.Proofs.YtmocedkbabnpfaaGreat
namespace Go.Proofs.YtmocedkbabnpfaaGreat
open Go.ChangeShapes Go.WideShapes Go.ChangeAt Go.RowKit Go.Deep
set_option maxRecDepth 100000

variable {H : Type} {enc : TypeId × Value → H} {w : World} {base : Nat} {spare : Nat → Bool} {held : Bool}
theorem Tryz.cellsCh : Tryz.prog.cellsOf 51 = 6 := by kernel_rfl
theorem ch6_of {n : Nat} {v0 v1 v2 v3 v4 v5 : Value} {y : DataW H × List MemPlace} (h : DataW.trod enc Tryz.prog w base spare held n 51 [v0, v1, v2, v3, v4, v5] = some y) : ∃ c : ChD, v0 = .int .i64 c.k ∧ v1 = .int .i64 c.sh ∧ v2 = .int .i64 c.ot ∧ v3 = .int .i64 c.at' ∧ v4 = .int .i64 c.out ∧ v5 = .int .i64 c.in' ∧ ChJ c := by
  obtain ⟨xs, k, hk, hxy, _, hxl, hf⟩ := DataW.trod_struct Tryz.underlying51 h
  match xs, hxl with
  | [y0, y1, y2, y3, y4, y5], _ =>
    have g0 := hf 0 _ rfl
    have g1 := hf 1 _ rfl
    have g2 := hf 2 _ rfl
    have g3 := hf 3 _ rfl
    have g4 := hf 4 _ rfl
    have g5 := hf 5 _ rfl
    simp [Tryz.cellsI] at g0 g1 g2 g3 g4 g5
    obtain ⟨x0, rfl, i0⟩ := int_of g0
    obtain ⟨x1, rfl, i1⟩ := int_of g1
    obtain ⟨x2, rfl, i2⟩ := int_of g2
    obtain ⟨x3, rfl, i3⟩ := int_of g3
    obtain ⟨x4, rfl, i4⟩ := int_of g4
    obtain ⟨x5, rfl, i5⟩ := int_of g5
    refine ⟨⟨x0, x1, x2, x3, x4, x5⟩, rfl, rfl, rfl, rfl, rfl, rfl, ?_⟩
    intro x hx
    simp only [numC, List.mem_cons, List.not_mem_nil, or_false] at hx
    rcases hx with rfl | rfl | rfl | rfl | rfl | rfl <;> assumption
/-- A change by value. -/
theorem ch_of {r : Reach} {b0 : Nat} {v : Value} {d : DataW H} {p : List MemPlace} (hv : Value.okWide Tryz.prog w r b0 51 v) (h : DataW.Trod enc Tryz.prog w base spare held 51 v d p) : ∃ c : ChD, v = chV c ∧ ChJ c := by
  simp only [Value.okWide, Tryz.underlying51] at hv
  obtain ⟨cs, rfl, h2, -⟩ := hv
  rw [Tryz.cellsCh] at h2
  obtain ⟨l⟩ := cs
  obtain ⟨fuel, hf⟩ := h
  match l, h2 with
  | [c0, c1, c2, c3, c4, c5], _ =>
    obtain ⟨c, rfl, rfl, rfl, rfl, rfl, rfl, hj⟩ := ch6_of hf
    exact ⟨c, rfl, hj⟩
end Go.Proofs.YtmocedkbabnpfaaGreat
namespace Go.Proofs.YtmocedkbabnpfaaGreat
open Go.ChangeShapes Go.WideShapes Go.ChangeAt Go.RowKit Go.Deep
set_option maxRecDepth 100000
set_option linter.unusedVariables false

variable {H : Type} {enc : TypeId × Value → H} {w : World} {base : Nat} {spare : Nat → Bool} {held : Bool}
theorem Tryz.cellsBs : Tryz.prog.cellsOf 4 = 1 := by kernel_rfl
theorem Tryz.cellsSt : Tryz.prog.cellsOf 53 = 7 := by kernel_rfl
theorem choose_ltT {α : Type} [Inhabited α] {n : Nat} {P : Nat → α → Prop} (h : ∀ i, i < n → ∃ x, P i x) : ∃ f : Nat → α, ∀ i, i < n → P i (f i) :=
  Classical.axiomOfChoice (r := fun i x => i < n → P i x) fun i => by
    by_cases hi : i < n
    · obtain ⟨x, hx⟩ := h i hi; exact ⟨x, fun _ => hx⟩
    · exact ⟨default, fun hh => absurd hh hi⟩
theorem st7_of {n : Nat} {v0 v1 v2 v3 v4 v5 v6 : Value} {y : DataW H × List MemPlace} (h : DataW.trod enc Tryz.prog w base spare held n 53 [v0, v1, v2, v3, v4, v5, v6] = some y) : ∃ (c : ChD) (nr : Bool), v0 = .int .i64 c.k ∧ v1 = .int .i64 c.sh ∧ v2 = .int .i64 c.ot ∧ v3 = .int .i64 c.at' ∧ v4 = .int .i64 c.out ∧ v5 = .int .i64 c.in' ∧ v6 = .bool nr ∧ ChJ c := by
  obtain ⟨xs, k, hk, hxy, _, hxl, hf⟩ := DataW.trod_struct Tryz.underlying53 h
  match xs, hxl with
  | [y0, y1], _ =>
    have g0 := hf 0 _ rfl
    have g1 := hf 1 _ rfl
    simp [Tryz.cellsCh, Tryz.cellsBs] at g0 g1
    obtain ⟨c, e0, e1, e2, e3, e4, e5, hj⟩ := ch6_of g0
    obtain ⟨nr, hb, _⟩ := DataW.trod_bool Tryz.underlying4 g1
    exact ⟨c, nr, e0, e1, e2, e3, e4, e5, by simpa using hb, hj⟩
/-- A step by value. -/
theorem st_of {r : Reach} {b0 : Nat} {v : Value} {d : DataW H} {p : List MemPlace} (hv : Value.okWide Tryz.prog w r b0 53 v) (h : DataW.Trod enc Tryz.prog w base spare held 53 v d p) : ∃ x : ChD × Bool, v = .agg (stC x).toArray ∧ ChJ x.1 := by
  simp only [Value.okWide, Tryz.underlying53] at hv
  obtain ⟨cs, rfl, h2, -⟩ := hv
  rw [Tryz.cellsSt] at h2
  obtain ⟨l⟩ := cs
  obtain ⟨fuel, hf⟩ := h
  match l, h2 with
  | [c0, c1, c2, c3, c4, c5, c6], _ =>
    obtain ⟨c, nr, rfl, rfl, rfl, rfl, rfl, rfl, rfl, hj⟩ := st7_of hf
    exact ⟨(c, nr), rfl, hj⟩
/-- A slice of steps that came in. -/
theorem stps_of {n : Nat} {v : Value} {y : DataW H × List MemPlace} (h : DataW.trod enc Tryz.prog w base spare held n 22 [v] = some y) : ∃ l, Stps w v l ∧ ∀ x ∈ l, ChJ x.1 := by
  rcases DataW.trod_slice Tryz.underlying22 h with ⟨hcs, _⟩ | ⟨a, len, cap, elems, rest, n', _, hcs, _, hb, hl, hm, hlen, hel, _, _⟩
  · simp at hcs
    subst hcs
    exact ⟨[], ⟨none, 0, 0, rfl, rfl, Nat.le_refl _, by omega, (fun _ => rfl), (fun ad h => by cases h)⟩, by simp⟩
  · simp at hcs
    subst hcs
    have each : ∀ i, i < len → ∃ q : ChD × Bool, (∀ k u, (stC q)[k]? = some u → w.cell? (a.add (i * 7 + k)) = some u) ∧ ChJ q.1 := by
      intro i hi
      have h1 := hel i hi
      rw [List.getElem?_eq_getElem (by omega), Tryz.cellsSt] at h1
      obtain ⟨cs, h2, h3⟩ := Option.bind_eq_some_iff.1 h1
      obtain ⟨_, hcl, hcell⟩ := World.cells?_some h2
      match cs, hcl with
      | [v0, v1, v2, v3, v4, v5, v6], _ =>
        obtain ⟨c, nr, rfl, rfl, rfl, rfl, rfl, rfl, rfl, hj⟩ := st7_of h3
        refine ⟨(c, nr), fun k u hk => ?_, hj⟩
        have hk7 : k < 7 := (List.getElem?_eq_some_iff.1 hk).1
        have e := hcell k (by simpa using hk7)
        rw [Addr.add_add] at e
        rw [e]
        have : (stC (c, nr))[k]? = _ := hk
        unfold stC at this
        simpa using this
    haveI : Inhabited (ChD × Bool) := ⟨(⟨0, 0, 0, 0, 0, 0⟩, false)⟩
    obtain ⟨q, hq⟩ := choose_ltT each
    refine ⟨(List.range len).map q, ⟨some a, len, cap, rfl, by simp, hl, by unfold maxLen at hm; omega, (fun h => by cases h), fun ad had j hj => ?_⟩, ?_⟩
    · obtain rfl := Option.some.inj had
      have hj' : j < len := by simpa using hj
      simp only [List.getElem_map, List.getElem_range]
      exact (hq j hj').1
    · intro x hx
      simp only [List.mem_map, List.mem_range] at hx
      obtain ⟨i, hi, rfl⟩ := hx
      exact (hq i hi).2
end Go.Proofs.YtmocedkbabnpfaaGreat
namespace Go.Proofs.YtmocedkbabnpfaaGreat.atlasApart
open Go.ChangeShapes Go.WideShapes Go.ChangeAt Go.RowKit
set_option linter.unusedVariables false

theorem own : ownKnob Tryz.prog.godebug = none := by kernel_rfl
theorem laidOut : laidOutB Tryz.prog = true := by kernel_rfl

set_option maxRecDepth 100000 in
set_option maxHeartbeats 1600000 in
theorem lifted (os : Os) (started : os.Started) (H : Type) (enc : TypeId × Value → H) :
    ReturnsInHanded {} Tryz.checked os 5 .any (Rows.atlasApartSpec.pre6 enc Tryz.prog Tryz.f5 Rows.atlasApartRow.domain false) (Rows.atlasApartSpec.post enc Tryz.prog Tryz.f5 false true false false) := by
  refine returnsInHanded_of_change (C := Tryz.checked) own started (by kernel_rfl) Tryz.func5
    (ChangeSpec.witness6 (enc := enc) (C := Tryz.checked) false ⟨#[], #[.int .i64 0, .slice none 0 0, .agg #[.int .i64 0, .int .i64 0, .int .i64 0, .int .i64 0, .int .i64 0, .int .i64 0, .bool false]], []⟩ 8 (by kernel_rfl) (by kernel_rfl) (by kernel_rfl) (by kernel_rfl)) ?_
  intro W base args ds gs before hval0 hW hcnd _
  have hval : ∀ (j : Nat) t v, Tryz.f5.params[j]? = some t → args[j]? = some v → Value.okWide Tryz.prog W .any base t v := hval0
  have hW' := hW
  obtain ⟨p, q, hA0, hV, rfl, hfz, hnd⟩ := hW
  have hA : DataW.TrodAll enc Tryz.prog W 0 (fun _ => true) true Tryz.f5.params.toList args.toList ds p := hA0
  rw [Tryz.params5] at hA hval
  obtain ⟨v0, vs0, d0, ds0, p0, q0, hargs, rfl, rfl, h0, r0⟩ := trodAll_cons hA
  obtain ⟨v1, vs1, d1, ds1, p1, q1, rfl, rfl, rfl, h1, r1⟩ := trodAll_cons r0
  obtain ⟨v2, vs2, d2, ds2, p2, q2, rfl, rfl, rfl, h2, r2⟩ := trodAll_cons r1
  obtain ⟨rfl, rfl, rfl⟩ := trodAll_nil r2
  obtain rfl : args = #[v0, v1, v2] := by cases args; simp_all
  obtain ⟨rfl, rfl⟩ := trodVars_none hV
  have k0 := h0
  have lt0 : ∀ x ∈ p0, x.block < W.heap.size := by obtain ⟨m, hm⟩ := k0; exact DataW.trod_lt m _ _ _ hm
  obtain ⟨x0, rfl⟩ := okWide_int Tryz.underlying3 (hval 0 3 v0 rfl rfl)
  obtain ⟨f0, hf0⟩ := h0
  obtain ⟨z0, e0, -, w0⟩ := DataW.trod_int Tryz.underlying3 hf0
  simp [Value.cells] at e0
  subst e0
  have s0 : -9223372036854775808 ≤ x0 ∧ x0 ≤ 9223372036854775807 := by simpa [Lit.wf, IntKind.min, IntKind.max, IntKind.signed, IntKind.bits] using w0
  have k1 := h1
  have lt1 : ∀ x ∈ p1, x.block < W.heap.size := by obtain ⟨m, hm⟩ := k1; exact DataW.trod_lt m _ _ _ hm
  obtain ⟨a1, len1, cap1, rfl⟩ := okWide_slice Tryz.underlying22 (hval 1 22 v1 rfl rfl)
  obtain ⟨f1, hf1⟩ := h1
  obtain ⟨l1, H1, J1⟩ := stps_of hf1
  have k2 := h2
  have lt2 : ∀ x ∈ p2, x.block < W.heap.size := by obtain ⟨m, hm⟩ := k2; exact DataW.trod_lt m _ _ _ hm
  obtain ⟨x2, rfl, J2⟩ := st_of (hval 2 53 v2 rfl rfl) h2
  clear hA0 hval0
  refine (atlasApart_any x0 l1 _ x2 W H1 J1 J2).mono fun e W' ⟨he, bel⟩ => ?_
  subst he
  have t0 := Below.trod laidOut (by kernel_rfl) (of_decide_eq_true (by kernel_rfl)) k0 bel lt0
  have t1 := Below.trod laidOut (by kernel_rfl) (of_decide_eq_true (by kernel_rfl)) k1 bel lt1
  have t2 := Below.trod laidOut (by kernel_rfl) (of_decide_eq_true (by kernel_rfl)) k2 bel lt2
  have T := trodAll_cons_mk t0 (trodAll_cons_mk t1 (trodAll_cons_mk t2 trodAll_mk0))
  exact ⟨_, rfl, _, _, _, [], _, [], hW', trodAll_mk1 (shut_bool Tryz.underlying4 _), T, rfl, bel.frame _, fun h => by cases h⟩

theorem over : Rows.atlasApartRow.holds Tryz.pinned (OpenSpec.ofChange Rows.atlasApartSpec) :=
  OpenClaim.holds_of_wide 5 Tryz.f5 rfl rfl rfl rfl rfl rfl rfl ⟨rfl, rfl, rfl, rfl, rfl⟩ rfl rfl rfl rfl rfl (by kernel_rfl) Tryz.func5 (by kernel_rfl)
    (of_decide_eq_true (by kernel_rfl)) (by unfold Func.isWrapper; first | (rw [if_pos (by decide +kernel)]; kernel_rfl) | (rw [if_neg (by decide +kernel)]; exact ⟨rfl, rfl⟩))
    (fun os started H enc _ => lifted os started H enc)

theorem proved : Rows.AtlasApartSaid := over
end Go.Proofs.YtmocedkbabnpfaaGreat.atlasApart
namespace Go.Proofs.YtmocedkbabnpfaaGreat
/-- The statement. -/
theorem atlasApart_holds : Rows.AtlasApartSaid := atlasApart.proved
end Go.Proofs.YtmocedkbabnpfaaGreat
