/- What the document's Code of a store answers: its bytes. Conditions: the store lies in memory, its cells may be. -/
import Derived.Test.YtabmnelenfghhaaBkEnc
import Derived.Test.YtabmnelenfghhaaBkRApplyB
import Derived.Test.YtabmnelenfghhaaOct
namespace Go.Proofs.Ytabmnelenfghhaa
open Go.RowKit
set_option linter.unusedVariables false
set_option linter.unusedSimpArgs false

/-- A row of bytes that is laid on, and all that was there. -/
def RC (w : World) (l : List UInt8) (va : Option Addr) (vc : Nat) (W : World) : Prop := Own W w.heap.size (.slice va l.length vc) l ∧ Below w.heap.size w W
theorem RC.app {w W X Y : World} {l m : List UInt8} {va va' : Option Addr} {vc vc' : Nat} (h : RC w l va vc W) (hb : Below W.heap.size W X) (ho : Own Y w.heap.size (.slice va' (l.length + m.length) vc') (l ++ m)) (hg : X.grownBy Y (Value.slice va l.length vc).ownBlock) : RC w (l ++ m) va' vc' Y :=
  ⟨by rw [List.length_append]; exact ho, (h.2.trans (hb.mono h.2.size)).trans (below_grown (h.1.below hb) hg (Nat.le_trans h.2.size hb.size))⟩
/-- 'append(s, x...)' in a region that draws. -/
theorem wp_bapp {o : Oper} {a : Act} {w : World} {K : Act → World → Prop} {Q : Exit → Act → World → Prop} (s x : Operand)
    (ho : o.op = .call { callee := .builtin .append, args := #[s, x], argTypes := #[25, 25] })
    (base : Nat) (v : Value) (l : List UInt8) (hs : a.eval s = v) (hown : Own w base v l) (u : Value) (m : List UInt8) (hx : a.eval x = u) (hu : Bts w u m)
    (hsz : l.length + m.length ≤ 140737488355328) (hbase : base ≤ w.heap.size) (hne : m ≠ [])
    (h : ∀ va vc w', Own w' base (.slice va (l.length + m.length) vc) (l ++ m) → w.grownBy w' v.ownBlock → K (a.put o.dst (.slice va (l.length + m.length) vc)) w') : o.wp Try.prog a w K Q := by
  obtain ⟨i, hi, hz0, hz1, hz2⟩ := info_parts Try.infoB
  obtain ⟨ao, n, cap, rfl, rfl, hc, hm, hnone, hcell⟩ := hu
  cases ao with
  | none =>
    have h0 := hnone rfl
    subst h0
    have hm0 : m = [] := List.eq_nil_of_length_eq_zero (by omega)
    subst hm0
    exact absurd rfl hne
  | some ad =>
    refine wp_append_own w s x 25 ho base 5 i (.int .u8 0) 1 1 Try.underlyingB hi hz0 hz1 hz2 rfl (by decide) v l.length (l.map bv) hs hown ad m.length cap (m.map bv) hx (by simp) ?_ (bv_one m) (by unfold maxLen; omega) (by omega) hbase ?_
    · intro j u hj
      have hlt : j < m.length := by
        rcases Nat.lt_or_ge j m.length with h | h
        · exact h
        · simp [List.getElem?_eq_none (l := m.map bv) (by simpa using h)] at hj
      have e := hcell ad rfl j hlt
      have : u = bv m[j] := by simpa [hlt] using hj.symm
      rw [this]; exact e
    · intro v' w' ho' hg _
      have ho2 : Own w' base v' (l ++ m) := by
        show w'.ownsRow _ _ _ _ (l ++ m).length ((l ++ m).map bv)
        rw [List.length_append, List.map_append]; exact ho'
      obtain ⟨va, vc, rfl⟩ := ho2.shape
      have e : (l ++ m).length = l.length + m.length := List.length_append
      rw [e] at ho2 ⊢
      exact h va vc w' ho2 hg
set_option maxRecDepth 100000 in
set_option maxHeartbeats 8000000 in
theorem rcode_any (base X : Nat) (vt vm : Value) (ks : List Nat) (S : StD) (w : World) (hS : RSt w base X vt vm ks S) (hi : StI S) (hk : SOk S) :
    Calls Try.prog 20 #[.pointer (some ⟨X, 0, none⟩)] w fun e w' => ∃ va vc, e = .returned (.slice va (codeB S).length vc) ∧ Own w' w.heap.size (.slice va (codeB S).length vc) (codeB S) ∧ Below w.heap.size w w' := by
  have hif := hi.f
  have hit := hi.t
  have hin := hi.n
  have hift := hi.ft
  have HI := hid hi
  have HK := hid hk
  have hcn : 0 < S.cells.length := by omega
  obtain ⟨gt, tc, rfl, -⟩ := own_some hS.texts hcn
  obtain ⟨gm, mc, rfl, -⟩ := own_some hS.rows hcn
  have HS := hid hS
  clear hS hi hk
  have SW : Hid (∀ Y, Below w.heap.size w Y → Y.cell? ⟨X, 0, none⟩ = some (.int .i64 S.from') ∧ Y.cell? ⟨X, 1, none⟩ = some (.int .i64 S.to) ∧ Y.cell? ⟨X, 2, none⟩ = some (.bool S.fr) ∧ Y.cell? ⟨X, 3, none⟩ = some (.slice (some ⟨gt, 0, none⟩) S.cells.length tc) ∧ Y.cell? ⟨X, 4, none⟩ = some (.slice (some ⟨gm, 0, none⟩) S.cells.length mc)) := hid fun Y hY => by
    have h1 := (hY.block X (lt_of_block HS.out.head)).trans HS.out.head
    refine ⟨?_, ?_, ?_, ?_, ?_⟩ <;> (rw [cell_of_row _ _ _ _ _ _ h1]; rfl)
  have htf : 0 ≤ S.to := by omega
  have u1 : IntKind.u64.wrap S.from' = S.from' := IntWalk.u64_in _ ⟨by omega, by omega⟩
  have u2 : IntKind.u64.wrap S.to = S.to := IntWalk.u64_in _ ⟨by omega, by omega⟩
  have HN1 := hid (numB_len S.from'.toNat (by omega))
  have HN2 := hid (numB_len S.to.toNat (by omega))
  have HNE : Hid (numB S.to.toNat ≠ []) := hid (fun e => by have := numB_pos S.to.toNat; rw [e] at this; simp at this)
  go_enter Try.func20, Try.ntmps20
  go_upto_region 1 with fail
  go_cut [3] from 8 to 22 (fun bv wx => ∃ va vc, bv = .slice va (numB S.from'.toNat ++ numB S.to.toNat).length vc ∧ RC w (numB S.from'.toNat ++ numB S.to.toNat) va vc wx)
  case first =>
    refine wp_region_held_drew (S := fun Y => Y.cell? ⟨X, 0, none⟩ = some (.int .i64 S.from') ∧ Y.cell? ⟨X, 1, none⟩ = some (.int .i64 S.to) ∧ Y.cell? ⟨X, 2, none⟩ = some (.bool S.fr) ∧ Y.cell? ⟨X, 3, none⟩ = some (.slice (some ⟨gt, 0, none⟩) S.cells.length tc) ∧ Y.cell? ⟨X, 4, none⟩ = some (.slice (some ⟨gm, 0, none⟩) S.cells.length mc)) (by kernel_rfl) (SW.out _ ((Below.refl _ _).drew)) (fun hHeld => ?_)
    refine wpAnyH_take (i := 0) (v := ?pv0) rfl (by kernel_rfl) (by kernel_rfl) (by kernel_rfl) (fun _ _ _ h => h) (Or.inl ⟨by rfl, ?py0⟩) (by assumption) ?pr0
    case py0 => (intro w hSw; (try dsimp only at hSw); go_simp; try with_reducible rfl)
    (try simp only [Act.put, List.setIfInBounds_toArray, List.set_cons_zero, List.set_cons_succ, List.getElem_toArray, List.getElem_cons_succ, List.getElem_cons_zero])
    refine wpAnyH_take (i := 1) (v := ?pv1) rfl (by kernel_rfl) (by kernel_rfl) (by kernel_rfl) (fun _ _ _ h => h) (Or.inl ⟨by rfl, ?py1⟩) (by assumption) ?pr1
    case py1 => (intro w hSw; (try dsimp only at hSw); go_simp; try with_reducible rfl)
    (try simp only [Act.put, List.setIfInBounds_toArray, List.set_cons_zero, List.set_cons_succ, List.getElem_toArray, List.getElem_cons_succ, List.getElem_cons_zero])
    refine wpAnyH_take (i := 2) (v := ?pv2) rfl (by kernel_rfl) (by kernel_rfl) (by kernel_rfl) (fun _ _ _ h => h) (Or.inl ⟨by rfl, ?py2⟩) (by assumption) ?pr2
    case py2 => (intro w hSw; (try dsimp only at hSw); go_simp; try with_reducible rfl)
    (try simp only [Act.put, List.setIfInBounds_toArray, List.set_cons_zero, List.set_cons_succ, List.getElem_toArray, List.getElem_cons_succ, List.getElem_cons_zero])
    refine wpAnyH_take (i := 3) (v := ?pv3) rfl (by kernel_rfl) (by kernel_rfl) (by kernel_rfl) (fun _ _ _ h => h) (Or.inl ⟨by rfl, ?py3⟩) (by assumption) ?pr3
    case py3 => (intro w hSw; (try dsimp only at hSw); go_simp; try with_reducible rfl)
    (try simp only [Act.put, List.setIfInBounds_toArray, List.set_cons_zero, List.set_cons_succ, List.getElem_toArray, List.getElem_cons_succ, List.getElem_cons_zero])
    refine wpAnyH_take (i := 4) (v := ?pv4) rfl (by kernel_rfl) (by kernel_rfl) (by kernel_rfl) (fun _ _ _ h => h) (Or.inl ⟨by rfl, ?py4⟩) (by assumption) ?pr4
    case py4 => (intro w hSw; (try dsimp only at hSw); go_simp; try with_reducible rfl)
    (try simp only [Act.put, List.setIfInBounds_toArray, List.set_cons_zero, List.set_cons_succ, List.getElem_toArray, List.getElem_cons_succ, List.getElem_cons_zero])
    refine wpAnyH_take (i := 5) (v := ?pv5) rfl (by kernel_rfl) (by kernel_rfl) (by kernel_rfl) (fun _ _ _ h => h) (Or.inl ⟨by rfl, ?py5⟩) (by assumption) ?pr5
    case py5 => (intro w hSw; (try dsimp only at hSw); go_simp; try with_reducible rfl)
    (try simp only [Act.put, List.setIfInBounds_toArray, List.set_cons_zero, List.set_cons_succ, List.getElem_toArray, List.getElem_cons_succ, List.getElem_cons_zero])
    refine wpAnyH_take (i := 7) (v := ?pv7) rfl (by kernel_rfl) (by kernel_rfl) (by kernel_rfl) (fun _ _ _ h => h) (Or.inl ⟨by rfl, ?py7⟩) (by assumption) ?pr7
    case py7 => (intro w hSw; (try dsimp only at hSw); go_simp; try with_reducible rfl)
    (try simp only [Act.put, List.setIfInBounds_toArray, List.set_cons_zero, List.set_cons_succ, List.getElem_toArray, List.getElem_cons_succ, List.getElem_cons_zero])
    refine wpAnyH_take (i := 8) (v := ?pv8) rfl (by kernel_rfl) (by kernel_rfl) (by kernel_rfl) (fun _ _ _ h => h) (Or.inl ⟨by rfl, ?py8⟩) (by assumption) ?pr8
    case py8 => (intro w hSw; (try dsimp only at hSw); go_simp; try with_reducible rfl)
    (try simp only [Act.put, List.setIfInBounds_toArray, List.set_cons_zero, List.set_cons_succ, List.getElem_toArray, List.getElem_cons_succ, List.getElem_cons_zero])
    refine wpAnyH_take (i := 9) (v := ?pv9) rfl (by kernel_rfl) (by kernel_rfl) (by kernel_rfl) (fun _ _ _ h => h) (Or.inl ⟨by rfl, ?py9⟩) (by assumption) ?pr9
    case py9 => (intro w hSw; (try dsimp only at hSw); go_simp; try with_reducible rfl)
    (try simp only [Act.put, List.setIfInBounds_toArray, List.set_cons_zero, List.set_cons_succ, List.getElem_toArray, List.getElem_cons_succ, List.getElem_cons_zero])
    refine wpAnyH_take (i := 10) (v := ?pv10) rfl (by kernel_rfl) (by kernel_rfl) (by kernel_rfl) (fun _ _ _ h => h) (Or.inl ⟨by rfl, ?py10⟩) (by assumption) ?pr10
    case py10 => (intro w hSw; (try dsimp only at hSw); go_simp; try with_reducible rfl)
    (try simp only [Act.put, List.setIfInBounds_toArray, List.set_cons_zero, List.set_cons_succ, List.getElem_toArray, List.getElem_cons_succ, List.getElem_cons_zero])
    refine wpAnyH_take (i := 11) (v := ?pv11) rfl (by kernel_rfl) (by kernel_rfl) (by kernel_rfl) (fun _ _ _ h => h) (Or.inl ⟨by rfl, ?py11⟩) (by assumption) ?pr11
    case py11 => (intro w hSw; (try dsimp only at hSw); go_simp; try with_reducible rfl)
    (try simp only [Act.put, List.setIfInBounds_toArray, List.set_cons_zero, List.set_cons_succ, List.getElem_toArray, List.getElem_cons_succ, List.getElem_cons_zero])
    refine wpAnyH_take (i := 12) (v := ?pv12) rfl (by kernel_rfl) (by kernel_rfl) (by kernel_rfl) (fun _ _ _ h => h) (Or.inl ⟨by rfl, ?py12⟩) (by assumption) ?pr12
    case py12 => (intro w hSw; (try dsimp only at hSw); go_simp; try with_reducible rfl)
    (try simp only [Act.put, List.setIfInBounds_toArray, List.set_cons_zero, List.set_cons_succ, List.getElem_toArray, List.getElem_cons_succ, List.getElem_cons_zero])
    refine wpAnyH_ready (rs := [6]) (by kernel_rfl) (by simp) ?_
    refine AllReadyH.cons rfl (fun K hK => ?_) AllReadyH.nil
    rw [if_pos (by rfl)]
    go_wp2_with fail
    refine (refNum_any _ _ hif (by omega)).mono ?_
    rintro e w1 ⟨va1, vc1, rfl, ho1, hb1⟩
    have O1 := hid ho1
    have B1 := hid (((Below.refl w.heap.size w).drew).trans hb1)
    clear ho1 hb1
    refine hK.out _ _ (SW.out _ B1.out) (fun hHeld => ?_)
    try clear hK K
    (try simp only [Act.put, List.setIfInBounds_toArray, List.set_cons_zero, List.set_cons_succ, List.getElem_toArray, List.getElem_cons_succ, List.getElem_cons_zero])
    refine wpAnyH_ready (rs := [13]) (by kernel_rfl) (by simp) ?_
    refine AllReadyH.cons rfl (fun K hK => ?_) AllReadyH.nil
    rw [if_pos (by rfl)]
    go_wp2_with fail
    refine (refNum_any _ _ htf (by omega)).mono ?_
    rintro e w2 ⟨va2, vc2, rfl, ho2, hb2⟩
    have O2 := hid ho2.bts
    have P1 := hid (O1.out.below hb2)
    have B2 := hid (B1.out.trans (hb2.mono B1.out.size))
    clear ho2 hb2
    refine hK.out _ _ (SW.out _ B2.out) (fun hHeld => ?_)
    try clear hK K
    (try simp only [Act.put, List.setIfInBounds_toArray, List.set_cons_zero, List.set_cons_succ, List.getElem_toArray, List.getElem_cons_succ, List.getElem_cons_zero])
    try clear hK K
    (try simp only [Act.put, List.setIfInBounds_toArray, List.set_cons_zero, List.set_cons_succ, List.getElem_toArray, List.getElem_cons_succ, List.getElem_cons_zero])
    refine wpAnyH_ready (rs := [14]) (by kernel_rfl) (by simp) ?_
    refine AllReadyH.cons rfl (fun K hK => ?_) AllReadyH.nil
    rw [if_pos (by rfl)]
    refine wp_bapp _ _ rfl w.heap.size (.slice va1 (numB S.from'.toNat).length vc1) (numB S.from'.toNat) rfl P1.out _ (numB S.to.toNat) rfl O2.out (by have := HN1.out; have := HN2.out; omega) B2.out.size HNE.out ?_
    intro va3 vc3 w3 ho3 hg3
    have B3 := hid (B2.out.trans (below_grown P1.out hg3 B2.out.size))
    have O3 := hid ho3
    clear ho3 hg3
    refine hK.out _ _ (SW.out _ B3.out) (fun hHeld => ?_)
    try clear hK K
    (try simp only [Act.put, List.setIfInBounds_toArray, List.set_cons_zero, List.set_cons_succ, List.getElem_toArray, List.getElem_cons_succ, List.getElem_cons_zero])
    refine wpAnyH_take (i := 15) (v := .slice va3 ((numB S.from'.toNat).length + (numB S.to.toNat).length) vc3) rfl (by kernel_rfl) (by kernel_rfl) (by kernel_rfl) (fun _ _ _ h => h) (Or.inl ⟨by rfl, by intro w hSw; go_simp; try with_reducible rfl⟩) (by assumption) ?_
    (try simp only [Act.put, List.setIfInBounds_toArray, List.set_cons_zero, List.set_cons_succ, List.getElem_toArray, List.getElem_cons_succ, List.getElem_cons_zero])
    refine wpAnyH_done (by kernel_rfl) ?_ _
    go_wp2_with fail
    go_meet
    case rel => exact ⟨va3, vc3, by rw [List.length_append], by rw [List.length_append]; exact O3.out, B3.out⟩
  case rest =>
    obtain ⟨va, vc, rfl, hrc⟩ := hcut
    obtain ⟨-, -, s2, -, -⟩ := SW.out wc hrc.2
    have HRC := hid hrc
    clear hrc u1 u2 htf
    have hlen0 : (numB S.from'.toNat ++ numB S.to.toNat).length ≤ 20 := by have := HN1.out; have := HN2.out; rw [List.length_append]; omega
    have HHB : Hid (headB S = (numB S.from'.toNat ++ numB S.to.toNat) ++ [if S.fr then 1 else 0]) := hid rfl
    clear HN1 HN2 HNE
    generalize numB S.from'.toNat ++ numB S.to.toNat = l0 at *
    obtain ⟨fr, hfr⟩ : ∃ fr, fr = S.fr := ⟨_, rfl⟩
    rw [← hfr] at s2 HHB
    clear hfr
    have hsz := HRC.out.2.size
    go_upto_if 26 with fail
    go_cut [3] from 27 to 32 (fun bv wx => ∃ va vc, bv = .slice va (headB S).length vc ∧ RC w (headB S) va vc wx)
    case first =>
      cases fr with
      | true =>
        have hbA := ((Below.refl wc.heap.size wc).alloc (Nat.le_refl _) (.cells #[.int .u8 1] 5))
        go_wp2_with (at_builtin; refine wpl_append rfl _ _ rfl w.heap.size (.slice va l0.length vc) l0 rfl (HRC.out.1.below hbA) _ [1] rfl (bts_block [1] (heap_alloc_new _ _) rfl 1 rfl (by omega)) (by simp; omega) (by simp; omega) ?_; intro va6 vc6 w6 ho6 hg6; have HR6 := hid (HRC.out.app hbA ho6 hg6); clear ho6 hg6)
        go_meet
        case rel => exact ⟨va6, vc6, by rw [HHB.out]; simp, by rw [HHB.out]; exact HR6.out⟩
      | false =>
        have hbA := ((Below.refl wc.heap.size wc).alloc (Nat.le_refl _) (.cells #[.int .u8 0] 5))
        go_wp2_with (at_builtin; refine wpl_append rfl _ _ rfl w.heap.size (.slice va l0.length vc) l0 rfl (HRC.out.1.below hbA) _ [0] rfl (bts_block [0] (heap_alloc_new _ _) rfl 1 rfl (by omega)) (by simp; omega) (by simp; omega) ?_; intro va6 vc6 w6 ho6 hg6; have HR6 := hid (HRC.out.app hbA ho6 hg6); clear ho6 hg6)
        go_meet
        case rel => exact ⟨va6, vc6, by rw [HHB.out]; simp, by rw [HHB.out]; exact HR6.out⟩
    case rest =>
      clear HRC
      rename World => wd
      obtain ⟨va2, vc2, rfl, hrc⟩ := hcut
      obtain ⟨-, -, -, s3, -⟩ := SW.out wd hrc.2
      have HRC := hid hrc
      have HHL := hid (headB_len HI.out)
      clear hrc s2 HHB hlen0 hsz
      obtain ⟨hB, hhB⟩ : ∃ hB, hB = headB S := ⟨_, rfl⟩
      rw [← hhB] at HRC HHL ⊢
      have HHE := hid hhB
      clear hhB
      go_wp2_with fail
      clear s3
      go_loopw [3, 4, 5, 7, 38] (fun bv _ _ _ iv wr => ∃ (i : Nat) (va : Option Addr) (vc : Nat) (l : List UInt8), iv = .int .i64 i ∧ i ≤ S.cells.length ∧ bv = .slice va l.length vc ∧ l = hB ++ (S.cells.take i).flatMap cellB ∧ RC w l va vc wr) (fun _ _ _ _ iv _ => S.cells.length - (intOf iv).toNat)
      case atStart => exact ⟨0, va2, vc2, hB, rfl, Nat.zero_le _, rfl, by simp, HRC.out⟩
      case round =>
        obtain ⟨i, va3, vc3, l, rfl, hil, rfl, hle, hrc⟩ := hrel
        clear HRC
        have HRC := hid hrc
        have HLE := hid hle
        have hll : l.length ≤ 2000000 := by
          have h1 := flat_take_lenM cellB S.cells i 5000 fun c hc => cellB_len (HK.out c hc)
          have := HHL.out
          rw [hle, List.length_append]
          have h5 : 5000 * S.cells.length ≤ 1500000 := by omega
          omega
        have hsz := hrc.2.size
        clear hrc hle
        by_cases hlt : (i : Int) < (S.cells.length : Int)
        · have hiL : i < S.cells.length := by omega
          have hiK : i < ks.length := by rw [HS.out.n]; exact hiL
          have ct : wr.cell? ⟨gt, i, none⟩ = some (.string S.cells[i].text) := by
            have := (own_below HS.out.texts HRC.out.2).cells (g := gt) rfl i (.string S.cells[i].text) (by simp [tvs, hiL])
            rwa [Addr.add_lit, Nat.zero_add] at this
          have hCO := HK.out S.cells[i] (List.getElem_mem hiL)
          have htl := hCO.size
          have HMO := hid (mkN_ok hCO)
          have HFT := hid (flat_take cellB S.cells i hiL)
          have HCB : Hid (cellB S.cells[i] = textB S.cells[i].text ++ (mkN S.cells[i]).flatMap mB) := hid rfl
          have HKS : Hid (∀ Y, Below w.heap.size w Y → Y.cell? ⟨gm, i, none⟩ = some (.slice (some ⟨ks[i], 0, none⟩) 4 4) ∧ ∀ (j : Nat) (n : Int), (mkN S.cells[i])[j]? = some n → Y.cell? ⟨ks[i], j, none⟩ = some (.int .i64 n)) := hid fun Y hY => by
            refine ⟨?_, ?_⟩
            · have := (own_below HS.out.rows hY).cells (g := gm) rfl i (.slice (some ⟨ks[i], 0, none⟩) 4 4) (by simp [kvs, hiK])
              rwa [Addr.add_lit, Nat.zero_add] at this
            · intro j n hj
              have hm := (HS.out.marks i hiK hiL).2
              rw [cell_of_row _ _ _ _ _ _ ((hY.block _ (lt_of_block hm)).trans hm)]
              match j, hj with
              | 0, hj => simp [mkN] at hj; subst hj; rfl
              | 1, hj => simp [mkN] at hj; subst hj; rfl
              | 2, hj => simp [mkN] at hj; subst hj; rfl
              | 3, hj => simp [mkN] at hj; subst hj; rfl
              | j + 4, hj => simp [mkN] at hj
          have hnl : (mkN S.cells[i]).length = 4 := rfl
          generalize hns : mkN S.cells[i] = ns at *
          generalize ks[i] = kb at *
          generalize S.cells[i].text = tx at *
          clear hCO hns
          have HNL := hid hnl
          clear hnl
          have htI : (tx.size : Int) ≤ 4096 := by omega
          go_wp2_with fail
          refine (refText_any tx _ (by omega)).mono ?_
          rintro e w5 ⟨va5, vc5, rfl, ho5, hb5⟩
          have HO5 := hid ho5.bts
          have HB5 := hid hb5
          have HOW5 := hid (HRC.out.1.below hb5)
          have hs5 : w.heap.size ≤ w5.heap.size := Nat.le_trans hsz hb5.size
          have htb := textB_lenM tx (by omega)
          clear ho5 hb5 ct
          generalize hxb : textB tx = xb at *
          go_upto_region 9 with (at_builtin; refine wpl_append rfl _ _ rfl w.heap.size (.slice va3 l.length vc3) l rfl HOW5.out _ xb rfl HO5.out (by omega) hs5 ?_; intro va6 vc6 w6 ho6 hg6; have HR6 := hid (HRC.out.app HB5.out ho6 hg6); clear ho6 hg6)
          obtain ⟨-, -, -, -, s4⟩ := SW.out w6 HR6.out.2
          obtain ⟨k0, -⟩ := HKS.out w6 HR6.out.2
          obtain ⟨m, hm⟩ : ∃ m, m = l ++ xb := ⟨_, rfl⟩
          rw [← hm] at HR6
          have hml : m.length ≤ 4000000 := by rw [hm, List.length_append]; omega
          rw [← List.length_append, ← hm]
          have HMM := hid hm
          clear hm hxb HO5 HB5 HOW5 hs5 htb
          go_wp2_with fail
          clear s4 k0
          go_loopw [3, 7, 55] (fun bv _ iv wr => ∃ (q : Nat) (va : Option Addr) (vc : Nat) (ac : List UInt8), iv = .int .i64 q ∧ q ≤ 4 ∧ bv = .slice va ac.length vc ∧ ac = m ++ (ns.take q).flatMap mB ∧ RC w ac va vc wr) (fun _ _ iv _ => 4 - (intOf iv).toNat)
          case atStart => exact ⟨0, va6, vc6, m, rfl, Nat.zero_le _, rfl, by simp, HR6.out⟩
          case round =>
            obtain ⟨q, va7, vc7, ac, rfl, hq4, rfl, hac, hrc7⟩ := hrel
            have HR7 := hid hrc7
            have HAC := hid hac
            have hfl := flat_take_lenM mB ns q 10 fun n hn => mB_len (HMO.out n hn)
            have hacl : ac.length ≤ 5000000 := by
              rw [HNL.out] at hfl
              rw [hac, List.length_append]; omega
            have hsz7 := hrc7.2.size
            clear hrc7 hac hfl HR6
            by_cases hlt4 : (q : Int) < 4
            · have hqn : q < ns.length := by rw [HNL.out]; omega
              obtain ⟨-, hk⟩ := HKS.out _ HR7.out.2
              have c0 := hk q ns[q] (by simp [hqn])
              clear hk
              have hn := HMO.out ns[q] (List.getElem_mem hqn)
              have HFT7 := hid (flat_take mB ns q hqn)
              generalize ns[q] = n at c0 hn HFT7
              have hnl7 := mB_len hn
              obtain ⟨hn0, hn1⟩ := hn
              have hu : IntKind.u64.wrap n = n := IntWalk.u64_in _ ⟨by omega, by omega⟩
              go_wp2_with fail
              refine (refNum_any n _ hn0 (by omega)).mono ?_
              rintro e w8 ⟨va8, vc8, rfl, ho8, hb8⟩
              have HO8 : Hid (Bts w8 (.slice va8 (mB n).length vc8) (mB n)) := hid ho8.bts
              have HB8 := hid hb8
              have HOW8 := hid (HR7.out.1.below hb8)
              have hs8 : w.heap.size ≤ w8.heap.size := Nat.le_trans hsz7 hb8.size
              clear ho8 hb8 c0
              rw [show numB n.toNat = mB n from rfl]
              generalize mB n = xb at *
              go_wp2_with (at_builtin; refine wpl_append rfl _ _ rfl w.heap.size (.slice va7 ac.length vc7) ac rfl HOW8.out _ xb rfl HO8.out (by omega) hs8 ?_; intro va9 vc9 w9 ho9 hg9; have HR9 := hid (HR7.out.app HB8.out ho9 hg9); clear ho9 hg9)
              go_roundw
              case rel =>
                refine ⟨q + 1, va9, vc9, ac ++ xb, by go_num, by omega, by simp, ?_, HR9.out⟩
                rw [HAC.out, HFT7.out]; simp
              case measure => simp [intOf]; omega
            · obtain rfl : q = 4 := by omega
              have hTk : ns.take 4 = ns := List.take_of_length_le (by rw [HNL.out]; exact Nat.le_refl _)
              go_wp2_with fail
              go_roundw
              case rel =>
                refine ⟨i + 1, va7, vc7, ac, by go_num, by omega, rfl, ?_, HR7.out⟩
                rw [HAC.out, hTk, HMM.out, HLE.out, HFT.out, HCB.out]; simp
              case measure => simp [intOf]; omega
        · obtain rfl : i = S.cells.length := by omega
          have hE : l = codeB S := by rw [HLE.out, List.take_length, HHE.out]; rfl
          go_wp2_with fail
          go_ret
          subst hE
          exact ⟨_, _, rfl, HRC.out.1, HRC.out.2⟩
end Go.Proofs.Ytabmnelenfghhaa
