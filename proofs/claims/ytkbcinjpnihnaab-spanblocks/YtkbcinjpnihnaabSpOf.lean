/- What the document's Of answers: the plain row of the blocks that it asks for. Conditions: the rows lie in memory and have at most a million spans each. -/
import Derived.Test.YtkbcinjpnihnaabSpBuild
namespace Go.Proofs.Ytkbcinjpnihnaab
open Go.RowKit

theorem Try.underlyingBs : Try.prog.underlying 44 = some (.slice 4) := by kernel_rfl
theorem Try.infoBo : (Try.prog.info? 4).map (fun i => (i.zero, i.size, i.bytes)) = some (some (.bool false), 1, 1) := by kernel_rfl
theorem OwnB.nil (w : World) (base : Nat) : OwnB w base (.slice none 0 0) [] := World.ownsRow_nil _ _ _ _
theorem one_cellB {w : World} {g : Nat} {u : Value} (h : w.cell? ⟨g, 0, none⟩ = some u) : ∀ j x, [u][j]? = some x → w.cell? ((⟨g, 0, none⟩ : Addr).add j) = some x := by
  intro j x hj
  match j with
  | 0 => simp at hj; subst hj; rw [Addr.add_lit]; exact h
  | j + 1 => simp at hj
theorem wpl_appendB {w : World} {ops : Array Oper} {rest : List Oper} {o : Oper} {a : Act} {Q : Exit → Act → World → Prop} (hgd : o.guard = none) (s x : Operand)
    (ho : o.op = .call { callee := .builtin .append, args := #[s, x], argTypes := #[44, 44] })
    (base : Nat) (v : Value) (l : List Bool) (hs : a.eval s = v) (hown : OwnB w base v l) (g : Nat) (y : Bool) (hx : a.eval x = .slice (some ⟨g, 0, none⟩) 1 1) (hg : w.cell? ⟨g, 0, none⟩ = some (.bool y))
    (hl : l.length ≤ 1000000001) (hbase : base ≤ w.heap.size)
    (h : ∀ va vc m w', m = l ++ [y] → OwnB w' base (.slice va m.length vc) m → Below base w w' → wpList Try.prog ops Q rest (a.put o.dst (.slice va m.length vc)) w') :
    wpList Try.prog ops Q (o :: rest) a w := by
  obtain ⟨i, hi, hz0, hz1, hz2⟩ := info_parts Try.infoBo
  refine wpList_append_own w hgd s x 44 ho base 4 i (.bool false) 1 1 Try.underlyingBs hi hz0 hz1 hz2 rfl (by decide) v l.length (bvs l) hs hown ⟨g, 0, none⟩ 1 1 [.bool y] hx rfl (one_cellB hg) (by intro u hu; simp at hu; subst hu; rfl) (by unfold maxLen; omega) (by omega) hbase ?_
  intro v' w' ho' hg' _
  have ho2 : OwnB w' base v' (l ++ [y]) := by
    show w'.ownsRow _ _ _ _ (l ++ [y]).length (bvs (l ++ [y]))
    rw [List.length_append]
    have e : bvs (l ++ [y]) = bvs l ++ [.bool y] := by simp [bvs]
    rw [e]; exact ho'
  obtain ⟨va, vc, rfl⟩ := ho2.shape
  refine h va vc _ w' rfl ho2 ⟨hg'.os, hg'.tape, hg'.output, hg'.size, fun k hk => hg'.block k (by omega) fun e => ?_⟩
  have := (World.ownsRow.lt hown k e.symm).1
  omega
/-- What is kept, by kind. -/
def keepK (kind : Nat) (one two : Bool) : Bool := if kind = 0 then one || two else if kind = 1 then one && two else one && !two
def keepF (kind : Nat) (a b : List Sp) (x : Int) : Bool := keepK kind (hasB a x) (hasB b x)
set_option maxRecDepth 100000 in
set_option maxHeartbeats 4000000 in
theorem rof_0 (u v : Value) (a b : List Sp) (w : World) (hu : Sps w u a) (hv : Sps w v b) (ha : a.length ≤ 1000000) (hb : b.length ≤ 1000000) :
    Calls Try.prog 17 #[u, v, .int .i64 0] w fun e w' => ∃ va vc, e = .returned (.slice va (ofL a b (keepF 0 a b)).length vc) ∧ OwnS w' w.heap.size (.slice va (ofL a b (keepF 0 a b)).length vc) (ofL a b (keepF 0 a b)) ∧ Below w.heap.size w w' := by
  have HU := hid hu
  have HV := hid hv
  obtain ⟨ua, uc, rfl⟩ := hu.shape
  obtain ⟨va, vc, rfl⟩ := hv.shape
  have HEN := hid (rends_any w.heap.size (.slice ua a.length uc) (.slice va b.length vc) a b (w.alloc (.cells #[.slice ua a.length uc, .slice va b.length vc] 22)) (hu.alloc _) (hv.alloc _) (heap_alloc_new _ _) ha hb)
  clear hu hv
  go_enter Try.func17, Try.ntmps17
  go_wp2_with fail
  refine HEN.out.mono ?_
  rintro e w1 ⟨ea, ec, rfl, ho1, hb1⟩
  obtain ⟨E, hEE⟩ : ∃ E, E = ends2 a b 2 := ⟨_, rfl⟩
  rw [← hEE] at ho1 ⊢
  have HEE : Hid (E = endsL (endsL [] a) b) := hid hEE
  have hE : E.length ≤ 10000000 := by
    rw [hEE]; show (endsL (endsL [] a) b).length ≤ _
    have h1 := endsL_len b (endsL [] a); have h2 := endsL_len a []; simp at h2; omega
  have O1 := hid (ho1.lower (base' := w.heap.size) (by simp))
  have B1 := hid (((Below.refl _ _).alloc (Nat.le_refl _) _).trans (hb1.mono (by simp)) : Below w.heap.size w w1)
  clear hEE ho1 hb1 HEN
  go_wp2_with fail
  go_loopw [8, 10, 11, 12, 19] (fun kv _ _ _ iv wr => ∃ (i : Nat) (va : Option Addr) (vc : Nat) (ks : List Bool), iv = .int .i64 i ∧ kv = .slice va ks.length vc ∧ i ≤ E.length ∧ ks = (E.take i).map (keepF 0 a b) ∧ OwnB wr w1.heap.size (.slice va ks.length vc) ks ∧ Below w1.heap.size w1 wr) (fun _ _ _ _ iv _ => E.length - (intOf iv).toNat)
  case atStart => exact ⟨0, none, 0, [], rfl, rfl, Nat.zero_le _, rfl, OwnB.nil _ _, Below.refl _ _⟩
  case round =>
    obtain ⟨i, va, vc, ks, rfl, rfl, hi, hks, ho, hb⟩ := hrel
    have HKS := hid hks
    have HO := hid ho
    have HB := hid (B1.out.trans (hb.mono B1.out.size))
    have HB1 := hid hb
    clear hks ho hb
    by_cases hlt : i < E.length
    · have hltI : (i : Int) < (E.length : Int) := by omega
      obtain ⟨ge, hge, ce0⟩ := O1.out.at_lit i hlt
      subst hge
      have c0 := cell_later HB1.out ce0
      have HNX : Hid ((E.take (i + 1)).map (keepF 0 a b) = ks ++ [keepK 0 (hasB a E[i]) (hasB b E[i])]) := hid (by rw [List.take_succ_eq_append_getElem hlt, List.map_append, ← HKS.out]; rfl)
      generalize E[i]'hlt = x at c0 HNX
      have HLK : Hid (ks.length ≤ 10000000) := hid (by rw [HKS.out]; simp; omega)
      have HUA := hid (HU.out.below HB.out)
      have HVA := hid (HV.out.below HB.out)
      clear ce0
      go_wp2_with fail
      refine (rhas_any _ a x wr HUA.out (by omega)).mono ?_
      rintro e w2 ⟨rfl, hb2⟩
      have B2 := hid hb2
      clear hb2
      go_wp2_with fail
      refine (rhas_any _ b x w2 (HVA.out.below B2.out) (by omega)).mono ?_
      rintro e w3 ⟨rfl, hb3⟩
      have B3 := hid (B2.out.trans (hb3.mono B2.out.size))
      clear hb3 B2
      have O3 := hid (HO.out.below B3.out)
      generalize hasB a x = p at HNX ⊢
      generalize hasB b x = q at HNX ⊢
      have hs3 : w1.heap.size ≤ (w3.alloc (.cells #[.bool (keepK 0 p q)] 4)).heap.size := Nat.le_trans HB1.out.size (Nat.le_trans B3.out.size (by simp))
      have OX := hid (O3.out.below ((Below.refl _ _).alloc (Nat.le_refl _) (.cells #[.bool (keepK 0 p q)] 4)))
      have CX : Hid ((w3.alloc (.cells #[.bool (keepK 0 p q)] 4)).cell? ⟨w3.heap.size, 0, none⟩ = some (.bool (keepK 0 p q))) := hid (by rw [cell_of_row _ _ _ _ _ _ (heap_alloc_new _ _)]; rfl)
      have BX := hid (HB1.out.trans ((B3.out.trans ((Below.refl _ _).alloc B3.out.size (.cells #[.bool (keepK 0 p q)] 4))).mono HB1.out.size))
      have hlk : ks.length ≤ 1000000001 := by have := HLK.out; omega
      cases p <;> cases q <;> simp only [show keepK 0 false false = false from rfl, show keepK 0 false true = true from rfl, show keepK 0 true false = true from rfl, show keepK 0 true true = true from rfl] at HNX OX CX BX hs3
      all_goals
        go_wp2_with (at_builtin; refine wpl_appendB rfl (.tmp 29) (.tmp 59) rfl w1.heap.size (.slice va ks.length vc) ks rfl OX.out w3.heap.size _ rfl CX.out hlk hs3 ?_; intro va5 vc5 m5 w5 hm5 ho5 hb5; have O5 := hid ho5; have M5 := hid hm5; have B5 := hid (BX.out.trans hb5); clear ho5 hm5 hb5)
        go_roundw
        case rel => exact ⟨i + 1, va5, vc5, m5, by go_num, rfl, by omega, by rw [M5.out, HNX.out], O5.out, B5.out⟩
        case measure => simp [intOf]; omega
    · have hltI : ¬ (i : Int) < (E.length : Int) := by omega
      obtain rfl : i = E.length := by omega
      rw [List.take_length] at HKS
      have hkl : ks.length = E.length := by rw [HKS.out]; simp
      have HRB := hid (rbuild_any _ _ E ks w.heap.size w1.heap.size wr (O1.out.below HB1.out) HO.out hkl hE)
      have HKL := hid hkl
      rw [hkl] at HRB
      clear hkl
      go_wp2_with fail
      rw [HKL.out]
      refine HRB.out.mono ?_
      rintro e w9 ⟨va9, vc9, rfl, ho9, hb9⟩
      have HEQ : Hid (buildN E ks (E.length - 1) = ofL a b (keepF 0 a b)) := hid (by rw [HKS.out]; exact buildN_all a b (keepF 0 a b) E HEE.out)
      have O9 := hid ho9
      have B9 := hid (HB.out.trans (hb9.mono HB.out.size))
      clear ho9 hb9
      go_wp2_with fail
      go_ret
      rw [HEQ.out] at O9 ⊢
      exact ⟨va9, vc9, rfl, O9.out.lower HB.out.size, B9.out⟩
set_option maxRecDepth 100000 in
set_option maxHeartbeats 4000000 in
theorem rof_1 (u v : Value) (a b : List Sp) (w : World) (hu : Sps w u a) (hv : Sps w v b) (ha : a.length ≤ 1000000) (hb : b.length ≤ 1000000) :
    Calls Try.prog 17 #[u, v, .int .i64 1] w fun e w' => ∃ va vc, e = .returned (.slice va (ofL a b (keepF 1 a b)).length vc) ∧ OwnS w' w.heap.size (.slice va (ofL a b (keepF 1 a b)).length vc) (ofL a b (keepF 1 a b)) ∧ Below w.heap.size w w' := by
  have HU := hid hu
  have HV := hid hv
  obtain ⟨ua, uc, rfl⟩ := hu.shape
  obtain ⟨va, vc, rfl⟩ := hv.shape
  have HEN := hid (rends_any w.heap.size (.slice ua a.length uc) (.slice va b.length vc) a b (w.alloc (.cells #[.slice ua a.length uc, .slice va b.length vc] 22)) (hu.alloc _) (hv.alloc _) (heap_alloc_new _ _) ha hb)
  clear hu hv
  go_enter Try.func17, Try.ntmps17
  go_wp2_with fail
  refine HEN.out.mono ?_
  rintro e w1 ⟨ea, ec, rfl, ho1, hb1⟩
  obtain ⟨E, hEE⟩ : ∃ E, E = ends2 a b 2 := ⟨_, rfl⟩
  rw [← hEE] at ho1 ⊢
  have HEE : Hid (E = endsL (endsL [] a) b) := hid hEE
  have hE : E.length ≤ 10000000 := by
    rw [hEE]; show (endsL (endsL [] a) b).length ≤ _
    have h1 := endsL_len b (endsL [] a); have h2 := endsL_len a []; simp at h2; omega
  have O1 := hid (ho1.lower (base' := w.heap.size) (by simp))
  have B1 := hid (((Below.refl _ _).alloc (Nat.le_refl _) _).trans (hb1.mono (by simp)) : Below w.heap.size w w1)
  clear hEE ho1 hb1 HEN
  go_wp2_with fail
  go_loopw [8, 10, 11, 12, 19] (fun kv _ _ _ iv wr => ∃ (i : Nat) (va : Option Addr) (vc : Nat) (ks : List Bool), iv = .int .i64 i ∧ kv = .slice va ks.length vc ∧ i ≤ E.length ∧ ks = (E.take i).map (keepF 1 a b) ∧ OwnB wr w1.heap.size (.slice va ks.length vc) ks ∧ Below w1.heap.size w1 wr) (fun _ _ _ _ iv _ => E.length - (intOf iv).toNat)
  case atStart => exact ⟨0, none, 0, [], rfl, rfl, Nat.zero_le _, rfl, OwnB.nil _ _, Below.refl _ _⟩
  case round =>
    obtain ⟨i, va, vc, ks, rfl, rfl, hi, hks, ho, hb⟩ := hrel
    have HKS := hid hks
    have HO := hid ho
    have HB := hid (B1.out.trans (hb.mono B1.out.size))
    have HB1 := hid hb
    clear hks ho hb
    by_cases hlt : i < E.length
    · have hltI : (i : Int) < (E.length : Int) := by omega
      obtain ⟨ge, hge, ce0⟩ := O1.out.at_lit i hlt
      subst hge
      have c0 := cell_later HB1.out ce0
      have HNX : Hid ((E.take (i + 1)).map (keepF 1 a b) = ks ++ [keepK 1 (hasB a E[i]) (hasB b E[i])]) := hid (by rw [List.take_succ_eq_append_getElem hlt, List.map_append, ← HKS.out]; rfl)
      generalize E[i]'hlt = x at c0 HNX
      have HLK : Hid (ks.length ≤ 10000000) := hid (by rw [HKS.out]; simp; omega)
      have HUA := hid (HU.out.below HB.out)
      have HVA := hid (HV.out.below HB.out)
      clear ce0
      go_wp2_with fail
      refine (rhas_any _ a x wr HUA.out (by omega)).mono ?_
      rintro e w2 ⟨rfl, hb2⟩
      have B2 := hid hb2
      clear hb2
      go_wp2_with fail
      refine (rhas_any _ b x w2 (HVA.out.below B2.out) (by omega)).mono ?_
      rintro e w3 ⟨rfl, hb3⟩
      have B3 := hid (B2.out.trans (hb3.mono B2.out.size))
      clear hb3 B2
      have O3 := hid (HO.out.below B3.out)
      generalize hasB a x = p at HNX ⊢
      generalize hasB b x = q at HNX ⊢
      have hs3 : w1.heap.size ≤ (w3.alloc (.cells #[.bool (keepK 1 p q)] 4)).heap.size := Nat.le_trans HB1.out.size (Nat.le_trans B3.out.size (by simp))
      have OX := hid (O3.out.below ((Below.refl _ _).alloc (Nat.le_refl _) (.cells #[.bool (keepK 1 p q)] 4)))
      have CX : Hid ((w3.alloc (.cells #[.bool (keepK 1 p q)] 4)).cell? ⟨w3.heap.size, 0, none⟩ = some (.bool (keepK 1 p q))) := hid (by rw [cell_of_row _ _ _ _ _ _ (heap_alloc_new _ _)]; rfl)
      have BX := hid (HB1.out.trans ((B3.out.trans ((Below.refl _ _).alloc B3.out.size (.cells #[.bool (keepK 1 p q)] 4))).mono HB1.out.size))
      have hlk : ks.length ≤ 1000000001 := by have := HLK.out; omega
      cases p <;> cases q <;> simp only [show keepK 1 false false = false from rfl, show keepK 1 false true = false from rfl, show keepK 1 true false = false from rfl, show keepK 1 true true = true from rfl] at HNX OX CX BX hs3
      all_goals
        go_wp2_with (at_builtin; refine wpl_appendB rfl (.tmp 29) (.tmp 59) rfl w1.heap.size (.slice va ks.length vc) ks rfl OX.out w3.heap.size _ rfl CX.out hlk hs3 ?_; intro va5 vc5 m5 w5 hm5 ho5 hb5; have O5 := hid ho5; have M5 := hid hm5; have B5 := hid (BX.out.trans hb5); clear ho5 hm5 hb5)
        go_roundw
        case rel => exact ⟨i + 1, va5, vc5, m5, by go_num, rfl, by omega, by rw [M5.out, HNX.out], O5.out, B5.out⟩
        case measure => simp [intOf]; omega
    · have hltI : ¬ (i : Int) < (E.length : Int) := by omega
      obtain rfl : i = E.length := by omega
      rw [List.take_length] at HKS
      have hkl : ks.length = E.length := by rw [HKS.out]; simp
      have HRB := hid (rbuild_any _ _ E ks w.heap.size w1.heap.size wr (O1.out.below HB1.out) HO.out hkl hE)
      have HKL := hid hkl
      rw [hkl] at HRB
      clear hkl
      go_wp2_with fail
      rw [HKL.out]
      refine HRB.out.mono ?_
      rintro e w9 ⟨va9, vc9, rfl, ho9, hb9⟩
      have HEQ : Hid (buildN E ks (E.length - 1) = ofL a b (keepF 1 a b)) := hid (by rw [HKS.out]; exact buildN_all a b (keepF 1 a b) E HEE.out)
      have O9 := hid ho9
      have B9 := hid (HB.out.trans (hb9.mono HB.out.size))
      clear ho9 hb9
      go_wp2_with fail
      go_ret
      rw [HEQ.out] at O9 ⊢
      exact ⟨va9, vc9, rfl, O9.out.lower HB.out.size, B9.out⟩
set_option maxRecDepth 100000 in
set_option maxHeartbeats 4000000 in
theorem rof_2 (u v : Value) (a b : List Sp) (w : World) (hu : Sps w u a) (hv : Sps w v b) (ha : a.length ≤ 1000000) (hb : b.length ≤ 1000000) :
    Calls Try.prog 17 #[u, v, .int .i64 2] w fun e w' => ∃ va vc, e = .returned (.slice va (ofL a b (keepF 2 a b)).length vc) ∧ OwnS w' w.heap.size (.slice va (ofL a b (keepF 2 a b)).length vc) (ofL a b (keepF 2 a b)) ∧ Below w.heap.size w w' := by
  have HU := hid hu
  have HV := hid hv
  obtain ⟨ua, uc, rfl⟩ := hu.shape
  obtain ⟨va, vc, rfl⟩ := hv.shape
  have HEN := hid (rends_any w.heap.size (.slice ua a.length uc) (.slice va b.length vc) a b (w.alloc (.cells #[.slice ua a.length uc, .slice va b.length vc] 22)) (hu.alloc _) (hv.alloc _) (heap_alloc_new _ _) ha hb)
  clear hu hv
  go_enter Try.func17, Try.ntmps17
  go_wp2_with fail
  refine HEN.out.mono ?_
  rintro e w1 ⟨ea, ec, rfl, ho1, hb1⟩
  obtain ⟨E, hEE⟩ : ∃ E, E = ends2 a b 2 := ⟨_, rfl⟩
  rw [← hEE] at ho1 ⊢
  have HEE : Hid (E = endsL (endsL [] a) b) := hid hEE
  have hE : E.length ≤ 10000000 := by
    rw [hEE]; show (endsL (endsL [] a) b).length ≤ _
    have h1 := endsL_len b (endsL [] a); have h2 := endsL_len a []; simp at h2; omega
  have O1 := hid (ho1.lower (base' := w.heap.size) (by simp))
  have B1 := hid (((Below.refl _ _).alloc (Nat.le_refl _) _).trans (hb1.mono (by simp)) : Below w.heap.size w w1)
  clear hEE ho1 hb1 HEN
  go_wp2_with fail
  go_loopw [8, 10, 11, 12, 19] (fun kv _ _ _ iv wr => ∃ (i : Nat) (va : Option Addr) (vc : Nat) (ks : List Bool), iv = .int .i64 i ∧ kv = .slice va ks.length vc ∧ i ≤ E.length ∧ ks = (E.take i).map (keepF 2 a b) ∧ OwnB wr w1.heap.size (.slice va ks.length vc) ks ∧ Below w1.heap.size w1 wr) (fun _ _ _ _ iv _ => E.length - (intOf iv).toNat)
  case atStart => exact ⟨0, none, 0, [], rfl, rfl, Nat.zero_le _, rfl, OwnB.nil _ _, Below.refl _ _⟩
  case round =>
    obtain ⟨i, va, vc, ks, rfl, rfl, hi, hks, ho, hb⟩ := hrel
    have HKS := hid hks
    have HO := hid ho
    have HB := hid (B1.out.trans (hb.mono B1.out.size))
    have HB1 := hid hb
    clear hks ho hb
    by_cases hlt : i < E.length
    · have hltI : (i : Int) < (E.length : Int) := by omega
      obtain ⟨ge, hge, ce0⟩ := O1.out.at_lit i hlt
      subst hge
      have c0 := cell_later HB1.out ce0
      have HNX : Hid ((E.take (i + 1)).map (keepF 2 a b) = ks ++ [keepK 2 (hasB a E[i]) (hasB b E[i])]) := hid (by rw [List.take_succ_eq_append_getElem hlt, List.map_append, ← HKS.out]; rfl)
      generalize E[i]'hlt = x at c0 HNX
      have HLK : Hid (ks.length ≤ 10000000) := hid (by rw [HKS.out]; simp; omega)
      have HUA := hid (HU.out.below HB.out)
      have HVA := hid (HV.out.below HB.out)
      clear ce0
      go_wp2_with fail
      refine (rhas_any _ a x wr HUA.out (by omega)).mono ?_
      rintro e w2 ⟨rfl, hb2⟩
      have B2 := hid hb2
      clear hb2
      go_wp2_with fail
      refine (rhas_any _ b x w2 (HVA.out.below B2.out) (by omega)).mono ?_
      rintro e w3 ⟨rfl, hb3⟩
      have B3 := hid (B2.out.trans (hb3.mono B2.out.size))
      clear hb3 B2
      have O3 := hid (HO.out.below B3.out)
      generalize hasB a x = p at HNX ⊢
      generalize hasB b x = q at HNX ⊢
      have hs3 : w1.heap.size ≤ (w3.alloc (.cells #[.bool (keepK 2 p q)] 4)).heap.size := Nat.le_trans HB1.out.size (Nat.le_trans B3.out.size (by simp))
      have OX := hid (O3.out.below ((Below.refl _ _).alloc (Nat.le_refl _) (.cells #[.bool (keepK 2 p q)] 4)))
      have CX : Hid ((w3.alloc (.cells #[.bool (keepK 2 p q)] 4)).cell? ⟨w3.heap.size, 0, none⟩ = some (.bool (keepK 2 p q))) := hid (by rw [cell_of_row _ _ _ _ _ _ (heap_alloc_new _ _)]; rfl)
      have BX := hid (HB1.out.trans ((B3.out.trans ((Below.refl _ _).alloc B3.out.size (.cells #[.bool (keepK 2 p q)] 4))).mono HB1.out.size))
      have hlk : ks.length ≤ 1000000001 := by have := HLK.out; omega
      cases p <;> cases q <;> simp only [show keepK 2 false false = false from rfl, show keepK 2 false true = false from rfl, show keepK 2 true false = true from rfl, show keepK 2 true true = false from rfl] at HNX OX CX BX hs3
      all_goals
        go_wp2_with (at_builtin; refine wpl_appendB rfl (.tmp 29) (.tmp 59) rfl w1.heap.size (.slice va ks.length vc) ks rfl OX.out w3.heap.size _ rfl CX.out hlk hs3 ?_; intro va5 vc5 m5 w5 hm5 ho5 hb5; have O5 := hid ho5; have M5 := hid hm5; have B5 := hid (BX.out.trans hb5); clear ho5 hm5 hb5)
        go_roundw
        case rel => exact ⟨i + 1, va5, vc5, m5, by go_num, rfl, by omega, by rw [M5.out, HNX.out], O5.out, B5.out⟩
        case measure => simp [intOf]; omega
    · have hltI : ¬ (i : Int) < (E.length : Int) := by omega
      obtain rfl : i = E.length := by omega
      rw [List.take_length] at HKS
      have hkl : ks.length = E.length := by rw [HKS.out]; simp
      have HRB := hid (rbuild_any _ _ E ks w.heap.size w1.heap.size wr (O1.out.below HB1.out) HO.out hkl hE)
      have HKL := hid hkl
      rw [hkl] at HRB
      clear hkl
      go_wp2_with fail
      rw [HKL.out]
      refine HRB.out.mono ?_
      rintro e w9 ⟨va9, vc9, rfl, ho9, hb9⟩
      have HEQ : Hid (buildN E ks (E.length - 1) = ofL a b (keepF 2 a b)) := hid (by rw [HKS.out]; exact buildN_all a b (keepF 2 a b) E HEE.out)
      have O9 := hid ho9
      have B9 := hid (HB.out.trans (hb9.mono HB.out.size))
      clear ho9 hb9
      go_wp2_with fail
      go_ret
      rw [HEQ.out] at O9 ⊢
      exact ⟨va9, vc9, rfl, O9.out.lower HB.out.size, B9.out⟩
end Go.Proofs.Ytkbcinjpnihnaab
