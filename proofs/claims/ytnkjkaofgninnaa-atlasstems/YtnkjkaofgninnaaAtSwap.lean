/- The document's swap of a member. Conditions: the members lie in memory, rise and are nodes. -/
import Derived.Test.YtnkjkaofgninnaaAtReplF
import Derived.Test.YtnkjkaofgninnaaAtSpans
namespace Go.Proofs.Ytnkjkaofgninnaa
open Go.RowKit Go.Maps Go.Shelf
set_option linter.unusedVariables false
set_option linter.unusedSimpArgs false

theorem filter_takeS (p : Int → Bool) (l : List Int) (i : Nat) (h : i < l.length) : (l.take (i + 1)).filter p = (l.take i).filter p ++ (if p l[i] then [l[i]] else []) := by
  rw [List.take_add_one, List.getElem?_eq_getElem h, List.filter_append]
  cases hp : p l[i] <;> simp [hp]
theorem nvs_snocS (l : List Int) (x : Int) : nvs (l ++ [x]) = nvs l ++ [.int .i64 x] := by simp [nvs]
def upTo (n : Nat) : List Int := (List.range n).map fun i : Nat => (i : Int)
theorem upTo_succ (n : Nat) : upTo (n + 1) = upTo n ++ [(n : Int)] := by unfold upTo; rw [List.range_succ]; simp
def swC (l : List Int) (out in' n : Int) : Bool := (decide (n ∈ l) && decide (n ≠ out)) || decide (n = in')
def swN (l : List Int) (out in' : Int) (n : Nat) : List Int := (upTo n).filter (swC l out in')
theorem swN_7 (l : List Int) (out in' : Int) : swN l out in' 7 = swD l out in' := rfl
theorem swN_succ (l : List Int) (out in' : Int) (n : Nat) : swN l out in' (n + 1) = swN l out in' n ++ (if swC l out in' n then [(n : Int)] else []) := by
  unfold swN
  rw [upTo_succ, List.filter_append]
  cases h : swC l out in' n <;> simp [h]
theorem swN_len (l : List Int) (out in' : Int) (n : Nat) : (swN l out in' n).length ≤ n := by
  have := List.length_filter_le (swC l out in') (upTo n)
  unfold swN
  simp [upTo] at this ⊢; omega
/-- What the inner loop has appended. -/
def inN (left : List Int) (n j : Nat) : List Int := if (n : Int) ∈ left.take j then [(n : Int)] else []
theorem inN_len (left : List Int) (n j : Nat) : (inN left n j).length ≤ 1 := by unfold inN; split <;> simp
def swR (l : List Int) (out in' : Int) (w : World) (e : Ending) (w' : World) : Prop := Below w.heap.size w w' ∧ if swB l out in' then ∃ va vc, e = .returned (.tuple #[.slice va (swD l out in').length vc, .bool true]) ∧ w'.ownsRow w.heap.size 3 1 (.slice va (swD l out in').length vc) (swD l out in').length (nvs (swD l out in')) else e = .returned (.tuple #[.slice none 0 0, .bool false])
set_option maxRecDepth 100000 in
set_option maxHeartbeats 8000000 in
theorem rswap_any (l : List Int) (out in' : Int) (v : Value) (w : World) (hv : Nums w v l) (hr : l.Pairwise (· < ·)) (hn : ∀ x ∈ l, 0 ≤ x ∧ x < 7) :
    Calls Try.prog 43 #[v, .int .i64 out, .int .i64 in'] w (swR l out in' w) := by
  have HV := hid hv
  have hL := hv.len
  have hL7 : l.length ≤ 7 := by have := rise_len l 0 hr hn; omega
  have HR := hid hr
  have HNN := hid hn
  obtain ⟨va0, vc0, rfl⟩ := hv.shape
  clear hv hr hn
  go_enter Try.func43, Try.ntmps43
  go_wp2_with fail
  go_loopw [8, 9, 11, 18] (fun isv lv _ iv wr => ∃ i : Nat, iv = .int .i64 i ∧ i ≤ l.length ∧ in' ∉ l.take i ∧ isv = .bool (decide (out ∈ l.take i)) ∧ wr.ownsRow w.heap.size 3 1 lv ((l.take i).filter (· != out)).length (nvs ((l.take i).filter (· != out))) ∧ Below w.heap.size w wr) (fun _ _ _ iv _ => l.length - (intOf iv).toNat)
  case atStart => exact ⟨0, rfl, Nat.zero_le _, by simp, by simp, World.ownsRow_nil _ _ _ _, Below.refl _ _⟩
  case round =>
    obtain ⟨i, rfl, hi, hin, rfl, ho, hb⟩ := hrel
    obtain ⟨va, vc, rfl⟩ := own_shape ho
    have O := hid ho
    have B := hid hb
    have HIN := hid hin
    clear ho hb hin
    by_cases hlt : (i : Int) < (l.length : Int)
    · have hil : i < l.length := by omega
      have HVR := hid (HV.out.below B.out)
      obtain ⟨gd, od, rfl⟩ := HVR.out.addr (by omega)
      have c0 := HVR.out.lit i hil
      have HF := hid (filter_takeS (· != out) l i hil)
      have HT : Hid (∀ y, y ∈ l.take (i + 1) ↔ y ∈ l.take i ∨ y = l[i]) := hid fun y => by rw [List.take_add_one, List.getElem?_eq_getElem hil]; simp only [List.mem_append, Option.toList_some, List.mem_singleton]
      have HML := hid (List.getElem_mem hil)
      have hfl : ((l.take i).filter (· != out)).length ≤ 7 := by
        have := List.length_filter_le (· != out) (l.take i)
        simp at this; omega
      obtain ⟨F, hF⟩ : ∃ F, F = (l.take i).filter (· != out) := ⟨_, rfl⟩
      rw [← hF] at O HF hfl
      rw [← hF]
      clear hF
      generalize hz : l[i] = z at *
      clear hz
      by_cases hx : z = in'
      · have HE : Hid (swR l out in' w (.returned (.tuple #[.slice none 0 0, .bool false])) wr) := hid ⟨B.out, by
          have : swB l out in' = false := by unfold swB; rw [decide_eq_false (p := in' ∉ l) (by rw [← hx]; exact fun h => h HML.out)]; simp
          rw [this]; rfl⟩
        have g : (z == in') = true := by simpa using hx
        clear hx
        go_wp2_with fail
        go_ret2
        exact HE.out
      · have g : (z == in') = false := by simpa using hx
        have HIN2 : Hid (in' ∉ l.take (i + 1)) := hid fun h => ((HT.out in').1 h).elim HIN.out fun e => hx e.symm
        clear hx
        by_cases hy : z = out
        · have g2 : (z == out) = true := by simpa using hy
          have HFE : Hid ((l.take (i + 1)).filter (· != out) = F) := hid (by rw [HF.out, hy]; simp)
          have HD : Hid (decide (out ∈ l.take (i + 1)) = true) := hid (decide_eq_true ((HT.out out).2 (.inr hy.symm)))
          clear hy
          go_wp2_with fail
          go_roundw
          case rel => exact ⟨i + 1, by go_num, by omega, HIN2.out, by rw [HD.out], by rw [HFE.out]; exact O.out, B.out⟩
          case measure => simp [intOf]; omega
        · have g2 : (z == out) = false := by simpa using hy
          have HFE : Hid ((l.take (i + 1)).filter (· != out) = F ++ [z]) := hid (by rw [HF.out]; simp [hy])
          have HD : Hid (decide (out ∈ l.take (i + 1)) = decide (out ∈ l.take i)) := hid (by
            rw [Bool.eq_iff_iff, decide_eq_true_eq, decide_eq_true_eq, HT.out]
            exact ⟨fun h => h.elim id fun e => absurd e.symm hy, .inl⟩)
          clear hy
          have HY : Hid (∀ j u, ([Value.int .i64 z] : List Value)[j]? = some u → (wr.alloc (.cells #[.int .i64 z] 3)).cell? ⟨wr.heap.size, j, none⟩ = some u) := hid fun j u hj => by
            rw [cell_of_row _ _ _ _ _ _ (heap_alloc_new _ _)]
            cases j with
            | zero => simpa using hj
            | succ j => simp at hj
          have OA := hid (own_below O.out ((Below.refl wr.heap.size wr).alloc (Nat.le_refl _) (.cells #[.int .i64 z] 3)))
          have BA := hid (B.out.trans (((Below.refl wr.heap.size wr).alloc (Nat.le_refl _) (.cells #[.int .i64 z] 3)).mono B.out.size))
          go_wp2_with (at_builtin; refine wpl_app rowNm rfl _ _ rfl w.heap.size (.slice va F.length vc) F.length (nvs F) rfl OA.out wr.heap.size 1 1 [.int .i64 z] rfl rfl HY.out (by simp [Value.oneCell']) (by omega) BA.out.size ?_; intro va2 vc2 w2 ho2 hg2; have O2 := hid ho2; have B2 := hid (BA.out.trans (own_bel OA.out hg2 BA.out.size)); clear ho2 hg2)
          go_roundw
          case rel => exact ⟨i + 1, by go_num, by omega, HIN2.out, by rw [HD.out], by rw [HFE.out, nvs_snocS]; simpa using O2.out, B2.out⟩
          case measure => simp [intOf]; omega
    · obtain rfl : i = l.length := by omega
      rw [List.take_length] at O HIN
      rw [List.take_length]
      by_cases hsb : swB l out in' = false
      · have HE : Hid (swR l out in' w (.returned (.tuple #[.slice none 0 0, .bool false])) wr) := hid ⟨B.out, by rw [hsb]; rfl⟩
        unfold swB at hsb
        rw [decide_eq_true HIN.out, Bool.true_and] at hsb
        obtain ⟨q, hq⟩ : ∃ q, q = decide (out ∈ l) := ⟨_, rfl⟩
        rw [← hq] at hsb
        rw [← hq]
        clear hq
        have HQ := hid hsb
        clear hsb
        cases q with
        | false =>
          go_wp2_with fail
          go_ret2
          exact HE.out
        | true =>
          by_cases h0 : in' < 0
          · go_wp2_with fail
            go_ret2
            exact HE.out
          · have h6 : (6 : Int) < in' := by
              have := HQ.out
              simp [nodeB] at this
              omega
            go_wp2_with fail
            go_ret2
            exact HE.out
      · have HSB := hid (by simpa using hsb : swB l out in' = true)
        have hq : out ∈ l ∧ (0 ≤ in' ∧ in' < 7) := by
          have := HSB.out
          simp [swB, nodeB] at this
          exact ⟨this.1, this.2.2⟩
        have HD : Hid (decide (out ∈ l) = true) := hid (decide_eq_true hq.1)
        have h0 : ¬ in' < 0 := by omega
        have h6 : ¬ (6 : Int) < in' := by omega
        rw [HD.out]
        clear hsb hq
        have HLM : Hid (∀ y, y ∈ l.filter (· != out) ↔ y ∈ l ∧ y ≠ out) := hid fun y => by rw [List.mem_filter]; simp
        have HLN : Hid ((l.filter (· != out)).Pairwise (· < ·)) := hid (HR.out.filter _)
        have hfl : (l.filter (· != out)).length ≤ 7 := by have := List.length_filter_le (· != out) l; omega
        have HLO := hid (nums_own (own_lower O.out (Nat.zero_le _)) rfl)
        obtain ⟨F0, hF0⟩ : ∃ F0, F0 = l.filter (· != out) := ⟨_, rfl⟩
        rw [← hF0] at HLM HLN hfl HLO
        rw [← hF0]
        clear hF0 O
        have HBW := B
        obtain ⟨wa, hwa⟩ : ∃ wa, wa = wr := ⟨_, rfl⟩
        rw [← hwa] at HBW HLO
        rw [← hwa]
        clear B hwa
        go_wp2_with fail
        go_loopw [12, 13, 15, 49] (fun av nv _ _ wr => ∃ n : Nat, nv = .int .i64 n ∧ n ≤ 7 ∧ wr.ownsRow wa.heap.size 3 1 av (swN l out in' n).length (nvs (swN l out in' n)) ∧ Below wa.heap.size wa wr) (fun _ nv _ _ _ => 7 - (intOf nv).toNat)
        case atStart => exact ⟨0, rfl, by omega, World.ownsRow_nil _ _ _ _, Below.refl _ _⟩
        case round =>
          obtain ⟨n, rfl, hn7, ho, hba⟩ := hrel
          have HBA := hid hba
          have HLR := hid (HLO.out.below hba)
          have HON := hid ho
          have HLN2 := hid hba
          have HSL : Hid ((swN l out in' n).length ≤ 7) := hid (by have := swN_len l out in' n; omega)
          have HSS := hid (swN_succ l out in' n)
          have HW7 : Hid (n = 7 → swN l out in' n = swD l out in') := hid fun h => by rw [h]; rfl
          generalize swN l out in' n = A at *
          obtain ⟨va, vc, rfl⟩ := own_shape ho
          clear ho hba
          by_cases hlt : (n : Int) < 7
          · go_wp2_with fail
            go_loopw [12, 15, 49] (fun av _ jv wr2 => ∃ j : Nat, jv = .int .i64 j ∧ j ≤ F0.length ∧ wr2.ownsRow wa.heap.size 3 1 av (A ++ inN F0 n j).length (nvs (A ++ inN F0 n j)) ∧ Below wa.heap.size wa wr2) (fun _ _ jv _ => F0.length - (intOf jv).toNat)
            case atStart => exact ⟨0, rfl, Nat.zero_le _, by simpa [inN] using HON.out, HBA.out⟩
            case round =>
              obtain ⟨j, rfl, hj, ho, hb⟩ := hrel
              have O := hid ho
              have B := hid hb
              have HLJ := hid (HLO.out.below hb)
              have HNL := hid (inN_len F0 n j)
              have HNJ : Hid (inN F0 n j = if (n : Int) ∈ F0.take j then [(n : Int)] else []) := hid rfl
              clear ho hb
              by_cases hjl : (j : Int) < (F0.length : Int)
              · have hjn : j < F0.length := by omega
                obtain ⟨gd, od, rfl⟩ := HLJ.out.addr (by omega)
                have c0 := HLJ.out.lit j hjn
                have HNS : Hid (inN F0 n (j + 1) = if (n : Int) ∈ F0.take j ∨ (n : Int) = F0[j] then [(n : Int)] else []) := hid (by
                  unfold inN
                  rw [List.take_add_one, List.getElem?_eq_getElem hjn]
                  simp only [List.mem_append, Option.toList_some, List.mem_singleton])
                have HNO : Hid (F0[j] ∉ F0.take j) := hid fun h => by
                  obtain ⟨k, hk, he⟩ := List.mem_iff_getElem.1 h
                  rw [List.getElem_take] at he
                  have hk' : k < j := by rw [List.length_take] at hk; omega
                  have := List.pairwise_iff_getElem.1 HLN.out k j (by omega) hjn hk'
                  omega
                generalize hz : F0[j] = z at *
                clear hz
                generalize F0.take j = Fj at *
                by_cases hx : z = (n : Int)
                · subst hx
                  have HE : Hid (A ++ inN F0 n j = A) := hid (by rw [HNJ.out, if_neg HNO.out, List.append_nil])
                  have HE2 : Hid (A ++ inN F0 n (j + 1) = A ++ [(n : Int)]) := hid (by rw [HNS.out, if_pos (.inr rfl)])
                  rw [HE.out] at O
                  obtain ⟨va, vc, rfl⟩ := own_shape O.out
                  have hfl : A.length ≤ 7 := HSL.out
                  obtain ⟨F, hF⟩ : ∃ F, F = A := ⟨_, rfl⟩
                  rw [← hF] at O hfl HE2
                  rw [← hF]
                  have HF := hid hF
                  clear hF
                  have HY : Hid (∀ j u, ([Value.int .i64 (n : Int)] : List Value)[j]? = some u → (wr.alloc (.cells #[.int .i64 (n : Int)] 3)).cell? ⟨wr.heap.size, j, none⟩ = some u) := hid fun j u hj => by
                    rw [cell_of_row _ _ _ _ _ _ (heap_alloc_new _ _)]
                    cases j with
                    | zero => simpa using hj
                    | succ j => simp at hj
                  have OA := hid (own_below O.out ((Below.refl wr.heap.size wr).alloc (Nat.le_refl _) (.cells #[.int .i64 (n : Int)] 3)))
                  have BA := hid (B.out.trans (((Below.refl wr.heap.size wr).alloc (Nat.le_refl _) (.cells #[.int .i64 (n : Int)] 3)).mono B.out.size))
                  go_wp2_with (at_builtin; refine wpl_app rowNm rfl _ _ rfl wa.heap.size (.slice va F.length vc) F.length (nvs F) rfl OA.out wr.heap.size 1 1 [.int .i64 (n : Int)] rfl rfl HY.out (by simp [Value.oneCell']) (by omega) BA.out.size ?_; intro va2 vc2 w2 ho2 hg2; have O2 := hid ho2; have B2 := hid (BA.out.trans (own_bel OA.out hg2 BA.out.size)); clear ho2 hg2)
                  go_roundw
                  case rel => exact ⟨j + 1, by go_num, by omega, by rw [HE2.out, nvs_snocS]; simpa using O2.out, B2.out⟩
                  case measure => simp [intOf]; omega
                · have g : (z == (n : Int)) = false := by simpa using hx
                  have HE2 : Hid (inN F0 n (j + 1) = inN F0 n j) := hid (by
                    rw [HNS.out, HNJ.out]
                    by_cases hm : (n : Int) ∈ Fj
                    · rw [if_pos hm, if_pos (.inl hm)]
                    · rw [if_neg hm, if_neg (fun h => h.elim hm fun e => hx e.symm)])
                  clear hx
                  go_wp2_with fail
                  go_roundw
                  case rel => exact ⟨j + 1, by go_num, by omega, by rw [HE2.out]; exact O.out, B.out⟩
                  case measure => simp [intOf]; omega
              · obtain rfl : j = F0.length := by omega
                have HNF : Hid (inN F0 n F0.length = if (n : Int) ∈ F0 then [(n : Int)] else []) := hid (by unfold inN; rw [List.take_length])
                have HCC : Hid (swC l out in' n = (decide ((n : Int) ∈ F0) || decide ((n : Int) = in'))) := hid (by
                  unfold swC
                  congr 1
                  rw [Bool.eq_iff_iff, Bool.and_eq_true, decide_eq_true_eq, decide_eq_true_eq, decide_eq_true_eq]
                  exact (HLM.out _).symm)
                by_cases hx : (n : Int) = in'
                · have HNI : Hid (inN F0 n F0.length = []) := hid (by rw [HNF.out, if_neg]; rw [HLM.out, hx]; exact fun h => HIN.out h.1)
                  have HE2 : Hid (swN l out in' (n + 1) = A ++ [(n : Int)]) := hid (by rw [HSS.out, HCC.out, decide_eq_true hx, Bool.or_true, if_pos rfl])
                  rw [HNI.out, List.append_nil] at O
                  obtain ⟨va, vc, rfl⟩ := own_shape O.out
                  have g : ((n : Int) == in') = true := by simpa using hx
                  clear hx
                  have hfl : A.length ≤ 7 := HSL.out
                  obtain ⟨F, hF⟩ : ∃ F, F = A := ⟨_, rfl⟩
                  rw [← hF] at O hfl HE2
                  rw [← hF]
                  clear hF
                  have HY : Hid (∀ j u, ([Value.int .i64 (n : Int)] : List Value)[j]? = some u → (wr.alloc (.cells #[.int .i64 (n : Int)] 3)).cell? ⟨wr.heap.size, j, none⟩ = some u) := hid fun j u hj => by
                    rw [cell_of_row _ _ _ _ _ _ (heap_alloc_new _ _)]
                    cases j with
                    | zero => simpa using hj
                    | succ j => simp at hj
                  have OA := hid (own_below O.out ((Below.refl wr.heap.size wr).alloc (Nat.le_refl _) (.cells #[.int .i64 (n : Int)] 3)))
                  have BA := hid (B.out.trans (((Below.refl wr.heap.size wr).alloc (Nat.le_refl _) (.cells #[.int .i64 (n : Int)] 3)).mono B.out.size))
                  go_wp2_with (at_builtin; refine wpl_app rowNm rfl _ _ rfl wa.heap.size (.slice va F.length vc) F.length (nvs F) rfl OA.out wr.heap.size 1 1 [.int .i64 (n : Int)] rfl rfl HY.out (by simp [Value.oneCell']) (by omega) BA.out.size ?_; intro va2 vc2 w2 ho2 hg2; have O2 := hid ho2; have B2 := hid (BA.out.trans (own_bel OA.out hg2 BA.out.size)); clear ho2 hg2)
                  go_roundw
                  case rel => exact ⟨n + 1, by go_num, by omega, by rw [HE2.out, nvs_snocS]; simpa using O2.out, B2.out⟩
                  case measure => simp [intOf]; omega
                · have HE2 : Hid (swN l out in' (n + 1) = A ++ inN F0 n F0.length) := hid (by
                    rw [HSS.out, HCC.out, decide_eq_false hx, Bool.or_false, HNF.out]
                    simp)
                  have g : ((n : Int) == in') = false := by simpa using hx
                  clear hx
                  go_wp2_with fail
                  go_roundw
                  case rel => exact ⟨n + 1, by go_num, by omega, by rw [HE2.out]; exact O.out, B.out⟩
                  case measure => simp [intOf]; omega
          · have e7 : n = 7 := by omega
            have HE : Hid (swR l out in' w (.returned (.tuple #[.slice va A.length vc, .bool true])) wr) := hid ⟨HBW.out.trans (HBA.out.mono HBW.out.size), by
              rw [HSB.out, if_pos rfl]
              have e := HW7.out e7
              subst e
              exact ⟨va, vc, rfl, own_lower HON.out HBW.out.size⟩⟩
            go_wp2_with fail
            go_ret2
            exact HE.out
end Go.Proofs.Ytnkjkaofgninnaa
