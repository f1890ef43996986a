/- All up to an index is told. -/
import Derived.Test.YtjimneaimnjanaaCoMeet
namespace Go.Proofs.Ytjimneaimnjanaa
open Go.RowKit
set_option linter.unusedVariables false
set_option linter.unusedSimpArgs false

theorem rowNz : RowT 59 75 (.agg #[.int .i64 0, .int .i64 0, .int .i64 0, .string ⟨#[]⟩, .bool false]) 5 48 := ⟨by kernel_rfl, by kernel_rfl, rfl, by decide, by decide⟩
theorem nzs_snoc (l : List Nz) (x : Nz) : nzs (l ++ [x]) = nzs l ++ [.int .i64 x.index, .int .i64 x.e.term, .int .i64 x.e.kind, .string x.e.text, .bool x.snap] := by simp [nzs]
/-- The first n of the news behind what was told. -/
def newsN (D : CoD) (n : Nat) : List Nz := (List.range n).map fun j : Nat => ⟨D.told + (j : Int) + 1, D.log.getD ((D.told - D.bi).toNat + j) ⟨0, 0, ⟨#[]⟩⟩, false⟩
theorem newsN_snoc (D : CoD) (n : Nat) : newsN D (n + 1) = newsN D n ++ [⟨D.told + n + 1, D.log.getD ((D.told - D.bi).toNat + n) ⟨0, 0, ⟨#[]⟩⟩, false⟩] := by simp [newsN, List.range_succ]
/-- The council and the Word, n told. -/
def tlD (D : CoD) (n : Nat) : CoD := { D with told := D.told + n }
def tlW (D : CoD) (W : WdD) (n : Nat) : WdD := { W with news := W.news ++ newsN D n }
theorem Co.setW {w : World} {b wb : Nat} {lv ms ns : Value} {D : CoD} {W : WdD} {i : Nat} {v : Value} (h : Co w 0 b lv D) (k : Wd w wb ms ns W) : Co (w.setCell ⟨wb, i, none⟩ v) 0 b lv D :=
  ⟨(Below.heap_setCell w ⟨wb, i, none⟩ v b fun e => by
      obtain rfl : b = wb := e
      have := k.head; rw [h.head] at this; cases this).trans h.head, own_set h.log k.head (by decide)⟩
theorem Co.setH {w : World} {b wb : Nat} {lv : Value} {D : CoD} {cs : Array Value} {fr : Nat × Nat} {i : Nat} {v : Value} (h : Co w 0 b lv D) (k : w.heap[wb]? = some (.cells cs 61 fr)) : Co (w.setCell ⟨wb, i, none⟩ v) 0 b lv D :=
  ⟨(Below.heap_setCell w ⟨wb, i, none⟩ v b fun e => by
      obtain rfl : b = wb := e
      rw [h.head] at k; cases k).trans h.head, own_set h.log k (by decide)⟩
theorem Wd.below {w w' : World} {wb : Nat} {ms ns : Value} {W : WdD} (k : Wd w wb ms ns W) (hb : Below w.heap.size w w') : Wd w' wb ms ns W :=
  ⟨(hb.block wb (lt_of_block k.head)).trans k.head, own_below k.mails hb, own_below k.news hb⟩
set_option maxRecDepth 100000 in
set_option maxHeartbeats 4000000 in
theorem tell_any (b wb : Nat) (lv ms ns : Value) (D : CoD) (W : WdD) (n : Nat) (w : World) (h : Co w 0 b lv D) (k : Wd w wb ms ns W) (hi : CoI D) (h1 : D.bi ≤ D.told) (h2 : D.told + n ≤ D.bi + D.log.length) (hw : W.news.length + n ≤ 999999) :
    Calls Try.prog 96 #[.pointer (some ⟨b, 0, none⟩), .pointer (some ⟨wb, 0, none⟩), .int .i64 (D.told + n)] w fun e w' => e = .returned (.tuple #[]) ∧ CStep w b wb lv ms ns w' (tlD D n) (tlW D W n) := by
  have HI := hid hi
  have hlo := hi.lo
  have hhi := hi.hi
  have hll := hi.len
  have S0 : Hid (CStep w b wb lv ms ns w (tlD D 0) (tlW D W 0)) := hid (by
    have e1 : tlD D 0 = D := by simp [tlD]
    have e2 : tlW D W 0 = W := by simp [tlW, newsN]
    rw [e1, e2]
    exact CStep.of_below h k (Below.refl _ _))
  clear h k hi
  go_enter Try.func96, Try.ntmps96
  go_wp2_with fail
  go_loopw [6] (fun _ wr => ∃ j : Nat, j ≤ n ∧ CStep w b wb lv ms ns wr (tlD D j) (tlW D W j)) (fun _ wr => (D.told + n - intOf ((wr.cell? ⟨b, 10, none⟩).getD undef)).toNat)
  case atStart => exact ⟨0, Nat.zero_le _, S0.out⟩
  case round =>
    obtain ⟨j, hj, hst⟩ := hrel
    have ST := hid hst
    obtain ⟨lv1, ms1, ns1, hc, hd, hbt, hn1, hn2, hn3⟩ := hst
    obtain ⟨va, vc, rfl⟩ := hc.shape
    obtain ⟨nva, nvc, rfl⟩ := own_shape hd.news
    have BT0 := hid hbt
    have N1 := hid hn1
    have N2 := hid hn2
    have N3 := hid hn3
    have C10 : Hid (wr.cell? ⟨b, 10, none⟩ = some (.int .i64 (D.told + j))) := hid (hc.cell 10)
    clear hbt hn1 hn2 hn3
    have HC := hid hc
    have HD := hid hd
    have c10 : wr.cell? ⟨b, 10, none⟩ = some (.int .i64 (D.told + j)) := hc.cell 10
    clear hc hd
    by_cases hlt : (j : Int) < (n : Int)
    · have hlt2 : D.told + (j : Int) < D.told + (n : Int) := by omega
      have f10 : wr.frozen? ⟨b, 10, none⟩ = false := by simp [World.frozen?, HC.out.head]
      have hw1 : IntKind.i64.wrap (D.told + (j : Int) + 1) = D.told + (j : Int) + 1 := IntWalk.i64_in _ ⟨by omega, by omega⟩
      obtain ⟨p, hp⟩ : ∃ p, p = (D.told - D.bi).toNat + j := ⟨_, rfl⟩
      have hpl : p < D.log.length := by omega
      have hpI : (p : Int) < (D.log.length : Int) := by omega
      have hC1 : Co (wr.setCell ⟨b, 10, none⟩ (.int .i64 (D.told + (j : Int) + 1))) 0 b (.slice va D.log.length vc) (tlD D (j + 1)) := HC.out.set (by
        show _ = coC { D with told := D.told + ((j + 1 : Nat) : Int) } _
        rw [show D.told + ((j + 1 : Nat) : Int) = D.told + (j : Int) + 1 by omega]; rfl) rfl
      have HK1 := hid (HD.out.set (i := 10) (v := .int .i64 (D.told + (j : Int) + 1)) HC.out)
      have HBT := hid (Bt.set (R := Blk b wb (.slice va D.log.length vc) ms1 (.slice nva (tlW D W j).news.length nvc)) (i := 10) (v := .int .i64 (D.told + (j : Int) + 1)) (Bt.refl _ wr) (.inl (.inl rfl)))
      obtain ⟨g, cap, he⟩ := hC1.addr (by show 0 < D.log.length; omega)
      cases he
      have HC1 := hid hC1
      clear hC1
      go_wp2_with fail
      generalize wr.setCell ⟨b, 10, none⟩ (.int .i64 (D.told + (j : Int) + 1)) = w1 at HC1 HK1 HBT ⊢
      have HI1 : Hid (CoI (tlD D (j + 1))) := hid ⟨hlo, hhi, hll⟩
      have HPL : Hid (∀ Y, Co Y 0 b (.slice (some ⟨g, 0, none⟩) D.log.length vc) (tlD D (j + 1)) → Calls Try.prog 87 #[.pointer (some ⟨b, 0, none⟩), .int .i64 (D.told + (j : Int) + 1)] Y fun e w' => e = .returned (.int .i64 (p : Int)) ∧ w' = Y) := hid fun Y hY => by
        refine (place_any 0 b _ _ _ Y hY HI1.out (by show D.bi ≤ _; omega) (by omega)).mono ?_
        rintro e w2 ⟨rfl, rfl⟩
        refine ⟨?_, rfl⟩
        show Ending.returned (.int .i64 (D.told + (j : Int) + 1 - D.bi - 1)) = _
        rw [show D.told + (j : Int) + 1 - D.bi - 1 = (p : Int) by omega]
      have HPe := hid hp
      clear hp
      have HG : Hid (D.log.getD p ⟨0, 0, ⟨#[]⟩⟩ = D.log[p]) := hid (by simp [List.getD, List.getElem?_eq_getElem hpl])
      have HSC : Hid (∀ Y, Co Y 0 b (.slice (some ⟨g, 0, none⟩) D.log.length vc) (tlD D (j + 1)) → Y.cell? ⟨b, 10, none⟩ = some (.int .i64 (D.told + (j : Int) + 1)) ∧ Y.cell? ⟨b, 7, none⟩ = some (.slice (some ⟨g, 0, none⟩) D.log.length vc) ∧ Y.cell? ⟨g, p * 3, none⟩ = some (.int .i64 D.log[p].term) ∧ Y.cell? ⟨g, p * 3 + 1, none⟩ = some (.int .i64 D.log[p].kind) ∧ Y.cell? ⟨g, p * 3 + 2, none⟩ = some (.string D.log[p].text)) := hid fun Y hY => by
        refine ⟨?_, hY.cell 7, hY.ent p hpl⟩
        rw [hY.cell 10]
        show some (Value.int .i64 (D.told + ((j + 1 : Nat) : Int))) = _
        rw [show D.told + ((j + 1 : Nat) : Int) = D.told + (j : Int) + 1 by omega]
      generalize D.log[p] = en at HG HSC
      have HLN : Hid ((tlW D W j).news.length ≤ 999998) := hid (by simp [tlW, newsN]; omega)
      have BA : Hid (Below w1.heap.size w1 (w1.drew.alloc (.cells #[.int .i64 (D.told + (j : Int) + 1), .int .i64 en.term, .int .i64 en.kind, .string en.text, .bool false] 75))) := hid (((Below.refl w1.heap.size w1).drew).alloc (Nat.le_refl _) _)
      have CA := hid (HC1.out.below BA.out)
      have KA := hid (HK1.out.below BA.out)
      have HY : Hid (∀ i u, ([.int .i64 (D.told + (j : Int) + 1), .int .i64 en.term, .int .i64 en.kind, .string en.text, .bool false] : List Value)[i]? = some u → (w1.drew.alloc (.cells #[.int .i64 (D.told + (j : Int) + 1), .int .i64 en.term, .int .i64 en.kind, .string en.text, .bool false] 75)).cell? ⟨w1.heap.size, i, none⟩ = some u) := hid fun i u hi => by
        have hn' : (w1.drew.alloc (.cells #[.int .i64 (D.told + (j : Int) + 1), .int .i64 en.term, .int .i64 en.kind, .string en.text, .bool false] 75)).heap[w1.heap.size]? = _ := heap_alloc_new w1.drew _
        rw [cell_of_row _ _ _ _ _ _ hn']
        match i with
        | 0 => simpa using hi
        | 1 => simpa using hi
        | 2 => simpa using hi
        | 3 => simpa using hi
        | 4 => simpa using hi
        | i + 5 => simp at hi
      have n2 : w1.drew.cell? ⟨wb, 2, none⟩ = some (.slice nva (tlW D W j).news.length nvc) := by
        show w1.cell? _ = _
        rw [cell_of_row _ _ _ _ _ _ HK1.out.head]; rfl
      have n2b : ((w1.alloc (.cells #[.int .i64 (D.told + (j : Int) + 1), .int .i64 en.term, .int .i64 en.kind, .string en.text, .bool false] 75)).drew).cell? ⟨wb, 2, none⟩ = some (.slice nva (tlW D W j).news.length nvc) := by
        have hb : Below w1.heap.size w1 (w1.alloc (.cells #[.int .i64 (D.told + (j : Int) + 1), .int .i64 en.term, .int .i64 en.kind, .string en.text, .bool false] 75)) := (Below.refl _ _).alloc (Nat.le_refl _) _
        show (w1.alloc _).cell? _ = _
        rw [cell_of_row _ _ _ _ _ _ (HK1.out.below hb).head]; rfl
      refine wp_region_held_drew (S := fun Y => Y.cell? ⟨b, 10, none⟩ = some (.int .i64 (D.told + (j : Int) + 1)) ∧ Y.cell? ⟨b, 7, none⟩ = some (.slice (some ⟨g, 0, none⟩) D.log.length vc) ∧ Y.cell? ⟨g, p * 3, none⟩ = some (.int .i64 en.term) ∧ Y.cell? ⟨g, p * 3 + 1, none⟩ = some (.int .i64 en.kind) ∧ Y.cell? ⟨g, p * 3 + 2, none⟩ = some (.string en.text)) (by kernel_rfl) (HSC.out _ (HC1.out.below ((Below.refl _ _).drew))) (fun hHeld => ?_)
      refine wpAnyH_take (i := 0) (v := ?av0) rfl (by kernel_rfl) (by kernel_rfl) (by kernel_rfl) (fun _ _ _ h => h) (Or.inl ⟨by rfl, ?ay0⟩) (by assumption) ?ar0
      case ay0 => (intro w hSw; (try dsimp only at hSw); go_simp; try with_reducible rfl)
      (try simp only [Act.put, List.setIfInBounds_toArray, List.set_cons_zero, List.set_cons_succ, List.getElem_toArray, List.getElem_cons_succ, List.getElem_cons_zero])
      refine wpAnyH_take (i := 1) (v := ?av1) rfl (by kernel_rfl) (by kernel_rfl) (by kernel_rfl) (fun _ _ _ h => h) (Or.inl ⟨by rfl, ?ay1⟩) (by assumption) ?ar1
      case ay1 => (intro w hSw; (try dsimp only at hSw); go_simp; try with_reducible rfl)
      (try simp only [Act.put, List.setIfInBounds_toArray, List.set_cons_zero, List.set_cons_succ, List.getElem_toArray, List.getElem_cons_succ, List.getElem_cons_zero])
      refine wpAnyH_take (i := 2) (v := ?av2) rfl (by kernel_rfl) (by kernel_rfl) (by kernel_rfl) (fun _ _ _ h => h) (Or.inl ⟨by rfl, ?ay2⟩) (by assumption) ?ar2
      case ay2 => (intro w hSw; (try dsimp only at hSw); go_simp; try with_reducible rfl)
      (try simp only [Act.put, List.setIfInBounds_toArray, List.set_cons_zero, List.set_cons_succ, List.getElem_toArray, List.getElem_cons_succ, List.getElem_cons_zero])
      refine wpAnyH_take (i := 3) (v := ?av3) rfl (by kernel_rfl) (by kernel_rfl) (by kernel_rfl) (fun _ _ _ h => h) (Or.inl ⟨by rfl, ?ay3⟩) (by assumption) ?ar3
      case ay3 => (intro w hSw; (try dsimp only at hSw); go_simp; try with_reducible rfl)
      (try simp only [Act.put, List.setIfInBounds_toArray, List.set_cons_zero, List.set_cons_succ, List.getElem_toArray, List.getElem_cons_succ, List.getElem_cons_zero])
      refine wpAnyH_take (i := 5) (v := ?av5) rfl (by kernel_rfl) (by kernel_rfl) (by kernel_rfl) (fun _ _ _ h => h) (Or.inl ⟨by rfl, ?ay5⟩) (by assumption) ?ar5
      case ay5 => (intro w hSw; (try dsimp only at hSw); go_simp; try with_reducible rfl)
      (try simp only [Act.put, List.setIfInBounds_toArray, List.set_cons_zero, List.set_cons_succ, List.getElem_toArray, List.getElem_cons_succ, List.getElem_cons_zero])
      refine wpAnyH_take (i := 6) (v := ?av6) rfl (by kernel_rfl) (by kernel_rfl) (by kernel_rfl) (fun _ _ _ h => h) (Or.inl ⟨by rfl, ?ay6⟩) (by assumption) ?ar6
      case ay6 => (intro w hSw; (try dsimp only at hSw); go_simp; try with_reducible rfl)
      (try simp only [Act.put, List.setIfInBounds_toArray, List.set_cons_zero, List.set_cons_succ, List.getElem_toArray, List.getElem_cons_succ, List.getElem_cons_zero])
      refine wpAnyH_take (i := 7) (v := ?av7) rfl (by kernel_rfl) (by kernel_rfl) (by kernel_rfl) (fun _ _ _ h => h) (Or.inl ⟨by rfl, ?ay7⟩) (by assumption) ?ar7
      case ay7 => (intro w hSw; (try dsimp only at hSw); go_simp; try with_reducible rfl)
      (try simp only [Act.put, List.setIfInBounds_toArray, List.set_cons_zero, List.set_cons_succ, List.getElem_toArray, List.getElem_cons_succ, List.getElem_cons_zero])
      refine wpAnyH_take (i := 8) (v := ?av8) rfl (by kernel_rfl) (by kernel_rfl) (by kernel_rfl) (fun _ _ _ h => h) (Or.inl ⟨by rfl, ?ay8⟩) (by assumption) ?ar8
      case ay8 => (intro w hSw; (try dsimp only at hSw); go_simp; try with_reducible rfl)
      (try simp only [Act.put, List.setIfInBounds_toArray, List.set_cons_zero, List.set_cons_succ, List.getElem_toArray, List.getElem_cons_succ, List.getElem_cons_zero])
      refine wpAnyH_take (i := 9) (v := ?av9) rfl (by kernel_rfl) (by kernel_rfl) (by kernel_rfl) (fun _ _ _ h => h) (Or.inl ⟨by rfl, ?ay9⟩) (by assumption) ?ar9
      case ay9 => (intro w hSw; (try dsimp only at hSw); go_simp; try with_reducible rfl)
      (try simp only [Act.put, List.setIfInBounds_toArray, List.set_cons_zero, List.set_cons_succ, List.getElem_toArray, List.getElem_cons_succ, List.getElem_cons_zero])
      refine wpAnyH_take (i := 10) (v := ?av10) rfl (by kernel_rfl) (by kernel_rfl) (by kernel_rfl) (fun _ _ _ h => h) (Or.inl ⟨by rfl, ?ay10⟩) (by assumption) ?ar10
      case ay10 => (intro w hSw; (try dsimp only at hSw); go_simp; try with_reducible rfl)
      (try simp only [Act.put, List.setIfInBounds_toArray, List.set_cons_zero, List.set_cons_succ, List.getElem_toArray, List.getElem_cons_succ, List.getElem_cons_zero])
      refine wpAnyH_take (i := 11) (v := ?av11) rfl (by kernel_rfl) (by kernel_rfl) (by kernel_rfl) (fun _ _ _ h => h) (Or.inl ⟨by rfl, ?ay11⟩) (by assumption) ?ar11
      case ay11 => (intro w hSw; (try dsimp only at hSw); go_simp; try with_reducible rfl)
      (try simp only [Act.put, List.setIfInBounds_toArray, List.set_cons_zero, List.set_cons_succ, List.getElem_toArray, List.getElem_cons_succ, List.getElem_cons_zero])
      refine wpAnyH_take (i := 12) (v := ?av12) rfl (by kernel_rfl) (by kernel_rfl) (by kernel_rfl) (fun _ _ _ h => h) (Or.inl ⟨by rfl, ?ay12⟩) (by assumption) ?ar12
      case ay12 => (intro w hSw; (try dsimp only at hSw); go_simp; try with_reducible rfl)
      (try simp only [Act.put, List.setIfInBounds_toArray, List.set_cons_zero, List.set_cons_succ, List.getElem_toArray, List.getElem_cons_succ, List.getElem_cons_zero])
      refine wpAnyH_take (i := 13) (v := ?av13) rfl (by kernel_rfl) (by kernel_rfl) (by kernel_rfl) (fun _ _ _ h => h) (Or.inl ⟨by rfl, ?ay13⟩) (by assumption) ?ar13
      case ay13 => (intro w hSw; (try dsimp only at hSw); go_simp; try with_reducible rfl)
      (try simp only [Act.put, List.setIfInBounds_toArray, List.set_cons_zero, List.set_cons_succ, List.getElem_toArray, List.getElem_cons_succ, List.getElem_cons_zero])
      refine wpAnyH_take (i := 14) (v := ?av14) rfl (by kernel_rfl) (by kernel_rfl) (by kernel_rfl) (fun _ _ _ h => h) (Or.inl ⟨by rfl, ?ay14⟩) (by assumption) ?ar14
      case ay14 => (intro w hSw; (try dsimp only at hSw); go_simp; try with_reducible rfl)
      (try simp only [Act.put, List.setIfInBounds_toArray, List.set_cons_zero, List.set_cons_succ, List.getElem_toArray, List.getElem_cons_succ, List.getElem_cons_zero])
      refine wpAnyH_take (i := 15) (v := ?av15) rfl (by kernel_rfl) (by kernel_rfl) (by kernel_rfl) (fun _ _ _ h => h) (Or.inl ⟨by rfl, ?ay15⟩) (by assumption) ?ar15
      case ay15 => (intro w hSw; (try dsimp only at hSw); go_simp; try with_reducible rfl)
      (try simp only [Act.put, List.setIfInBounds_toArray, List.set_cons_zero, List.set_cons_succ, List.getElem_toArray, List.getElem_cons_succ, List.getElem_cons_zero])
      refine wpAnyH_take (i := 16) (v := ?av16) rfl (by kernel_rfl) (by kernel_rfl) (by kernel_rfl) (fun _ _ _ h => h) (Or.inl ⟨by rfl, ?ay16⟩) (by assumption) ?ar16
      case ay16 => (intro w hSw; (try dsimp only at hSw); go_simp; try with_reducible rfl)
      (try simp only [Act.put, List.setIfInBounds_toArray, List.set_cons_zero, List.set_cons_succ, List.getElem_toArray, List.getElem_cons_succ, List.getElem_cons_zero])
      refine wpAnyH_take (i := 17) (v := ?av17) rfl (by kernel_rfl) (by kernel_rfl) (by kernel_rfl) (fun _ _ _ h => h) (Or.inl ⟨by rfl, ?ay17⟩) (by assumption) ?ar17
      case ay17 => (intro w hSw; (try dsimp only at hSw); go_simp; try with_reducible rfl)
      (try simp only [Act.put, List.setIfInBounds_toArray, List.set_cons_zero, List.set_cons_succ, List.getElem_toArray, List.getElem_cons_succ, List.getElem_cons_zero])
      refine wpAnyH_ready (rs := [4, 18]) (by kernel_rfl) (by simp) ?_
      refine AllReadyH.cons rfl (fun K hK => ?_) (AllReadyH.cons rfl (fun K hK => ?_) AllReadyH.nil)
      · skip
        rw [if_pos (by rfl)]
        go_simp
        refine hK.out _ _ hHeld (fun hHeld => ?_)
        clear hK K
        (try simp only [Act.put, List.setIfInBounds_toArray, List.set_cons_zero, List.set_cons_succ, List.getElem_toArray, List.getElem_cons_succ, List.getElem_cons_zero])
        refine wpAnyH_ready (rs := [18]) (by kernel_rfl) (by simp) ?_
        refine AllReadyH.cons rfl (fun K hK => ?_) AllReadyH.nil
        rw [if_pos (by rfl)]
        go_simp
        refine (HPL.out _ (HC1.out.below ((Below.refl _ _).drew))).mono ?_
        rintro e w2 ⟨rfl, hw2⟩
        replace hw2 := hw2.symm
        subst hw2
        refine hK.out _ _ hHeld (fun hHeld => ?_)
        clear hK K
        (try simp only [Act.put, List.setIfInBounds_toArray, List.set_cons_zero, List.set_cons_succ, List.getElem_toArray, List.getElem_cons_succ, List.getElem_cons_zero])
        refine wpAnyH_take (i := 19) (v := ?bv19) rfl (by kernel_rfl) (by kernel_rfl) (by kernel_rfl) (fun _ _ _ h => h) (Or.inl ⟨by rfl, ?by19⟩) (by assumption) ?br19
        case by19 => (intro w hSw; (try dsimp only at hSw); go_simp; try with_reducible rfl)
        (try simp only [Act.put, List.setIfInBounds_toArray, List.set_cons_zero, List.set_cons_succ, List.getElem_toArray, List.getElem_cons_succ, List.getElem_cons_zero])
        refine wpAnyH_take (i := 20) (v := ?bv20) rfl (by kernel_rfl) (by kernel_rfl) (by kernel_rfl) (fun _ _ _ h => h) (Or.inl ⟨by rfl, ?by20⟩) (by assumption) ?br20
        case by20 => (intro w hSw; (try dsimp only at hSw); go_simp; try with_reducible rfl)
        (try simp only [Act.put, List.setIfInBounds_toArray, List.set_cons_zero, List.set_cons_succ, List.getElem_toArray, List.getElem_cons_succ, List.getElem_cons_zero])
        refine wpAnyH_take (i := 21) (v := ?bv21) rfl (by kernel_rfl) (by kernel_rfl) (by kernel_rfl) (fun _ _ _ h => h) (Or.inl ⟨by rfl, ?by21⟩) (by assumption) ?br21
        case by21 => (intro w hSw; (try dsimp only at hSw); go_simp; try with_reducible rfl)
        (try simp only [Act.put, List.setIfInBounds_toArray, List.set_cons_zero, List.set_cons_succ, List.getElem_toArray, List.getElem_cons_succ, List.getElem_cons_zero])
        refine wpAnyH_ready (rs := [22]) (by kernel_rfl) (by simp) ?_
        refine AllReadyH.cons rfl (fun K hK => ?_) AllReadyH.nil
        rw [if_pos (by rfl)]
        go_simp
        refine hK.out _ _ (HSC.out _ (HC1.out.below (((Below.refl _ _).drew).alloc (Nat.le_refl _) _))) (fun hHeld => ?_)
        clear hK K
        (try simp only [Act.put, List.setIfInBounds_toArray, List.set_cons_zero, List.set_cons_succ, List.getElem_toArray, List.getElem_cons_succ, List.getElem_cons_zero])
        clear n2 n2b
        refine wpAnyH_ready (rs := [23]) (by kernel_rfl) (by simp) ?_
        refine AllReadyH.cons rfl (fun K hK => ?_) AllReadyH.nil
        rw [if_pos (by rfl)]
        refine wp_appN rowNz _ _ rfl (.slice nva (tlW D W j).news.length nvc) (tlW D W j).news.length (nzs (tlW D W j).news) rfl KA.out.news w1.heap.size 1 1 [.int .i64 (D.told + (j : Int) + 1), .int .i64 en.term, .int .i64 en.kind, .string en.text, .bool false] rfl rfl HY.out (by intro u hu; simp at hu; rcases hu with rfl | rfl | rfl | rfl | rfl <;> rfl) (by have := HLN.out; omega) ?_
        intro va' vc' W2 ho2 hg2 hn2
        have hC2 : Co W2 0 b (.slice (some ⟨g, 0, none⟩) D.log.length vc) (tlD D (j + 1)) := ⟨(hg2.block b (lt_of_block CA.out.head) (fun e => own_ne KA.out.news CA.out.head (by decide) e.symm)).trans CA.out.head, own_grown CA.out.log KA.out.news hg2 (by decide)⟩
        have hw2 : W2.heap[wb]? = some (.cells #[.bool (tlW D W j).keep, ms1, .slice nva (tlW D W j).news.length nvc] 61 (0, 0)) := (hg2.block wb (lt_of_block KA.out.head) (fun e => own_ne KA.out.news KA.out.head (by decide) e.symm)).trans KA.out.head
        have hm2 := own_grown KA.out.mails KA.out.news hg2 (by decide)
        have bt2 := Bt.grown (HBT.out.trans (Bt.of_below (R := fun _ => False) BA.out) (fun q hq => hq.elim)) hg2 (fun q hq => .inl (.inr (.inr (.inr (.inr hq)))))
        have nw2 : Nw wr (.slice nva (tlW D W j).news.length nvc) (.slice va' ((tlW D W j).news.length + 1) vc') := fun q hq => by
          rcases hn2 q hq with h1 | h1
          · exact .inl h1
          · exact .inr (Nat.le_trans HBT.out.size (Nat.le_trans BA.out.size h1))
        refine hK.out _ _ (HSC.out _ hC2) (fun hHeld => ?_)
        clear hK K
        (try simp only [Act.put, List.setIfInBounds_toArray, List.set_cons_zero, List.set_cons_succ, List.getElem_toArray, List.getElem_cons_succ, List.getElem_cons_zero])
        refine wpAnyH_take (i := 24) (v := ?cv24) rfl (by kernel_rfl) (by kernel_rfl) (by kernel_rfl) (fun _ _ _ h => h) (Or.inl ⟨by rfl, ?cy24⟩) (by assumption) ?cr24
        case cy24 => (intro w hSw; (try dsimp only at hSw); go_simp; try with_reducible rfl)
        (try simp only [Act.put, List.setIfInBounds_toArray, List.set_cons_zero, List.set_cons_succ, List.getElem_toArray, List.getElem_cons_succ, List.getElem_cons_zero])
        refine wpAnyH_take (i := 25) (v := ?cv25) rfl (by kernel_rfl) (by kernel_rfl) (by kernel_rfl) (fun _ _ _ h => h) (Or.inl ⟨by rfl, ?cy25⟩) (by assumption) ?cr25
        case cy25 => (intro w hSw; (try dsimp only at hSw); go_simp; try with_reducible rfl)
        (try simp only [Act.put, List.setIfInBounds_toArray, List.set_cons_zero, List.set_cons_succ, List.getElem_toArray, List.getElem_cons_succ, List.getElem_cons_zero])
        have c22 : W2.cell? ⟨wb, 2, none⟩ = some (.slice nva (tlW D W j).news.length nvc) := by rw [cell_of_row _ _ _ _ _ _ hw2]; rfl
        have f22 : W2.frozen? ⟨wb, 2, none⟩ = false := by simp [World.frozen?, hw2]
        refine wpAnyH_ready (rs := [26]) (by kernel_rfl) (by simp) ?_
        refine AllReadyH.cons rfl (fun K hK => ?_) AllReadyH.nil
        rw [if_pos (by rfl)]
        go_simp
        have hC3 := hC2.setH (i := 2) (v := .slice va' ((tlW D W j).news.length + 1) vc') hw2
        have hK3 : Wd (W2.setCell ⟨wb, 2, none⟩ (.slice va' ((tlW D W j).news.length + 1) vc')) wb ms1 (.slice va' ((tlW D W j).news.length + 1) vc') (tlW D W (j + 1)) := by
          have e : (tlW D W (j + 1)).news = (tlW D W j).news ++ [⟨D.told + (j : Int) + 1, en, false⟩] := by
            show W.news ++ newsN D (j + 1) = (W.news ++ newsN D j) ++ _
            rw [newsN_snoc, ← HPe.out, HG.out, List.append_assoc]
          refine ⟨heap_setCell_same _ _ _ _ _ _ hw2, own_set hm2 hw2 (by decide), ?_⟩
          rw [e, List.length_append, nzs_snoc]
          exact own_set ho2 hw2 (by decide)
        have bt3 := Bt.set (X := wb) (i := 2) (v := .slice va' ((tlW D W j).news.length + 1) vc') bt2 (.inl (.inr (.inl rfl)))
        refine hK.out _ _ (HSC.out _ hC3) (fun hHeld => ?_)
        clear hK K
        (try simp only [Act.put, List.setIfInBounds_toArray, List.set_cons_zero, List.set_cons_succ, List.getElem_toArray, List.getElem_cons_succ, List.getElem_cons_zero])
        refine wpAnyH_done (by kernel_rfl) ?_ _
        generalize W2.setCell ⟨wb, 2, none⟩ (.slice va' ((tlW D W j).news.length + 1) vc') = W3 at hC3 hK3 bt3 ⊢
        have C3 := hid hC3
        have K3 := hid hK3
        have BT3 := hid bt3
        have NW2 := hid nw2
        clear hC3 hK3 bt3 nw2 hHeld c22 f22 hw2 hm2 bt2 ho2 hg2 hn2 hC2
        go_wp2_with fail
        go_roundw
        case rel => exact ⟨j + 1, by omega, _, _, _, C3.out, K3.out, BT0.out.trans BT3.out (Blk.new N1.out N2.out N3.out), N1.out, N2.out, N3.out.trans NW2.out BT0.out.size⟩
        case measure =>
          rw [C3.out.cell 10, C10.out]
          show (D.told + (n : Int) - (D.told + ((j + 1 : Nat) : Int))).toNat < (D.told + (n : Int) - (D.told + (j : Int))).toNat
          omega
      · skip
        rw [if_pos (by rfl)]
        go_simp
        refine (HPL.out _ (HC1.out.below ((Below.refl _ _).drew))).mono ?_
        rintro e w2 ⟨rfl, hw2⟩
        replace hw2 := hw2.symm
        subst hw2
        refine hK.out _ _ hHeld (fun hHeld => ?_)
        clear hK K
        (try simp only [Act.put, List.setIfInBounds_toArray, List.set_cons_zero, List.set_cons_succ, List.getElem_toArray, List.getElem_cons_succ, List.getElem_cons_zero])
        refine wpAnyH_take (i := 19) (v := ?dv19) rfl (by kernel_rfl) (by kernel_rfl) (by kernel_rfl) (fun _ _ _ h => h) (Or.inl ⟨by rfl, ?dy19⟩) (by assumption) ?dr19
        case dy19 => (intro w hSw; (try dsimp only at hSw); go_simp; try with_reducible rfl)
        (try simp only [Act.put, List.setIfInBounds_toArray, List.set_cons_zero, List.set_cons_succ, List.getElem_toArray, List.getElem_cons_succ, List.getElem_cons_zero])
        refine wpAnyH_take (i := 20) (v := ?dv20) rfl (by kernel_rfl) (by kernel_rfl) (by kernel_rfl) (fun _ _ _ h => h) (Or.inl ⟨by rfl, ?dy20⟩) (by assumption) ?dr20
        case dy20 => (intro w hSw; (try dsimp only at hSw); go_simp; try with_reducible rfl)
        (try simp only [Act.put, List.setIfInBounds_toArray, List.set_cons_zero, List.set_cons_succ, List.getElem_toArray, List.getElem_cons_succ, List.getElem_cons_zero])
        refine wpAnyH_take (i := 21) (v := ?dv21) rfl (by kernel_rfl) (by kernel_rfl) (by kernel_rfl) (fun _ _ _ h => h) (Or.inl ⟨by rfl, ?dy21⟩) (by assumption) ?dr21
        case dy21 => (intro w hSw; (try dsimp only at hSw); go_simp; try with_reducible rfl)
        (try simp only [Act.put, List.setIfInBounds_toArray, List.set_cons_zero, List.set_cons_succ, List.getElem_toArray, List.getElem_cons_succ, List.getElem_cons_zero])
        refine wpAnyH_ready (rs := [4, 22]) (by kernel_rfl) (by simp) ?_
        refine AllReadyH.cons rfl (fun K hK => ?_) (AllReadyH.cons rfl (fun K hK => ?_) AllReadyH.nil)
        · skip
          rw [if_pos (by rfl)]
          go_simp
          refine hK.out _ _ hHeld (fun hHeld => ?_)
          clear hK K
          (try simp only [Act.put, List.setIfInBounds_toArray, List.set_cons_zero, List.set_cons_succ, List.getElem_toArray, List.getElem_cons_succ, List.getElem_cons_zero])
          refine wpAnyH_ready (rs := [22]) (by kernel_rfl) (by simp) ?_
          refine AllReadyH.cons rfl (fun K hK => ?_) AllReadyH.nil
          rw [if_pos (by rfl)]
          go_simp
          refine hK.out _ _ (HSC.out _ (HC1.out.below (((Below.refl _ _).drew).alloc (Nat.le_refl _) _))) (fun hHeld => ?_)
          clear hK K
          (try simp only [Act.put, List.setIfInBounds_toArray, List.set_cons_zero, List.set_cons_succ, List.getElem_toArray, List.getElem_cons_succ, List.getElem_cons_zero])
          clear n2 n2b
          refine wpAnyH_ready (rs := [23]) (by kernel_rfl) (by simp) ?_
          refine AllReadyH.cons rfl (fun K hK => ?_) AllReadyH.nil
          rw [if_pos (by rfl)]
          refine wp_appN rowNz _ _ rfl (.slice nva (tlW D W j).news.length nvc) (tlW D W j).news.length (nzs (tlW D W j).news) rfl KA.out.news w1.heap.size 1 1 [.int .i64 (D.told + (j : Int) + 1), .int .i64 en.term, .int .i64 en.kind, .string en.text, .bool false] rfl rfl HY.out (by intro u hu; simp at hu; rcases hu with rfl | rfl | rfl | rfl | rfl <;> rfl) (by have := HLN.out; omega) ?_
          intro va' vc' W2 ho2 hg2 hn2
          have hC2 : Co W2 0 b (.slice (some ⟨g, 0, none⟩) D.log.length vc) (tlD D (j + 1)) := ⟨(hg2.block b (lt_of_block CA.out.head) (fun e => own_ne KA.out.news CA.out.head (by decide) e.symm)).trans CA.out.head, own_grown CA.out.log KA.out.news hg2 (by decide)⟩
          have hw2 : W2.heap[wb]? = some (.cells #[.bool (tlW D W j).keep, ms1, .slice nva (tlW D W j).news.length nvc] 61 (0, 0)) := (hg2.block wb (lt_of_block KA.out.head) (fun e => own_ne KA.out.news KA.out.head (by decide) e.symm)).trans KA.out.head
          have hm2 := own_grown KA.out.mails KA.out.news hg2 (by decide)
          have bt2 := Bt.grown (HBT.out.trans (Bt.of_below (R := fun _ => False) BA.out) (fun q hq => hq.elim)) hg2 (fun q hq => .inl (.inr (.inr (.inr (.inr hq)))))
          have nw2 : Nw wr (.slice nva (tlW D W j).news.length nvc) (.slice va' ((tlW D W j).news.length + 1) vc') := fun q hq => by
            rcases hn2 q hq with h1 | h1
            · exact .inl h1
            · exact .inr (Nat.le_trans HBT.out.size (Nat.le_trans BA.out.size h1))
          refine hK.out _ _ (HSC.out _ hC2) (fun hHeld => ?_)
          clear hK K
          (try simp only [Act.put, List.setIfInBounds_toArray, List.set_cons_zero, List.set_cons_succ, List.getElem_toArray, List.getElem_cons_succ, List.getElem_cons_zero])
          refine wpAnyH_take (i := 24) (v := ?ev24) rfl (by kernel_rfl) (by kernel_rfl) (by kernel_rfl) (fun _ _ _ h => h) (Or.inl ⟨by rfl, ?ey24⟩) (by assumption) ?er24
          case ey24 => (intro w hSw; (try dsimp only at hSw); go_simp; try with_reducible rfl)
          (try simp only [Act.put, List.setIfInBounds_toArray, List.set_cons_zero, List.set_cons_succ, List.getElem_toArray, List.getElem_cons_succ, List.getElem_cons_zero])
          refine wpAnyH_take (i := 25) (v := ?ev25) rfl (by kernel_rfl) (by kernel_rfl) (by kernel_rfl) (fun _ _ _ h => h) (Or.inl ⟨by rfl, ?ey25⟩) (by assumption) ?er25
          case ey25 => (intro w hSw; (try dsimp only at hSw); go_simp; try with_reducible rfl)
          (try simp only [Act.put, List.setIfInBounds_toArray, List.set_cons_zero, List.set_cons_succ, List.getElem_toArray, List.getElem_cons_succ, List.getElem_cons_zero])
          have c22 : W2.cell? ⟨wb, 2, none⟩ = some (.slice nva (tlW D W j).news.length nvc) := by rw [cell_of_row _ _ _ _ _ _ hw2]; rfl
          have f22 : W2.frozen? ⟨wb, 2, none⟩ = false := by simp [World.frozen?, hw2]
          refine wpAnyH_ready (rs := [26]) (by kernel_rfl) (by simp) ?_
          refine AllReadyH.cons rfl (fun K hK => ?_) AllReadyH.nil
          rw [if_pos (by rfl)]
          go_simp
          have hC3 := hC2.setH (i := 2) (v := .slice va' ((tlW D W j).news.length + 1) vc') hw2
          have hK3 : Wd (W2.setCell ⟨wb, 2, none⟩ (.slice va' ((tlW D W j).news.length + 1) vc')) wb ms1 (.slice va' ((tlW D W j).news.length + 1) vc') (tlW D W (j + 1)) := by
            have e : (tlW D W (j + 1)).news = (tlW D W j).news ++ [⟨D.told + (j : Int) + 1, en, false⟩] := by
              show W.news ++ newsN D (j + 1) = (W.news ++ newsN D j) ++ _
              rw [newsN_snoc, ← HPe.out, HG.out, List.append_assoc]
            refine ⟨heap_setCell_same _ _ _ _ _ _ hw2, own_set hm2 hw2 (by decide), ?_⟩
            rw [e, List.length_append, nzs_snoc]
            exact own_set ho2 hw2 (by decide)
          have bt3 := Bt.set (X := wb) (i := 2) (v := .slice va' ((tlW D W j).news.length + 1) vc') bt2 (.inl (.inr (.inl rfl)))
          refine hK.out _ _ (HSC.out _ hC3) (fun hHeld => ?_)
          clear hK K
          (try simp only [Act.put, List.setIfInBounds_toArray, List.set_cons_zero, List.set_cons_succ, List.getElem_toArray, List.getElem_cons_succ, List.getElem_cons_zero])
          refine wpAnyH_done (by kernel_rfl) ?_ _
          generalize W2.setCell ⟨wb, 2, none⟩ (.slice va' ((tlW D W j).news.length + 1) vc') = W3 at hC3 hK3 bt3 ⊢
          have C3 := hid hC3
          have K3 := hid hK3
          have BT3 := hid bt3
          have NW2 := hid nw2
          clear hC3 hK3 bt3 nw2 hHeld c22 f22 hw2 hm2 bt2 ho2 hg2 hn2 hC2
          go_wp2_with fail
          go_roundw
          case rel => exact ⟨j + 1, by omega, _, _, _, C3.out, K3.out, BT0.out.trans BT3.out (Blk.new N1.out N2.out N3.out), N1.out, N2.out, N3.out.trans NW2.out BT0.out.size⟩
          case measure =>
            rw [C3.out.cell 10, C10.out]
            show (D.told + (n : Int) - (D.told + ((j + 1 : Nat) : Int))).toNat < (D.told + (n : Int) - (D.told + (j : Int))).toNat
            omega
        · skip
          rw [if_pos (by rfl)]
          go_simp
          refine hK.out _ _ (HSC.out _ (HC1.out.below (((Below.refl _ _).drew).alloc (Nat.le_refl _) _))) (fun hHeld => ?_)
          clear hK K
          (try simp only [Act.put, List.setIfInBounds_toArray, List.set_cons_zero, List.set_cons_succ, List.getElem_toArray, List.getElem_cons_succ, List.getElem_cons_zero])
          refine wpAnyH_ready (rs := [4]) (by kernel_rfl) (by simp) ?_
          refine AllReadyH.cons rfl (fun K hK => ?_) AllReadyH.nil
          rw [if_pos (by rfl)]
          go_simp
          refine hK.out _ _ hHeld (fun hHeld => ?_)
          clear hK K
          (try simp only [Act.put, List.setIfInBounds_toArray, List.set_cons_zero, List.set_cons_succ, List.getElem_toArray, List.getElem_cons_succ, List.getElem_cons_zero])
          clear n2 n2b
          refine wpAnyH_ready (rs := [23]) (by kernel_rfl) (by simp) ?_
          refine AllReadyH.cons rfl (fun K hK => ?_) AllReadyH.nil
          rw [if_pos (by rfl)]
          refine wp_appN rowNz _ _ rfl (.slice nva (tlW D W j).news.length nvc) (tlW D W j).news.length (nzs (tlW D W j).news) rfl KA.out.news w1.heap.size 1 1 [.int .i64 (D.told + (j : Int) + 1), .int .i64 en.term, .int .i64 en.kind, .string en.text, .bool false] rfl rfl HY.out (by intro u hu; simp at hu; rcases hu with rfl | rfl | rfl | rfl | rfl <;> rfl) (by have := HLN.out; omega) ?_
          intro va' vc' W2 ho2 hg2 hn2
          have hC2 : Co W2 0 b (.slice (some ⟨g, 0, none⟩) D.log.length vc) (tlD D (j + 1)) := ⟨(hg2.block b (lt_of_block CA.out.head) (fun e => own_ne KA.out.news CA.out.head (by decide) e.symm)).trans CA.out.head, own_grown CA.out.log KA.out.news hg2 (by decide)⟩
          have hw2 : W2.heap[wb]? = some (.cells #[.bool (tlW D W j).keep, ms1, .slice nva (tlW D W j).news.length nvc] 61 (0, 0)) := (hg2.block wb (lt_of_block KA.out.head) (fun e => own_ne KA.out.news KA.out.head (by decide) e.symm)).trans KA.out.head
          have hm2 := own_grown KA.out.mails KA.out.news hg2 (by decide)
          have bt2 := Bt.grown (HBT.out.trans (Bt.of_below (R := fun _ => False) BA.out) (fun q hq => hq.elim)) hg2 (fun q hq => .inl (.inr (.inr (.inr (.inr hq)))))
          have nw2 : Nw wr (.slice nva (tlW D W j).news.length nvc) (.slice va' ((tlW D W j).news.length + 1) vc') := fun q hq => by
            rcases hn2 q hq with h1 | h1
            · exact .inl h1
            · exact .inr (Nat.le_trans HBT.out.size (Nat.le_trans BA.out.size h1))
          refine hK.out _ _ (HSC.out _ hC2) (fun hHeld => ?_)
          clear hK K
          (try simp only [Act.put, List.setIfInBounds_toArray, List.set_cons_zero, List.set_cons_succ, List.getElem_toArray, List.getElem_cons_succ, List.getElem_cons_zero])
          refine wpAnyH_take (i := 24) (v := ?fv24) rfl (by kernel_rfl) (by kernel_rfl) (by kernel_rfl) (fun _ _ _ h => h) (Or.inl ⟨by rfl, ?fy24⟩) (by assumption) ?fr24
          case fy24 => (intro w hSw; (try dsimp only at hSw); go_simp; try with_reducible rfl)
          (try simp only [Act.put, List.setIfInBounds_toArray, List.set_cons_zero, List.set_cons_succ, List.getElem_toArray, List.getElem_cons_succ, List.getElem_cons_zero])
          refine wpAnyH_take (i := 25) (v := ?fv25) rfl (by kernel_rfl) (by kernel_rfl) (by kernel_rfl) (fun _ _ _ h => h) (Or.inl ⟨by rfl, ?fy25⟩) (by assumption) ?fr25
          case fy25 => (intro w hSw; (try dsimp only at hSw); go_simp; try with_reducible rfl)
          (try simp only [Act.put, List.setIfInBounds_toArray, List.set_cons_zero, List.set_cons_succ, List.getElem_toArray, List.getElem_cons_succ, List.getElem_cons_zero])
          have c22 : W2.cell? ⟨wb, 2, none⟩ = some (.slice nva (tlW D W j).news.length nvc) := by rw [cell_of_row _ _ _ _ _ _ hw2]; rfl
          have f22 : W2.frozen? ⟨wb, 2, none⟩ = false := by simp [World.frozen?, hw2]
          refine wpAnyH_ready (rs := [26]) (by kernel_rfl) (by simp) ?_
          refine AllReadyH.cons rfl (fun K hK => ?_) AllReadyH.nil
          rw [if_pos (by rfl)]
          go_simp
          have hC3 := hC2.setH (i := 2) (v := .slice va' ((tlW D W j).news.length + 1) vc') hw2
          have hK3 : Wd (W2.setCell ⟨wb, 2, none⟩ (.slice va' ((tlW D W j).news.length + 1) vc')) wb ms1 (.slice va' ((tlW D W j).news.length + 1) vc') (tlW D W (j + 1)) := by
            have e : (tlW D W (j + 1)).news = (tlW D W j).news ++ [⟨D.told + (j : Int) + 1, en, false⟩] := by
              show W.news ++ newsN D (j + 1) = (W.news ++ newsN D j) ++ _
              rw [newsN_snoc, ← HPe.out, HG.out, List.append_assoc]
            refine ⟨heap_setCell_same _ _ _ _ _ _ hw2, own_set hm2 hw2 (by decide), ?_⟩
            rw [e, List.length_append, nzs_snoc]
            exact own_set ho2 hw2 (by decide)
          have bt3 := Bt.set (X := wb) (i := 2) (v := .slice va' ((tlW D W j).news.length + 1) vc') bt2 (.inl (.inr (.inl rfl)))
          refine hK.out _ _ (HSC.out _ hC3) (fun hHeld => ?_)
          clear hK K
          (try simp only [Act.put, List.setIfInBounds_toArray, List.set_cons_zero, List.set_cons_succ, List.getElem_toArray, List.getElem_cons_succ, List.getElem_cons_zero])
          refine wpAnyH_done (by kernel_rfl) ?_ _
          generalize W2.setCell ⟨wb, 2, none⟩ (.slice va' ((tlW D W j).news.length + 1) vc') = W3 at hC3 hK3 bt3 ⊢
          have C3 := hid hC3
          have K3 := hid hK3
          have BT3 := hid bt3
          have NW2 := hid nw2
          clear hC3 hK3 bt3 nw2 hHeld c22 f22 hw2 hm2 bt2 ho2 hg2 hn2 hC2
          go_wp2_with fail
          go_roundw
          case rel => exact ⟨j + 1, by omega, _, _, _, C3.out, K3.out, BT0.out.trans BT3.out (Blk.new N1.out N2.out N3.out), N1.out, N2.out, N3.out.trans NW2.out BT0.out.size⟩
          case measure =>
            rw [C3.out.cell 10, C10.out]
            show (D.told + (n : Int) - (D.told + ((j + 1 : Nat) : Int))).toNat < (D.told + (n : Int) - (D.told + (j : Int))).toNat
            omega
    · obtain rfl : j = n := by omega
      have hlt2 : ¬ D.told + (j : Int) < D.told + (j : Int) := by omega
      go_wp2_with fail
      first | go_end0 | refine bodyPost_ret (results_none rfl _ _ _) rfl ?_
      exact ⟨rfl, ST.out⟩
end Go.Proofs.Ytjimneaimnjanaa
