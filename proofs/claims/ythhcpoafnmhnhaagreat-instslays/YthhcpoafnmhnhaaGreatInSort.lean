/- What slices.SortFunc does to a row of Refs of the call's own, by graph.compare. No condition but that the row lies in memory. -/
import Derived.Test.YthhcpoafnmhnhaaGreatInRefs1
import Derived.Test.YthhcpoafnmhnhaaGreatInShelf
namespace Go.Proofs.YthhcpoafnmhnhaaGreat
open Go.RowKit Go.Shelf Go.Sort
set_option linter.unusedVariables false
set_option linter.unusedSimpArgs false

def rfc (r : Int × Int) : List Value := [.int .i64 r.1, .int .i64 r.2]
theorem ltRef (x y : Int × Int) : ltOf cmp2 x y = decide (x.1 < y.1 ∨ x.1 = y.1 ∧ x.2 < y.2) := cmp2_lt x y
theorem swoRef : SWO (ltOf cmp2) where
  irrefl x := by rw [ltRef]; simp
  trans x y z h1 h2 := by rw [ltRef] at *; simp only [decide_eq_true_eq] at *; omega
  ntrans x y z h1 h2 := by rw [ltRef] at *; simp only [decide_eq_false_iff_not] at *; omega
theorem flatK_rvs (l : List (Int × Int)) : flatK rfc 2 l.toArray = (rvs l).toArray := by
  apply Array.ext'
  apply List.ext_getElem?
  intro t
  by_cases ht : t < l.length * 2
  · have h1 : (flatK rfc 2 l.toArray)[t]! = (rfc l.toArray[t / 2]!)[t % 2]! := get_flatK rfc 2 l.toArray t (by simpa using ht)
    have hlt : t / 2 < l.length := by omega
    have f := rvs_at l (t / 2) hlt
    have h2 : t < (flatK rfc 2 l.toArray).size := by simpa using ht
    rw [Array.getElem?_toList, Array.getElem?_eq_getElem h2, ← getElem!_pos _ t h2, h1]
    have h3 : l.toArray[t / 2]! = l[t / 2] := by rw [getElem!_pos _ _ (by simpa using hlt)]; simp
    rw [h3]
    show _ = (rvs l)[t]?
    rcases Nat.mod_two_eq_zero_or_one t with hp | hp
    · rw [show t / 2 * 2 = t from by omega] at f
      rw [f.1, hp]; rfl
    · rw [show t / 2 * 2 + 1 = t from by omega] at f
      rw [f.2, hp]; rfl
  · rw [List.getElem?_eq_none (by simp; omega)]
    symm
    exact List.getElem?_eq_none (by show (rvs l).length ≤ t; rw [rvs_len]; omega)
theorem take_put (cur : Array Value) (ts : List Value) (h : ts.length ≤ cur.size) : (putCells id 0 ts.toArray cur).toList.take ts.length = ts := by
  apply List.ext_getElem?
  intro j
  by_cases hj : j < ts.length
  · rw [List.getElem?_take_of_lt hj, Array.getElem?_toList]
    simp [putCells, hj, show j < cur.size by omega]
  · rw [List.getElem?_take_eq_none (by omega), List.getElem?_eq_none (by omega)]
theorem heap_put {w : World} {g n : Nat} {os : Array Obj} {cur : Array Value} {e : TypeId} {fr : Nat × Nat} (d : Array Value) (hb : w.heap[g]? = some (.cells cur e fr)) :
    (grow (putRow id (Sort.ahead w n) g 0 d) os).heap[g]? = some (.cells (putCells id 0 d cur) e fr) := by
  have hg : g < w.heap.size := (Array.getElem?_eq_some_iff.1 hb).1
  rw [heap_grow_old _ _ (by simpa using hg)]
  simp [putRow, mapBlock, Sort.ahead, Array.getElem?_modify, hb, onCells]
theorem grownBy_put {w : World} {g n : Nat} {os : Array Obj} (d : Array Value) : w.grownBy (grow (putRow id (Sort.ahead w n) g 0 d) os) (some g) := by
  refine ⟨rfl, rfl, rfl, by simp, fun k hk hne => ?_⟩
  rw [heap_grow_old _ _ (by simpa using hk)]
  have : g ≠ k := fun e => hne (by rw [e])
  simp [putRow, mapBlock, Sort.ahead, Array.getElem?_modify, this]
theorem sortR_any (base g vc : Nat) (l : List (Int × Int)) (w : World) (ho : w.ownsRow base 23 2 (.slice (some ⟨g, 0, none⟩) l.length vc) l.length (rvs l)) (hb : base ≤ w.heap.size) (hl : l.length ≤ 1000000000) :
    Calls Tryz.prog 63 #[.slice (some ⟨g, 0, none⟩) l.length vc, .func (.func 64) #[] #[]] w fun e w' => e = .returned (.tuple #[]) ∧ ∃ l', l'.Perm l ∧ (l'.Pairwise fun x y => refLt y x = false) ∧ w'.ownsRow base 23 2 (.slice (some ⟨g, 0, none⟩) l.length vc) l.length (rvs l') ∧ Below base w w' := by
  have ho' := ho
  obtain ⟨h1, h2⟩ := ho
  rcases h2 with ⟨h2, _⟩ | ⟨g', cap, cur, e, hbg, hh, hc, hm, hs, ht⟩
  · cases h2
  cases e
  have eg : ∀ args w, (callFunc 64 args).run Tryz.prog w = .ok (.enter 64 args) w := enters_of Tryz.func64 (by kernel_rfl) rfl
  have hH : HoldsK rfc 2 w g 0 l.toArray := by
    unfold HoldsK
    rw [flatK_rvs]
    intro j hj
    have hj' : j < (rvs l).length := by simpa using hj
    refine ⟨?_, by simp [World.frozen?, hh]⟩
    have := World.ownsRow.cells ho' (g := g) rfl j (rvs l)[j] (by simp [hj'])
    rw [Addr.add_lit] at this
    show w.cell? ⟨g, 0 + j, none⟩ = some ((rvs l).toArray[j]!)
    rw [getElem!_pos (rvs l).toArray j hj]
    simpa using this
  have hcon := AnyQ.slices_SortFunc Tryz.sortRf 2 Tryz.isAgg23 Tryz.sizeOf23 rfc (fun _ => rfl) (fun x v hv => by simp [rfc] at hv; rcases hv with rfl | rfl <;> rfl) cmp2 swoRef 64 #[] g 0 vc l.toArray w eg (fun _ _ _ _ x y => gcompare_grow x y _) hH (lt_of_block hh) (by simp; omega)
  change Calls Tryz.prog 63 _ _ _ at hcon
  rw [List.size_toArray] at hcon
  refine hcon.mono ?_
  rintro e w' ⟨rfl, d', n, os, hp, hso, rfl⟩
  have hsz : d'.size = l.length := by simpa using hp.1
  obtain ⟨l', rfl⟩ : ∃ l', d' = l'.toArray := ⟨d'.toList, by simp⟩
  have hsz' : l'.length = l.length := by simpa using hsz
  have e0 : sortWorldK rfc 2 w g 0 n l'.toArray os = grow (putRow id (Sort.ahead w n) g 0 (rvs l').toArray) os := by
    unfold sortWorldK putRowK; rw [flatK_rvs]
  refine ⟨rfl, l', ?_, ?_, ?_, ?_⟩
  · have := hp.2.2
    rw [Array.extract_eq_self_of_le (by omega)] at this
    simpa [hsz'] using this
  · refine List.pairwise_iff_getElem.2 fun i j hi hj hij => ?_
    have := hso i j (Nat.zero_le _) hij (by omega)
    rw [getElem!_pos l'.toArray j (by simpa using hj), getElem!_pos l'.toArray i (by simpa using hi)] at this
    exact (by simpa using this : ltOf cmp2 l'[j] l'[i] = false)
  · rw [e0]
    have hfl : (rvs l').length = l.length * 2 := by rw [rvs_len, hsz']
    refine ⟨by rw [rvs_len, hsz'], .inr ⟨g, vc, _, rfl, hbg, heap_put _ hh, hc, hm, by simp [putCells, hs], ?_⟩⟩
    have := take_put cur (rvs l') (by rw [hfl]; have := Nat.mul_le_mul_right 2 hc; omega)
    rw [hfl] at this; exact this
  · rw [e0]
    exact (Below.refl _ _).grown (grownBy_put _) hb fun k hk => by cases hk; exact hbg
end Go.Proofs.YthhcpoafnmhnhaaGreat
