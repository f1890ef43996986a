/- What slices.SortFunc does to a row of spans of the call's own, by where they begin. No condition but that the row lies in memory. -/
import Derived.Test.YtbfmanhbbancmaaSpBase
import Derived.Test.YtbfmanhbbancmaaSpShelf
namespace Go.Proofs.Ytbfmanhbbancmaa
open Go.RowKit Go.Shelf Go.Sort

set_option maxHeartbeats 800000 in
theorem compare_any (x y : Int) (w : World) :
    Calls Try.prog 52 #[.int .i64 x, .int .i64 y] w fun e w' => e = .returned (.int .i64 (Lib.compareInt x y)) ∧ w' = w := by
  unfold Lib.compareInt
  by_cases h1 : x < y
  · rw [if_pos h1]
    go_enter Try.func52, Try.ntmps52
    go_wp2
    go_ret
    exact ⟨rfl, rfl⟩
  · rw [if_neg h1]
    by_cases h2 : y < x
    · rw [if_pos h2]
      go_enter Try.func52, Try.ntmps52
      go_wp2
      go_ret
      exact ⟨rfl, rfl⟩
    · rw [if_neg h2]
      go_enter Try.func52, Try.ntmps52
      go_wp2
      go_ret
      exact ⟨rfl, rfl⟩
set_option maxHeartbeats 800000 in
theorem rising1_any (x y : Sp) (w : World) :
    Calls Try.prog 51 #[.agg #[.int .i64 x.1, .int .i64 x.2], .agg #[.int .i64 y.1, .int .i64 y.2]] w fun e w' => e = .returned (.int .i64 (Lib.compareInt x.1 y.1)) ∧ ∃ q os', w' = grow (w.drewN q) os' := by
  obtain ⟨a, b⟩ := x
  obtain ⟨c, d⟩ := y
  have hcon := compare_any a c
  generalize Lib.compareInt a c = r at hcon ⊢
  go_enter Try.func51, Try.ntmps51
  go_wp2_with (go_at_call 52; refine (hcon _).mono ?_; rintro e w' ⟨rfl, rfl⟩)
  go_ret
  exact ⟨rfl, 0, _, by rw [alloc_eq_grow, alloc_eq_grow, grow_grow]; rfl⟩
theorem ltFrom (x y : Sp) : ltOf (fun x y : Sp => Lib.compareInt x.1 y.1) x y = decide (x.1 < y.1) := by
  unfold ltOf Lib.compareInt
  by_cases h1 : x.1 < y.1
  · simp [h1]
  · by_cases h2 : y.1 < x.1 <;> simp [h1, h2]
theorem swoFrom : SWO (ltOf fun x y : Sp => Lib.compareInt x.1 y.1) where
  irrefl x := by rw [ltFrom]; simp
  trans x y z h1 h2 := by rw [ltFrom] at *; simp at *; omega
  ntrans x y z h1 h2 := by rw [ltFrom] at *; simp at *; omega
theorem flatK_flat (l : List Sp) : flatK spc 2 l.toArray = (flat l).toArray := by
  apply Array.ext'
  apply List.ext_getElem?
  intro t
  by_cases ht : t < l.length * 2
  · have h1 : (flatK spc 2 l.toArray)[t]! = (spc l.toArray[t / 2]!)[t % 2]! := get_flatK spc 2 l.toArray t (by simpa using ht)
    have hlt : t / 2 < l.length := by omega
    have f := flat_at l (t / 2) hlt
    have h2 : t < (flatK spc 2 l.toArray).size := by simpa using ht
    rw [Array.getElem?_toList, Array.getElem?_eq_getElem h2, ← getElem!_pos _ t h2, h1]
    have h3 : l.toArray[t / 2]! = l[t / 2] := by rw [getElem!_pos _ _ (by simpa using hlt)]; simp
    rw [h3]
    show _ = (flat l)[t]?
    rcases Nat.mod_two_eq_zero_or_one t with hp | hp
    · rw [show t / 2 * 2 = t from by omega] at f
      rw [f.1, hp]; rfl
    · rw [show t / 2 * 2 + 1 = t from by omega] at f
      rw [f.2, hp]; rfl
  · rw [List.getElem?_eq_none (by simp; omega)]
    symm
    exact List.getElem?_eq_none (by show (flat l).length ≤ t; rw [flat_len]; omega)
theorem take_put (cur : Array Value) (ts : List Value) (h : ts.length ≤ cur.size) : (putCells id 0 ts.toArray cur).toList.take ts.length = ts := by
  apply List.ext_getElem?
  intro j
  by_cases hj : j < ts.length
  · rw [List.getElem?_take_of_lt hj, Array.getElem?_toList]
    simp [putCells, hj, show j < cur.size by omega]
  · rw [List.getElem?_take_eq_none (by omega), List.getElem?_eq_none (by omega)]
theorem heap_put {w : World} {g n : Nat} {os : Array Obj} {cur : Array Value} {e : TypeId} {fr : Nat × Nat} (d : Array Value) (hb : w.heap[g]? = some (.cells cur e fr)) :
    (grow (putRow id (Sort.ahead w n) g 0 d) os).heap[g]? = some (.cells (putCells id 0 d cur) e fr) := by
  have hg : g < w.heap.size := (Array.getElem?_eq_some_iff.1 hb).1
  rw [heap_grow_old _ _ (by simpa using hg)]
  simp [putRow, mapBlock, Sort.ahead, Array.getElem?_modify, hb, onCells]
theorem grownBy_put {w : World} {g n : Nat} {os : Array Obj} (d : Array Value) : w.grownBy (grow (putRow id (Sort.ahead w n) g 0 d) os) (some g) := by
  refine ⟨rfl, rfl, rfl, by simp, fun k hk hne => ?_⟩
  rw [heap_grow_old _ _ (by simpa using hk)]
  have : g ≠ k := fun e => hne (by rw [e])
  simp [putRow, mapBlock, Sort.ahead, Array.getElem?_modify, this]

/-- They rise by where they begin. -/
def Rises (l : List Sp) : Prop := l.Pairwise fun x y => x.1 ≤ y.1

theorem sort_any (base g vc : Nat) (l : List Sp) (w : World) (ho : OwnS w base (.slice (some ⟨g, 0, none⟩) l.length vc) l) (hb : base ≤ w.heap.size) (hl : l.length ≤ 1000000000) :
    Calls Try.prog 50 #[.slice (some ⟨g, 0, none⟩) l.length vc, .func (.func 51) #[] #[]] w fun e w' => e = .returned (.tuple #[]) ∧ ∃ l', l'.Perm l ∧ Rises l' ∧ OwnS w' base (.slice (some ⟨g, 0, none⟩) l.length vc) l' ∧ Below base w w' := by
  have ho' := ho
  obtain ⟨h1, h2⟩ := ho
  rcases h2 with ⟨h2, _⟩ | ⟨g', cap, cur, e, hbg, hh, hc, hm, hs, ht⟩
  · cases h2
  cases e
  have eg : ∀ args w, (callFunc 51 args).run Try.prog w = .ok (.enter 51 args) w := enters_of Try.func51 (by kernel_rfl) rfl
  have hH : HoldsK spc 2 w g 0 l.toArray := by
    unfold HoldsK
    rw [flatK_flat]
    intro j hj
    have hj' : j < (flat l).length := by simpa using hj
    refine ⟨?_, by simp [World.frozen?, hh]⟩
    have := World.ownsRow.cells ho' (g := g) rfl j (flat l)[j] (by simp [hj'])
    rw [Addr.add_lit] at this
    show w.cell? ⟨g, 0 + j, none⟩ = some ((flat l).toArray[j]!)
    rw [getElem!_pos (flat l).toArray j hj]
    simpa using this
  have hcon := AnyQ.slices_SortFunc Try.sortSp 2 Try.isAgg33 Try.sizeOf33 spc (fun _ => rfl) (fun x v hv => by simp [spc] at hv; rcases hv with rfl | rfl <;> rfl) (fun x y => Lib.compareInt x.1 y.1) swoFrom 51 #[] g 0 vc l.toArray w eg (fun _ _ _ _ x y => rising1_any x y _) hH (lt_of_block hh) (by simp; omega)
  change Calls Try.prog 50 _ _ _ at hcon
  rw [List.size_toArray] at hcon
  refine hcon.mono ?_
  rintro e w' ⟨rfl, d', n, os, hp, hso, rfl⟩
  have hsz : d'.size = l.length := by simpa using hp.1
  obtain ⟨l', rfl⟩ : ∃ l', d' = l'.toArray := ⟨d'.toList, by simp⟩
  have hsz' : l'.length = l.length := by simpa using hsz
  refine ⟨rfl, l', ?_, ?_, ?_, ?_⟩
  · have := hp.2.2
    rw [Array.extract_eq_self_of_le (by omega)] at this
    simpa [hsz'] using this
  · refine List.pairwise_iff_getElem.2 fun i j hi hj hij => ?_
    have := hso i j (Nat.zero_le _) hij (by omega)
    rw [ltFrom, getElem!_pos l'.toArray j (by simpa using hj), getElem!_pos l'.toArray i (by simpa using hi)] at this
    simpa using this
  · have e0 : sortWorldK spc 2 w g 0 n l'.toArray os = grow (putRow id (Sort.ahead w n) g 0 (flat l').toArray) os := by
      unfold sortWorldK putRowK; rw [flatK_flat]
    rw [e0]
    have hfl : (flat l').length = l.length * 2 := by rw [flat_len, hsz']
    refine ⟨by rw [flat_len], .inr ⟨g, vc, _, by rw [hsz'], hbg, heap_put _ hh, by omega, hm, by simp [putCells, hs], ?_⟩⟩
    have := take_put cur (flat l') (by rw [hfl]; have := Nat.mul_le_mul_right 2 hc; omega)
    rw [flat_len] at this; exact this
  · have e0 : sortWorldK spc 2 w g 0 n l'.toArray os = grow (putRow id (Sort.ahead w n) g 0 (flat l').toArray) os := by
      unfold sortWorldK putRowK; rw [flatK_flat]
    rw [e0]
    exact (Below.refl _ _).grown (grownBy_put _) hb fun k hk => by cases hk; exact hbg
end Go.Proofs.Ytbfmanhbbancmaa
