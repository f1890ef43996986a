/- SpSort SpRise SpNorm SpSets SpRefs SpLives SpIns SpEnds SpBuildS SpBuild SpOfP SpLawP SpMeetP SpNormsP: joined. No condition. -/
import Derived.Test.YtmocedkbabnpfaaGreatSpBase
import Derived.Test.YtmocedkbabnpfaaGreatSpShelf
import Derived.Lib.SliceRun
import Derived.Shelf.SlSortCmp.NoneTotal
import Derived.RangeFuncNested
import Derived.RangeFuncBound
import Derived.RangeFuncCalls
import Derived.RangeFuncLeaves
import Derived.Shelf.Abstract
import Derived.Shelf.RegionOpen
import Derived.OwnWalkIn
import Derived.TacticsInMore
import Derived.LoopNIn
import Derived.LoopIn
import Derived.Maps.AppendAt
import Derived.Deep.RegionWith
import Derived.Deep.QuietTactic
import Derived.BigQuiet
import Derived.Test.YtmocedkbabnpfaaGreatSpPut
import Derived.Test.YtmocedkbabnpfaaGreatSpLay
import Derived.Deep.RegionHeld3
namespace Go.Proofs.YtmocedkbabnpfaaGreat
open Go.RowKit Go.Shelf Go.Sort

set_option maxHeartbeats 800000 in
theorem compare_any (x y : Int) (w : World) :
    Calls Tryz.prog 114 #[.int .i64 x, .int .i64 y] w fun e w' => e = .returned (.int .i64 (Lib.compareInt x y)) ∧ w' = w := by
  unfold Lib.compareInt
  by_cases h1 : x < y
  · rw [if_pos h1]
    go_enter Tryz.func114, Tryz.ntmps114
    go_wp2
    go_ret
    exact ⟨rfl, rfl⟩
  · rw [if_neg h1]
    by_cases h2 : y < x
    · rw [if_pos h2]
      go_enter Tryz.func114, Tryz.ntmps114
      go_wp2
      go_ret
      exact ⟨rfl, rfl⟩
    · rw [if_neg h2]
      go_enter Tryz.func114, Tryz.ntmps114
      go_wp2
      go_ret
      exact ⟨rfl, rfl⟩
set_option maxHeartbeats 800000 in
theorem rising1_any (x y : Sp) (w : World) :
    Calls Tryz.prog 113 #[.agg #[.int .i64 x.1, .int .i64 x.2], .agg #[.int .i64 y.1, .int .i64 y.2]] w fun e w' => e = .returned (.int .i64 (Lib.compareInt x.1 y.1)) ∧ ∃ q os', w' = grow (w.drewN q) os' := by
  obtain ⟨a, b⟩ := x
  obtain ⟨c, d⟩ := y
  have hcon := compare_any a c
  generalize Lib.compareInt a c = r at hcon ⊢
  go_enter Tryz.func113, Tryz.ntmps113
  go_wp2_with (go_at_call 114; refine (hcon _).mono ?_; rintro e w' ⟨rfl, rfl⟩)
  go_ret
  exact ⟨rfl, 0, _, by rw [alloc_eq_grow, alloc_eq_grow, grow_grow]; rfl⟩
theorem ltFrom (x y : Sp) : ltOf (fun x y : Sp => Lib.compareInt x.1 y.1) x y = decide (x.1 < y.1) := by
  unfold ltOf Lib.compareInt
  by_cases h1 : x.1 < y.1
  · simp [h1]
  · by_cases h2 : y.1 < x.1 <;> simp [h1, h2]
theorem swoFrom : SWO (ltOf fun x y : Sp => Lib.compareInt x.1 y.1) where
  irrefl x := by rw [ltFrom]; simp
  trans x y z h1 h2 := by rw [ltFrom] at *; simp at *; omega
  ntrans x y z h1 h2 := by rw [ltFrom] at *; simp at *; omega
theorem flatK_flat (l : List Sp) : flatK spc 2 l.toArray = (flat l).toArray := by
  apply Array.ext'
  apply List.ext_getElem?
  intro t
  by_cases ht : t < l.length * 2
  · have h1 : (flatK spc 2 l.toArray)[t]! = (spc l.toArray[t / 2]!)[t % 2]! := get_flatK spc 2 l.toArray t (by simpa using ht)
    have hlt : t / 2 < l.length := by omega
    have f := flat_at l (t / 2) hlt
    have h2 : t < (flatK spc 2 l.toArray).size := by simpa using ht
    rw [Array.getElem?_toList, Array.getElem?_eq_getElem h2, ← getElem!_pos _ t h2, h1]
    have h3 : l.toArray[t / 2]! = l[t / 2] := by rw [getElem!_pos _ _ (by simpa using hlt)]; simp
    rw [h3]
    show _ = (flat l)[t]?
    rcases Nat.mod_two_eq_zero_or_one t with hp | hp
    · rw [show t / 2 * 2 = t from by omega] at f
      rw [f.1, hp]; rfl
    · rw [show t / 2 * 2 + 1 = t from by omega] at f
      rw [f.2, hp]; rfl
  · rw [List.getElem?_eq_none (by simp; omega)]
    symm
    exact List.getElem?_eq_none (by show (flat l).length ≤ t; rw [flat_len]; omega)
theorem take_put (cur : Array Value) (ts : List Value) (h : ts.length ≤ cur.size) : (putCells id 0 ts.toArray cur).toList.take ts.length = ts := by
  apply List.ext_getElem?
  intro j
  by_cases hj : j < ts.length
  · rw [List.getElem?_take_of_lt hj, Array.getElem?_toList]
    simp [putCells, hj, show j < cur.size by omega]
  · rw [List.getElem?_take_eq_none (by omega), List.getElem?_eq_none (by omega)]
theorem heap_put {w : World} {g n : Nat} {os : Array Obj} {cur : Array Value} {e : TypeId} {fr : Nat × Nat} (d : Array Value) (hb : w.heap[g]? = some (.cells cur e fr)) :
    (grow (putRow id (Sort.ahead w n) g 0 d) os).heap[g]? = some (.cells (putCells id 0 d cur) e fr) := by
  have hg : g < w.heap.size := (Array.getElem?_eq_some_iff.1 hb).1
  rw [heap_grow_old _ _ (by simpa using hg)]
  simp [putRow, mapBlock, Sort.ahead, Array.getElem?_modify, hb, onCells]
theorem grownBy_put {w : World} {g n : Nat} {os : Array Obj} (d : Array Value) : w.grownBy (grow (putRow id (Sort.ahead w n) g 0 d) os) (some g) := by
  refine ⟨rfl, rfl, rfl, by simp, fun k hk hne => ?_⟩
  rw [heap_grow_old _ _ (by simpa using hk)]
  have : g ≠ k := fun e => hne (by rw [e])
  simp [putRow, mapBlock, Sort.ahead, Array.getElem?_modify, this]

/-- They rise by where they begin. -/
def Rises (l : List Sp) : Prop := l.Pairwise fun x y => x.1 ≤ y.1

theorem sort_any (base g vc : Nat) (l : List Sp) (w : World) (ho : OwnS w base (.slice (some ⟨g, 0, none⟩) l.length vc) l) (hb : base ≤ w.heap.size) (hl : l.length ≤ 1000000000) :
    Calls Tryz.prog 112 #[.slice (some ⟨g, 0, none⟩) l.length vc, .func (.func 113) #[] #[]] w fun e w' => e = .returned (.tuple #[]) ∧ ∃ l', l'.Perm l ∧ Rises l' ∧ OwnS w' base (.slice (some ⟨g, 0, none⟩) l.length vc) l' ∧ Below base w w' := by
  have ho' := ho
  obtain ⟨h1, h2⟩ := ho
  rcases h2 with ⟨h2, _⟩ | ⟨g', cap, cur, e, hbg, hh, hc, hm, hs, ht⟩
  · cases h2
  cases e
  have eg : ∀ args w, (callFunc 113 args).run Tryz.prog w = .ok (.enter 113 args) w := enters_of Tryz.func113 (by kernel_rfl) rfl
  have hH : HoldsK spc 2 w g 0 l.toArray := by
    unfold HoldsK
    rw [flatK_flat]
    intro j hj
    have hj' : j < (flat l).length := by simpa using hj
    refine ⟨?_, by simp [World.frozen?, hh]⟩
    have := World.ownsRow.cells ho' (g := g) rfl j (flat l)[j] (by simp [hj'])
    rw [Addr.add_lit] at this
    show w.cell? ⟨g, 0 + j, none⟩ = some ((flat l).toArray[j]!)
    rw [getElem!_pos (flat l).toArray j hj]
    simpa using this
  have hcon := AnyQ.slices_SortFunc Tryz.sortSp 2 Tryz.isAgg24 Tryz.sizeOf24 spc (fun _ => rfl) (fun x v hv => by simp [spc] at hv; rcases hv with rfl | rfl <;> rfl) (fun x y => Lib.compareInt x.1 y.1) swoFrom 113 #[] g 0 vc l.toArray w eg (fun _ _ _ _ x y => rising1_any x y _) hH (lt_of_block hh) (by simp; omega)
  change Calls Tryz.prog 112 _ _ _ at hcon
  rw [List.size_toArray] at hcon
  refine hcon.mono ?_
  rintro e w' ⟨rfl, d', n, os, hp, hso, rfl⟩
  have hsz : d'.size = l.length := by simpa using hp.1
  obtain ⟨l', rfl⟩ : ∃ l', d' = l'.toArray := ⟨d'.toList, by simp⟩
  have hsz' : l'.length = l.length := by simpa using hsz
  refine ⟨rfl, l', ?_, ?_, ?_, ?_⟩
  · have := hp.2.2
    rw [Array.extract_eq_self_of_le (by omega)] at this
    simpa [hsz'] using this
  · refine List.pairwise_iff_getElem.2 fun i j hi hj hij => ?_
    have := hso i j (Nat.zero_le _) hij (by omega)
    rw [ltFrom, getElem!_pos l'.toArray j (by simpa using hj), getElem!_pos l'.toArray i (by simpa using hi)] at this
    simpa using this
  · have e0 : sortWorldK spc 2 w g 0 n l'.toArray os = grow (putRow id (Sort.ahead w n) g 0 (flat l').toArray) os := by
      unfold sortWorldK putRowK; rw [flatK_flat]
    rw [e0]
    have hfl : (flat l').length = l.length * 2 := by rw [flat_len, hsz']
    refine ⟨by rw [flat_len], .inr ⟨g, vc, _, by rw [hsz'], hbg, heap_put _ hh, by omega, hm, by simp [putCells, hs], ?_⟩⟩
    have := take_put cur (flat l') (by rw [hfl]; have := Nat.mul_le_mul_right 2 hc; omega)
    rw [flat_len] at this; exact this
  · have e0 : sortWorldK spc 2 w g 0 n l'.toArray os = grow (putRow id (Sort.ahead w n) g 0 (flat l').toArray) os := by
      unfold sortWorldK putRowK; rw [flatK_flat]
    rw [e0]
    exact (Below.refl _ _).grown (grownBy_put _) hb fun k hk => by cases hk; exact hbg
end Go.Proofs.YtmocedkbabnpfaaGreat
namespace Go.Proofs.YtmocedkbabnpfaaGreat
open Go.RowKit

/-- '[]api.Span{}' is a row of the call's own. -/
theorem OwnS.empty (w : World) : OwnS (w.alloc (.cells #[] 24)) w.heap.size (.slice (some ⟨w.heap.size, 0, none⟩) 0 0) [] :=
  ⟨rfl, .inr ⟨w.heap.size, 0, #[], rfl, Nat.le_refl _, heap_alloc_new _ _, Nat.le_refl _, Nat.zero_le _, rfl, rfl⟩⟩

set_option maxHeartbeats 800000 in
theorem clone_any (v : Value) (l : List Sp) (w : World) (hv : Sps w v l) (hl : l.length ≤ 1000000000) :
    Calls Tryz.prog 111 #[v] w fun e w' => ∃ va vc, e = .returned (.slice va l.length vc) ∧ OwnS w' w.heap.size (.slice va l.length vc) l ∧ Below w.heap.size w w' := by
  have HV := hid hv
  obtain ⟨ao, n, cap, rfl, rfl, hc, hcap, hnone, hcell⟩ := hv
  clear hcell
  cases ao with
  | none =>
    have h0 : l = [] := List.eq_nil_of_length_eq_zero (by have := hnone rfl; omega)
    subst h0
    clear hnone
    have hnil := Lib.run_eql_slice_nil (P := Tryz.prog) w 29 24 none 0 cap 0 0 Tryz.underlyingSs
    go_enter Tryz.func111, Tryz.ntmps111
    go_wp2
    go_ret
    exact ⟨none, 0, rfl, OwnS.nil _ _, Below.refl _ _⟩
  | some a =>
    clear hnone
    have HO := hid (OwnS.empty w)
    have hba : Below w.heap.size w (w.alloc (.cells #[] 24)) := (Below.refl _ _).alloc (Nat.le_refl _) _
    have HA1 := hid (HV.out.below hba)
    have hnil := Lib.run_eql_slice_nil (P := Tryz.prog) w 29 24 (some a) l.length cap 0 0 Tryz.underlyingSs
    go_enter Tryz.func111, Tryz.ntmps111
    go_wp2_with (at_builtin; refine wpl_appendS rfl _ _ rfl w.heap.size (.slice (some ⟨w.heap.size, 0, none⟩) 0 0) [] rfl HO.out _ l rfl HA1.out (by simp; omega) (by simp) ?_; intro va1 vc1 w2 ho1 hg1; simp only [List.length_nil, Nat.zero_add, List.nil_append] at ho1; have HB2 := hid (hba.trans (belowS_grown HO.out hg1 (by simp))); have HO1 := hid ho1; clear ho1 hg1)
    go_ret
    exact ⟨va1, vc1, by simp, HO1.out, HB2.out⟩

theorem flat_set2 (l : List Sp) (j : Nat) (h : j < l.length) (x : Sp) : ((flat l).set (j * 2) (.int .i64 x.1)).set (j * 2 + 1) (.int .i64 x.2) = flat (l.set j x) := by
  induction l generalizing j with
  | nil => cases h
  | cons y l ih =>
    cases j with
    | zero => rfl
    | succ j =>
      have := ih j (by simpa using h)
      rw [flat_cons, show (j + 1) * 2 + 1 = j * 2 + 1 + 1 + 1 from by omega, show (j + 1) * 2 = j * 2 + 1 + 1 from by omega]
      simp only [List.set_cons_succ, this]
      rfl
/-- Behind a store of a whole span into a row of the call's own. -/
theorem OwnS.set2 {w : World} {base g vc n : Nat} {l : List Sp} (h : OwnS w base (.slice (some ⟨g, 0, none⟩) n vc) l) (j : Nat) (hj : j < l.length) (x : Sp) :
    OwnS ((w.setCell ⟨g, j * 2, none⟩ (.int .i64 x.1)).setCell ⟨g, j * 2 + 1, none⟩ (.int .i64 x.2)) base (.slice (some ⟨g, 0, none⟩) n vc) (l.set j x) := by
  have hn : n = l.length := by obtain ⟨_, _, e⟩ := h.shape; cases e; rfl
  subst hn
  have h1 : w.ownsRow base 24 2 (.slice (some ⟨g, 0, none⟩) l.length vc) l.length (flat l) := h
  have h2 := (h1.stored (j * 2) (.int .i64 x.1)).1
  have h3 := (h2.stored (j * 2 + 1) (.int .i64 x.2)).1
  rw [flat_set2 l j hj x] at h3
  unfold OwnS
  rw [List.length_set]; exact h3
theorem OwnS.cells_at {w : World} {base g vc n : Nat} {l : List Sp} (h : OwnS w base (.slice (some ⟨g, 0, none⟩) n vc) l) (j : Nat) (hj : j < l.length) :
    w.cell? ⟨g, j * 2, none⟩ = some (.int .i64 l[j].1) ∧ w.cell? ⟨g, j * 2 + 1, none⟩ = some (.int .i64 l[j].2) ∧ w.frozen? ⟨g, j * 2, none⟩ = false ∧ w.frozen? ⟨g, j * 2 + 1, none⟩ = false ∧ base ≤ g := by
  have hn : n = l.length := by obtain ⟨_, _, e⟩ := h.shape; cases e; rfl
  subst hn
  have h1 : w.ownsRow base 24 2 (.slice (some ⟨g, 0, none⟩) l.length vc) l.length (flat l) := h
  have e := flat_at l j hj
  have e1 := h1.cells (g := g) rfl _ _ e.1
  have e2 := h1.cells (g := g) rfl _ _ e.2
  rw [Addr.add_lit, Nat.zero_add] at e1 e2
  exact ⟨e1, e2, h1.frozenAt _, h1.frozenAt _, (World.ownsRow.lt h g rfl).1⟩

/-- The place of the first empty one. -/
def firstE (l : List Sp) : Nat := (l.takeWhile fun x => !decide (x.2 ≤ x.1)).length
theorem firstE_le (l : List Sp) : firstE l ≤ l.length := by
  have := List.Sublist.length_le (List.takeWhile_sublist (l := l) fun x => !decide (x.2 ≤ x.1))
  exact this
theorem firstE_spec (l : List Sp) : (∀ x ∈ l.take (firstE l), (!decide (x.2 ≤ x.1)) = true) ∧ ∀ h : firstE l < l.length, l[firstE l].2 ≤ l[firstE l].1 := by
  induction l with
  | nil => exact ⟨fun x hx => by simp at hx, fun h => by cases h⟩
  | cons y l ih =>
    by_cases hy : y.2 ≤ y.1
    · have e : firstE (y :: l) = 0 := by simp [firstE, hy]
      rw [e]
      exact ⟨fun x hx => by simp at hx, fun _ => hy⟩
    · have e : firstE (y :: l) = firstE l + 1 := by simp [firstE, hy]
      rw [e]
      refine ⟨fun x hx => ?_, fun h => ih.2 (by simpa using h)⟩
      rw [List.take_succ_cons, List.mem_cons] at hx
      rcases hx with rfl | hx
      · simp [hy]
      · exact ih.1 x hx
theorem firstE_at (l : List Sp) (k : Nat) (hk : k < l.length) (hn : ∀ j (h : j < l.length), j < k → ¬ l[j].2 ≤ l[j].1) (he : l[k].2 ≤ l[k].1) : firstE l = k := by
  induction l generalizing k with
  | nil => cases hk
  | cons x l ih =>
    unfold firstE
    cases k with
    | zero => simp at he; simp [he]
    | succ k =>
      have h0 := hn 0 (by simp) (by omega)
      simp at h0
      have := ih k (by simpa using hk) (fun j h hj => by have := hn (j + 1) (by simpa using h) (by omega); simpa using this) (by simpa using he)
      unfold firstE at this
      simp [h0, this]
theorem firstE_none (l : List Sp) (hn : ∀ j (h : j < l.length), ¬ l[j].2 ≤ l[j].1) : firstE l = l.length := by
  induction l with
  | nil => rfl
  | cons x l ih =>
    have h0 := hn 0 (by simp)
    simp at h0
    have := ih fun j h => by have := hn (j + 1) (by simpa using h); simpa using this
    unfold firstE at this ⊢
    simp [h0, this]

theorem Sps.at {w : World} {a : Addr} {cap : Nat} {l : List Sp} (h : Sps w (.slice (some a) l.length cap) l) (j : Nat) (hj : j < l.length) : w.cell? (a.add (j * 2)) = some (.int .i64 l[j].1) ∧ w.cell? (a.add (j * 2 + 1)) = some (.int .i64 l[j].2) := by
  obtain ⟨ao, n, cap', e, h1, h2, h3, h4, h5⟩ := h
  cases e
  exact h5 a rfl j hj
theorem Sps.at_lit {w : World} {b o cap : Nat} {l : List Sp} (h : Sps w (.slice (some ⟨b, o, none⟩) l.length cap) l) (j : Nat) (hj : j < l.length) : w.cell? ⟨b, o + j * 2, none⟩ = some (.int .i64 l[j].1) ∧ w.cell? ⟨b, o + j * 2 + 1, none⟩ = some (.int .i64 l[j].2) := by
  have := h.at j hj
  rw [Addr.add_lit, Addr.add_lit, ← Nat.add_assoc] at this
  exact this
theorem Sps.some_addr {w : World} {ao : Option Addr} {cap : Nat} {l : List Sp} (h : Sps w (.slice ao l.length cap) l) (hl : 0 < l.length) : ∃ b o, ao = some ⟨b, o, none⟩ := by
  cases ao with
  | none =>
    obtain ⟨_, _, _, e, h1, h2, h3, h4, -⟩ := h
    cases e
    have := h4 rfl; omega
  | some a =>
    have h0 := (h.at 0 hl).1
    have := World.cell?_spot h0
    obtain ⟨b, o, sp⟩ := a
    simp [Addr.add] at this
    subst this
    exact ⟨b, o, rfl⟩

set_option maxHeartbeats 1600000 in
theorem index_any (v : Value) (l : List Sp) (w : World) (hv : Sps w v l) (hl : l.length ≤ 1000000000) :
    Calls Tryz.prog 131 #[v, .func (.func 75) #[] #[]] w fun e w' => e = .returned (.int .i64 (if firstE l < l.length then (firstE l : Int) else -1)) ∧ Below w.heap.size w w' := by
  have HV := hid hv
  obtain ⟨ao, cap, rfl⟩ := hv.shape
  clear hv
  have hlI : (l.length : Int) ≤ 1000000000 := by omega
  obtain ⟨r, hr⟩ : ∃ r : Int, r = if firstE l < l.length then (firstE l : Int) else -1 := ⟨_, rfl⟩
  rw [← hr]
  have HR := hid hr
  clear hr
  go_enter Tryz.func131, Tryz.ntmps131
  go_wp2_with fail
  go_loopw [8] (fun iv wr => ∃ k : Nat, iv = .int .i64 k ∧ k ≤ l.length ∧ (∀ j (h : j < l.length), j < k → ¬ l[j].2 ≤ l[j].1) ∧ Below w.heap.size w wr) (fun iv _ => l.length - (intOf iv).toNat)
  case atStart => exact ⟨0, rfl, Nat.zero_le _, fun j h hj => by omega, Below.refl _ _⟩
  case round =>
    obtain ⟨k, rfl, hk, hall, hbr⟩ := hrel
    have HALL := hid hall
    have HBR := hid hbr
    have HVR := hid (HV.out.below hbr)
    clear hall hbr
    by_cases hlt : k < l.length
    · obtain ⟨b, o, rfl⟩ := HVR.out.some_addr (by omega)
      obtain ⟨hc0, hc1⟩ := HVR.out.at_lit k hlt
      obtain ⟨x, hx⟩ : ∃ x, x = l[k] := ⟨_, rfl⟩
      rw [← hx] at hc0 hc1
      have HX := hid hx
      clear hx
      obtain ⟨p, q⟩ := x
      have HE := hid (empty_any (p, q) wr)
      by_cases he : q ≤ p
      · go_wp2_with (go_at_call 75; refine HE.out.mono ?_; rintro e w' ⟨rfl, rfl⟩)
        go_ret
        have hf := firstE_at l k hlt (fun j h hj => by have := HALL.out j h hj; omega) (by rw [← HX.out]; exact he)
        refine ⟨?_, HBR.out.alloc HBR.out.size _⟩
        have hi : r = (k : Int) := by rw [HR.out, hf, if_pos hlt]
        rw [hi]; rfl
      · go_wp2_with (go_at_call 75; refine HE.out.mono ?_; rintro e w' ⟨rfl, rfl⟩)
        go_roundw
        case rel =>
          refine ⟨k + 1, by go_num, by omega, fun j h hj => ?_, HBR.out.alloc HBR.out.size _⟩
          by_cases hj' : j < k
          · have := HALL.out j h hj'; omega
          · obtain rfl : j = k := by omega
            rw [← HX.out]; show ¬ q ≤ p; omega
        case measure => simp [intOf]; omega
    · obtain rfl : k = l.length := by omega
      go_wp2
      go_ret
      refine ⟨?_, HBR.out⟩
      have hf := firstE_none l fun j h => by have := HALL.out j h h; omega
      have hi : r = -1 := by rw [HR.out, hf, if_neg (by omega)]
      rw [hi]; rfl
theorem owns_setCells {base : Nat} {e : TypeId} {size g n cap : Nat} : ∀ (vs : List Value) (o : Nat) (w : World) (xs : List Value), w.ownsRow base e size (.slice (some ⟨g, 0, none⟩) n cap) n xs →
    ∃ xs', (w.setCells g o vs).ownsRow base e size (.slice (some ⟨g, 0, none⟩) n cap) n xs' ∧ xs'.take o = xs.take o ∧ Below base w (w.setCells g o vs)
  | [], _, w, xs, h => ⟨xs, h, rfl, Below.refl _ _⟩
  | v :: r, o, w, xs, h => by
    have h1 := (h.stored o v).1
    obtain ⟨xs', h2, h3, h4⟩ := owns_setCells r (o + 1) _ _ h1
    refine ⟨xs', h2, ?_, ((Below.refl base w).setCell (p := ⟨g, o, none⟩) (World.ownsRow.lt h g rfl).1 v).trans h4⟩
    have := congrArg (List.take o) h3
    rw [List.take_take, List.take_take, Nat.min_eq_left (by omega), List.take_set_of_le (Nat.le_refl _)] at this
    exact this
theorem flat_take (l : List Sp) (i : Nat) : (flat l).take (i * 2) = flat (l.take i) := by
  induction l generalizing i with
  | nil => simp [flat_nil]
  | cons x l ih =>
    cases i with
    | zero => simp [flat_nil]
    | succ i => rw [List.take_succ_cons, flat_cons, flat_cons, show (i + 1) * 2 = i * 2 + 1 + 1 from by omega, List.take_succ_cons, List.take_succ_cons, ih]
/-- A beginning of a row of the call's own. -/
theorem own_prefix {w : World} {base g n cap i : Nat} {xs : List Value} {c : List Sp} (h : w.ownsRow base 24 2 (.slice (some ⟨g, 0, none⟩) n cap) n xs) (hx : xs.take (i * 2) = flat c) (hi : i ≤ n) (hc : c.length = i) : OwnS w base (.slice (some ⟨g, 0, none⟩) i cap) c := by
  subst hc
  obtain ⟨h1, h2⟩ := h
  rcases h2 with ⟨h2, _⟩ | ⟨g', cap', cur, e, hbg, hh, hc, hm, hs, ht⟩
  · cases h2
  cases e
  refine ⟨flat_len c, .inr ⟨g, cap, cur, rfl, hbg, hh, by omega, hm, hs, ?_⟩⟩
  have := congrArg (List.take (c.length * 2)) ht
  rw [List.take_take, Nat.min_eq_left (Nat.mul_le_mul_right 2 hi), hx] at this
  exact this
theorem zeroS_len (n : Nat) : (Builtin.zeroCells #[Value.int .i64 0, .int .i64 0] n).toList.length = n * 2 := by simp [Builtin.zeroCells]
theorem zeroS_one (n : Nat) : ∀ v ∈ (Builtin.zeroCells #[Value.int .i64 0, .int .i64 0] n).toList, v.oneCell' = true := by
  intro v hv
  simp [Builtin.zeroCells] at hv
  obtain ⟨a, -, rfl⟩ := hv
  rcases Nat.mod_two_eq_zero_or_one a with h | h <;> rw [h] <;> rfl
theorem run_clearS (w : World) (g o n c : Nat) (hn : 0 < n) (hc : ∀ j, j < n * 2 → (w.cell? ⟨g, o + j, none⟩).isSome = true) (hf : ∀ j, j < n * 2 → w.frozen? ⟨g, o + j, none⟩ = false) (ty : TypeId) :
    (Builtin.clear_ #[29] ty #[.slice (some ⟨g, o, none⟩) n c]).run Tryz.prog w = .ok (.tuple #[]) (w.setCells g o (Builtin.zeroCells #[Value.int .i64 0, .int .i64 0] n).toList) := by
  have hst := run_storeCells_cells (P := Tryz.prog) g o (Builtin.zeroCells #[Value.int .i64 0, .int .i64 0] n).toList 0 w (by rw [zeroS_len]; simpa using hc) (by rw [zeroS_len]; simpa using hf) (zeroS_one n)
  simp only [Nat.add_zero] at hst
  obtain ⟨m, rfl⟩ : ∃ m, n = m + 1 := ⟨n - 1, by omega⟩
  have hz := Tryz.zeroValue24 w
  simp [Builtin.clear_, run_underlying Tryz.underlyingSs, hz, hst, Value.cells]

set_option maxHeartbeats 1600000 in
theorem delete_any (base : Nat) (va : Option Addr) (vc : Nat) (l : List Sp) (w : World) (ho : OwnS w base (.slice va l.length vc) l) (hb : base ≤ w.heap.size) (hl : l.length ≤ 1000000000) :
    Calls Tryz.prog 110 #[.slice va l.length vc, .func (.func 75) #[] #[]] w fun e w' => ∃ m, m = (l.filter fun x => !decide (x.2 ≤ x.1)).length ∧ e = .returned (.slice va m vc) ∧ OwnS w' base (.slice va m vc) (l.filter fun x => !decide (x.2 ≤ x.1)) ∧ Below base w w' := by
  have HO := hid ho
  have HI := hid (index_any _ l w ho.sps hl)
  clear ho
  have hlI : (l.length : Int) ≤ 1000000000 := by omega
  by_cases hf : firstE l < l.length
  · rw [if_pos hf] at HI
    obtain ⟨g, rfl⟩ : ∃ g, va = some ⟨g, 0, none⟩ := by
      obtain ⟨h1, h2⟩ := HO.out
      rcases h2 with ⟨_, h0⟩ | ⟨g, cap, cur, e, -⟩
      · omega
      · cases e; exact ⟨g, rfl⟩
    obtain ⟨k, hk⟩ : ∃ k, k = firstE l := ⟨_, rfl⟩
    rw [← hk] at HI hf
    have HK := hid hk
    clear hk
    have hk0 : ((k : Int) == -1) = false := by simp
    go_enter Tryz.func110, Tryz.ntmps110
    go_wp2_with (go_at_call 131; refine HI.out.mono ?_; rintro e w' ⟨rfl, hb1⟩; have HB1 := hid hb1; clear hb1)
    have HO1 := hid (HO.out.below HB1.out)
    have HB1' := hid (HB1.out.mono hb)
    go_loopw [5, 6] (fun iv jv wr => ∃ (i j : Nat) (c : List Sp), iv = .int .i64 i ∧ jv = .int .i64 j ∧ i < j ∧ j ≤ l.length ∧ c.length = l.length ∧ OwnS wr base (.slice (some ⟨g, 0, none⟩) l.length vc) c ∧ c.take i = (l.take j).filter (fun x => !decide (x.2 ≤ x.1)) ∧ c.drop j = l.drop j ∧ Below base w wr) (fun _ jv _ => l.length - (intOf jv).toNat)
    case atStart =>
      have hfs := firstE_spec l
      rw [← HK.out] at hfs
      refine ⟨k, k + 1, l, rfl, by go_num, by omega, by omega, rfl, HO1.out, ?_, rfl, HB1'.out⟩
      rw [List.take_add_one, List.filter_append, List.getElem?_eq_getElem hf, List.filter_eq_self.2 hfs.1]
      simp [hfs.2 hf]
    case round =>
      obtain ⟨i, j, c, rfl, rfl, hij, hjl, hcl, hoc, htk, hdr, hbr⟩ := hrel
      have HTK := hid htk
      have HDR := hid hdr
      have HCL := hid hcl
      have HOC := hid hoc
      have HBR := hid hbr
      clear htk hdr hcl hoc hbr HO1 HB1 HB1'
      have hjI : (j : Int) ≤ (l.length : Int) := by omega
      by_cases hlt : j < l.length
      · have hltI : (j : Int) < (l.length : Int) := by omega
        have hilt : (i : Int) < (l.length : Int) := by omega
        obtain ⟨h0, h1, h2, h3, h4⟩ := HOC.out.cells_at j (by have := HCL.out; omega)
        have hcj : c[j]'(by have := HCL.out; omega) = l[j] := by
          have := HDR.out
          rw [List.drop_eq_getElem_cons (by have := HCL.out; omega), List.drop_eq_getElem_cons hlt] at this
          exact (List.cons.inj this).1
        rw [hcj] at h0 h1
        obtain ⟨x, hx⟩ : ∃ x, x = l[j] := ⟨_, rfl⟩
        rw [← hx] at h0 h1
        have HX := hid hx
        clear hx hcj
        obtain ⟨p, q⟩ := x
        have HE := hid (empty_any (p, q) (wr.alloc (.cells #[.int .i64 p, .int .i64 q] 24)))
        have HW2 := hid (((HBR.out.alloc (Nat.le_trans hb HBR.out.size) (.cells #[.int .i64 p, .int .i64 q] 24)).alloc (by have := HBR.out.size; simp; omega) (.cells #[.int .i64 p, .int .i64 q] 24)))
        have HO2 := hid (HOC.out.below (((Below.refl _ _).alloc (Nat.le_refl _) (.cells #[.int .i64 p, .int .i64 q] 24)).alloc (by simp) (.cells #[.int .i64 p, .int .i64 q] 24)))
        by_cases he : q ≤ p
        · clear h2 h3 h4
          go_wp2_with (go_at_call 75; refine HE.out.mono ?_; rintro e w' ⟨rfl, rfl⟩)
          go_roundw
          case rel =>
            refine ⟨i, j + 1, c, rfl, by go_num, by omega, by omega, HCL.out, HO2.out, ?_, ?_, HW2.out⟩
            · rw [List.take_add_one (l := l), List.filter_append, ← HTK.out, List.getElem?_eq_getElem hlt, ← HX.out]
              simp [he]
            · have := congrArg (List.drop 1) HDR.out
              simpa [Nat.add_comm] using this
          case measure => simp [intOf]; omega
        · obtain ⟨f0, f1, f2, f3, f4⟩ := HO2.out.cells_at i (by have := HCL.out; omega)
          have F4 := hid f4
          have hdec : decide (q ≤ p) = false := decide_eq_false he
          have HHE := hid he
          clear h2 h3 h4 f4 he
          go_wp2_with (go_at_call 75; refine HE.out.mono ?_; rintro e w' ⟨rfl, rfl⟩)
          go_roundw
          case rel =>
            refine ⟨i + 1, j + 1, c.set i (p, q), by go_num, by go_num, by omega, by omega, by rw [List.length_set]; exact HCL.out, HO2.out.set2 i (by have := HCL.out; omega) (p, q), ?_, ?_, (HW2.out.setCell (p := ⟨g, i * 2, none⟩) F4.out _).setCell (p := ⟨g, i * 2 + 1, none⟩) F4.out _⟩
            · rw [List.take_add_one (l := l), List.filter_append, ← HTK.out, List.getElem?_eq_getElem hlt, ← HX.out]
              have hkeep : [(p, q)].filter (fun x => !decide (x.2 ≤ x.1)) = [(p, q)] := by simp [HHE.out]
              rw [Option.toList_some, hkeep, List.take_add_one, List.getElem?_set_self (by have := HCL.out; omega), List.take_set_of_le (Nat.le_refl _)]
              rfl
            · rw [List.drop_set_of_lt (by omega)]
              have := congrArg (List.drop 1) HDR.out
              simpa [Nat.add_comm] using this
          case measure => simp [intOf]; omega
      · obtain rfl : j = l.length := by omega
        have hvc : l.length ≤ vc := by
          obtain ⟨ao, n', cap', e, -, h2, -⟩ := HOC.out.sps
          cases e; exact h2
        have hvi : ¬ vc = i := by omega
        have hi0 : (0 : Int) ≤ (i : Int) := by omega
        have hil : (i : Int) ≤ (l.length : Int) := by omega
        have hlv : (l.length : Int) ≤ (vc : Int) := by omega
        have hiv : (i : Int) ≤ (vc : Int) := by omega
        have hn : c.length = l.length := HCL.out
        have hcl := run_clearS wr g (i * 2) (l.length - i) (vc - i) (by omega) (fun t ht => by
            have := HOC.out.cells_at ((i * 2 + t) / 2) (by omega)
            rcases Nat.mod_two_eq_zero_or_one t with hp | hp
            · rw [show i * 2 + t = (i * 2 + t) / 2 * 2 from by omega, this.1]; rfl
            · rw [show i * 2 + t = (i * 2 + t) / 2 * 2 + 1 from by omega, this.2.1]; rfl) (fun t ht => by
            have h1 : wr.ownsRow base 24 2 (.slice (some ⟨g, 0, none⟩) l.length vc) l.length (flat c) := by have := HOC.out; unfold OwnS at this; rwa [hn] at this
            exact h1.frozenAt _)
        obtain ⟨xs', ho', ht', hb'⟩ := owns_setCells (base := base) (e := 24) (size := 2) (g := g) (n := l.length) (cap := vc) (Builtin.zeroCells #[Value.int .i64 0, .int .i64 0] (l.length - i)).toList (i * 2) wr (flat c) (by have := HOC.out; unfold OwnS at this; rwa [hn] at this)
        generalize wr.setCells g (i * 2) (Builtin.zeroCells #[Value.int .i64 0, .int .i64 0] (l.length - i)).toList = w9 at hcl ho' hb'
        have HO9 := hid ho'
        have HT9 := hid ht'
        have HB9 := hid (HBR.out.trans hb')
        clear ho' ht' hb' hn hvc
        go_wp2_with fail
        go_ret
        have hfl : l.filter (fun x => !decide (x.2 ≤ x.1)) = c.take i := by have := HTK.out; rw [List.take_length] at this; exact this.symm
        have hcl' : (c.take i).length = i := by rw [List.length_take, HCL.out]; omega
        rw [hfl]
        refine ⟨i, hcl'.symm, rfl, own_prefix HO9.out ?_ (by omega) hcl', HB9.out⟩
        rw [HT9.out, flat_take]
  · rw [if_neg hf] at HI
    go_enter Tryz.func110, Tryz.ntmps110
    go_wp2_with (go_at_call 131; refine HI.out.mono ?_; rintro e w' ⟨rfl, hb1⟩; have HB1 := hid hb1; clear hb1)
    go_ret
    have hfl : l.filter (fun x => !decide (x.2 ≤ x.1)) = l := by
      refine List.filter_eq_self.2 fun x hx => (firstE_spec l).1 x ?_
      rwa [List.take_of_length_le (by omega)]
    rw [hfl]
    exact ⟨l.length, rfl, rfl, HO.out.below HB1.out, HB1.out.mono hb⟩
set_option maxHeartbeats 1600000 in
theorem values_any (a : Option Addr) (n c : Nat) (w : World) :
    Calls Tryz.prog 115 #[.slice a n c] w fun e w' => e = .returned (.func (.func 134) #[] #[.pointer (some ⟨w.heap.size, 0, none⟩)]) ∧ w' = w.alloc (.cells #[.slice a n c] 29) := by
  go_enter Tryz.func115, Tryz.ntmps115
  go_wp2
  go_ret
  exact ⟨rfl, rfl⟩
theorem sortNil (vc : Nat) (fv : Value) (w : World) : Calls Tryz.prog 112 #[.slice none 0 vc, fv] w fun e w' => e = .returned (.tuple #[]) ∧ w' = w := AnyF.slices_SortFunc_none Tryz.sortSp none vc fv w
/-- The sort, at a nil row too. -/
theorem sort_own (base : Nat) (va : Option Addr) (vc : Nat) (l : List Sp) (w : World) (ho : OwnS w base (.slice va l.length vc) l) (hb : base ≤ w.heap.size) (hl : l.length ≤ 1000000000) :
    Calls Tryz.prog 112 #[.slice va l.length vc, .func (.func 113) #[] #[]] w fun e w' => e = .returned (.tuple #[]) ∧ ∃ l', l'.Perm l ∧ Rises l' ∧ OwnS w' base (.slice va l.length vc) l' ∧ Below base w w' := by
  have ho' := ho
  obtain ⟨h1, h2⟩ := ho
  rcases h2 with ⟨h2, h0⟩ | ⟨g, cap, cur, e, -⟩
  · have hl0 : l = [] := List.eq_nil_of_length_eq_zero h0
    subst hl0
    cases h2
    exact (sortNil 0 _ w).mono fun e w' ⟨he, hw⟩ => ⟨he, [], List.Perm.refl _, List.Pairwise.nil, by subst hw; exact ho', by subst hw; exact Below.refl _ _⟩
  · cases e
    exact sort_any base g vc l w ho' hb hl

/-- Those that aren't empty. -/
def full (l : List Sp) : List Sp := l.filter fun x => !decide (x.2 ≤ x.1)
set_option maxHeartbeats 1600000 in
theorem rising_any (v : Value) (l : List Sp) (w : World) (hv : Sps w v l) (hl : l.length ≤ 1000000000) :
    Calls Tryz.prog 100 #[v] w fun e w' => ∃ B va vc l', e = .returned (.func (.func 134) #[] #[.pointer (some ⟨B, 0, none⟩)]) ∧ l'.Perm (full l) ∧ Rises l' ∧ w'.cell? ⟨B, 0, none⟩ = some (.slice va l'.length vc) ∧ OwnS w' w.heap.size (.slice va l'.length vc) l' ∧ w.heap.size ≤ B ∧ B < w'.heap.size ∧ Below w.heap.size w w' := by
  have HV := hid hv
  obtain ⟨a0, c0, rfl⟩ := hv.shape
  clear hv
  go_enter Tryz.func100, Tryz.ntmps100
  go_wp2_with fail
  refine (clone_any _ l _ HV.out hl).mono ?_
  rintro e w1 ⟨va1, vc1, rfl, ho1, hb1⟩
  have HO1 := hid ho1
  have HB1 := hid hb1
  clear ho1 hb1
  go_wp2_with fail
  refine (delete_any w.heap.size va1 vc1 l w1 HO1.out HB1.out.size hl).mono ?_
  rintro e w2 ⟨m, hm, rfl, ho2, hb2⟩
  obtain ⟨f, hf⟩ : ∃ f, f = full l := ⟨_, rfl⟩
  have hfl : f.length ≤ 1000000000 := by rw [hf]; unfold full; exact Nat.le_trans (List.length_filter_le _ _) hl
  have ho2' : OwnS w2 w.heap.size (.slice va1 m vc1) f := by rw [hf]; exact ho2
  have hm' : m = f.length := by rw [hf]; exact hm
  subst hm'
  have HO2 := hid ho2'
  have HB2 := hid (HB1.out.trans hb2)
  have HF := hid hf
  clear hm ho2 hb2 ho2' hf
  go_wp2_with fail
  refine (sort_own w.heap.size va1 vc1 f w2 HO2.out HB2.out.size hfl).mono ?_
  rintro e w3 ⟨rfl, l', hp, hr, ho3, hb3⟩
  have HP := hid hp
  have HR := hid hr
  have HO3 := hid ho3
  have HB3 := hid (HB2.out.trans hb3)
  have hll : f.length = l'.length := hp.length_eq.symm
  clear hp hr ho3 hb3
  go_wp2_with fail
  refine (values_any _ _ _ w3).mono ?_
  rintro e w4 ⟨rfl, rfl⟩
  go_wp2
  go_ret
  refine ⟨w3.heap.size, va1, vc1, l', rfl, by rw [← HF.out]; exact HP.out, HR.out, ?_, ?_, HB3.out.size, by simp, HB3.out.alloc HB3.out.size _⟩
  · rw [cell_of_row _ w3.heap.size 0 _ _ _ (heap_alloc_new _ _)]; rfl
  · rw [← hll]; exact HO3.out.below ((Below.refl _ _).alloc (Nat.le_refl _) _)
end Go.Proofs.YtmocedkbabnpfaaGreat
namespace Go.Proofs.YtmocedkbabnpfaaGreat
open Go.RowKit Go.Shelf
attribute [local go_sem] Oper.semAt_some

/-- The slice value sv holds the spans l; or it is nil and there are none. -/
def Held (W : World) (sv : Value) (l : List Sp) : Prop :=
  (sv = .slice none 0 0 ∧ l = []) ∨ ∃ b cap ob, sv = .slice (some ⟨b, 0, none⟩) l.length cap ∧ W.heap[b]? = some ob ∧ ∀ j, (h : j < l.length) → W.cell? ⟨b, j * 2, none⟩ = some (.int .i64 l[j].1) ∧ W.cell? ⟨b, j * 2 + 1, none⟩ = some (.int .i64 l[j].2)
/-- The block of a slice lies as it lay. -/
def Kept (sv : Value) (A B : World) : Prop := ∀ k, sv.ownBlock = some k → B.heap[k]? = A.heap[k]?
theorem Kept.trans {sv : Value} {A B C : World} (h : Kept sv A B) (k : Kept sv B C) : Kept sv A C := fun i hi => (k i hi).trans (h i hi)
theorem Held.kept {A B : World} {sv : Value} {l : List Sp} (h : Kept sv A B) : Held A sv l → Held B sv l
  | .inl e => .inl e
  | .inr ⟨b, cap, ob, e, hb, hc⟩ => .inr ⟨b, cap, ob, e, by rw [h b (by rw [e]; rfl)]; exact hb, fun j hj => by
      have := h b (by rw [e]; rfl)
      exact ⟨(World.cell?_of_block this).trans (hc j hj).1, (World.cell?_of_block this).trans (hc j hj).2⟩⟩
theorem Held.below {A B : World} (h : Below A.heap.size A B) {sv : Value} {l : List Sp} (hh : Held A sv l) : Held B sv l := by
  refine hh.kept fun k hk => ?_
  rcases hh with ⟨rfl, _⟩ | ⟨b, cap, ob, rfl, hb, _⟩
  · cases hk
  · cases hk; exact h.block b (lt_of_block hb)
theorem OwnS.held {w : World} {base : Nat} {va : Option Addr} {vc : Nat} {l : List Sp} (h : OwnS w base (.slice va l.length vc) l) : Held w (.slice va l.length vc) l := by
  have h' := h
  obtain ⟨h1, h2⟩ := h
  rcases h2 with ⟨h2, h0⟩ | ⟨g, cap, cur, e, hbg, hh, -⟩
  · exact .inl ⟨h2, List.eq_nil_of_length_eq_zero h0⟩
  · cases e
    exact .inr ⟨g, vc, _, rfl, hh, fun j hj => ⟨(h'.cells_at j hj).1, (h'.cells_at j hj).2.1⟩⟩

set_option maxRecDepth 100000 in
set_option maxHeartbeats 2000000 in
theorem values1_in (F : Fence) (n : Nat) (h7 : F.fn 134) (hro : F.round = none) (hn : 1 ≤ n) (y Bs b cap : Nat) (l : List Sp) (hl : l.length ≤ 1000000000) (J Jx : List Sp → World → Prop) (hJ : ∀ pre W o, J pre W → J pre (W.alloc o))
    (hY : ∀ pre x W, J pre W → pre.length < l.length → YieldAt F (n - 1) Tryz.prog y #[.agg #[.int .i64 x.1, .int .i64 x.2]] W fun e W' =>
      (e = .returned (.bool true) ∧ J (pre ++ [x]) W' ∧ Kept (.slice (some ⟨b, 0, none⟩) l.length cap) W W') ∨ (e = .returned (.bool false) ∧ Jx (pre ++ [x]) W'))
    (W : World) (ob : Obj) (hob : W.heap[b]? = some ob) (hBs : W.cell? ⟨Bs, 0, none⟩ = some (.slice (some ⟨b, 0, none⟩) l.length cap)) (hc : ∀ j, (h : j < l.length) → W.cell? ⟨b, j * 2, none⟩ = some (.int .i64 l[j].1) ∧ W.cell? ⟨b, j * 2 + 1, none⟩ = some (.int .i64 l[j].2)) (h0 : J [] W) :
    CallsIn F n Tryz.prog 134 #[.func (.yield y) #[] #[], .pointer (some ⟨Bs, 0, none⟩)] W fun e W' => (∃ v, e = .returned v) ∧
      (J l W' ∨ ∃ pre, pre <+: l ∧ Jx pre W') := by
  have HOB := hid hob
  clear hob
  refine callsIn_of_wp Tryz.func134 rfl h7 ?_ hro
  simp only [Tryz.ntmps134, List.size_toArray, List.length_cons, List.length_nil, Nat.reduceAdd, Nat.reduceSub, Array.replicate_succ, Array.replicate_zero, List.push_toArray, List.append_toArray, List.nil_append, List.cons_append]
  gi_wp2
  gi_loopw [7] (fun i wr => ∃ k : Nat, k ≤ l.length ∧ i = .int .i64 k ∧ J (l.take k) wr ∧ wr.heap[b]? = some ob) (fun i _ => l.length - (intOf i).toNat)
  case atStart => exact ⟨0, Nat.zero_le _, rfl, h0, HOB.out⟩
  case round =>
    obtain ⟨k, hk, rfl, hJs, hnx⟩ := hrel
    by_cases hlt : k < l.length
    · have hcx := hc k hlt
      have heq : wr.heap[b]? = W.heap[b]? := hnx.trans HOB.out.symm
      have hc0 : wr.cell? ⟨b, k * 2, none⟩ = some (.int .i64 l[k].1) := (World.cell?_of_block heq).trans hcx.1
      have hc1 : wr.cell? ⟨b, k * 2 + 1, none⟩ = some (.int .i64 l[k].2) := (World.cell?_of_block heq).trans hcx.2
      have HT := hid (show l.take (k + 1) = l.take k ++ [l[k]] by rw [List.take_add_one, List.getElem?_eq_getElem hlt]; rfl)
      obtain ⟨x, hx⟩ : ∃ x, x = l[k] := ⟨_, rfl⟩
      rw [← hx] at hc0 hc1 HT
      have HX := hid hx
      clear hx hcx heq
      obtain ⟨p, q⟩ := x
      obtain ⟨fn, tmps, assign, body, hy, hR⟩ := hY _ (p, q) (wr.alloc (.cells #[.int .i64 p, .int .i64 q] 24)) (hJ _ _ _ hJs) (by simp; omega)
      have HBA := hid (show (wr.alloc (.cells #[.int .i64 p, .int .i64 q] 24)).heap[b]? = some ob by rw [Below.heap_alloc _ _ _ (lt_of_block hnx)]; exact hnx)
      clear hnx
      gi_wp2
      refine hR.mono ?_
      rintro e W3 (⟨rfl, hJ3, hk3⟩ | ⟨rfl, hJx3⟩)
      · have HK3 := hid ((hk3 b rfl).trans HBA.out)
        clear hk3
        gi_wp2
        go_roundw
        case rel => exact ⟨k + 1, by omega, by simp, by rw [HT.out]; exact hJ3, HK3.out⟩
        case measure => simp [intOf]; omega
      · gi_wp2
        refine bodyPost_ret (results_none rfl _ _ _) rfl ?_
        exact ⟨⟨_, rfl⟩, .inr ⟨_, by rw [← HT.out]; exact List.take_prefix _ _, hJx3⟩⟩
    · obtain rfl : k = l.length := by omega
      clear hnx
      gi_wp2
      go_end0
      rw [List.take_length] at hJs
      exact ⟨⟨_, rfl⟩, .inl hJs⟩
set_option maxRecDepth 100000 in
set_option maxHeartbeats 1000000 in
theorem values1_nil (F : Fence) (n : Nat) (h7 : F.fn 134) (hro : F.round = none) (y Bs : Nat) (J : List Sp → World → Prop) (W : World) (hBs : W.cell? ⟨Bs, 0, none⟩ = some (.slice none 0 0)) (h0 : J [] W) :
    CallsIn F n Tryz.prog 134 #[.func (.yield y) #[] #[], .pointer (some ⟨Bs, 0, none⟩)] W fun e W' => (∃ v, e = .returned v) ∧ J [] W' := by
  refine callsIn_of_wp Tryz.func134 rfl h7 ?_ hro
  simp only [Tryz.ntmps134, List.size_toArray, List.length_cons, List.length_nil, Nat.reduceAdd, Nat.reduceSub, Array.replicate_succ, Array.replicate_zero, List.push_toArray, List.append_toArray, List.nil_append, List.cons_append]
  gi_wp2
  gi_loopw [7] (fun i wr => i = .int .i64 0 ∧ J [] wr) (fun _ _ => 0)
  case atStart => exact ⟨rfl, h0⟩
  case round =>
    obtain ⟨rfl, hJs⟩ := hrel
    gi_wp2
    go_end0
    exact ⟨⟨_, rfl⟩, hJs⟩
theorem values_stops (F : Fence) (n : Nat) (h7 : F.fn 134) (hro : F.round = none) (hn : 1 ≤ n) (Bs : Nat) (sv : Value) (l : List Sp) (hl : l.length ≤ 1000000000) (w : World) (hBs : Bs < w.heap.size)
    (hc : w.cell? ⟨Bs, 0, none⟩ = some sv) (hI : Held w sv l) :
    SeqStopsK F n Tryz.prog 134 #[.pointer (some ⟨Bs, 0, none⟩)] (fun x : Sp => #[Value.agg #[.int .i64 x.1, .int .i64 x.2]]) (Kept sv) (fun ys => ys = l) (fun pre => pre <+: l) l.length w := fun y J Jx W hW hJ _ hY h0 => by
  have hc' := (hW.cell (p := ⟨Bs, 0, none⟩) hBs).trans hc
  rcases hI.below hW with ⟨rfl, rfl⟩ | ⟨b, cap, ob, rfl, hb, hcs⟩
  · exact (values1_nil F n h7 hro y Bs J W hc' h0).mono fun e W' ⟨he, hj⟩ => ⟨he, .inl ⟨_, rfl, hj⟩⟩
  · refine (values1_in F n h7 hro hn y Bs b cap l hl J Jx (fun pre X o hs => hJ pre X _ none hs (World.grownBy_alloc X o none) (fun r e => by cases e)) hY W ob hb hc' hcs h0).mono ?_
    rintro e W' ⟨he, hj | ⟨pre, hp, hj⟩⟩
    · exact ⟨he, .inl ⟨_, rfl, hj⟩⟩
    · exact ⟨he, .inr ⟨_, hp, hj⟩⟩

theorem growF_len (l p : List Sp) : (l.foldl growL p).length ≤ p.length + l.length := by
  induction l generalizing p with
  | nil => simp
  | cons x l ih =>
    have h1 := ih (growL p x)
    have h2 := growL_len p x
    simp only [List.foldl_cons, List.length_cons]; omega
/-- A row of the call's own lies on where only what is no cells turns. -/
theorem OwnS.turned {X Y : World} {row : Option Nat} {base : Nat} {u : Value} {l : List Sp} (h : OwnS X base u l) (hg : X.grownBy Y row) (hr : ∀ r, row = some r → ∃ o : Obj, X.heap[r]? = some o ∧ o.isCells = false) : OwnS Y base u l := by
  obtain ⟨h1, h2⟩ := h
  refine ⟨h1, ?_⟩
  rcases h2 with h2 | ⟨g, cap, cur, hv, hb, hh, r⟩
  · exact Or.inl h2
  · refine Or.inr ⟨g, cap, cur, hv, hb, ?_, r⟩
    rw [hg.block g (lt_of_block hh) (fun e => by obtain ⟨o, ho, hc⟩ := hr g e.symm; rw [hh] at ho; cases ho; cases hc)]
    exact hh
theorem cells_turned {X Y : World} {row : Option Nat} {k : Nat} {cs : Array Value} {t : TypeId} {fr : Nat × Nat} (h : X.heap[k]? = some (.cells cs t fr)) (hg : X.grownBy Y row) (hr : ∀ r, row = some r → ∃ o : Obj, X.heap[r]? = some o ∧ o.isCells = false) : Y.heap[k]? = some (.cells cs t fr) := by
  rw [hg.block k (lt_of_block h) (fun e => by obtain ⟨o, ho, hc⟩ := hr k e.symm; rw [h] at ho; cases ho; cases hc)]
  exact h

set_option maxRecDepth 100000 in
set_option maxHeartbeats 2000000 in
theorem norm_walk (v : Value) (l : List Sp) (w : World) (hv : Sps w v l) (hl : l.length ≤ 1000000000) :
    Calls Tryz.prog 73 #[v] w fun e w' => ∃ l' va vc, l'.Perm (full l) ∧ Rises l' ∧ e = .returned (.slice va (l'.foldl growL []).length vc) ∧ OwnS w' w.heap.size (.slice va (l'.foldl growL []).length vc) (l'.foldl growL []) ∧ Below w.heap.size w w' := by
  have HV := hid (hv.alloc (.cells #[.slice none 0 0] 29))
  obtain ⟨a0, c0, rfl⟩ := hv.shape
  clear hv
  refine (callsIn_wide (n := 3)).1 ?_
  refine callsIn_of_wp_marks Tryz.func73 rfl trivial ?_ rfl
  simp only [Tryz.ntmps73, List.size_toArray, List.length_cons, List.length_nil, Nat.reduceAdd, Nat.reduceSub, Array.replicate_succ, Array.replicate_zero, List.push_toArray, List.append_toArray, List.nil_append, List.cons_append]
  gi_wp2_with (refine ⟨trivial, ?_⟩; gi_at_call 100; refine (callsIn_wide.2 (rising_any _ l _ HV.out hl)).mono ?_; rintro e w1 ⟨B, va, vc, l', rfl, hp, hr, hcB, ho1, hB0, hB1, hb1⟩)
  have hl' : l'.length ≤ 1000000000 := by rw [hp.length_eq]; unfold full; exact Nat.le_trans (List.length_filter_le _ _) hl
  rw [show (w.alloc (.cells #[.slice none 0 0] 29)).heap.size = w.heap.size + 1 from by simp] at ho1 hB0
  have hbox0 : Boxed w1 w.heap.size 29 (.slice none 0 0) := by
    show w1.heap[w.heap.size]? = _
    rw [hb1.block w.heap.size (by simp)]
    exact heap_alloc_new _ _
  have hbw0 : Below w.heap.size w w1 := ((Below.refl _ _).alloc (Nat.le_refl _) _).trans (hb1.mono (by simp))
  have hsv : ∀ k, (Value.slice va l'.length vc).ownBlock = some k → w.heap.size + 1 ≤ k ∧ k < w1.heap.size := fun k hk => World.ownsRow.lt ho1 k hk
  have hs1 : w.heap.size < w1.heap.size := by have := hb1.size; simp at this; omega
  have hheld := ho1.held
  refine wpIn_rangeFunc_ownH (F := Fence.wide) rfl (by omega) (gf := 134) (lb := #[.pointer (some ⟨B, 0, none⟩)]) rfl trivial (enters_of Tryz.func134 (by kernel_rfl) rfl)
    (values_stops Fence.wide _ trivial rfl (by omega) B (.slice va l'.length vc) l' hl' w1 hB1 hcB hheld) Kept.trans ?keptb (Below.refl _ _) (fun _ => rfl)
    (fun pre W => (∃ u, Boxed W w.heap.size 29 u ∧ OwnS W w1.heap.size u (pre.foldl growL [])) ∧ w1.heap.size ≤ W.heap.size ∧ Below w.heap.size w W)
    (fun _ _ _ => False) ?hI (fun _ _ _ _ _ hs _ _ => hs) ⟨⟨_, hbox0, OwnS.nil _ _⟩, Nat.le_refl _, hbw0⟩
    (fun x a' W => ∃ Bx, W.heap[Bx]? = some (.cells #[.int .i64 x.1, .int .i64 x.2] 24 (0, 0)) ∧ a' = { tmps := #[.slice a0 l.length c0, undef, .slice none 0 0, .pointer (some ⟨w.heap.size, 0, none⟩), .pointer (some ⟨Bx, 0, none⟩), .slice a0 l.length c0, .func (.func 134) #[] #[.pointer (some ⟨B, 0, none⟩)], .agg #[.int .i64 x.1, .int .i64 x.2], undef, undef, undef, undef], defers := [] })
    ?hAx ?assign ?body ?done ?stop
  case keptb =>
    intro W y o o' hy ho _ _ k hk
    have h1 := (hsv k hk).2
    have h2 := lt_of_block ho
    refine (grownBy_putObj' W y o').block k (by omega) fun e => ?_
    have h3 : k = y := by simpa using e
    omega
  case hI =>
    rintro s X Y row ⟨⟨u, hb, hu⟩, hz, hbl⟩ hg hr
    have hr' : ∀ r, row = some r → ∃ o : Obj, X.heap[r]? = some o ∧ o.isCells = false := fun r e => (hr r e).2
    exact ⟨⟨u, cells_turned hb hg hr', hu.turned hg hr'⟩, Nat.le_trans hz hg.size, hbl.grown hg hbl.size (fun k e => by have := (hr k e).1; omega)⟩
  case hAx =>
    rintro x a' s X Y row ⟨Bx, h1, h2⟩ hg hr
    exact ⟨Bx, cells_turned h1 hg fun r e => (hr r e).2, h2⟩
  case assign =>
    rintro y pre x W K ⟨⟨u, hb, hu⟩, hz, hbl⟩ hK
    gi_wp2
    refine hK _ _ ((KeepsOthers.alloc _ _).from _) ?_ ⟨⟨u, hb.alloc _, hu.below ((Below.refl _ _).alloc (Nat.le_refl _) _)⟩, by simp; omega, hbl.alloc hbl.size _⟩ ⟨W.heap.size, heap_alloc_new _ _, rfl⟩
    intro k hk
    exact Below.heap_alloc _ _ _ (by have := (hsv k hk).2; omega)
  case body =>
    rintro y pre x a' W hy _ ⟨⟨u, hb, hu⟩, hz, hbl⟩ ⟨Bx, hX, rfl⟩ hlt
    obtain ⟨ua, uc, rfl⟩ := hu.shape
    have hbc := hb.cell
    have hx0 : W.cell? ⟨Bx, 0, none⟩ = some (.int .i64 x.1) := by rw [cell_of_row W Bx 0 _ _ _ hX]; rfl
    have hx1 : W.cell? ⟨Bx, 1, none⟩ = some (.int .i64 x.2) := by rw [cell_of_row W Bx 1 _ _ _ hX]; rfl
    have hpl : (pre.foldl growL []).length ≤ 1000000000 := by have := growF_len pre []; simp at this; omega
    have HG := hid (grow_any w1.heap.size ua uc (pre.foldl growL []) x W hu hz hpl)
    have HBX := hid hb
    have HBL := hid hbl
    have hfo : (pre ++ [x]).foldl growL [] = growL (pre.foldl growL []) x := by simp
    have HFO := hid hfo
    clear hfo hb hbl hu hX hpl
    generalize pre.foldl growL [] = p at *
    gi_wp2_with (refine ⟨trivial, ?_⟩; gi_at_call 101; refine (CallsIn.inRound y (callsIn_wide.2 HG.out)).mono ?_; rintro e W2 ⟨va2, vc2, rfl, ho2, hb2, hk2⟩; have hbk := hb2.block w.heap.size hs1; have hc2 : W2.cell? ⟨w.heap.size, 0, none⟩ = some (.slice ua p.length uc) := (World.cell?_of_block hbk).trans hbc; have hf2 : W2.frozen? ⟨w.heap.size, 0, none⟩ = false := (World.frozen?_of_block hbk).trans HBX.out.frozen)
    refine ⟨(hk2.trans (KeepsOthers.setCell _ _ _)).from _, ?_, ⟨_, Boxed.set _ (hbk.trans HBX.out), ?_⟩, ?_, ?_⟩
    · intro k hk
      have h1 := hsv k hk
      rw [Below.heap_setCell W2 ⟨w.heap.size, 0, none⟩ _ k (by simp; omega)]
      exact hb2.block k h1.2
    · rw [HFO.out]
      exact ho2.kept fun k hk _ => Below.heap_setCell W2 ⟨w.heap.size, 0, none⟩ _ k (by simp; omega)
    · have := hb2.size
      simp; omega
    · exact (HBL.out.trans (hb2.mono (by omega))).setCell (p := ⟨w.heap.size, 0, none⟩) (Nat.le_refl _) _
  case done =>
    rintro D ys W hD hys ⟨⟨u, hb, hu⟩, hz, hbl⟩ hK
    have HYS := hid hys
    have hbc := hb.cell
    obtain ⟨ua, uc, rfl⟩ := hu.shape
    clear hys
    gi_wp2
    refine ⟨by simp, .inl ⟨_, _, rfl, run_takeDeferred hK, ?_⟩⟩
    refine ⟨_, results_tmp rfl _ _ _, ys, ua, uc, by rw [HYS.out]; exact hp, by rw [HYS.out]; exact hr, rfl, ?_, ?_⟩
    · exact (hu.lower (by omega)).turned (grownBy_putObj' W D (.deferred none)) fun r e => by cases e; exact ⟨_, hK, rfl⟩
    · exact hbl.trans (belowK_b (w := w) (Nat.le_refl _) W D _ _ (by omega) hK rfl rfl)
  case stop =>
    rintro D c pre W _ _ h _
    exact h.elim
end Go.Proofs.YtmocedkbabnpfaaGreat
namespace Go.Proofs.YtmocedkbabnpfaaGreat

/-- The row l has the block k. -/
def InL (l : List Sp) (k : Int) : Prop := ∃ x ∈ l, x.1 ≤ k ∧ k < x.2
/-- The row is plain: none is empty; each begins behind the one before it, with a gap. -/
def PlainL (l : List Sp) : Prop := (∀ x ∈ l, x.1 < x.2) ∧ l.Pairwise fun x y => x.2 < y.1
theorem InL_cons (x : Sp) (l : List Sp) (k : Int) : InL (x :: l) k ↔ (x.1 ≤ k ∧ k < x.2) ∨ InL l k := by
  constructor
  · rintro ⟨z, hz, h⟩
    rcases List.mem_cons.1 hz with rfl | hz
    · exact .inl h
    · exact .inr ⟨z, hz, h⟩
  · rintro (h | ⟨z, hz, h⟩)
    · exact ⟨x, List.mem_cons_self, h⟩
    · exact ⟨z, List.mem_cons_of_mem _ hz, h⟩
theorem InL_append (a b : List Sp) (k : Int) : InL (a ++ b) k ↔ InL a k ∨ InL b k := by
  constructor
  · rintro ⟨z, hz, h⟩
    rcases List.mem_append.1 hz with hz | hz
    · exact .inl ⟨z, hz, h⟩
    · exact .inr ⟨z, hz, h⟩
  · rintro (⟨z, hz, h⟩ | ⟨z, hz, h⟩)
    · exact ⟨z, List.mem_append_left _ hz, h⟩
    · exact ⟨z, List.mem_append_right _ hz, h⟩
theorem InL_one (x : Sp) (k : Int) : InL [x] k ↔ x.1 ≤ k ∧ k < x.2 := by
  rw [InL_cons]
  exact ⟨fun h => h.elim id (fun ⟨_, hz, _⟩ => by cases hz), .inl⟩
theorem PlainL.tail {x : Sp} {l : List Sp} (h : PlainL (x :: l)) : PlainL l := ⟨fun z hz => h.1 z (List.mem_cons_of_mem _ hz), (List.pairwise_cons.1 h.2).2⟩
theorem PlainL.beyond {x : Sp} {l : List Sp} (h : PlainL (x :: l)) {k : Int} (hk : InL l k) : x.2 < k := by
  obtain ⟨z, hz, h1, h2⟩ := hk
  have := (List.pairwise_cons.1 h.2).1 z hz
  omega
theorem PlainL.least {x : Sp} {l : List Sp} (h : PlainL (x :: l)) {k : Int} (hk : InL (x :: l) k) : x.1 ≤ k := by
  have h1 := h.1 x List.mem_cons_self
  rcases (InL_cons x l k).1 hk with h' | h'
  · exact h'.1
  · have := h.beyond h'; omega
theorem plain_end {x y : Sp} {a b : List Sp} (ha : PlainL (x :: a)) (h1 : x.1 = y.1) (he : ∀ k, InL (x :: a) k ↔ InL (y :: b) k) : ¬ x.2 < y.2 := by
  intro h
  have hx := ha.1 x List.mem_cons_self
  have hi := (he x.2).2 ((InL_cons y b x.2).2 (.inl ⟨by omega, h⟩))
  rcases (InL_cons x a x.2).1 hi with h' | h'
  · omega
  · have := ha.beyond h'; omega
/-- Two plain rows that have the same blocks are one. -/
theorem plain_unique {a b : List Sp} (ha : PlainL a) (hb : PlainL b) (he : ∀ k, InL a k ↔ InL b k) : a = b := by
  induction a generalizing b with
  | nil =>
    cases b with
    | nil => rfl
    | cons y b =>
      have := hb.1 y List.mem_cons_self
      obtain ⟨_, hz, _⟩ := (he y.1).2 ((InL_cons y b y.1).2 (.inl ⟨Int.le_refl _, this⟩))
      cases hz
  | cons x a ih =>
    cases b with
    | nil =>
      have := ha.1 x List.mem_cons_self
      obtain ⟨_, hz, _⟩ := (he x.1).1 ((InL_cons x a x.1).2 (.inl ⟨Int.le_refl _, this⟩))
      cases hz
    | cons y b =>
      have hx := ha.1 x List.mem_cons_self
      have hy := hb.1 y List.mem_cons_self
      have h1 := hb.least ((he x.1).1 ((InL_cons x a x.1).2 (.inl ⟨Int.le_refl _, hx⟩)))
      have h2 := ha.least ((he y.1).2 ((InL_cons y b y.1).2 (.inl ⟨Int.le_refl _, hy⟩)))
      have e1 : x.1 = y.1 := by omega
      have h3 := plain_end ha e1 he
      have h4 := plain_end hb e1.symm fun k => (he k).symm
      have e2 : x.2 = y.2 := by omega
      have exy : x = y := Prod.ext e1 e2
      subst exy
      rw [ih ha.tail hb.tail fun k => ?_]
      have hk := he k
      rw [InL_cons, InL_cons] at hk
      constructor
      · intro h
        have := ha.beyond h
        rcases hk.1 (.inr h) with h' | h'
        · omega
        · exact h'
      · intro h
        have := hb.beyond h
        rcases hk.2 (.inr h) with h' | h'
        · omega
        · exact h'
theorem plain_snoc {q : List Sp} {y : Sp} : PlainL (q ++ [y]) ↔ PlainL q ∧ y.1 < y.2 ∧ ∀ z ∈ q, z.2 < y.1 := by
  constructor
  · rintro ⟨h1, h2⟩
    obtain ⟨h3, -, h5⟩ := List.pairwise_append.1 h2
    exact ⟨⟨fun z hz => h1 z (List.mem_append_left _ hz), h3⟩, h1 y (by simp), fun z hz => h5 z hz y (by simp)⟩
  · rintro ⟨⟨h1, h2⟩, h3, h4⟩
    refine ⟨fun z hz => ?_, List.pairwise_append.2 ⟨h2, by simp, fun z hz u hu => ?_⟩⟩
    · rcases List.mem_append.1 hz with hz | hz
      · exact h1 z hz
      · rw [List.mem_singleton.1 hz]; exact h3
    · rw [List.mem_singleton.1 hu]; exact h4 z hz
/-- A span more behind a plain row, which begins no sooner than all that is there. -/
theorem growL_plain {p : List Sp} {x : Sp} (hp : PlainL p) (hx : x.1 < x.2) (hr : ∀ z ∈ p, z.1 ≤ x.1) :
    PlainL (growL p x) ∧ (∀ k, InL (growL p x) k ↔ InL p k ∨ (x.1 ≤ k ∧ k < x.2)) ∧ ∀ z ∈ growL p x, z.1 ≤ x.1 := by
  rcases List.eq_nil_or_concat p with rfl | ⟨q, y, rfl⟩
  · refine ⟨⟨fun z hz => by rw [List.mem_singleton.1 hz]; exact hx, by simp [growL_nil]⟩, fun k => ?_, fun z hz => by rw [List.mem_singleton.1 hz]; exact Int.le_refl _⟩
    rw [growL_nil, InL_one]
    exact ⟨.inr, fun h => h.elim (fun ⟨_, hz, _⟩ => by cases hz) id⟩
  · rw [List.concat_eq_append] at hp hr ⊢
    obtain ⟨h1, h2, h3⟩ := plain_snoc.1 hp
    have hy := hr y (by simp)
    rw [growL_snoc]
    split
    · rename_i hlt
      refine ⟨plain_snoc.2 ⟨hp, hx, fun z hz => ?_⟩, fun k => ?_, fun z hz => ?_⟩
      · rcases List.mem_append.1 hz with hz | hz
        · have := h3 z hz; have := h1.1 z hz; omega
        · rw [List.mem_singleton.1 hz]; exact hlt
      · rw [InL_append, InL_one]
      · rcases List.mem_append.1 hz with hz | hz
        · exact hr z hz
        · rw [List.mem_singleton.1 hz]; exact Int.le_refl _
    · rename_i hge
      refine ⟨plain_snoc.2 ⟨h1, by show y.1 < max y.2 x.2; omega, fun z hz => h3 z hz⟩, fun k => ?_, fun z hz => ?_⟩
      · rw [InL_append, InL_append, InL_one, InL_one]
        show InL q k ∨ (y.1 ≤ k ∧ k < max y.2 x.2) ↔ _
        constructor
        · rintro (h | h)
          · exact .inl (.inl h)
          · by_cases hk : k < y.2
            · exact .inl (.inr ⟨h.1, hk⟩)
            · exact .inr ⟨by omega, by omega⟩
        · rintro ((h | h) | h)
          · exact .inl h
          · exact .inr ⟨h.1, by omega⟩
          · exact .inr ⟨by omega, by omega⟩
      · rcases List.mem_append.1 hz with hz | hz
        · exact hr z (List.mem_append_left _ hz)
        · rw [List.mem_singleton.1 hz]; exact hy
theorem growF_plain (l p : List Sp) (hp : PlainL p) (hf : ∀ x ∈ l, x.1 < x.2) (hr : l.Pairwise fun x y => x.1 ≤ y.1) (hpl : ∀ z ∈ p, ∀ x ∈ l, z.1 ≤ x.1) :
    PlainL (l.foldl growL p) ∧ ∀ k, InL (l.foldl growL p) k ↔ InL p k ∨ InL l k := by
  induction l generalizing p with
  | nil => exact ⟨hp, fun k => ⟨.inl, fun h => h.elim id (fun ⟨_, hz, _⟩ => by cases hz)⟩⟩
  | cons x l ih =>
    obtain ⟨g1, g2, g3⟩ := growL_plain hp (hf x List.mem_cons_self) fun z hz => hpl z hz x List.mem_cons_self
    obtain ⟨r1, r2⟩ := List.pairwise_cons.1 hr
    obtain ⟨i1, i2⟩ := ih (growL p x) g1 (fun z hz => hf z (List.mem_cons_of_mem _ hz)) r2 fun z hz u hu => Int.le_trans (g3 z hz) (r1 u hu)
    refine ⟨i1, fun k => ?_⟩
    rw [List.foldl_cons, i2, g2, InL_cons]
    exact or_assoc
/-- What Norm makes of a rising row of full spans: plain, with the same blocks. -/
theorem norm_plain (l : List Sp) (hf : ∀ x ∈ l, x.1 < x.2) (hr : l.Pairwise fun x y => x.1 ≤ y.1) : PlainL (l.foldl growL []) ∧ ∀ k, InL (l.foldl growL []) k ↔ InL l k := by
  obtain ⟨h1, h2⟩ := growF_plain l [] ⟨(fun _ h => by cases h), List.Pairwise.nil⟩ hf hr (fun _ h => by cases h)
  exact ⟨h1, fun k => (h2 k).trans ⟨fun h => h.elim (fun ⟨_, hz, _⟩ => by cases hz) id, .inr⟩⟩
/-- The blocks of a row are those of its full spans, in whatever order. -/
theorem InL_filter (l : List Sp) (p : Sp → Bool) (h : ∀ x, p x = false → x.2 ≤ x.1) (k : Int) : InL (l.filter p) k ↔ InL l k := by
  constructor
  · rintro ⟨z, hz, h'⟩
    exact ⟨z, (List.mem_filter.1 hz).1, h'⟩
  · rintro ⟨z, hz, h1, h2⟩
    refine ⟨z, List.mem_filter.2 ⟨hz, ?_⟩, h1, h2⟩
    cases hp : p z with
    | true => rfl
    | false => have := h z hp; omega
theorem InL_perm {a b : List Sp} (h : a.Perm b) (k : Int) : InL a k ↔ InL b k := by
  unfold InL
  exact exists_congr fun x => and_congr_left fun _ => h.mem_iff
/-- A number more, in its place, if it is not there. -/
def insE : List Int → Int → List Int
  | [], n => [n]
  | x :: l, n => if x = n then x :: l else if n < x then n :: x :: l else x :: insE l n
theorem insE_mem (l : List Int) (n m : Int) : m ∈ insE l n ↔ m = n ∨ m ∈ l := by
  induction l with
  | nil => simp [insE]
  | cons x l ih =>
    unfold insE
    split
    · rename_i h; subst h; simp
    · split
      · simp
      · simp only [List.mem_cons, ih]
        constructor
        · rintro (h | h | h)
          · exact .inr (.inl h)
          · exact .inl h
          · exact .inr (.inr h)
        · rintro (h | h | h)
          · exact .inr (.inl h)
          · exact .inl h
          · exact .inr (.inr h)
theorem insE_rises (l : List Int) (n : Int) (h : l.Pairwise fun x y => x < y) : (insE l n).Pairwise fun x y => x < y := by
  induction l with
  | nil => simp [insE]
  | cons x l ih =>
    obtain ⟨h1, h2⟩ := List.pairwise_cons.1 h
    unfold insE
    split
    · exact h
    · rename_i hne
      split
      · rename_i hlt
        refine List.pairwise_cons.2 ⟨fun z hz => ?_, h⟩
        rcases List.mem_cons.1 hz with rfl | hz
        · exact hlt
        · have := h1 z hz; omega
      · rename_i hge
        refine List.pairwise_cons.2 ⟨fun z hz => ?_, ih h2⟩
        rcases (insE_mem l n z).1 hz with rfl | hz
        · omega
        · exact h1 z hz
/-- The ends of a row's full spans. -/
def endsL (E : List Int) (l : List Sp) : List Int := l.foldl (fun E x => if x.1 < x.2 then insE (insE E x.1) x.2 else E) E
theorem endsL_rises (l : List Sp) (E : List Int) (h : E.Pairwise fun x y => x < y) : (endsL E l).Pairwise fun x y => x < y := by
  induction l generalizing E with
  | nil => exact h
  | cons x l ih =>
    refine ih _ ?_
    dsimp only
    split
    · exact insE_rises _ _ (insE_rises _ _ h)
    · exact h
theorem endsL_mem (l : List Sp) (E : List Int) (m : Int) : m ∈ endsL E l ↔ m ∈ E ∨ ∃ x ∈ l, x.1 < x.2 ∧ (m = x.1 ∨ m = x.2) := by
  induction l generalizing E with
  | nil => simp [endsL]
  | cons x l ih =>
    show m ∈ endsL _ l ↔ _
    rw [ih]
    dsimp only
    by_cases hx : x.1 < x.2
    · rw [if_pos hx, insE_mem, insE_mem]
      constructor
      · rintro ((h | h | h) | ⟨z, hz, h⟩)
        · exact .inr ⟨x, List.mem_cons_self, hx, .inr h⟩
        · exact .inr ⟨x, List.mem_cons_self, hx, .inl h⟩
        · exact .inl h
        · exact .inr ⟨z, List.mem_cons_of_mem _ hz, h⟩
      · rintro (h | ⟨z, hz, h1, h2⟩)
        · exact .inl (.inr (.inr h))
        · rcases List.mem_cons.1 hz with rfl | hz
          · exact h2.elim (fun h => .inl (.inr (.inl h))) fun h => .inl (.inl h)
          · exact .inr ⟨z, hz, h1, h2⟩
    · rw [if_neg hx]
      constructor
      · rintro (h | ⟨z, hz, h⟩)
        · exact .inl h
        · exact .inr ⟨z, List.mem_cons_of_mem _ hz, h⟩
      · rintro (h | ⟨z, hz, h1, h2⟩)
        · exact .inl h
        · rcases List.mem_cons.1 hz with rfl | hz
          · exact absurd h1 hx
          · exact .inr ⟨z, hz, h1, h2⟩
/-- The parts between ends that are kept. -/
def partsL (keep : Int → Bool) : List Int → List Sp
  | a :: b :: l => if keep a then (a, b) :: partsL keep (b :: l) else partsL keep (b :: l)
  | _ => []
theorem partsL_from (keep : Int → Bool) (E : List Int) (h : E.Pairwise fun x y => x < y) : (∀ x ∈ partsL keep E, x.1 < x.2 ∧ x.1 ∈ E) ∧ (partsL keep E).Pairwise (fun x y => x.2 ≤ y.1) := by
  match E with
  | [] => exact ⟨fun _ h => by simp [partsL] at h, by simp [partsL]⟩
  | [a] => exact ⟨fun _ h => by simp [partsL] at h, by simp [partsL]⟩
  | a :: b :: l =>
    obtain ⟨h1, h2⟩ := List.pairwise_cons.1 h
    obtain ⟨i1, i2⟩ := partsL_from keep (b :: l) h2
    have hb : ∀ z ∈ b :: l, b ≤ z := fun z hz => by
      rcases List.mem_cons.1 hz with rfl | hz
      · exact Int.le_refl _
      · have := (List.pairwise_cons.1 h2).1 z hz; omega
    unfold partsL
    split
    · refine ⟨fun x hx => ?_, List.pairwise_cons.2 ⟨fun x hx => hb _ (i1 x hx).2, i2⟩⟩
      rcases List.mem_cons.1 hx with rfl | hx
      · exact ⟨h1 b List.mem_cons_self, List.mem_cons_self⟩
      · exact ⟨(i1 x hx).1, List.mem_cons_of_mem _ (i1 x hx).2⟩
    · exact ⟨fun x hx => ⟨(i1 x hx).1, List.mem_cons_of_mem _ (i1 x hx).2⟩, i2⟩
/-- A set that turns at no number but those of E, and has nothing ahead of them and behind: the kept parts have just its blocks. -/
theorem partsL_in (keep : Int → Bool) (E : List Int) (h : E.Pairwise fun x y => x < y) (k : Int) : InL (partsL keep E) k ↔ ∃ a, a ∈ E ∧ a ≤ k ∧ keep a = true ∧ (∀ z ∈ E, z ≤ k → z ≤ a) ∧ ∃ z ∈ E, k < z := by
  match E with
  | [] => exact ⟨fun ⟨_, h, _⟩ => by simp [partsL] at h, fun ⟨_, h, _⟩ => by cases h⟩
  | [a] =>
    refine ⟨fun ⟨_, h, _⟩ => by simp [partsL] at h, fun ⟨b, hb, h1, _, _, z, hz, h2⟩ => ?_⟩
    rw [List.mem_singleton.1 hb] at h1
    rw [List.mem_singleton.1 hz] at h2
    omega
  | a :: b :: l =>
    obtain ⟨h1, h2⟩ := List.pairwise_cons.1 h
    have ih := partsL_in keep (b :: l) h2 k
    have hab := h1 b List.mem_cons_self
    have hb : ∀ z ∈ b :: l, b ≤ z := fun z hz => by
      rcases List.mem_cons.1 hz with rfl | hz
      · exact Int.le_refl _
      · have := (List.pairwise_cons.1 h2).1 z hz; omega
    have hin : InL (partsL keep (a :: b :: l)) k ↔ (keep a = true ∧ a ≤ k ∧ k < b) ∨ InL (partsL keep (b :: l)) k := by
      conv => lhs; unfold partsL
      split
      · rename_i hk
        rw [InL_cons]
        simp [hk]
      · rename_i hk
        simp [hk]
    rw [hin, ih]
    constructor
    · rintro (⟨g1, g2, g3⟩ | ⟨c, c1, c2, c3, c4, z, z1, z2⟩)
      · refine ⟨a, List.mem_cons_self, g2, g1, fun z hz hzk => ?_, b, by simp, g3⟩
        rcases List.mem_cons.1 hz with rfl | hz
        · exact Int.le_refl _
        · have := hb z hz; omega
      · refine ⟨c, List.mem_cons_of_mem _ c1, c2, c3, fun u hu huk => ?_, z, List.mem_cons_of_mem _ z1, z2⟩
        rcases List.mem_cons.1 hu with rfl | hu
        · have := hb c c1; omega
        · exact c4 u hu huk
    · rintro ⟨c, c1, c2, c3, c4, z, z1, z2⟩
      rcases List.mem_cons.1 c1 with rfl | d1
      · refine .inl ⟨c3, c2, ?_⟩
        by_cases hk : b ≤ k
        · have := c4 b (by simp) hk; omega
        · omega
      · refine .inr ⟨c, d1, c2, c3, fun u hu huk => c4 u (List.mem_cons_of_mem _ hu) huk, z, ?_, z2⟩
        have := hb c d1
        rcases List.mem_cons.1 z1 with e | z1
        · omega
        · exact z1
theorem last_le (E : List Int) (k : Int) (h : ∃ z ∈ E, z ≤ k) : ∃ a ∈ E, a ≤ k ∧ ∀ z ∈ E, z ≤ k → z ≤ a := by
  induction E with
  | nil => obtain ⟨_, h, _⟩ := h; cases h
  | cons x E ih =>
    by_cases hx : ∃ z ∈ E, z ≤ k
    · obtain ⟨a, a1, a2, a3⟩ := ih hx
      by_cases hxa : x ≤ k ∧ a < x
      · refine ⟨x, List.mem_cons_self, hxa.1, fun z hz hzk => ?_⟩
        rcases List.mem_cons.1 hz with e | hz
        · omega
        · have := a3 z hz hzk; omega
      · refine ⟨a, List.mem_cons_of_mem _ a1, a2, fun z hz hzk => ?_⟩
        rcases List.mem_cons.1 hz with e | hz
        · omega
        · exact a3 z hz hzk
    · obtain ⟨z, hz, hzk⟩ := h
      rcases List.mem_cons.1 hz with e | hz
      · refine ⟨x, List.mem_cons_self, by omega, fun u hu huk => ?_⟩
        rcases List.mem_cons.1 hu with e | hu
        · omega
        · exact absurd ⟨u, hu, huk⟩ hx
      · exact absurd ⟨z, hz, hzk⟩ hx
/-- The ends of the row's full spans are in E. -/
def EndsIn (E : List Int) (l : List Sp) : Prop := ∀ x ∈ l, x.1 < x.2 → x.1 ∈ E ∧ x.2 ∈ E
/-- Between ends a row does not turn. -/
theorem EndsIn.turn {E : List Int} {l : List Sp} (h : EndsIn E l) {a k : Int} (hak : a ≤ k) (hm : ∀ z ∈ E, z ≤ k → z ≤ a) : InL l a ↔ InL l k := by
  constructor
  · rintro ⟨x, hx, h1, h2⟩
    refine ⟨x, hx, by omega, ?_⟩
    by_cases hk : k < x.2
    · exact hk
    · have := hm x.2 (h x hx (by omega)).2 (by omega); omega
  · rintro ⟨x, hx, h1, h2⟩
    exact ⟨x, hx, hm x.1 (h x hx (by omega)).1 h1, by omega⟩
theorem EndsIn.around {E : List Int} {l : List Sp} (h : EndsIn E l) {k : Int} (hk : InL l k) : (∃ z ∈ E, z ≤ k) ∧ ∃ z ∈ E, k < z := by
  obtain ⟨x, hx, h1, h2⟩ := hk
  have := h x hx (by omega)
  exact ⟨⟨x.1, this.1, h1⟩, x.2, this.2, h2⟩
/-- The kept parts have just the blocks of a set that turns at ends only and lies among them. -/
theorem parts_of (keep : Int → Bool) (E : List Int) (hE : E.Pairwise fun x y => x < y) (P : Int → Prop) (hk : ∀ a, keep a = true ↔ P a) (ht : ∀ a k, a ≤ k → (∀ z ∈ E, z ≤ k → z ≤ a) → (P a ↔ P k)) (ha : ∀ k, P k → (∃ z ∈ E, z ≤ k) ∧ ∃ z ∈ E, k < z) (k : Int) : InL (partsL keep E) k ↔ P k := by
  rw [partsL_in keep E hE k]
  constructor
  · rintro ⟨a, -, h2, h3, h4, -⟩
    exact (ht a k h2 h4).1 ((hk a).1 h3)
  · intro h
    obtain ⟨h1, h2⟩ := ha k h
    obtain ⟨a, a1, a2, a3⟩ := last_le E k h1
    exact ⟨a, a1, a2, (hk a).2 ((ht a k a2 a3).2 h), a3, h2⟩
/-- A kept part, behind those that are there: grown together where it stands side by side with the last. -/
def putL (p : List Sp) (x : Sp) : List Sp :=
  match p.getLast? with
  | none => [x]
  | some y => if y.2 = x.1 then p.dropLast ++ [(y.1, x.2)] else p ++ [x]
theorem putL_snoc (q : List Sp) (y x : Sp) : putL (q ++ [y]) x = if y.2 = x.1 then q ++ [(y.1, x.2)] else (q ++ [y]) ++ [x] := by simp [putL]
theorem putL_grow (p : List Sp) (x : Sp) (hx : x.1 < x.2) (h : ∀ y, p.getLast? = some y → y.2 ≤ x.1) : putL p x = growL p x ∧ ∀ y, (putL p x).getLast? = some y → y.2 = x.2 := by
  rcases List.eq_nil_or_concat p with rfl | ⟨q, y, rfl⟩
  · exact ⟨rfl, fun y hy => by simp [putL] at hy; rw [← hy]⟩
  · rw [List.concat_eq_append] at h ⊢
    have hy := h y (by simp)
    rw [putL_snoc, growL_snoc]
    by_cases he : y.2 = x.1
    · rw [if_pos he, if_neg (by omega)]
      have hm : max y.2 x.2 = x.2 := by omega
      rw [hm]
      exact ⟨rfl, fun z hz => by simp at hz; rw [← hz]⟩
    · rw [if_neg he, if_pos (by omega)]
      exact ⟨rfl, fun z hz => by simp at hz; rw [← hz]⟩
theorem putF_grow (l p : List Sp) (hf : ∀ x ∈ l, x.1 < x.2) (hr : l.Pairwise fun x y => x.2 ≤ y.1) (h : ∀ y, p.getLast? = some y → ∀ x ∈ l, y.2 ≤ x.1) : l.foldl putL p = l.foldl growL p := by
  induction l generalizing p with
  | nil => rfl
  | cons x l ih =>
    obtain ⟨r1, r2⟩ := List.pairwise_cons.1 hr
    obtain ⟨e, hl⟩ := putL_grow p x (hf x List.mem_cons_self) fun y hy => h y hy x List.mem_cons_self
    rw [List.foldl_cons, List.foldl_cons, ← e]
    refine ih _ (fun z hz => hf z (List.mem_cons_of_mem _ hz)) r2 fun y hy z hz => ?_
    rw [hl y hy]
    exact r1 z hz
/-- What Build makes of the kept parts: plain, with their blocks. -/
theorem build_plain (keep : Int → Bool) (E : List Int) (hE : E.Pairwise fun x y => x < y) : PlainL ((partsL keep E).foldl putL []) ∧ ∀ k, InL ((partsL keep E).foldl putL []) k ↔ InL (partsL keep E) k := by
  obtain ⟨h1, h2⟩ := partsL_from keep E hE
  rw [putF_grow _ [] (fun x hx => (h1 x hx).1) h2 (fun y hy => by simp at hy)]
  refine norm_plain _ (fun x hx => (h1 x hx).1) ?_
  refine List.Pairwise.imp_of_mem ?_ h2
  intro x y hx _ h
  have := (h1 x hx).1
  omega
/-- What the document answers: a row by what two rows have. -/
def ofL (a b : List Sp) (keep : Int → Bool) : List Sp := (partsL keep (endsL (endsL [] a) b)).foldl putL []
theorem ofL_plain (a b : List Sp) (keep : Int → Bool) (P : Prop → Prop → Prop) (h0 : ¬ P False False) (hk : ∀ k, keep k = true ↔ P (InL a k) (InL b k)) : PlainL (ofL a b keep) ∧ ∀ k, InL (ofL a b keep) k ↔ P (InL a k) (InL b k) := by
  have hE : (endsL (endsL [] a) b).Pairwise fun x y => x < y := endsL_rises b _ (endsL_rises a [] List.Pairwise.nil)
  have ea : EndsIn (endsL (endsL [] a) b) a := fun x hx h => by
    constructor <;> (rw [endsL_mem, endsL_mem]; exact .inl (.inr ⟨x, hx, h, by simp⟩))
  have eb : EndsIn (endsL (endsL [] a) b) b := fun x hx h => by
    constructor <;> (rw [endsL_mem]; exact .inr ⟨x, hx, h, by simp⟩)
  obtain ⟨h1, h2⟩ := build_plain keep _ hE
  refine ⟨h1, fun k => (h2 k).trans (parts_of keep _ hE (fun k => P (InL a k) (InL b k)) hk ?_ ?_ k)⟩
  · intro u v huv hm
    rw [propext (ea.turn huv hm), propext (eb.turn huv hm)]
  · intro v hv
    by_cases ha : InL a v
    · exact ea.around ha
    · by_cases hb : InL b v
      · exact eb.around hb
      · rw [eq_false ha, eq_false hb] at hv
        exact absurd hv h0
end Go.Proofs.YtmocedkbabnpfaaGreat
namespace Go.Proofs.YtmocedkbabnpfaaGreat
open Go.RowKit

theorem Sps.lit {w : World} {b o cap : Nat} {l : List Sp} (h : Sps w (.slice (some ⟨b, o, none⟩) l.length cap) l) (j : Nat) (hj : j < l.length) : w.cell? ⟨b, o + j * 2, none⟩ = some (.int .i64 l[j].1) ∧ w.cell? ⟨b, o + j * 2 + 1, none⟩ = some (.int .i64 l[j].2) := by
  obtain ⟨ao, n, cap', e, h1, h2, h3, h4, h5⟩ := h
  cases e
  have := h5 _ rfl j hj
  rw [Addr.add_lit, Addr.add_lit, ← Nat.add_assoc] at this
  exact this
theorem Sps.addr {w : World} {ao : Option Addr} {cap : Nat} {l : List Sp} (h : Sps w (.slice ao l.length cap) l) (hl : 0 < l.length) : ∃ b o, ao = some ⟨b, o, none⟩ := by
  obtain ⟨ao', n, cap', e, h1, h2, h3, h4, h5⟩ := h
  cases e
  cases ao with
  | none => have := h4 rfl; omega
  | some a =>
    have h0 := (h5 a rfl 0 hl).1
    have := World.cell?_spot h0
    obtain ⟨b, o, sp⟩ := a
    simp [Addr.add] at this
    subst this
    exact ⟨b, o, rfl⟩
/-- Whether the row has the block. -/
def hasB (l : List Sp) (k : Int) : Bool := l.any fun x => decide (x.1 ≤ k) && decide (k < x.2)
theorem hasB_iff (l : List Sp) (k : Int) : hasB l k = true ↔ InL l k := by simp [hasB, InL]
theorem hasB_next (l : List Sp) (k : Int) (i : Nat) (h : i < l.length) : hasB (l.take (i + 1)) k = (hasB (l.take i) k || (decide (l[i].1 ≤ k) && decide (k < l[i].2))) := by
  unfold hasB
  rw [List.take_succ_eq_append_getElem h, List.any_append]
  simp only [List.any_cons, List.any_nil, Bool.or_false]
theorem hasB_at (l : List Sp) (k : Int) (i : Nat) (h : i < l.length) (h1 : l[i].1 ≤ k) (h2 : k < l[i].2) : hasB l k = true := (hasB_iff l k).2 ⟨l[i], List.getElem_mem h, h1, h2⟩
set_option maxHeartbeats 1600000 in
theorem rhas_any (v : Value) (l : List Sp) (k : Int) (w : World) (hv : Sps w v l) (hl : l.length ≤ 1000000000) :
    Calls Tryz.prog 35 #[v, .int .i64 k] w fun e w' => e = .returned (.bool (hasB l k)) ∧ Below w.heap.size w w' := by
  have HV := hid hv
  obtain ⟨ao, cap, rfl⟩ := hv.shape
  clear hv
  have hlI : (l.length : Int) ≤ 1000000000 := by omega
  obtain ⟨r, hr⟩ : ∃ r, r = hasB l k := ⟨_, rfl⟩
  rw [← hr]
  have HR := hid hr
  clear hr
  go_enter Tryz.func35, Tryz.ntmps35
  go_wp2_with fail
  go_loopw [6, 9] (fun _ iv wr => ∃ i : Nat, iv = .int .i64 i ∧ i ≤ l.length ∧ hasB (l.take i) k = false ∧ Below w.heap.size w wr) (fun _ iv _ => l.length - (intOf iv).toNat)
  case atStart => exact ⟨0, rfl, Nat.zero_le _, by simp [hasB], Below.refl _ _⟩
  case round =>
    obtain ⟨i, rfl, hi, hh, hb⟩ := hrel
    have HH := hid hh
    have HB := hid hb
    have HVR := hid (HV.out.below hb)
    clear hh hb
    by_cases hlt : i < l.length
    · obtain ⟨b, o, rfl⟩ := HVR.out.addr (by omega)
      obtain ⟨c0, c1⟩ := HVR.out.lit i hlt
      obtain ⟨x, hx⟩ : ∃ x, x = l[i] := ⟨_, rfl⟩
      rw [← hx] at c0 c1
      have HX := hid hx
      clear hx
      obtain ⟨p, q⟩ := x
      have HBA : Hid (Below w.heap.size w (wr.alloc (.cells #[.int .i64 p, .int .i64 q] 24))) := hid (HB.out.alloc HB.out.size _)
      by_cases h1 : p ≤ k
      · by_cases h2 : k < q
        · have HT : Hid (r = true) := hid (by rw [HR.out]; exact hasB_at l k i hlt (by rw [← HX.out]; exact h1) (by rw [← HX.out]; exact h2))
          go_wp2
          go_ret
          exact ⟨by rw [HT.out]; rfl, HBA.out⟩
        · have HN : Hid (hasB (l.take (i + 1)) k = false) := hid (by rw [hasB_next l k i hlt, HH.out, ← HX.out]; simp; omega)
          go_wp2
          go_roundw
          case rel => exact ⟨i + 1, by go_num, by omega, HN.out, HBA.out⟩
          case measure => simp [intOf]; omega
      · have HN : Hid (hasB (l.take (i + 1)) k = false) := hid (by rw [hasB_next l k i hlt, HH.out, ← HX.out]; simp; omega)
        go_wp2
        go_roundw
        case rel => exact ⟨i + 1, by go_num, by omega, HN.out, HBA.out⟩
        case measure => simp [intOf]; omega
    · have HT : Hid (r = false) := hid (by have := HH.out; rw [List.take_of_length_le (by omega)] at this; rw [HR.out]; exact this)
      go_wp2
      go_ret
      exact ⟨by rw [HT.out]; rfl, HB.out⟩
theorem below_drewN {B : Nat} {w w' : World} (h : Below B w w') (q : Nat) : Below B w (w'.drewN q) := ⟨h.os, h.tape, h.output, h.size, h.block⟩
theorem take_eq_next {a b : List Sp} (i : Nat) (ha : i < a.length) (hb : i < b.length) (h : a.take i = b.take i) (he : a[i] = b[i]) : a.take (i + 1) = b.take (i + 1) := by
  rw [List.take_succ_eq_append_getElem ha, List.take_succ_eq_append_getElem hb, h, he]
set_option maxHeartbeats 1600000 in
theorem rsame_any (u v : Value) (a b : List Sp) (w : World) (hu : Sps w u a) (hv : Sps w v b) (hl : a.length ≤ 1000000000) :
    Calls Tryz.prog 9 #[u, v] w fun e w' => e = .returned (.bool (decide (a = b))) ∧ Below w.heap.size w w' := by
  have HU := hid hu
  have HV := hid hv
  obtain ⟨ao, acap, rfl⟩ := hu.shape
  obtain ⟨bo, bcap, rfl⟩ := hv.shape
  clear hu hv
  have hlI : (a.length : Int) ≤ 1000000000 := by omega
  obtain ⟨r, hr⟩ : ∃ r, r = decide (a = b) := ⟨_, rfl⟩
  rw [← hr]
  have HR := hid hr
  clear hr
  go_enter Tryz.func9, Tryz.ntmps9
  by_cases hn : a.length = b.length
  · have hnI : ((a.length : Int) != (b.length : Int)) = false := by simp; omega
    have HN := hid hn
    clear hn
    go_wp2_with fail
    go_loopw [5, 13] (fun _ iv wr => ∃ i : Nat, iv = .int .i64 i ∧ i ≤ a.length ∧ a.take i = b.take i ∧ Below w.heap.size w wr) (fun _ iv _ => a.length - (intOf iv).toNat)
    case atStart => exact ⟨0, rfl, Nat.zero_le _, by simp, Below.refl _ _⟩
    case round =>
      obtain ⟨i, rfl, hi, hh, hb⟩ := hrel
      have HH := hid hh
      have HB := hid hb
      have HUR := hid (HU.out.below hb)
      have HVR := hid (HV.out.below hb)
      clear hh hb
      by_cases hlt : i < a.length
      · have hlt' : i < b.length := by have := HN.out; omega
        obtain ⟨g, o, rfl⟩ := HUR.out.addr (by omega)
        obtain ⟨g', o', rfl⟩ := HVR.out.addr (by omega)
        obtain ⟨c0, c1⟩ := HUR.out.lit i hlt
        obtain ⟨d0, d1⟩ := HVR.out.lit i (by omega)
        obtain ⟨x, hx⟩ : ∃ x, x = a[i] := ⟨_, rfl⟩
        obtain ⟨y, hy⟩ : ∃ y, y = b[i]'(by omega) := ⟨_, rfl⟩
        rw [← hx] at c0 c1
        rw [← hy] at d0 d1
        have HX := hid hx
        have HY := hid hy
        clear hx hy
        obtain ⟨p, q⟩ := x
        obtain ⟨s, t⟩ := y
        by_cases h : p = s ∧ q = t
        · obtain ⟨rfl, rfl⟩ := h
          have HE : Hid (a.take (i + 1) = b.take (i + 1)) := hid (take_eq_next i hlt (by omega) HH.out (by rw [← HX.out, ← HY.out]))
          go_wp2_with fail
          go_quiet (fail)
          go_wp2
          go_roundw
          case rel => exact ⟨i + 1, by go_num, by omega, HE.out, below_drewN HB.out _⟩
          case measure => simp [intOf]; omega
        · have HT : Hid (r = false) := hid (by
            rw [HR.out]
            simp
            intro e
            subst e
            have := HX.out.trans HY.out.symm
            cases this
            exact h ⟨rfl, rfl⟩)
          clear HX HY
          by_cases hp : p = s
          · subst hp
            have hne : (q == t) = false := by simp; exact fun e => h ⟨rfl, e⟩
            have hne' : (q != t) = true := by simp; exact fun e => h ⟨rfl, e⟩
            clear h
            go_wp2_with fail
            go_quiet (fail)
            go_wp2
            go_ret
            exact ⟨by rw [HT.out]; rfl, below_drewN HB.out _⟩
          · have hne : (p == s) = false := by simpa using hp
            clear h
            go_wp2_with fail
            go_quiet (fail)
            go_wp2
            go_ret
            exact ⟨by rw [HT.out]; rfl, below_drewN HB.out _⟩
      · have HT : Hid (r = true) := hid (by
          have := HH.out
          rw [List.take_of_length_le (by omega), List.take_of_length_le (by have := HN.out; omega)] at this
          rw [HR.out]; simpa using this)
        go_wp2
        go_ret
        exact ⟨by rw [HT.out]; rfl, HB.out⟩
  · have hnI : ((a.length : Int) != (b.length : Int)) = true := by simp; omega
    have HT : Hid (r = false) := hid (by rw [HR.out]; simp; intro e; exact hn (by rw [e]))
    go_wp2
    go_ret
    exact ⟨by rw [HT.out]; rfl, Below.refl _ _⟩
end Go.Proofs.YtmocedkbabnpfaaGreat
namespace Go.Proofs.YtmocedkbabnpfaaGreat
open Go.RowKit Go.Shelf

/-- r is the plain row of l's blocks. -/
structure NormOf (l r : List Sp) : Prop where
  plain : PlainL r
  mem : ∀ k, InL r k ↔ InL l k
  len : r.length ≤ l.length
theorem norm_any (v : Value) (l : List Sp) (w : World) (hv : Sps w v l) (hl : l.length ≤ 1000000000) :
    Calls Tryz.prog 73 #[v] w fun e w' => ∃ r va vc, NormOf l r ∧ e = .returned (.slice va r.length vc) ∧ OwnS w' w.heap.size (.slice va r.length vc) r ∧ Below w.heap.size w w' := by
  refine (norm_walk v l w hv hl).mono ?_
  rintro e w' ⟨l', va, vc, hp, hr, rfl, ho, hb⟩
  have hf : ∀ x ∈ l', x.1 < x.2 := fun x hx => by
    have := hp.mem_iff.1 hx
    unfold full at this
    simp only [List.mem_filter, Bool.not_eq_eq_eq_not, Bool.not_true, decide_eq_false_iff_not] at this
    omega
  have h := norm_plain l' hf hr
  refine ⟨_, va, vc, ⟨h.1, fun k => ?_, ?_⟩, rfl, ho, hb⟩
  · rw [h.2 k, InL_perm hp k]
    exact InL_filter l _ (fun x hx => by simpa using hx) k
  · have h1 := growF_len l' []
    have h2 := hp.length_eq
    have h3 : (full l).length ≤ l.length := List.length_filter_le _ _
    simp at h1
    omega
/-- A block of spans, as a slice. -/
theorem sps_block {W : World} {k : Nat} {cs : Array Value} {t : TypeId} {fr : Nat × Nat} (l : List Sp) (h : W.heap[k]? = some (.cells cs t fr)) (hc : ∀ j, (hj : j < l.length) → cs[j * 2]? = some (.int .i64 l[j].1) ∧ cs[j * 2 + 1]? = some (.int .i64 l[j].2)) (hl : l.length ≤ 1000) : Sps W (.slice (some ⟨k, 0, none⟩) l.length l.length) l := by
  refine ⟨_, _, _, rfl, rfl, Nat.le_refl _, by omega, (fun h => by cases h), ?_⟩
  intro ad had j hj
  obtain rfl := Option.some.inj had
  rw [Addr.add_lit, Addr.add_lit, Nat.zero_add, Nat.zero_add, cell_of_row W k _ _ _ _ h, cell_of_row W k _ _ _ _ h]
  exact hc j hj
theorem near_0 {s : Sp} {i j : Nat} (h : NearL [] s i j) : i = 0 ∧ j = 0 := by have h1 := h.ij; have h2 := h.jl; simp at h2; omega
theorem near_1 {i j : Nat} (h : NearL [(0, 9, 1)] (3, 5) i j) : i = 0 ∧ j = 1 := by
  have h1 := h.ij
  have h2 := h.jl
  simp at h2
  have a1 : ¬ 0 < i := fun hh => by have := h.f1 0 (by simp) hh; simp at this
  have a4 : ¬ j ≤ 0 := fun hh => by have := h.f4 0 (by simp) hh; simp at this
  omega
theorem near_3 {i j : Nat} (h : NearL [(0, 3, 1), (3, 5, 2), (5, 9, 1)] (3, 5) i j) : i = 0 ∧ j = 3 := by
  have h1 := h.ij
  have h2 := h.jl
  simp at h2
  have a1 : ¬ 0 < i := fun hh => by have := h.f1 0 (by simp) hh; simp at this
  have a4 : ¬ j ≤ 2 := fun hh => by have := h.f4 2 (by simp) hh; simp at this
  omega
theorem ch_0 : chL [] [(0, 9, 1)] (0, 9) 0 0 = [(0, 9, 1)] := by decide
theorem ch_1 : chL [(0, 9, 1)] [(3, 5, 2)] (3, 5) 0 1 = [(0, 3, 1), (3, 5, 2), (5, 9, 1)] := by decide
theorem ch_3 : chL [(0, 3, 1), (3, 5, 2), (5, 9, 1)] [(3, 5, 1)] (3, 5) 0 3 = [(0, 9, 1)] := by decide
theorem rise_1 : Rise3 [(0, 9, 1)] := by intro i j h hj; simp at hj; omega
theorem rise_3 : Rise3 [(0, 3, 1), (3, 5, 2), (5, 9, 1)] := by
  intro i j h hj
  simp at hj
  have : (i = 0 ∧ j = 1) ∨ (i = 0 ∧ j = 2) ∨ (i = 1 ∧ j = 2) := by omega
  rcases this with ⟨rfl, rfl⟩ | ⟨rfl, rfl⟩ | ⟨rfl, rfl⟩ <;> simp
theorem norm_ex {r : List Sp} (h : NormOf [(5, 8), (1, 3), (3, 4), (7, 9)] r) : r = [(1, 4), (5, 9)] := by
  refine plain_unique h.plain ?_ fun k => ?_
  · refine ⟨?_, ?_⟩
    · intro x hx; simp at hx; rcases hx with rfl | rfl <;> decide
    · simp
  · rw [h.mem k]
    simp [InL]
    omega
end Go.Proofs.YtmocedkbabnpfaaGreat
namespace Go.Proofs.YtmocedkbabnpfaaGreat
open Go.RowKit

theorem insE_behind (q : List Int) (n : Int) (h : ∀ y ∈ q, y < n) : insE q n = q ++ [n] := by
  induction q with
  | nil => rfl
  | cons z q ih =>
    have hz := h z List.mem_cons_self
    unfold insE
    rw [if_neg (by omega), if_neg (by omega), ih fun y hy => h y (List.mem_cons_of_mem _ hy)]
    rfl
theorem insE_within (q : List Int) (n x : Int) (hn : n ∉ q) (h : ∃ y ∈ q, n < y) : insE (q ++ [x]) n = insE q n ++ [x] := by
  induction q with
  | nil => obtain ⟨_, h, _⟩ := h; cases h
  | cons z q ih =>
    have hz : z ≠ n := fun e => hn (by rw [e]; exact List.mem_cons_self)
    rw [List.cons_append]
    unfold insE
    rw [if_neg hz, if_neg hz]
    by_cases hlt : n < z
    · rw [if_pos hlt, if_pos hlt]; rfl
    · rw [if_neg hlt, if_neg hlt, ih (fun hm => hn (List.mem_cons_of_mem _ hm)) ?_]
      · rfl
      · obtain ⟨y, hy, hny⟩ := h
        rcases List.mem_cons.1 hy with e | hy
        · exact absurd (e ▸ hny) hlt
        · exact ⟨y, hy, hny⟩
theorem insE_ahead (q : List Int) (n x : Int) (h : ∀ y ∈ q, y < n) (hx : n < x) : insE (q ++ [x]) n = q ++ [n] ++ [x] := by
  induction q with
  | nil =>
    show insE (x :: []) n = [n, x]
    unfold insE
    rw [if_neg (by omega), if_pos hx]
  | cons z q ih =>
    have hz := h z List.mem_cons_self
    rw [List.cons_append]
    unfold insE
    rw [if_neg (by omega), if_neg (by omega), ih fun y hy => h y (List.mem_cons_of_mem _ hy)]
    rfl
theorem insE_there (l : List Int) (n : Int) (hs : l.Pairwise fun x y => x < y) (h : n ∈ l) : insE l n = l := by
  induction l with
  | nil => cases h
  | cons z l ih =>
    obtain ⟨h1, h2⟩ := List.pairwise_cons.1 hs
    unfold insE
    by_cases hz : z = n
    · rw [if_pos hz]
    · rw [if_neg hz]
      rcases List.mem_cons.1 h with e | h
      · exact absurd e.symm hz
      · have := h1 n h
        rw [if_neg (by omega), ih h2 h]
/-- Numbers as values. -/
def ivs (l : List Int) : List Value := l.map fun x => .int .i64 x
/-- The value v is a row of the call's own, its numbers are l. -/
def OwnN (w : World) (base : Nat) (v : Value) (l : List Int) : Prop := w.ownsRow base 3 1 v l.length (ivs l)
theorem OwnN.nil (w : World) (base : Nat) : OwnN w base (.slice none 0 0) [] := World.ownsRow_nil _ _ _ _
theorem OwnN.shape {w : World} {base : Nat} {v : Value} {l : List Int} (h : OwnN w base v l) : ∃ va vc, v = .slice va l.length vc := by
  obtain ⟨h1, h2⟩ := h
  rcases h2 with ⟨rfl, h0⟩ | ⟨g, cap, cur, rfl, -⟩
  · exact ⟨none, 0, by rw [h0]⟩
  · exact ⟨_, _, rfl⟩
theorem OwnN.kept {w w' : World} {base : Nat} {v : Value} {l : List Int} (h : OwnN w base v l) (hb : ∀ k, base ≤ k → k < w.heap.size → w'.heap[k]? = w.heap[k]?) : OwnN w' base v l := by
  obtain ⟨h1, h2⟩ := h
  refine ⟨h1, ?_⟩
  rcases h2 with h2 | ⟨g, cap, cur, hv, hg, hh, r⟩
  · exact Or.inl h2
  · exact Or.inr ⟨g, cap, cur, hv, hg, by rw [hb g hg (lt_of_block hh)]; exact hh, r⟩
theorem OwnN.below {w w' : World} {base : Nat} {v : Value} {l : List Int} (h : OwnN w base v l) (hb : Below w.heap.size w w') : OwnN w' base v l := h.kept fun k _ hk => hb.block k hk
theorem OwnN.lower {w : World} {base base' : Nat} {v : Value} {l : List Int} (h : OwnN w base v l) (hb : base' ≤ base) : OwnN w base' v l := by
  obtain ⟨h1, h2⟩ := h
  refine ⟨h1, ?_⟩
  rcases h2 with h2 | ⟨g, cap, cur, hv, hg, r⟩
  · exact Or.inl h2
  · exact Or.inr ⟨g, cap, cur, hv, by omega, r⟩
theorem OwnN.at_lit {w : World} {base : Nat} {va : Option Addr} {vc : Nat} {l : List Int} (h : OwnN w base (.slice va l.length vc) l) (j : Nat) (hj : j < l.length) : ∃ g, va = some ⟨g, 0, none⟩ ∧ w.cell? ⟨g, j, none⟩ = some (.int .i64 l[j]) := by
  obtain ⟨h1, h2⟩ := id h
  rcases h2 with ⟨e, h0⟩ | ⟨g, cap, cur, e, -⟩
  · omega
  · cases e
    have := World.ownsRow.cells h rfl j (.int .i64 l[j]) (by simp [ivs, hj])
    exact ⟨g, rfl, by simpa [Addr.add_lit] using this⟩
theorem Tryz.underlyingIs : Tryz.prog.underlying 31 = some (.slice 3) := by kernel_rfl
theorem Tryz.infoI : (Tryz.prog.info? 3).map (fun i => (i.zero, i.size, i.bytes)) = some (some (.int .i64 0), 1, 8) := by kernel_rfl
theorem one_cellN {w : World} {g : Nat} {u : Value} (h : w.cell? ⟨g, 0, none⟩ = some u) : ∀ j x, [u][j]? = some x → w.cell? ((⟨g, 0, none⟩ : Addr).add j) = some x := by
  intro j x hj
  match j with
  | 0 => simp at hj; subst hj; exact h
  | j + 1 => simp at hj
theorem one_int (x : Int) : ∀ u ∈ [Value.int .i64 x], u.oneCell' = true := by intro u hu; simp at hu; subst hu; rfl
/-- A number more behind a row of the call's own. -/
theorem wpl_appendN {w : World} {ops : Array Oper} {rest : List Oper} {o : Oper} {a : Act} {Q : Exit → Act → World → Prop} (hgd : o.guard = none) (s x : Operand)
    (ho : o.op = .call { callee := .builtin .append, args := #[s, x], argTypes := #[31, 31] })
    (base : Nat) (v : Value) (l : List Int) (hs : a.eval s = v) (hown : OwnN w base v l) (g : Nat) (y : Int) (hx : a.eval x = .slice (some ⟨g, 0, none⟩) 1 1) (hg : w.cell? ⟨g, 0, none⟩ = some (.int .i64 y))
    (hl : l.length ≤ 1000000001) (hbase : base ≤ w.heap.size)
    (h : ∀ va vc m w', m = l ++ [y] → OwnN w' base (.slice va m.length vc) m → Below base w w' → wpList Tryz.prog ops Q rest (a.put o.dst (.slice va m.length vc)) w') :
    wpList Tryz.prog ops Q (o :: rest) a w := by
  obtain ⟨i, hi, hz0, hz1, hz2⟩ := info_parts Tryz.infoI
  refine wpList_append_own w hgd s x 31 ho base 3 i (.int .i64 0) 1 8 Tryz.underlyingIs hi hz0 hz1 hz2 rfl (by decide) v l.length (ivs l) hs hown ⟨g, 0, none⟩ 1 1 [.int .i64 y] hx rfl (one_cellN hg) (one_int y) (by unfold maxLen; omega) (by omega) hbase ?_
  intro v' w' ho' hg' _
  have ho2 : OwnN w' base v' (l ++ [y]) := by
    show w'.ownsRow _ _ _ _ (l ++ [y]).length (ivs (l ++ [y]))
    rw [List.length_append]
    have e : ivs (l ++ [y]) = ivs l ++ [.int .i64 y] := by simp [ivs]
    rw [e]; exact ho'
  obtain ⟨va, vc, rfl⟩ := ho2.shape
  refine h va vc _ w' rfl ho2 ⟨hg'.os, hg'.tape, hg'.output, hg'.size, fun k hk => hg'.block k (by omega) fun e => ?_⟩
  have := (World.ownsRow.lt hown k e.symm).1
  omega
/-- What in has laid of a beginning of the row. -/
structure InsI (p : List Int) (n : Int) (laid : Bool) (q : List Int) : Prop where
  out : n ∉ p
  yes : laid = true → (∃ y ∈ p, n < y) ∧ q = insE p n
  no : laid = false → (∀ y ∈ p, y < n) ∧ q = p
theorem InsI.start (n : Int) : InsI [] n false [] := ⟨by simp, (fun h => by cases h), (fun _ => ⟨(fun y hy => by cases hy), rfl⟩)⟩
theorem InsI.len {p : List Int} {n : Int} {laid : Bool} {q : List Int} (h : InsI p n laid q) : q.length ≤ p.length + 1 := by
  cases laid with
  | false => rw [(h.no rfl).2]; omega
  | true =>
    rw [(h.yes rfl).2]
    have : ∀ p : List Int, (insE p n).length ≤ p.length + 1 := by
      intro p
      induction p with
      | nil => simp [insE]
      | cons z p ih =>
        unfold insE
        split
        · simp
        · split
          · simp
          · simp; exact ih
    exact this p
theorem InsI.end {p : List Int} {n : Int} {laid : Bool} {q : List Int} (h : InsI p n laid q) : (laid = true → q = insE p n) ∧ (laid = false → q ++ [n] = insE p n) :=
  ⟨fun e => (h.yes e).2, fun e => by rw [(h.no e).2, insE_behind p n (h.no e).1]⟩
theorem InsI.put {p : List Int} {n x : Int} {q : List Int} (h : InsI p n false q) (hx : n < x) : InsI (p ++ [x]) n true (q ++ [n] ++ [x]) := by
  obtain ⟨h1, h2⟩ := h.no rfl
  subst h2
  exact ⟨by simp; exact ⟨h.out, by omega⟩, fun _ => ⟨⟨x, by simp, hx⟩, (insE_ahead q n x h1 hx).symm⟩, fun e => by cases e⟩
theorem InsI.on {p : List Int} {n x : Int} {laid : Bool} {q : List Int} (h : InsI p n laid q) (hx : x ≠ n) (hl : laid = false → ¬ n < x) : InsI (p ++ [x]) n laid (q ++ [x]) := by
  refine ⟨by simp; exact ⟨h.out, fun e => hx e.symm⟩, fun e => ?_, fun e => ?_⟩
  · obtain ⟨⟨y, hy, hn⟩, h2⟩ := h.yes e
    exact ⟨⟨y, by simp [hy], hn⟩, by rw [h2, insE_within p n x h.out ⟨y, hy, hn⟩]⟩
  · obtain ⟨h1, h2⟩ := h.no e
    have := hl e
    refine ⟨fun y hy => ?_, by rw [h2]⟩
    rcases List.mem_append.1 hy with hy | hy
    · exact h1 y hy
    · rw [List.mem_singleton.1 hy]; omega
theorem take_next (l : List Int) (i : Nat) (h : i < l.length) : l.take (i + 1) = l.take i ++ [l[i]] := List.take_succ_eq_append_getElem h
theorem new_cellN (w : World) (x : Int) : (w.alloc (.cells #[.int .i64 x] 3)).cell? ⟨w.heap.size, 0, none⟩ = some (.int .i64 x) := by rw [cell_of_row _ _ _ _ _ _ (heap_alloc_new _ _)]; rfl
set_option maxRecDepth 100000 in
set_option maxHeartbeats 3200000 in
theorem rin_any (B : Nat) (v : Value) (l : List Int) (n : Int) (w : World) (hv : OwnN w B v l) (hB : B ≤ w.heap.size) (hl : l.length ≤ 1000000000) (hs : l.Pairwise fun x y => x < y) :
    Calls Tryz.prog 80 #[v, .int .i64 n] w fun e w' => ∃ va vc, e = .returned (.slice va (insE l n).length vc) ∧ OwnN w' B (.slice va (insE l n).length vc) (insE l n) ∧ Below w.heap.size w w' := by
  have HV := hid hv
  obtain ⟨ao, cap, rfl⟩ := hv.shape
  clear hv
  have HS := hid hs
  have HBB := hid hB
  clear hs
  obtain ⟨r, hr⟩ : ∃ r, r = insE l n := ⟨_, rfl⟩
  rw [← hr]
  have HR := hid hr
  clear hr
  go_enter Tryz.func80, Tryz.ntmps80
  go_wp2_with fail
  go_loopw [5, 6, 8, 11] (fun ov lv _ iv wr => ∃ (i : Nat) (va : Option Addr) (vc : Nat) (laid : Bool) (q : List Int), iv = .int .i64 i ∧ lv = .bool laid ∧ ov = .slice va q.length vc ∧ i ≤ l.length ∧ InsI (l.take i) n laid q ∧ OwnN wr w.heap.size (.slice va q.length vc) q ∧ Below w.heap.size w wr) (fun _ _ _ iv _ => l.length - (intOf iv).toNat)
  case atStart => exact ⟨0, none, 0, false, [], rfl, rfl, rfl, Nat.zero_le _, by simpa using InsI.start n, OwnN.nil _ _, Below.refl _ _⟩
  case round =>
    obtain ⟨i, va, vc, laid, q, rfl, rfl, rfl, hi, hin, ho, hb⟩ := hrel
    have HI := hid hin
    have OA := hid ho
    have BA := hid hb
    have hq := hin.len
    have LA : Hid (q.length ≤ 1000000001) := hid (by simp at hq; omega)
    clear hin ho hb
    by_cases hlt : i < l.length
    · obtain ⟨g, rfl, c0⟩ := (HV.out.below (BA.out.mono (Nat.le_refl _))).at_lit i hlt
      obtain ⟨x, hx⟩ : ∃ x, x = l[i] := ⟨_, rfl⟩
      rw [← hx] at c0
      have HX := hid hx
      have HTN : Hid (l.take (i + 1) = l.take i ++ [x]) := hid (by rw [take_next l i hlt, ← hx])
      clear hx
      by_cases hxn : x = n
      · have hxn' : (x == n) = true := by simpa using hxn
        have HE : Hid (r = l) := hid (by rw [HR.out]; exact insE_there l n HS.out (by rw [← hxn, HX.out]; exact List.getElem_mem hlt))
        clear hxn
        go_wp2
        go_ret
        refine ⟨some ⟨g, 0, none⟩, cap, by rw [HE.out]; rfl, ?_, BA.out⟩
        rw [HE.out]
        exact HV.out.below BA.out
      · have hxn' : (x == n) = false := by simpa using hxn
        have HXN := hid hxn
        clear hxn
        cases laid with
        | true =>
          have HN : Hid (InsI (l.take (i + 1)) n true (q ++ [x])) := hid (by rw [HTN.out]; exact HI.out.on HXN.out (fun e => by cases e))
          by_cases hnx : n < x
          all_goals
            go_wp2_with (at_builtin; refine wpl_appendN rfl _ _ rfl w.heap.size _ _ rfl (OA.out.below ((Below.refl _ _).alloc (Nat.le_refl _) _)) _ x rfl (new_cellN _ _) LA.out (Nat.le_trans BA.out.size (by simp)) ?_; intro va1 vc1 m1 w1 hm1 ho1 hb1; have HM1 := hid hm1; have OB := hid ho1; have BB := hid ((BA.out.alloc BA.out.size (.cells #[.int .i64 x] 3)).trans hb1); clear hm1 ho1 hb1)
            go_wp2
            go_roundw
            case rel => exact ⟨i + 1, va1, vc1, true, m1, by go_num, rfl, rfl, by omega, by rw [HM1.out]; exact HN.out, OB.out, BB.out⟩
            case measure => simp [intOf]; omega
        | false =>
          by_cases hnx : n < x
          · have HN : Hid (InsI (l.take (i + 1)) n true (q ++ [n] ++ [x])) := hid (by rw [HTN.out]; exact HI.out.put hnx)
            have LB0 : Hid ((q ++ [n]).length ≤ 1000000001) := hid (by simp at hq ⊢; have := HI.out.no rfl; rw [this.2]; simp; omega)
            go_wp2_with (first | (at_builtin; refine wpl_appendN rfl _ _ rfl w.heap.size _ _ rfl (OA.out.below ((Below.refl _ _).alloc (Nat.le_refl _) _)) _ n rfl (new_cellN _ _) LA.out (Nat.le_trans BA.out.size (by simp)) ?_; intro va1 vc1 m1 w1 hm1 ho1 hb1; have HM1 := hid hm1; have OB := hid ho1; have BB := hid ((BA.out.alloc BA.out.size (.cells #[.int .i64 n] 3)).trans hb1); clear hm1 ho1 hb1) | (at_builtin; refine wpl_appendN rfl _ _ rfl w.heap.size _ m1 rfl (OB.out.below ((Below.refl _ _).alloc (Nat.le_refl _) _)) _ x rfl (new_cellN _ _) (by rw [HM1.out]; exact LB0.out) (Nat.le_trans BB.out.size (by simp)) ?_; intro va2 vc2 m2 w2 hm2 ho2 hb2; have HM2 := hid hm2; have OC := hid ho2; have BC := hid ((BB.out.alloc BB.out.size (.cells #[.int .i64 x] 3)).trans hb2); clear hm2 ho2 hb2))
            go_wp2
            go_roundw
            case rel => exact ⟨i + 1, va2, vc2, true, m2, by go_num, rfl, rfl, by omega, by rw [HM2.out, HM1.out]; exact HN.out, OC.out, BC.out⟩
            case measure => simp [intOf]; omega
          · have HN : Hid (InsI (l.take (i + 1)) n false (q ++ [x])) := hid (by rw [HTN.out]; exact HI.out.on HXN.out (fun _ => hnx))
            go_wp2_with (at_builtin; refine wpl_appendN rfl _ _ rfl w.heap.size _ _ rfl (OA.out.below ((Below.refl _ _).alloc (Nat.le_refl _) _)) _ x rfl (new_cellN _ _) LA.out (Nat.le_trans BA.out.size (by simp)) ?_; intro va1 vc1 m1 w1 hm1 ho1 hb1; have HM1 := hid hm1; have OB := hid ho1; have BB := hid ((BA.out.alloc BA.out.size (.cells #[.int .i64 x] 3)).trans hb1); clear hm1 ho1 hb1)
            go_wp2
            go_roundw
            case rel => exact ⟨i + 1, va1, vc1, false, m1, by go_num, rfl, rfl, by omega, by rw [HM1.out]; exact HN.out, OB.out, BB.out⟩
            case measure => simp [intOf]; omega
    · have htk : l.take i = l := List.take_of_length_le (by omega)
      have hend := HI.out.end
      rw [htk, ← HR.out] at hend
      clear htk
      cases laid with
      | true =>
        have HQ := hid (hend.1 rfl)
        clear hend
        go_wp2
        go_ret
        refine ⟨va, vc, by rw [← HQ.out]; rfl, ?_, BA.out⟩
        rw [← HQ.out]
        exact OA.out.lower HBB.out
      | false =>
        have HQ := hid (hend.2 rfl)
        clear hend
        go_wp2_with (at_builtin; refine wpl_appendN rfl _ _ rfl w.heap.size _ _ rfl (OA.out.below ((Below.refl _ _).alloc (Nat.le_refl _) _)) _ n rfl (new_cellN _ _) LA.out (Nat.le_trans BA.out.size (by simp)) ?_; intro va1 vc1 m1 w1 hm1 ho1 hb1; have HM1 := hid hm1; have OB := hid ho1; have BB := hid ((BA.out.alloc BA.out.size (.cells #[.int .i64 n] 3)).trans hb1); clear hm1 ho1 hb1)
        have HQ2 : Hid (m1 = r) := hid (HM1.out.trans HQ.out)
        go_wp2
        go_ret
        refine ⟨va1, vc1, by rw [← HQ2.out]; rfl, ?_, BB.out⟩
        rw [← HQ2.out]
        exact OB.out.lower HBB.out
end Go.Proofs.YtmocedkbabnpfaaGreat
namespace Go.Proofs.YtmocedkbabnpfaaGreat
open Go.RowKit

theorem insE_len (p : List Int) (n : Int) : (insE p n).length ≤ p.length + 1 := by
  induction p with
  | nil => simp [insE]
  | cons z p ih =>
    unfold insE
    split
    · simp
    · split
      · simp
      · simp; exact ih
theorem endsL_len (l : List Sp) (E : List Int) : (endsL E l).length ≤ E.length + 2 * l.length := by
  induction l generalizing E with
  | nil => simp [endsL]
  | cons x l ih =>
    show (endsL _ l).length ≤ _
    refine Nat.le_trans (ih _) ?_
    dsimp only
    split
    · have h1 := insE_len (insE E x.1) x.2
      have h2 := insE_len E x.1
      simp; omega
    · simp; omega
theorem endsL_next (E : List Int) (l : List Sp) (i : Nat) (h : i < l.length) : endsL E (l.take (i + 1)) = if l[i].1 < l[i].2 then insE (insE (endsL E (l.take i)) l[i].1) l[i].2 else endsL E (l.take i) := by
  unfold endsL
  rw [List.take_succ_eq_append_getElem h, List.foldl_append]
  rfl
/-- The ends of the first i of two rows. -/
def ends2 (a b : List Sp) : Nat → List Int
  | 0 => []
  | 1 => endsL [] a
  | _ => endsL (endsL [] a) b
theorem ends2_rises (a b : List Sp) (i : Nat) : (ends2 a b i).Pairwise fun x y => x < y := by
  match i with
  | 0 => exact List.Pairwise.nil
  | 1 => exact endsL_rises a [] List.Pairwise.nil
  | _ + 2 => exact endsL_rises b _ (endsL_rises a [] List.Pairwise.nil)
set_option maxRecDepth 100000 in
set_option maxHeartbeats 3200000 in
theorem rends_any (g : Nat) (u v : Value) (a b : List Sp) (w : World) (hu : Sps w u a) (hv : Sps w v b) (hg : w.heap[g]? = some (.cells #[u, v] 29 (0, 0))) (ha : a.length ≤ 1000000) (hb : b.length ≤ 1000000) :
    Calls Tryz.prog 34 #[.slice (some ⟨g, 0, none⟩) 2 2] w fun e w' => ∃ va vc, e = .returned (.slice va (ends2 a b 2).length vc) ∧ OwnN w' w.heap.size (.slice va (ends2 a b 2).length vc) (ends2 a b 2) ∧ Below w.heap.size w w' := by
  have z0 : w.cell? ⟨g, 0, none⟩ = some u := by rw [cell_of_row _ _ _ _ _ _ hg]; rfl
  have z1 : w.cell? ⟨g, 1, none⟩ = some v := by rw [cell_of_row _ _ _ _ _ _ hg]; rfl
  clear hg
  have HROW : Hid (∀ i, i < 2 → ∃ ua uc c, w.cell? ⟨g, i, none⟩ = some (.slice ua c.length uc) ∧ Sps w (.slice ua c.length uc) c ∧ c.length ≤ 1000000 ∧ (ends2 a b i).length ≤ 2000000 ∧ ends2 a b (i + 1) = endsL (ends2 a b i) c) := hid (by
    obtain ⟨ua, uc, rfl⟩ := hu.shape
    obtain ⟨va, vc, rfl⟩ := hv.shape
    intro i hi
    match i, hi with
    | 0, _ => exact ⟨ua, uc, a, z0, hu, ha, by simp [ends2], rfl⟩
    | 1, _ => exact ⟨va, vc, b, z1, hv, hb, by have := endsL_len a []; simp at this; show (endsL [] a).length ≤ _; omega, rfl⟩)
  clear z0 z1 hu hv
  obtain ⟨F, hF⟩ : ∃ F, F = ends2 a b := ⟨_, rfl⟩
  have HFR : Hid (∀ i, (F i).Pairwise fun x y => x < y) := hid (fun i => by rw [hF]; exact ends2_rises a b i)
  have HF0 : Hid (F 0 = []) := hid (by rw [hF]; rfl)
  rw [← hF] at HROW ⊢
  clear hF
  go_enter Tryz.func34, Tryz.ntmps34
  go_wp2_with fail
  go_loopw [3, 5, 7, 10, 14, 15, 16] (fun ov _ _ iv _ _ _ wr => ∃ (i : Nat) (va : Option Addr) (vc : Nat) (q : List Int), iv = .int .i64 i ∧ ov = .slice va q.length vc ∧ i ≤ 2 ∧ q = F i ∧ OwnN wr w.heap.size (.slice va q.length vc) q ∧ Below w.heap.size w wr) (fun _ _ _ iv _ _ _ _ => 2 - (intOf iv).toNat)
  case atStart => exact ⟨0, none, 0, [], rfl, rfl, by omega, HF0.out.symm, OwnN.nil _ _, Below.refl _ _⟩
  case round =>
    obtain ⟨i, va, vc, q, rfl, rfl, hi, hq, ho, hb⟩ := hrel
    have HQ := hid hq
    have OA := hid ho
    have BA := hid hb
    clear hq ho hb
    by_cases hlt : i < 2
    · obtain ⟨ua, uc, c, r1, r2, r3, r4, r5⟩ := HROW.out i hlt
      have hltI : (i : Int) < 2 := by omega
      have r1' := cell_later BA.out r1
      have HC := hid (r2.below BA.out)
      have HW := hid r2
      have H4 := hid r4
      have H5 := hid r5
      clear r1 r2 r4 r5 hi
      go_wp2_with fail
      go_loopw [3, 7, 16] (fun ov _ jv wz => ∃ (j : Nat) (va : Option Addr) (vc : Nat) (q : List Int), jv = .int .i64 j ∧ ov = .slice va q.length vc ∧ j ≤ c.length ∧ q = endsL (F i) (c.take j) ∧ OwnN wz w.heap.size (.slice va q.length vc) q ∧ Below w.heap.size w wz) (fun _ _ jv _ => c.length - (intOf jv).toNat)
      case atStart => exact ⟨0, va, vc, q, rfl, rfl, Nat.zero_le _, HQ.out, OA.out, BA.out⟩
      case round =>
        obtain ⟨j, va, vc, q, rfl, rfl, hj, hq, ho, hb⟩ := hrel
        clear HQ OA BA HC
        have HQ := hid hq
        have OA := hid ho
        have BA := hid hb
        have HC := hid (HW.out.below hb)
        have LQ : Hid (q.length ≤ 5000000) := hid (by have h1 := endsL_len (c.take j) (F i); have h2 := H4.out; rw [hq]; simp at h1; omega)
        have RQ : Hid (q.Pairwise fun x y => x < y) := hid (by rw [hq]; exact endsL_rises _ _ (HFR.out i))
        clear hq ho hb
        by_cases hjl : j < c.length
        · obtain ⟨g1, o1, rfl⟩ := HC.out.addr (by omega)
          obtain ⟨c0, c1⟩ := HC.out.lit j hjl
          have HNX := hid (endsL_next (F i) c j hjl)
          obtain ⟨x, hx⟩ : ∃ x, x = c[j] := ⟨_, rfl⟩
          rw [← hx] at c0 c1 HNX
          clear hx
          obtain ⟨s, t⟩ := x
          rw [← HQ.out] at HNX
          have BX := hid (BA.out.alloc BA.out.size (.cells #[.int .i64 s, .int .i64 t] 24))
          have OX := hid (OA.out.below ((Below.refl _ _).alloc (Nat.le_refl _) (.cells #[.int .i64 s, .int .i64 t] 24)))
          by_cases hst : s < t
          · have HE : Hid (endsL (F i) (c.take (j + 1)) = insE (insE q s) t) := hid (by rw [HNX.out, if_pos hst])
            clear HNX
            have BX7 : Hid ((wr.alloc (.cells #[.int .i64 s, .int .i64 t] 24)).heap[wr.heap.size]? = some (.cells #[.int .i64 s, .int .i64 t] 24 (0, 0))) := hid (heap_alloc_new _ _)
            go_wp2_with fail
            refine (rin_any w.heap.size _ q s _ OX.out BX.out.size (by have := LQ.out; omega) RQ.out).mono ?_
            rintro e w2 ⟨va2, vc2, rfl, ho2, hb2⟩
            have e1 : w2.cell? ⟨wr.heap.size, 1, none⟩ = some (.int .i64 t) := cell_later hb2 (by rw [cell_of_row _ _ _ _ _ _ BX7.out]; rfl)
            have L2 : Hid ((insE q s).length ≤ 6000000) := hid (by have := insE_len q s; have := LQ.out; omega)
            have R2 := hid (insE_rises q s RQ.out)
            have O2 := hid ho2
            have B2 := hid (BX.out.trans (hb2.mono BX.out.size))
            clear ho2 hb2 BX7
            obtain ⟨q2, hq2⟩ : ∃ q2, q2 = insE q s := ⟨_, rfl⟩
            rw [← hq2] at O2 L2 R2 HE ⊢
            clear hq2
            go_wp2_with fail
            refine (rin_any w.heap.size _ q2 t _ O2.out B2.out.size (by have := L2.out; omega) R2.out).mono ?_
            rintro e w3 ⟨va3, vc3, rfl, ho3, hb3⟩
            have O3 := hid ho3
            have B3 := hid (B2.out.trans (hb3.mono B2.out.size))
            clear ho3 hb3
            obtain ⟨q3, hq3⟩ : ∃ q3, q3 = insE q2 t := ⟨_, rfl⟩
            rw [← hq3] at O3 HE ⊢
            clear hq3
            go_wp2
            go_roundw
            case rel => exact ⟨j + 1, va3, vc3, q3, by go_num, rfl, by omega, HE.out.symm, O3.out, B3.out⟩
            case measure => simp [intOf]; omega
          · have HE : Hid (endsL (F i) (c.take (j + 1)) = q) := hid (by rw [HNX.out, if_neg hst])
            clear HNX
            go_wp2
            go_roundw
            case rel => exact ⟨j + 1, va, vc, q, by go_num, rfl, by omega, HE.out.symm, OX.out, BX.out⟩
            case measure => simp [intOf]; omega
        · have HE : Hid (q = F (i + 1)) := hid (by rw [H5.out, HQ.out, List.take_of_length_le (by omega)])
          go_wp2
          go_roundw
          case rel => exact ⟨i + 1, va, vc, q, by go_num, rfl, by omega, HE.out, OA.out, BA.out⟩
          case measure => simp [intOf]; omega
    · obtain rfl : i = 2 := by omega
      go_wp2
      go_ret
      refine ⟨va, vc, by rw [← HQ.out]; rfl, ?_, BA.out⟩
      rw [← HQ.out]
      exact OA.out
end Go.Proofs.YtmocedkbabnpfaaGreat
namespace Go.Proofs.YtmocedkbabnpfaaGreat

/-- The kept parts among the first i, as the document's Build goes over them. -/
def parts2 (E : List Int) (ks : List Bool) : Nat → List Sp
  | 0 => []
  | i + 1 => if ks.getD i false = true then parts2 E ks i ++ [(E.getD i 0, E.getD (i + 1) 0)] else parts2 E ks i
theorem parts2_cons (a : Int) (E : List Int) (k0 : Bool) (ks : List Bool) (i : Nat) : parts2 (a :: E) (k0 :: ks) (i + 1) = (if k0 = true then [(a, E.getD 0 0)] else []) ++ parts2 E ks i := by
  induction i with
  | zero => cases k0 <;> simp [parts2]
  | succ i ih =>
    rw [parts2, ih, parts2]
    simp only [List.getD_cons_succ]
    split <;> simp
/-- Over all, they are those between ends that are kept. -/
theorem parts2_all (keep : Int → Bool) (E : List Int) : parts2 E (E.map keep) (E.length - 1) = partsL keep E := by
  match E with
  | [] => rfl
  | [a] => rfl
  | a :: b :: l =>
    have ih := parts2_all keep (b :: l)
    have h := parts2_cons a (b :: l) (keep a) ((b :: l).map keep) ((b :: l).length - 1)
    have e : (a :: b :: l).length - 1 = ((b :: l).length - 1) + 1 := by simp
    rw [e, List.map_cons, h, ih]
    conv => rhs; unfold partsL
    split <;> simp
/-- What Build has made of the first i. -/
def buildN (E : List Int) (ks : List Bool) (i : Nat) : List Sp := (parts2 E ks i).foldl putL []
theorem buildN_next (E : List Int) (ks : List Bool) (i : Nat) : buildN E ks (i + 1) = if ks.getD i false = true then putL (buildN E ks i) (E.getD i 0, E.getD (i + 1) 0) else buildN E ks i := by
  unfold buildN
  rw [parts2]
  split
  · rw [List.foldl_append]; rfl
  · rfl
theorem buildN_all (a b : List Sp) (keep : Int → Bool) (E : List Int) (hE : E = endsL (endsL [] a) b) : buildN E (E.map keep) (E.length - 1) = ofL a b keep := by
  unfold buildN ofL
  rw [parts2_all, hE]
end Go.Proofs.YtmocedkbabnpfaaGreat
namespace Go.Proofs.YtmocedkbabnpfaaGreat
open Go.RowKit

/-- 'append(s, x)' of one span within a statement that draws its order. -/
theorem step_appendS {ops : Array Oper} {o : Oper} {a : Act} {w : World} {K : Act → World → Prop} {Q : Exit → Act → World → Prop} {E : Prop} (hgd : o.guard = none) (s x : Operand)
    (ho : o.op = .call { callee := .builtin .append, args := #[s, x], argTypes := #[29, 29] })
    (base : Nat) (v : Value) (l : List Sp) (hs : a.eval s = v) (hown : OwnS w base v l) (g : Nat) (y : Sp) (hx : a.eval x = .slice (some ⟨g, 0, none⟩) 1 1) (hg : w.heap[g]? = some (.cells #[.int .i64 y.1, .int .i64 y.2] 24 (0, 0)))
    (hl : l.length ≤ 1000000001) (hbase : base ≤ w.heap.size)
    (h : ∀ va vc m w', m = l ++ [y] → OwnS w' base (.slice va m.length vc) m → w.grownBy w' v.ownBlock → K (a.put o.dst (.slice va m.length vc)) w') :
    if Region.wanted o (yielded ops a.tmps) = true then Oper.wp Tryz.prog o a w K Q else E := by
  have hw : Region.wanted o (yielded ops a.tmps) = true := by simp [Region.wanted, hgd]
  rw [if_pos hw]
  obtain ⟨i, hi, hz0, hz1, hz2⟩ := info_parts Tryz.infoSp
  refine wp_append_own w s x 29 ho base 24 i (.agg #[.int .i64 0, .int .i64 0]) 2 16 Tryz.underlyingSs hi hz0 hz1 hz2 rfl (by decide) v l.length (flat l) hs hown ⟨g, 0, none⟩ 1 1 [.int .i64 y.1, .int .i64 y.2] hx rfl ?_ (flat_one [y]) (by unfold maxLen; omega) (by omega) hbase ?_
  · intro j u hj
    match j with
    | 0 => simp at hj; subst hj; rw [Addr.add_lit, cell_of_row w g _ _ _ _ hg]; rfl
    | 1 => simp at hj; subst hj; rw [Addr.add_lit, cell_of_row w g _ _ _ _ hg]; rfl
    | j + 2 => simp at hj
  · intro v' w' ho' hg' _
    have ho2 : OwnS w' base v' (l ++ [y]) := by
      show w'.ownsRow _ _ _ _ (l ++ [y]).length (flat (l ++ [y]))
      rw [List.length_append, flat_append]; exact ho'
    obtain ⟨va, vc, rfl⟩ := ho2.shape
    exact h va vc _ w' rfl ho2 hg'
def bvs (l : List Bool) : List Value := l.map fun x => .bool x
/-- The value v is a row of truths. -/
def OwnB (w : World) (base : Nat) (v : Value) (l : List Bool) : Prop := w.ownsRow base 4 1 v l.length (bvs l)
theorem OwnB.shape {w : World} {base : Nat} {v : Value} {l : List Bool} (h : OwnB w base v l) : ∃ va vc, v = .slice va l.length vc := by
  obtain ⟨h1, h2⟩ := h
  rcases h2 with ⟨rfl, h0⟩ | ⟨g, cap, cur, rfl, -⟩
  · exact ⟨none, 0, by rw [h0]⟩
  · exact ⟨_, _, rfl⟩
theorem OwnB.below {w w' : World} {base : Nat} {v : Value} {l : List Bool} (h : OwnB w base v l) (hb : Below w.heap.size w w') : OwnB w' base v l := by
  obtain ⟨h1, h2⟩ := h
  refine ⟨h1, ?_⟩
  rcases h2 with h2 | ⟨g, cap, cur, hv, hg, hh, r⟩
  · exact Or.inl h2
  · exact Or.inr ⟨g, cap, cur, hv, hg, by rw [hb.block g (lt_of_block hh)]; exact hh, r⟩
theorem OwnB.at_lit {w : World} {base : Nat} {va : Option Addr} {vc : Nat} {l : List Bool} (h : OwnB w base (.slice va l.length vc) l) (j : Nat) (hj : j < l.length) : ∃ g, va = some ⟨g, 0, none⟩ ∧ w.cell? ⟨g, j, none⟩ = some (.bool l[j]) := by
  have h' : w.ownsRow base 4 1 (.slice va l.length vc) l.length (bvs l) := h
  obtain ⟨h1, h2⟩ := h
  rcases h2 with ⟨_, h0⟩ | ⟨g, cap, cur, e, -⟩
  · omega
  · cases e
    refine ⟨g, rfl, ?_⟩
    have := h'.cells (g := g) rfl j (.bool l[j]) (by simp [bvs, hj])
    rw [Addr.add_lit] at this
    simpa using this
theorem buildN_len (E : List Int) (ks : List Bool) (i : Nat) : (buildN E ks i).length ≤ i := by
  induction i with
  | zero => simp [buildN, parts2]
  | succ i ih =>
    rw [buildN_next]
    split
    · have : ∀ (p : List Sp) (x : Sp), (putL p x).length ≤ p.length + 1 := by
        intro p x
        rcases List.eq_nil_or_concat p with rfl | ⟨q, y, rfl⟩
        · simp [putL]
        · rw [List.concat_eq_append, putL_snoc]; split <;> simp
      have := this (buildN E ks i) (E.getD i 0, E.getD (i + 1) 0)
      omega
    · omega
set_option maxRecDepth 100000 in
set_option maxHeartbeats 4000000 in
theorem rbuild_any (ev kv : Value) (E : List Int) (ks : List Bool) (B1 B2 : Nat) (w : World) (he : OwnN w B1 ev E) (hk : OwnB w B2 kv ks) (hlen : ks.length = E.length) (hl : E.length ≤ 10000000) :
    Calls Tryz.prog 36 #[ev, kv] w fun e w' => ∃ va vc, e = .returned (.slice va (buildN E ks (E.length - 1)).length vc) ∧ OwnS w' w.heap.size (.slice va (buildN E ks (E.length - 1)).length vc) (buildN E ks (E.length - 1)) ∧ Below w.heap.size w w' := by
  have HE := hid he
  have HK := hid hk
  obtain ⟨ea, ec, rfl⟩ := he.shape
  obtain ⟨ka, kc, rfl⟩ := hk.shape
  clear he hk
  rw [hlen] at HK ⊢
  have HLEN := hid hlen
  clear hlen
  go_enter Tryz.func36, Tryz.ntmps36
  go_wp2_with fail
  go_loopw [5, 6] (fun ov iv wr => ∃ (i : Nat) (va : Option Addr) (vc : Nat) (p : List Sp), iv = .int .i64 i ∧ ov = .slice va p.length vc ∧ i ≤ E.length - 1 ∧ p = buildN E ks i ∧ OwnS wr w.heap.size (.slice va p.length vc) p ∧ Below w.heap.size w wr) (fun _ iv _ => E.length - (intOf iv).toNat)
  case atStart => exact ⟨0, none, 0, [], rfl, rfl, Nat.zero_le _, rfl, OwnS.nil _ _, Below.refl _ _⟩
  case round =>
    obtain ⟨i, va, vc, p, rfl, rfl, hi, hp, ho, hb⟩ := hrel
    have HP := hid hp
    have HO := hid ho
    have HB := hid hb
    have LP : Hid (p.length ≤ 10000000) := hid (by rw [hp]; have := buildN_len E ks i; omega)
    clear hp ho hb
    by_cases hlt : i + 1 < E.length
    · have hltI : (i : Int) + 1 < (E.length : Int) := by omega
      obtain ⟨ge, rfl, ce0⟩ := HE.out.at_lit i (by omega)
      obtain ⟨ge', hge, ce1⟩ := HE.out.at_lit (i + 1) hlt
      cases hge
      have hki : i < ks.length := by rw [HLEN.out]; omega
      have hk' : OwnB w B2 (.slice ka ks.length kc) ks := by rw [HLEN.out]; exact HK.out
      obtain ⟨gk, rfl, ck0⟩ := hk'.at_lit i hki
      have HNX := hid (buildN_next E ks i)
      have g0 : E.getD i 0 = E[i]'(by omega) := by simp [List.getD, List.getElem?_eq_getElem (show i < E.length by omega)]
      have g1 : E.getD (i + 1) 0 = E[i + 1]'hlt := by simp [List.getD, List.getElem?_eq_getElem hlt]
      have gk : ks.getD i false = ks[i]'hki := by simp [List.getD, List.getElem?_eq_getElem hki]
      rw [g0, g1, gk, ← HP.out] at HNX
      clear g0 g1 gk hk'
      generalize E[i]'(by omega) = x at ce0 HNX
      generalize E[i + 1]'hlt = y at ce1 HNX
      generalize ks[i]'hki = kb at ck0 HNX
      have c0 := cell_later HB.out ce0
      have c1 := cell_later HB.out ce1
      have ck := cell_later HB.out ck0
      have hi0 : (0 : Int) ≤ (i : Int) := by omega
      have hi1 : (i : Int) < (E.length : Int) := by omega
      have hi2 : (0 : Int) ≤ (i : Int) + 1 := by omega
      have hwr : IntKind.i64.wrap ((i : Int) + 1) = (i : Int) + 1 := IntWalk.i64_in _ ⟨by omega, by omega⟩
      have hin : 0 ≤ (i : Int) + 1 ∧ (i : Int) + 1 < (E.length : Int) := ⟨hi2, hltI⟩
      have hge : ge < w.heap.size := World.block_lt_of_cell? _ _ ce0
      clear ce0 ce1 ck0
      cases kb with
      | false =>
        go_wp2_with fail
        go_roundw
        case rel => exact ⟨i + 1, va, vc, p, by go_num, rfl, by omega, by have := HNX.out; simp at this; exact this.symm, HO.out, HB.out⟩
        case measure => simp [intOf]; omega
      | true =>
        have HN2 : Hid (buildN E ks (i + 1) = putL p (x, y)) := hid (by have := HNX.out; simpa using this)
        clear HNX
        rcases List.eq_nil_or_concat p with rfl | ⟨q, z, rfl⟩
        · simp only [List.length_nil] at HO LP ⊢
          have hd : decide ((0 : Int) ≤ -1) = false := by decide
          have hlp : ([] : List Sp).length ≤ 1000000001 := by simp
          go_wp2_with fail
          go_quiet (fail)
          obtain ⟨W, hW⟩ : ∃ W, W = wr.drewN nq := ⟨_, rfl⟩
          rw [← hW]
          have BW : Hid (Below wr.heap.size wr W) := hid (by rw [hW]; exact ⟨rfl, rfl, rfl, Nat.le_refl _, fun _ _ => rfl⟩)
          have OW := hid (HO.out.below BW.out)
          have SW : Hid (∀ X, Below W.heap.size W X → X.cell? ⟨ge, i, none⟩ = some (.int .i64 x) ∧ X.cell? ⟨ge, i + 1, none⟩ = some (.int .i64 y)) := hid fun X hX => ⟨cell_later hX (cell_later BW.out c0), cell_later hX (cell_later BW.out c1)⟩
          have hsW : w.heap.size ≤ W.heap.size := Nat.le_trans HB.out.size BW.out.size
          have OX := hid (OW.out.below (((Below.refl W.heap.size W).drew).alloc (Nat.le_refl _) (.cells #[.int .i64 x, .int .i64 y] 24)))
          have hsX : w.heap.size ≤ (W.drew.alloc (.cells #[.int .i64 x, .int .i64 y] 24)).heap.size := Nat.le_trans hsW (by simp)
          have SWW := hid (SW.out W (Below.refl _ _))
          clear hW c0 c1 ck
          go_wp2_with fail
          go_region_held3 (fun X => X.cell? ⟨ge, i, none⟩ = some (.int .i64 x) ∧ X.cell? ⟨ge, i + 1, none⟩ = some (.int .i64 y)) (first | exact SW.out _ ((Below.refl _ _).drew) | exact SW.out _ (((Below.refl _ _).drew).alloc (Nat.le_refl _) _) | exact SW9.out) (first | (refine step_appendS rfl (.tmp 46) (.tmp 57) rfl w.heap.size _ _ rfl OX.out W.heap.size (x, y) rfl (heap_alloc_new _ _) hlp hsX ?_; intro va9 vc9 m9 w9 hm9 ho9 hg9; have O9 := hid ho9; have M9 := hid hm9; have B9 : Hid (Below w.heap.size W w9) := hid (((((Below.refl w.heap.size W).drew).alloc hsW _)).trans (belowS_grown OX.out hg9 hsX)); have SW9 : Hid (w9.cell? ⟨ge, i, none⟩ = some (.int .i64 x) ∧ w9.cell? ⟨ge, i + 1, none⟩ = some (.int .i64 y)) := hid ⟨(B9.out.cell (p := ⟨ge, i, none⟩) hge).trans SWW.out.1, (B9.out.cell (p := ⟨ge, i + 1, none⟩) hge).trans SWW.out.2⟩; clear ho9 hm9 hg9))
          go_wp2_with fail
          go_roundw
          case rel => exact ⟨i + 1, va9, vc9, m9, by go_num, rfl, by omega, by rw [HN2.out, M9.out]; rfl, O9.out, (HB.out.trans (BW.out.mono HB.out.size)).trans B9.out⟩
          case measure => simp [intOf]; omega
        · rw [List.concat_eq_append] at *
          have hnl : (q ++ [z]).length = q.length + 1 := by simp
          have hva : ∃ g, va = some ⟨g, 0, none⟩ := by
            obtain ⟨h1, h2⟩ := HO.out
            rcases h2 with ⟨_, h0⟩ | ⟨g, cap, cur, e, -⟩
            · omega
            · cases e; exact ⟨g, rfl⟩
          obtain ⟨g, rfl⟩ := hva
          have hpl := LP.out
          rw [hnl] at HO hpl ⊢
          obtain ⟨n, hn⟩ : ∃ n, n = q.length := ⟨_, rfl⟩
          rw [← hn] at HO hpl ⊢
          obtain ⟨a, c⟩ := z
          have hA : (⟨g, 0, none⟩ : Addr).add (n * 2 + 1) = ⟨g, n * 2 + 1, none⟩ := by rw [Addr.add_lit]; simp
          have HOn : Hid (wr.ownsRow w.heap.size 24 2 (.slice (some ⟨g, 0, none⟩) (n + 1) vc) (n + 1) (flat (q ++ [(a, c)]))) := hid (by have := HO.out; unfold OwnS at this; rwa [hnl, ← hn] at this)
          have hc : wr.cell? ⟨g, n * 2 + 1, none⟩ = some (.int .i64 c) := by
            have := World.ownsRow.cells HOn.out (g := g) rfl (n * 2 + 1) (.int .i64 c) (by
              have := (flat_at (q ++ [(a, c)]) n (by simp [hn])).2
              rw [this]; simp [hn])
            rwa [hA] at this
          have hfz : wr.frozen? ⟨g, n * 2 + 1, none⟩ = false := World.ownsRow.frozenAt HOn.out _
          have HN := hid hn
          have HGB := hid (World.ownsRow.lt HO.out g rfl)
          have hn0 : (0 : Int) ≤ (n : Int) := by omega
          have hn0' : decide ((0 : Int) ≤ (n : Int)) = true := decide_eq_true hn0
          have hn1 : (n : Int) < (n : Int) + 1 := by omega
          have hn2 : (n : Int) ≤ 10000000 := by omega
          clear hn hA hnl hpl
          by_cases hcx : c = x
          · have HE2 : Hid (putL (q ++ [(a, c)]) (x, y) = q ++ [(a, y)]) := hid (by rw [putL_snoc, if_pos hcx])
            have hbe : (c == x) = true := by simpa using hcx
            clear hcx LP
            go_wp2_with fail
            go_quiet (fail)
            go_wp2_with fail
            have hse : (q ++ [(a, c)]).set n (a, y) = q ++ [(a, y)] := by have := HN.out; subst this; simp
            have hnl : (q ++ [(a, c)]).length = n + 1 := by have := HN.out; simp [this]
            have hlq : (q ++ [(a, y)]).length = n + 1 := by have := HN.out; simp [this]
            have hgt : (q ++ [(a, c)])[n]'(by rw [hnl]; omega) = (a, c) := by have := HN.out; subst this; simp
            have hfs := flat_set (q ++ [(a, c)]) n (by rw [hnl]; omega) y
            rw [hgt, hse] at hfs
            have h' : (wr.drewN nq).ownsRow w.heap.size 24 2 (.slice (some ⟨g, 0, none⟩) (n + 1) vc) (n + 1) (flat (q ++ [(a, c)])) := by
              have := HO.out.below (show Below wr.heap.size wr (wr.drewN nq) from ⟨rfl, rfl, rfl, Nat.le_refl _, fun _ _ => rfl⟩); unfold OwnS at this; rwa [hnl] at this
            have hst := (World.ownsRow.stored h' (n * 2 + 1) (.int .i64 y)).1
            rw [hfs] at hst
            go_roundw
            case rel =>
              refine ⟨i + 1, some ⟨g, 0, none⟩, vc, q ++ [(a, y)], by go_num, by rw [hlq], by omega, by rw [HN2.out, HE2.out], ?_, ?_⟩
              · rw [hlq]; unfold OwnS; rw [hlq]; exact hst
              · exact (HB.out.trans (show Below w.heap.size wr (wr.drewN nq) from ⟨rfl, rfl, rfl, Nat.le_refl _, fun _ _ => rfl⟩)).setCell (p := ⟨g, n * 2 + 1, none⟩) HGB.out.1 _
            case measure => simp [intOf]; omega
          · have HE2 : Hid (putL (q ++ [(a, c)]) (x, y) = (q ++ [(a, c)]) ++ [(x, y)]) := hid (by rw [putL_snoc, if_neg hcx])
            have hbe : (c == x) = false := by simpa using hcx
            have hlp : (q ++ [(a, c)]).length ≤ 1000000001 := by have := LP.out; omega
            clear hcx
            go_wp2_with fail
            go_quiet (fail)
            obtain ⟨W, hW⟩ : ∃ W, W = wr.drewN nq := ⟨_, rfl⟩
            rw [← hW]
            have BW : Hid (Below wr.heap.size wr W) := hid (by rw [hW]; exact ⟨rfl, rfl, rfl, Nat.le_refl _, fun _ _ => rfl⟩)
            have OW := hid (HO.out.below BW.out)
            have SW : Hid (∀ X, Below W.heap.size W X → X.cell? ⟨ge, i, none⟩ = some (.int .i64 x) ∧ X.cell? ⟨ge, i + 1, none⟩ = some (.int .i64 y)) := hid fun X hX => ⟨cell_later hX (cell_later BW.out c0), cell_later hX (cell_later BW.out c1)⟩
            have hsW : w.heap.size ≤ W.heap.size := Nat.le_trans HB.out.size BW.out.size
            have OX := hid (OW.out.below (((Below.refl W.heap.size W).drew).alloc (Nat.le_refl _) (.cells #[.int .i64 x, .int .i64 y] 24)))
            have hsX : w.heap.size ≤ (W.drew.alloc (.cells #[.int .i64 x, .int .i64 y] 24)).heap.size := Nat.le_trans hsW (by simp)
            have SWW := hid (SW.out W (Below.refl _ _))
            clear hW c0 c1 ck
            go_wp2_with fail
            go_region_held3 (fun X => X.cell? ⟨ge, i, none⟩ = some (.int .i64 x) ∧ X.cell? ⟨ge, i + 1, none⟩ = some (.int .i64 y)) (first | exact SW.out _ ((Below.refl _ _).drew) | exact SW.out _ (((Below.refl _ _).drew).alloc (Nat.le_refl _) _) | exact SW9.out) (first | (refine step_appendS rfl (.tmp 46) (.tmp 57) rfl w.heap.size _ _ rfl OX.out W.heap.size (x, y) rfl (heap_alloc_new _ _) hlp hsX ?_; intro va9 vc9 m9 w9 hm9 ho9 hg9; have O9 := hid ho9; have M9 := hid hm9; have B9 : Hid (Below w.heap.size W w9) := hid (((((Below.refl w.heap.size W).drew).alloc hsW _)).trans (belowS_grown OX.out hg9 hsX)); have SW9 : Hid (w9.cell? ⟨ge, i, none⟩ = some (.int .i64 x) ∧ w9.cell? ⟨ge, i + 1, none⟩ = some (.int .i64 y)) := hid ⟨(B9.out.cell (p := ⟨ge, i, none⟩) hge).trans SWW.out.1, (B9.out.cell (p := ⟨ge, i + 1, none⟩) hge).trans SWW.out.2⟩; clear ho9 hm9 hg9))
            go_wp2_with fail
            go_roundw
            case rel => exact ⟨i + 1, va9, vc9, m9, by go_num, rfl, by omega, by rw [HN2.out, M9.out, HE2.out], O9.out, (HB.out.trans (BW.out.mono HB.out.size)).trans B9.out⟩
            case measure => simp [intOf]; omega
    · have hltI : ¬ (i : Int) + 1 < (E.length : Int) := by omega
      have hie : i = E.length - 1 := by omega
      have HPE : Hid (p = buildN E ks (E.length - 1)) := hid (by rw [← hie]; exact HP.out)
      clear HP hie
      go_wp2_with fail
      go_ret
      rw [← HPE.out]
      exact ⟨va, vc, rfl, HO.out, HB.out⟩
end Go.Proofs.YtmocedkbabnpfaaGreat
namespace Go.Proofs.YtmocedkbabnpfaaGreat
open Go.RowKit

theorem Tryz.underlyingBs : Tryz.prog.underlying 81 = some (.slice 4) := by kernel_rfl
theorem Tryz.infoBo : (Tryz.prog.info? 4).map (fun i => (i.zero, i.size, i.bytes)) = some (some (.bool false), 1, 1) := by kernel_rfl
theorem OwnB.nil (w : World) (base : Nat) : OwnB w base (.slice none 0 0) [] := World.ownsRow_nil _ _ _ _
theorem one_cellB {w : World} {g : Nat} {u : Value} (h : w.cell? ⟨g, 0, none⟩ = some u) : ∀ j x, [u][j]? = some x → w.cell? ((⟨g, 0, none⟩ : Addr).add j) = some x := by
  intro j x hj
  match j with
  | 0 => simp at hj; subst hj; rw [Addr.add_lit]; exact h
  | j + 1 => simp at hj
theorem wpl_appendB {w : World} {ops : Array Oper} {rest : List Oper} {o : Oper} {a : Act} {Q : Exit → Act → World → Prop} (hgd : o.guard = none) (s x : Operand)
    (ho : o.op = .call { callee := .builtin .append, args := #[s, x], argTypes := #[81, 81] })
    (base : Nat) (v : Value) (l : List Bool) (hs : a.eval s = v) (hown : OwnB w base v l) (g : Nat) (y : Bool) (hx : a.eval x = .slice (some ⟨g, 0, none⟩) 1 1) (hg : w.cell? ⟨g, 0, none⟩ = some (.bool y))
    (hl : l.length ≤ 1000000001) (hbase : base ≤ w.heap.size)
    (h : ∀ va vc m w', m = l ++ [y] → OwnB w' base (.slice va m.length vc) m → Below base w w' → wpList Tryz.prog ops Q rest (a.put o.dst (.slice va m.length vc)) w') :
    wpList Tryz.prog ops Q (o :: rest) a w := by
  obtain ⟨i, hi, hz0, hz1, hz2⟩ := info_parts Tryz.infoBo
  refine wpList_append_own w hgd s x 81 ho base 4 i (.bool false) 1 1 Tryz.underlyingBs hi hz0 hz1 hz2 rfl (by decide) v l.length (bvs l) hs hown ⟨g, 0, none⟩ 1 1 [.bool y] hx rfl (one_cellB hg) (by intro u hu; simp at hu; subst hu; rfl) (by unfold maxLen; omega) (by omega) hbase ?_
  intro v' w' ho' hg' _
  have ho2 : OwnB w' base v' (l ++ [y]) := by
    show w'.ownsRow _ _ _ _ (l ++ [y]).length (bvs (l ++ [y]))
    rw [List.length_append]
    have e : bvs (l ++ [y]) = bvs l ++ [.bool y] := by simp [bvs]
    rw [e]; exact ho'
  obtain ⟨va, vc, rfl⟩ := ho2.shape
  refine h va vc _ w' rfl ho2 ⟨hg'.os, hg'.tape, hg'.output, hg'.size, fun k hk => hg'.block k (by omega) fun e => ?_⟩
  have := (World.ownsRow.lt hown k e.symm).1
  omega
/-- What is kept, by kind. -/
def keepK (kind : Nat) (one two : Bool) : Bool := if kind = 0 then one || two else if kind = 1 then one && two else one && !two
def keepF (kind : Nat) (a b : List Sp) (x : Int) : Bool := keepK kind (hasB a x) (hasB b x)
set_option maxRecDepth 100000 in
set_option maxHeartbeats 4000000 in
theorem rof_0 (u v : Value) (a b : List Sp) (w : World) (hu : Sps w u a) (hv : Sps w v b) (ha : a.length ≤ 1000000) (hb : b.length ≤ 1000000) :
    Calls Tryz.prog 10 #[u, v, .int .i64 0] w fun e w' => ∃ va vc, e = .returned (.slice va (ofL a b (keepF 0 a b)).length vc) ∧ OwnS w' w.heap.size (.slice va (ofL a b (keepF 0 a b)).length vc) (ofL a b (keepF 0 a b)) ∧ Below w.heap.size w w' := by
  have HU := hid hu
  have HV := hid hv
  obtain ⟨ua, uc, rfl⟩ := hu.shape
  obtain ⟨va, vc, rfl⟩ := hv.shape
  have HEN := hid (rends_any w.heap.size (.slice ua a.length uc) (.slice va b.length vc) a b (w.alloc (.cells #[.slice ua a.length uc, .slice va b.length vc] 29)) (hu.alloc _) (hv.alloc _) (heap_alloc_new _ _) ha hb)
  clear hu hv
  go_enter Tryz.func10, Tryz.ntmps10
  go_wp2_with fail
  refine HEN.out.mono ?_
  rintro e w1 ⟨ea, ec, rfl, ho1, hb1⟩
  obtain ⟨E, hEE⟩ : ∃ E, E = ends2 a b 2 := ⟨_, rfl⟩
  rw [← hEE] at ho1 ⊢
  have HEE : Hid (E = endsL (endsL [] a) b) := hid hEE
  have hE : E.length ≤ 10000000 := by
    rw [hEE]; show (endsL (endsL [] a) b).length ≤ _
    have h1 := endsL_len b (endsL [] a); have h2 := endsL_len a []; simp at h2; omega
  have O1 := hid (ho1.lower (base' := w.heap.size) (by simp))
  have B1 := hid (((Below.refl _ _).alloc (Nat.le_refl _) _).trans (hb1.mono (by simp)) : Below w.heap.size w w1)
  clear hEE ho1 hb1 HEN
  go_wp2_with fail
  go_loopw [8, 10, 11, 12, 19] (fun kv _ _ _ iv wr => ∃ (i : Nat) (va : Option Addr) (vc : Nat) (ks : List Bool), iv = .int .i64 i ∧ kv = .slice va ks.length vc ∧ i ≤ E.length ∧ ks = (E.take i).map (keepF 0 a b) ∧ OwnB wr w1.heap.size (.slice va ks.length vc) ks ∧ Below w1.heap.size w1 wr) (fun _ _ _ _ iv _ => E.length - (intOf iv).toNat)
  case atStart => exact ⟨0, none, 0, [], rfl, rfl, Nat.zero_le _, rfl, OwnB.nil _ _, Below.refl _ _⟩
  case round =>
    obtain ⟨i, va, vc, ks, rfl, rfl, hi, hks, ho, hb⟩ := hrel
    have HKS := hid hks
    have HO := hid ho
    have HB := hid (B1.out.trans (hb.mono B1.out.size))
    have HB1 := hid hb
    clear hks ho hb
    by_cases hlt : i < E.length
    · have hltI : (i : Int) < (E.length : Int) := by omega
      obtain ⟨ge, hge, ce0⟩ := O1.out.at_lit i hlt
      subst hge
      have c0 := cell_later HB1.out ce0
      have HNX : Hid ((E.take (i + 1)).map (keepF 0 a b) = ks ++ [keepK 0 (hasB a E[i]) (hasB b E[i])]) := hid (by rw [List.take_succ_eq_append_getElem hlt, List.map_append, ← HKS.out]; rfl)
      generalize E[i]'hlt = x at c0 HNX
      have HLK : Hid (ks.length ≤ 10000000) := hid (by rw [HKS.out]; simp; omega)
      have HUA := hid (HU.out.below HB.out)
      have HVA := hid (HV.out.below HB.out)
      clear ce0
      go_wp2_with fail
      refine (rhas_any _ a x wr HUA.out (by omega)).mono ?_
      rintro e w2 ⟨rfl, hb2⟩
      have B2 := hid hb2
      clear hb2
      go_wp2_with fail
      refine (rhas_any _ b x w2 (HVA.out.below B2.out) (by omega)).mono ?_
      rintro e w3 ⟨rfl, hb3⟩
      have B3 := hid (B2.out.trans (hb3.mono B2.out.size))
      clear hb3 B2
      have O3 := hid (HO.out.below B3.out)
      generalize hasB a x = p at HNX ⊢
      generalize hasB b x = q at HNX ⊢
      have hs3 : w1.heap.size ≤ (w3.alloc (.cells #[.bool (keepK 0 p q)] 4)).heap.size := Nat.le_trans HB1.out.size (Nat.le_trans B3.out.size (by simp))
      have OX := hid (O3.out.below ((Below.refl _ _).alloc (Nat.le_refl _) (.cells #[.bool (keepK 0 p q)] 4)))
      have CX : Hid ((w3.alloc (.cells #[.bool (keepK 0 p q)] 4)).cell? ⟨w3.heap.size, 0, none⟩ = some (.bool (keepK 0 p q))) := hid (by rw [cell_of_row _ _ _ _ _ _ (heap_alloc_new _ _)]; rfl)
      have BX := hid (HB1.out.trans ((B3.out.trans ((Below.refl _ _).alloc B3.out.size (.cells #[.bool (keepK 0 p q)] 4))).mono HB1.out.size))
      have hlk : ks.length ≤ 1000000001 := by have := HLK.out; omega
      cases p <;> cases q <;> simp only [show keepK 0 false false = false from rfl, show keepK 0 false true = true from rfl, show keepK 0 true false = true from rfl, show keepK 0 true true = true from rfl] at HNX OX CX BX hs3
      all_goals
        go_wp2_with (at_builtin; refine wpl_appendB rfl (.tmp 29) (.tmp 59) rfl w1.heap.size (.slice va ks.length vc) ks rfl OX.out w3.heap.size _ rfl CX.out hlk hs3 ?_; intro va5 vc5 m5 w5 hm5 ho5 hb5; have O5 := hid ho5; have M5 := hid hm5; have B5 := hid (BX.out.trans hb5); clear ho5 hm5 hb5)
        go_roundw
        case rel => exact ⟨i + 1, va5, vc5, m5, by go_num, rfl, by omega, by rw [M5.out, HNX.out], O5.out, B5.out⟩
        case measure => simp [intOf]; omega
    · have hltI : ¬ (i : Int) < (E.length : Int) := by omega
      obtain rfl : i = E.length := by omega
      rw [List.take_length] at HKS
      have hkl : ks.length = E.length := by rw [HKS.out]; simp
      have HRB := hid (rbuild_any _ _ E ks w.heap.size w1.heap.size wr (O1.out.below HB1.out) HO.out hkl hE)
      have HKL := hid hkl
      rw [hkl] at HRB
      clear hkl
      go_wp2_with fail
      rw [HKL.out]
      refine HRB.out.mono ?_
      rintro e w9 ⟨va9, vc9, rfl, ho9, hb9⟩
      have HEQ : Hid (buildN E ks (E.length - 1) = ofL a b (keepF 0 a b)) := hid (by rw [HKS.out]; exact buildN_all a b (keepF 0 a b) E HEE.out)
      have O9 := hid ho9
      have B9 := hid (HB.out.trans (hb9.mono HB.out.size))
      clear ho9 hb9
      go_wp2_with fail
      go_ret
      rw [HEQ.out] at O9 ⊢
      exact ⟨va9, vc9, rfl, O9.out.lower HB.out.size, B9.out⟩
set_option maxRecDepth 100000 in
set_option maxHeartbeats 4000000 in
theorem rof_1 (u v : Value) (a b : List Sp) (w : World) (hu : Sps w u a) (hv : Sps w v b) (ha : a.length ≤ 1000000) (hb : b.length ≤ 1000000) :
    Calls Tryz.prog 10 #[u, v, .int .i64 1] w fun e w' => ∃ va vc, e = .returned (.slice va (ofL a b (keepF 1 a b)).length vc) ∧ OwnS w' w.heap.size (.slice va (ofL a b (keepF 1 a b)).length vc) (ofL a b (keepF 1 a b)) ∧ Below w.heap.size w w' := by
  have HU := hid hu
  have HV := hid hv
  obtain ⟨ua, uc, rfl⟩ := hu.shape
  obtain ⟨va, vc, rfl⟩ := hv.shape
  have HEN := hid (rends_any w.heap.size (.slice ua a.length uc) (.slice va b.length vc) a b (w.alloc (.cells #[.slice ua a.length uc, .slice va b.length vc] 29)) (hu.alloc _) (hv.alloc _) (heap_alloc_new _ _) ha hb)
  clear hu hv
  go_enter Tryz.func10, Tryz.ntmps10
  go_wp2_with fail
  refine HEN.out.mono ?_
  rintro e w1 ⟨ea, ec, rfl, ho1, hb1⟩
  obtain ⟨E, hEE⟩ : ∃ E, E = ends2 a b 2 := ⟨_, rfl⟩
  rw [← hEE] at ho1 ⊢
  have HEE : Hid (E = endsL (endsL [] a) b) := hid hEE
  have hE : E.length ≤ 10000000 := by
    rw [hEE]; show (endsL (endsL [] a) b).length ≤ _
    have h1 := endsL_len b (endsL [] a); have h2 := endsL_len a []; simp at h2; omega
  have O1 := hid (ho1.lower (base' := w.heap.size) (by simp))
  have B1 := hid (((Below.refl _ _).alloc (Nat.le_refl _) _).trans (hb1.mono (by simp)) : Below w.heap.size w w1)
  clear hEE ho1 hb1 HEN
  go_wp2_with fail
  go_loopw [8, 10, 11, 12, 19] (fun kv _ _ _ iv wr => ∃ (i : Nat) (va : Option Addr) (vc : Nat) (ks : List Bool), iv = .int .i64 i ∧ kv = .slice va ks.length vc ∧ i ≤ E.length ∧ ks = (E.take i).map (keepF 1 a b) ∧ OwnB wr w1.heap.size (.slice va ks.length vc) ks ∧ Below w1.heap.size w1 wr) (fun _ _ _ _ iv _ => E.length - (intOf iv).toNat)
  case atStart => exact ⟨0, none, 0, [], rfl, rfl, Nat.zero_le _, rfl, OwnB.nil _ _, Below.refl _ _⟩
  case round =>
    obtain ⟨i, va, vc, ks, rfl, rfl, hi, hks, ho, hb⟩ := hrel
    have HKS := hid hks
    have HO := hid ho
    have HB := hid (B1.out.trans (hb.mono B1.out.size))
    have HB1 := hid hb
    clear hks ho hb
    by_cases hlt : i < E.length
    · have hltI : (i : Int) < (E.length : Int) := by omega
      obtain ⟨ge, hge, ce0⟩ := O1.out.at_lit i hlt
      subst hge
      have c0 := cell_later HB1.out ce0
      have HNX : Hid ((E.take (i + 1)).map (keepF 1 a b) = ks ++ [keepK 1 (hasB a E[i]) (hasB b E[i])]) := hid (by rw [List.take_succ_eq_append_getElem hlt, List.map_append, ← HKS.out]; rfl)
      generalize E[i]'hlt = x at c0 HNX
      have HLK : Hid (ks.length ≤ 10000000) := hid (by rw [HKS.out]; simp; omega)
      have HUA := hid (HU.out.below HB.out)
      have HVA := hid (HV.out.below HB.out)
      clear ce0
      go_wp2_with fail
      refine (rhas_any _ a x wr HUA.out (by omega)).mono ?_
      rintro e w2 ⟨rfl, hb2⟩
      have B2 := hid hb2
      clear hb2
      go_wp2_with fail
      refine (rhas_any _ b x w2 (HVA.out.below B2.out) (by omega)).mono ?_
      rintro e w3 ⟨rfl, hb3⟩
      have B3 := hid (B2.out.trans (hb3.mono B2.out.size))
      clear hb3 B2
      have O3 := hid (HO.out.below B3.out)
      generalize hasB a x = p at HNX ⊢
      generalize hasB b x = q at HNX ⊢
      have hs3 : w1.heap.size ≤ (w3.alloc (.cells #[.bool (keepK 1 p q)] 4)).heap.size := Nat.le_trans HB1.out.size (Nat.le_trans B3.out.size (by simp))
      have OX := hid (O3.out.below ((Below.refl _ _).alloc (Nat.le_refl _) (.cells #[.bool (keepK 1 p q)] 4)))
      have CX : Hid ((w3.alloc (.cells #[.bool (keepK 1 p q)] 4)).cell? ⟨w3.heap.size, 0, none⟩ = some (.bool (keepK 1 p q))) := hid (by rw [cell_of_row _ _ _ _ _ _ (heap_alloc_new _ _)]; rfl)
      have BX := hid (HB1.out.trans ((B3.out.trans ((Below.refl _ _).alloc B3.out.size (.cells #[.bool (keepK 1 p q)] 4))).mono HB1.out.size))
      have hlk : ks.length ≤ 1000000001 := by have := HLK.out; omega
      cases p <;> cases q <;> simp only [show keepK 1 false false = false from rfl, show keepK 1 false true = false from rfl, show keepK 1 true false = false from rfl, show keepK 1 true true = true from rfl] at HNX OX CX BX hs3
      all_goals
        go_wp2_with (at_builtin; refine wpl_appendB rfl (.tmp 29) (.tmp 59) rfl w1.heap.size (.slice va ks.length vc) ks rfl OX.out w3.heap.size _ rfl CX.out hlk hs3 ?_; intro va5 vc5 m5 w5 hm5 ho5 hb5; have O5 := hid ho5; have M5 := hid hm5; have B5 := hid (BX.out.trans hb5); clear ho5 hm5 hb5)
        go_roundw
        case rel => exact ⟨i + 1, va5, vc5, m5, by go_num, rfl, by omega, by rw [M5.out, HNX.out], O5.out, B5.out⟩
        case measure => simp [intOf]; omega
    · have hltI : ¬ (i : Int) < (E.length : Int) := by omega
      obtain rfl : i = E.length := by omega
      rw [List.take_length] at HKS
      have hkl : ks.length = E.length := by rw [HKS.out]; simp
      have HRB := hid (rbuild_any _ _ E ks w.heap.size w1.heap.size wr (O1.out.below HB1.out) HO.out hkl hE)
      have HKL := hid hkl
      rw [hkl] at HRB
      clear hkl
      go_wp2_with fail
      rw [HKL.out]
      refine HRB.out.mono ?_
      rintro e w9 ⟨va9, vc9, rfl, ho9, hb9⟩
      have HEQ : Hid (buildN E ks (E.length - 1) = ofL a b (keepF 1 a b)) := hid (by rw [HKS.out]; exact buildN_all a b (keepF 1 a b) E HEE.out)
      have O9 := hid ho9
      have B9 := hid (HB.out.trans (hb9.mono HB.out.size))
      clear ho9 hb9
      go_wp2_with fail
      go_ret
      rw [HEQ.out] at O9 ⊢
      exact ⟨va9, vc9, rfl, O9.out.lower HB.out.size, B9.out⟩
end Go.Proofs.YtmocedkbabnpfaaGreat
namespace Go.Proofs.YtmocedkbabnpfaaGreat
open Go.RowKit Go.Shelf

theorem Sps.nil (w : World) : Sps w (.slice none 0 0) [] := ⟨_, _, _, rfl, rfl, Nat.le_refl _, by omega, (fun _ => rfl), (fun ad h => by cases h)⟩
theorem plain_at {l : List Sp} (h : PlainL l) (i : Nat) (hi : i < l.length) : l[i].1 < l[i].2 ∧ ∀ (_ : 0 < i), (l[i - 1]'(by omega)).2 < l[i].1 :=
  ⟨h.1 _ (List.getElem_mem hi), fun h0 => List.pairwise_iff_getElem.1 h.2 (i - 1) i (by omega) hi (by omega)⟩
end Go.Proofs.YtmocedkbabnpfaaGreat
namespace Go.Proofs.YtmocedkbabnpfaaGreat
open Go.RowKit Go.Shelf

/-- How far Meet has come. -/
structure MeetI (A B a b met : List Sp) : Prop where
  pa : PlainL a
  pb : PlainL b
  pm : PlainL met
  mem : ∀ k, (InL A k ∧ InL B k) ↔ (InL met k ∨ (InL a k ∧ InL b k))
  far : ∀ z ∈ met, (∀ x ∈ a, z.2 < x.1) ∨ (∀ y ∈ b, z.2 < y.1)
  len : met.length + a.length + b.length ≤ A.length + B.length
theorem MeetI.start {A B : List Sp} (ha : PlainL A) (hb : PlainL B) : MeetI A B A B [] :=
  ⟨ha, hb, ⟨by simp, by simp⟩, fun k => by simp [InL], by simp, by simp⟩
theorem MeetI.end {A B a b met : List Sp} (h : MeetI A B a b met) (he : a = [] ∨ b = []) (k : Int) : InL met k ↔ InL A k ∧ InL B k := by
  rw [h.mem k]
  rcases he with rfl | rfl <;> simp [InL]
def meetS (met : List Sp) (x y : Sp) : List Sp := if max x.1 y.1 < min x.2 y.2 then met ++ [(max x.1 y.1, min x.2 y.2)] else met
theorem MeetI.put {A B a b met : List Sp} {x y : Sp} (h : MeetI A B (x :: a) (y :: b) met) :
    PlainL (meetS met x y) ∧ (∀ k, InL (meetS met x y) k ↔ InL met k ∨ (x.1 ≤ k ∧ k < x.2 ∧ y.1 ≤ k ∧ k < y.2)) ∧ (∀ z ∈ meetS met x y, z ∈ met ∨ z.2 = min x.2 y.2) ∧ (meetS met x y).length ≤ met.length + 1 := by
  unfold meetS
  split
  · rename_i hlt
    refine ⟨plain_snoc.2 ⟨h.pm, hlt, fun z hz => ?_⟩, fun k => ?_, fun z hz => ?_, by simp⟩
    · rcases h.far z hz with hf | hf
      · have := hf x (by simp); simp only; omega
      · have := hf y (by simp); simp only; omega
    · rw [InL_append, InL_one]
      simp only
      constructor
      · rintro (h | h)
        · exact .inl h
        · exact .inr (by omega)
      · rintro (h | h)
        · exact .inl h
        · exact .inr (by omega)
    · rw [List.mem_append] at hz
      rcases hz with hz | hz
      · exact .inl hz
      · simp at hz; subst hz; exact .inr rfl
  · rename_i hlt
    refine ⟨h.pm, fun k => ?_, fun z hz => .inl hz, by simp⟩
    constructor
    · exact fun h => .inl h
    · rintro (h | h)
      · exact h
      · omega
theorem MeetI.left {A B a b met : List Sp} {x y : Sp} (h : MeetI A B (x :: a) (y :: b) met) (hlt : x.2 < y.2) : MeetI A B a (y :: b) (meetS met x y) := by
  obtain ⟨p1, p2, p3, p4⟩ := h.put
  refine ⟨h.pa.tail, h.pb, p1, fun k => ?_, fun z hz => ?_, by have := h.len; simp at this ⊢; omega⟩
  · rw [h.mem k, p2 k, InL_cons x a, InL_cons y b]
    constructor
    · rintro (h1 | ⟨h1 | h1, h2⟩)
      · exact .inl (.inl h1)
      · rcases h2 with h2 | h2
        · exact .inl (.inr ⟨h1.1, h1.2, h2.1, h2.2⟩)
        · have := h.pb.beyond h2; omega
      · exact .inr ⟨h1, h2⟩
    · rintro ((h1 | h1) | ⟨h1, h2⟩)
      · exact .inl h1
      · exact .inr ⟨.inl ⟨h1.1, h1.2.1⟩, .inl ⟨h1.2.2.1, h1.2.2.2⟩⟩
      · exact .inr ⟨.inr h1, h2⟩
  · rcases p3 z hz with hm | hm
    · rcases h.far z hm with hf | hf
      · exact .inl fun t ht => hf t (List.mem_cons_of_mem _ ht)
      · exact .inr hf
    · refine .inl fun t ht => ?_
      have := (List.pairwise_cons.1 h.pa.2).1 t ht
      omega
theorem MeetI.right {A B a b met : List Sp} {x y : Sp} (h : MeetI A B (x :: a) (y :: b) met) (hlt : ¬ x.2 < y.2) : MeetI A B (x :: a) b (meetS met x y) := by
  obtain ⟨p1, p2, p3, p4⟩ := h.put
  refine ⟨h.pa, h.pb.tail, p1, fun k => ?_, fun z hz => ?_, by have := h.len; simp at this ⊢; omega⟩
  · rw [h.mem k, p2 k, InL_cons x a, InL_cons y b]
    constructor
    · rintro (h1 | ⟨h1, h2 | h2⟩)
      · exact .inl (.inl h1)
      · rcases h1 with h1 | h1
        · exact .inl (.inr ⟨h1.1, h1.2, h2.1, h2.2⟩)
        · have := h.pa.beyond h1; omega
      · exact .inr ⟨h1, h2⟩
    · rintro ((h1 | h1) | ⟨h1, h2⟩)
      · exact .inl h1
      · exact .inr ⟨.inl ⟨h1.1, h1.2.1⟩, .inl ⟨h1.2.2.1, h1.2.2.2⟩⟩
      · exact .inr ⟨h1, .inr h2⟩
  · rcases p3 z hz with hm | hm
    · rcases h.far z hm with hf | hf
      · exact .inl hf
      · exact .inr fun t ht => hf t (List.mem_cons_of_mem _ ht)
    · refine .inr fun t ht => ?_
      have := (List.pairwise_cons.1 h.pb.2).1 t ht
      omega
theorem Tryz.elemSs' : Tryz.prog.underlying 29 = some (.slice (Tryz.prog.elem 29)) := by
  rw [show Tryz.prog.elem 29 = 24 by kernel_rfl]; exact Tryz.underlyingSs
theorem Tryz.sizeSpan (w : World) : (sizeOf 24).run Tryz.prog w = .ok 2 w := by kernel_rfl
def tailS (va : Option Addr) (n vc : Nat) : Value := .slice (if vc = 1 then va else va.map (·.add 2)) (n - 1) (vc - 1)
theorem run_tailS (va : Option Addr) (n vc : Nat) (hn : 1 ≤ n) (w : World) :
    (Instr.slice 29 (.slice va n vc) (some (.int .i64 1)) none none).run Tryz.prog w = .ok (tailS va n vc) w := by
  have h := run_slice_l (P := Tryz.prog) (w := w) 29 va n vc Tryz.elemSs' .i64 1 (by omega) (by omega)
  rw [h, show Tryz.prog.elem 29 = 24 by kernel_rfl, Tryz.sizeSpan]
  simp [Result.andThen, sliced, tailS]
theorem Sps.tail {w : World} {va : Option Addr} {vc : Nat} {x : Sp} {l : List Sp} (h : Sps w (.slice va (x :: l).length vc) (x :: l)) : ∃ va' vc', tailS va (x :: l).length vc = .slice va' l.length vc' ∧ Sps w (.slice va' l.length vc') l := by
  refine ⟨_, _, rfl, ?_⟩
  obtain ⟨ao, n, cap, e, h1, h2, h3, h4, h5⟩ := h
  cases e
  have hle : l.length + 1 ≤ vc := by simpa using h2
  refine ⟨_, _, _, rfl, rfl, by omega, by omega, ?_, ?_⟩
  · intro hn
    by_cases hc : vc = 1
    · omega
    · rw [if_neg hc] at hn
      cases va with
      | none => have := h4 rfl; omega
      | some a => cases hn
  · intro ad had j hj
    have hc : vc ≠ 1 := by omega
    rw [if_neg hc] at had
    cases va with
    | none => cases had
    | some a =>
      simp at had
      subst had
      have := h5 a rfl (j + 1) (by simp; omega)
      rw [Addr.add_add, Addr.add_add]
      rw [show 2 + j * 2 = (j + 1) * 2 from by omega, show 2 + (j * 2 + 1) = (j + 1) * 2 + 1 from by omega]
      simpa using this
theorem new_pair (w W : World) (h : Below (w.drew.alloc (.cells #[.int .i64 0, .int .i64 0] 24)).heap.size (w.drew.alloc (.cells #[.int .i64 0, .int .i64 0] 24)) W) :
    W.cell? ⟨w.heap.size, 0, none⟩ = some (.int .i64 0) ∧ W.cell? ⟨w.heap.size, 1, none⟩ = some (.int .i64 0) ∧ W.frozen? ⟨w.heap.size, 0, none⟩ = false ∧ W.frozen? ⟨w.heap.size, 1, none⟩ = false := by
  have hn : (w.drew.alloc (.cells #[.int .i64 0, .int .i64 0] 24)).heap[w.heap.size]? = some (.cells #[.int .i64 0, .int .i64 0] 24 (0, 0)) := heap_alloc_new w.drew _
  have hk := (h.block w.heap.size (by simp)).trans hn
  refine ⟨by rw [cell_of_row _ _ _ _ _ _ hk]; rfl, by rw [cell_of_row _ _ _ _ _ _ hk]; rfl, ?_, ?_⟩ <;> simp [World.frozen?, hk]
/-- r is the plain row of the blocks of both. -/
structure MeetOf (a b r : List Sp) : Prop where
  plain : PlainL r
  mem : ∀ k, InL r k ↔ (InL a k ∧ InL b k)
  len : r.length ≤ a.length + b.length
set_option maxRecDepth 100000 in
set_option maxHeartbeats 4000000 in
theorem meet_any (u v : Value) (a b : List Sp) (w : World) (hu : Sps w u a) (hv : Sps w v b) (ha : a.length ≤ 1000000) (hb : b.length ≤ 1000000) :
    Calls Tryz.prog 30 #[u, v] w fun e w' => ∃ r va vc, MeetOf a b r ∧ e = .returned (.slice va r.length vc) ∧ OwnS w' w.heap.size (.slice va r.length vc) r ∧ Below w.heap.size w w' := by
  have HU := hid hu
  have HV := hid hv
  obtain ⟨a0, c0, rfl⟩ := hu.shape
  obtain ⟨a1, c1, rfl⟩ := hv.shape
  clear hu hv
  go_enter Tryz.func30, Tryz.ntmps30
  go_wp2_with fail
  refine (norm_any _ a _ HU.out (by omega)).mono ?_
  rintro e w1 ⟨A, va1, vc1, hn1, rfl, ho1, hb1⟩
  have N1 := hid hn1
  have S1 := hid ho1.sps
  have B1 := hid hb1
  have V1 := hid (HV.out.below hb1)
  clear hn1 ho1 hb1 HU HV
  go_wp2_with fail
  refine (norm_any _ b _ V1.out (by omega)).mono ?_
  rintro e w2 ⟨B, va2, vc2, hn2, rfl, ho2, hb2⟩
  have N2 := hid hn2
  have T2 := hid ho2.sps
  have S2 := hid (S1.out.below hb2)
  have B2 := hid (B1.out.trans (hb2.mono B1.out.size))
  have hAB : A.length + B.length ≤ 2000000 := by have h1 := N1.out.len; have h2 := hn2.len; omega
  clear hn2 ho2 hb2 V1 S1 B1
  go_wp2_with fail
  go_loopw [0, 1, 5, 6] (fun av bv mv _ wr => ∃ (p q met : List Sp) (xa ya ma : Option Addr) (xc yc mc : Nat), av = .slice xa p.length xc ∧ bv = .slice ya q.length yc ∧ mv = .slice ma met.length mc ∧ MeetI A B p q met ∧ Sps w2 (.slice xa p.length xc) p ∧ Sps w2 (.slice ya q.length yc) q ∧ OwnS wr w2.heap.size (.slice ma met.length mc) met ∧ Below w2.heap.size w2 wr) (fun av bv _ _ _ => (match av with | .slice _ n _ => n | _ => 0) + (match bv with | .slice _ n _ => n | _ => 0))
  case atStart => exact ⟨A, B, [], _, _, none, _, _, 0, rfl, rfl, rfl, MeetI.start N1.out.plain N2.out.plain, S2.out, T2.out, OwnS.nil _ _, Below.refl _ _⟩
  case round =>
    obtain ⟨p, q, met, xa, ya, ma, xc, yc, mc, rfl, rfl, rfl, hM, hx, hy, ho, hbe⟩ := hrel
    have HM := hid hM
    have HX := hid hx
    have HY := hid hy
    have HO := hid ho
    have BE := hid hbe
    have hsz := hbe.size
    clear hM hx hy ho hbe S2 T2
    cases p with
    | nil =>
      simp only [List.length_nil]
      go_wp2_with fail
      go_ret
      exact ⟨met, ma, mc, ⟨HM.out.pm, fun k => by rw [HM.out.end (.inl rfl) k, N1.out.mem k, N2.out.mem k], by have h1 := HM.out.len; have h2 := N1.out.len; have h3 := N2.out.len; simp at h1; omega⟩, rfl, HO.out.lower B2.out.size, B2.out.trans (BE.out.mono B2.out.size)⟩
    | cons x p =>
      cases q with
      | nil =>
        simp only [List.length_nil, List.length_cons]
        have h1 : (0 : Int) < (p.length : Int) + 1 := by omega
        go_wp2_with fail
        go_ret
        exact ⟨met, ma, mc, ⟨HM.out.pm, fun k => by rw [HM.out.end (.inr rfl) k, N1.out.mem k, N2.out.mem k], by have h1 := HM.out.len; have h2 := N1.out.len; have h3 := N2.out.len; simp at h1; omega⟩, rfl, HO.out.lower B2.out.size, B2.out.trans (BE.out.mono B2.out.size)⟩
      | cons y q =>
        obtain ⟨xb, xo, rfl⟩ := HX.out.addr (by simp)
        obtain ⟨yb, yo, rfl⟩ := HY.out.addr (by simp)
        have X0 := (HX.out.lit 0 (by simp))
        have Y0 := (HY.out.lit 0 (by simp))
        simp only [List.getElem_cons_zero, Nat.zero_mul, Nat.add_zero] at X0 Y0
        obtain ⟨x0, x1⟩ := X0
        obtain ⟨y0, y1⟩ := Y0
        obtain ⟨tx, txc, ex, HTX⟩ := HX.out.tail
        obtain ⟨ty, tyc, ey, HTY⟩ := HY.out.tail
        have rx := run_tailS (some ⟨xb, xo, none⟩) (x :: p).length xc (by simp)
        have ry := run_tailS (some ⟨yb, yo, none⟩) (y :: q).length yc (by simp)
        rw [ex] at rx
        rw [ey] at ry
        have hlm := HM.out.len
        simp only [List.length_cons] at rx ry hlm ⊢
        have i1 : (0 : Int) < (p.length : Int) + 1 := by omega
        have i2 : (0 : Int) < (q.length : Int) + 1 := by omega
        have SW : Hid (∀ X, Below w2.heap.size w2 X → (X.cell? ⟨xb, xo, none⟩ = some (.int .i64 x.1) ∧ X.cell? ⟨xb, xo + 1, none⟩ = some (.int .i64 x.2)) ∧ (X.cell? ⟨yb, yo, none⟩ = some (.int .i64 y.1) ∧ X.cell? ⟨yb, yo + 1, none⟩ = some (.int .i64 y.2))) := hid fun X hX => ⟨⟨cell_later hX x0, cell_later hX x1⟩, cell_later hX y0, cell_later hX y1⟩
        have HTX' := hid HTX
        have HTY' := hid HTY
        have DX := hid (BE.out.drew)
        clear ex ey x0 x1 y0 y1 HTX HTY
        go_wp2_with fail
        go_region_held3 (fun X => (X.cell? ⟨xb, xo, none⟩ = some (.int .i64 x.1) ∧ X.cell? ⟨xb, xo + 1, none⟩ = some (.int .i64 x.2)) ∧ (X.cell? ⟨yb, yo, none⟩ = some (.int .i64 y.1) ∧ X.cell? ⟨yb, yo + 1, none⟩ = some (.int .i64 y.2))) (first | exact SW.out _ DX.out | exact SW.out _ (DX.out.alloc hsz _) | exact SW.out _ B5.out | exact SW.out _ (B5.out.alloc B5.out.size _) | exact SW.out _ ((B5.out.setCell (p := ⟨wr.heap.size, 0, none⟩) hsz _).setCell (p := ⟨wr.heap.size, 1, none⟩) hsz _)) (first | (go_at_call 74; refine (common_any x y _).mono ?_; rintro e w5 ⟨rfl, hb5⟩; have B5 : Hid (Below w2.heap.size w2 w5) := hid (DX.out.trans (hb5.mono hsz)); have H5 := hid hb5; clear hb5) | (go_at_call 74; refine (common_any x y _).mono ?_; rintro e w5 ⟨rfl, hb5⟩; have B5 : Hid (Below w2.heap.size w2 w5) := hid ((DX.out.alloc hsz _).trans (hb5.mono (Nat.le_trans hsz (by simp)))); have H5 := hid hb5; obtain ⟨q0, q1, q2, q3⟩ := new_pair _ _ hb5; clear hb5))
        · have BW : Hid (Below wr.heap.size wr (w5.alloc (.cells #[.int .i64 (max x.1 y.1), .int .i64 (min x.2 y.2)] 24))) := hid (((Below.refl _ _).drew.trans (H5.out : Below wr.heap.size wr.drew w5)).alloc H5.out.size _)
          have K0 : Hid ((w5.alloc (.cells #[.int .i64 (max x.1 y.1), .int .i64 (min x.2 y.2)] 24)).cell? ⟨w5.heap.size, 0, none⟩ = some (.int .i64 (max x.1 y.1))) := hid (by rw [cell_of_row _ _ _ _ _ _ (heap_alloc_new _ _)]; rfl)
          have K1 : Hid ((w5.alloc (.cells #[.int .i64 (max x.1 y.1), .int .i64 (min x.2 y.2)] 24)).cell? ⟨w5.heap.size, 1, none⟩ = some (.int .i64 (min x.2 y.2))) := hid (by rw [cell_of_row _ _ _ _ _ _ (heap_alloc_new _ _)]; rfl)
          clear H5 B5
          generalize w5.alloc (.cells #[.int .i64 (max x.1 y.1), .int .i64 (min x.2 y.2)] 24) = W at *
          generalize w5.heap.size = K at *
          obtain ⟨s1, hs1⟩ : ∃ s1, s1 = max x.1 y.1 := ⟨_, rfl⟩
          obtain ⟨s2, hs2⟩ : ∃ s2, s2 = min x.2 y.2 := ⟨_, rfl⟩
          rw [← hs1] at K0 ⊢
          rw [← hs2] at K1 ⊢
          have HS1 := hid hs1
          have HS2 := hid hs2
          have OW := hid (HO.out.below BW.out)
          have B2W := hid (BE.out.trans (BW.out.mono hsz))
          have hszW := B2W.out.size
          have k0 := K0.out
          have k1 := K1.out
          clear hs1 hs2 K0 K1 HO BE DX
          by_cases hd : s1 < s2
          · have HMS : Hid (meetS met x y = met ++ [(s1, s2)]) := hid (by unfold meetS; rw [← HS1.out, ← HS2.out, if_pos hd])
            have hdd : decide (s2 ≤ s1) = false := decide_eq_false (by omega)
            clear hd
            go_wp2_with fail
            refine (empty_any (s1, s2) W).mono ?_
            rintro e w6 ⟨rfl, hw6⟩
            have b6 : Below W.heap.size W w6 := by rw [hw6]; exact (Below.refl _ _).alloc (Nat.le_refl _) _
            simp only [hdd]
            have k0' := cell_later b6 k0
            have k1' := cell_later b6 k1
            have O6 := hid (OW.out.below (b6.trans (((Below.refl W.heap.size w6).alloc b6.size (.cells #[.int .i64 s1, .int .i64 s2] 24)))))
            have B6 := hid (B2W.out.trans (b6.mono hszW))
            have h6 : w2.heap.size ≤ (w6.alloc (.cells #[.int .i64 s1, .int .i64 s2] 24)).heap.size := Nat.le_trans hszW (Nat.le_trans b6.size (by simp))
            have PX := hid (sps_one (W := w6.alloc (.cells #[.int .i64 s1, .int .i64 s2] 24)) (heap_alloc_new w6 _))
            have hml : met.length ≤ 2000000 := by omega
            clear hw6 b6 k0 k1 hdd OW
            go_wp2_with (at_builtin; refine wpl_appendS rfl (.tmp 29) (.tmp 31) rfl w2.heap.size (.slice ma met.length mc) met rfl O6.out _ [(s1, s2)] rfl PX.out (by simp only [List.length_singleton]; omega) h6 ?_; intro va7 vc7 w7 ho7 hg7; have O7 := hid ho7; have B7 := hid (((B6.out.alloc B6.out.size _)).trans (belowS_grown O6.out hg7 h6)); clear ho7 hg7)
            obtain ⟨⟨r0, r1⟩, r2, r3⟩ := SW.out _ B7.out
            by_cases hlt : x.2 < y.2
            · have HL := hid (HM.out.left hlt)
              rw [HMS.out] at HL
              go_quiet (fail)
              go_wp2_with fail
              go_roundw
              case rel => exact ⟨p, y :: q, _, tx, some ⟨yb, yo, none⟩, va7, txc, yc, vc7, rfl, rfl, by simp, HL.out, HTX'.out, HY.out, by simpa using O7.out.below (belowN w7 _), below_drewN B7.out _⟩
              case measure => simp
            · have HL := hid (HM.out.right hlt)
              rw [HMS.out] at HL
              go_quiet (fail)
              go_wp2_with fail
              go_roundw
              case rel => exact ⟨x :: p, q, _, some ⟨xb, xo, none⟩, ty, va7, xc, tyc, vc7, rfl, rfl, by simp, HL.out, HX.out, HTY'.out, by simpa using O7.out.below (belowN w7 _), below_drewN B7.out _⟩
              case measure => simp
          · have HMS : Hid (meetS met x y = met) := hid (by unfold meetS; rw [← HS1.out, ← HS2.out, if_neg hd])
            have hdd : decide (s2 ≤ s1) = true := decide_eq_true (by omega)
            clear hd
            go_wp2_with fail
            refine (empty_any (s1, s2) W).mono ?_
            rintro e w7 ⟨rfl, hw7⟩
            have b7 : Below W.heap.size W w7 := by rw [hw7]; exact (Below.refl _ _).alloc (Nat.le_refl _) _
            simp only [hdd]
            have O7 := hid (OW.out.below b7)
            have B7 := hid (B2W.out.trans (b7.mono hszW))
            clear hw7 b7 k0 k1 hdd OW
            go_wp2_with fail
            obtain ⟨⟨r0, r1⟩, r2, r3⟩ := SW.out _ B7.out
            by_cases hlt : x.2 < y.2
            · have HL := hid (HM.out.left hlt)
              rw [HMS.out] at HL
              go_quiet (fail)
              go_wp2_with fail
              go_roundw
              case rel => exact ⟨p, y :: q, _, tx, some ⟨yb, yo, none⟩, ma, txc, yc, mc, rfl, rfl, rfl, HL.out, HTX'.out, HY.out, O7.out.below (belowN w7 _), below_drewN B7.out _⟩
              case measure => simp
            · have HL := hid (HM.out.right hlt)
              rw [HMS.out] at HL
              go_quiet (fail)
              go_wp2_with fail
              go_roundw
              case rel => exact ⟨x :: p, q, _, some ⟨xb, xo, none⟩, ty, ma, xc, tyc, mc, rfl, rfl, rfl, HL.out, HX.out, HTY'.out, O7.out.below (belowN w7 _), below_drewN B7.out _⟩
              case measure => simp
        · have b5 : Below wr.heap.size wr w5 := (((Below.refl _ _).drew).alloc (Nat.le_refl _) _).trans (H5.out.mono (by simp))
          have BW : Hid (Below wr.heap.size wr ((w5.setCell ⟨wr.heap.size, 0, none⟩ (.int .i64 (max x.1 y.1))).setCell ⟨wr.heap.size, 1, none⟩ (.int .i64 (min x.2 y.2)))) := hid ((b5.setCell (p := ⟨wr.heap.size, 0, none⟩) (Nat.le_refl _) _).setCell (p := ⟨wr.heap.size, 1, none⟩) (Nat.le_refl _) _)
          have K0 : Hid (((w5.setCell ⟨wr.heap.size, 0, none⟩ (.int .i64 (max x.1 y.1))).setCell ⟨wr.heap.size, 1, none⟩ (.int .i64 (min x.2 y.2))).cell? ⟨wr.heap.size, 0, none⟩ = some (.int .i64 (max x.1 y.1))) := hid (by rw [World.cell?_setCell_other _ _ _ _ (by simp), World.cell?_setCell_same _ _ _ q0])
          have K1 : Hid (((w5.setCell ⟨wr.heap.size, 0, none⟩ (.int .i64 (max x.1 y.1))).setCell ⟨wr.heap.size, 1, none⟩ (.int .i64 (min x.2 y.2))).cell? ⟨wr.heap.size, 1, none⟩ = some (.int .i64 (min x.2 y.2))) := hid (World.cell?_setCell_same _ _ _ (by rw [World.cell?_setCell_other _ _ _ _ (by simp)]; exact q1))
          clear H5 B5 b5 q0 q1 q2 q3
          generalize (w5.setCell ⟨wr.heap.size, 0, none⟩ (.int .i64 (max x.1 y.1))).setCell ⟨wr.heap.size, 1, none⟩ (.int .i64 (min x.2 y.2)) = W at *
          obtain ⟨K, hK⟩ : ∃ K, K = wr.heap.size := ⟨_, rfl⟩
          rw [← hK] at K0 K1 ⊢
          clear hK
          obtain ⟨s1, hs1⟩ : ∃ s1, s1 = max x.1 y.1 := ⟨_, rfl⟩
          obtain ⟨s2, hs2⟩ : ∃ s2, s2 = min x.2 y.2 := ⟨_, rfl⟩
          rw [← hs1] at K0 ⊢
          rw [← hs2] at K1 ⊢
          have HS1 := hid hs1
          have HS2 := hid hs2
          have OW := hid (HO.out.below BW.out)
          have B2W := hid (BE.out.trans (BW.out.mono hsz))
          have hszW := B2W.out.size
          have k0 := K0.out
          have k1 := K1.out
          clear hs1 hs2 K0 K1 HO BE DX
          by_cases hd : s1 < s2
          · have HMS : Hid (meetS met x y = met ++ [(s1, s2)]) := hid (by unfold meetS; rw [← HS1.out, ← HS2.out, if_pos hd])
            have hdd : decide (s2 ≤ s1) = false := decide_eq_false (by omega)
            clear hd
            go_wp2_with fail
            refine (empty_any (s1, s2) W).mono ?_
            rintro e w6 ⟨rfl, hw6⟩
            have b6 : Below W.heap.size W w6 := by rw [hw6]; exact (Below.refl _ _).alloc (Nat.le_refl _) _
            simp only [hdd]
            have k0' := cell_later b6 k0
            have k1' := cell_later b6 k1
            have O6 := hid (OW.out.below (b6.trans (((Below.refl W.heap.size w6).alloc b6.size (.cells #[.int .i64 s1, .int .i64 s2] 24)))))
            have B6 := hid (B2W.out.trans (b6.mono hszW))
            have h6 : w2.heap.size ≤ (w6.alloc (.cells #[.int .i64 s1, .int .i64 s2] 24)).heap.size := Nat.le_trans hszW (Nat.le_trans b6.size (by simp))
            have PX := hid (sps_one (W := w6.alloc (.cells #[.int .i64 s1, .int .i64 s2] 24)) (heap_alloc_new w6 _))
            have hml : met.length ≤ 2000000 := by omega
            clear hw6 b6 k0 k1 hdd OW
            go_wp2_with (at_builtin; refine wpl_appendS rfl (.tmp 29) (.tmp 31) rfl w2.heap.size (.slice ma met.length mc) met rfl O6.out _ [(s1, s2)] rfl PX.out (by simp only [List.length_singleton]; omega) h6 ?_; intro va7 vc7 w7 ho7 hg7; have O7 := hid ho7; have B7 := hid (((B6.out.alloc B6.out.size _)).trans (belowS_grown O6.out hg7 h6)); clear ho7 hg7)
            obtain ⟨⟨r0, r1⟩, r2, r3⟩ := SW.out _ B7.out
            by_cases hlt : x.2 < y.2
            · have HL := hid (HM.out.left hlt)
              rw [HMS.out] at HL
              go_quiet (fail)
              go_wp2_with fail
              go_roundw
              case rel => exact ⟨p, y :: q, _, tx, some ⟨yb, yo, none⟩, va7, txc, yc, vc7, rfl, rfl, by simp, HL.out, HTX'.out, HY.out, by simpa using O7.out.below (belowN w7 _), below_drewN B7.out _⟩
              case measure => simp
            · have HL := hid (HM.out.right hlt)
              rw [HMS.out] at HL
              go_quiet (fail)
              go_wp2_with fail
              go_roundw
              case rel => exact ⟨x :: p, q, _, some ⟨xb, xo, none⟩, ty, va7, xc, tyc, vc7, rfl, rfl, by simp, HL.out, HX.out, HTY'.out, by simpa using O7.out.below (belowN w7 _), below_drewN B7.out _⟩
              case measure => simp
          · have HMS : Hid (meetS met x y = met) := hid (by unfold meetS; rw [← HS1.out, ← HS2.out, if_neg hd])
            have hdd : decide (s2 ≤ s1) = true := decide_eq_true (by omega)
            clear hd
            go_wp2_with fail
            refine (empty_any (s1, s2) W).mono ?_
            rintro e w7 ⟨rfl, hw7⟩
            have b7 : Below W.heap.size W w7 := by rw [hw7]; exact (Below.refl _ _).alloc (Nat.le_refl _) _
            simp only [hdd]
            have O7 := hid (OW.out.below b7)
            have B7 := hid (B2W.out.trans (b7.mono hszW))
            clear hw7 b7 k0 k1 hdd OW
            go_wp2_with fail
            obtain ⟨⟨r0, r1⟩, r2, r3⟩ := SW.out _ B7.out
            by_cases hlt : x.2 < y.2
            · have HL := hid (HM.out.left hlt)
              rw [HMS.out] at HL
              go_quiet (fail)
              go_wp2_with fail
              go_roundw
              case rel => exact ⟨p, y :: q, _, tx, some ⟨yb, yo, none⟩, ma, txc, yc, mc, rfl, rfl, rfl, HL.out, HTX'.out, HY.out, O7.out.below (belowN w7 _), below_drewN B7.out _⟩
              case measure => simp
            · have HL := hid (HM.out.right hlt)
              rw [HMS.out] at HL
              go_quiet (fail)
              go_wp2_with fail
              go_roundw
              case rel => exact ⟨x :: p, q, _, some ⟨xb, xo, none⟩, ty, ma, xc, tyc, mc, rfl, rfl, rfl, HL.out, HX.out, HTY'.out, O7.out.below (belowN w7 _), below_drewN B7.out _⟩
              case measure => simp
end Go.Proofs.YtmocedkbabnpfaaGreat
namespace Go.Proofs.YtmocedkbabnpfaaGreat
open Go.RowKit Go.Shelf

theorem of0_plain (a b : List Sp) : PlainL (ofL a b (keepF 0 a b)) ∧ ∀ k, InL (ofL a b (keepF 0 a b)) k ↔ (InL a k ∨ InL b k) :=
  ofL_plain a b (keepF 0 a b) (fun p q => p ∨ q) (by simp) fun k => by simp [keepF, keepK, hasB_iff]
theorem of1_plain (a b : List Sp) : PlainL (ofL a b (keepF 1 a b)) ∧ ∀ k, InL (ofL a b (keepF 1 a b)) k ↔ (InL a k ∧ InL b k) :=
  ofL_plain a b (keepF 1 a b) (fun p q => p ∧ q) (by simp) fun k => by simp [keepF, keepK, hasB_iff]
theorem of2_plain (a b : List Sp) : PlainL (ofL a b (keepF 2 a b)) ∧ ∀ k, InL (ofL a b (keepF 2 a b)) k ↔ (InL a k ∧ ¬ InL b k) :=
  ofL_plain a b (keepF 2 a b) (fun p q => p ∧ ¬ q) (by simp) fun k => by
    have h2 := hasB_iff b k
    simp only [keepF, keepK]
    simp
    rw [hasB_iff a k]
    rw [← h2]; simp
theorem InL_nil (k : Int) : ¬ InL [] k := by simp [InL]
end Go.Proofs.YtmocedkbabnpfaaGreat
