/- What slices.Clone and slices.DeleteFunc (with empty) do to rows of spans. No condition but that the rows lie in memory. -/
import Derived.Test.YtbfmanhbbancmaaSpSort
import Derived.Lib.SliceRun
import Derived.Shelf.SlSortCmp.NoneTotal
namespace Go.Proofs.Ytbfmanhbbancmaa
open Go.RowKit

/-- '[]api.Span{}' is a row of the call's own. -/
theorem OwnS.empty (w : World) : OwnS (w.alloc (.cells #[] 33)) w.heap.size (.slice (some ⟨w.heap.size, 0, none⟩) 0 0) [] :=
  ⟨rfl, .inr ⟨w.heap.size, 0, #[], rfl, Nat.le_refl _, heap_alloc_new _ _, Nat.le_refl _, Nat.zero_le _, rfl, rfl⟩⟩

set_option maxHeartbeats 800000 in
theorem clone_any (v : Value) (l : List Sp) (w : World) (hv : Sps w v l) (hl : l.length ≤ 1000000000) :
    Calls Try.prog 49 #[v] w fun e w' => ∃ va vc, e = .returned (.slice va l.length vc) ∧ OwnS w' w.heap.size (.slice va l.length vc) l ∧ Below w.heap.size w w' := by
  have HV := hid hv
  obtain ⟨ao, n, cap, rfl, rfl, hc, hcap, hnone, hcell⟩ := hv
  clear hcell
  cases ao with
  | none =>
    have h0 : l = [] := List.eq_nil_of_length_eq_zero (by have := hnone rfl; omega)
    subst h0
    clear hnone
    have hnil := Lib.run_eql_slice_nil (P := Try.prog) w 28 33 none 0 cap 0 0 Try.underlyingSs
    go_enter Try.func49, Try.ntmps49
    go_wp2
    go_ret
    exact ⟨none, 0, rfl, OwnS.nil _ _, Below.refl _ _⟩
  | some a =>
    clear hnone
    have HO := hid (OwnS.empty w)
    have hba : Below w.heap.size w (w.alloc (.cells #[] 33)) := (Below.refl _ _).alloc (Nat.le_refl _) _
    have HA1 := hid (HV.out.below hba)
    have hnil := Lib.run_eql_slice_nil (P := Try.prog) w 28 33 (some a) l.length cap 0 0 Try.underlyingSs
    go_enter Try.func49, Try.ntmps49
    go_wp2_with (at_builtin; refine wpl_appendS rfl _ _ rfl w.heap.size (.slice (some ⟨w.heap.size, 0, none⟩) 0 0) [] rfl HO.out _ l rfl HA1.out (by simp; omega) (by simp) ?_; intro va1 vc1 w2 ho1 hg1; simp only [List.length_nil, Nat.zero_add, List.nil_append] at ho1; have HB2 := hid (hba.trans (belowS_grown HO.out hg1 (by simp))); have HO1 := hid ho1; clear ho1 hg1)
    go_ret
    exact ⟨va1, vc1, by simp, HO1.out, HB2.out⟩

theorem flat_set2 (l : List Sp) (j : Nat) (h : j < l.length) (x : Sp) : ((flat l).set (j * 2) (.int .i64 x.1)).set (j * 2 + 1) (.int .i64 x.2) = flat (l.set j x) := by
  induction l generalizing j with
  | nil => cases h
  | cons y l ih =>
    cases j with
    | zero => rfl
    | succ j =>
      have := ih j (by simpa using h)
      rw [flat_cons, show (j + 1) * 2 + 1 = j * 2 + 1 + 1 + 1 from by omega, show (j + 1) * 2 = j * 2 + 1 + 1 from by omega]
      simp only [List.set_cons_succ, this]
      rfl
/-- Behind a store of a whole span into a row of the call's own. -/
theorem OwnS.set2 {w : World} {base g vc n : Nat} {l : List Sp} (h : OwnS w base (.slice (some ⟨g, 0, none⟩) n vc) l) (j : Nat) (hj : j < l.length) (x : Sp) :
    OwnS ((w.setCell ⟨g, j * 2, none⟩ (.int .i64 x.1)).setCell ⟨g, j * 2 + 1, none⟩ (.int .i64 x.2)) base (.slice (some ⟨g, 0, none⟩) n vc) (l.set j x) := by
  have hn : n = l.length := by obtain ⟨_, _, e⟩ := h.shape; cases e; rfl
  subst hn
  have h1 : w.ownsRow base 33 2 (.slice (some ⟨g, 0, none⟩) l.length vc) l.length (flat l) := h
  have h2 := (h1.stored (j * 2) (.int .i64 x.1)).1
  have h3 := (h2.stored (j * 2 + 1) (.int .i64 x.2)).1
  rw [flat_set2 l j hj x] at h3
  unfold OwnS
  rw [List.length_set]; exact h3
theorem OwnS.cells_at {w : World} {base g vc n : Nat} {l : List Sp} (h : OwnS w base (.slice (some ⟨g, 0, none⟩) n vc) l) (j : Nat) (hj : j < l.length) :
    w.cell? ⟨g, j * 2, none⟩ = some (.int .i64 l[j].1) ∧ w.cell? ⟨g, j * 2 + 1, none⟩ = some (.int .i64 l[j].2) ∧ w.frozen? ⟨g, j * 2, none⟩ = false ∧ w.frozen? ⟨g, j * 2 + 1, none⟩ = false ∧ base ≤ g := by
  have hn : n = l.length := by obtain ⟨_, _, e⟩ := h.shape; cases e; rfl
  subst hn
  have h1 : w.ownsRow base 33 2 (.slice (some ⟨g, 0, none⟩) l.length vc) l.length (flat l) := h
  have e := flat_at l j hj
  have e1 := h1.cells (g := g) rfl _ _ e.1
  have e2 := h1.cells (g := g) rfl _ _ e.2
  rw [Addr.add_lit, Nat.zero_add] at e1 e2
  exact ⟨e1, e2, h1.frozenAt _, h1.frozenAt _, (World.ownsRow.lt h g rfl).1⟩

/-- The place of the first empty one. -/
def firstE (l : List Sp) : Nat := (l.takeWhile fun x => !decide (x.2 ≤ x.1)).length
theorem firstE_le (l : List Sp) : firstE l ≤ l.length := by
  have := List.Sublist.length_le (List.takeWhile_sublist (l := l) fun x => !decide (x.2 ≤ x.1))
  exact this
theorem firstE_spec (l : List Sp) : (∀ x ∈ l.take (firstE l), (!decide (x.2 ≤ x.1)) = true) ∧ ∀ h : firstE l < l.length, l[firstE l].2 ≤ l[firstE l].1 := by
  induction l with
  | nil => exact ⟨fun x hx => by simp at hx, fun h => by cases h⟩
  | cons y l ih =>
    by_cases hy : y.2 ≤ y.1
    · have e : firstE (y :: l) = 0 := by simp [firstE, hy]
      rw [e]
      exact ⟨fun x hx => by simp at hx, fun _ => hy⟩
    · have e : firstE (y :: l) = firstE l + 1 := by simp [firstE, hy]
      rw [e]
      refine ⟨fun x hx => ?_, fun h => ih.2 (by simpa using h)⟩
      rw [List.take_succ_cons, List.mem_cons] at hx
      rcases hx with rfl | hx
      · simp [hy]
      · exact ih.1 x hx
theorem firstE_at (l : List Sp) (k : Nat) (hk : k < l.length) (hn : ∀ j (h : j < l.length), j < k → ¬ l[j].2 ≤ l[j].1) (he : l[k].2 ≤ l[k].1) : firstE l = k := by
  induction l generalizing k with
  | nil => cases hk
  | cons x l ih =>
    unfold firstE
    cases k with
    | zero => simp at he; simp [he]
    | succ k =>
      have h0 := hn 0 (by simp) (by omega)
      simp at h0
      have := ih k (by simpa using hk) (fun j h hj => by have := hn (j + 1) (by simpa using h) (by omega); simpa using this) (by simpa using he)
      unfold firstE at this
      simp [h0, this]
theorem firstE_none (l : List Sp) (hn : ∀ j (h : j < l.length), ¬ l[j].2 ≤ l[j].1) : firstE l = l.length := by
  induction l with
  | nil => rfl
  | cons x l ih =>
    have h0 := hn 0 (by simp)
    simp at h0
    have := ih fun j h => by have := hn (j + 1) (by simpa using h); simpa using this
    unfold firstE at this ⊢
    simp [h0, this]

theorem Sps.at {w : World} {a : Addr} {cap : Nat} {l : List Sp} (h : Sps w (.slice (some a) l.length cap) l) (j : Nat) (hj : j < l.length) : w.cell? (a.add (j * 2)) = some (.int .i64 l[j].1) ∧ w.cell? (a.add (j * 2 + 1)) = some (.int .i64 l[j].2) := by
  obtain ⟨ao, n, cap', e, h1, h2, h3, h4, h5⟩ := h
  cases e
  exact h5 a rfl j hj
theorem Sps.at_lit {w : World} {b o cap : Nat} {l : List Sp} (h : Sps w (.slice (some ⟨b, o, none⟩) l.length cap) l) (j : Nat) (hj : j < l.length) : w.cell? ⟨b, o + j * 2, none⟩ = some (.int .i64 l[j].1) ∧ w.cell? ⟨b, o + j * 2 + 1, none⟩ = some (.int .i64 l[j].2) := by
  have := h.at j hj
  rw [Addr.add_lit, Addr.add_lit, ← Nat.add_assoc] at this
  exact this
theorem Sps.some_addr {w : World} {ao : Option Addr} {cap : Nat} {l : List Sp} (h : Sps w (.slice ao l.length cap) l) (hl : 0 < l.length) : ∃ b o, ao = some ⟨b, o, none⟩ := by
  cases ao with
  | none =>
    obtain ⟨_, _, _, e, h1, h2, h3, h4, -⟩ := h
    cases e
    have := h4 rfl; omega
  | some a =>
    have h0 := (h.at 0 hl).1
    have := World.cell?_spot h0
    obtain ⟨b, o, sp⟩ := a
    simp [Addr.add] at this
    subst this
    exact ⟨b, o, rfl⟩

set_option maxHeartbeats 1600000 in
theorem index_any (v : Value) (l : List Sp) (w : World) (hv : Sps w v l) (hl : l.length ≤ 1000000000) :
    Calls Try.prog 60 #[v, .func (.func 30) #[] #[]] w fun e w' => e = .returned (.int .i64 (if firstE l < l.length then (firstE l : Int) else -1)) ∧ Below w.heap.size w w' := by
  have HV := hid hv
  obtain ⟨ao, cap, rfl⟩ := hv.shape
  clear hv
  have hlI : (l.length : Int) ≤ 1000000000 := by omega
  obtain ⟨r, hr⟩ : ∃ r : Int, r = if firstE l < l.length then (firstE l : Int) else -1 := ⟨_, rfl⟩
  rw [← hr]
  have HR := hid hr
  clear hr
  go_enter Try.func60, Try.ntmps60
  go_wp2_with fail
  go_loopw [8] (fun iv wr => ∃ k : Nat, iv = .int .i64 k ∧ k ≤ l.length ∧ (∀ j (h : j < l.length), j < k → ¬ l[j].2 ≤ l[j].1) ∧ Below w.heap.size w wr) (fun iv _ => l.length - (intOf iv).toNat)
  case atStart => exact ⟨0, rfl, Nat.zero_le _, fun j h hj => by omega, Below.refl _ _⟩
  case round =>
    obtain ⟨k, rfl, hk, hall, hbr⟩ := hrel
    have HALL := hid hall
    have HBR := hid hbr
    have HVR := hid (HV.out.below hbr)
    clear hall hbr
    by_cases hlt : k < l.length
    · obtain ⟨b, o, rfl⟩ := HVR.out.some_addr (by omega)
      obtain ⟨hc0, hc1⟩ := HVR.out.at_lit k hlt
      obtain ⟨x, hx⟩ : ∃ x, x = l[k] := ⟨_, rfl⟩
      rw [← hx] at hc0 hc1
      have HX := hid hx
      clear hx
      obtain ⟨p, q⟩ := x
      have HE := hid (empty_any (p, q) wr)
      by_cases he : q ≤ p
      · go_wp2_with (go_at_call 30; refine HE.out.mono ?_; rintro e w' ⟨rfl, rfl⟩)
        go_ret
        have hf := firstE_at l k hlt (fun j h hj => by have := HALL.out j h hj; omega) (by rw [← HX.out]; exact he)
        refine ⟨?_, HBR.out.alloc HBR.out.size _⟩
        have hi : r = (k : Int) := by rw [HR.out, hf, if_pos hlt]
        rw [hi]; rfl
      · go_wp2_with (go_at_call 30; refine HE.out.mono ?_; rintro e w' ⟨rfl, rfl⟩)
        go_roundw
        case rel =>
          refine ⟨k + 1, by go_num, by omega, fun j h hj => ?_, HBR.out.alloc HBR.out.size _⟩
          by_cases hj' : j < k
          · have := HALL.out j h hj'; omega
          · obtain rfl : j = k := by omega
            rw [← HX.out]; show ¬ q ≤ p; omega
        case measure => simp [intOf]; omega
    · obtain rfl : k = l.length := by omega
      go_wp2
      go_ret
      refine ⟨?_, HBR.out⟩
      have hf := firstE_none l fun j h => by have := HALL.out j h h; omega
      have hi : r = -1 := by rw [HR.out, hf, if_neg (by omega)]
      rw [hi]; rfl
theorem owns_setCells {base : Nat} {e : TypeId} {size g n cap : Nat} : ∀ (vs : List Value) (o : Nat) (w : World) (xs : List Value), w.ownsRow base e size (.slice (some ⟨g, 0, none⟩) n cap) n xs →
    ∃ xs', (w.setCells g o vs).ownsRow base e size (.slice (some ⟨g, 0, none⟩) n cap) n xs' ∧ xs'.take o = xs.take o ∧ Below base w (w.setCells g o vs)
  | [], _, w, xs, h => ⟨xs, h, rfl, Below.refl _ _⟩
  | v :: r, o, w, xs, h => by
    have h1 := (h.stored o v).1
    obtain ⟨xs', h2, h3, h4⟩ := owns_setCells r (o + 1) _ _ h1
    refine ⟨xs', h2, ?_, ((Below.refl base w).setCell (p := ⟨g, o, none⟩) (World.ownsRow.lt h g rfl).1 v).trans h4⟩
    have := congrArg (List.take o) h3
    rw [List.take_take, List.take_take, Nat.min_eq_left (by omega), List.take_set_of_le (Nat.le_refl _)] at this
    exact this
theorem flat_take (l : List Sp) (i : Nat) : (flat l).take (i * 2) = flat (l.take i) := by
  induction l generalizing i with
  | nil => simp [flat_nil]
  | cons x l ih =>
    cases i with
    | zero => simp [flat_nil]
    | succ i => rw [List.take_succ_cons, flat_cons, flat_cons, show (i + 1) * 2 = i * 2 + 1 + 1 from by omega, List.take_succ_cons, List.take_succ_cons, ih]
/-- A beginning of a row of the call's own. -/
theorem own_prefix {w : World} {base g n cap i : Nat} {xs : List Value} {c : List Sp} (h : w.ownsRow base 33 2 (.slice (some ⟨g, 0, none⟩) n cap) n xs) (hx : xs.take (i * 2) = flat c) (hi : i ≤ n) (hc : c.length = i) : OwnS w base (.slice (some ⟨g, 0, none⟩) i cap) c := by
  subst hc
  obtain ⟨h1, h2⟩ := h
  rcases h2 with ⟨h2, _⟩ | ⟨g', cap', cur, e, hbg, hh, hc, hm, hs, ht⟩
  · cases h2
  cases e
  refine ⟨flat_len c, .inr ⟨g, cap, cur, rfl, hbg, hh, by omega, hm, hs, ?_⟩⟩
  have := congrArg (List.take (c.length * 2)) ht
  rw [List.take_take, Nat.min_eq_left (Nat.mul_le_mul_right 2 hi), hx] at this
  exact this
theorem zeroS_len (n : Nat) : (Builtin.zeroCells #[Value.int .i64 0, .int .i64 0] n).toList.length = n * 2 := by simp [Builtin.zeroCells]
theorem zeroS_one (n : Nat) : ∀ v ∈ (Builtin.zeroCells #[Value.int .i64 0, .int .i64 0] n).toList, v.oneCell' = true := by
  intro v hv
  simp [Builtin.zeroCells] at hv
  obtain ⟨a, -, rfl⟩ := hv
  rcases Nat.mod_two_eq_zero_or_one a with h | h <;> rw [h] <;> rfl
theorem run_clearS (w : World) (g o n c : Nat) (hn : 0 < n) (hc : ∀ j, j < n * 2 → (w.cell? ⟨g, o + j, none⟩).isSome = true) (hf : ∀ j, j < n * 2 → w.frozen? ⟨g, o + j, none⟩ = false) (ty : TypeId) :
    (Builtin.clear_ #[28] ty #[.slice (some ⟨g, o, none⟩) n c]).run Try.prog w = .ok (.tuple #[]) (w.setCells g o (Builtin.zeroCells #[Value.int .i64 0, .int .i64 0] n).toList) := by
  have hst := run_storeCells_cells (P := Try.prog) g o (Builtin.zeroCells #[Value.int .i64 0, .int .i64 0] n).toList 0 w (by rw [zeroS_len]; simpa using hc) (by rw [zeroS_len]; simpa using hf) (zeroS_one n)
  simp only [Nat.add_zero] at hst
  obtain ⟨m, rfl⟩ : ∃ m, n = m + 1 := ⟨n - 1, by omega⟩
  have hz := Try.zeroValue33 w
  simp [Builtin.clear_, run_underlying Try.underlyingSs, hz, hst, Value.cells]

set_option maxHeartbeats 1600000 in
theorem delete_any (base : Nat) (va : Option Addr) (vc : Nat) (l : List Sp) (w : World) (ho : OwnS w base (.slice va l.length vc) l) (hb : base ≤ w.heap.size) (hl : l.length ≤ 1000000000) :
    Calls Try.prog 48 #[.slice va l.length vc, .func (.func 30) #[] #[]] w fun e w' => ∃ m, m = (l.filter fun x => !decide (x.2 ≤ x.1)).length ∧ e = .returned (.slice va m vc) ∧ OwnS w' base (.slice va m vc) (l.filter fun x => !decide (x.2 ≤ x.1)) ∧ Below base w w' := by
  have HO := hid ho
  have HI := hid (index_any _ l w ho.sps hl)
  clear ho
  have hlI : (l.length : Int) ≤ 1000000000 := by omega
  by_cases hf : firstE l < l.length
  · rw [if_pos hf] at HI
    obtain ⟨g, rfl⟩ : ∃ g, va = some ⟨g, 0, none⟩ := by
      obtain ⟨h1, h2⟩ := HO.out
      rcases h2 with ⟨_, h0⟩ | ⟨g, cap, cur, e, -⟩
      · omega
      · cases e; exact ⟨g, rfl⟩
    obtain ⟨k, hk⟩ : ∃ k, k = firstE l := ⟨_, rfl⟩
    rw [← hk] at HI hf
    have HK := hid hk
    clear hk
    have hk0 : ((k : Int) == -1) = false := by simp
    go_enter Try.func48, Try.ntmps48
    go_wp2_with (go_at_call 60; refine HI.out.mono ?_; rintro e w' ⟨rfl, hb1⟩; have HB1 := hid hb1; clear hb1)
    have HO1 := hid (HO.out.below HB1.out)
    have HB1' := hid (HB1.out.mono hb)
    go_loopw [5, 6] (fun iv jv wr => ∃ (i j : Nat) (c : List Sp), iv = .int .i64 i ∧ jv = .int .i64 j ∧ i < j ∧ j ≤ l.length ∧ c.length = l.length ∧ OwnS wr base (.slice (some ⟨g, 0, none⟩) l.length vc) c ∧ c.take i = (l.take j).filter (fun x => !decide (x.2 ≤ x.1)) ∧ c.drop j = l.drop j ∧ Below base w wr) (fun _ jv _ => l.length - (intOf jv).toNat)
    case atStart =>
      have hfs := firstE_spec l
      rw [← HK.out] at hfs
      refine ⟨k, k + 1, l, rfl, by go_num, by omega, by omega, rfl, HO1.out, ?_, rfl, HB1'.out⟩
      rw [List.take_add_one, List.filter_append, List.getElem?_eq_getElem hf, List.filter_eq_self.2 hfs.1]
      simp [hfs.2 hf]
    case round =>
      obtain ⟨i, j, c, rfl, rfl, hij, hjl, hcl, hoc, htk, hdr, hbr⟩ := hrel
      have HTK := hid htk
      have HDR := hid hdr
      have HCL := hid hcl
      have HOC := hid hoc
      have HBR := hid hbr
      clear htk hdr hcl hoc hbr HO1 HB1 HB1'
      have hjI : (j : Int) ≤ (l.length : Int) := by omega
      by_cases hlt : j < l.length
      · have hltI : (j : Int) < (l.length : Int) := by omega
        have hilt : (i : Int) < (l.length : Int) := by omega
        obtain ⟨h0, h1, h2, h3, h4⟩ := HOC.out.cells_at j (by have := HCL.out; omega)
        have hcj : c[j]'(by have := HCL.out; omega) = l[j] := by
          have := HDR.out
          rw [List.drop_eq_getElem_cons (by have := HCL.out; omega), List.drop_eq_getElem_cons hlt] at this
          exact (List.cons.inj this).1
        rw [hcj] at h0 h1
        obtain ⟨x, hx⟩ : ∃ x, x = l[j] := ⟨_, rfl⟩
        rw [← hx] at h0 h1
        have HX := hid hx
        clear hx hcj
        obtain ⟨p, q⟩ := x
        have HE := hid (empty_any (p, q) (wr.alloc (.cells #[.int .i64 p, .int .i64 q] 33)))
        have HW2 := hid (((HBR.out.alloc (Nat.le_trans hb HBR.out.size) (.cells #[.int .i64 p, .int .i64 q] 33)).alloc (by have := HBR.out.size; simp; omega) (.cells #[.int .i64 p, .int .i64 q] 33)))
        have HO2 := hid (HOC.out.below (((Below.refl _ _).alloc (Nat.le_refl _) (.cells #[.int .i64 p, .int .i64 q] 33)).alloc (by simp) (.cells #[.int .i64 p, .int .i64 q] 33)))
        by_cases he : q ≤ p
        · clear h2 h3 h4
          go_wp2_with (go_at_call 30; refine HE.out.mono ?_; rintro e w' ⟨rfl, rfl⟩)
          go_roundw
          case rel =>
            refine ⟨i, j + 1, c, rfl, by go_num, by omega, by omega, HCL.out, HO2.out, ?_, ?_, HW2.out⟩
            · rw [List.take_add_one (l := l), List.filter_append, ← HTK.out, List.getElem?_eq_getElem hlt, ← HX.out]
              simp [he]
            · have := congrArg (List.drop 1) HDR.out
              simpa [Nat.add_comm] using this
          case measure => simp [intOf]; omega
        · obtain ⟨f0, f1, f2, f3, f4⟩ := HO2.out.cells_at i (by have := HCL.out; omega)
          have F4 := hid f4
          have hdec : decide (q ≤ p) = false := decide_eq_false he
          have HHE := hid he
          clear h2 h3 h4 f4 he
          go_wp2_with (go_at_call 30; refine HE.out.mono ?_; rintro e w' ⟨rfl, rfl⟩)
          go_roundw
          case rel =>
            refine ⟨i + 1, j + 1, c.set i (p, q), by go_num, by go_num, by omega, by omega, by rw [List.length_set]; exact HCL.out, HO2.out.set2 i (by have := HCL.out; omega) (p, q), ?_, ?_, (HW2.out.setCell (p := ⟨g, i * 2, none⟩) F4.out _).setCell (p := ⟨g, i * 2 + 1, none⟩) F4.out _⟩
            · rw [List.take_add_one (l := l), List.filter_append, ← HTK.out, List.getElem?_eq_getElem hlt, ← HX.out]
              have hkeep : [(p, q)].filter (fun x => !decide (x.2 ≤ x.1)) = [(p, q)] := by simp [HHE.out]
              rw [Option.toList_some, hkeep, List.take_add_one, List.getElem?_set_self (by have := HCL.out; omega), List.take_set_of_le (Nat.le_refl _)]
              rfl
            · rw [List.drop_set_of_lt (by omega)]
              have := congrArg (List.drop 1) HDR.out
              simpa [Nat.add_comm] using this
          case measure => simp [intOf]; omega
      · obtain rfl : j = l.length := by omega
        have hvc : l.length ≤ vc := by
          obtain ⟨ao, n', cap', e, -, h2, -⟩ := HOC.out.sps
          cases e; exact h2
        have hvi : ¬ vc = i := by omega
        have hi0 : (0 : Int) ≤ (i : Int) := by omega
        have hil : (i : Int) ≤ (l.length : Int) := by omega
        have hlv : (l.length : Int) ≤ (vc : Int) := by omega
        have hiv : (i : Int) ≤ (vc : Int) := by omega
        have hn : c.length = l.length := HCL.out
        have hcl := run_clearS wr g (i * 2) (l.length - i) (vc - i) (by omega) (fun t ht => by
            have := HOC.out.cells_at ((i * 2 + t) / 2) (by omega)
            rcases Nat.mod_two_eq_zero_or_one t with hp | hp
            · rw [show i * 2 + t = (i * 2 + t) / 2 * 2 from by omega, this.1]; rfl
            · rw [show i * 2 + t = (i * 2 + t) / 2 * 2 + 1 from by omega, this.2.1]; rfl) (fun t ht => by
            have h1 : wr.ownsRow base 33 2 (.slice (some ⟨g, 0, none⟩) l.length vc) l.length (flat c) := by have := HOC.out; unfold OwnS at this; rwa [hn] at this
            exact h1.frozenAt _)
        obtain ⟨xs', ho', ht', hb'⟩ := owns_setCells (base := base) (e := 33) (size := 2) (g := g) (n := l.length) (cap := vc) (Builtin.zeroCells #[Value.int .i64 0, .int .i64 0] (l.length - i)).toList (i * 2) wr (flat c) (by have := HOC.out; unfold OwnS at this; rwa [hn] at this)
        generalize wr.setCells g (i * 2) (Builtin.zeroCells #[Value.int .i64 0, .int .i64 0] (l.length - i)).toList = w9 at hcl ho' hb'
        have HO9 := hid ho'
        have HT9 := hid ht'
        have HB9 := hid (HBR.out.trans hb')
        clear ho' ht' hb' hn hvc
        go_wp2_with fail
        go_ret
        have hfl : l.filter (fun x => !decide (x.2 ≤ x.1)) = c.take i := by have := HTK.out; rw [List.take_length] at this; exact this.symm
        have hcl' : (c.take i).length = i := by rw [List.length_take, HCL.out]; omega
        rw [hfl]
        refine ⟨i, hcl'.symm, rfl, own_prefix HO9.out ?_ (by omega) hcl', HB9.out⟩
        rw [HT9.out, flat_take]
  · rw [if_neg hf] at HI
    go_enter Try.func48, Try.ntmps48
    go_wp2_with (go_at_call 60; refine HI.out.mono ?_; rintro e w' ⟨rfl, hb1⟩; have HB1 := hid hb1; clear hb1)
    go_ret
    have hfl : l.filter (fun x => !decide (x.2 ≤ x.1)) = l := by
      refine List.filter_eq_self.2 fun x hx => (firstE_spec l).1 x ?_
      rwa [List.take_of_length_le (by omega)]
    rw [hfl]
    exact ⟨l.length, rfl, rfl, HO.out.below HB1.out, HB1.out.mono hb⟩
set_option maxHeartbeats 1600000 in
theorem values_any (a : Option Addr) (n c : Nat) (w : World) :
    Calls Try.prog 53 #[.slice a n c] w fun e w' => e = .returned (.func (.func 64) #[] #[.pointer (some ⟨w.heap.size, 0, none⟩)]) ∧ w' = w.alloc (.cells #[.slice a n c] 28) := by
  go_enter Try.func53, Try.ntmps53
  go_wp2
  go_ret
  exact ⟨rfl, rfl⟩
theorem sortNil (vc : Nat) (fv : Value) (w : World) : Calls Try.prog 50 #[.slice none 0 vc, fv] w fun e w' => e = .returned (.tuple #[]) ∧ w' = w := AnyF.slices_SortFunc_none Try.sortSp none vc fv w
/-- The sort, at a nil row too. -/
theorem sort_own (base : Nat) (va : Option Addr) (vc : Nat) (l : List Sp) (w : World) (ho : OwnS w base (.slice va l.length vc) l) (hb : base ≤ w.heap.size) (hl : l.length ≤ 1000000000) :
    Calls Try.prog 50 #[.slice va l.length vc, .func (.func 51) #[] #[]] w fun e w' => e = .returned (.tuple #[]) ∧ ∃ l', l'.Perm l ∧ Rises l' ∧ OwnS w' base (.slice va l.length vc) l' ∧ Below base w w' := by
  have ho' := ho
  obtain ⟨h1, h2⟩ := ho
  rcases h2 with ⟨h2, h0⟩ | ⟨g, cap, cur, e, -⟩
  · have hl0 : l = [] := List.eq_nil_of_length_eq_zero h0
    subst hl0
    cases h2
    exact (sortNil 0 _ w).mono fun e w' ⟨he, hw⟩ => ⟨he, [], List.Perm.refl _, List.Pairwise.nil, by subst hw; exact ho', by subst hw; exact Below.refl _ _⟩
  · cases e
    exact sort_any base g vc l w ho' hb hl

/-- Those that aren't empty. -/
def full (l : List Sp) : List Sp := l.filter fun x => !decide (x.2 ≤ x.1)
set_option maxHeartbeats 1600000 in
theorem rising_any (v : Value) (l : List Sp) (w : World) (hv : Sps w v l) (hl : l.length ≤ 1000000000) :
    Calls Try.prog 36 #[v] w fun e w' => ∃ B va vc l', e = .returned (.func (.func 64) #[] #[.pointer (some ⟨B, 0, none⟩)]) ∧ l'.Perm (full l) ∧ Rises l' ∧ w'.cell? ⟨B, 0, none⟩ = some (.slice va l'.length vc) ∧ OwnS w' w.heap.size (.slice va l'.length vc) l' ∧ w.heap.size ≤ B ∧ B < w'.heap.size ∧ Below w.heap.size w w' := by
  have HV := hid hv
  obtain ⟨a0, c0, rfl⟩ := hv.shape
  clear hv
  go_enter Try.func36, Try.ntmps36
  go_wp2_with fail
  refine (clone_any _ l _ HV.out hl).mono ?_
  rintro e w1 ⟨va1, vc1, rfl, ho1, hb1⟩
  have HO1 := hid ho1
  have HB1 := hid hb1
  clear ho1 hb1
  go_wp2_with fail
  refine (delete_any w.heap.size va1 vc1 l w1 HO1.out HB1.out.size hl).mono ?_
  rintro e w2 ⟨m, hm, rfl, ho2, hb2⟩
  obtain ⟨f, hf⟩ : ∃ f, f = full l := ⟨_, rfl⟩
  have hfl : f.length ≤ 1000000000 := by rw [hf]; unfold full; exact Nat.le_trans (List.length_filter_le _ _) hl
  have ho2' : OwnS w2 w.heap.size (.slice va1 m vc1) f := by rw [hf]; exact ho2
  have hm' : m = f.length := by rw [hf]; exact hm
  subst hm'
  have HO2 := hid ho2'
  have HB2 := hid (HB1.out.trans hb2)
  have HF := hid hf
  clear hm ho2 hb2 ho2' hf
  go_wp2_with fail
  refine (sort_own w.heap.size va1 vc1 f w2 HO2.out HB2.out.size hfl).mono ?_
  rintro e w3 ⟨rfl, l', hp, hr, ho3, hb3⟩
  have HP := hid hp
  have HR := hid hr
  have HO3 := hid ho3
  have HB3 := hid (HB2.out.trans hb3)
  have hll : f.length = l'.length := hp.length_eq.symm
  clear hp hr ho3 hb3
  go_wp2_with fail
  refine (values_any _ _ _ w3).mono ?_
  rintro e w4 ⟨rfl, rfl⟩
  go_wp2
  go_ret
  refine ⟨w3.heap.size, va1, vc1, l', rfl, by rw [← HF.out]; exact HP.out, HR.out, ?_, ?_, HB3.out.size, by simp, HB3.out.alloc HB3.out.size _⟩
  · rw [cell_of_row _ w3.heap.size 0 _ _ _ (heap_alloc_new _ _)]; rfl
  · rw [← hll]; exact HO3.out.below ((Below.refl _ _).alloc (Nat.le_refl _) _)
end Go.Proofs.Ytbfmanhbbancmaa
