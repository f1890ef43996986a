/- What Clone of a Map of numbers gives; what a Map that there isn't does. -/
import Derived.Test.YtbfmanhbbancmaaSpEach
import Derived.Test.YtbfmanhbbancmaaSpGet
import Derived.Lib.SliceRun
namespace Go.Proofs.Ytbfmanhbbancmaa
open Go.RowKit Go.Shelf
attribute [local go_sem] Oper.semAt_some

theorem OwnP.empty (w : World) : OwnP (w.alloc (.cells #[] 63)) w.heap.size (.slice (some ⟨w.heap.size, 0, none⟩) 0 0) [] :=
  ⟨rfl, .inr ⟨w.heap.size, 0, #[], rfl, Nat.le_refl _, heap_alloc_new _ _, Nat.le_refl _, Nat.zero_le _, rfl, rfl⟩⟩
set_option maxHeartbeats 800000 in
theorem cloneP_any (v : Value) (l : List Pc) (w : World) (hv : Pcs w v l) (hl : l.length ≤ 1000000000) :
    Calls Try.prog 27 #[v] w fun e w' => ∃ va vc, e = .returned (.slice va l.length vc) ∧ OwnP w' w.heap.size (.slice va l.length vc) l ∧ Below w.heap.size w w' := by
  have HV := hid hv
  obtain ⟨ao, n, cap, rfl, rfl, hc, hcap, hnone, hcell⟩ := hv
  clear hcell
  cases ao with
  | none =>
    have h0 : l = [] := List.eq_nil_of_length_eq_zero (by have := hnone rfl; omega)
    subst h0
    clear hnone
    have hnil := Lib.run_eql_slice_nil (P := Try.prog) w 24 63 none 0 cap 0 0 Try.underlyingPs
    go_enter Try.func27, Try.ntmps27
    go_wp2
    go_ret
    exact ⟨none, 0, rfl, OwnP.nil _ _, Below.refl _ _⟩
  | some a =>
    clear hnone
    have HO := hid (OwnP.empty w)
    have hba : Below w.heap.size w (w.alloc (.cells #[] 63)) := (Below.refl _ _).alloc (Nat.le_refl _) _
    have HA1 := hid (HV.out.below hba)
    have hnil := Lib.run_eql_slice_nil (P := Try.prog) w 24 63 (some a) l.length cap 0 0 Try.underlyingPs
    go_enter Try.func27, Try.ntmps27
    go_wp2_with (at_builtin; refine wpl_appendP rfl _ _ rfl w.heap.size (.slice (some ⟨w.heap.size, 0, none⟩) 0 0) [] rfl HO.out _ l rfl HA1.out (by simp; omega) (by simp) ?_; intro va1 vc1 w2 ho1 hg1; simp only [List.length_nil, Nat.zero_add, List.nil_append] at ho1; have HB2 := hid (hba.trans (belowP_grown HO.out hg1 (by simp))); have HO1 := hid ho1; clear ho1 hg1)
    go_ret
    exact ⟨va1, vc1, by simp, HO1.out, HB2.out⟩
set_option maxHeartbeats 1600000 in
theorem cloneM_any (b : Nat) (l : List Pc) (w : World) (hm : MapC w b l) (hl : l.length ≤ 1000000) :
    Calls Try.prog 15 #[.pointer (some ⟨b, 0, none⟩)] w fun e w' => ∃ g, e = .returned (.pointer (some ⟨g, 0, none⟩)) ∧ MapC w' g l ∧ w.heap.size ≤ g ∧ g < w'.heap.size ∧ Below w.heap.size w w' := by
  have HC := hid hm.can
  have HI := hid hm.ints
  obtain ⟨va, vc, h1, h2⟩ := hm.at'
  have HP := hid (OwnP.pcs h2)
  have cb : w.cell? ⟨b, 0, none⟩ = some (.slice va l.length vc) := by rw [cell_of_row _ _ _ _ _ _ h1]; rfl
  clear hm h1 h2
  go_enter Try.func15, Try.ntmps15
  go_wp2_with fail
  refine (cloneP_any _ l _ HP.out (by omega)).mono ?_
  rintro e w1 ⟨va1, vc1, rfl, ho, hb⟩
  have HO := hid ho
  have HB := hid hb
  clear ho hb
  go_wp2_with fail
  go_ret
  have ba : Below w1.heap.size w1 (w1.alloc (.cells #[.slice va1 l.length vc1] 26)) := (Below.refl _ _).alloc (Nat.le_refl _) _
  exact ⟨w1.heap.size, rfl, ⟨⟨va1, vc1, heap_alloc_new _ _, (HO.out.below ba).lower (Nat.zero_le _)⟩, HC.out, HI.out⟩, HB.out.size, by simp, HB.out.alloc HB.out.size _⟩
set_option maxRecDepth 100000 in
set_option maxHeartbeats 2000000 in
theorem change_nil (pv : Value) (s : Sp) (w : World) :
    Calls Try.prog 20 #[.pointer none, .agg #[.int .i64 s.1, .int .i64 s.2], pv] w fun e w' => e = .returned (.tuple #[]) ∧ Below w.heap.size w w' := by
  obtain ⟨s1, s2⟩ := s
  refine (callsIn_wide (n := 3)).1 ?_
  refine callsIn_of_wp_marks Try.func20 rfl trivial ?_ rfl
  simp only [Try.ntmps20, List.size_toArray, List.length_cons, List.length_nil, Nat.reduceAdd, Nat.reduceSub, Array.replicate_succ, Array.replicate_zero, List.push_toArray, List.append_toArray, List.nil_append, List.cons_append]
  refine wpIn_wide.2 ?_
  go_wp2_with fail
  refine ⟨_, results_none rfl _ _ _, rfl, ?_⟩
  exact (Below.refl _ _).alloc (Nat.le_refl _) _
set_option maxHeartbeats 1600000 in
theorem put_nil (s : Sp) (x : Int) (w : World) :
    Calls Try.prog 7 #[.pointer none, .agg #[.int .i64 s.1, .int .i64 s.2], .int .i64 x] w fun e w' => e = .returned (.tuple #[]) ∧ Below w.heap.size w w' := by
  obtain ⟨s1, s2⟩ := s
  go_enter Try.func7, Try.ntmps7
  go_wp2_with (go_at_call 20; refine (change_nil _ (s1, s2) _).mono ?_; rintro e w2 ⟨rfl, hb⟩; have B2 := hid hb; clear hb)
  go_end0
  have b0 : Below w.heap.size w ((w.alloc (.cells #[.int .i64 s1, .int .i64 s2] 33)).alloc (.cells #[.int .i64 s1, .int .i64 s2, .int .i64 x] 63)) := ((Below.refl _ _).alloc (Nat.le_refl _) _).alloc (by simp) _
  exact ⟨rfl, b0.trans (B2.out.mono b0.size)⟩
set_option maxHeartbeats 1600000 in
theorem drop_nil (s : Sp) (w : World) :
    Calls Try.prog 6 #[.pointer none, .agg #[.int .i64 s.1, .int .i64 s.2]] w fun e w' => e = .returned (.tuple #[]) ∧ Below w.heap.size w w' := by
  obtain ⟨s1, s2⟩ := s
  go_enter Try.func6, Try.ntmps6
  go_wp2_with (go_at_call 20; refine (change_nil _ (s1, s2) _).mono ?_; rintro e w2 ⟨rfl, hb⟩; have B2 := hid hb; clear hb)
  go_end0
  have b0 : Below w.heap.size w (w.alloc (.cells #[.int .i64 s1, .int .i64 s2] 33)) := (Below.refl _ _).alloc (Nat.le_refl _) _
  exact ⟨rfl, b0.trans (B2.out.mono b0.size)⟩
set_option maxHeartbeats 1600000 in
theorem get_nil (c : Int) (w : World) :
    Calls Try.prog 9 #[.pointer none, .int .i64 c] w fun e w' => e = .returned (.tuple #[.int .i64 0, .bool false]) ∧ Below w.heap.size w w' := by
  go_enter Try.func9, Try.ntmps9
  go_wp2_with fail
  go_ret2
  exact ⟨rfl, ((Below.refl _ _).alloc (Nat.le_refl _) _).alloc (by simp) _⟩
set_option maxHeartbeats 1600000 in
theorem len_nil (w : World) :
    Calls Try.prog 13 #[.pointer none] w fun e w' => e = .returned (.int .i64 0) ∧ w' = w := by
  go_enter Try.func13, Try.ntmps13
  go_wp2_with fail
  go_ret
  exact ⟨rfl, rfl⟩
set_option maxHeartbeats 1600000 in
theorem clone_nil (w : World) :
    Calls Try.prog 15 #[.pointer none] w fun e w' => ∃ g, e = .returned (.pointer (some ⟨g, 0, none⟩)) ∧ MapC w' g [] ∧ Below w.heap.size w w' := by
  go_enter Try.func15, Try.ntmps15
  go_wp2_with fail
  go_ret
  exact ⟨w.heap.size, rfl, ⟨⟨none, 0, heap_alloc_new _ _, OwnP.nil _ _⟩, ⟨(fun x hx => by cases hx), List.Pairwise.nil⟩, fun x hx => by cases hx⟩, (Below.refl _ _).alloc (Nat.le_refl _) _⟩
set_option maxHeartbeats 1000000 in
theorem each_nil (w : World) :
    Calls Try.prog 12 #[.pointer none] w fun e w' => e = .returned (.func (.func 24) #[] #[.pointer (some ⟨w.heap.size, 0, none⟩)]) ∧
      w' = w.alloc (.cells #[.pointer none] 50 (0, 0)) := by
  have hmf : ∀ (fn : Fn) (first cap : Array Value) (w : World), (Instr.makeFunc fn first cap).run Try.prog w = .ok (.func fn first cap) w := fun _ _ _ _ => rfl
  go_enter Try.func12, Try.ntmps12
  go_wp2_with fail
  go_ret
  exact ⟨rfl, rfl⟩
set_option maxRecDepth 100000 in
set_option maxHeartbeats 1000000 in
theorem each1_none (n : Nat) (y B : Nat) (J : List Pc → World → Prop) (W : World) (hB : W.cell? ⟨B, 0, none⟩ = some (.pointer none)) (h0 : J [] W) :
    CallsIn Fence.wide n Try.prog 24 #[.func (.yield y) #[] #[], .pointer (some ⟨B, 0, none⟩)] W fun e W' => (∃ v, e = .returned v) ∧ J [] W' := by
  refine callsIn_of_wp Try.func24 rfl trivial ?_ rfl
  simp only [Try.ntmps24, List.size_toArray, List.length_cons, List.length_nil, Nat.reduceAdd, Nat.reduceSub, Array.replicate_succ, Array.replicate_zero, List.push_toArray, List.append_toArray, List.nil_append, List.cons_append]
  gi_wp2
  refine bodyPost_ret (results_none rfl _ _ _) rfl ?_
  exact ⟨⟨_, rfl⟩, h0⟩
theorem eachn_stops (n : Nat) (B : Nat) (w : World)
    (hB : w.heap[B]? = some (.cells #[.pointer none] 50 (0, 0))) :
    SeqStopsK Fence.wide n Try.prog 24 #[.pointer (some ⟨B, 0, none⟩)] eachV (fun _ _ => True) (fun ys => ys = []) (fun _ => False) 0 w := fun y J Jx W hW hJ _ hY h0 => by
  have hp := (hW.block B (lt_of_block hB)).trans hB
  have hcB : W.cell? ⟨B, 0, none⟩ = some (.pointer none) := by rw [cell_of_row _ _ _ _ _ _ hp]; rfl
  exact (each1_none n y B J W hcB h0).mono fun e W' ⟨he, hj⟩ => ⟨he, .inl ⟨_, rfl, hj⟩⟩
/-- Drop, with any numbers: what is left stays within what there was. -/
theorem dropM_free (b : Nat) (l : List Pc) (s : Sp) (w : World) (hm : MapC w b l) (hl : l.length ≤ 1000000) :
    Calls Try.prog 6 #[.pointer (some ⟨b, 0, none⟩), .agg #[.int .i64 s.1, .int .i64 s.2]] w fun e w' => e = .returned (.tuple #[]) ∧ ∃ l', MapC w' b l' ∧ ChP l s [] l' ∧ w.grownBy w' (some b) ∧ KeepsOthers w w' := by
  by_cases h : s.1 < s.2
  · refine (drop_some b l s w hm.at' hl hm.can.rise3 hm.can.1 h).mono ?_
    rintro e w' ⟨rfl, i, j, hn, hm', hg, hk⟩
    obtain ⟨c1, c2, c3⟩ := ch_can l [] s i j hm.can hn h hm.ints (.inl rfl)
    refine ⟨rfl, _, ⟨hm', c1, fun x hx => ?_⟩, ⟨c3, c2⟩, hg, hk⟩
    have hx1 := c1.1 x hx
    have h1 := (c2 x.1 x.2.2).1 ⟨x, hx, by omega, hx1, rfl⟩
    have h2 := (c2 (x.2.1 - 1) x.2.2).1 ⟨x, hx, by omega, by omega, rfl⟩
    constructor
    · split at h1
      · exact absurd h1 (HasP_nil _ _)
      · obtain ⟨z, hz, z1, _⟩ := h1
        have := hm.ints z hz; omega
    · split at h2
      · exact absurd h2 (HasP_nil _ _)
      · obtain ⟨z, hz, _, z2, _⟩ := h2
        have := hm.ints z hz; omega
  · refine (drop_none b s w (by omega)).mono ?_
    rintro e w' ⟨rfl, hb, hk⟩
    exact ⟨rfl, l, hm.kept hb, ⟨by omega, fun k v => by rw [if_neg (by omega)]⟩, grown_of_below hb _, hk⟩
end Go.Proofs.Ytbfmanhbbancmaa
