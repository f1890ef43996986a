/- What Put and Drop of a Map of numbers leave: any span, any value. -/
import Derived.Test.YtnkjkaofgninnaaSpMapS
namespace Go.Proofs.Ytnkjkaofgninnaa
open Go.RowKit Go.Shelf

/-- A Map at block b whose pieces are l, as a Map's are. -/
structure MapC (w : World) (b : Nat) (l : List Pc) : Prop where
  at' : MapAt w b l
  can : Can l
  ints : ∀ x ∈ l, -9223372036854775808 ≤ x.1 ∧ x.2.1 ≤ 9223372036854775807
theorem MapC.kept {w w' : World} {b : Nat} {l : List Pc} (h : MapC w b l) (hb : Below w.heap.size w w') : MapC w' b l := ⟨h.at'.kept hb, h.can, h.ints⟩
/-- What a row tells once s has been changed. -/
def ChP (l : List Pc) (s : Sp) (put : List Pc) (l' : List Pc) : Prop := l'.length ≤ l.length + 3 ∧ ∀ k v, HasP l' k v ↔ if s.1 ≤ k ∧ k < s.2 then HasP put k v else HasP l k v
set_option maxRecDepth 100000 in
set_option maxHeartbeats 2000000 in
theorem change_none (b : Nat) (pv : Value) (s : Sp) (w : World) (hs : s.2 ≤ s.1) :
    Calls Try.prog 65 #[.pointer (some ⟨b, 0, none⟩), .agg #[.int .i64 s.1, .int .i64 s.2], pv] w fun e w' => e = .returned (.tuple #[]) ∧ Below w.heap.size w w' ∧ KeepsOthers w w' := by
  obtain ⟨s1, s2⟩ := s
  have hdec : decide (s2 ≤ s1) = true := decide_eq_true (by simpa using hs)
  clear hs
  refine (callsIn_wide (n := 3)).1 ?_
  refine callsIn_of_wp_marks Try.func65 rfl trivial ?_ rfl
  simp only [Try.ntmps65, List.size_toArray, List.length_cons, List.length_nil, Nat.reduceAdd, Nat.reduceSub, Array.replicate_succ, Array.replicate_zero, List.push_toArray, List.append_toArray, List.nil_append, List.cons_append]
  refine wpIn_wide.2 ?_
  go_wp2_with (first
    | (go_at_call 79; refine (empty_any (s1, s2) _).mono ?_; rintro e w1 ⟨rfl, hw1⟩; simp only [hdec]; have W1 := hid hw1; clear hw1))
  refine ⟨_, results_none rfl _ _ _, rfl, ?_, ?_⟩
  · rw [W1.out]; exact ((Below.refl _ _).alloc (Nat.le_refl _) _).alloc (by simp) _
  · rw [W1.out]; exact (KeepsOthers.alloc _ _).trans (KeepsOthers.alloc _ _)
set_option maxHeartbeats 1600000 in
theorem put_none (b : Nat) (s : Sp) (x : Int) (w : World) (hs : s.2 ≤ s.1) :
    Calls Try.prog 59 #[.pointer (some ⟨b, 0, none⟩), .agg #[.int .i64 s.1, .int .i64 s.2], .int .i64 x] w fun e w' => e = .returned (.tuple #[]) ∧ Below w.heap.size w w' ∧ KeepsOthers w w' := by
  obtain ⟨s1, s2⟩ := s
  have HS := hid hs
  clear hs
  go_enter Try.func59, Try.ntmps59
  go_wp2_with (go_at_call 65; refine (change_none b _ (s1, s2) _ HS.out).mono ?_; rintro e w2 ⟨rfl, hb, hk⟩; have B2 := hid hb; have K2 := hid hk; clear hb hk)
  go_end0
  have b0 : Below w.heap.size w ((w.alloc (.cells #[.int .i64 s1, .int .i64 s2] 43)).alloc (.cells #[.int .i64 s1, .int .i64 s2, .int .i64 x] 102)) := ((Below.refl _ _).alloc (Nat.le_refl _) _).alloc (by simp) _
  exact ⟨rfl, b0.trans (B2.out.mono b0.size), ((KeepsOthers.alloc _ _).trans (KeepsOthers.alloc _ _)).trans K2.out⟩
theorem putM_any (b : Nat) (l : List Pc) (s : Sp) (x : Int) (w : World) (hm : MapC w b l) (hl : l.length ≤ 1000000) (hs : -9223372036854775808 ≤ s.1 ∧ s.2 ≤ 9223372036854775807) :
    Calls Try.prog 59 #[.pointer (some ⟨b, 0, none⟩), .agg #[.int .i64 s.1, .int .i64 s.2], .int .i64 x] w fun e w' => e = .returned (.tuple #[]) ∧ ∃ l', MapC w' b l' ∧ ChP l s [(s.1, s.2, x)] l' ∧ w.grownBy w' (some b) ∧ KeepsOthers w w' := by
  by_cases h : s.1 < s.2
  · refine (put_any b l s x w hm.at' hl hm.can.rise3 hm.can.1 h).mono ?_
    rintro e w' ⟨rfl, i, j, hn, hm', hg, hk⟩
    obtain ⟨c1, c2, c3⟩ := ch_can l [(s.1, s.2, x)] s i j hm.can hn h hm.ints (.inr ⟨x, rfl⟩)
    exact ⟨rfl, _, ⟨hm', c1, ch_I l _ s _ c1 c2 hs hm.ints⟩, ⟨c3, c2⟩, hg, hk⟩
  · refine (put_none b s x w (by omega)).mono ?_
    rintro e w' ⟨rfl, hb, hk⟩
    exact ⟨rfl, l, hm.kept hb, ⟨by omega, fun k v => by rw [if_neg (by omega)]⟩, grown_of_below hb _, hk⟩
end Go.Proofs.Ytnkjkaofgninnaa
