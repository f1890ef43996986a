/- What graph.Refs answers for one row of at most one Ref. Conditions: the row lies in memory. -/
import Derived.Test.YthhcpoafnmhnhaaGreatInConcat
namespace Go.Proofs.YthhcpoafnmhnhaaGreat
open Go.RowKit
set_option linter.unusedVariables false
set_option linter.unusedSimpArgs false

set_option maxRecDepth 100000 in
set_option maxHeartbeats 1600000 in
theorem ins1_any (va : Option Addr) (n vc : Nat) (f : Value) (w : World) (hn : n ≤ 1) :
    Calls Tryz.prog 87 #[.slice va n vc, .int .i64 0, .int .i64 n, f] w fun e w' => e = .returned (.tuple #[]) ∧ w' = w := by
  have h1 : ¬ ((1 : Int) < (n : Int)) := by omega
  go_enter Tryz.func87, Tryz.ntmps87
  go_wp2_with fail
  go_loopw [8] (fun iv wr => iv = .int .i64 1 ∧ w = wr) (fun _ _ => 0)
  case atStart => exact ⟨rfl, rfl⟩
  case round =>
    obtain ⟨rfl, hwr⟩ := hrel
    subst hwr
    go_wp2_with fail
    go_end0
    exact ⟨rfl, rfl⟩
set_option maxRecDepth 100000 in
set_option maxHeartbeats 1600000 in
theorem pdq1_any (va : Option Addr) (n vc : Nat) (b : Int) (f : Value) (w : World) (hn : n ≤ 1) :
    Calls Tryz.prog 78 #[.slice va n vc, .int .i64 0, .int .i64 n, .int .i64 b, f] w fun e w' => e = .returned (.tuple #[]) ∧ w' = w := by
  have h1 : ((n : Int) ≤ 12) := by omega
  have h2 : wrap64 (n : Int) = (n : Int) := by unfold wrap64; omega
  go_enter Tryz.func78, Tryz.ntmps78
  go_wp2_with fail
  go_loopw [1, 2, 3] (fun a1 b1 l1 wr => a1 = .int .i64 0 ∧ b1 = .int .i64 n ∧ l1 = .int .i64 b ∧ w = wr) (fun _ _ _ _ => 0)
  case atStart => exact ⟨rfl, rfl, rfl, rfl⟩
  case round =>
    obtain ⟨rfl, rfl, rfl, hwr⟩ := hrel
    subst hwr
    go_wp2_with fail
    refine (ins1_any va n vc f w hn).mono ?_
    rintro e w2 ⟨rfl, hw2⟩
    subst hw2
    go_wp2_with fail
    (try simp only [Exit.inBlock, Exit.then])
    exact bodyPost_ret (results_none rfl _ _ _) rfl ⟨rfl, rfl⟩
set_option maxRecDepth 100000 in
set_option maxHeartbeats 1600000 in
theorem len64_small (n : Nat) (w : World) (hn : n ≤ 1) :
    Calls Tryz.prog 96 #[.int .u64 n] w fun e w' => ∃ b, e = .returned (.int .i64 b) ∧ w' = w := by
  rcases (show n = 0 ∨ n = 1 by omega) with rfl | rfl
  all_goals
    go_enter Tryz.func96, Tryz.ntmps96
    go_wp2_with fail
    go_ret
    exact ⟨_, rfl, rfl⟩
set_option maxRecDepth 100000 in
set_option maxHeartbeats 1600000 in
theorem len_small (n : Nat) (w : World) (hn : n ≤ 1) :
    Calls Tryz.prog 79 #[.int .u64 n] w fun e w' => ∃ b, e = .returned (.int .i64 b) ∧ w' = w := by
  go_enter Tryz.func79, Tryz.ntmps79
  go_wp2_with fail
  refine (len64_small n w hn).mono ?_
  rintro e w2 ⟨b, rfl, hw2⟩
  subst hw2
  go_wp2_with fail
  go_ret
  exact ⟨b, rfl, rfl⟩
set_option maxRecDepth 100000 in
set_option maxHeartbeats 1600000 in
theorem sort1_any (va : Option Addr) (n vc : Nat) (f : Value) (w : World) (hn : n ≤ 1) :
    Calls Tryz.prog 63 #[.slice va n vc, f] w fun e w' => e = .returned (.tuple #[]) ∧ w' = w := by
  rcases (show n = 0 ∨ n = 1 by omega) with rfl | rfl
  all_goals
    go_enter Tryz.func63, Tryz.ntmps63
    go_wp2_with fail
    refine (len_small _ w hn).mono ?_
    rintro e w2 ⟨b, rfl, hw2⟩
    subst hw2
    go_wp2_with fail
    refine (pdq1_any va _ vc b f w2 hn).mono ?_
    rintro e w3 ⟨rfl, hw3⟩
    subst hw3
    go_wp2_with fail
    go_end0
    exact ⟨rfl, rfl⟩
set_option maxRecDepth 100000 in
set_option maxHeartbeats 1600000 in
theorem compact1_any (va : Option Addr) (n vc : Nat) (w : World) (hn : n ≤ 1) :
    Calls Tryz.prog 65 #[.slice va n vc] w fun e w' => e = .returned (.slice va n vc) ∧ w' = w := by
  have h1 : ((n : Int) < 2) := by omega
  go_enter Tryz.func65, Tryz.ntmps65
  go_wp2_with fail
  go_ret
  exact ⟨rfl, rfl⟩
set_option maxRecDepth 100000 in
set_option maxHeartbeats 1600000 in
theorem refs1_any (g : Nat) (u : Value) (l : List (Int × Int)) (w : World) (h1 : Rfs w u l) (hg : w.heap[g]? = some (.cells #[u] 29 (0, 0))) (hl : l.length ≤ 1) :
    Calls Tryz.prog 38 #[.slice (some ⟨g, 0, none⟩) 1 1] w fun e w' => ∃ va vc, e = .returned (.slice va l.length vc) ∧ w'.ownsRow w.heap.size 23 2 (.slice va l.length vc) l.length (rvs l) ∧ Below w.heap.size w w' := by
  go_enter Tryz.func38, Tryz.ntmps38
  go_wp2_with fail
  refine (concat1_any g u l w h1 hg (by omega)).mono ?_
  rintro e w2 ⟨va, vc, rfl, ho, hb⟩
  go_wp2_with fail
  refine (sort1_any va l.length vc _ w2 hl).mono ?_
  rintro e w3 ⟨rfl, hw3⟩
  subst hw3
  go_wp2_with fail
  refine (compact1_any va l.length vc _ hl).mono ?_
  rintro e w4 ⟨rfl, hw4⟩
  subst hw4
  go_wp2_with fail
  go_ret
  exact ⟨va, vc, rfl, ho, hb⟩
end Go.Proofs.YthhcpoafnmhnhaaGreat
