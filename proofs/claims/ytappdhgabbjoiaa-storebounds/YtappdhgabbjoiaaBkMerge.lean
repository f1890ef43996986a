/- What Merge of no store, of one that there is not, and of two gives. -/
import Derived.Test.YtappdhgabbjoiaaBkPart
import Derived.Test.YtappdhgabbjoiaaBkNil
namespace Go.Proofs.Ytappdhgabbjoiaa
open Go.RowKit
attribute [local go_sem] Oper.semAt_some
set_option linter.unusedVariables false
set_option linter.unusedSimpArgs false

theorem run_nil_nil (w : World) : (binOp .eql 25 (.pointer none) (.pointer none)).run Try.prog w = .ok (.bool true) w := by
  have h : ∀ d : Nat, (Op.equalIn (d + 1) 25 (.pointer none) (.pointer none)).run Try.prog w = .ok true w := fun d => by simp [Op.equalIn, run_underlying Try.underlying25]
  simp only [binOp]
  simp [Op.equal, Op.maxDepth, h 9999]
/-- Two pointers in a row. -/
def Two (w : World) (Q : Nat) (p q : Value) : Prop := w.heap[Q]? = some (.cells #[p, q] 25 (0, 0))
set_option maxRecDepth 100000 in
set_option maxHeartbeats 1600000 in
theorem contains_no (Q : Nat) (a b : Addr) (w : World) (h : Two w Q (.pointer (some a)) (.pointer (some b))) :
    Calls Try.prog 43 #[.slice (some ⟨Q, 0, none⟩) 2 2, .pointer none] w fun e w' => e = .returned (.bool false) ∧ w' = w := by
  have c0 : w.cell? ⟨Q, 0, none⟩ = some (.pointer (some a)) := by rw [cell_of_row _ _ _ _ _ _ h]; rfl
  have c1 : w.cell? ⟨Q, 1, none⟩ = some (.pointer (some b)) := by rw [cell_of_row _ _ _ _ _ _ h]; rfl
  have n0 := run_nil_ptr a
  have n1 := run_nil_ptr b
  have HI : Calls Try.prog 47 #[.slice (some ⟨Q, 0, none⟩) 2 2, .pointer none] w fun e w' => e = .returned (.int .i64 (-1)) ∧ w' = w := by
    go_enter Try.func47, Try.ntmps47
    go_wp2_with fail
    go_loopw [5, 8] (fun _ iv wr => ∃ i : Nat, iv = .int .i64 i ∧ i ≤ 2 ∧ w = wr) (fun _ iv _ => 2 - (intOf iv).toNat)
    case atStart => exact ⟨0, rfl, by omega, rfl⟩
    case round =>
      obtain ⟨i, rfl, hi, rfl⟩ := hrel
      match i, hi with
      | 0, _ =>
        go_wp2_with fail
        go_roundw
        case rel => exact ⟨1, by go_num, by omega, by trivial⟩
        case measure => simp [intOf]
      | 1, _ =>
        go_wp2_with fail
        go_roundw
        case rel => exact ⟨2, by go_num, by omega, by trivial⟩
        case measure => simp [intOf]
      | 2, _ =>
        go_wp2_with fail
        go_ret
        exact ⟨rfl, rfl⟩
      | i + 3, hi => omega
  have HH := hid HI
  clear HI c0 c1 n0 n1 h
  go_enter Try.func43, Try.ntmps43
  go_wp2_with fail
  refine HH.out.mono ?_
  rintro e w2 ⟨rfl, rfl⟩
  go_wp2_with fail
  go_ret
  exact ⟨rfl, rfl⟩
set_option maxRecDepth 100000 in
set_option maxHeartbeats 1600000 in
theorem contains_first (Q : Nat) (b : Addr) (w : World) (h : Two w Q (.pointer none) (.pointer (some b))) :
    Calls Try.prog 43 #[.slice (some ⟨Q, 0, none⟩) 2 2, .pointer none] w fun e w' => e = .returned (.bool true) ∧ w' = w := by
  have c0 : w.cell? ⟨Q, 0, none⟩ = some (.pointer none) := by rw [cell_of_row _ _ _ _ _ _ h]; rfl
  have n0 := run_nil_nil
  have HI : Calls Try.prog 47 #[.slice (some ⟨Q, 0, none⟩) 2 2, .pointer none] w fun e w' => e = .returned (.int .i64 0) ∧ w' = w := by
    go_enter Try.func47, Try.ntmps47
    go_wp2_with fail
    go_loopw [5, 8] (fun _ iv wr => iv = .int .i64 0 ∧ w = wr) (fun _ iv _ => 2 - (intOf iv).toNat)
    case atStart => exact ⟨rfl, rfl⟩
    case round =>
      obtain ⟨rfl, rfl⟩ := hrel
      go_wp2_with fail
      go_ret
      exact ⟨rfl, rfl⟩
  have HH := hid HI
  clear HI c0 n0 h
  go_enter Try.func43, Try.ntmps43
  go_wp2_with fail
  refine HH.out.mono ?_
  rintro e w2 ⟨rfl, rfl⟩
  go_wp2_with fail
  go_ret
  exact ⟨rfl, rfl⟩
set_option maxRecDepth 100000 in
set_option maxHeartbeats 1600000 in
theorem contains_second (Q : Nat) (a : Addr) (w : World) (h : Two w Q (.pointer (some a)) (.pointer none)) :
    Calls Try.prog 43 #[.slice (some ⟨Q, 0, none⟩) 2 2, .pointer none] w fun e w' => e = .returned (.bool true) ∧ w' = w := by
  have c0 : w.cell? ⟨Q, 0, none⟩ = some (.pointer (some a)) := by rw [cell_of_row _ _ _ _ _ _ h]; rfl
  have c1 : w.cell? ⟨Q, 1, none⟩ = some (.pointer none) := by rw [cell_of_row _ _ _ _ _ _ h]; rfl
  have n0 := run_nil_ptr a
  have n1 := run_nil_nil
  have HI : Calls Try.prog 47 #[.slice (some ⟨Q, 0, none⟩) 2 2, .pointer none] w fun e w' => e = .returned (.int .i64 1) ∧ w' = w := by
    go_enter Try.func47, Try.ntmps47
    go_wp2_with fail
    go_loopw [5, 8] (fun _ iv wr => ∃ i : Nat, iv = .int .i64 i ∧ i ≤ 1 ∧ w = wr) (fun _ iv _ => 2 - (intOf iv).toNat)
    case atStart => exact ⟨0, rfl, by omega, rfl⟩
    case round =>
      obtain ⟨i, rfl, hi, rfl⟩ := hrel
      match i, hi with
      | 0, _ =>
        go_wp2_with fail
        go_roundw
        case rel => exact ⟨1, by go_num, by omega, by trivial⟩
        case measure => simp [intOf]
      | 1, _ =>
        go_wp2_with fail
        go_ret
        exact ⟨rfl, rfl⟩
      | i + 2, hi => omega
  have HH := hid HI
  clear HI c0 c1 n0 n1 h
  go_enter Try.func43, Try.ntmps43
  go_wp2_with fail
  refine HH.out.mono ?_
  rintro e w2 ⟨rfl, rfl⟩
  go_wp2_with fail
  go_ret
  exact ⟨rfl, rfl⟩
set_option maxRecDepth 100000 in
set_option maxHeartbeats 1600000 in
theorem merge_none (w : World) :
    Calls Try.prog 25 #[.slice none 0 0] w fun e w' => e = .returned (.tuple #[.pointer none, .int .i64 1]) ∧ w' = w := by
  go_enter Try.func25, Try.ntmps25
  go_wp2_with fail
  go_ret2
  exact ⟨rfl, rfl⟩
set_option maxRecDepth 100000 in
set_option maxHeartbeats 1600000 in
theorem merge_nil (Q : Nat) (w : World) (HC : Calls Try.prog 43 #[.slice (some ⟨Q, 0, none⟩) 2 2, .pointer none] w fun e w' => e = .returned (.bool true) ∧ w' = w) :
    Calls Try.prog 25 #[.slice (some ⟨Q, 0, none⟩) 2 2] w fun e w' => e = .returned (.tuple #[.pointer none, .int .i64 1]) ∧ w' = w := by
  have HH := hid HC
  clear HC
  go_enter Try.func25, Try.ntmps25
  go_wp2_with fail
  refine HH.out.mono ?_
  rintro e w2 ⟨rfl, rfl⟩
  go_wp2_with fail
  go_ret2
  exact ⟨rfl, rfl⟩
end Go.Proofs.Ytappdhgabbjoiaa
