/- Small calls of a council: isFull, reach, unseat, meetAnew, and the functions that are handed to majority. -/
import Derived.Test.YtjimneaimnjanaaCoPut
namespace Go.Proofs.Ytjimneaimnjanaa
open Go.RowKit
set_option linter.unusedVariables false
set_option linter.unusedSimpArgs false

set_option maxRecDepth 100000 in
set_option maxHeartbeats 1600000 in
theorem isFull_any (base b : Nat) (lv : Value) (D : CoD) (w : World) (h : Co w base b lv D) :
    Calls Try.prog 103 #[.pointer (some ⟨b, 0, none⟩)] w fun e w' => e = .returned (.bool (decide ((4096 : Int) ≤ D.log.length))) ∧ w' = w := by
  obtain ⟨va, vc, rfl⟩ := h.shape
  have c7 : w.cell? ⟨b, 7, none⟩ = some (.slice va D.log.length vc) := h.cell 7
  clear h
  go_enter Try.func103, Try.ntmps103
  go_wp2_with fail
  go_ret
  exact ⟨rfl, rfl⟩
theorem Co.mt {w : World} {base b : Nat} {lv : Value} {D : CoD} (h : Co w base b lv D) (n : Nat) (hn : n < 7) : w.cell? ⟨b, 20 + n, none⟩ = some (.int .i64 (D.mt n)) := by
  rw [h.cell]
  match n, hn with
  | 0, _ => rfl
  | 1, _ => rfl
  | 2, _ => rfl
  | 3, _ => rfl
  | 4, _ => rfl
  | 5, _ => rfl
  | 6, _ => rfl
theorem Co.vot {w : World} {base b : Nat} {lv : Value} {D : CoD} (h : Co w base b lv D) (n : Nat) (hn : n < 7) : w.cell? ⟨b, 12 + n, none⟩ = some (.bool (D.votes n)) := by
  rw [h.cell]
  match n, hn with
  | 0, _ => rfl
  | 1, _ => rfl
  | 2, _ => rfl
  | 3, _ => rfl
  | 4, _ => rfl
  | 5, _ => rfl
  | 6, _ => rfl
/-- Up to where a node's log goes together with self's. -/
def reachN (D : CoD) (n : Nat) : Int := if (n : Int) = D.self then D.bi + D.log.length else D.mt n
set_option maxRecDepth 100000 in
set_option maxHeartbeats 1600000 in
theorem reach_any (base b : Nat) (lv : Value) (D : CoD) (n : Nat) (w : World) (h : Co w base b lv D) (hi : CoI D) (hn : n < 7) :
    Calls Try.prog 105 #[.pointer (some ⟨b, 0, none⟩), .int .i64 (n : Int)] w fun e w' => e = .returned (.int .i64 (reachN D n)) ∧ ∃ m, w' = w.drewN m := by
  have H := hid h
  have HI := hid hi
  have c0 : w.cell? ⟨b, 0, none⟩ = some (.int .i64 D.self) := h.cell 0
  have cm := h.mt n hn
  have hlt : (n : Int) < 7 := by omega
  clear h hi
  by_cases hs : (n : Int) = D.self
  · have HR : Hid (reachN D n = D.bi + D.log.length) := hid (if_pos hs)
    go_enter Try.func105, Try.ntmps105
    go_wp2_with (go_at_call 16; refine (last_any base b _ D _ H.out HI.out).mono ?_; rintro e w2 ⟨rfl, m2, rfl⟩)
    go_ret
    exact ⟨by rw [HR.out]; rfl, m2, rfl⟩
  · have HR : Hid (reachN D n = D.mt n) := hid (if_neg hs)
    go_enter Try.func105, Try.ntmps105
    go_wp2_with fail
    go_ret
    exact ⟨by rw [HR.out]; rfl, 0, rfl⟩
theorem Co.set {w : World} {b : Nat} {lv : Value} {D D' : CoD} {i : Nat} {v : Value} (h : Co w 0 b lv D) (hc : (coC D lv).setIfInBounds i v = coC D' lv) (hl : D'.log = D.log) : Co (w.setCell ⟨b, i, none⟩ v) 0 b lv D' :=
  ⟨by rw [← hc]; exact heap_setCell_same _ _ _ _ _ _ h.head, by rw [hl]; exact own_set h.log h.head (by decide)⟩
theorem Wd.set {w : World} {b wb : Nat} {lv ms ns : Value} {D : CoD} {W : WdD} {i : Nat} {v : Value} (k : Wd w wb ms ns W) (h : Co w 0 b lv D) : Wd (w.setCell ⟨b, i, none⟩ v) wb ms ns W :=
  ⟨(Below.heap_setCell w ⟨b, i, none⟩ v wb fun e => by
      obtain rfl : wb = b := e
      have := k.head; rw [h.head] at this; cases this).trans k.head, own_set k.mails h.head (by decide), own_set k.news h.head (by decide)⟩
def unseatD (D : CoD) : CoD := { D with role := 0, leader := -1 }
set_option maxRecDepth 100000 in
set_option maxHeartbeats 1600000 in
theorem unseat_any (b : Nat) (lv : Value) (D : CoD) (w : World) (h : Co w 0 b lv D) :
    Calls Try.prog 89 #[.pointer (some ⟨b, 0, none⟩)] w fun e w' => e = .returned (.tuple #[]) ∧ Co w' 0 b lv (unseatD D) ∧ Bt (fun q => q = b) w w' ∧ (∀ wb ms ns W, Wd w wb ms ns W → Wd w' wb ms ns W) := by
  have H := hid h
  have c8 : w.cell? ⟨b, 8, none⟩ = some (.int .i64 D.role) := h.cell 8
  have c9 : w.cell? ⟨b, 9, none⟩ = some (.int .i64 D.leader) := h.cell 9
  have f8 : w.frozen? ⟨b, 8, none⟩ = false := by simp [World.frozen?, h.head]
  have f9 : w.frozen? ⟨b, 9, none⟩ = false := by simp [World.frozen?, h.head]
  have H1 : Hid (Co (w.setCell ⟨b, 8, none⟩ (.int .i64 0)) 0 b lv { D with role := 0 }) := hid (h.set rfl rfl)
  have d9 : (w.setCell ⟨b, 8, none⟩ (.int .i64 0)).cell? ⟨b, 9, none⟩ = some (.int .i64 D.leader) := H1.out.cell 9
  have e9 : (w.setCell ⟨b, 8, none⟩ (.int .i64 0)).frozen? ⟨b, 9, none⟩ = false := by simp [World.frozen?, H1.out.head]
  clear h
  go_enter Try.func89, Try.ntmps89
  go_wp2_with fail
  first | go_end0 | refine bodyPost_ret (results_none rfl _ _ _) rfl ?_
  exact ⟨rfl, H1.out.set rfl rfl, Bt.set (R := fun q => q = b) (Bt.set (Bt.refl _ _) (.inl rfl)) (.inl rfl), fun wb ms ns W k => (k.set H.out).set H1.out⟩
theorem ent_win : EntF 109 := fun args w => by simp [go_sem]
theorem ent_commit : EntF 107 := fun args w => by simp [go_sem]
set_option maxRecDepth 100000 in
set_option maxHeartbeats 1600000 in
/-- win's function: has the node voted for it? B: the box of c. -/
theorem win1_any (base b B : Nat) (lv : Value) (D : CoD) (n : Nat) (w : World) (h : Co w base b lv D) (hB : w.cell? ⟨B, 0, none⟩ = some (.pointer (some ⟨b, 0, none⟩))) (hn : n < 7) :
    Calls Try.prog 109 #[.int .i64 (n : Int), .pointer (some ⟨B, 0, none⟩)] w fun e w' => e = .returned (.bool (D.votes n)) ∧ ∃ m, w' = w.drewN m := by
  have cm := h.vot n hn
  have hlt : (n : Int) < 7 := by omega
  clear h
  go_enter Try.func109, Try.ntmps109
  go_wp2_with fail
  go_ret
  exact ⟨rfl, 0, rfl⟩
theorem reach_at (base b : Nat) (lv : Value) (D : CoD) (n k : Nat) (w : World) (h : Co w base b lv D) (hi : CoI D) (hn : n < 7) :
    Calls Try.prog 105 #[.pointer (some ⟨b, 0, none⟩), .int .i64 (n : Int)] (w.drewN k) fun e w' => e = .returned (.int .i64 (reachN D n)) ∧ ∃ m, w' = (w.drewN k).drewN m :=
  reach_any base b lv D n _ (h.below (belowN _ _)) hi hn
set_option maxRecDepth 100000 in
set_option maxHeartbeats 1600000 in
/-- commit's function: does the node's log go up to i for sure? B: the box of c, I: the box of i. -/
theorem commit1_any (base b B I : Nat) (i : Int) (lv : Value) (D : CoD) (n : Nat) (w : World) (h : Co w base b lv D) (hi : CoI D) (hB : w.cell? ⟨B, 0, none⟩ = some (.pointer (some ⟨b, 0, none⟩))) (hI : w.cell? ⟨I, 0, none⟩ = some (.int .i64 i)) (hn : n < 7) :
    Calls Try.prog 107 #[.int .i64 (n : Int), .pointer (some ⟨B, 0, none⟩), .pointer (some ⟨I, 0, none⟩)] w fun e w' => e = .returned (.bool (decide (i ≤ reachN D n))) ∧ ∃ m, w' = w.drewN m := by
  have H := hid h
  have HI := hid hi
  clear h hi
  go_enter Try.func107, Try.ntmps107
  go_wp2_with fail
  go_quiet (first | (go_at_call 105; exact Calls.quiet_of (reach_at base b lv D n _ _ H.out HI.out hn)))
  go_wp2_with fail
  go_ret
  exact ⟨rfl, nq, rfl⟩
end Go.Proofs.Ytjimneaimnjanaa
