/- New of a map of shards. Conditions: the members lie in memory. -/
import Derived.Test.YtnkjkaofgninnaaAtKeep
namespace Go.Proofs.Ytnkjkaofgninnaa
open Go.RowKit Go.Maps Go.Shelf
set_option linter.unusedVariables false
set_option linter.unusedSimpArgs false

def ShD.pc (S : ShD) : Pc := (S.fr, S.to, S.id)
def SX.pc (x : SX) : Pc := x.s.pc
/-- A map of shards: where blocks are is what its shards have. -/
structure At (w : World) (b wb mb n : Nat) (ov : Value) (D : DataW Value) (N : AtN) (X : List SX) : Prop where
  m : AtM w b wb mb n ov D N (X.map SX.pc) X
  nil : N.op = [] → ov = .slice none 0 0
/-- The same, but the row of what is open may be an empty one. -/
structure Aw (w : World) (b wb mb n : Nat) (ov : Value) (D : DataW Value) (N : AtN) (X : List SX) : Prop where
  m : AtM w b wb mb n ov D N (X.map SX.pc) X
theorem Aw.below {w w' : World} {b wb mb n : Nat} {ov : Value} {D : DataW Value} {N : AtN} {X : List SX} (h : Aw w b wb mb n ov D N X) (hb : Below w.heap.size w w') : Aw w' b wb mb n ov D N X := ⟨h.m.below hb⟩
theorem At.aw {w : World} {b wb mb n : Nat} {ov : Value} {D : DataW Value} {N : AtN} {X : List SX} (h : At w b wb mb n ov D N X) : Aw w b wb mb n ov D N X := ⟨h.m⟩
theorem At.below {w w' : World} {b wb mb n : Nat} {ov : Value} {D : DataW Value} {N : AtN} {X : List SX} (h : At w b wb mb n ov D N X) (hb : Below w.heap.size w w') : At w' b wb mb n ov D N X := ⟨h.m.below hb, h.nil⟩
def anewB (bl : Int) (l : List Int) : Bool := decide (1 ≤ bl) && (decide (bl ≤ 256) && memB l)
set_option maxRecDepth 100000 in
set_option maxHeartbeats 1600000 in
theorem anew_no (bl : Int) (l : List Int) (v : Value) (w : World) (hv : Nums w v l) (h : anewB bl l = false) :
    Calls Try.prog 18 #[.int .i64 bl, v] w fun e w' => e = .returned (.tuple #[.pointer none, .int .i64 1]) ∧ w' = w := by
  have HM := hid (fun W (hW : Nums W v l) => isMembers_any l v W hW)
  have HV := hid hv
  unfold anewB at h
  clear hv
  cases h1 : decide (1 ≤ bl) with
  | false =>
    have h1' : bl < 1 := by have := of_decide_eq_false h1; omega
    clear h h1
    go_enter Try.func18, Try.ntmps18
    go_wp2_with fail
    go_ret2
    exact ⟨rfl, rfl⟩
  | true =>
    have h1' : ¬ bl < 1 := by have := of_decide_eq_true h1; omega
    cases h2 : decide (bl ≤ 256) with
    | false =>
      have h2' : 256 < bl := by have := of_decide_eq_false h2; omega
      clear h h1 h2
      go_enter Try.func18, Try.ntmps18
      go_wp2_with fail
      go_ret2
      exact ⟨rfl, rfl⟩
    | true =>
      have h2' : ¬ 256 < bl := by have := of_decide_eq_true h2; omega
      have h3 : memB l = false := by rw [h1, h2] at h; simpa using h
      clear h h1 h2
      go_enter Try.func18, Try.ntmps18
      go_wp2_with (go_at_call 39; refine (HM.out _ HV.out).mono ?_; rintro e w2 ⟨rfl, hw2⟩; replace hw2 := hw2.symm; subst hw2; rw [h3])
      go_ret2
      exact ⟨rfl, rfl⟩
/-- What New leaves. -/
def NwP (bl : Int) (l : List Int) (w : World) (e : Ending) (w' : World) : Prop := ∃ b wb mb D mv pv, e = .returned (.tuple #[.pointer (some ⟨b, 0, none⟩), .int .i64 0]) ∧ At w' b wb mb 1 (.slice none 0 0) D ⟨bl, 1, 2, []⟩ [⟨⟨1, 0, bl, l, []⟩, mv, pv⟩] ∧ Below w.heap.size w w' ∧ ∀ q, AtR b wb mb q → w.heap.size ≤ q
set_option maxRecDepth 100000 in
set_option maxHeartbeats 4000000 in
theorem anew_yes (bl : Int) (l : List Int) (v : Value) (w : World) (hv : Nums w v l) (hl : l.length ≤ 1000000) (h : anewB bl l = true) :
    Calls Try.prog 18 #[.int .i64 bl, v] w (NwP bl l w) := by
  have HM := hid (fun W (hW : Nums W v l) => isMembers_any l v W hW)
  have HV := hid hv
  have HL := hid hl
  unfold anewB at h
  simp only [Bool.and_eq_true, decide_eq_true_eq] at h
  obtain ⟨h1, h2, h3⟩ := h
  have h1' : ¬ bl < 1 := by omega
  have h2' : ¬ 256 < bl := by omega
  have HBL : Hid (1 ≤ bl ∧ bl ≤ 256) := hid ⟨h1, h2⟩
  obtain ⟨dP, hdP1, hdP2⟩ := Try.rowSp
  clear hv h1 h2 hl
  go_enter Try.func18, Try.ntmps18
  go_upto_region 5 with (first | (go_at_call 39; refine (HM.out _ HV.out).mono ?_; rintro e w2 ⟨rfl, hw2⟩; replace hw2 := hw2.symm; subst hw2; rw [h3]) | (go_at_call 40; refine (aempty_any bl 1 2 _).mono ?_; rintro e w2 ⟨b, wb, mb, rfl, ha2, hb2, hr2⟩; have A2 := hid ha2; have B2 := hid hb2; have R2 := hid hr2; clear ha2 hb2 hr2))
  have hb3 : Below w2.heap.size w2 (w2.alloc (.cells #[.int .i64 0, .int .i64 bl] 43)) := (Below.refl _ _).alloc (Nat.le_refl _) _
  have hg3 : (w2.alloc (.cells #[.int .i64 0, .int .i64 bl] 43)).heap[w2.heap.size]? = some (.cells #[.int .i64 0, .int .i64 bl] 43 (0, 0)) := heap_alloc_new _ _
  generalize w2.alloc (.cells #[.int .i64 0, .int .i64 bl] 43) = w3 at *
  have A3 := hid (A2.out.below (hb3))
  have B3 := hid (B2.out.trans (hb3.mono B2.out.size))
  have HV3 := hid (HV.out.below B3.out)
  have G3 := hid hg3
  clear hb3 hg3 A2 B2
  generalize w2.heap.size = P at *
  have SW : Hid (∀ Y, Below w3.heap.size w3 Y → Y.rangeAt P 0 [.int .i64 0, .int .i64 bl]) := hid fun Y hY => range_of_row ((hY.block P (lt_of_block G3.out)).trans G3.out) 0 _ fun j v hv => by rw [Nat.zero_add]; simpa using hv
  have SN : Hid (∀ Y Z, Tr (AtR b wb mb) Y Z → Below w3.heap.size w3 Y → Z.rangeAt P 0 [.int .i64 0, .int .i64 bl]) := hid fun Y Z hZ hY => range_of_row ((hZ.block P (Nat.lt_of_lt_of_le (lt_of_block G3.out) hY.size) (A3.out.nob G3.out (by decide) (by decide))).trans ((hY.block P (lt_of_block G3.out)).trans G3.out)) 0 _ fun j v hv => by rw [Nat.zero_add]; simpa using hv
  refine wp_region_held_drew (S := fun Y => Y.rangeAt P 0 [.int .i64 0, .int .i64 bl]) (by kernel_rfl) (SW.out _ ((Below.refl _ _).drew)) (fun hHeld => ?_)
  refine wpAnyH_take (i := 0) (v := ?pv0) rfl (by kernel_rfl) (by kernel_rfl) (by kernel_rfl) (fun _ _ _ h => h) (Or.inl ⟨by rfl, ?py0⟩) (by assumption) ?pr0
  case py0 => (intro w hSw; (try dsimp only at hSw); go_simp; try with_reducible rfl)
  (try simp only [Act.put, putS])
  refine wpAnyH_take (i := 1) (v := .agg #[.int .i64 0, .int .i64 bl]) rfl (by kernel_rfl) (by kernel_rfl) (by kernel_rfl) (fun _ _ _ h => h) (yieldsIf_load_mid rfl _ _ rfl P 0 rfl [.int .i64 0, .int .i64 bl] dP (fun Y hY => hY) hdP1 hdP2 Try.sizeSp) (by assumption) ?_
  (try simp only [Act.put, putS])
  refine wpAnyH_take (i := 2) (v := ?qv2) rfl (by kernel_rfl) (by kernel_rfl) (by kernel_rfl) (fun _ _ _ h => h) (Or.inl ⟨by rfl, ?qy2⟩) (by assumption) ?qr2
  case qy2 => (intro w hSw; (try dsimp only at hSw); go_simp; try with_reducible rfl)
  (try simp only [Act.put, putS])
  refine wpAnyH_ready (rs := [3]) (by kernel_rfl) (by simp) ?_
  refine AllReadyH.cons rfl (fun K hK => ?_) AllReadyH.nil
  rw [if_pos (by rfl)]
  go_wp2_with fail
  refine (cloneN_any _ l _ (HV3.out.below ((Below.refl _ _).drew)) (by have := HL.out; omega)).mono ?_
  rintro e w4 ⟨va4, vc4, rfl, ho4, hb4⟩
  have B4 := hid (((Below.refl w3.heap.size w3).drew).trans hb4)
  have O4 := hid ho4
  clear ho4 hb4
  refine hK.out _ _ (SW.out _ B4.out) (fun hHeld => ?_)
  try clear hK K
  (try simp only [Act.put, putS])
  refine wpAnyH_take (i := 4) (v := ?qv4) rfl (by kernel_rfl) (by kernel_rfl) (by kernel_rfl) (fun _ _ _ h => h) (Or.inl ⟨by rfl, ?qy4⟩) (by assumption) ?qr4
  case qy4 => (intro w hSw; (try dsimp only at hSw); go_simp; try with_reducible rfl)
  (try simp only [Act.put, putS])
  refine wpAnyH_ready (rs := [5]) (by kernel_rfl) (by simp) ?_
  refine AllReadyH.cons rfl (fun K hK => ?_) AllReadyH.nil
  rw [if_pos (by rfl)]
  go_wp2_with fail
  refine (keep_any b wb mb 0 (.slice none 0 0) (.map []) ⟨bl, 1, 2, []⟩ [] [] ⟨1, 0, bl, l, []⟩ (.slice va4 l.length vc4) (.slice none 0 0) _ (A3.out.below B4.out) (by omega) ⟨own_lower O4.out (Nat.zero_le _), [], rfl, World.ownsRow_nil _ _ _ _, (fun x hx => by cases hx)⟩ ⟨by show (-9223372036854775808 : Int) ≤ 1; omega, by show (1 : Int) ≤ 9223372036854775807; omega⟩ (by simp) (by simp) ⟨by show (-9223372036854775808 : Int) ≤ 0; omega, by show bl ≤ _; have := HBL.out; omega⟩).mono ?_
  rintro e w5 ⟨rfl, W', ha5, hc5, ht5⟩
  have A5 := hid ha5
  have C5 := hid hc5
  have T5 := hid ht5
  have S5 := hid (SN.out _ _ ht5 B4.out)
  clear ha5 hc5 ht5
  refine hK.out _ _ (S5.out) (fun hHeld => ?_)
  try clear hK K
  (try simp only [Act.put, putS])
  refine wpAnyH_done (by kernel_rfl) ?_ _
  have HF : Hid (At w5 b wb mb 1 (.slice none 0 0) (DataW.put (.map []) (.int .i64 1) (.held (shV ⟨1, 0, bl, l, []⟩ (.slice va4 l.length vc4) (.slice none 0 0)))) ⟨bl, 1, 2, []⟩ [⟨⟨1, 0, bl, l, []⟩, .slice va4 l.length vc4, .slice none 0 0⟩]) := hid (by
    have e : W' = [(0, bl, 1)] := can_unique _ _ A5.out.whr.can (can_one _ (by show (0 : Int) < bl; have := HBL.out; omega)) fun k v => by
      rw [C5.out.2 k v]
      by_cases hk : (0 : Int) ≤ k ∧ k < bl
      · rw [if_pos hk]
      · rw [if_neg hk, HasP_one]
        constructor
        · intro h; exact absurd h (HasP_nil _ _)
        · intro h; exact absurd ⟨h.1, h.2.1⟩ hk
    have := A5.out
    rw [e] at this
    exact ⟨this, fun _ => rfl⟩)
  have HB : Hid (Below w.heap.size w w5) := hid (by
    have h34 := B3.out.trans (B4.out.mono B3.out.size)
    exact h34.trans (T5.out.to R2.out h34.size))
  go_wp2_with fail
  go_ret2
  exact ⟨b, wb, mb, _, _, _, rfl, HF.out, HB.out, R2.out⟩
end Go.Proofs.Ytnkjkaofgninnaa
