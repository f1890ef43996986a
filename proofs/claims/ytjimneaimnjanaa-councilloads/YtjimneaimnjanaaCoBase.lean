/- Nodes and rows of nodes: which may be a council's voters. Conditions: they lie in memory. -/
import Derived.Test.YtjimneaimnjanaaKt
import Derived.Test.YtjimneaimnjanaaBkBase
import Derived.Test.YtjimneaimnjanaaRnd2
namespace Go.Proofs.Ytjimneaimnjanaa
open Go.RowKit
set_option linter.unusedVariables false
set_option linter.unusedSimpArgs false

def nodeB (n : Int) : Bool := decide (0 ≤ n) && decide (n < 7)
set_option maxHeartbeats 400000 in
theorem isNode_any (n : Int) (w : World) : Calls Try.prog 31 #[.int .i64 n] w fun e w' => e = .returned (.bool (nodeB n)) ∧ w' = w := by
  unfold nodeB
  cases h : decide (0 ≤ n)
  all_goals
    go_enter Try.func31, Try.ntmps31
    go_wp2
    go_ret
    exact ⟨by simp, rfl⟩
/-- The value v is a slice of the numbers l. -/
def Nums (w : World) (v : Value) (l : List Int) : Prop :=
  ∃ ao n cap, v = .slice ao n cap ∧ n = l.length ∧ n ≤ cap ∧ cap ≤ 9223372036854775807 ∧ (ao = none → cap = 0) ∧ ∀ ad, ao = some ad → ∀ j, (h : j < l.length) → w.cell? (ad.add j) = some (.int .i64 l[j])
theorem Nums.below {w w' : World} {v : Value} {l : List Int} (h : Nums w v l) (hb : Below w.heap.size w w') : Nums w' v l := by
  obtain ⟨ao, n, cap, rfl, h1, h2, h3, h4, h5⟩ := h
  exact ⟨ao, n, cap, rfl, h1, h2, h3, h4, fun ad had j hj => cell_later hb (h5 ad had j hj)⟩
theorem Nums.shape {w : World} {v : Value} {l : List Int} (h : Nums w v l) : ∃ va vc, v = .slice va l.length vc := by
  obtain ⟨ao, n, cap, rfl, rfl, -⟩ := h; exact ⟨_, _, rfl⟩
theorem Nums.len {w : World} {v : Value} {l : List Int} (h : Nums w v l) : (l.length : Int) ≤ 9223372036854775807 := by
  obtain ⟨ao, n, cap, rfl, rfl, h2, h3, -⟩ := h; omega
theorem Nums.lit {w : World} {b o cap : Nat} {l : List Int} (h : Nums w (.slice (some ⟨b, o, none⟩) l.length cap) l) (j : Nat) (hj : j < l.length) : w.cell? ⟨b, o + j, none⟩ = some (.int .i64 l[j]) := by
  obtain ⟨ao, n, cap', e, h1, h2, h3, h4, h5⟩ := h
  cases e
  have := h5 _ rfl j hj
  rw [Addr.add_lit] at this
  exact this
theorem Nums.addr {w : World} {ao : Option Addr} {cap : Nat} {l : List Int} (h : Nums w (.slice ao l.length cap) l) (hl : 0 < l.length) : ∃ b o, ao = some ⟨b, o, none⟩ := by
  obtain ⟨ao', n, cap', e, h1, h2, h3, h4, h5⟩ := h
  cases e
  cases ao with
  | none => have := h4 rfl; omega
  | some a =>
    have h0 := h5 a rfl 0 hl
    have := World.cell?_spot h0
    obtain ⟨b, o, sp⟩ := a
    simp [Addr.add] at this
    subst this
    exact ⟨b, o, rfl⟩
theorem Nums.nil (w : World) : Nums w (.slice none 0 0) [] := ⟨none, 0, 0, rfl, rfl, Nat.le_refl _, by omega, (fun _ => rfl), (fun ad h => by cases h)⟩

/-- Is the one at place j a node, and above the one ahead of it? -/
def votAt (l : List Int) (j : Nat) : Bool := nodeB (l.getD j 0) && (j == 0 || decide (l.getD (j - 1) 0 < l.getD j 0))
/-- Nodes, rising, at least one. -/
def votB (l : List Int) : Bool := (List.range l.length).all (votAt l) && decide (0 < l.length)
theorem vot_no {l : List Int} {i : Nat} (h : i < l.length) (hd : votAt l i = false) : votB l = false := by
  unfold votB
  rw [Bool.and_eq_false_iff]
  left
  rw [List.all_eq_false]
  exact ⟨i, by simpa using h, by rw [hd]; simp⟩
theorem vot_yes {l : List Int} (h : ∀ j, j < l.length → votAt l j = true) : votB l = decide (0 < l.length) := by
  unfold votB
  have : (List.range l.length).all (votAt l) = true := by
    rw [List.all_eq_true]
    intro j hj
    exact h j (by simpa using hj)
  rw [this, Bool.true_and]
set_option maxRecDepth 100000 in
set_option maxHeartbeats 4000000 in
theorem mayVoters_any (l : List Int) (v : Value) (w : World) (hv : Nums w v l) :
    Calls Try.prog 62 #[v] w fun e w' => e = .returned (.bool (votB l)) ∧ w' = w := by
  have HV := hid hv
  have hL := hv.len
  obtain ⟨va, vc, rfl⟩ := hv.shape
  clear hv
  go_enter Try.func62, Try.ntmps62
  go_wp2_with fail
  go_loopw [3, 4, 7] (fun _ _ iv wr => ∃ i : Nat, iv = .int .i64 i ∧ i ≤ l.length ∧ (∀ j, j < i → votAt l j = true) ∧ wr = w) (fun _ _ iv _ => l.length - (intOf iv).toNat)
  case atStart => exact ⟨0, rfl, Nat.zero_le _, (fun j hj => by omega), rfl⟩
  case round =>
    obtain ⟨i, rfl, hi, hall, rfl⟩ := hrel
    have HALL := hid hall
    clear hall
    by_cases hlt : (i : Int) < (l.length : Int)
    · have hil : i < l.length := by omega
      obtain ⟨gd, od, rfl⟩ := HV.out.addr (by omega)
      have c0 := HV.out.lit i hil
      have HDB : Hid (votAt l i = (nodeB l[i] && (i == 0 || decide (l.getD (i - 1) 0 < l[i])))) := hid (by unfold votAt; rw [show l.getD i 0 = l[i] from by simp [List.getD, List.getElem?_eq_getElem hil]])
      obtain ⟨r, hr⟩ : ∃ r, r = l[i] := ⟨_, rfl⟩
      rw [← hr] at c0 HDB
      clear hr
      obtain ⟨p, hp⟩ : ∃ p, p = l.getD (i - 1) 0 := ⟨_, rfl⟩
      rw [← hp] at HDB
      have HP : Hid (0 < i → wr.cell? ⟨gd, od + (i - 1), none⟩ = some (.int .i64 p)) := hid fun h0 => by
        have := HV.out.lit (i - 1) (by omega)
        rw [hp, show l.getD (i - 1) 0 = l[i - 1] from by simp [List.getD, List.getElem?_eq_getElem (show i - 1 < l.length by omega)]]
        exact this
      clear hp
      have HNX : Hid (votAt l i = true → ∀ j, j < i + 1 → votAt l j = true) := hid fun h j hj => by
        rcases Nat.lt_or_ge j i with h1 | h1
        · exact HALL.out j h1
        · have e : j = i := by omega
          rw [e]; exact h
      have HNB : Hid (votAt l i = false → votB l = false) := hid fun h => vot_no hil h
      obtain ⟨q, hq⟩ : ∃ q, q = nodeB r := ⟨_, rfl⟩
      rw [← hq] at HDB
      have HQ := hid hq
      clear hq
      cases q with
      | false =>
        have HNO := hid (HNB.out (by rw [HDB.out]; rfl))
        go_wp2_with (go_at_call 31; refine (isNode_any _ _).mono ?_; rintro e w2 ⟨rfl, rfl⟩; rw [← HQ.out])
        go_ret
        exact ⟨by rw [HNO.out]; rfl, rfl⟩
      | true =>
        by_cases hi0 : i = 0
        · subst hi0
          have HOK := hid (HNX.out (by rw [HDB.out]; rfl))
          rw [Nat.add_zero] at c0
          go_wp2_with (go_at_call 31; refine (isNode_any _ _).mono ?_; rintro e w2 ⟨rfl, rfl⟩; rw [← HQ.out])
          go_roundw
          case rel => exact ⟨0 + 1, by go_num, by omega, HOK.out, by first | rfl | trivial⟩
          case measure => simp [intOf]; omega
        · have h0g : decide ((0 : Int) < (i : Int)) = true := by apply decide_eq_true; omega
          have hip : 0 < i := by omega
          have hwi : IntKind.i64.wrap ((i : Int) - 1) = ((i - 1 : Nat) : Int) := by rw [IntWalk.i64_in _ ⟨by omega, by omega⟩]; omega
          have hix : ((i - 1 : Nat) : Int) < (l.length : Int) := by omega
          have c1 := HP.out hip
          have hbe : (i == 0) = false := beq_eq_false_iff_ne.2 hi0
          by_cases hls : p < r
          · have HOK := hid (HNX.out (by rw [HDB.out, hbe]; simpa using hls))
            clear hi0 hbe
            go_wp2_with (go_at_call 31; refine (isNode_any _ _).mono ?_; rintro e w2 ⟨rfl, rfl⟩; rw [← HQ.out])
            go_roundw
            case rel => exact ⟨i + 1, by go_num, by omega, HOK.out, by first | rfl | trivial⟩
            case measure => simp [intOf]; omega
          · have HNO := hid (HNB.out (by rw [HDB.out, hbe]; simpa using hls))
            clear hi0 hbe
            go_wp2_with (go_at_call 31; refine (isNode_any _ _).mono ?_; rintro e w2 ⟨rfl, rfl⟩; rw [← HQ.out])
            go_ret
            exact ⟨by rw [HNO.out]; rfl, rfl⟩
    · have HE := hid (vot_yes (l := l) fun j hj => HALL.out j (by omega))
      go_wp2_with fail
      go_ret
      exact ⟨by rw [HE.out]; simp, rfl⟩
end Go.Proofs.Ytjimneaimnjanaa
