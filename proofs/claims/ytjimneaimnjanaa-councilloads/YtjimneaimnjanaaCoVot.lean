/- A text of voters as numbers, and back. Conditions: the text has at most a million bytes. -/
import Derived.Test.YtjimneaimnjanaaCoBase
namespace Go.Proofs.Ytjimneaimnjanaa
open Go.RowKit
set_option linter.unusedVariables false
set_option linter.unusedSimpArgs false

theorem rowNm : RowT 35 3 (.int .i64 0) 1 8 := ⟨by kernel_rfl, by kernel_rfl, rfl, by decide, by decide⟩
def nvs (l : List Int) : List Value := l.map (.int .i64 ·)
theorem own_lo {B : Nat} {E : TypeId} {k n : Nat} {xs : List Value} {w w1 : World} {v : Value} (ho : w.ownsRow B E k v n xs) (hg : w.grownBy w1 v.ownBlock) (hB : B ≤ w.heap.size) : Below B w w1 :=
  (Below.refl _ _).grown hg hB fun k hk => (World.ownsRow.lt ho k hk).1
theorem nums_own {w : World} {base n : Nat} {v : Value} {l : List Int} (h : w.ownsRow base 3 1 v n (nvs l)) (hn : n = l.length) : Nums w v l := by
  subst hn
  have h' := h
  obtain ⟨h1, h2⟩ := h
  rcases h2 with ⟨rfl, h0⟩ | ⟨g, cap, cur, rfl, -, hh, hc, hm, -⟩
  · have : l = [] := List.length_eq_zero_iff.1 h0
    subst this; exact Nums.nil _
  · refine ⟨_, _, _, rfl, rfl, hc, by unfold maxLen at hm; omega, (fun h => by cases h), ?_⟩
    intro ad had j hj
    cases had
    exact h'.cells (g := g) rfl j _ (by simp [nvs, hj])
/-- Byte k of a text. -/
def tb (s : ByteArray) (k : Nat) : Int := if h : k < s.size then ((s[k]'h).toNat : Int) else 0
theorem tb_get (s : ByteArray) (n : Nat) (h : n < s.size) : ((s[n]'h).toNat : Int) = tb s n := by unfold tb; rw [dif_pos h]
theorem tb_lo (s : ByteArray) (k : Nat) : 0 ≤ tb s k := by unfold tb; split <;> omega
theorem tb_hi (s : ByteArray) (k : Nat) : tb s k ≤ 255 := by
  unfold tb; split
  · have := (s[k]).toNat_lt; omega
  · omega
/-- The numbers of a text's first bytes, and of all. -/
def tbs (s : ByteArray) (i : Nat) : List Int := (List.range i).map (tb s)
def vtx (s : ByteArray) : List Int := tbs s s.size
theorem tbs_len (s : ByteArray) (i : Nat) : (tbs s i).length = i := by simp [tbs]
theorem tbs_snoc (s : ByteArray) (i : Nat) : tbs s (i + 1) = tbs s i ++ [tb s i] := by simp [tbs, List.range_succ]
/-- What Voters answers. -/
def VotP (s : ByteArray) (w : World) (e : Ending) (w' : World) : Prop :=
  ∃ v, e = .returned (.tuple #[v, .bool (votB (vtx s))]) ∧ Below w.heap.size w w' ∧ w'.ownsRow w.heap.size 3 1 v (if votB (vtx s) then s.size else 0) (nvs (if votB (vtx s) then vtx s else []))
set_option maxRecDepth 100000 in
set_option maxHeartbeats 4000000 in
theorem voters_any (s : ByteArray) (w : World) (hs : s.size ≤ 999999) :
    Calls Try.prog 26 #[.string s] w (VotP s w) := by
  have hu : Try.prog.underlying 9 = some .string := by kernel_rfl
  go_enter Try.func26, Try.ntmps26
  go_wp2_with fail
  go_loopw [4, 5, 8] (fun lv _ iv wr => ∃ i : Nat, iv = .int .i64 i ∧ i ≤ s.size ∧ wr.ownsRow w.heap.size 3 1 lv i (nvs (tbs s i)) ∧ Below w.heap.size w wr) (fun _ _ iv _ => s.size - (intOf iv).toNat)
  case atStart => exact ⟨0, rfl, Nat.zero_le _, World.ownsRow_nil _ _ _ _, Below.refl _ _⟩
  case round =>
    obtain ⟨i, rfl, hi, ho, hb⟩ := hrel
    obtain ⟨va, vc, rfl⟩ := own_shape ho
    have HO := hid ho
    have HB := hid hb
    clear ho hb
    by_cases hlt : (i : Int) < (s.size : Int)
    · have hil : i < s.size := by omega
      have hb0 := tb_get s
      have hlo := tb_lo s i
      have hhi := tb_hi s i
      have HY : Hid (∀ j u, ([Value.int .i64 (tb s i)] : List Value)[j]? = some u → (wr.alloc (.cells #[.int .i64 (tb s i)] 3)).cell? ⟨wr.heap.size, j, none⟩ = some u) := hid fun j u hj => by
        rw [cell_of_row _ _ _ _ _ _ (heap_alloc_new _ _)]
        cases j with
        | zero => simpa using hj
        | succ j => simp at hj
      have OA := hid (own_below HO.out ((Below.refl wr.heap.size wr).alloc (Nat.le_refl _) (.cells #[.int .i64 (tb s i)] 3)))
      have BA := hid (HB.out.trans (((Below.refl wr.heap.size wr).alloc (Nat.le_refl _) (.cells #[.int .i64 (tb s i)] 3)).mono HB.out.size))
      go_wp2_with (at_builtin; refine wpl_app rowNm rfl _ _ rfl w.heap.size (.slice va i vc) i (nvs (tbs s i)) rfl OA.out wr.heap.size 1 1 [.int .i64 (tb s i)] rfl rfl HY.out (by simp [Value.oneCell']) (by omega) BA.out.size ?_; intro va2 vc2 w2 ho2 hg2; have O2 := hid ho2; have B2 := hid (BA.out.trans (own_lo OA.out hg2 BA.out.size)); clear ho2 hg2)
      go_roundw
      case rel => exact ⟨i + 1, by go_num, by omega, by rw [tbs_snoc]; simpa [nvs] using O2.out, B2.out⟩
      case measure => simp [intOf]; omega
    · obtain rfl : i = s.size := by omega
      clear hlt
      have HN := hid (nums_own HO.out (tbs_len s _).symm)
      have HV : Hid (votB (tbs s s.size) = votB (vtx s)) := hid rfl
      cases hv : votB (vtx s) with
      | false =>
        go_wp2_with (go_at_call 62; refine (mayVoters_any _ _ _ HN.out).mono ?_; rintro e w2 ⟨rfl, rfl⟩; rw [HV.out, hv])
        go_ret2
        exact ⟨_, by rw [hv]; rfl, HB.out, by rw [hv]; exact World.ownsRow_nil _ _ _ _⟩
      | true =>
        go_wp2_with (go_at_call 62; refine (mayVoters_any _ _ _ HN.out).mono ?_; rintro e w2 ⟨rfl, rfl⟩; rw [HV.out, hv])
        go_ret2
        exact ⟨_, by rw [hv]; rfl, HB.out, by rw [hv]; exact HO.out⟩
end Go.Proofs.Ytjimneaimnjanaa
