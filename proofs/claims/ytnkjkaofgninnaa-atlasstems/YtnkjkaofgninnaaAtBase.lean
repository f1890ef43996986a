/- Nodes, members, rows of numbers and of origins in memory; what slices.Clone gives of them. Conditions: they lie in memory. -/
import Derived.Test.YtnkjkaofgninnaaKt
import Derived.Test.YtnkjkaofgninnaaSpBase
import Derived.Test.YtnkjkaofgninnaaRnd2
import Derived.Deep.QuietTactic
import Derived.BigQuiet
import Derived.Deep.RegionHeld3
import Derived.Lib.SliceRun
namespace Go.Proofs.Ytnkjkaofgninnaa
open Go.RowKit
set_option linter.unusedVariables false
set_option linter.unusedSimpArgs false

def I64 (n : Int) : Prop := -9223372036854775808 ≤ n ∧ n ≤ 9223372036854775807
theorem belowN (w : World) (q : Nat) : Below w.heap.size w (w.drewN q) := ⟨rfl, rfl, rfl, Nat.le_refl _, fun _ _ => rfl⟩
def nodeB (n : Int) : Bool := decide (0 ≤ n) && decide (n < 7)
/-- The value v is a slice of the numbers l. -/
def Nums (w : World) (v : Value) (l : List Int) : Prop :=
  ∃ ao n cap, v = .slice ao n cap ∧ n = l.length ∧ n ≤ cap ∧ cap ≤ 9223372036854775807 ∧ (ao = none → cap = 0) ∧ ∀ ad, ao = some ad → ∀ j, (h : j < l.length) → w.cell? (ad.add j) = some (.int .i64 l[j])
theorem Nums.below {w w' : World} {v : Value} {l : List Int} (h : Nums w v l) (hb : Below w.heap.size w w') : Nums w' v l := by
  obtain ⟨ao, n, cap, rfl, h1, h2, h3, h4, h5⟩ := h
  exact ⟨ao, n, cap, rfl, h1, h2, h3, h4, fun ad had j hj => cell_later hb (h5 ad had j hj)⟩
theorem Nums.shape {w : World} {v : Value} {l : List Int} (h : Nums w v l) : ∃ va vc, v = .slice va l.length vc := by
  obtain ⟨ao, n, cap, rfl, rfl, -⟩ := h; exact ⟨_, _, rfl⟩
theorem Nums.len {w : World} {v : Value} {l : List Int} (h : Nums w v l) : (l.length : Int) ≤ 9223372036854775807 := by
  obtain ⟨ao, n, cap, rfl, rfl, h2, h3, -⟩ := h; omega
theorem Nums.lit {w : World} {b o cap : Nat} {l : List Int} (h : Nums w (.slice (some ⟨b, o, none⟩) l.length cap) l) (j : Nat) (hj : j < l.length) : w.cell? ⟨b, o + j, none⟩ = some (.int .i64 l[j]) := by
  obtain ⟨ao, n, cap', e, h1, h2, h3, h4, h5⟩ := h
  cases e
  have := h5 _ rfl j hj
  rw [Addr.add_lit] at this
  exact this
theorem Nums.addr {w : World} {ao : Option Addr} {cap : Nat} {l : List Int} (h : Nums w (.slice ao l.length cap) l) (hl : 0 < l.length) : ∃ b o, ao = some ⟨b, o, none⟩ := by
  obtain ⟨ao', n, cap', e, h1, h2, h3, h4, h5⟩ := h
  cases e
  cases ao with
  | none => have := h4 rfl; omega
  | some a =>
    have h0 := h5 a rfl 0 hl
    have := World.cell?_spot h0
    obtain ⟨b, o, sp⟩ := a
    simp [Addr.add] at this
    subst this
    exact ⟨b, o, rfl⟩
theorem Nums.nil (w : World) : Nums w (.slice none 0 0) [] := ⟨none, 0, 0, rfl, rfl, Nat.le_refl _, by omega, (fun _ => rfl), (fun ad h => by cases h)⟩

/-- Is the one at place j a node, and above the one ahead of it? -/
def votAt (l : List Int) (j : Nat) : Bool := nodeB (l.getD j 0) && (j == 0 || decide (l.getD (j - 1) 0 < l.getD j 0))
theorem Try.underlyingIs : Try.prog.underlying 38 = some (.slice 3) := by kernel_rfl
theorem rowNm : RowT 38 3 (.int .i64 0) 1 8 := ⟨by kernel_rfl, by kernel_rfl, rfl, by decide, by decide⟩
def nvs (l : List Int) : List Value := l.map (.int .i64 ·)
theorem nums_own {w : World} {base n : Nat} {v : Value} {l : List Int} (h : w.ownsRow base 3 1 v n (nvs l)) (hn : n = l.length) : Nums w v l := by
  subst hn
  have h' := h
  obtain ⟨h1, h2⟩ := h
  rcases h2 with ⟨rfl, h0⟩ | ⟨g, cap, cur, rfl, -, hh, hc, hm, -⟩
  · have : l = [] := List.length_eq_zero_iff.1 h0
    subst this; exact Nums.nil _
  · refine ⟨_, _, _, rfl, rfl, hc, by unfold maxLen at hm; omega, (fun h => by cases h), ?_⟩
    intro ad had j hj
    cases had
    exact h'.cells (g := g) rfl j _ (by simp [nvs, hj])
/-- Odd many nodes, rising. -/
def memB (l : List Int) : Bool := (List.range l.length).all (votAt l) && decide (l.length % 2 = 1)
theorem mem_no {l : List Int} {i : Nat} (h : i < l.length) (hd : votAt l i = false) : memB l = false := by
  unfold memB
  rw [Bool.and_eq_false_iff]
  left
  rw [List.all_eq_false]
  exact ⟨i, by simpa using h, by rw [hd]; simp⟩
theorem mem_yes {l : List Int} (h : ∀ j, j < l.length → votAt l j = true) : memB l = decide (l.length % 2 = 1) := by
  unfold memB
  have : (List.range l.length).all (votAt l) = true := by
    rw [List.all_eq_true]
    intro j hj
    exact h j (by simpa using hj)
  rw [this, Bool.true_and]
set_option maxHeartbeats 400000 in
theorem anode_any (n : Int) (w : World) : Calls Try.prog 47 #[.int .i64 n] w fun e w' => e = .returned (.bool (nodeB n)) ∧ w' = w := by
  unfold nodeB
  cases h : decide (0 ≤ n)
  all_goals
    go_enter Try.func47, Try.ntmps47
    go_wp2
    go_ret
    exact ⟨by simp, rfl⟩
set_option maxRecDepth 100000 in
set_option maxHeartbeats 4000000 in
theorem isMembers_any (l : List Int) (v : Value) (w : World) (hv : Nums w v l) :
    Calls Try.prog 39 #[v] w fun e w' => e = .returned (.bool (memB l)) ∧ w' = w := by
  have HV := hid hv
  have hL := hv.len
  obtain ⟨va, vc, rfl⟩ := hv.shape
  clear hv
  go_enter Try.func39, Try.ntmps39
  go_wp2_with fail
  go_loopw [3, 4, 7] (fun _ _ iv wr => ∃ i : Nat, iv = .int .i64 i ∧ i ≤ l.length ∧ (∀ j, j < i → votAt l j = true) ∧ wr = w) (fun _ _ iv _ => l.length - (intOf iv).toNat)
  case atStart => exact ⟨0, rfl, Nat.zero_le _, (fun j hj => by omega), rfl⟩
  case round =>
    obtain ⟨i, rfl, hi, hall, rfl⟩ := hrel
    have HALL := hid hall
    clear hall
    by_cases hlt : (i : Int) < (l.length : Int)
    · have hil : i < l.length := by omega
      obtain ⟨gd, od, rfl⟩ := HV.out.addr (by omega)
      have c0 := HV.out.lit i hil
      have HDB : Hid (votAt l i = (nodeB l[i] && (i == 0 || decide (l.getD (i - 1) 0 < l[i])))) := hid (by unfold votAt; rw [show l.getD i 0 = l[i] from by simp [List.getD, List.getElem?_eq_getElem hil]])
      obtain ⟨r, hr⟩ : ∃ r, r = l[i] := ⟨_, rfl⟩
      rw [← hr] at c0 HDB
      clear hr
      obtain ⟨p, hp⟩ : ∃ p, p = l.getD (i - 1) 0 := ⟨_, rfl⟩
      rw [← hp] at HDB
      have HP : Hid (0 < i → wr.cell? ⟨gd, od + (i - 1), none⟩ = some (.int .i64 p)) := hid fun h0 => by
        have := HV.out.lit (i - 1) (by omega)
        rw [hp, show l.getD (i - 1) 0 = l[i - 1] from by simp [List.getD, List.getElem?_eq_getElem (show i - 1 < l.length by omega)]]
        exact this
      clear hp
      have HNX : Hid (votAt l i = true → ∀ j, j < i + 1 → votAt l j = true) := hid fun h j hj => by
        rcases Nat.lt_or_ge j i with h1 | h1
        · exact HALL.out j h1
        · have e : j = i := by omega
          rw [e]; exact h
      have HNB : Hid (votAt l i = false → memB l = false) := hid fun h => mem_no hil h
      obtain ⟨q, hq⟩ : ∃ q, q = nodeB r := ⟨_, rfl⟩
      rw [← hq] at HDB
      have HQ := hid hq
      clear hq
      cases q with
      | false =>
        have HNO := hid (HNB.out (by rw [HDB.out]; rfl))
        go_wp2_with (go_at_call 47; refine (anode_any _ _).mono ?_; rintro e w2 ⟨rfl, rfl⟩; rw [← HQ.out])
        go_ret
        exact ⟨by rw [HNO.out]; rfl, rfl⟩
      | true =>
        by_cases hi0 : i = 0
        · subst hi0
          have HOK := hid (HNX.out (by rw [HDB.out]; rfl))
          rw [Nat.add_zero] at c0
          go_wp2_with (go_at_call 47; refine (anode_any _ _).mono ?_; rintro e w2 ⟨rfl, rfl⟩; rw [← HQ.out])
          go_roundw
          case rel => exact ⟨0 + 1, by go_num, by omega, HOK.out, by first | rfl | trivial⟩
          case measure => simp [intOf]; omega
        · have h0g : decide ((0 : Int) < (i : Int)) = true := by apply decide_eq_true; omega
          have hip : 0 < i := by omega
          have hwi : IntKind.i64.wrap ((i : Int) - 1) = ((i - 1 : Nat) : Int) := by rw [IntWalk.i64_in _ ⟨by omega, by omega⟩]; omega
          have hix : ((i - 1 : Nat) : Int) < (l.length : Int) := by omega
          have c1 := HP.out hip
          have hbe : (i == 0) = false := beq_eq_false_iff_ne.2 hi0
          by_cases hls : p < r
          · have HOK := hid (HNX.out (by rw [HDB.out, hbe]; simpa using hls))
            clear hi0 hbe
            go_wp2_with (go_at_call 47; refine (anode_any _ _).mono ?_; rintro e w2 ⟨rfl, rfl⟩; rw [← HQ.out])
            go_roundw
            case rel => exact ⟨i + 1, by go_num, by omega, HOK.out, by first | rfl | trivial⟩
            case measure => simp [intOf]; omega
          · have HNO := hid (HNB.out (by rw [HDB.out, hbe]; simpa using hls))
            clear hi0 hbe
            go_wp2_with (go_at_call 47; refine (anode_any _ _).mono ?_; rintro e w2 ⟨rfl, rfl⟩; rw [← HQ.out])
            go_ret
            exact ⟨by rw [HNO.out]; rfl, rfl⟩
    · have HE := hid (mem_yes (l := l) fun j hj => HALL.out j (by omega))
      have HBB : Hid (((l.length : Int) % 2 == 1) = decide (l.length % 2 = 1)) := hid (by rw [Bool.eq_iff_iff]; simp; omega)
      go_wp2_with fail
      go_ret
      exact ⟨by rw [HE.out, ← HBB.out]; rfl, rfl⟩
/-- 'append(s, x...)', x a slice at any address. -/
theorem wpl_appA {T E : TypeId} {z : Value} {sz bytes : Nat} (R : RowT T E z sz bytes) {ops : Array Oper} {rest : List Oper} {o : Oper} {a : Act} {w : World} {Q : Exit → Act → World → Prop} (hgd : o.guard = none) (s x : Operand)
    (ho : o.op = .call { callee := .builtin .append, args := #[s, x], argTypes := #[T, T] })
    (base : Nat) (v : Value) (n : Nat) (xs : List Value) (hs : a.eval s = v) (hown : w.ownsRow base E sz v n xs)
    (ad : Addr) (m cap : Nat) (ys : List Value) (hx : a.eval x = .slice (some ad) m cap) (hl : ys.length = m * sz) (hys : ∀ j u, ys[j]? = some u → w.cell? (ad.add j) = some u) (hone : ∀ u ∈ ys, u.oneCell' = true)
    (hn : n + m ≤ 1000000000) (hbase : base ≤ w.heap.size)
    (h : ∀ va vc w', w'.ownsRow base E sz (.slice va (n + m) vc) (n + m) (xs ++ ys) → w.grownBy w' v.ownBlock → wpList Try.prog ops Q rest (a.put o.dst (.slice va (n + m) vc)) w') :
    wpList Try.prog ops Q (o :: rest) a w := by
  obtain ⟨i, hi, hz0, hz1, hz2⟩ := info_parts R.i
  have hb := R.b
  have hb2 : (n + m) * bytes ≤ 1000000000 * 1000 := Nat.mul_le_mul hn hb
  refine wpList_append_own w hgd s x T ho base E i z sz bytes R.u hi hz0 hz1 hz2 R.z R.p v n xs hs hown ad m cap ys hx hl hys hone (by unfold maxLen; omega) (by omega) hbase ?_
  intro v' w' ho' hg' _
  obtain ⟨va, vc, rfl⟩ := own_shape ho'
  exact h va vc w' ho' hg'
theorem own_empty (w : World) (E : TypeId) (sz : Nat) : (w.alloc (.cells #[] E)).ownsRow w.heap.size E sz (.slice (some ⟨w.heap.size, 0, none⟩) 0 0) 0 [] :=
  ⟨by simp, .inr ⟨w.heap.size, 0, #[], rfl, Nat.le_refl _, heap_alloc_new _ _, Nat.le_refl _, Nat.zero_le _, by simp, by simp⟩⟩
theorem own_bel {B : Nat} {E : TypeId} {k n : Nat} {xs : List Value} {w w1 : World} {v : Value} (ho : w.ownsRow B E k v n xs) (hg : w.grownBy w1 v.ownBlock) (hB : B ≤ w.heap.size) : Below B w w1 :=
  (Below.refl _ _).grown hg hB fun k hk => (World.ownsRow.lt ho k hk).1
set_option maxHeartbeats 1600000 in
theorem cloneN_any (v : Value) (l : List Int) (w : World) (hv : Nums w v l) (hl : l.length ≤ 1000000000) :
    Calls Try.prog 21 #[v] w fun e w' => ∃ va vc, e = .returned (.slice va l.length vc) ∧ w'.ownsRow w.heap.size 3 1 (.slice va l.length vc) l.length (nvs l) ∧ Below w.heap.size w w' := by
  have HV := hid hv
  obtain ⟨ao, n, cap, rfl, rfl, hc, hcap, hnone, hcell⟩ := hv
  clear hcell
  cases ao with
  | none =>
    have h0 : l = [] := List.eq_nil_of_length_eq_zero (by have := hnone rfl; omega)
    subst h0
    clear hnone
    have hnil := Lib.run_eql_slice_nil (P := Try.prog) w 38 3 none 0 cap 0 0 Try.underlyingIs
    go_enter Try.func21, Try.ntmps21
    go_wp2
    go_ret
    exact ⟨none, 0, rfl, World.ownsRow_nil _ _ _ _, Below.refl _ _⟩
  | some a =>
    clear hnone
    have HO := hid (own_empty w 3 1)
    have hba : Below w.heap.size w (w.alloc (.cells #[] 3)) := (Below.refl _ _).alloc (Nat.le_refl _) _
    have HA1 := hid (HV.out.below hba)
    have HC : Hid (∀ j u, (nvs l)[j]? = some u → (w.alloc (.cells #[] 3)).cell? (a.add j) = some u) := hid fun j u hj => by
      obtain ⟨_, _, _, e, _, _, _, _, h5⟩ := HA1.out
      cases e
      have hj' : j < l.length := by
        rcases Nat.lt_or_ge j l.length with h | h
        · exact h
        · simp [nvs, List.getElem?_eq_none h] at hj
      have := h5 a rfl j hj'
      rw [this]
      simpa [nvs, hj'] using hj
    have hnil := Lib.run_eql_slice_nil (P := Try.prog) w 38 3 (some a) l.length cap 0 0 Try.underlyingIs
    go_enter Try.func21, Try.ntmps21
    go_wp2_with (at_builtin; refine wpl_appA rowNm rfl _ _ rfl w.heap.size (.slice (some ⟨w.heap.size, 0, none⟩) 0 0) 0 [] rfl HO.out a l.length cap (nvs l) rfl (by simp [nvs]) HC.out (by intro u hu; simp [nvs] at hu; obtain ⟨s, -, rfl⟩ := hu; rfl) (by omega) (by simp) ?_; intro va1 vc1 w2 ho1 hg1; simp only [Nat.zero_add, List.nil_append] at ho1; have HB2 := hid (hba.trans (own_bel HO.out hg1 (by simp))); have HO1 := hid ho1; clear ho1 hg1)
    go_ret
    exact ⟨va1, vc1, by simp, HO1.out, HB2.out⟩
end Go.Proofs.Ytnkjkaofgninnaa
