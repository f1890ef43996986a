/- Small things of the rules: are two shards cold; two rows of numbers, are they the same; the first node of a kind. Conditions: rows lie in memory. -/
import Derived.Test.YtkggeiljalfcpaaWdMay
import Derived.Deep.Cut
import Derived.Deep.CutBlock
namespace Go.Proofs.Ytkggeiljalfcpaa
open Go.RowKit
set_option linter.unusedVariables false
set_option linter.unusedSimpArgs false

/-- Are two shards cold? -/
def coldB (a b c : Int) : Bool := if a < b then decide (b ≤ 0) || decide (a ≤ IntKind.i64.wrap (c - b)) else decide (a ≤ 0) || decide (b ≤ IntKind.i64.wrap (c - a))
set_option maxHeartbeats 1000000 in
theorem cold_any (a b c : Int) (w : World) : Calls Try.prog 50 #[.int .i64 a, .int .i64 b, .int .i64 c] w fun e w' => e = .returned (.bool (coldB a b c)) ∧ w' = w := by
  rcases Int.lt_trichotomy a b with h | h | h
  · have h1 : ¬ b < a := by omega
    have h2 : ¬ b ≤ a := by omega
    obtain ⟨q, hq⟩ : ∃ q, q = IntKind.i64.wrap (c - b) := ⟨_, rfl⟩
    have HC : Hid (coldB a b c = (decide (b ≤ 0) || decide (a ≤ q))) := hid (by unfold coldB; rw [if_pos h, hq])
    have hw : IntKind.i64.wrap (c - b) = q := hq.symm
    clear hq
    by_cases h0 : b ≤ 0
    · have HX : Hid (coldB a b c = true) := hid (by rw [HC.out, decide_eq_true h0]; rfl)
      go_enter Try.func50, Try.ntmps50
      go_wp2_with fail
      go_ret
      exact ⟨by rw [HX.out]; rfl, rfl⟩
    · by_cases h3 : a ≤ q
      · have HX : Hid (coldB a b c = true) := hid (by rw [HC.out, decide_eq_false h0, decide_eq_true h3]; rfl)
        go_enter Try.func50, Try.ntmps50
        go_wp2_with fail
        go_ret
        exact ⟨by rw [HX.out]; rfl, rfl⟩
      · have HX : Hid (coldB a b c = false) := hid (by rw [HC.out, decide_eq_false h0, decide_eq_false h3]; rfl)
        have h4 : q < a := by omega
        go_enter Try.func50, Try.ntmps50
        go_wp2_with fail
        go_ret
        exact ⟨by rw [HX.out]; rfl, rfl⟩
  · subst h
    obtain ⟨q, hq⟩ : ∃ q, q = IntKind.i64.wrap (c - a) := ⟨_, rfl⟩
    have HC : Hid (coldB a a c = (decide (a ≤ 0) || decide (a ≤ q))) := hid (by unfold coldB; rw [if_neg (by omega), hq])
    have hw : IntKind.i64.wrap (c - a) = q := hq.symm
    clear hq
    by_cases h0 : a ≤ 0
    · have HX : Hid (coldB a a c = true) := hid (by rw [HC.out, decide_eq_true h0]; rfl)
      go_enter Try.func50, Try.ntmps50
      go_wp2_with fail
      go_ret
      exact ⟨by rw [HX.out]; rfl, rfl⟩
    · by_cases h3 : a ≤ q
      · have HX : Hid (coldB a a c = true) := hid (by rw [HC.out, decide_eq_false h0, decide_eq_true h3]; rfl)
        go_enter Try.func50, Try.ntmps50
        go_wp2_with fail
        go_ret
        exact ⟨by rw [HX.out]; rfl, rfl⟩
      · have HX : Hid (coldB a a c = false) := hid (by rw [HC.out, decide_eq_false h0, decide_eq_false h3]; rfl)
        have h4 : q < a := by omega
        go_enter Try.func50, Try.ntmps50
        go_wp2_with fail
        go_ret
        exact ⟨by rw [HX.out]; rfl, rfl⟩
  · have h1 : ¬ a < b := by omega
    have h2 : ¬ a ≤ b := by omega
    obtain ⟨q, hq⟩ : ∃ q, q = IntKind.i64.wrap (c - a) := ⟨_, rfl⟩
    have HC : Hid (coldB a b c = (decide (a ≤ 0) || decide (b ≤ q))) := hid (by unfold coldB; rw [if_neg (by omega), hq])
    have hw : IntKind.i64.wrap (c - a) = q := hq.symm
    clear hq
    by_cases h0 : a ≤ 0
    · have HX : Hid (coldB a b c = true) := hid (by rw [HC.out, decide_eq_true h0]; rfl)
      go_enter Try.func50, Try.ntmps50
      go_wp2_with fail
      go_ret
      exact ⟨by rw [HX.out]; rfl, rfl⟩
    · by_cases h3 : b ≤ q
      · have HX : Hid (coldB a b c = true) := hid (by rw [HC.out, decide_eq_false h0, decide_eq_true h3]; rfl)
        go_enter Try.func50, Try.ntmps50
        go_wp2_with fail
        go_ret
        exact ⟨by rw [HX.out]; rfl, rfl⟩
      · have HX : Hid (coldB a b c = false) := hid (by rw [HC.out, decide_eq_false h0, decide_eq_false h3]; rfl)
        have h4 : q < b := by omega
        go_enter Try.func50, Try.ntmps50
        go_wp2_with fail
        go_ret
        exact ⟨by rw [HX.out]; rfl, rfl⟩
theorem drewN_two (w : World) (a b : Nat) : ∃ c, (w.drewN a).drewN b = w.drewN c := ⟨a + b, by simp [World.drewN, Nat.add_assoc]⟩
/-- Are two rows of numbers the same? -/
def eqN (k l : List Int) : Bool := decide (k = l)
/-- That is answered, and only draws have been made. -/
def EqP (k l : List Int) (w : World) (e : Ending) (w' : World) : Prop := e = .returned (.bool (eqN k l)) ∧ ∃ m, w' = w.drewN m
set_option maxRecDepth 100000 in
set_option maxHeartbeats 4000000 in
theorem equalN_any (k l : List Int) (u v : Value) (w : World) (hu : Nums w u k) (hv : Nums w v l) :
    Calls Try.prog 49 #[u, v] w (EqP k l w) := by
  have HU := hid hu
  have HV := hid hv
  have hL := hv.len
  have hK := hu.len
  obtain ⟨ua, uc, rfl⟩ := hu.shape
  obtain ⟨va, vc, rfl⟩ := hv.shape
  clear hu hv
  by_cases hlen : k.length = l.length
  · have hl2 : ((k.length : Int) != (l.length : Int)) = false := by rw [hlen]; simp
    have HKL := hid hlen
    obtain ⟨kn, hkn⟩ : ∃ kn, kn = k.length := ⟨_, rfl⟩
    clear hlen
    go_enter Try.func49, Try.ntmps49
    go_wp2_with fail
    go_loopw [5, 13] (fun _ iv wr => ∃ i : Nat, iv = .int .i64 i ∧ i ≤ k.length ∧ (∀ j (h1 : j < k.length) (h2 : j < l.length), j < i → k[j] = l[j]) ∧ ∃ m, wr = w.drewN m) (fun _ iv _ => k.length - (intOf iv).toNat)
    case atStart => exact ⟨0, rfl, Nat.zero_le _, (fun j _ _ hj => by omega), 0, by rfl⟩
    case round =>
      obtain ⟨i, rfl, hi, hall, m, rfl⟩ := hrel
      have HALL := hid hall
      clear hall
      by_cases hlt : (i : Int) < (k.length : Int)
      · have hil : i < k.length := by omega
        have hjl : i < l.length := by have := HKL.out; omega
        have hlt2 : (i : Int) < (l.length : Int) := by omega
        obtain ⟨gd, od, rfl⟩ := HU.out.addr (by omega)
        obtain ⟨gv, ov, rfl⟩ := HV.out.addr (by omega)
        have c0 := HU.out.lit i hil
        have c1 := HV.out.lit i hjl
        have HNE : Hid (¬ k[i] = l[i] → eqN k l = false) := hid fun h => by
          unfold eqN
          refine decide_eq_false fun e => ?_
          subst e; exact h rfl
        have HEQ : Hid (k[i] = l[i] → ∀ j (h1 : j < k.length) (h2 : j < l.length), j < i + 1 → k[j] = l[j]) := hid fun h j h1 h2 hj => by
          rcases Nat.lt_or_ge j i with h3 | h3
          · exact HALL.out j h1 h2 h3
          · have e : j = i := by omega
            simp only [e]; exact h
        generalize k[i] = x at c0 HNE HEQ
        generalize l[i] = y at c1 HNE HEQ
        by_cases hxy : x = y
        · have HOK := hid (HEQ.out hxy)
          clear HEQ HNE
          subst hxy
          go_upto_region 6 with fail
          go_quiet (fail)
          go_wp2_with fail
          go_roundw
          case rel => exact ⟨i + 1, by go_num, by omega, HOK.out, _, rfl⟩
          case measure => simp [intOf]; omega
        · have hne : (x != y) = true := by simpa using hxy
          have HNO := hid (HNE.out hxy)
          clear hxy HEQ HNE
          go_upto_region 6 with fail
          go_quiet (fail)
          go_wp2_with fail
          go_ret
          exact ⟨by rw [HNO.out]; rfl, drewN_two _ _ _⟩
      · have HY : Hid (eqN k l = true) := hid (by
          unfold eqN
          exact decide_eq_true (List.ext_getElem HKL.out fun j h1 h2 => HALL.out j h1 h2 (by omega)))
        go_wp2_with fail
        go_ret
        exact ⟨by rw [HY.out]; rfl, _, rfl⟩
  · have hl2 : ((k.length : Int) != (l.length : Int)) = true := by
      simp; omega
    have HNO : Hid (eqN k l = false) := hid (decide_eq_false fun e => hlen (by rw [e]))
    clear hlen
    go_enter Try.func49, Try.ntmps49
    go_wp2_with fail
    go_ret
    exact ⟨by rw [HNO.out]; rfl, 0, rfl⟩
def EntF (F : FuncId) : Prop := ∀ (args : Array Value) (w : World), (callFunc F args).run Try.prog w = .ok (.enter F args) w
/-- A node, or none, is told. -/
def FnP (p : Nat → Bool) (w : World) (e : Ending) (w' : World) : Prop := (∃ (n : Nat) (ok : Bool), e = .returned (.tuple #[.int .i64 n, .bool ok]) ∧ n < 7 ∧ (ok = true → p n = true)) ∧ Below w.heap.size w w'
set_option maxRecDepth 100000 in
set_option maxHeartbeats 2000000 in
theorem firstNode_any (F : FuncId) (caps : Array Value) (p : Nat → Bool) (w : World) (hef : EntF F)
    (hf : ∀ W, Below w.heap.size w W → ∀ n : Nat, n < 7 → Calls Try.prog F (#[.int .i64 n] ++ caps) W fun e w' => e = .returned (.bool (p n)) ∧ Below W.heap.size W w') :
    Calls Try.prog 46 #[.func (.func F) #[] caps] w (FnP p w) := by
  have HF := hid hf
  have hef' : ∀ (args : Array Value) (w : World), (callFunc F args).run Try.prog w = .ok (.enter F args) w := hef
  clear hf hef
  go_enter Try.func46, Try.ntmps46
  go_wp2_with fail
  go_loopw [4, 5] (fun _ iv wr => ∃ i : Nat, iv = .int .i64 i ∧ i ≤ 7 ∧ Below w.heap.size w wr) (fun _ iv _ => 7 - (intOf iv).toNat)
  case atStart => exact ⟨0, rfl, by omega, Below.refl _ _⟩
  case round =>
    obtain ⟨i, rfl, hi, hb⟩ := hrel
    have B := hid hb
    clear hb
    by_cases hlt : (i : Int) < 7
    · have hil : i < 7 := by omega
      have HC := hid (HF.out wr B.out i hil)
      obtain ⟨t, ht⟩ : ∃ t, t = p i := ⟨_, rfl⟩
      rw [← ht] at HC
      cases t with
      | true =>
        have HT := hid ht
        clear ht
        go_wp2_with fail
        refine HC.out.mono ?_
        rintro e w2 ⟨rfl, hb2⟩
        have B2 := hid (B.out.trans (hb2.mono B.out.size))
        clear hb2
        go_wp2_with fail
        go_ret2
        exact ⟨⟨i, true, rfl, hil, fun _ => HT.out.symm⟩, B2.out⟩
      | false =>
        clear ht
        go_wp2_with fail
        refine HC.out.mono ?_
        rintro e w2 ⟨rfl, hb2⟩
        have B2 := hid (B.out.trans (hb2.mono B.out.size))
        clear hb2
        go_wp2_with fail
        go_roundw
        case rel => exact ⟨i + 1, by go_num, by omega, B2.out⟩
        case measure => simp [intOf]; omega
    · go_wp2_with fail
      go_ret2
      exact ⟨⟨0, false, rfl, by omega, fun h => by cases h⟩, B.out⟩
end Go.Proofs.Ytkggeiljalfcpaa
