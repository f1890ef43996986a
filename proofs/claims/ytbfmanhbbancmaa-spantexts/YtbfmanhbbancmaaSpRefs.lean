/- What the document's Has and Same answer for rows of spans. Condition: the rows lie in memory. -/
import Derived.Test.YtbfmanhbbancmaaSpSets
import Derived.Deep.RegionWith
import Derived.Deep.QuietTactic
import Derived.BigQuiet
namespace Go.Proofs.Ytbfmanhbbancmaa
open Go.RowKit

theorem Sps.lit {w : World} {b o cap : Nat} {l : List Sp} (h : Sps w (.slice (some ⟨b, o, none⟩) l.length cap) l) (j : Nat) (hj : j < l.length) : w.cell? ⟨b, o + j * 2, none⟩ = some (.int .i64 l[j].1) ∧ w.cell? ⟨b, o + j * 2 + 1, none⟩ = some (.int .i64 l[j].2) := by
  obtain ⟨ao, n, cap', e, h1, h2, h3, h4, h5⟩ := h
  cases e
  have := h5 _ rfl j hj
  rw [Addr.add_lit, Addr.add_lit, ← Nat.add_assoc] at this
  exact this
theorem Sps.addr {w : World} {ao : Option Addr} {cap : Nat} {l : List Sp} (h : Sps w (.slice ao l.length cap) l) (hl : 0 < l.length) : ∃ b o, ao = some ⟨b, o, none⟩ := by
  obtain ⟨ao', n, cap', e, h1, h2, h3, h4, h5⟩ := h
  cases e
  cases ao with
  | none => have := h4 rfl; omega
  | some a =>
    have h0 := (h5 a rfl 0 hl).1
    have := World.cell?_spot h0
    obtain ⟨b, o, sp⟩ := a
    simp [Addr.add] at this
    subst this
    exact ⟨b, o, rfl⟩
/-- Whether the row has the block. -/
def hasB (l : List Sp) (k : Int) : Bool := l.any fun x => decide (x.1 ≤ k) && decide (k < x.2)
theorem hasB_iff (l : List Sp) (k : Int) : hasB l k = true ↔ InL l k := by simp [hasB, InL]
theorem hasB_next (l : List Sp) (k : Int) (i : Nat) (h : i < l.length) : hasB (l.take (i + 1)) k = (hasB (l.take i) k || (decide (l[i].1 ≤ k) && decide (k < l[i].2))) := by
  unfold hasB
  rw [List.take_succ_eq_append_getElem h, List.any_append]
  simp only [List.any_cons, List.any_nil, Bool.or_false]
theorem hasB_at (l : List Sp) (k : Int) (i : Nat) (h : i < l.length) (h1 : l[i].1 ≤ k) (h2 : k < l[i].2) : hasB l k = true := (hasB_iff l k).2 ⟨l[i], List.getElem_mem h, h1, h2⟩
theorem below_drewN {B : Nat} {w w' : World} (h : Below B w w') (q : Nat) : Below B w (w'.drewN q) := ⟨h.os, h.tape, h.output, h.size, h.block⟩
theorem take_eq_next {a b : List Sp} (i : Nat) (ha : i < a.length) (hb : i < b.length) (h : a.take i = b.take i) (he : a[i] = b[i]) : a.take (i + 1) = b.take (i + 1) := by
  rw [List.take_succ_eq_append_getElem ha, List.take_succ_eq_append_getElem hb, h, he]
set_option maxHeartbeats 1600000 in
theorem rsame_any (u v : Value) (a b : List Sp) (w : World) (hu : Sps w u a) (hv : Sps w v b) (hl : a.length ≤ 1000000000) :
    Calls Try.prog 26 #[u, v] w fun e w' => e = .returned (.bool (decide (a = b))) ∧ Below w.heap.size w w' := by
  have HU := hid hu
  have HV := hid hv
  obtain ⟨ao, acap, rfl⟩ := hu.shape
  obtain ⟨bo, bcap, rfl⟩ := hv.shape
  clear hu hv
  have hlI : (a.length : Int) ≤ 1000000000 := by omega
  obtain ⟨r, hr⟩ : ∃ r, r = decide (a = b) := ⟨_, rfl⟩
  rw [← hr]
  have HR := hid hr
  clear hr
  go_enter Try.func26, Try.ntmps26
  by_cases hn : a.length = b.length
  · have hnI : ((a.length : Int) != (b.length : Int)) = false := by simp; omega
    have HN := hid hn
    clear hn
    go_wp2_with fail
    go_loopw [5, 13] (fun _ iv wr => ∃ i : Nat, iv = .int .i64 i ∧ i ≤ a.length ∧ a.take i = b.take i ∧ Below w.heap.size w wr) (fun _ iv _ => a.length - (intOf iv).toNat)
    case atStart => exact ⟨0, rfl, Nat.zero_le _, by simp, Below.refl _ _⟩
    case round =>
      obtain ⟨i, rfl, hi, hh, hb⟩ := hrel
      have HH := hid hh
      have HB := hid hb
      have HUR := hid (HU.out.below hb)
      have HVR := hid (HV.out.below hb)
      clear hh hb
      by_cases hlt : i < a.length
      · have hlt' : i < b.length := by have := HN.out; omega
        obtain ⟨g, o, rfl⟩ := HUR.out.addr (by omega)
        obtain ⟨g', o', rfl⟩ := HVR.out.addr (by omega)
        obtain ⟨c0, c1⟩ := HUR.out.lit i hlt
        obtain ⟨d0, d1⟩ := HVR.out.lit i (by omega)
        obtain ⟨x, hx⟩ : ∃ x, x = a[i] := ⟨_, rfl⟩
        obtain ⟨y, hy⟩ : ∃ y, y = b[i]'(by omega) := ⟨_, rfl⟩
        rw [← hx] at c0 c1
        rw [← hy] at d0 d1
        have HX := hid hx
        have HY := hid hy
        clear hx hy
        obtain ⟨p, q⟩ := x
        obtain ⟨s, t⟩ := y
        by_cases h : p = s ∧ q = t
        · obtain ⟨rfl, rfl⟩ := h
          have HE : Hid (a.take (i + 1) = b.take (i + 1)) := hid (take_eq_next i hlt (by omega) HH.out (by rw [← HX.out, ← HY.out]))
          go_wp2_with fail
          go_quiet (fail)
          go_wp2
          go_roundw
          case rel => exact ⟨i + 1, by go_num, by omega, HE.out, below_drewN HB.out _⟩
          case measure => simp [intOf]; omega
        · have HT : Hid (r = false) := hid (by
            rw [HR.out]
            simp
            intro e
            subst e
            have := HX.out.trans HY.out.symm
            cases this
            exact h ⟨rfl, rfl⟩)
          clear HX HY
          by_cases hp : p = s
          · subst hp
            have hne : (q == t) = false := by simp; exact fun e => h ⟨rfl, e⟩
            have hne' : (q != t) = true := by simp; exact fun e => h ⟨rfl, e⟩
            clear h
            go_wp2_with fail
            go_quiet (fail)
            go_wp2
            go_ret
            exact ⟨by rw [HT.out]; rfl, below_drewN HB.out _⟩
          · have hne : (p == s) = false := by simpa using hp
            clear h
            go_wp2_with fail
            go_quiet (fail)
            go_wp2
            go_ret
            exact ⟨by rw [HT.out]; rfl, below_drewN HB.out _⟩
      · have HT : Hid (r = true) := hid (by
          have := HH.out
          rw [List.take_of_length_le (by omega), List.take_of_length_le (by have := HN.out; omega)] at this
          rw [HR.out]; simpa using this)
        go_wp2
        go_ret
        exact ⟨by rw [HT.out]; rfl, HB.out⟩
  · have hnI : ((a.length : Int) != (b.length : Int)) = true := by simp; omega
    have HT : Hid (r = false) := hid (by rw [HR.out]; simp; intro e; exact hn (by rw [e]))
    go_wp2
    go_ret
    exact ⟨by rw [HT.out]; rfl, Below.refl _ _⟩
end Go.Proofs.Ytbfmanhbbancmaa
