/- What Has and Add of the document answer for rows of Refs. Conditions: the row lies in memory; for Add it rises, and is not too long. -/
import Derived.Test.YtadjeefigjdkiabInRMayI
import Derived.Test.YtadjeefigjdkiabInConcat
import Derived.Test.YtadjeefigjdkiabInOrdL
namespace Go.Proofs.Ytadjeefigjdkiab
open Go.RowKit
set_option linter.unusedVariables false
set_option linter.unusedSimpArgs false

def hasR (l : List (Int × Int)) (r : Int × Int) : Bool := l.any (fun x => x == r)
theorem hasR_iff {l : List (Int × Int)} {r : Int × Int} : hasR l r = true ↔ r ∈ l := by
  unfold hasR
  rw [List.any_eq_true]
  constructor
  · rintro ⟨x, hx, he⟩
    rw [show r = x by simpa using (show x = r by simpa using he).symm]; exact hx
  · intro h; exact ⟨r, h, by simp⟩
set_option maxRecDepth 100000 in
set_option maxHeartbeats 4000000 in
theorem rhas_any (v : Value) (l : List (Int × Int)) (r : Int × Int) (w : World) (hv : Rfs w v l) :
    Calls Try.prog 16 #[v, .agg #[.int .i64 r.1, .int .i64 r.2]] w fun e w' => e = .returned (.bool (hasR l r)) ∧ Below w.heap.size w w' := by
  have hL := hv.len
  have HV0 := hid hv
  obtain ⟨va, vc, rfl⟩ := hv.shape
  clear hv
  obtain ⟨r0, r1⟩ := r
  have HR : Hid (∀ j (h : j < l.length), l[j] = (r0, r1) → hasR l (r0, r1) = true) := hid fun j h e => hasR_iff.2 (e ▸ List.getElem_mem h)
  have HRN : Hid ((∀ j (h : j < l.length), l[j] ≠ (r0, r1)) → hasR l (r0, r1) = false) := hid fun h => by
    rw [Bool.eq_false_iff]
    intro h1
    obtain ⟨j, hj, e⟩ := List.getElem_of_mem (hasR_iff.1 h1)
    exact h j hj e
  generalize hasR l (r0, r1) = res at *
  simp only
  obtain ⟨w1, hw1⟩ : ∃ w1, w1 = w.alloc (.cells #[.int .i64 r0, .int .i64 r1] 27) := ⟨_, rfl⟩
  have b1 : Below w.heap.size w w1 := by rw [hw1]; exact (Below.refl _ _).alloc (Nat.le_refl _) _
  have hA : w1.heap[w.heap.size]? = some (.cells #[.int .i64 r0, .int .i64 r1] 27 (0, 0)) := by rw [hw1]; exact heap_alloc_new _ _
  have HW1 := hid hw1
  have B1 := hid b1
  have HA := hid hA
  have HV := hid (HV0.out.below b1)
  clear hw1 b1 hA HV0
  go_enter Try.func16, Try.ntmps16
  go_upto_region 1 with fail
  rw [← HW1.out]
  obtain ⟨A, hAe⟩ : ∃ A, A = w.heap.size := ⟨_, rfl⟩
  rw [← hAe] at HA
  rw [← hAe]
  clear hAe HW1
  go_wp2_with fail
  go_loopw [6, 9] (fun _ iv wr => ∃ i : Nat, iv = .int .i64 i ∧ i ≤ l.length ∧ (∀ j (h : j < l.length), j < i → l[j] ≠ (r0, r1)) ∧ Below w1.heap.size w1 wr) (fun _ iv _ => l.length - (intOf iv).toNat)
  case atStart => exact ⟨0, rfl, Nat.zero_le _, (fun j _ hj => by omega), Below.refl _ _⟩
  case round =>
    obtain ⟨i, rfl, hi, hall, hbr⟩ := hrel
    have HALL := hid hall
    have BR := hid hbr
    have HAr := hid ((hbr.block A (lt_of_block HA.out)).trans HA.out)
    have HVr := hid (HV.out.below hbr)
    clear hall hbr
    by_cases hlt : (i : Int) < (l.length : Int)
    · have hil : i < l.length := by omega
      obtain ⟨gd, od, rfl⟩ := HVr.out.addr (by omega)
      obtain ⟨c0, c1⟩ := HVr.out.lit i hil
      have HY := hid (HR.out i hil)
      have HNX : Hid (l[i] ≠ (r0, r1) → ∀ j (h : j < l.length), j < i + 1 → l[j] ≠ (r0, r1)) := hid fun h j hj h1 => by
        rcases Nat.lt_or_ge j i with h2 | h2
        · exact HALL.out j hj h2
        · have e : j = i := by omega
          simp only [e]; exact h
      generalize l[i] = y at c0 c1 HY HNX
      obtain ⟨y0, y1⟩ := y
      simp only at c0 c1
      obtain ⟨wb, hwb⟩ : ∃ wb, wb = wr.alloc (.cells #[.int .i64 y0, .int .i64 y1] 27) := ⟨_, rfl⟩
      have bb : Below wr.heap.size wr wb := by rw [hwb]; exact (Below.refl _ _).alloc (Nat.le_refl _) _
      have hYb : wb.heap[wr.heap.size]? = some (.cells #[.int .i64 y0, .int .i64 y1] 27 (0, 0)) := by rw [hwb]; exact heap_alloc_new _ _
      have hAb := (bb.block A (lt_of_block HAr.out)).trans HAr.out
      have HWB := hid hwb
      have BB := hid (BR.out.trans (bb.mono BR.out.size))
      clear hwb bb
      go_upto_region 4 with fail
      rw [← HWB.out]
      obtain ⟨Y, hYe⟩ : ∃ Y, Y = wr.heap.size := ⟨_, rfl⟩
      rw [← hYe] at hYb
      rw [← hYe]
      clear HWB hYe c0 c1
      have k0 : wb.cell? ⟨A, 0, none⟩ = some (.int .i64 r0) := by rw [cell_of_row _ _ _ _ _ _ hAb]; rfl
      have k1 : wb.cell? ⟨A, 1, none⟩ = some (.int .i64 r1) := by rw [cell_of_row _ _ _ _ _ _ hAb]; rfl
      have k2 : wb.cell? ⟨Y, 0, none⟩ = some (.int .i64 y0) := by rw [cell_of_row _ _ _ _ _ _ hYb]; rfl
      have k3 : wb.cell? ⟨Y, 1, none⟩ = some (.int .i64 y1) := by rw [cell_of_row _ _ _ _ _ _ hYb]; rfl
      clear hAb hYb
      by_cases hxy : (y0, y1) = (r0, r1)
      · have HT := hid (HY.out hxy)
        obtain ⟨rfl, rfl⟩ := Prod.mk.inj hxy
        clear hxy HY HNX
        go_wp2_with fail
        go_ret
        exact ⟨by rw [HT.out]; rfl, B1.out.trans (BB.out.mono B1.out.size)⟩
      · have HOK := hid (HNX.out hxy)
        clear HY HNX
        rcases pair_no hxy with hn0 | ⟨rfl, hn2⟩
        · clear hxy
          go_wp2_with fail
          go_roundw
          case rel => exact ⟨i + 1, by go_num, by omega, HOK.out, BB.out⟩
          case measure => simp [intOf]; omega
        · clear hxy
          go_wp2_with fail
          go_roundw
          case rel => exact ⟨i + 1, by go_num, by omega, HOK.out, BB.out⟩
          case measure => simp [intOf]; omega
    · obtain rfl : i = l.length := by omega
      have HF := hid (HRN.out fun j hj => HALL.out j hj hj)
      go_wp2_with fail
      go_ret
      exact ⟨by rw [HF.out]; rfl, B1.out.trans (BR.out.mono B1.out.size)⟩
theorem rise_snoc {l : List (Int × Int)} {y : Int × Int} (h : RiseR l) (hy : ∀ x ∈ l, refLt x y = true) : RiseR (l ++ [y]) :=
  List.pairwise_append.2 ⟨h, List.pairwise_singleton _ _, fun a ha b hb => by rw [List.mem_singleton.1 hb]; exact hy a ha⟩
/-- Add's loop, i Refs on. -/
structure AdI (l : List (Int × Int)) (r : Int × Int) (i : Nat) (out : List (Int × Int)) (laid : Bool) : Prop where
  rise : RiseR out
  mem : ∀ x, x ∈ out ↔ x ∈ l.take i ∨ laid = true ∧ x = r
  yes : laid = true → ∃ x ∈ l.take i, refLt r x = true
  no : laid = false → ∀ x ∈ l.take i, refLt r x = false
  len : out.length ≤ i + 1
  len0 : laid = false → out.length ≤ i
theorem AdI.start (l : List (Int × Int)) (r : Int × Int) : AdI l r 0 [] false := ⟨List.Pairwise.nil, by simp, by simp, by simp, by simp, by simp⟩
theorem take_lt {l : List (Int × Int)} (h : RiseR l) {i : Nat} (hi : i < l.length) {x : Int × Int} (hx : x ∈ l.take i) : refLt x l[i] = true := by
  obtain ⟨j, hj, rfl⟩ := List.getElem_of_mem hx
  rw [List.getElem_take]
  have hj' : j < i := by simp at hj; omega
  exact (List.pairwise_iff_getElem.1 h) j i (by omega) hi hj'
theorem AdI.next {l : List (Int × Int)} {r : Int × Int} {i : Nat} {out : List (Int × Int)} {laid : Bool} (h : AdI l r i out laid) (hl : RiseR l) (hi : i < l.length) (hn : laid = false → refLt r l[i] = false) : AdI l r (i + 1) (out ++ [l[i]]) laid := by
  have ht : l.take (i + 1) = l.take i ++ [l[i]] := List.take_succ_eq_append_getElem hi
  refine ⟨rise_snoc h.rise ?_, ?_, ?_, ?_, ?_, ?_⟩
  · intro x hx
    rcases (h.mem x).1 hx with hx | ⟨hl2, rfl⟩
    · exact take_lt hl hi hx
    · obtain ⟨z, hz, hrz⟩ := h.yes hl2
      exact refLt_trans hrz (take_lt hl hi hz)
  · intro x
    rw [ht]
    simp only [List.mem_append, List.mem_singleton, h.mem]
    constructor
    · rintro ((h | h) | h)
      · exact .inl (.inl h)
      · exact .inr h
      · exact .inl (.inr h)
    · rintro ((h | h) | h)
      · exact .inl (.inl h)
      · exact .inr h
      · exact .inl (.inr h)
  · intro hl2
    obtain ⟨z, hz, hrz⟩ := h.yes hl2
    exact ⟨z, by rw [ht]; exact List.mem_append_left _ hz, hrz⟩
  · intro hl2 x hx
    rw [ht] at hx
    rcases List.mem_append.1 hx with hx | hx
    · exact h.no hl2 x hx
    · rw [List.mem_singleton.1 hx]; exact hn hl2
  · have := h.len; simp; omega
  · intro hl2; have := h.len0 hl2; simp; omega
theorem AdI.lay {l : List (Int × Int)} {r : Int × Int} {i : Nat} {out : List (Int × Int)} (h : AdI l r i out false) (hl : RiseR l) (hi : i < l.length) (hr : r ∉ l) (hn : refLt r l[i] = true) : AdI l r (i + 1) (out ++ [r] ++ [l[i]]) true := by
  have ht : l.take (i + 1) = l.take i ++ [l[i]] := List.take_succ_eq_append_getElem hi
  have hlo : ∀ x ∈ out, x ∈ l.take i := fun x hx => by
    rcases (h.mem x).1 hx with hx | ⟨hl2, -⟩
    · exact hx
    · cases hl2
  have hor : ∀ x ∈ out, refLt x r = true := fun x hx => by
    have h1 := h.no rfl x (hlo x hx)
    have h2 : x ≠ r := fun e => hr (e ▸ List.mem_of_mem_take (hlo x hx))
    rcases refLt_total h2 with h3 | h3
    · exact h3
    · rw [h1] at h3; cases h3
  refine ⟨rise_snoc (rise_snoc h.rise hor) ?_, ?_, ?_, by simp, ?_, by simp⟩
  · intro x hx
    rcases List.mem_append.1 hx with hx | hx
    · exact take_lt hl hi (hlo x hx)
    · rw [List.mem_singleton.1 hx]; exact hn
  · intro x
    rw [ht]
    simp only [List.mem_append, List.mem_singleton, h.mem]
    constructor
    · rintro (((h | h) | h) | h)
      · exact .inl (.inl h)
      · cases h.1
      · exact .inr ⟨trivial, h⟩
      · exact .inl (.inr h)
    · rintro ((h | h) | h)
      · exact .inl (.inl (.inl h))
      · exact .inr h
      · exact .inl (.inr h.2)
  · intro _
    exact ⟨l[i], by rw [ht]; exact List.mem_append_right _ (List.mem_singleton.2 rfl), hn⟩
  · have := h.len0 rfl; simp; omega
theorem AdI.all {l : List (Int × Int)} {r : Int × Int} {out : List (Int × Int)} {laid : Bool} (h : AdI l r l.length out laid) (hr : r ∉ l) : RiseR (if laid = true then out else out ++ [r]) ∧ ∀ x, x ∈ (if laid = true then out else out ++ [r]) ↔ x ∈ l ∨ x = r := by
  have hm := h.mem
  rw [List.take_length] at hm
  cases laid with
  | true =>
    refine ⟨h.rise, fun x => ?_⟩
    rw [if_pos rfl, hm]
    simp
  | false =>
    rw [if_neg (by simp)]
    refine ⟨rise_snoc h.rise ?_, fun x => ?_⟩
    · intro x hx
      have hx := (hm x).1 hx
      simp at hx
      have h1 := h.no rfl x (by rw [List.take_length]; exact hx)
      have h2 : x ≠ r := fun e => hr (e ▸ hx)
      rcases refLt_total h2 with h3 | h3
      · exact h3
      · rw [h1] at h3; cases h3
    · simp only [List.mem_append, hm, List.mem_singleton]
      simp
/-- What Add leaves. -/
def AddP (l : List (Int × Int)) (r : Int × Int) (w : World) (e : Ending) (w' : World) : Prop := ∃ m va vc, e = .returned (.slice va m.length vc) ∧ Rfs w' (.slice va m.length vc) m ∧ RiseR m ∧ (∀ x, x ∈ m ↔ x ∈ l ∨ x = r) ∧ m.length ≤ l.length + 1 ∧ Below w.heap.size w w'
set_option maxRecDepth 100000 in
set_option maxHeartbeats 8000000 in
theorem radd_any (v : Value) (l : List (Int × Int)) (r : Int × Int) (w : World) (hv : Rfs w v l) (hl : RiseR l) (hlen : l.length ≤ 1000) :
    Calls Try.prog 23 #[v, .agg #[.int .i64 r.1, .int .i64 r.2]] w (AddP l r w) := by
  have HV0 := hid hv
  have HLR := hid hl
  have HHS := hid (fun W h => rhas_any v l r W h)
  obtain ⟨va, vc, rfl⟩ := hv.shape
  clear hv hl
  have HHI : Hid (hasR l r = true ↔ r ∈ l) := hid hasR_iff
  have HLS := hid (fun y W => r6less_any r y W)
  obtain ⟨r0, r1⟩ := r
  simp only at HHS HLS ⊢
  obtain ⟨w1, hw1⟩ : ∃ w1, w1 = w.alloc (.cells #[.int .i64 r0, .int .i64 r1] 27) := ⟨_, rfl⟩
  have b1 : Below w.heap.size w w1 := by rw [hw1]; exact (Below.refl _ _).alloc (Nat.le_refl _) _
  have hA : w1.heap[w.heap.size]? = some (.cells #[.int .i64 r0, .int .i64 r1] 27 (0, 0)) := by rw [hw1]; exact heap_alloc_new _ _
  have HW1 := hid hw1
  have B1 := hid b1
  clear hw1 b1
  go_enter Try.func23, Try.ntmps23
  go_upto_region 1 with fail
  rw [← HW1.out]
  obtain ⟨A, hAe⟩ : ∃ A, A = w.heap.size := ⟨_, rfl⟩
  rw [← hAe] at hA
  rw [← hAe]
  clear hAe HW1
  have k0 : w1.cell? ⟨A, 0, none⟩ = some (.int .i64 r0) := by rw [cell_of_row _ _ _ _ _ _ hA]; rfl
  have k1 : w1.cell? ⟨A, 1, none⟩ = some (.int .i64 r1) := by rw [cell_of_row _ _ _ _ _ _ hA]; rfl
  have HA1 := hid hA
  clear hA
  go_wp2_with fail
  refine (HHS.out w1 (HV0.out.below B1.out)).mono ?_
  rintro e w2 ⟨rfl, hb2⟩
  have B2 := hid (B1.out.trans (hb2.mono B1.out.size))
  have HA2 := hid ((hb2.block A (lt_of_block HA1.out)).trans HA1.out)
  have HV := hid (HV0.out.below B2.out)
  have HBW := hid B2.out.size
  clear hb2 k0 k1 HA1 HV0 HHS B1
  cases hh : hasR l (r0, r1) with
  | true =>
    have HMR := hid (HHI.out.1 hh)
    clear hh
    go_wp2_with fail
    go_ret
    exact ⟨l, va, vc, rfl, HV.out, HLR.out, fun x => ⟨.inl, fun h => h.elim id (fun e => e ▸ HMR.out)⟩, by omega, B2.out⟩
  | false =>
    have HMR : Hid ((r0, r1) ∉ l) := hid fun h => by have := HHI.out.2 h; rw [hh] at this; cases this
    clear hh HHI
    go_wp2_with fail
    go_loopw [5, 6, 8, 15] (fun ov fv _ iv wr => ∃ (i : Nat) (out : List (Int × Int)) (laid : Bool) (oa : Option Addr) (oc : Nat), iv = .int .i64 i ∧ i ≤ l.length ∧ fv = .bool laid ∧ ov = .slice oa out.length oc ∧ AdI l (r0, r1) i out laid ∧ wr.ownsRow w2.heap.size 27 2 (.slice oa out.length oc) out.length (rvs out) ∧ Below w2.heap.size w2 wr) (fun _ _ _ iv _ => l.length - (intOf iv).toNat)
    case atStart => exact ⟨0, [], false, none, 0, rfl, Nat.zero_le _, rfl, rfl, AdI.start _ _, World.ownsRow_nil _ _ _ _, Below.refl _ _⟩
    case round =>
      obtain ⟨i, out, laid, oa, oc, rfl, hi, rfl, rfl, had, hown, hbr⟩ := hrel
      have HAD := hid had
      have HOr := hid hown
      have BR := hid hbr
      have HAr := hid ((hbr.block A (lt_of_block HA2.out)).trans HA2.out)
      have HVr := hid (HV.out.below hbr)
      have hol := had.len
      clear had hown hbr
      by_cases hlt : (i : Int) < (l.length : Int)
      · have hil : i < l.length := by omega
        obtain ⟨gd, od, rfl⟩ := HVr.out.addr (by omega)
        obtain ⟨c0, c1⟩ := HVr.out.lit i hil
        have HNX := hid (fun h => HAD.out.next HLR.out hil h)
        have HLY : Hid (laid = false → refLt (r0, r1) l[i] = true → AdI l (r0, r1) (i + 1) (out ++ [(r0, r1)] ++ [l[i]]) true) := hid fun h1 h2 => by subst h1; exact HAD.out.lay HLR.out hil HMR.out h2
        generalize l[i] = y at c0 c1 HNX HLY
        have HLSy := hid (fun W => HLS.out y W)
        obtain ⟨z0, z1⟩ := y
        simp only at c0 c1 HLSy
        obtain ⟨wb, hwb⟩ : ∃ wb, wb = wr.alloc (.cells #[.int .i64 z0, .int .i64 z1] 27) := ⟨_, rfl⟩
        have bb : Below wr.heap.size wr wb := by rw [hwb]; exact (Below.refl _ _).alloc (Nat.le_refl _) _
        have hYb : wb.heap[wr.heap.size]? = some (.cells #[.int .i64 z0, .int .i64 z1] 27 (0, 0)) := by rw [hwb]; exact heap_alloc_new _ _
        have hAb := (bb.block A (lt_of_block HAr.out)).trans HAr.out
        have HWB := hid hwb
        have BB := hid (BR.out.trans (bb.mono BR.out.size))
        have HOb := hid (own_below HOr.out bb)
        have HQ : Hid (∀ q, (Value.slice oa out.length oc).ownBlock = some q → q < wr.heap.size) := hid fun q hq => (World.ownsRow.lt HOr.out q hq).2
        clear hwb bb HOr
        go_upto_region 8 with fail
        rw [← HWB.out]
        obtain ⟨Y, hYe⟩ : ∃ Y, Y = wr.heap.size := ⟨_, rfl⟩
        rw [← hYe] at hYb HQ
        rw [← hYe]
        have HYb := hid hYb
        clear HWB hYe c0 c1
        have SC : Hid (∀ X, Below wb.heap.size wb X → X.cell? ⟨A, 0, none⟩ = some (.int .i64 r0) ∧ X.cell? ⟨A, 1, none⟩ = some (.int .i64 r1) ∧ X.cell? ⟨Y, 0, none⟩ = some (.int .i64 z0) ∧ X.cell? ⟨Y, 1, none⟩ = some (.int .i64 z1)) := hid fun X hX => by
          have h1 := (hX.block A (lt_of_block hAb)).trans hAb
          have h2 := (hX.block Y (lt_of_block hYb)).trans hYb
          refine ⟨?_, ?_, ?_, ?_⟩ <;> first | (rw [cell_of_row _ _ _ _ _ _ h1]; rfl) | (rw [cell_of_row _ _ _ _ _ _ h2]; rfl)
        clear hAb hYb
        have hlo2 : out.length + 2 ≤ 1000000 := by omega
        cases laid with
        | true =>
          have HNY := hid (HNX.out (fun h => by cases h))
          clear HNX HLY
          obtain ⟨k0, k1, k2, k3⟩ := SC.out wb (Below.refl _ _)
          obtain ⟨wq, hwq⟩ : ∃ wq, wq = wb := ⟨_, rfl⟩
          rw [← hwq] at k0 k1 k2 k3 BB HOb
          rw [← hwq]
          have BQ := BB
          have HO := HOb
          clear hwq BB HOb
          have b4 : Below wq.heap.size wq (wq.alloc (.cells #[.int .i64 z0, .int .i64 z1] 27)) := (Below.refl _ _).alloc (Nat.le_refl _) _
          have O4 := hid (own_below HO.out b4)
          have R4 : Hid (∀ j u, [Value.int .i64 z0, .int .i64 z1][j]? = some u → (wq.alloc (.cells #[.int .i64 z0, .int .i64 z1] 27)).cell? ⟨wq.heap.size, j, none⟩ = some u) := hid fun j u hj => by
            match j, hj with
            | 0, hj => rw [cell_of_row _ _ _ _ _ _ (heap_alloc_new wq _)]; simpa using hj
            | 1, hj => rw [cell_of_row _ _ _ _ _ _ (heap_alloc_new wq _)]; simpa using hj
            | j + 2, hj => simp at hj
          have B4 := hid (BQ.out.trans (b4.mono BQ.out.size))
          clear b4
          go_wp2_with (at_builtin; refine wpl_app rowRf rfl (.tmp 30) (.tmp 32) rfl w2.heap.size (.slice oa out.length oc) out.length (rvs out) rfl O4.out wq.heap.size 1 1 [.int .i64 z0, .int .i64 z1] rfl rfl R4.out (by intro u hu; simp at hu; rcases hu with rfl | rfl <;> rfl) (by omega) B4.out.size ?_; intro va5 vc5 w5 ho5 hg5; have O5 := hid ho5; have B5 := hid (B4.out.trans (own_bel O4.out hg5 B4.out.size)); clear ho5 hg5)
          go_roundw
          case rel => exact ⟨i + 1, out ++ [(z0, z1)], true, va5, vc5, by go_num, by omega, rfl, by simp, HNY.out, by rw [List.length_append, List.length_singleton, show rvs (out ++ [(z0, z1)]) = rvs out ++ [.int .i64 z0, .int .i64 z1] by simp [rvs]]; exact O5.out, B5.out⟩
          case measure => simp [intOf]; omega
        | false =>
          obtain ⟨k0, k1, k2, k3⟩ := SC.out wb (Below.refl _ _)
          cases hls : refLt (r0, r1) (z0, z1) with
          | false =>
            have HNY := hid (HNX.out (fun _ => hls))
            rw [hls] at HLSy
            clear HNX HLY hls
            go_upto_region 11 with (go_at_call 31; refine (HLSy.out _).mono ?_; rintro e wq ⟨rfl, hbq⟩; clear k0 k1 k2 k3; obtain ⟨k0, k1, k2, k3⟩ := SC.out wq hbq; have BQ := hid (BB.out.trans (hbq.mono BB.out.size)); have HO := hid (own_below HOb.out hbq); clear hbq)
            have b4 : Below wq.heap.size wq (wq.alloc (.cells #[.int .i64 z0, .int .i64 z1] 27)) := (Below.refl _ _).alloc (Nat.le_refl _) _
            have O4 := hid (own_below HO.out b4)
            have R4 : Hid (∀ j u, [Value.int .i64 z0, .int .i64 z1][j]? = some u → (wq.alloc (.cells #[.int .i64 z0, .int .i64 z1] 27)).cell? ⟨wq.heap.size, j, none⟩ = some u) := hid fun j u hj => by
              match j, hj with
              | 0, hj => rw [cell_of_row _ _ _ _ _ _ (heap_alloc_new wq _)]; simpa using hj
              | 1, hj => rw [cell_of_row _ _ _ _ _ _ (heap_alloc_new wq _)]; simpa using hj
              | j + 2, hj => simp at hj
            have B4 := hid (BQ.out.trans (b4.mono BQ.out.size))
            clear b4
            go_wp2_with (at_builtin; refine wpl_app rowRf rfl (.tmp 30) (.tmp 32) rfl w2.heap.size (.slice oa out.length oc) out.length (rvs out) rfl O4.out wq.heap.size 1 1 [.int .i64 z0, .int .i64 z1] rfl rfl R4.out (by intro u hu; simp at hu; rcases hu with rfl | rfl <;> rfl) (by omega) B4.out.size ?_; intro va5 vc5 w5 ho5 hg5; have O5 := hid ho5; have B5 := hid (B4.out.trans (own_bel O4.out hg5 B4.out.size)); clear ho5 hg5)
            go_roundw
            case rel => exact ⟨i + 1, out ++ [(z0, z1)], false, va5, vc5, by go_num, by omega, rfl, by simp, HNY.out, by rw [List.length_append, List.length_singleton, show rvs (out ++ [(z0, z1)]) = rvs out ++ [.int .i64 z0, .int .i64 z1] by simp [rvs]]; exact O5.out, B5.out⟩
            case measure => simp [intOf]; omega
          | true =>
            have HNY := hid (HLY.out rfl hls)
            rw [hls] at HLSy
            clear HNX HLY hls
            go_upto_region 9 with (go_at_call 31; refine (HLSy.out _).mono ?_; rintro e wq ⟨rfl, hbq⟩; clear k0 k1 k2 k3; obtain ⟨k0, k1, k2, k3⟩ := SC.out wq hbq; have BQ := hid (BB.out.trans (hbq.mono BB.out.size)); have HO := hid (own_below HOb.out hbq); have HBQ := hid hbq; clear hbq)
            have b4 : Below wq.heap.size wq (wq.alloc (.cells #[.int .i64 r0, .int .i64 r1] 27)) := (Below.refl _ _).alloc (Nat.le_refl _) _
            have O4 := hid (own_below HO.out b4)
            have R4 : Hid (∀ j u, [Value.int .i64 r0, .int .i64 r1][j]? = some u → (wq.alloc (.cells #[.int .i64 r0, .int .i64 r1] 27)).cell? ⟨wq.heap.size, j, none⟩ = some u) := hid fun j u hj => by
              match j, hj with
              | 0, hj => rw [cell_of_row _ _ _ _ _ _ (heap_alloc_new wq _)]; simpa using hj
              | 1, hj => rw [cell_of_row _ _ _ _ _ _ (heap_alloc_new wq _)]; simpa using hj
              | j + 2, hj => simp at hj
            have B4 := hid (BQ.out.trans (b4.mono BQ.out.size))
            clear b4
            go_upto_region 11 with (at_builtin; refine wpl_app rowRf rfl (.tmp 26) (.tmp 28) rfl w2.heap.size (.slice oa out.length oc) out.length (rvs out) rfl O4.out wq.heap.size 1 1 [.int .i64 r0, .int .i64 r1] rfl rfl R4.out (by intro u hu; simp at hu; rcases hu with rfl | rfl <;> rfl) (by omega) B4.out.size ?_; intro va5 vc5 w5 ho5 hg5; have P5 := hid ho5; have C5 := hid (B4.out.trans (own_bel O4.out hg5 B4.out.size)); have hyq := (HBQ.out.block Y (lt_of_block HYb.out)).trans HYb.out; have hya := (Below.heap_alloc wq (.cells #[.int .i64 r0, .int .i64 r1] 27) Y (lt_of_block hyq)).trans hyq; have hy5 := (hg5.block Y (lt_of_block hya) (fun e => by have := HQ.out Y e.symm; omega)).trans hya; clear ho5 hg5 hyq hya)
            clear k0 k1 k2 k3
            have k2 : w5.cell? ⟨Y, 0, none⟩ = some (.int .i64 z0) := by rw [cell_of_row _ _ _ _ _ _ hy5]; rfl
            have k3 : w5.cell? ⟨Y, 1, none⟩ = some (.int .i64 z1) := by rw [cell_of_row _ _ _ _ _ _ hy5]; rfl
            clear hy5
            have b6 : Below w5.heap.size w5 (w5.alloc (.cells #[.int .i64 z0, .int .i64 z1] 27)) := (Below.refl _ _).alloc (Nat.le_refl _) _
            have O6 := hid (own_below P5.out b6)
            have R6 : Hid (∀ j u, [Value.int .i64 z0, .int .i64 z1][j]? = some u → (w5.alloc (.cells #[.int .i64 z0, .int .i64 z1] 27)).cell? ⟨w5.heap.size, j, none⟩ = some u) := hid fun j u hj => by
              match j, hj with
              | 0, hj => rw [cell_of_row _ _ _ _ _ _ (heap_alloc_new w5 _)]; simpa using hj
              | 1, hj => rw [cell_of_row _ _ _ _ _ _ (heap_alloc_new w5 _)]; simpa using hj
              | j + 2, hj => simp at hj
            have B6 := hid (C5.out.trans (b6.mono C5.out.size))
            clear b6
            go_wp2_with (at_builtin; refine wpl_app rowRf rfl (.tmp 30) (.tmp 32) rfl w2.heap.size (.slice va5 (out.length + 1) vc5) (out.length + 1) _ rfl O6.out w5.heap.size 1 1 [.int .i64 z0, .int .i64 z1] rfl rfl R6.out (by intro u hu; simp at hu; rcases hu with rfl | rfl <;> rfl) (by omega) B6.out.size ?_; intro va7 vc7 w7 ho7 hg7; have P7 := hid ho7; have C7 := hid (B6.out.trans (own_bel O6.out hg7 B6.out.size)); clear ho7 hg7)
            go_roundw
            case rel => exact ⟨i + 1, out ++ [(r0, r1)] ++ [(z0, z1)], true, va7, vc7, by go_num, by omega, rfl, by simp, HNY.out, by rw [List.length_append, List.length_append, List.length_singleton, show rvs (out ++ [(r0, r1)] ++ [(z0, z1)]) = rvs out ++ [.int .i64 r0, .int .i64 r1] ++ [.int .i64 z0, .int .i64 z1] by simp [rvs]]; exact P7.out, C7.out⟩
            case measure => simp [intOf]; omega
      · obtain rfl : i = l.length := by omega
        obtain ⟨hre, hme⟩ := HAD.out.all HMR.out
        cases laid with
        | true =>
          rw [if_pos rfl] at hre hme
          have HRE := hid hre
          have HME := hid hme
          clear hre hme
          go_wp2_with fail
          go_ret
          exact ⟨out, oa, oc, rfl, rfs_rvs HOr.out, HRE.out, HME.out, hol, B2.out.trans (BR.out.mono HBW.out)⟩
        | false =>
          rw [if_neg (by simp)] at hre hme
          have HRE := hid hre
          have HME := hid hme
          have hlo := HAD.out.len0 rfl
          clear hre hme
          have k0 : wr.cell? ⟨A, 0, none⟩ = some (.int .i64 r0) := by rw [cell_of_row _ _ _ _ _ _ HAr.out]; rfl
          have k1 : wr.cell? ⟨A, 1, none⟩ = some (.int .i64 r1) := by rw [cell_of_row _ _ _ _ _ _ HAr.out]; rfl
          have b4 : Below wr.heap.size wr (wr.alloc (.cells #[.int .i64 r0, .int .i64 r1] 27)) := (Below.refl _ _).alloc (Nat.le_refl _) _
          have O4 := hid (own_below HOr.out b4)
          have R4 : Hid (∀ j u, [Value.int .i64 r0, .int .i64 r1][j]? = some u → (wr.alloc (.cells #[.int .i64 r0, .int .i64 r1] 27)).cell? ⟨wr.heap.size, j, none⟩ = some u) := hid fun j u hj => by
            match j, hj with
            | 0, hj => rw [cell_of_row _ _ _ _ _ _ (heap_alloc_new wr _)]; simpa using hj
            | 1, hj => rw [cell_of_row _ _ _ _ _ _ (heap_alloc_new wr _)]; simpa using hj
            | j + 2, hj => simp at hj
          have B4 := hid (BR.out.trans (b4.mono BR.out.size))
          clear b4
          go_wp2_with (at_builtin; refine wpl_app rowRf rfl (.tmp 37) (.tmp 39) rfl w2.heap.size (.slice oa out.length oc) out.length (rvs out) rfl O4.out wr.heap.size 1 1 [.int .i64 r0, .int .i64 r1] rfl rfl R4.out (by intro u hu; simp at hu; rcases hu with rfl | rfl <;> rfl) (by omega) B4.out.size ?_; intro va5 vc5 w5 ho5 hg5; have P5 := hid ho5; have C5 := hid (B4.out.trans (own_bel O4.out hg5 B4.out.size)); clear ho5 hg5)
          go_ret
          have P6 : w5.ownsRow w2.heap.size 27 2 (.slice va5 (out ++ [(r0, r1)]).length vc5) (out ++ [(r0, r1)]).length (rvs (out ++ [(r0, r1)])) := by rw [List.length_append, List.length_singleton, show rvs (out ++ [(r0, r1)]) = rvs out ++ [.int .i64 r0, .int .i64 r1] by simp [rvs]]; exact P5.out
          exact ⟨out ++ [(r0, r1)], va5, vc5, by simp, rfs_rvs P6, HRE.out, HME.out, by simp; omega, B2.out.trans (C5.out.mono HBW.out)⟩
end Go.Proofs.Ytadjeefigjdkiab
