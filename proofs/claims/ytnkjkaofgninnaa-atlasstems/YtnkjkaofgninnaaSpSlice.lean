/- Parts of a row of pieces: what a slice of it holds. No condition but that the row lies in memory. -/
import Derived.Test.YtnkjkaofgninnaaSpWithin
import Derived.Test.YtnkjkaofgninnaaSpConcat
import Derived.Test.YtnkjkaofgninnaaSpLen
import Derived.Deep.RegionHeld3
namespace Go.Proofs.Ytnkjkaofgninnaa
open Go.RowKit Go.Shelf

theorem Try.elemPs : Try.prog.elem 97 = 102 := by kernel_rfl
theorem Try.sizePc (w : World) : (sizeOf 102).run Try.prog w = .ok 3 w := by kernel_rfl
theorem Try.elemPs' : Try.prog.underlying 97 = some (.slice (Try.prog.elem 97)) := by rw [Try.elemPs]; exact Try.underlyingPs
/-- The value of l[i:j]. -/
def sliceP (va : Option Addr) (i j vc : Nat) : Value := .slice (if vc = i then va else va.map (·.add (i * 3))) (j - i) (vc - i)
theorem run_sliceP (va : Option Addr) (n vc i j : Nat) (hij : i ≤ j) (hj : j ≤ vc) (w : World) :
    (Instr.slice 97 (.slice va n vc) (some (.int .i64 i)) (some (.int .i64 j)) none).run Try.prog w = .ok (sliceP va i j vc) w := by
  have h := run_slice_lh (P := Try.prog) (w := w) 97 va n vc Try.elemPs' .i64 .i64 (i : Int) (j : Int) (by omega) (by omega) (by omega)
  rw [h, Try.elemPs, Try.sizePc]
  simp [Result.andThen, sliced, sliceP]
theorem run_sliceP_h (va : Option Addr) (n vc j : Nat) (hj : j ≤ vc) (w : World) :
    (Instr.slice 97 (.slice va n vc) none (some (.int .i64 j)) none).run Try.prog w = .ok (sliceP va 0 j vc) w := by
  have h := run_slice_h (P := Try.prog) (w := w) 97 va n vc Try.elemPs' .i64 (j : Int) (by omega) (by omega)
  rw [h, Try.elemPs, Try.sizePc]
  simp [Result.andThen, sliced, sliceP]
theorem run_sliceP_l (va : Option Addr) (n vc i : Nat) (hi : i ≤ n) (w : World) :
    (Instr.slice 97 (.slice va n vc) (some (.int .i64 i)) none none).run Try.prog w = .ok (sliceP va i n vc) w := by
  have h := run_slice_l (P := Try.prog) (w := w) 97 va n vc Try.elemPs' .i64 (i : Int) (by omega) (by omega)
  rw [h, Try.elemPs, Try.sizePc]
  simp [Result.andThen, sliced, sliceP]
theorem sliceP_own (va : Option Addr) (n i j vc k : Nat) (h : (sliceP va i j vc).ownBlock = some k) : (Value.slice va n vc).ownBlock = some k := by
  unfold sliceP at h
  cases va with
  | none => split at h <;> simp [Value.ownBlock] at h
  | some a =>
    split at h
    · simpa [Value.ownBlock] using h
    · simp only [Option.map_some, Value.ownBlock] at h ⊢
      rw [← h]; unfold Addr.add; split <;> rfl
/-- The row of a Map: of whoever's. -/
def RowP (w : World) (v : Value) (l : List Pc) : Prop := OwnP w 0 v l
theorem RowP.held {w : World} {va : Option Addr} {vc : Nat} {l : List Pc} (h : RowP w (.slice va l.length vc) l) (i j : Nat) (hij : i ≤ j) (hj : j ≤ l.length) : j ≤ vc ∧ HeldP w (sliceP va i j vc) ((l.take j).drop i) := by
  have hlen : ((l.take j).drop i).length = j - i := by simp; omega
  obtain ⟨h1, h2⟩ := h
  rcases h2 with ⟨h2, h0⟩ | ⟨g, cap, cur, e, hbg, hh, hc, hm, hs, ht⟩
  · obtain rfl := List.eq_nil_of_length_eq_zero h0
    cases h2
    simp at hj; subst hj
    obtain rfl : i = 0 := by omega
    exact ⟨Nat.le_refl _, .inl ⟨rfl, by simp⟩⟩
  · cases e
    refine ⟨by omega, ?_⟩
    have h' : w.ownsRow 0 102 3 (.slice (some ⟨g, 0, none⟩) l.length vc) l.length (flat3 l) := ⟨h1, Or.inr ⟨g, vc, cur, rfl, hbg, hh, hc, hm, hs, ht⟩⟩
    by_cases hi : vc = i
    · have hd : (l.take j).drop i = [] := List.eq_nil_of_length_eq_zero (by rw [hlen]; omega)
      refine .inr ⟨g, 0, vc - i, _, ?_, hh, ?_⟩
      · rw [hlen]; simp [sliceP, hi]
      · intro k hk; rw [hlen] at hk; omega
    · refine .inr ⟨g, i * 3, vc - i, _, ?_, hh, ?_⟩
      · rw [hlen]; simp [sliceP, hi, Addr.add_lit]
      · intro k hk
        have hk' : i + k < l.length := by rw [hlen] at hk; omega
        have e := flat3_at l (i + k) hk'
        have hg : ((l.take j).drop i)[k] = l[i + k] := by simp
        rw [hg]
        have c0 := h'.cells (g := g) rfl _ _ e.1
        have c1 := h'.cells (g := g) rfl _ _ e.2.1
        have c2 := h'.cells (g := g) rfl _ _ e.2.2
        rw [Addr.add_lit] at c0 c1 c2
        simp only [Nat.zero_add] at c0 c1 c2
        rw [show i * 3 + k * 3 = (i + k) * 3 from by omega]
        exact ⟨c0, c1, c2⟩
theorem HeldP.pcs {w : World} {u : Value} {l : List Pc} (h : HeldP w u l) (hu : ∀ a n c, u = .slice a n c → n ≤ c ∧ c ≤ 9223372036854775807) : Pcs w u l := by
  rcases h with ⟨rfl, rfl⟩ | ⟨b, o, cap, ob, rfl, hb, hc⟩
  · exact ⟨_, _, _, rfl, rfl, Nat.le_refl _, by omega, (fun _ => rfl), (fun ad h => by cases h)⟩
  · refine ⟨_, _, _, rfl, rfl, (hu _ _ _ rfl).1, (hu _ _ _ rfl).2, (fun h => by cases h), ?_⟩
    intro ad had j hj
    obtain rfl := Option.some.inj had
    rw [Addr.add_lit, Addr.add_lit, Addr.add_lit]
    exact hc j hj
theorem RowP.part {w : World} {va : Option Addr} {vc : Nat} {l : List Pc} (h : RowP w (.slice va l.length vc) l) (i j : Nat) (hij : i ≤ j) (hj : j ≤ l.length) : Pcs w (sliceP va i j vc) ((l.take j).drop i) := by
  have hh := h.held i j hij hj
  refine hh.2.pcs ?_
  intro a n c e
  unfold sliceP at e
  cases e
  have hv : vc ≤ 9223372036854775807 := by
    obtain ⟨ao, n, cap, e, -, -, h3, -⟩ := OwnP.pcs h
    cases e; exact h3
  omega
theorem RowP.kept {w w' : World} {v : Value} {l : List Pc} (h : RowP w v l) (hk : ∀ k, v.ownBlock = some k → w'.heap[k]? = w.heap[k]?) : RowP w' v l := by
  obtain ⟨h1, h2⟩ := h
  refine ⟨h1, ?_⟩
  rcases h2 with h2 | ⟨g, cap, cur, rfl, hg, hh, r⟩
  · exact Or.inl h2
  · exact Or.inr ⟨g, cap, cur, rfl, hg, by rw [hk g rfl]; exact hh, r⟩
theorem RowP.lt {w : World} {v : Value} {l : List Pc} (h : RowP w v l) : ∀ k, v.ownBlock = some k → k < w.heap.size := fun k hk => (World.ownsRow.lt h k hk).2
end Go.Proofs.Ytnkjkaofgninnaa
