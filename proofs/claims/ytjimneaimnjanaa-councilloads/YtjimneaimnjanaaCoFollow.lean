/- Which entries may follow one of a term. Conditions: they lie in memory. -/
import Derived.Test.YtjimneaimnjanaaCoEntry
import Derived.Test.YtjimneaimnjanaaCoMem
namespace Go.Proofs.Ytjimneaimnjanaa
open Go.RowKit
set_option linter.unusedVariables false
set_option linter.unusedSimpArgs false

/-- v is a slice of the entries l. -/
def Ens (w : World) (v : Value) (l : List En) : Prop :=
  ∃ ao n cap, v = .slice ao n cap ∧ n = l.length ∧ n ≤ cap ∧ cap ≤ 9223372036854775807 ∧ (ao = none → cap = 0) ∧
    ∀ ad, ao = some ad → ∀ j, (h : j < l.length) → w.cell? (ad.add (j * 3)) = some (.int .i64 l[j].term) ∧ w.cell? (ad.add (j * 3 + 1)) = some (.int .i64 l[j].kind) ∧ w.cell? (ad.add (j * 3 + 2)) = some (.string l[j].text)
theorem Ens.below {w w' : World} {v : Value} {l : List En} (h : Ens w v l) (hb : Below w.heap.size w w') : Ens w' v l := by
  obtain ⟨ao, n, cap, rfl, h1, h2, h3, h4, h5⟩ := h
  exact ⟨ao, n, cap, rfl, h1, h2, h3, h4, fun ad had j hj => ⟨cell_later hb (h5 ad had j hj).1, cell_later hb (h5 ad had j hj).2.1, cell_later hb (h5 ad had j hj).2.2⟩⟩
theorem Ens.shape {w : World} {v : Value} {l : List En} (h : Ens w v l) : ∃ va vc, v = .slice va l.length vc := by
  obtain ⟨ao, n, cap, rfl, rfl, -⟩ := h; exact ⟨_, _, rfl⟩
theorem Ens.len {w : World} {v : Value} {l : List En} (h : Ens w v l) : (l.length : Int) ≤ 9223372036854775807 := by
  obtain ⟨ao, n, cap, rfl, rfl, h2, h3, -⟩ := h; omega
theorem Ens.lit {w : World} {b o cap : Nat} {l : List En} (h : Ens w (.slice (some ⟨b, o, none⟩) l.length cap) l) (j : Nat) (hj : j < l.length) : w.cell? ⟨b, o + j * 3, none⟩ = some (.int .i64 l[j].term) ∧ w.cell? ⟨b, o + j * 3 + 1, none⟩ = some (.int .i64 l[j].kind) ∧ w.cell? ⟨b, o + j * 3 + 2, none⟩ = some (.string l[j].text) := by
  obtain ⟨ao, n, cap', e, h1, h2, h3, h4, h5⟩ := h
  cases e
  have := h5 _ rfl j hj
  rw [Addr.add_lit, Addr.add_lit, Addr.add_lit, ← Nat.add_assoc, ← Nat.add_assoc] at this
  exact this
theorem Ens.addr {w : World} {ao : Option Addr} {cap : Nat} {l : List En} (h : Ens w (.slice ao l.length cap) l) (hl : 0 < l.length) : ∃ b o, ao = some ⟨b, o, none⟩ := by
  obtain ⟨ao', n, cap', e, h1, h2, h3, h4, h5⟩ := h
  cases e
  cases ao with
  | none => have := h4 rfl; omega
  | some a =>
    have h0 := (h5 a rfl 0 hl).1
    have := World.cell?_spot h0
    obtain ⟨b, o, sp⟩ := a
    simp [Addr.add] at this
    subst this
    exact ⟨b, o, rfl⟩
/-- The terms don't fall, none of them is above term, and each entry may be. -/
def folR (term : Int) : Int → List En → Bool
  | past, [] => decide (past ≤ term)
  | past, e :: l => !decide (e.term < past) && entB e.kind e.text && folR term e.term l
def folB (past term : Int) (l : List En) : Bool := decide (l.length ≤ 4096) && folR term past l
set_option maxRecDepth 100000 in
set_option maxHeartbeats 4000000 in
theorem mayFollow_any (past term : Int) (l : List En) (v : Value) (w : World) (hv : Ens w v l) :
    Calls Try.prog 81 #[.int .i64 past, .int .i64 term, v] w fun e w' => e = .returned (.bool (folB past term l)) ∧ Below w.heap.size w w' := by
  have HV := hid hv
  have hL := hv.len
  obtain ⟨va, vc, rfl⟩ := hv.shape
  clear hv
  by_cases hbig : (4096 : Int) < (l.length : Int)
  · have HR : Hid (folB past term l = false) := hid (by unfold folB; rw [decide_eq_false (by omega)]; rfl)
    go_enter Try.func81, Try.ntmps81
    go_wp2_with fail
    go_ret
    exact ⟨by rw [HR.out]; rfl, Below.refl _ _⟩
  · have HR : Hid (folB past term l = folR term past l) := hid (by unfold folB; rw [decide_eq_true (by omega)]; rfl)
    go_enter Try.func81, Try.ntmps81
    go_wp2_with fail
    go_loopw [0, 8, 14] (fun pv _ iv wr => ∃ (i : Nat) (p : Int), iv = .int .i64 i ∧ pv = .int .i64 p ∧ i ≤ l.length ∧ folR term past l = folR term p (l.drop i) ∧ Below w.heap.size w wr) (fun _ _ iv _ => l.length - (intOf iv).toNat)
    case atStart => exact ⟨0, past, rfl, rfl, Nat.zero_le _, rfl, Below.refl _ _⟩
    case round =>
      obtain ⟨i, p, rfl, rfl, hi, hf, hbr⟩ := hrel
      have HF := hid hf
      have BR := hid hbr
      clear hf hbr
      by_cases hlt : (i : Int) < (l.length : Int)
      · have hil : i < l.length := by omega
        have HVR := hid (HV.out.below BR.out)
        obtain ⟨gd, od, rfl⟩ := HVR.out.addr (by omega)
        obtain ⟨c0, c1, c2⟩ := HVR.out.lit i hil
        have HS : Hid (folR term p (l.drop i) = (!decide (l[i].term < p) && entB l[i].kind l[i].text && folR term l[i].term (l.drop (i + 1)))) := hid (by rw [List.drop_eq_getElem_cons hil]; rfl)
        generalize l[i] = en at *
        obtain ⟨et, ek, ex⟩ := en
        simp only at c0 c1 c2 HS
        by_cases ht : et < p
        · have HE : Hid (folB past term l = false) := hid (by rw [HR.out, HF.out, HS.out, decide_eq_true ht]; rfl)
          have hd : decide (et < p) = true := decide_eq_true ht
          go_wp2_with fail
          go_ret
          exact ⟨by rw [HE.out]; rfl, BR.out.alloc BR.out.size _⟩
        · have hd : decide (et < p) = false := decide_eq_false ht
          have HE : Hid (folR term p (l.drop i) = (entB ek ex && folR term et (l.drop (i + 1)))) := hid (by rw [HS.out, hd]; rfl)
          have HME := hid (fun W => mayEntry_any ek ex W)
          have BA := hid ((Below.refl wr.heap.size wr).alloc (Nat.le_refl _) (.cells #[.int .i64 et, .int .i64 ek, .string ex] 73))
          have hA := hid (heap_alloc_new wr (.cells #[.int .i64 et, .int .i64 ek, .string ex] 73))
          cases he : entB ek ex with
          | false =>
            have HN : Hid (folB past term l = false) := hid (by rw [HR.out, HF.out, HE.out, he]; rfl)
            rw [he] at HME
            go_wp2_with (go_at_call 100; refine (HME.out _).mono ?_; rintro e w2 ⟨rfl, hb2⟩; have B2 := hid (BA.out.trans (hb2.mono BA.out.size)); clear hb2)
            go_ret
            exact ⟨by rw [HN.out]; rfl, BR.out.trans (B2.out.mono BR.out.size)⟩
          | true =>
            have HN : Hid (folR term past l = folR term et (l.drop (i + 1))) := hid (by rw [HF.out, HE.out, he]; rfl)
            rw [he] at HME
            go_wp2_with (go_at_call 100; refine (HME.out _).mono ?_; rintro e w2 ⟨rfl, hb2⟩; have k0 : w2.cell? ⟨wr.heap.size, 0, none⟩ = some (.int .i64 et) := (by rw [cell_of_row _ _ _ _ _ _ ((hb2.block wr.heap.size (by simp)).trans hA.out)]; rfl); have B2 := hid (BA.out.trans (hb2.mono BA.out.size)); clear hb2)
            go_roundw
            case rel => exact ⟨i + 1, et, by go_num, rfl, by omega, HN.out, BR.out.trans (B2.out.mono BR.out.size)⟩
            case measure => simp [intOf]; omega
      · obtain rfl : i = l.length := by omega
        rw [List.drop_length] at HF
        have HN : Hid (folB past term l = decide (p ≤ term)) := hid (by rw [HR.out, HF.out]; rfl)
        go_wp2_with fail
        go_ret
        exact ⟨by rw [HN.out]; rfl, BR.out⟩
end Go.Proofs.Ytjimneaimnjanaa
