/- A Reader in memory, and what its smallest calls answer: Left, Bad, End, spoil, Byte, NewReader. Conditions: the Reader lies in memory with the rest l, or is bad. -/
import Derived.Test.YtabmnelenfghhaaCut
namespace Go.Proofs.Ytabmnelenfghhaa
open Go.RowKit

/-- A Reader lies at block b: bad, or with the rest l. -/
def Rd (w : World) (b : Nat) : Option (List UInt8) → Prop
  | none => w.heap[b]? = some (.cells #[.slice none 0 0, .bool true] 76 (0, 0))
  | some l => ∃ ao cap, w.heap[b]? = some (.cells #[.slice ao l.length cap, .bool false] 76 (0, 0)) ∧ Bts w (.slice ao l.length cap) l ∧ ∀ ad, ao = some ad → ad.block < b
def leftN : Option (List UInt8) → Nat
  | none => 0
  | some l => l.length
def badO : Option (List UInt8) → Bool
  | none => true
  | some _ => false
def endB : Option (List UInt8) → Bool
  | some [] => true
  | _ => false

theorem cell_two {w : World} {b : Nat} {u v : Value} {t : TypeId} (h : w.heap[b]? = some (.cells #[u, v] t (0, 0))) :
    w.cell? ⟨b, 0, none⟩ = some u ∧ w.cell? ⟨b, 1, none⟩ = some v ∧ w.frozen? ⟨b, 0, none⟩ = false ∧ w.frozen? ⟨b, 1, none⟩ = false :=
  ⟨by rw [cell_of_row w b _ _ _ _ h]; rfl, by rw [cell_of_row w b _ _ _ _ h]; rfl, frozen_of_row w b _ _ _ h, frozen_of_row w b _ _ _ h⟩
theorem Rd.cells {w : World} {b : Nat} {s : Option (List UInt8)} (h : Rd w b s) :
    ∃ ao cap, w.heap[b]? = some (.cells #[.slice ao (leftN s) cap, .bool (badO s)] 76 (0, 0)) := by
  cases s with
  | none => exact ⟨none, 0, h⟩
  | some l => obtain ⟨ao, cap, h, -⟩ := h; exact ⟨ao, cap, h⟩
theorem Rd.lt {w : World} {b : Nat} {s : Option (List UInt8)} (h : Rd w b s) : b < w.heap.size := by obtain ⟨_, _, h⟩ := h.cells; exact lt_of_block h
theorem Rd.len {w : World} {b : Nat} {s : Option (List UInt8)} (h : Rd w b s) : leftN s ≤ 9223372036854775807 := by
  cases s with
  | none => exact Nat.zero_le _
  | some l => obtain ⟨ao, cap, -, ⟨_, n, c, e, e2, h1, h2, -⟩, -⟩ := h; cases e; show l.length ≤ _; omega
theorem grown_trans {w w1 w2 : World} {r : Option Nat} (h1 : w.grownBy w1 r) (h2 : w1.grownBy w2 r) : w.grownBy w2 r :=
  ⟨h2.os.trans h1.os, h2.tape.trans h1.tape, h2.output.trans h1.output, Nat.le_trans h1.size h2.size, fun k hk hr => (h2.block k (Nat.lt_of_lt_of_le hk h1.size) hr).trans (h1.block k hk hr)⟩
theorem grown_set (w : World) (b i : Nat) (v : Value) : w.grownBy (w.setCell ⟨b, i, none⟩ v) (some b) :=
  ⟨rfl, rfl, rfl, by simp [World.setCell], fun k _ hr => Below.heap_setCell _ _ _ _ (fun e => hr (by rw [e]))⟩
theorem grown_below {B b : Nat} {w0 w w1 : World} (h : Below B w0 w) (hg : w.grownBy w1 (some b)) (hB : B ≤ w.heap.size) (hb : B ≤ b) : Below B w0 w1 :=
  h.grown hg hB fun k hk => by obtain rfl := Option.some.inj hk; exact hb
theorem Bts.other {w w' : World} {b n cap : Nat} {ao : Option Addr} {l : List UInt8} (h : Bts w (.slice ao n cap) l) (hg : w.grownBy w' (some b)) (hne : ∀ ad, ao = some ad → ad.block ≠ b) : Bts w' (.slice ao n cap) l := by
  obtain ⟨ao', n', cap', e, h1, h2, h3, h4, h5⟩ := h
  cases e
  refine ⟨ao, n, cap, rfl, h1, h2, h3, h4, fun ad had j hj => ?_⟩
  have hne' := hne ad had
  refine hg.cell (h5 ad had j hj) ?_
  intro e
  apply hne'
  have : (ad.add j).block = ad.block := by simp [Addr.add]; split <;> rfl
  rw [this] at e
  exact Option.some.inj e
/-- A Reader is as it was where its block and its row are. -/
theorem Rd.kept {w w' : World} {b : Nat} {s : Option (List UInt8)} (h : Rd w b s) (hb : Below w.heap.size w w') : Rd w' b s := by
  have hlt := h.lt
  cases s with
  | none => show w'.heap[b]? = _; rw [hb.block b hlt]; exact h
  | some l =>
    obtain ⟨ao, cap, h1, h2, h3⟩ := h
    exact ⟨ao, cap, by rw [hb.block b hlt]; exact h1, h2.below hb, h3⟩

/-- What lies behind a Reader's own block does not touch it. -/
theorem Rd.beyond {w w' : World} {b : Nat} {s : Option (List UInt8)} (h : Rd w b s) (hb : ∀ k, k ≤ b → w'.heap[k]? = w.heap[k]?) : Rd w' b s := by
  cases s with
  | none => show w'.heap[b]? = _; rw [hb b (Nat.le_refl _)]; exact h
  | some l =>
    obtain ⟨ao, cap, h1, h2, h3⟩ := h
    refine ⟨ao, cap, by rw [hb b (Nat.le_refl _)]; exact h1, ?_, h3⟩
    obtain ⟨ao', n', cap', e, g1, g2, g3, g4, g5⟩ := h2
    cases e
    refine ⟨ao, l.length, cap, rfl, g1, g2, g3, g4, fun ad had j hj => ?_⟩
    have e : (ad.add j).block = ad.block := by simp [Addr.add]; split <;> rfl
    rw [World.cell?_of_block (w := w) (by rw [e]; exact hb _ (Nat.le_of_lt (h3 ad had)))]
    exact g5 ad had j hj
set_option maxHeartbeats 400000 in
theorem left_any (b : Nat) (s : Option (List UInt8)) (w : World) (hr : Rd w b s) :
    Calls Try.prog 14 #[.pointer (some ⟨b, 0, none⟩)] w fun e w' => e = .returned (.int .i64 (leftN s)) ∧ w' = w := by
  have hlen := hr.len
  obtain ⟨ao, cap, h⟩ := hr.cells
  obtain ⟨hc0, hc1, hf0, hf1⟩ := cell_two h
  clear h hr hc1 hf0 hf1
  generalize leftN s = n at *
  go_enter Try.func14, Try.ntmps14
  go_wp2
  go_ret
  exact ⟨rfl, rfl⟩
set_option maxHeartbeats 400000 in
theorem bad_any (b : Nat) (s : Option (List UInt8)) (w : World) (hr : Rd w b s) :
    Calls Try.prog 15 #[.pointer (some ⟨b, 0, none⟩)] w fun e w' => e = .returned (.bool (badO s)) ∧ w' = w := by
  obtain ⟨ao, cap, h⟩ := hr.cells
  obtain ⟨hc0, hc1, hf0, hf1⟩ := cell_two h
  clear h hr hc0 hf0 hf1
  generalize badO s = t at *
  go_enter Try.func15, Try.ntmps15
  go_wp2
  go_ret
  exact ⟨rfl, rfl⟩
set_option maxHeartbeats 400000 in
theorem end_any (b : Nat) (s : Option (List UInt8)) (w : World) (hr : Rd w b s) :
    Calls Try.prog 48 #[.pointer (some ⟨b, 0, none⟩)] w fun e w' => e = .returned (.bool (endB s)) ∧ w' = w := by
  have HR := hio hr
  clear hr
  cases s with
  | none =>
    go_enter Try.func48, Try.ntmps48
    go_wp2_with (first | (go_at_call 15; refine (bad_any _ _ _ HR.out).mono ?_; rintro e w' ⟨rfl, rfl⟩; simp only [badO]) | (go_at_call 14; refine (left_any _ _ _ HR.out).mono ?_; rintro e w' ⟨rfl, rfl⟩))
    go_ret
    exact ⟨rfl, rfl⟩
  | some l =>
    cases l with
    | nil =>
      go_enter Try.func48, Try.ntmps48
      go_wp2_with (first | (go_at_call 15; refine (bad_any _ _ _ HR.out).mono ?_; rintro e w' ⟨rfl, rfl⟩; simp only [badO]) | (go_at_call 14; refine (left_any _ _ _ HR.out).mono ?_; rintro e w' ⟨rfl, rfl⟩; simp only [leftN, List.length_nil]))
      go_ret
      exact ⟨rfl, rfl⟩
    | cons c l =>
      have hn : (((l.length + 1 : Nat) : Int) == 0) = false := by simp; omega
      go_enter Try.func48, Try.ntmps48
      go_wp2_with (first | (go_at_call 15; refine (bad_any _ _ _ HR.out).mono ?_; rintro e w' ⟨rfl, rfl⟩; simp only [badO]) | (go_at_call 14; refine (left_any _ _ _ HR.out).mono ?_; rintro e w' ⟨rfl, rfl⟩; simp only [leftN, List.length_cons]))
      go_ret
      exact ⟨rfl, rfl⟩

set_option maxHeartbeats 400000 in
theorem spoil_any (b : Nat) (s : Option (List UInt8)) (w : World) (hr : Rd w b s) :
    Calls Try.prog 67 #[.pointer (some ⟨b, 0, none⟩)] w fun e w' => e = .returned (.tuple #[]) ∧ Rd w' b none ∧ w.grownBy w' (some b) := by
  obtain ⟨ao, cap, h⟩ := hr.cells
  obtain ⟨hc0, hc1, hf0, hf1⟩ := cell_two h
  have H := hio h
  clear h hr
  generalize leftN s = n at *
  generalize badO s = t at *
  have hc2 : (w.setCell ⟨b, 0, none⟩ (.slice none 0 0)).cell? ⟨b, 1, none⟩ = some (.bool t) := by
    rw [cell_of_row _ b _ _ _ _ (heap_setCell_same w b 0 _ _ _ H.out)]; rfl
  have hf2 : (w.setCell ⟨b, 0, none⟩ (.slice none 0 0)).frozen? ⟨b, 1, none⟩ = false := frozen_of_row _ b _ _ _ (heap_setCell_same w b 0 _ _ _ H.out)
  go_enter Try.func67, Try.ntmps67
  go_wp2
  go_end0
  refine ⟨rfl, ?_, grown_trans (grown_set _ _ _ _) (grown_set _ _ _ _)⟩
  exact heap_setCell_same _ b 1 _ _ _ (heap_setCell_same w b 0 _ _ _ H.out)

def byteR : Option (List UInt8) → UInt8
  | some (c :: _) => c
  | _ => 0
def byteS : Option (List UInt8) → Option (List UInt8)
  | some (_ :: l) => some l
  | _ => none
theorem Rd.byte {w : World} {b : Nat} {l : List UInt8} {c : UInt8} {ad : Addr} {cap : Nat} (h : w.heap[b]? = some (.cells #[.slice (some ad) (l.length + 1) cap, .bool false] 76 (0, 0)))
    (hb : Bts w (.slice (some ad) (l.length + 1) cap) (c :: l)) (hne : ad.block < b) (ad' : Addr) (hd : cap ≠ 1 → ad' = ad.add 1) (hd1 : cap = 1 → ad' = ad) :
    Rd (w.setCell ⟨b, 0, none⟩ (.slice (some ad') l.length (cap - 1))) b (some l) := by
  have hbl : ad'.block = ad.block := by
    by_cases h1 : cap = 1
    · rw [hd1 h1]
    · rw [hd h1]; simp [Addr.add]
  obtain ⟨ao', n', cap', e, h1, h2, h3, h4, h5⟩ := hb
  cases e
  have hB : Bts w (.slice (some ad') l.length (cap - 1)) l := by
    refine ⟨_, _, _, rfl, rfl, by omega, by omega, (fun h => by cases h), fun ad2 h2' j hj => ?_⟩
    obtain rfl := Option.some.inj h2'
    have := h5 ad rfl (j + 1) (by simp; omega)
    rw [hd (by omega)]
    rw [show (ad.add 1).add j = ad.add (j + 1) from by rw [Addr.add_add]; rw [Nat.add_comm]]
    simpa using this
  refine ⟨some ad', cap - 1, heap_setCell_same w b 0 _ _ _ h, ?_, fun ad2 h2' => by obtain rfl := Option.some.inj h2'; rw [hbl]; exact hne⟩
  exact hB.other (grown_set w b 0 _) fun ad2 h2' => by obtain rfl := Option.some.inj h2'; rw [hbl]; omega

set_option maxHeartbeats 800000 in
theorem rbyte_any (b : Nat) (s : Option (List UInt8)) (w : World) (hr : Rd w b s) :
    Calls Try.prog 34 #[.pointer (some ⟨b, 0, none⟩)] w fun e w' => e = .returned (.int .u8 (byteR s).toNat) ∧ Rd w' b (byteS s) ∧ w.grownBy w' (some b) := by
  have HR := hio hr
  match s, hr, HR with
  | none, _, HR =>
    go_enter Try.func34, Try.ntmps34
    go_wp2_with (first | (go_at_call 14; refine (left_any _ _ _ HR.out).mono ?_; rintro e w' ⟨rfl, rfl⟩; simp only [leftN]) | (go_at_call 67; refine (spoil_any _ _ _ HR.out).mono ?_; rintro e w1 ⟨rfl, hr1, hg1⟩; have HR1 := hio hr1; clear hr1))
    go_ret
    exact ⟨rfl, HR1.out, hg1⟩
  | some [], _, HR =>
    go_enter Try.func34, Try.ntmps34
    go_wp2_with (first | (go_at_call 14; refine (left_any _ _ _ HR.out).mono ?_; rintro e w' ⟨rfl, rfl⟩; simp only [leftN, List.length_nil]) | (go_at_call 67; refine (spoil_any _ _ _ HR.out).mono ?_; rintro e w1 ⟨rfl, hr1, hg1⟩; have HR1 := hio hr1; clear hr1))
    go_ret
    exact ⟨rfl, HR1.out, hg1⟩
  | some (c :: l), hr, HR =>
    obtain ⟨ao, cap, h, hb, hne⟩ := hr
    have HB := hio hb
    obtain ⟨ao', n', cap', e, h1, h2, h3, h4, h5⟩ := hb
    cases e
    have hao : ∃ ad, ao = some ad := by cases ao with | none => exact absurd (h4 rfl) (by rw [List.length_cons] at h2; omega) | some ad => exact ⟨ad, rfl⟩
    obtain ⟨ad, rfl⟩ := hao
    have hcell : w.cell? ad = some (.int .u8 (c.toNat : Int)) := by have := h5 ad rfl 0 (by simp); rw [Addr.add_zero'] at this; exact this
    obtain ⟨hc0, hc1, hf0, hf1⟩ := cell_two h
    have H := hio h
    have hnb := hio (hne ad rfl)
    have hn : (((l.length + 1 : Nat) : Int) == 0) = false := by simp; omega
    clear h hne h5 h4 h1
    rw [List.length_cons] at hc0 h2
    go_enter Try.func34, Try.ntmps34
    go_wp2_with (first | (go_at_call 14; refine (left_any _ _ _ HR.out).mono ?_; rintro e w' ⟨rfl, rfl⟩; simp only [leftN, List.length_cons]))
    · have hc1' : cap = 1 := by assumption
      subst hc1'
      go_ret
      exact ⟨rfl, Rd.byte H.out HB.out hnb.out ad (fun h => absurd rfl h) (fun _ => rfl), grown_set _ _ _ _⟩
    · have hc1' : ¬ cap = 1 := by assumption
      go_ret
      exact ⟨rfl, Rd.byte H.out HB.out hnb.out _ (fun _ => by rw [Addr.add_succ']) (fun h => absurd h hc1'), grown_set _ _ _ _⟩

set_option maxHeartbeats 400000 in
theorem newReader_any (v : Value) (l : List UInt8) (w : World) (hv : Bts w v l) (hl : l.length ≤ 140737488355328) :
    Calls Try.prog 11 #[v] w fun e w' => ∃ b, e = .returned (.pointer (some ⟨b, 0, none⟩)) ∧ w.heap.size ≤ b ∧ Rd w' b (some l) ∧ Below w.heap.size w w' := by
  have HV := hio hv
  obtain ⟨va, vc, rfl⟩ := hv.shape
  clear hv
  go_enter Try.func11, Try.ntmps11
  go_wp2_with (at_builtin; refine wpl_append rfl _ _ rfl w.heap.size (.slice none 0 0) [] rfl (Own.nil _ _) _ l rfl HV.out (by simp; omega) (Nat.le_refl _) ?_; intro va' vc' w1 ho1 hg1)
  simp only [List.length_nil, Nat.zero_add, List.nil_append] at ho1
  have hB : Below w.heap.size w w1 := ⟨hg1.os, hg1.tape, hg1.output, hg1.size, fun k hk => hg1.block k hk (by simp [Value.ownBlock])⟩
  have HB := hio hB
  have hsz := hB.size
  go_ret
  refine ⟨w1.heap.size, rfl, hsz, ⟨va', vc', heap_alloc_new _ _, ho1.bts.alloc _, fun ad had => ?_⟩, HB.out.alloc hsz _⟩
  subst had
  exact (World.ownsRow.lt ho1 ad.block rfl).2
end Go.Proofs.Ytabmnelenfghhaa
