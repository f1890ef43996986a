/- The document's examples of devices are as it says: lives answers true, whatever lies in memory; nothing that was there has turned. -/
import Derived.Test.YtpchmdfkifbciaaDkLog
import Derived.Lib.SlBytesConst
namespace Go.Proofs.Ytpchmdfkifbciaa
open Go.RowKit

/-- The device at b lies above B; since w0 only what lies above B has turned. -/
def At (B : Nat) (w0 w : World) (b : Nat) (S : DS) : Prop := ∃ R, Dk w b R S ∧ (∀ k, R k → B ≤ k) ∧ Below B w0 w
theorem Step.at {B : Nat} {w0 w w' : World} {b : Nat} {R : Nat → Prop} {S' : DS} (h : Step w b R w' S') (hB : Below B w0 w) (hBs : B ≤ w0.heap.size) (hr : ∀ k, R k → B ≤ k) : At B w0 w' b S' := by
  obtain ⟨R', d, t, r⟩ := h
  have hs := hB.size
  refine ⟨R', d, fun k hk => ?_, hB.trans (t.below (by omega) hr)⟩
  rcases r k hk with h | h
  · exact hr k h
  · omega
theorem At.do {B : Nat} {w0 w : World} {b : Nat} {S S' : DS} {f : FuncId} {args : Array Value} {v : Value} (h : At B w0 w b S) (hB : B ≤ w0.heap.size) (hc : ∀ R, Dk w b R S → Calls Try.prog f args w fun e w' => e = .returned v ∧ Step w b R w' S') :
    Calls Try.prog f args w fun e w' => e = .returned v ∧ At B w0 w' b S' := by
  obtain ⟨R, d, r, hb⟩ := h
  exact (hc R d).mono fun e w' h => ⟨h.1, h.2.at hb hB r⟩
theorem At.later {B : Nat} {w0 w w' : World} {b : Nat} {S : DS} (h : At B w0 w b S) (hB : B ≤ w0.heap.size) (hb : Below w.heap.size w w') : At B w0 w' b S := by
  obtain ⟨R, d, r, h0⟩ := h
  exact ⟨R, d.below hb, r, h0.trans (hb.mono (Nat.le_trans hB h0.size))⟩
theorem At.below {B : Nat} {w0 w : World} {b : Nat} {S : DS} (h : At B w0 w b S) : Below B w0 w := by obtain ⟨_, _, _, h⟩ := h; exact h
theorem At.new {w w' : World} {b : Nat} {R : Nat → Prop} {S : DS} (h : Dk w' b R S) (hr : ∀ k, R k → w.heap.size ≤ k) (hb : Below w.heap.size w w') : At w.heap.size w w' b S := ⟨R, h, hr, hb⟩
/-- A block of bytes, as a slice. -/
theorem bts_block {W : World} {k : Nat} {cs : Array Value} {t : TypeId} {fr : Nat × Nat} (l : List UInt8) (h : W.heap[k]? = some (.cells cs t fr)) (hc : cs = (l.map bv).toArray) (n : Nat) (hn : n = l.length) (hl : n ≤ 9223372036854775807) :
    Bts W (.slice (some ⟨k, 0, none⟩) n n) l := by
  subst hc
  refine ⟨_, _, _, rfl, hn, Nat.le_refl _, hl, (fun h => by cases h), ?_⟩
  intro ad had j hj
  obtain rfl := Option.some.inj had
  rw [Addr.add_lit, cell_of_row W k _ _ _ _ h]
  simp [bv, hj]
def zeros : List UInt8 := List.replicate 600 0
theorem zeros_len : zeros.length = 600 := List.length_replicate
theorem zeros_made : (madeCells (Value.int .u8 0).cells (600 * 1)).toList = zeros.map bv := by kernel_rfl
/-- A Bts as a string. -/
theorem Try.underlyingStr : Try.prog.underlying 9 = some .string := by kernel_rfl
theorem conv_string (w : World) (v : Value) (l : List UInt8) (hv : Bts w v l) : (convert 34 9 v).run Try.prog w = .ok (.string ⟨l.toArray⟩) w := by
  obtain ⟨ao, n, cap, rfl, rfl, hc, hm, hnone, hcell⟩ := hv
  cases ao with
  | some ad => exact run_convert_bytes_back w _ _ _ ad cap l Try.underlyingB Try.underlyingU Try.underlyingStr (hcell ad rfl)
  | none =>
    have h0 := hnone rfl
    subst h0
    have hl : l = [] := List.eq_nil_of_length_eq_zero (by omega)
    subst hl
    rw [run_convert_bytes_string w _ _ _ none _ 0 Try.underlyingB Try.underlyingU Try.underlyingStr]
    simp [Conv.bytesToString]
    rfl
def ex1 : DS := writeS (newS 2) (layS (newS 2) zeros) (layS (newS 2) zeros)
def ex2 : DS := writeS (newS 2) (layS (newS 2) [97, 98]) (layS (newS 2) [97, 98])
def ex3 : DS := writeS ex2 (syncS ex2) ex2
def ex4 : DS := writeS ex3 (layS ex3 [99, 100]) (layS ex3 [99, 100])
def ex5 : DS := crashS ex4 1
theorem ex_all : writeE (newS 2) (layE (newS 2) zeros) = 0 ∧ writeE ex1 (stageE ex1 [1]) = 3 ∧ toldL ex5 ex5.log = [97, 98, 99] ∧ toldE ex5 = 0 ∧ usedS ex5 = 1 ∧ ex5.room = 2 := by decide +kernel
end Go.Proofs.Ytpchmdfkifbciaa
