/- How a number is read from bytes: the loop of the Reader's Num as a function on lists, and what the call answers. Conditions: the Reader lies in memory. -/
import Derived.Test.YtabmnelenfghhaaReader
namespace Go.Proofs.Ytabmnelenfghhaa
open Go.RowKit

/-- The rounds: c the byte that was taken last, n what has been read, l what is left. -/
def numGo : List UInt8 → Nat → Nat → Nat × Option (List UInt8)
  | [], c, n => if c < 128 then (n, some []) else (0, none)
  | d :: l, c, n => if c < 128 then (n, some (d :: l)) else if 144115188075855871 < n then (0, none) else numGo l d.toNat (n * 128 + d.toNat % 128)
def numR : Option (List UInt8) → Nat × Option (List UInt8)
  | none => (0, none)
  | some [] => (0, none)
  | some (c :: l) => if c.toNat = 128 then (0, none) else numGo l c.toNat (c.toNat % 128)
theorem numGo_low (l : List UInt8) (c n : Nat) (h : c < 128) : numGo l c n = (n, some l) := by cases l <;> simp [numGo, h]
theorem numGo_big (l : List UInt8) (c n : Nat) (h : ¬ c < 128) (hn : 144115188075855871 < n) : numGo l c n = (0, none) := by cases l <;> simp [numGo, h, hn]
theorem numGo_end (c n : Nat) (h : ¬ c < 128) : numGo [] c n = (0, none) := by simp [numGo, h]
theorem numGo_cons (l : List UInt8) (d : UInt8) (c n : Nat) (h : ¬ c < 128) (hn : ¬ 144115188075855871 < n) : numGo (d :: l) c n = numGo l d.toNat (n * 128 + d.toNat % 128) := by simp [numGo, h, hn]
theorem numGo_lt (l : List UInt8) (c n : Nat) (hn : n < 18446744073709551616) : (numGo l c n).1 < 18446744073709551616 := by
  induction l generalizing c n with
  | nil =>
    unfold numGo
    split
    · exact hn
    · simp
  | cons d l ih =>
    unfold numGo
    split
    · exact hn
    · split
      · simp
      · exact ih _ _ (by omega)
theorem numR_lt (s : Option (List UInt8)) : (numR s).1 < 18446744073709551616 := by
  match s with
  | none => simp [numR]
  | some [] => simp [numR]
  | some (c :: l) =>
    by_cases h : c.toNat = 128
    · simp [numR, h]
    · have := numGo_lt l c.toNat (c.toNat % 128) (by omega)
      simpa [numR, h] using this
/-- What is known at a round's head. -/
def NumSt (s : Option (List UInt8)) (c n : Nat) : Option (List UInt8) → Prop
  | some l => numR s = numGo l c n
  | none => c = 0 ∧ numR s = (0, none)
theorem NumSt.start (s : Option (List UInt8)) (h : (byteR s).toNat ≠ 128) : NumSt s (byteR s).toNat ((byteR s).toNat % 128) (byteS s) := by
  match s, h with
  | none, _ => exact ⟨rfl, rfl⟩
  | some [], _ => exact ⟨rfl, rfl⟩
  | some (c :: l), h => simp only [byteR] at h; simp [NumSt, numR, byteR, byteS, h]
theorem NumSt.low {s : Option (List UInt8)} {c n : Nat} {st : Option (List UInt8)} (h : NumSt s c n st) (hc : c < 128) : numR s = if badO st then (0, none) else (n, st) := by
  cases st with
  | none => exact h.2
  | some l => rw [show numR s = numGo l c n from h, numGo_low _ _ _ hc]; rfl
theorem NumSt.high {s : Option (List UInt8)} {c n : Nat} {st : Option (List UInt8)} (h : NumSt s c n st) (hc : ¬ c < 128) : ∃ l, st = some l ∧ numR s = numGo l c n := by
  cases st with
  | none => exact absurd h.1 (by omega)
  | some l => exact ⟨l, rfl, h⟩
theorem NumSt.next {s : Option (List UInt8)} {c n : Nat} {l : List UInt8} (h : numR s = numGo l c n) (hc : ¬ c < 128) (hn : ¬ 144115188075855871 < n) :
    NumSt s (byteR (some l)).toNat (n * 128 + (byteR (some l)).toNat % 128) (byteS (some l)) := by
  cases l with
  | nil => exact ⟨rfl, by rw [h, numGo_end _ _ hc]⟩
  | cons d l => show numR s = _; rw [h, numGo_cons _ _ _ _ hc hn]; rfl
theorem u8_and127 (c : Nat) (h : c < 256) : bits .and .u8 (c : Int) 127 = (c : Int) % 128 := by
  rw [u8_and _ 127 (by omega) (by omega) (by omega) (by omega)]
  have : (c : Int).toNat &&& (127 : Int).toNat = c % 128 := Nat.and_two_pow_sub_one_eq_mod _ 7
  rw [this]; omega
theorem u64_or_low (n m : Nat) (hn : n ≤ 144115188075855871) : bits .or .u64 ((n : Int) * 128) ((m : Int) % 128) = (n : Int) * 128 + (m : Int) % 128 := by
  rw [u64_or _ _ (by omega) (by omega) (by omega) (by omega)]
  have e : ((n : Int) * 128).toNat = 2 ^ 7 * n := by omega
  rw [e, ← Nat.two_pow_add_eq_or_of_lt (by omega)]; omega
/-- What is left, and whether the loop goes on: falls with each round. -/
def msr (b : Nat) (c : Value) (w : World) : Nat := 2 * (match w.cell? ⟨b, 0, none⟩ with | some (.slice _ n _) => n | _ => 0) + (if intOf c < 128 then 0 else 1)
theorem msr_of {w : World} {b : Nat} {s : Option (List UInt8)} (h : Rd w b s) (k : IntKind) (c : Int) : msr b (.int k c) w = 2 * leftN s + (if c < 128 then 0 else 1) := by
  obtain ⟨ao, cap, h⟩ := h.cells
  have := (cell_two h).1
  unfold msr
  rw [this]
  rfl

def Fits (c n : Nat) : Prop := c < 256 ∧ n ≤ 18446744073709551615
set_option maxHeartbeats 1600000 in
theorem rnum_any (b : Nat) (s : Option (List UInt8)) (w : World) (hr : Rd w b s) :
    Calls Try.prog 44 #[.pointer (some ⟨b, 0, none⟩)] w fun e w' => e = .returned (.int .u64 (numR s).1) ∧ Rd w' b (numR s).2 ∧ w.grownBy w' (some b) := by
  have HR := hio hr
  clear hr
  by_cases h128 : (byteR s).toNat = 128
  · have HN : Hid (numR s = (0, none)) := hio (by
      match s, h128 with
      | none, h => simp [byteR] at h
      | some [], h => simp [byteR] at h
      | some (c :: l), h => simp only [byteR] at h; simp [numR, h])
    go_enter Try.func44, Try.ntmps44
    go_wp2_with fail
    refine (rbyte_any _ _ _ HR.out).mono ?_
    rintro e w1 ⟨rfl, hr1, hg1⟩
    have HR1 := hio hr1
    clear hr1
    rw [h128]
    go_wp2_with fail
    refine (spoil_any _ _ _ HR1.out).mono ?_
    rintro e w2 ⟨rfl, hr2, hg2⟩
    have HR2 := hio hr2
    clear hr2
    go_wp2
    go_ret
    rw [HN.out]
    exact ⟨rfl, HR2.out, grown_trans hg1 hg2⟩
  · have hlt := (byteR s).toNat_lt
    have hst := NumSt.start s h128
    obtain ⟨c0, hc0⟩ : ∃ c0 : Nat, c0 = (byteR s).toNat := ⟨_, rfl⟩
    have HC := hio hc0
    rw [← hc0] at h128 hlt hst
    have HST := hio hst
    clear hc0 hst
    have e1 := u8_and127 c0 (by omega)
    have hb128 : ((c0 : Int) == 128) = false := by simp; omega
    have hlt2 : (c0 : Int) ≤ 255 := by omega
    clear hlt
    go_enter Try.func44, Try.ntmps44
    go_wp2_with fail
    refine (rbyte_any _ _ _ HR.out).mono ?_
    rintro e w1 ⟨rfl, hr1, hg1⟩
    rw [← HC.out]
    have HR1 := hio hr1
    have HG1 := hio hg1
    clear hr1 hg1 HR
    go_wp2
    clear e1 hb128
    go_loopw [3, 4] (fun cv nv wr => ∃ (c n : Nat) (st : Option (List UInt8)), cv = .int .u8 (c : Int) ∧ nv = .int .u64 (n : Int) ∧ Fits c n ∧ Rd wr b st ∧ w.grownBy wr (some b) ∧ NumSt s c n st) (fun cv _ wr => msr b cv wr)
    case atStart => exact ⟨c0, c0 % 128, byteS s, rfl, by simp, ⟨by omega, by omega⟩, HR1.out, HG1.out, HST.out⟩
    case round =>
      obtain ⟨c, n, st, rfl, rfl, hn, hrd, hg, hN⟩ := hrel
      clear HR1 HST HG1
      have HRD := hio hrd
      have HG := hio hg
      have HN := hio hN
      have hcl : (c : Int) ≤ 255 := by have := hn.1; omega
      have hn2 : (n : Int) ≤ 18446744073709551615 := by have := hn.2; omega
      clear hrd hg hN hn h128
      by_cases hc : (128 : Int) ≤ (c : Int)
      · obtain ⟨l, rfl, hl⟩ := HN.out.high (by omega)
        by_cases hbig : (144115188075855871 : Int) < (n : Int)
        · have HE := hio (hl.trans (numGo_big l c n (by omega) (by omega)))
          clear hl
          go_wp2_with (go_at_call 67; refine (spoil_any _ _ _ HRD.out).mono ?_; rintro e w2 ⟨rfl, hr2, hg2⟩; have HR2 := hio hr2; clear hr2)
          go_ret
          rw [HE.out]
          exact ⟨rfl, HR2.out, grown_trans HG.out hg2⟩
        · have HE := hio (NumSt.next hl (by omega) (by omega))
          clear hl
          have hbl := (byteR (some l)).toNat_lt
          have hm0 := msr_of HRD.out .u8 (c : Int)
          have HM0 := hio hm0
          clear hm0
          obtain ⟨d, hd⟩ : ∃ d : Nat, d = (byteR (some l)).toNat := ⟨_, rfl⟩
          rw [← hd] at HE hbl
          have HD := hio hd
          clear hd
          have e2 := u8_and127 d (by omega)
          have e3 := u64_or_low n d (by omega)
          have hdl : (d : Int) ≤ 255 := by omega
          clear hbl
          go_wp2_with (go_at_call 34; refine (rbyte_any _ _ _ HRD.out).mono ?_; rintro e w2 ⟨rfl, hr2, hg2⟩; rw [← HD.out]; have HR2 := hio hr2; clear hr2)
          go_roundw
          case rel => exact ⟨d, n * 128 + d % 128, _, rfl, by go_num, ⟨by omega, by omega⟩, HR2.out, grown_trans HG.out hg2, HE.out⟩
          case measure =>
            have h1 := msr_of HR2.out .u8 (d : Int)
            have h2 := HM0.out
            rw [if_neg (by omega)] at h2
            rw [h1, h2]
            have h3 := HD.out
            clear h1 h2
            cases l with
            | nil =>
              have : d = 0 := h3
              rw [if_pos (by omega)]; simp [leftN, byteS]
            | cons x l => simp only [leftN, byteS, List.length_cons]; split <;> omega
      · have HE := hio (HN.out.low (by omega))
        cases st with
        | none =>
          go_wp2_with (go_at_call 15; refine (bad_any _ _ _ HRD.out).mono ?_; rintro e w2 ⟨rfl, rfl⟩; simp only [badO])
          go_ret
          rw [HE.out]
          exact ⟨rfl, HRD.out, HG.out⟩
        | some l =>
          go_wp2_with (go_at_call 15; refine (bad_any _ _ _ HRD.out).mono ?_; rintro e w2 ⟨rfl, rfl⟩; simp only [badO])
          go_ret
          rw [HE.out]
          exact ⟨rfl, HRD.out, HG.out⟩
end Go.Proofs.Ytabmnelenfghhaa
