/- Numbers of 32 bits as four bytes, the lowest first: what layWord and takeWord of package octet do. Conditions: the row is the call's own; at least four bytes stand there. -/
import Derived.Test.YtpchmdfkifbciaaJnOwn
namespace Go.Proofs.Ytpchmdfkifbciaa
open Go.RowKit

def wordGo : Nat → Nat → List UInt8
  | 0, _ => []
  | k + 1, q => UInt8.ofNat (q % 256) :: wordGo k (q / 256)
/-- A number's four bytes. -/
def fourB (n : Nat) : List UInt8 := wordGo 4 n
theorem fourB_len (n : Nat) : (fourB n).length = 4 := rfl
/-- The number of the first four bytes. -/
def wordV : List UInt8 → Nat
  | a :: b :: c :: d :: _ => a.toNat + b.toNat * 256 + c.toNat * 65536 + d.toNat * 16777216
  | _ => 0
theorem wordV_lt (l : List UInt8) : wordV l < 4294967296 := by
  match l with
  | [] => simp [wordV]
  | [_] => simp [wordV]
  | [_, _] => simp [wordV]
  | [_, _, _] => simp [wordV]
  | a :: b :: c :: d :: _ =>
    have := a.toNat_lt; have := b.toNat_lt; have := c.toNat_lt; have := d.toNat_lt
    simp only [wordV]; omega
theorem byte_back (n : Nat) (h : n < 256) : (UInt8.ofNat n).toNat = n := by rw [UInt8.toNat_ofNat', Nat.mod_eq_of_lt (by simpa using h)]
theorem wordV_fourB (n : Nat) (t : List UInt8) (h : n < 4294967296) : wordV (fourB n ++ t) = n := by
  show (UInt8.ofNat (n % 256)).toNat + (UInt8.ofNat (n / 256 % 256)).toNat * 256 + (UInt8.ofNat (n / 256 / 256 % 256)).toNat * 65536 + (UInt8.ofNat (n / 256 / 256 / 256 % 256)).toNat * 16777216 = n
  rw [byte_back _ (by omega), byte_back _ (by omega), byte_back _ (by omega), byte_back _ (by omega)]; omega
theorem fourB_wordV (a b c d : UInt8) (t : List UInt8) : fourB (wordV (a :: b :: c :: d :: t)) = [a, b, c, d] := by
  have ha := a.toNat_lt; have hb := b.toNat_lt; have hc := c.toNat_lt; have hd := d.toNat_lt
  have e : ∀ (x : UInt8) (n : Nat), n = x.toNat → UInt8.ofNat n = x := fun x n h => by apply UInt8.toNat_inj.1; rw [byte_back _ (by have := x.toNat_lt; omega), h]
  show [UInt8.ofNat _, UInt8.ofNat _, UInt8.ofNat _, UInt8.ofNat _] = _
  simp only [wordV]
  rw [e a _ (by omega), e b _ (by omega), e c _ (by omega), e d _ (by omega)]

set_option maxHeartbeats 800000 in
theorem layWord_any (base : Nat) (va : Option Addr) (vc : Nat) (l : List UInt8) (n : Int) (w : World) (h0 : 0 ≤ n) (h1 : n < 4294967296) (ho : Own w base (.slice va l.length vc) l) (hb : base ≤ w.heap.size) (hl : l.length ≤ 1000000000) :
    Calls Try.prog 78 #[.slice va l.length vc, .int .u32 n] w fun e w' => ∃ va' vc', e = .returned (.slice va' (l.length + 4) vc') ∧ Own w' base (.slice va' (l.length + 4) vc') (l ++ fourB n.toNat) ∧ Below base w w' := by
  have HO := hid ho
  obtain ⟨n0, rfl⟩ := Int.eq_ofNat_of_zero_le h0
  rw [Int.toNat_natCast]
  have H1 := hid h1
  clear ho h1
  go_enter Try.func78, Try.ntmps78
  go_wp2
  go_loopw [0, 1, 5] (fun bvv nv iv wr => ∃ (i q : Nat) (acc : List UInt8) (va' : Option Addr) (vc' : Nat), iv = .int .i64 i ∧ nv = .int .u32 q ∧ i ≤ 4 ∧ acc.length = i ∧ q ≤ n0 ∧ bvv = .slice va' (l.length + i) vc' ∧ Own wr base (.slice va' (l.length + i) vc') (l ++ acc) ∧ acc ++ wordGo (4 - i) q = fourB n0 ∧ Below base w wr) (fun _ _ iv _ => 4 - (intOf iv).toNat)
  case atStart => exact ⟨0, n0, [], va, vc, rfl, rfl, by omega, rfl, Nat.le_refl _, rfl, by simpa using HO.out, rfl, Below.refl _ _⟩
  case round =>
    obtain ⟨i, q, acc, va', vc', rfl, rfl, hi, hal, hq, rfl, hown, hW, hbl⟩ := hrel
    have HOW := hid hown
    have HWG := hid hW
    have HB := hid hbl
    have hs := hbl.size
    have HAL := hid hal
    have hq2 : (q : Int) ≤ 4294967295 := by have := H1.out; omega
    clear hown hW hbl HO hal
    by_cases hlt : (i : Int) < 4
    · have HX := hid (bts_block (W := wr.alloc (.cells #[.int .u8 ((q : Int) % 256)] 5)) [UInt8.ofNat (q % 256)] (heap_alloc_new _ _) (by rw [List.map_cons, bv_num _ (by omega)]; simp) 1 rfl (by omega))
      have HOA := hid (HOW.out.below ((Below.refl _ _).alloc (Nat.le_refl _) (.cells #[.int .u8 ((q : Int) % 256)] 5)))
      have hll : (l ++ acc).length = l.length + i := by rw [List.length_append, HAL.out]
      have HLL := hid hll
      clear hll
      go_wp2_with (at_builtin; refine wpl_appendO rfl (.tmp 7) (.tmp 10) rfl base (.slice va' (l.length + i) vc') (l ++ acc) rfl HOA.out _ [UInt8.ofNat (q % 256)] rfl HX.out (by rw [HLL.out]; simp; omega) (by simp; omega) ?_; intro va1 vc1 w2 ho1 hg1; rw [HLL.out] at ho1 ⊢; have hb2 := hid ((HB.out.alloc (by omega) _).trans (below_grown HOA.out hg1 (by simp; omega))); have HO2 := hid ho1; clear ho1 hg1)
      go_roundw
      case rel =>
        refine ⟨i + 1, q / 256, acc ++ [UInt8.ofNat (q % 256)], va1, vc1, by go_num, by go_num, by omega, by simp [HAL.out], by omega, by simp [Nat.add_assoc], ?_, ?_, hb2.out⟩
        · have := HO2.out
          simp only [List.length_cons, List.length_nil, Nat.zero_add] at this
          rw [← List.append_assoc, ← Nat.add_assoc]; exact this
        · have := HWG.out
          rw [show 4 - i = (4 - (i + 1)) + 1 from by omega] at this
          rw [List.append_assoc]; exact this
      case measure => simp [intOf]; omega
    · obtain rfl : i = 4 := by omega
      go_wp2
      go_ret
      have e : acc = fourB n0 := by have := HWG.out; simpa [wordGo] using this
      subst e
      exact ⟨va', vc', rfl, HOW.out, HB.out⟩
end Go.Proofs.Ytpchmdfkifbciaa
