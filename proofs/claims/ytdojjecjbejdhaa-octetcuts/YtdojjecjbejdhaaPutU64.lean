/- What Put lays with (*Reader).Num. Conditions: the Writer and the list lie in memory; the elements fit. -/
import Derived.Test.YtdojjecjbejdhaaPutBase
namespace Go.Proofs.Ytdojjecjbejdhaa
open Go.RowKit

def pvU64 (x : Nat) : Value := .int .u64 (x : Int)
def pokU64 (x : Nat) : Prop := (x : Int) ≤ 18446744073709551615
def pencU64 (x : Nat) : List UInt8 := numB x

set_option maxHeartbeats 1600000 in
theorem putU64_any (b : Nat) (l : List UInt8) (v : Value) (xs : List (Nat)) (w : World) (hw : Wr w b l) (hv : RowB pvU64 b w v xs) (hx : ∀ x ∈ xs, pokU64 x ∧ (pencU64 x).length ≤ 2000) (hl : l.length ≤ 1000000000) (hn : xs.length ≤ 1000) :
    Calls Try.prog 36 #[.pointer (some ⟨b, 0, none⟩), v, .func (.func 15) #[] #[]] w fun e w' =>
      e = .returned (.tuple #[]) ∧ Wr w' b (l ++ listB pencU64 xs) ∧ Below b w w' := by
  have HV := hid hv
  obtain ⟨ao, n0, cap, rfl, rfl, hc, hcap, hnone, hcell⟩ := hv
  have hblt := hw.lt
  have HW := hid hw
  have HX := hid hx
  have HNO := hid hnone
  clear hw hx hcell hnone
  have hnl := numB_len xs.length (by omega)
  have hfn := fun w => run_eql_fn w (.func 15) #[] #[] Try.underlying62
  go_enter Try.func36, Try.ntmps36
  go_wp2_with (first
    | (go_at_call 15; refine (num_any _ _ _ _ (by omega) (by omega) HW.out (by omega)).mono ?_; rintro e w1 ⟨rfl, hw1, hb1⟩; rw [Int.toNat_natCast] at hw1; have HW1 := hid hw1; have HB1 := hid hb1; clear hw1 hb1))
  clear hfn HW
  go_loopw [21] (fun iv wr => ∃ i : Nat, iv = .int .i64 i ∧ i ≤ xs.length ∧ Wr wr b (l ++ numB xs.length ++ (xs.take i).flatMap pencU64) ∧ Below b w wr) (fun iv _ => xs.length - (intOf iv).toNat)
  case atStart => exact ⟨0, rfl, Nat.zero_le _, by simpa using HW1.out, HB1.out⟩
  case round =>
    obtain ⟨i, rfl, hin, hwr, hbr⟩ := hrel
    clear HW1 HB1
    have HWR := hid hwr
    have HBR := hid hbr
    clear hwr hbr
    by_cases hlt : (i : Int) < (xs.length : Int)
    · have hao : ∃ ad, ao = some ad := by cases ao with | none => exact absurd (HNO.out rfl) (by omega) | some ad => exact ⟨ad, rfl⟩
      obtain ⟨ad, rfl⟩ := hao
      have hi : i < xs.length := by omega
      have hck : wr.cell? (ad.add i) = some (pvU64 xs[i]) := by
        obtain ⟨ao1, _, _, e, g1, g2, g3, g4, g5⟩ := HV.out.below HBR.out (Nat.le_refl _)
        cases e
        exact (g5 ad rfl i hi).1
      have hok := HX.out xs[i] (List.getElem_mem hi)
      have HFT := hid (flat_take pencU64 xs i hi)
      have hfl := flat_take_len pencU64 xs i fun x hx => (HX.out x hx).2
      obtain ⟨x, hxx⟩ : ∃ x, x = xs[i] := ⟨_, rfl⟩
      rw [← hxx] at hck hok HFT
      clear hxx
      obtain ⟨hok1, hok2⟩ := hok
      simp only [pvU64] at hck
      unfold pokU64 at hok1
      have hx0 : (0 : Int) ≤ (x : Int) := by omega
      have hlen : (l ++ numB xs.length ++ (xs.take i).flatMap pencU64).length ≤ 1100000000 := by
        rw [List.length_append, List.length_append]; omega
      have HLEN := hid hlen
      clear hlen hfl hnl
      go_wp2_with (go_at_call 15; refine (num_nat _ _ x _ hok1 HWR.out (by have := HLEN.out; omega)).mono ?_; rintro e w2 ⟨rfl, hw2, hb2⟩; have HW2 : Hid (Wr w2 b (l ++ numB xs.length ++ (xs.take i).flatMap pencU64 ++ pencU64 x)) := hid hw2; have HB2 := hid (HBR.out.trans hb2); clear hw2 hb2)
      go_roundw
      case rel =>
        refine ⟨i + 1, by go_num, by omega, ?_, HB2.out⟩
        rw [HFT.out, ← List.append_assoc]; exact HW2.out
      case measure => simp [intOf]; omega
    · have hin' : i = xs.length := by omega
      go_wp2
      go_end0
      refine ⟨rfl, ?_, HBR.out⟩
      have := HWR.out
      rw [hin', List.take_length, List.append_assoc] at this
      exact this
end Go.Proofs.Ytdojjecjbejdhaa
