/- Whether more than half of the voters fit, by whatever function that only reads. -/
import Derived.Test.YtjimneaimnjanaaCoOthers
namespace Go.Proofs.Ytjimneaimnjanaa
open Go.RowKit
set_option linter.unusedVariables false
set_option linter.unusedSimpArgs false

def EntF (F : FuncId) : Prop := ∀ (args : Array Value) (w : World), (callFunc F args).run Try.prog w = .ok (.enter F args) w
/-- More than half of the row fit. -/
def majB (L : List Int) (p : Int → Bool) : Bool := decide ((L.length : Int) < 2 * ((L.filter p).length : Int))
set_option maxRecDepth 100000 in
set_option maxHeartbeats 4000000 in
theorem majority_any (base b : Nat) (lv : Value) (D : CoD) (F : FuncId) (caps : Array Value) (p : Int → Bool) (w : World) (h : Co w base b lv D) (hi : CoI D) (hs : (vNow D).size ≤ 999999) (hef : EntF F)
    (hf : ∀ W, Below w.heap.size w W → ∀ x ∈ vRow (vNow D), Calls Try.prog F (#[.int .i64 x] ++ caps) W fun e w' => e = .returned (.bool (p x)) ∧ ∃ m, w' = W.drewN m) :
    Calls Try.prog 106 #[.pointer (some ⟨b, 0, none⟩), .func (.func F) #[] caps] w fun e w' => e = .returned (.bool (majB (vRow (vNow D)) p)) ∧ Below w.heap.size w w' := by
  have H := hid h
  have HI := hid hi
  have HS := hid hs
  have HF := hid hf
  have hef' : ∀ (args : Array Value) (w : World), (callFunc F args).run Try.prog w = .ok (.enter F args) w := hef
  have hl9 : (vRow (vNow D)).length ≤ 999999 := by rw [vRow_len]; split <;> omega
  clear h hi hs hf hef
  obtain ⟨L, hL⟩ : ∃ L, L = vRow (vNow D) := ⟨_, rfl⟩
  have HC := hid (fun W (hW : Co W base b lv D) => cvoters_any base b lv D W hW HI.out HS.out)
  have HLV := hid hL
  rw [← hL] at HC hl9 HF
  clear hL
  go_enter Try.func106, Try.ntmps106
  go_wp2_with (go_at_call 19; refine (HC.out _ H.out).mono ?_; rintro e w1 ⟨v1, rfl, hb1, ho1⟩; obtain ⟨va1, vc1, rfl⟩ := own_shape ho1; have B1 := hid hb1; have N1 := hid (nums_own ho1 rfl); clear hb1 ho1)
  go_loopw [6, 8, 13] (fun nv _ iv wr => ∃ i : Nat, iv = .int .i64 i ∧ i ≤ L.length ∧ nv = .int .i64 (((L.take i).filter p).length : Nat) ∧ Below w1.heap.size w1 wr) (fun _ _ iv _ => L.length - (intOf iv).toNat)
  case atStart => exact ⟨0, rfl, Nat.zero_le _, rfl, Below.refl _ _⟩
  case round =>
    obtain ⟨i, rfl, hi, rfl, hb⟩ := hrel
    have B := hid hb
    clear hb
    have hfl : ((L.take i).filter p).length ≤ i := by
      have := List.length_filter_le p (L.take i)
      simp at this; omega
    by_cases hlt : (i : Int) < (L.length : Int)
    · have hil : i < L.length := by omega
      have HNR := hid (N1.out.below B.out)
      obtain ⟨gd, od, rfl⟩ := HNR.out.addr (by omega)
      have c0 := HNR.out.lit i hil
      have HFT := hid (filter_take p L i hil)
      have HCX := hid (HF.out wr (B1.out.trans (B.out.mono B1.out.size)) L[i] (List.getElem_mem hil))
      obtain ⟨k, hk⟩ : ∃ k, k = ((L.take i).filter p).length := ⟨_, rfl⟩
      have HK := hid hk
      rw [← hk] at hfl
      rw [← hk]
      clear hk
      generalize L[i] = x at *
      go_wp2_with fail
      refine HCX.out.mono ?_
      rintro e w2 ⟨rfl, m2, rfl⟩
      have B2 := hid (B.out.trans ((belowN wr m2).mono B.out.size))
      cases hp : p x with
      | true =>
        have HN : Hid (((L.take (i + 1)).filter p).length = k + 1) := hid (by rw [HFT.out, hp, HK.out]; simp)
        clear hp
        go_wp2_with fail
        go_roundw
        case rel => exact ⟨i + 1, by go_num, by omega, by rw [HN.out]; go_num, B2.out⟩
        case measure => simp [intOf]; omega
      | false =>
        have HN : Hid (((L.take (i + 1)).filter p).length = k) := hid (by rw [HFT.out, hp, HK.out]; simp)
        clear hp
        go_wp2_with fail
        go_roundw
        case rel => exact ⟨i + 1, by go_num, by omega, by rw [HN.out], B2.out⟩
        case measure => simp [intOf]; omega
    · obtain rfl : i = L.length := by omega
      have HM : Hid (majB (vRow (vNow D)) p = decide ((L.length : Int) < 2 * (((L.take L.length).filter p).length : Int))) := hid (by rw [← HLV.out, List.take_length]; rfl)
      obtain ⟨k, hk⟩ : ∃ k, k = ((L.take L.length).filter p).length := ⟨_, rfl⟩
      rw [← hk] at hfl HM
      rw [← hk]
      clear hk
      have hw2 : IntKind.i64.wrap (2 * (k : Int)) = 2 * (k : Int) := IntWalk.i64_in _ ⟨by omega, by omega⟩
      go_wp2_with fail
      go_ret
      exact ⟨by rw [HM.out]; rfl, B1.out.trans (B.out.mono B1.out.size)⟩
end Go.Proofs.Ytjimneaimnjanaa
