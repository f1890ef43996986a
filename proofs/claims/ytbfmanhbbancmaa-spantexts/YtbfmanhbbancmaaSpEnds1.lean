/- What the document's Ends answers for one row. -/
import Derived.Test.YtbfmanhbbancmaaSpEnds
namespace Go.Proofs.Ytbfmanhbbancmaa
open Go.RowKit

set_option maxRecDepth 100000 in
set_option maxHeartbeats 3200000 in
theorem rends1_any (g : Nat) (u : Value) (a : List Sp) (w : World) (hu : Sps w u a) (hg : w.heap[g]? = some (.cells #[u] 28 (0, 0))) (ha : a.length ≤ 1000000) :
    Calls Try.prog 23 #[.slice (some ⟨g, 0, none⟩) 1 1] w fun e w' => ∃ va vc, e = .returned (.slice va (ends2 a [] 1).length vc) ∧ OwnN w' w.heap.size (.slice va (ends2 a [] 1).length vc) (ends2 a [] 1) ∧ Below w.heap.size w w' := by
  have z0 : w.cell? ⟨g, 0, none⟩ = some u := by rw [cell_of_row _ _ _ _ _ _ hg]; rfl
  clear hg
  have HROW : Hid (∀ i, i < 1 → ∃ ua uc c, w.cell? ⟨g, i, none⟩ = some (.slice ua c.length uc) ∧ Sps w (.slice ua c.length uc) c ∧ c.length ≤ 1000000 ∧ (ends2 a [] i).length ≤ 2000000 ∧ ends2 a [] (i + 1) = endsL (ends2 a [] i) c) := hid (by
    obtain ⟨ua, uc, rfl⟩ := hu.shape
    intro i hi
    match i, hi with
    | 0, _ => exact ⟨ua, uc, a, z0, hu, ha, by simp [ends2], rfl⟩)
  clear z0 hu
  obtain ⟨F, hF⟩ : ∃ F, F = ends2 a [] := ⟨_, rfl⟩
  have HFR : Hid (∀ i, (F i).Pairwise fun x y => x < y) := hid (fun i => by rw [hF]; exact ends2_rises a [] i)
  have HF0 : Hid (F 0 = []) := hid (by rw [hF]; rfl)
  rw [← hF] at HROW ⊢
  clear hF
  go_enter Try.func23, Try.ntmps23
  go_wp2_with fail
  go_loopw [3, 5, 7, 10, 14, 15, 16] (fun ov _ _ iv _ _ _ wr => ∃ (i : Nat) (va : Option Addr) (vc : Nat) (q : List Int), iv = .int .i64 i ∧ ov = .slice va q.length vc ∧ i ≤ 1 ∧ q = F i ∧ OwnN wr w.heap.size (.slice va q.length vc) q ∧ Below w.heap.size w wr) (fun _ _ _ iv _ _ _ _ => 1 - (intOf iv).toNat)
  case atStart => exact ⟨0, none, 0, [], rfl, rfl, by omega, HF0.out.symm, OwnN.nil _ _, Below.refl _ _⟩
  case round =>
    obtain ⟨i, va, vc, q, rfl, rfl, hi, hq, ho, hb⟩ := hrel
    have HQ := hid hq
    have OA := hid ho
    have BA := hid hb
    clear hq ho hb
    by_cases hlt : i < 1
    · obtain ⟨ua, uc, c, r1, r2, r3, r4, r5⟩ := HROW.out i hlt
      have hltI : (i : Int) < 1 := by omega
      have r1' := cell_later BA.out r1
      have HC := hid (r2.below BA.out)
      have HW := hid r2
      have H4 := hid r4
      have H5 := hid r5
      clear r1 r2 r4 r5 hi
      go_wp2_with fail
      go_loopw [3, 7, 16] (fun ov _ jv wz => ∃ (j : Nat) (va : Option Addr) (vc : Nat) (q : List Int), jv = .int .i64 j ∧ ov = .slice va q.length vc ∧ j ≤ c.length ∧ q = endsL (F i) (c.take j) ∧ OwnN wz w.heap.size (.slice va q.length vc) q ∧ Below w.heap.size w wz) (fun _ _ jv _ => c.length - (intOf jv).toNat)
      case atStart => exact ⟨0, va, vc, q, rfl, rfl, Nat.zero_le _, HQ.out, OA.out, BA.out⟩
      case round =>
        obtain ⟨j, va, vc, q, rfl, rfl, hj, hq, ho, hb⟩ := hrel
        clear HQ OA BA HC
        have HQ := hid hq
        have OA := hid ho
        have BA := hid hb
        have HC := hid (HW.out.below hb)
        have LQ : Hid (q.length ≤ 5000000) := hid (by have h1 := endsL_len (c.take j) (F i); have h2 := H4.out; rw [hq]; simp at h1; omega)
        have RQ : Hid (q.Pairwise fun x y => x < y) := hid (by rw [hq]; exact endsL_rises _ _ (HFR.out i))
        clear hq ho hb
        by_cases hjl : j < c.length
        · obtain ⟨g1, o1, rfl⟩ := HC.out.addr (by omega)
          obtain ⟨c0, c1⟩ := HC.out.lit j hjl
          have HNX := hid (endsL_next (F i) c j hjl)
          obtain ⟨x, hx⟩ : ∃ x, x = c[j] := ⟨_, rfl⟩
          rw [← hx] at c0 c1 HNX
          clear hx
          obtain ⟨s, t⟩ := x
          rw [← HQ.out] at HNX
          have BX := hid (BA.out.alloc BA.out.size (.cells #[.int .i64 s, .int .i64 t] 33))
          have OX := hid (OA.out.below ((Below.refl _ _).alloc (Nat.le_refl _) (.cells #[.int .i64 s, .int .i64 t] 33)))
          by_cases hst : s < t
          · have HE : Hid (endsL (F i) (c.take (j + 1)) = insE (insE q s) t) := hid (by rw [HNX.out, if_pos hst])
            clear HNX
            have BX7 : Hid ((wr.alloc (.cells #[.int .i64 s, .int .i64 t] 33)).heap[wr.heap.size]? = some (.cells #[.int .i64 s, .int .i64 t] 33 (0, 0))) := hid (heap_alloc_new _ _)
            go_wp2_with fail
            refine (rin_any w.heap.size _ q s _ OX.out BX.out.size (by have := LQ.out; omega) RQ.out).mono ?_
            rintro e w2 ⟨va2, vc2, rfl, ho2, hb2⟩
            have e1 : w2.cell? ⟨wr.heap.size, 1, none⟩ = some (.int .i64 t) := cell_later hb2 (by rw [cell_of_row _ _ _ _ _ _ BX7.out]; rfl)
            have L2 : Hid ((insE q s).length ≤ 6000000) := hid (by have := insE_len q s; have := LQ.out; omega)
            have R2 := hid (insE_rises q s RQ.out)
            have O2 := hid ho2
            have B2 := hid (BX.out.trans (hb2.mono BX.out.size))
            clear ho2 hb2 BX7
            obtain ⟨q2, hq2⟩ : ∃ q2, q2 = insE q s := ⟨_, rfl⟩
            rw [← hq2] at O2 L2 R2 HE ⊢
            clear hq2
            go_wp2_with fail
            refine (rin_any w.heap.size _ q2 t _ O2.out B2.out.size (by have := L2.out; omega) R2.out).mono ?_
            rintro e w3 ⟨va3, vc3, rfl, ho3, hb3⟩
            have O3 := hid ho3
            have B3 := hid (B2.out.trans (hb3.mono B2.out.size))
            clear ho3 hb3
            obtain ⟨q3, hq3⟩ : ∃ q3, q3 = insE q2 t := ⟨_, rfl⟩
            rw [← hq3] at O3 HE ⊢
            clear hq3
            go_wp2
            go_roundw
            case rel => exact ⟨j + 1, va3, vc3, q3, by go_num, rfl, by omega, HE.out.symm, O3.out, B3.out⟩
            case measure => simp [intOf]; omega
          · have HE : Hid (endsL (F i) (c.take (j + 1)) = q) := hid (by rw [HNX.out, if_neg hst])
            clear HNX
            go_wp2
            go_roundw
            case rel => exact ⟨j + 1, va, vc, q, by go_num, rfl, by omega, HE.out.symm, OX.out, BX.out⟩
            case measure => simp [intOf]; omega
        · have HE : Hid (q = F (i + 1)) := hid (by rw [H5.out, HQ.out, List.take_of_length_le (by omega)])
          go_wp2
          go_roundw
          case rel => exact ⟨i + 1, va, vc, q, by go_num, rfl, by omega, HE.out, OA.out, BA.out⟩
          case measure => simp [intOf]; omega
    · obtain rfl : i = 1 := by omega
      go_wp2
      go_ret
      refine ⟨va, vc, by rw [← HQ.out]; rfl, ?_, BA.out⟩
      rw [← HQ.out]
      exact OA.out
end Go.Proofs.Ytbfmanhbbancmaa
