/- The voters but self. -/
import Derived.Test.YtjimneaimnjanaaCoRead
namespace Go.Proofs.Ytjimneaimnjanaa
open Go.RowKit
set_option linter.unusedVariables false
set_option linter.unusedSimpArgs false

theorem nvs_snoc (l : List Int) (x : Int) : nvs (l ++ [x]) = nvs l ++ [.int .i64 x] := by simp [nvs]
theorem filter_take (p : Int → Bool) (l : List Int) (i : Nat) (h : i < l.length) : (l.take (i + 1)).filter p = (l.take i).filter p ++ (if p l[i] then [l[i]] else []) := by
  rw [List.take_succ_eq_append_getElem h, List.filter_append]
  by_cases hp : p l[i] <;> simp [hp]
set_option maxRecDepth 100000 in
set_option maxHeartbeats 4000000 in
theorem others_any (base b : Nat) (lv : Value) (D : CoD) (w : World) (h : Co w base b lv D) (hi : CoI D) (hs : (vNow D).size ≤ 999999) :
    Calls Try.prog 65 #[.pointer (some ⟨b, 0, none⟩)] w fun e w' => ∃ v, e = .returned v ∧ Below w.heap.size w w' ∧ w'.ownsRow w.heap.size 3 1 v (oRow D).length (nvs (oRow D)) := by
  have H := hid h
  have HI := hid hi
  have HS := hid hs
  have hl9 : (vRow (vNow D)).length ≤ 999999 := by rw [vRow_len]; split <;> omega
  clear h hi hs
  obtain ⟨L, hL⟩ : ∃ L, L = vRow (vNow D) := ⟨_, rfl⟩
  have HC := hid (fun W (hW : Co W base b lv D) => cvoters_any base b lv D W hW HI.out HS.out)
  rw [← hL] at HC hl9
  have HO : Hid (oRow D = (L.take L.length).filter (· != D.self)) := hid (by rw [List.take_length, hL]; rfl)
  clear hL
  go_enter Try.func65, Try.ntmps65
  go_wp2_with (go_at_call 19; refine (HC.out _ H.out).mono ?_; rintro e w1 ⟨v1, rfl, hb1, ho1⟩; obtain ⟨va1, vc1, rfl⟩ := own_shape ho1; have B1 := hid hb1; have N1 := hid (nums_own ho1 rfl); clear hb1 ho1)
  have H1 := hid (H.out.below B1.out)
  go_loopw [3, 5, 9] (fun ov _ iv wr => ∃ i : Nat, iv = .int .i64 i ∧ i ≤ L.length ∧ wr.ownsRow w1.heap.size 3 1 ov ((L.take i).filter (· != D.self)).length (nvs ((L.take i).filter (· != D.self))) ∧ Below w1.heap.size w1 wr) (fun _ _ iv _ => L.length - (intOf iv).toNat)
  case atStart => exact ⟨0, rfl, Nat.zero_le _, World.ownsRow_nil _ _ _ _, Below.refl _ _⟩
  case round =>
    obtain ⟨i, rfl, hi, ho, hb⟩ := hrel
    obtain ⟨va, vc, rfl⟩ := own_shape ho
    have O := hid ho
    have B := hid hb
    clear ho hb
    by_cases hlt : (i : Int) < (L.length : Int)
    · have hil : i < L.length := by omega
      have HNR := hid (N1.out.below B.out)
      obtain ⟨gd, od, rfl⟩ := HNR.out.addr (by omega)
      have c0 := HNR.out.lit i hil
      have s0 : wr.cell? ⟨b, 0, none⟩ = some (.int .i64 D.self) := (H1.out.below B.out).cell 0
      have HF := hid (filter_take (· != D.self) L i hil)
      have hfl : ((L.take i).filter (· != D.self)).length ≤ 999998 := by
        have := List.length_filter_le (· != D.self) (L.take i)
        simp at this; omega
      obtain ⟨F, hF⟩ : ∃ F, F = (L.take i).filter (· != D.self) := ⟨_, rfl⟩
      rw [← hF] at O HF hfl
      rw [← hF]
      clear hF
      generalize L[i] = x at *
      by_cases hx : x = D.self
      · have HFE : Hid ((L.take (i + 1)).filter (· != D.self) = F) := hid (by rw [HF.out, hx]; simp)
        go_wp2_with fail
        go_roundw
        case rel => exact ⟨i + 1, by go_num, by omega, by rw [HFE.out]; exact O.out, B.out⟩
        case measure => simp [intOf]; omega
      · have HFE : Hid ((L.take (i + 1)).filter (· != D.self) = F ++ [x]) := hid (by rw [HF.out]; simp [hx])
        have HY : Hid (∀ j u, ([Value.int .i64 x] : List Value)[j]? = some u → (wr.alloc (.cells #[.int .i64 x] 3)).cell? ⟨wr.heap.size, j, none⟩ = some u) := hid fun j u hj => by
          rw [cell_of_row _ _ _ _ _ _ (heap_alloc_new _ _)]
          cases j with
          | zero => simpa using hj
          | succ j => simp at hj
        have OA := hid (own_below O.out ((Below.refl wr.heap.size wr).alloc (Nat.le_refl _) (.cells #[.int .i64 x] 3)))
        have BA := hid (B.out.trans (((Below.refl wr.heap.size wr).alloc (Nat.le_refl _) (.cells #[.int .i64 x] 3)).mono B.out.size))
        go_wp2_with (at_builtin; refine wpl_app rowNm rfl _ _ rfl w1.heap.size (.slice va F.length vc) F.length (nvs F) rfl OA.out wr.heap.size 1 1 [.int .i64 x] rfl rfl HY.out (by simp [Value.oneCell']) (by omega) BA.out.size ?_; intro va2 vc2 w2 ho2 hg2; have O2 := hid ho2; have B2 := hid (BA.out.trans (own_lo OA.out hg2 BA.out.size)); clear ho2 hg2)
        go_roundw
        case rel => exact ⟨i + 1, by go_num, by omega, by rw [HFE.out, nvs_snoc]; simpa using O2.out, B2.out⟩
        case measure => simp [intOf]; omega
    · obtain rfl : i = L.length := by omega
      rw [← HO.out] at O
      rw [← HO.out]
      obtain ⟨F, hF⟩ : ∃ F, F = oRow D := ⟨_, rfl⟩
      have HF := hid hF
      rw [← hF] at O
      rw [← hF]
      clear hF
      go_wp2_with fail
      go_ret
      exact ⟨_, rfl, B1.out.trans (B.out.mono B1.out.size), by rw [← HF.out]; exact own_lower O.out B1.out.size⟩
end Go.Proofs.Ytjimneaimnjanaa
