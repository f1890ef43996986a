/- OctetCuts answers true for any texts and any number; nothing that was there has turned. -/
import Derived.Test.YtdojjecjbejdhaaBack
import Derived.Test.YtdojjecjbejdhaaWrites
import Derived.Test.YtdojjecjbejdhaaPutStr
import Derived.Test.YtdojjecjbejdhaaGetStr
import Derived.Test.YtdojjecjbejdhaaRowsLaw
namespace Go.Proofs.Ytdojjecjbejdhaa
open Go.RowKit

theorem num_ext (r r' Q : List UInt8) (n : Nat) (h : numR (some r) = (n, some r')) : numR (some (r ++ Q)) = (n, some (r' ++ Q)) := by
  obtain ⟨h1, h2⟩ := numR_only r n r' h
  rw [h1, List.append_assoc]; exact numR_numB _ _ h2
theorem text_ext (r t Q : List UInt8) (h : textS (some r) = some t) : textS (some (r ++ Q)) = some (t ++ Q) := by
  unfold textS at h
  split at h
  · cases h
  · rename_i r' h'
    obtain rfl := Option.some.inj h
    have h2 : ¬ (1048576 < (numR (some r)).1 ∨ leftN (numR (some r)).2 < (numR (some r)).1) ∧ lenR 1048576 (some r) = numR (some r) := by
      unfold lenR at h' ⊢
      split at h'
      · cases h'
      · rename_i hn
        exact ⟨hn, if_neg hn⟩
    obtain ⟨hn, he⟩ := h2
    rw [he] at h' ⊢
    have h3 : numR (some r) = ((numR (some r)).1, some r') := by rw [← h']
    have h4 := num_ext r r' Q _ h3
    rw [h'] at hn
    simp only [leftN] at hn
    have h5 : lenR 1048576 (some (r ++ Q)) = ((numR (some r)).1, some (r' ++ Q)) := by
      unfold lenR
      rw [h4, if_neg]
      simp only [leftN, List.length_append]; omega
    unfold textS
    rw [h5]
    show some ((r' ++ Q).drop _) = _
    rw [List.drop_append_of_le_length (by omega)]
theorem getGo_cut (xs : List ByteArray) (r Q : List UInt8) (acc : List (List UInt8)) (hx : ∀ x ∈ xs, x.size ≤ 1048576) (hQ : Q ≠ []) (h : r ++ Q = xs.flatMap textB) : getGo textV textS xs.length (some r) acc = (none, none) := by
  induction xs generalizing r acc with
  | nil => simp at h; exact absurd h.2 hQ
  | cons x xs ih =>
    rw [List.length_cons]
    show (if badB (textS (some r)) then (none, none) else getGo textV textS xs.length (textS (some r)) (acc ++ [textV (some r)])) = _
    cases ht : textS (some r) with
    | none => rfl
    | some t =>
      have h1 := text_ext r t Q ht
      rw [h, List.flatMap_cons, (text_back x (hx x (List.mem_cons_self ..)) _).2] at h1
      have h2 := Option.some.inj h1
      exact ih t _ (fun y hy => hx y (List.mem_cons_of_mem _ hy)) h2.symm
theorem getR_cut (xs : List ByteArray) (k : Nat) (hx : ∀ x ∈ xs, x.size ≤ 1048576) (hn : xs.length ≤ 4096) (hk : k < (listB textB xs).length) : getR textV textS (some ((listB textB xs).take k)) = (none, none) := by
  have hQ : (listB textB xs).drop k ≠ [] := by
    intro h
    have := congrArg List.length h
    simp at this; omega
  have hB : (listB textB xs).take k ++ (listB textB xs).drop k = listB textB xs := List.take_append_drop _ _
  generalize (listB textB xs).take k = P at *
  generalize (listB textB xs).drop k = Q at *
  unfold getR
  cases hl : (lenR 4096 (some P)).2 with
  | none => rfl
  | some r =>
    have h2 : lenR 4096 (some P) = numR (some P) := by
      unfold lenR at hl ⊢
      split at hl
      · cases hl
      · rename_i h; exact if_neg h
    rw [h2] at hl ⊢
    have h3 : numR (some P) = ((numR (some P)).1, some r) := by rw [← hl]
    have h4 := num_ext P r Q _ h3
    rw [hB] at h4
    unfold listB at h4
    rw [numR_numB _ _ (by omega)] at h4
    obtain ⟨e1, e2⟩ := Prod.mk.inj h4
    have e3 := Option.some.inj e2
    rw [← e1, if_neg (by simp [badB])]
    exact getGo_cut xs r Q [] hx hQ e3.symm

set_option maxRecDepth 100000 in
set_option maxHeartbeats 6400000 in
theorem cuts_law (v2 : Value) (ss : List ByteArray) (t : Int) (w : World) (h0 : 0 ≤ t) (h1 : t ≤ 18446744073709551615) (hv2 : RowB pvStr w.heap.size w v2 ss) (hs : ∀ x ∈ ss, x.size ≤ 9223372036854775807) :
    Calls Try.prog 7 #[v2, .int .u64 t] w fun e w' => e = .returned (.bool true) ∧ Below w.heap.size w w' := by
  have HV2 := hid hv2
  have HS := hid hs
  obtain ⟨a2, _, c2, rfl, rfl, hc2, hcap2, hnone2, -⟩ := hv2
  have HNO := hid hnone2
  clear hs hnone2
  by_cases hb2 : (200 : Int) < (ss.length : Int)
  · go_enter Try.func7, Try.ntmps7
    go_wp2_with (go_at_call 14; refine (lives_any _).mono ?_; rintro e w10 ⟨rfl, hb10⟩; have HB10 := hid hb10; clear hb10)
    go_ret
    exact ⟨rfl, HB10.out⟩
  · go_enter Try.func7, Try.ntmps7
    go_wp2_with fail
    go_loop [6, 18] (fun _ iv => ∃ i : Nat, iv = .int .i64 i ∧ i ≤ ss.length ∧ ∀ x ∈ ss.take i, x.size ≤ 1000) (fun _ iv => ss.length - (intOf iv).toNat)
    case atStart => exact ⟨0, rfl, Nat.zero_le _, fun x hx => by simp at hx⟩
    case round =>
      obtain ⟨i, rfl, hil, hsm⟩ := hrel
      have HSM := hid hsm
      clear hsm
      by_cases hlt : (i : Int) < (ss.length : Int)
      · have hao : ∃ ad, a2 = some ad := by cases a2 with | none => exact absurd (HNO.out rfl) (by omega) | some ad => exact ⟨ad, rfl⟩
        obtain ⟨ad, rfl⟩ := hao
        have hil' : i < ss.length := by omega
        have hck : w.cell? (ad.add i) = some (.string ss[i]) := by
          obtain ⟨ao1, _, _, e, g1, g2, g3, g4, g5⟩ := HV2.out
          cases e
          exact (g5 ad rfl i hil').1
        have hsz : (ss[i].size : Int) ≤ 9223372036854775807 := by have := HS.out ss[i] (List.getElem_mem hil'); omega
        have HTK := hid (List.take_succ_eq_append_getElem hil')
        obtain ⟨x, hx⟩ : ∃ x, x = ss[i] := ⟨_, rfl⟩
        rw [← hx] at hck hsz HTK
        clear hx
        by_cases hlong : (1000 : Int) < (x.size : Int)
        · go_wp2_with (go_at_call 14; refine (lives_any _).mono ?_; rintro e w10 ⟨rfl, hb10⟩; have HB10 := hid hb10; clear hb10)
          go_ret
          exact ⟨rfl, HB10.out⟩
        · go_wp2
          go_round
          case rel =>
            refine ⟨i + 1, by go_num, by omega, ?_⟩
            rw [HTK.out]
            intro y hy
            rcases List.mem_append.1 hy with hy | hy
            · exact HSM.out y hy
            · obtain rfl : y = x := by simpa using hy
              omega
          case measure => simp [intOf]; omega
      · obtain rfl : i = ss.length := by omega
        have HSZ : Hid (∀ x ∈ ss, x.size ≤ 1000) := hid (by have := HSM.out; rwa [List.take_length] at this)
        clear hlt HSM HS HNO
        have HW0 := hid (Wr.new w)
        have hba : Below w.heap.size w (w.alloc (.cells #[.slice none 0 0] 32)) := (Below.refl _ _).alloc (Nat.le_refl _) _
        have e2 : ∀ x ∈ ss, pokStr x ∧ (pencStr x).length ≤ 2000 := fun x hx => ⟨HSZ.out x hx, by have h3 := HSZ.out x hx; have := textB_len x (by omega); show (textB x).length ≤ 2000; omega⟩
        have E2 := hid e2
        have l2 := listB_len pencStr ss (by omega) fun x hx => (e2 x hx).2
        have hpen : pencStr = textB := rfl
        rw [hpen] at l2
        clear e2 hpen
        go_wp2_with fail
        refine (putStr_any _ _ _ ss _ HW0.out (HV2.out.below hba (Nat.le_refl _)) E2.out (by simp) (by omega)).mono ?_
        rintro e w3 ⟨rfl, hw3, hb3⟩
        have HW3 : Hid (Wr w3 w.heap.size (listB textB ss)) := hid hw3
        have HB3 := hid (hba.trans hb3)
        have hs3 := HB3.out.size
        have HCUT := hid fun k => getR_cut ss k (fun x hx => by have := HSZ.out x hx; omega) (by omega)
        clear hw3 hb3 HW0 hba E2 HSZ
        obtain ⟨L, hLe⟩ : ∃ L, L = listB textB ss := ⟨_, rfl⟩
        rw [← hLe] at HW3 HCUT l2
        clear hLe
        go_wp2_with fail
        refine (bytes_any _ _ _ HW3.out (by omega)).mono ?_
        rintro e w4 ⟨va, vc, rfl, ho4, hb4⟩
        have HO4 := hid ho4.bts
        have HB4 := hid (HB3.out.trans (hb4.mono hs3))
        have hs4 := HB4.out.size
        clear ho4 hb4 HW3 HB3 hs3
        have hLI : (L.length : Int) ≤ 400010 := by omega
        obtain ⟨k, hk⟩ : ∃ k : Nat, (k : Int) = t % ((L.length : Int) + 1) := ⟨(t % ((L.length : Int) + 1)).toNat, by have := Int.emod_nonneg t (show (L.length : Int) + 1 ≠ 0 by omega); omega⟩
        have hk2 : (k : Int) ≤ (L.length : Int) := by have := Int.emod_lt_of_pos t (show (0 : Int) < (L.length : Int) + 1 by omega); omega
        have hk3 : t % ((L.length : Int) + 1) = (k : Int) := hk.symm
        clear hk
        by_cases hend : k = L.length
        · have hb : ((k : Int) == (L.length : Int)) = true := by simp; omega
          clear hend
          go_wp2_with (go_at_call 14; refine (lives_any _).mono ?_; rintro e w10 ⟨rfl, hb10⟩; have HB10 := hid (HB4.out.trans (hb10.mono hs4)); clear hb10)
          go_ret
          exact ⟨rfl, HB10.out⟩
        · have hb : ((k : Int) == (L.length : Int)) = false := by simp; omega
          have hcap : (k : Int) ≤ (vc : Int) := by obtain ⟨_, _, _, e, g1, g2, -⟩ := HO4.out; cases e; omega
          have HO5 := hid (HO4.out.take (n := k) (by omega))
          have HC := hid (HCUT.out k (by omega))
          clear hend HCUT HO4
          go_wp2_with fail
          refine (newReader_any _ _ _ HO5.out (by simp; omega)).mono ?_
          rintro e w5 ⟨b, rfl, hb5, hr5, hb5'⟩
          have HR5 := hid hr5
          have HB5 := hid (HB4.out.trans (hb5'.mono hs4))
          have hs5 := HB5.out.size
          have hbb : w.heap.size ≤ b := Nat.le_trans hs4 hb5
          clear hr5 hb5' hb5 HO5 HB4 hs4
          go_wp2_with fail
          refine (getStr_any _ _ _ HR5.out).mono ?_
          rintro e w6 ⟨va2, n2, vc2, rfl, hv, hr6, hg6⟩
          rw [HC.out] at hv hr6
          have hv' : Value.slice va2 n2 vc2 = .slice none 0 0 := hv
          cases hv'
          have HR6 := hid hr6
          have HB6 := hid (grown_below HB5.out hg6 hs5 hbb)
          have hs6 := HB6.out.size
          clear hv hr6 hg6 HR5 HB5 hs5 HC
          go_wp2_with (first
            | (go_at_call 27; refine (bad_any _ _ _ HR6.out).mono ?_; rintro e w7 ⟨rfl, rfl⟩; simp only [badB])
            | (go_at_call 29; refine (end_any _ _ _ HR6.out).mono ?_; rintro e w7 ⟨rfl, rfl⟩; simp only [endB])
            | (go_at_call 28; refine (left_any _ _ _ HR6.out).mono ?_; rintro e w7 ⟨rfl, rfl⟩; simp only [leftN]))
          refine (rnum_any _ _ _ HR6.out).mono ?_
          rintro e w8 ⟨rfl, hr8, hg8⟩
          have HR8 : Hid (Rd w8 b none) := hid hr8
          have HB8 := hid (grown_below HB6.out hg8 hs6 hbb)
          have hs8 := HB8.out.size
          clear hr8 hg8 HR6 HB6 hs6
          rw [show (numR none).1 = 0 from rfl]
          go_wp2_with fail
          refine (rint_any _ _ _ HR8.out).mono ?_
          rintro e w9 ⟨rfl, hr9, hg9⟩
          have HR9 : Hid (Rd w9 b none) := hid hr9
          have HB9 := hid (grown_below HB8.out hg9 hs8 hbb)
          have hs9 := HB9.out.size
          clear hr9 hg9 HR8 HB8 hs8
          rw [show intV none = 0 from rfl]
          go_wp2_with fail
          refine (rtext_any _ _ _ HR9.out).mono ?_
          rintro e w10 ⟨rfl, hr10, hg10⟩
          have HR10 : Hid (Rd w10 b none) := hid hr10
          have HB10 := hid (grown_below HB9.out hg10 hs9 hbb)
          have hs10 := HB10.out.size
          clear hr10 hg10 HR9 HB9 hs9
          rw [show textV none = [] from rfl]
          go_wp2_with fail
          refine (rbool_any _ _ _ HR10.out).mono ?_
          rintro e w11 ⟨rfl, hr11, hg11⟩
          have HR11 : Hid (Rd w11 b none) := hid hr11
          have HB11 := hid (grown_below HB10.out hg11 hs10 hbb)
          have hs11 := HB11.out.size
          clear hr11 hg11 HR10 HB10 hs10
          rw [show boolV none = false from rfl]
          go_wp2_with fail
          refine (rbyte_any _ _ _ HR11.out).mono ?_
          rintro e w12 ⟨rfl, hr12, hg12⟩
          have HB12 := hid (grown_below HB11.out hg12 hs11 hbb)
          have hs12 := HB12.out.size
          clear hr12 hg12 HR11 HB11 hs11
          rw [show (byteR none).toNat = 0 from rfl]
          go_wp2_with fail
          refine (lives_any _).mono ?_
          rintro e w13 ⟨rfl, hb13⟩
          have HB13 := hid (HB12.out.trans (hb13.mono hs12))
          clear hb13
          go_wp2
          go_ret
          exact ⟨rfl, HB13.out⟩
end Go.Proofs.Ytdojjecjbejdhaa
