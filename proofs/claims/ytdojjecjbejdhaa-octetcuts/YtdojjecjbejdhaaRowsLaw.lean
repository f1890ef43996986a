/- OctetRows answers true for any rows of numbers, whole numbers and texts; nothing that was there has turned. -/
import Derived.Test.YtdojjecjbejdhaaBack
import Derived.Test.YtdojjecjbejdhaaWrites
import Derived.Test.YtdojjecjbejdhaaPutU64
import Derived.Test.YtdojjecjbejdhaaPutI64
import Derived.Test.YtdojjecjbejdhaaPutStr
import Derived.Test.YtdojjecjbejdhaaGetU64
import Derived.Test.YtdojjecjbejdhaaGetI64
import Derived.Test.YtdojjecjbejdhaaGetStr
import Derived.Deep.DeepCutAuto
import Derived.Deep.QuietTactic
import Derived.BigQuiet
namespace Go.Proofs.Ytdojjecjbejdhaa
open Go.RowKit

theorem intB_pos1 (n : Int) : 1 ≤ (intB n).length := by unfold intB; split <;> simp
theorem textB_pos (s : ByteArray) : 1 ≤ (textB s).length := by unfold textB; have := numB_pos s.size; rw [List.length_append]; omega
theorem listB_len {α : Type} (enc : α → List UInt8) (xs : List α) (hn : xs.length ≤ 200) (h : ∀ x ∈ xs, (enc x).length ≤ 2000) : (listB enc xs).length ≤ 400010 := by
  have h1 := flat_len enc xs h
  have h2 := numB_len xs.length (by omega)
  unfold listB
  rw [List.length_append]; omega
set_option maxRecDepth 100000 in
set_option maxHeartbeats 6400000 in
theorem rows_law (v0 v1 v2 : Value) (ns : List Nat) (is : List Int) (ss : List ByteArray) (w : World) (hv0 : RowB pvU64 w.heap.size w v0 ns) (hv1 : RowB pvI64 w.heap.size w v1 is) (hv2 : RowB pvStr w.heap.size w v2 ss)
    (hn : ∀ x ∈ ns, (x : Int) ≤ 18446744073709551615) (hi : ∀ x ∈ is, -9223372036854775808 ≤ x ∧ x < 9223372036854775808) (hs : ∀ x ∈ ss, x.size ≤ 9223372036854775807) :
    Calls Try.prog 6 #[v0, v1, v2] w fun e w' => e = .returned (.bool true) ∧ Below w.heap.size w w' := by
  have HV0 := hid hv0
  have HV1 := hid hv1
  have HV2 := hid hv2
  have HN := hid hn
  have HI := hid hi
  have HS := hid hs
  obtain ⟨a0, _, c0, rfl, rfl, hc0, hcap0, hnone0, -⟩ := hv0
  obtain ⟨a1, _, c1, rfl, rfl, hc1, hcap1, hnone1, -⟩ := hv1
  obtain ⟨a2, _, c2, rfl, rfl, hc2, hcap2, hnone2, -⟩ := hv2
  have HNO := hid hnone2
  clear hn hi hs hnone0 hnone1 hnone2
  by_cases hbig : (200 : Int) < (ns.length : Int) ∨ (200 : Int) < (is.length : Int) ∨ (200 : Int) < (ss.length : Int)
  · by_cases hb0 : (200 : Int) < (ns.length : Int)
    · clear hbig
      go_enter Try.func6, Try.ntmps6
      go_wp2_with (go_at_call 14; refine (lives_any _).mono ?_; rintro e w10 ⟨rfl, hb10⟩; have HB10 := hid hb10; clear hb10)
      go_ret
      exact ⟨rfl, HB10.out⟩
    · by_cases hb1 : (200 : Int) < (is.length : Int)
      · clear hbig
        go_enter Try.func6, Try.ntmps6
        go_wp2_with (go_at_call 14; refine (lives_any _).mono ?_; rintro e w10 ⟨rfl, hb10⟩; have HB10 := hid hb10; clear hb10)
        go_ret
        exact ⟨rfl, HB10.out⟩
      · have hb2 : (200 : Int) < (ss.length : Int) := by omega
        clear hbig
        go_enter Try.func6, Try.ntmps6
        go_wp2_with (go_at_call 14; refine (lives_any _).mono ?_; rintro e w10 ⟨rfl, hb10⟩; have HB10 := hid hb10; clear hb10)
        go_ret
        exact ⟨rfl, HB10.out⟩
  · have hb0 : ¬ (200 : Int) < (ns.length : Int) := by omega
    have hb1 : ¬ (200 : Int) < (is.length : Int) := by omega
    have hb2 : ¬ (200 : Int) < (ss.length : Int) := by omega
    clear hbig
    go_enter Try.func6, Try.ntmps6
    go_wp2_with fail
    go_loop [8, 33] (fun _ iv => ∃ i : Nat, iv = .int .i64 i ∧ i ≤ ss.length ∧ ∀ x ∈ ss.take i, x.size ≤ 1000) (fun _ iv => ss.length - (intOf iv).toNat)
    case atStart => exact ⟨0, rfl, Nat.zero_le _, fun x hx => by simp at hx⟩
    case round =>
      obtain ⟨i, rfl, hil, hsm⟩ := hrel
      have HSM := hid hsm
      clear hsm
      by_cases hlt : (i : Int) < (ss.length : Int)
      · have hao : ∃ ad, a2 = some ad := by cases a2 with | none => exact absurd (HNO.out rfl) (by omega) | some ad => exact ⟨ad, rfl⟩
        obtain ⟨ad, rfl⟩ := hao
        have hil' : i < ss.length := by omega
        have hck : w.cell? (ad.add i) = some (.string ss[i]) := by
          obtain ⟨ao1, _, _, e, g1, g2, g3, g4, g5⟩ := HV2.out
          cases e
          exact (g5 ad rfl i hil').1
        have hsz : (ss[i].size : Int) ≤ 9223372036854775807 := by have := HS.out ss[i] (List.getElem_mem hil'); omega
        have HTK := hid (List.take_succ_eq_append_getElem hil')
        obtain ⟨x, hx⟩ : ∃ x, x = ss[i] := ⟨_, rfl⟩
        rw [← hx] at hck hsz HTK
        clear hx
        by_cases hlong : (1000 : Int) < (x.size : Int)
        · go_wp2_with (go_at_call 14; refine (lives_any _).mono ?_; rintro e w10 ⟨rfl, hb10⟩; have HB10 := hid hb10; clear hb10)
          go_ret
          exact ⟨rfl, HB10.out⟩
        · go_wp2
          go_round
          case rel =>
            refine ⟨i + 1, by go_num, by omega, ?_⟩
            rw [HTK.out]
            intro y hy
            rcases List.mem_append.1 hy with hy | hy
            · exact HSM.out y hy
            · obtain rfl : y = x := by simpa using hy
              omega
          case measure => simp [intOf]; omega
      · obtain rfl : i = ss.length := by omega
        have HSZ : Hid (∀ x ∈ ss, x.size ≤ 1000) := hid (by have := HSM.out; rwa [List.take_length] at this)
        clear hlt HSM
        clear HS HNO
        have hW0 := Wr.new w
        have HW0 := hid hW0
        clear hW0
        have hba : Below w.heap.size w (w.alloc (.cells #[.slice none 0 0] 32)) := (Below.refl _ _).alloc (Nat.le_refl _) _
        have e0 : ∀ x ∈ ns, pokU64 x ∧ (pencU64 x).length ≤ 2000 := fun x hx => ⟨HN.out x hx, by have := numB_len x (by have := HN.out x hx; omega); show (numB x).length ≤ 2000; omega⟩
        have e1 : ∀ x ∈ is, pokI64 x ∧ (pencI64 x).length ≤ 2000 := fun x hx => ⟨HI.out x hx, by have := intB_len x (HI.out x hx).1 (HI.out x hx).2; show (intB x).length ≤ 2000; omega⟩
        have e2 : ∀ x ∈ ss, pokStr x ∧ (pencStr x).length ≤ 2000 := fun x hx => ⟨HSZ.out x hx, by have h3 := HSZ.out x hx; have := textB_len x (by omega); show (textB x).length ≤ 2000; omega⟩
        have E0 := hid e0
        have E1 := hid e1
        have E2 := hid e2
        have l0 := listB_len pencU64 ns (by omega) fun x hx => (e0 x hx).2
        have l1 := listB_len pencI64 is (by omega) fun x hx => (e1 x hx).2
        have l2 := listB_len pencStr ss (by omega) fun x hx => (e2 x hx).2
        clear e0 e1 e2
        go_wp2_with fail
        refine (putU64_any _ _ _ ns _ HW0.out (HV0.out.below hba (Nat.le_refl _)) E0.out (by simp) (by omega)).mono ?_
        rintro e w1 ⟨rfl, hw1, hb1⟩
        have HW1 := hid hw1
        have HB1 := hid (hba.trans hb1)
        clear hw1 hb1 HW0 hba
        go_wp2_with fail
        refine (putI64_any _ _ _ is _ HW1.out (HV1.out.below HB1.out (Nat.le_refl _)) E1.out (by simp; omega) (by omega)).mono ?_
        rintro e w2 ⟨rfl, hw2, hb2⟩
        have HW2 := hid hw2
        have HB2 := hid (HB1.out.trans hb2)
        clear hw2 hb2 HW1 HB1
        go_wp2_with fail
        refine (putStr_any _ _ _ ss _ HW2.out (HV2.out.below HB2.out (Nat.le_refl _)) E2.out (by simp; omega) (by omega)).mono ?_
        rintro e w3 ⟨rfl, hw3, hb3⟩
        have HW3 := hid hw3
        have HB3 := hid (HB2.out.trans hb3)
        have hs3 := HB3.out.size
        clear hw3 hb3 HW2 HB2
        have q0 := getR_back pencU64 (fun x => x) numV numS ns (listB pencI64 is ++ (listB pencStr ss ++ [])) (by omega) (fun x _ => numB_pos x) fun x hx t => num_back x (by have := HN.out x hx; omega) t
        have q1 := getR_back pencI64 (fun x => x) intV intS is (listB pencStr ss ++ []) (by omega) (fun x _ => intB_pos1 x) fun x hx t => int_back x (HI.out x hx).1 (HI.out x hx).2 t
        have q2 := getR_back pencStr (fun x => x.data.toList) textV textS ss [] (by omega) (fun x _ => textB_pos x) fun x hx t => text_back x (by have := HSZ.out x hx; omega) t
        rw [List.map_id'] at q0 q1
        have Q0 := hid q0
        have Q1 := hid q1
        have Q2 := hid q2
        clear q0 q1 q2 HN HI HSZ E0 E1 E2
        have hL : (([] : List UInt8) ++ listB pencU64 ns ++ listB pencI64 is ++ listB pencStr ss) = listB pencU64 ns ++ (listB pencI64 is ++ (listB pencStr ss ++ [])) := by simp
        rw [hL] at HW3
        have hLL : (listB pencU64 ns ++ (listB pencI64 is ++ (listB pencStr ss ++ []))).length ≤ 2000000 := by simp; omega
        clear hL l0 l1 l2
        obtain ⟨L, hLe⟩ : ∃ L, L = listB pencU64 ns ++ (listB pencI64 is ++ (listB pencStr ss ++ [])) := ⟨_, rfl⟩
        rw [← hLe] at HW3 hLL Q0
        clear hLe
        go_wp2_with fail
        refine (bytes_any _ _ _ HW3.out (by omega)).mono ?_
        rintro e w4 ⟨va, vc, rfl, ho4, hb4⟩
        have HO4 := hid ho4.bts
        have HB4 := hid (HB3.out.trans (hb4.mono hs3))
        have hs4 := HB4.out.size
        clear ho4 hb4 HW3 HB3 hs3
        go_wp2_with fail
        refine (newReader_any _ _ _ HO4.out (by omega)).mono ?_
        rintro e w5 ⟨b, rfl, hb5, hr5, hb5'⟩
        have HR5 := hid hr5
        have HB5 := hid (HB4.out.trans (hb5'.mono hs4))
        have hs5 := HB5.out.size
        have hbb : w.heap.size ≤ b := Nat.le_trans hs4 hb5
        have hbl := hr5.lt
        clear hr5 hb5' hb5 HO4 HB4 hs4
        go_wp2_with fail
        refine (getU64_any _ _ _ HR5.out).mono ?_
        rintro e w6 ⟨va0, n0, vc0, rfl, hv, hr6, hg6⟩
        rw [Q0.out] at hv hr6
        have hv' : w6.ownsRow w5.heap.size 30 1 (.slice va0 n0 vc0) ns.length (ns.map evU64) := hv
        obtain ⟨_, _, e6⟩ := owns_shape hv'
        cases e6
        have HA6 := hid hv'
        have HR6 := hid hr6
        have HB6 := hid (grown_below HB5.out hg6 hs5 hbb)
        have hs6 := HB6.out.size
        have hbl6 := hr6.lt
        clear hv hv' hr6 hg6 HR5 HB5 hs5 Q0
        go_wp2_with fail
        refine (getI64_any _ _ _ HR6.out).mono ?_
        rintro e w7 ⟨va1, n1, vc1, rfl, hv, hr7, hg7⟩
        rw [Q1.out] at hv hr7
        have hv' : w7.ownsRow w6.heap.size 2 1 (.slice va1 n1 vc1) is.length (is.map evI64) := hv
        obtain ⟨_, _, e7⟩ := owns_shape hv'
        cases e7
        have HA7 := hid (owns_kept HA6.out hbl hg7)
        have HI7 := hid hv'
        have HR7 := hid hr7
        have HB7 := hid (grown_below HB6.out hg7 hs6 hbb)
        have hs7 := HB7.out.size
        have hbl7 := hr7.lt
        clear hv hv' hr7 hg7 HR6 HB6 hs6 Q1 HA6
        go_wp2_with fail
        refine (getStr_any _ _ _ HR7.out).mono ?_
        rintro e w8 ⟨va2, n2, vc2, rfl, hv, hr8, hg8⟩
        rw [Q2.out] at hv hr8
        have hv' : w8.ownsRow w7.heap.size 9 1 (.slice va2 n2 vc2) (ss.map fun x => x.data.toList).length ((ss.map fun x => x.data.toList).map evStr) := hv
        have hv2 : w8.ownsRow w7.heap.size 9 1 (.slice va2 n2 vc2) ss.length (ss.map pvStr) := by
          rw [List.length_map, List.map_map] at hv'
          have e : (evStr ∘ fun x : ByteArray => x.data.toList) = pvStr := by funext x; simp [evStr, pvStr]
          rw [e] at hv'; exact hv'
        obtain ⟨_, _, e8⟩ := owns_shape hv2
        cases e8
        have hA8 := owns_row (owns_kept HA7.out hbl hg8)
        have hI8 := owns_row (owns_kept HI7.out hbl6 hg8)
        have hS8 := owns_row hv2
        have HR8 := hid hr8
        have HB8 := hid (grown_below HB7.out hg8 hs7 hbb)
        have hs8 := HB8.out.size
        have HA8 := hid hA8
        have HI8 := hid hI8
        have HS8 := hid hS8
        clear hv hv' hv2 hr8 hg8 HR7 HB7 hs7 Q2 HA7 HI7 hA8 hI8 hS8 hbl hbl6 hbl7
        go_wp2_with (first
          | (go_at_call 29; refine (end_any _ _ _ HR8.out).mono ?_; rintro e w9 ⟨rfl, rfl⟩; simp only [endB]))
        go_loopw [14, 82] (fun _ iv wr => ∃ i : Nat, iv = .int .i64 i ∧ i ≤ ns.length ∧ Below w9.heap.size w9 wr) (fun _ iv _ => ns.length - (intOf iv).toNat)
        case atStart => exact ⟨0, rfl, Nat.zero_le _, Below.refl _ _⟩
        case round =>
          obtain ⟨i, rfl, hil, hbr⟩ := hrel
          obtain ⟨wa, hwq⟩ : ∃ wq : World, wq = wr := ⟨_, rfl⟩
          rw [← hwq] at hbr ⊢
          clear hwq
          have HBR := hid hbr
          clear hbr
          by_cases hlt : (i : Int) < (ns.length : Int)
          · have hi' : i < ns.length := by omega
            obtain ⟨ad1, h1, hc1'⟩ := (HA8.out.below HBR.out (Nat.le_refl _)).at i hi'
            obtain ⟨ad2, h2, hc2'⟩ := ((HV0.out.below HB8.out (Nat.le_refl _)).below HBR.out hs8).at i hi'
            subst h1 h2
            have hx1 : wa.cell? (ad1.add i) = some (.int .u64 (ns[i] : Int)) := hc1'
            have hx2 : wa.cell? (ad2.add i) = some (.int .u64 (ns[i] : Int)) := hc2'
            generalize ns[i] = x at hx1 hx2
            clear hc1' hc2'
            have hi0 : (0 : Int) ≤ (i : Int) := by omega
            go_wp2_with fail
            go_quiet (fail)
            go_wp2
            go_roundw
            case rel => exact ⟨i + 1, by go_num, by omega, below_drewN HBR.out _⟩
            case measure => simp [intOf]; omega
          · obtain rfl : i = ns.length := by omega
            clear hlt
            go_wp2_with fail
            go_loopw [15, 97] (fun _ iv wr => ∃ i : Nat, iv = .int .i64 i ∧ i ≤ is.length ∧ Below w9.heap.size w9 wr) (fun _ iv _ => is.length - (intOf iv).toNat)
            case atStart => exact ⟨0, rfl, Nat.zero_le _, HBR.out⟩
            case round =>
              obtain ⟨i, rfl, hil, hbr⟩ := hrel
              obtain ⟨wb, hwq⟩ : ∃ wq : World, wq = wr := ⟨_, rfl⟩
              rw [← hwq] at hbr ⊢
              clear hwq
              have HBR := hid hbr
              clear hbr
              by_cases hlt : (i : Int) < (is.length : Int)
              · have hi' : i < is.length := by omega
                obtain ⟨ad1, h1, hc1'⟩ := (HI8.out.below HBR.out (Nat.le_refl _)).at i hi'
                obtain ⟨ad2, h2, hc2'⟩ := ((HV1.out.below HB8.out (Nat.le_refl _)).below HBR.out hs8).at i hi'
                subst h1 h2
                have hx1 : wb.cell? (ad1.add i) = some (.int .i64 is[i]) := hc1'
                have hx2 : wb.cell? (ad2.add i) = some (.int .i64 is[i]) := hc2'
                generalize is[i] = x at hx1 hx2
                clear hc1' hc2'
                have hi0 : (0 : Int) ≤ (i : Int) := by omega
                go_wp2_with fail
                go_quiet (fail)
                go_wp2
                go_roundw
                case rel => exact ⟨i + 1, by go_num, by omega, below_drewN HBR.out _⟩
                case measure => simp [intOf]; omega
              · obtain rfl : i = is.length := by omega
                clear hlt
                go_wp2_with fail
                go_loopw [16, 112] (fun _ iv wr => ∃ i : Nat, iv = .int .i64 i ∧ i ≤ ss.length ∧ Below w9.heap.size w9 wr) (fun _ iv _ => ss.length - (intOf iv).toNat)
                case atStart => exact ⟨0, rfl, Nat.zero_le _, HBR.out⟩
                case round =>
                  obtain ⟨i, rfl, hil, hbr⟩ := hrel
                  obtain ⟨wc, hwq⟩ : ∃ wq : World, wq = wr := ⟨_, rfl⟩
                  rw [← hwq] at hbr ⊢
                  clear hwq
                  have HBR := hid hbr
                  clear hbr
                  by_cases hlt : (i : Int) < (ss.length : Int)
                  · have hi' : i < ss.length := by omega
                    obtain ⟨ad1, h1, hc1'⟩ := (HS8.out.below HBR.out (Nat.le_refl _)).at i hi'
                    obtain ⟨ad2, h2, hc2'⟩ := ((HV2.out.below HB8.out (Nat.le_refl _)).below HBR.out hs8).at i hi'
                    subst h1 h2
                    have hx1 : wc.cell? (ad1.add i) = some (.string ss[i]) := hc1'
                    have hx2 : wc.cell? (ad2.add i) = some (.string ss[i]) := hc2'
                    generalize ss[i] = x at hx1 hx2
                    clear hc1' hc2'
                    have hi0 : (0 : Int) ≤ (i : Int) := by omega
                    go_wp2_with fail
                    go_quiet (fail)
                    go_wp2
                    go_roundw
                    case rel => exact ⟨i + 1, by go_num, by omega, below_drewN HBR.out _⟩
                    case measure => simp [intOf]; omega
                  · obtain rfl : i = ss.length := by omega
                    clear hlt
                    go_wp2_with fail
                    refine (lives_any _).mono ?_
                    rintro e w10 ⟨rfl, hb10⟩
                    have hsz9 := HBR.out.size
                    have HB10 := hid ((HB8.out.trans (HBR.out.mono hs8)).trans (hb10.mono (Nat.le_trans hs8 hsz9)))
                    clear hb10
                    go_wp2
                    go_ret
                    exact ⟨rfl, HB10.out⟩
end Go.Proofs.Ytdojjecjbejdhaa
