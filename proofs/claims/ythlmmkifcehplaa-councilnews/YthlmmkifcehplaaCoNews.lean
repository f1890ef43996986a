/- The law CouncilNews: which councils there may be, and which texts name voters. Conditions: the voters lie in memory. -/
import Derived.Test.YthlmmkifcehplaaCoNil
import Derived.Test.YthlmmkifcehplaaCoRef
namespace Go.Proofs.Ythlmmkifcehplaa
open Go.RowKit
set_option linter.unusedVariables false
set_option linter.unusedSimpArgs false

theorem word_mails (u0 u1 u2 : Value) (W : World) : (Instr.field 34 (.agg #[u0, u1, u2]) 1).run Try.prog W = .ok u1 W := by
  simp [Instr.field, go_sem]
  rfl
theorem vRow_byte {s : ByteArray} {x : Int} (h : x ∈ (if votB (vtx s) then vtx s else [])) : 0 ≤ x ∧ x ≤ 255 := by
  have := vRow_node (s := s) h
  omega
def nwR (l : List Int) (i : Nat) : Bool := decide (0 < l.length) && (List.range i).all (votAt l)
theorem nwR_succ (l : List Int) (i : Nat) : nwR l (i + 1) = (nwR l i && votAt l i) := by
  unfold nwR
  rw [List.range_succ, List.all_append, Bool.and_assoc]
  simp
set_option maxRecDepth 100000 in
set_option maxHeartbeats 8000000 in
theorem councilNews_any (self : Int) (l : List Int) (v : Value) (s : ByteArray) (w : World) (hv : Nums w v l) :
    Calls Try.prog 3 #[.int .i64 self, v, .string s] w fun e w' => e = .returned (.bool true) ∧ Below w.heap.size w w' := by
  have hu : Try.prog.underlying 9 = some .string := by kernel_rfl
  have HV := hid hv
  have hL := hv.len
  obtain ⟨va, vc, rfl⟩ := hv.shape
  clear hv
  by_cases h20 : (20 : Int) < (l.length : Int)
  · go_enter Try.func3, Try.ntmps3
    go_wp2_with (go_at_call 8; refine (lives_any _).mono ?_; rintro e w2 ⟨rfl, hb2⟩; have B2 := hid hb2; clear hb2)
    go_ret
    exact ⟨rfl, B2.out⟩
  by_cases h1000 : (1000 : Int) < (s.size : Int)
  · go_enter Try.func3, Try.ntmps3
    go_wp2_with (go_at_call 8; refine (lives_any _).mono ?_; rintro e w2 ⟨rfl, hb2⟩; have B2 := hid hb2; clear hb2)
    go_ret
    exact ⟨rfl, B2.out⟩
  have hR0 : decide ((0 : Int) < (l.length : Int)) = nwR l 0 := by unfold nwR; simp
  go_enter Try.func3, Try.ntmps3
  go_wp2_with fail
  clear hR0
  go_loopw [7, 8, 9, 36] (fun rv _ _ iv wr => ∃ i : Nat, iv = .int .i64 i ∧ i ≤ l.length ∧ rv = .bool (nwR l i) ∧ wr = w) (fun _ _ _ iv _ => l.length - (intOf iv).toNat)
  case atStart => exact ⟨0, rfl, Nat.zero_le _, by simp [nwR], rfl⟩
  case round =>
    obtain ⟨i, rfl, hi, rfl, hwr⟩ := hrel
    replace hwr := hwr.symm
    subst hwr
    by_cases hlt : (i : Int) < (l.length : Int)
    · have hil : i < l.length := by omega
      have HN := hid (nwR_succ l i)
      obtain ⟨gd, od, rfl⟩ := HV.out.addr (by omega)
      have c0 := HV.out.lit i hil
      have HDB : Hid (votAt l i = (nodeB l[i] && (i == 0 || decide (l.getD (i - 1) 0 < l[i])))) := hid (by unfold votAt; rw [show l.getD i 0 = l[i] from by simp [List.getD, List.getElem?_eq_getElem hil]])
      obtain ⟨r, hr⟩ : ∃ r, nwR l i = r := ⟨_, rfl⟩
      rw [hr] at HN
      rw [hr]
      clear hr
      cases r with
      | false =>
        have HE : Hid (nwR l (i + 1) = false) := hid (by rw [HN.out]; rfl)
        generalize l[i] = x at *
        go_wp2_with fail
        go_roundw
        case rel => exact ⟨i + 1, by go_num, by omega, by rw [HE.out], by first | rfl | trivial⟩
        case measure => simp [intOf]; omega
      | true =>
        have HE0 : Hid (nwR l (i + 1) = votAt l i) := hid (by rw [HN.out]; rfl)
        cases hx0 : decide (0 ≤ l[i]) with
        | false =>
          have HE : Hid (nwR l (i + 1) = false) := hid (by rw [HE0.out, HDB.out]; unfold nodeB; rw [hx0]; rfl)
          generalize l[i] = x at *
          go_wp2_with fail
          go_roundw
          case rel => exact ⟨i + 1, by go_num, by omega, by rw [HE.out], by first | rfl | trivial⟩
          case measure => simp [intOf]; omega
        | true =>
          cases hx7 : decide (l[i] < 7) with
          | false =>
            have HE : Hid (nwR l (i + 1) = false) := hid (by rw [HE0.out, HDB.out]; unfold nodeB; rw [hx0, hx7]; rfl)
            generalize l[i] = x at *
            go_wp2_with fail
            go_roundw
            case rel => exact ⟨i + 1, by go_num, by omega, by rw [HE.out], by first | rfl | trivial⟩
            case measure => simp [intOf]; omega
          | true =>
            have HE1 : Hid (nwR l (i + 1) = (i == 0 || decide (l.getD (i - 1) 0 < l[i]))) := hid (by rw [HE0.out, HDB.out]; unfold nodeB; rw [hx0, hx7]; rfl)
            cases i with
            | zero =>
              have HE : Hid (nwR l (0 + 1) = true) := hid (by rw [HE1.out]; rfl)
              have c0' : w.cell? ⟨gd, od, none⟩ = some (.int .i64 l[0]) := c0
              generalize l[0] = x at *
              go_wp2_with fail
              go_roundw
              case rel => exact ⟨0 + 1, by go_num, by omega, by rw [HE.out], by first | rfl | trivial⟩
              case measure => simp [intOf]; omega
            | succ k =>
              have hkl : k < l.length := by omega
              have c1 := HV.out.lit k hkl
              have hg : l.getD (k + 1 - 1) 0 = l[k] := by rw [show k + 1 - 1 = k from rfl]; simp [List.getD, List.getElem?_eq_getElem hkl]
              rw [hg] at HE1
              have hq : ((k + 1 : Nat) : Int) - 1 = (k : Int) := by omega
              have hz : (((k + 1 : Nat) : Int) == 0) = false := by simp; omega
              have hz2 : ((k : Int) + 1 == 0) = false := by simp; omega
              have hkI : (k : Int) < (l.length : Int) := by omega
              generalize l[k + 1] = x at *
              generalize l[k] = y at *
              cases hy : decide (y < x) with
              | false =>
                have HE : Hid (nwR l (k + 1 + 1) = false) := hid (by rw [HE1.out, hy]; rfl)
                go_wp2_with fail
                go_roundw
                case rel => exact ⟨k + 1 + 1, by go_num, by omega, by rw [HE.out], by first | rfl | trivial⟩
                case measure => simp [intOf]; omega
              | true =>
                have HE : Hid (nwR l (k + 1 + 1) = true) := hid (by rw [HE1.out, hy]; simp)
                go_wp2_with fail
                go_roundw
                case rel => exact ⟨k + 1 + 1, by go_num, by omega, by rw [HE.out], by first | rfl | trivial⟩
                case measure => simp [intOf]; omega
    · obtain rfl : i = l.length := by omega
      clear hlt hi
      have HVB : nwR l l.length = votB l := by unfold nwR votB; rw [Bool.and_comm]
      rw [HVB]
      clear HVB
      have hsz : s.size ≤ 999999 := by omega
      obtain ⟨L, hLe⟩ : ∃ L, L = (if votB (vtx s) then vtx s else []) := ⟨_, rfl⟩
      have hlen : (if votB (vtx s) then s.size else 0) = L.length := by rw [hLe]; split <;> simp [vtx_len]
      have hL9 : L.length ≤ 999999 := by rw [← hlen]; split <;> omega
      have HVO := hid (fun W => (voters_any s W hsz).mono (fun e w' ⟨v, he, hb, ho⟩ => show ∃ v, e = Ending.returned (.tuple #[v, .bool (votB (vtx s))]) ∧ Below W.heap.size W w' ∧ Nums w' v L from ⟨v, he, hb, by rw [← hLe] at ho; exact nums_own ho hlen⟩))
      have HRO := hid (fun W => (rvoters_any s W hsz).mono (fun e w' ⟨v, he, hb, ho⟩ => show ∃ v, e = Ending.returned (.tuple #[v, .bool (votB (vtx s))]) ∧ Below W.heap.size W w' ∧ Nums w' v L from ⟨v, he, hb, by rw [← hLe] at ho; exact nums_own ho hlen⟩))
      have HTX := hid (fun W v (hN : Nums W v L) => rtextv_any L v W hN hL9 (fun x hx => vRow_byte (s := s) (by rw [← hLe]; exact hx)))
      clear hLe hlen hL9
      generalize votB (vtx s) = ks at HVO HRO
      generalize byT L = tx at HTX
      have hm1 := fun u0 u1 u2 W => word_mails u0 u1 u2 W
      have HNO := hid (fun (h : newB self l = false) => (new_no self l _ w HV.out (by omega) h).mono (fun e w' ⟨he, hb⟩ => show ∃ p : Option Addr, e = Ending.returned (.tuple #[.pointer none, .int .i64 1]) ∧ Below w.heap.size w w' from ⟨none, he, hb⟩))
      have HYE := hid (fun (h : newB self l = true) => (new_yes self l _ w HV.out (by omega) h).mono (fun e w' ⟨b, he, _, _, hb⟩ => show ∃ b : Nat, e = Ending.returned (.tuple #[.pointer (some ⟨b, 0, none⟩), .int .i64 0]) ∧ Below w.heap.size w w' from ⟨b, he, hb⟩))
      cases hvb : votB l with
      | false =>
        have HN := hid (HNO.out (by unfold newB; rw [hvb, Bool.and_false]))
        clear HNO HYE hvb
        go_upto_region 13 with (first | (go_at_call 9; refine HN.out.mono ?_; rintro e w2 ⟨p2, rfl, hb2⟩; have B2 := hid hb2; clear hb2) | (go_at_call 10; refine (HVO.out _).mono ?_; rintro e w3 ⟨v3, rfl, hb3, hn3⟩; have B3 := hid (B2.out.trans (hb3.mono B2.out.size)); have N3 := hid hn3; clear hb3 hn3) | (go_at_call 11; refine (HRO.out _).mono ?_; rintro e w4 ⟨v4, rfl, hb4, hn4⟩; have B4 := hid (B3.out.trans (hb4.mono B3.out.size)); have N4 := hid hn4; have N34 := hid (N3.out.below hb4); clear hb4 hn4))
        go_upto_region 15 with (first | (go_at_call 12; refine (HTX.out _ _ N34.out).mono ?_; rintro e w5 ⟨rfl, hb5⟩; have B5 := hid (B4.out.trans (hb5.mono B4.out.size)); have N45 := hid (N4.out.below hb5); clear hb5 N34) | (go_at_call 12; refine (HTX.out _ _ N45.out).mono ?_; rintro e w6 ⟨rfl, hb6⟩; have B6 := hid (B5.out.trans (hb6.mono B5.out.size)); clear hb6))
        go_upto_region 18 with (first | (go_at_call 13; refine (offer_nil _ _ _).mono ?_; rintro e w7 ⟨rfl, hb7⟩; have B7 := hid (B6.out.trans (hb7.mono B6.out.size)); clear hb7) | (go_at_call 14; refine (compact_nil _ _ _).mono ?_; rintro e w8 ⟨rfl, hb8⟩; have B8 := hid ((B7.out.alloc B7.out.size _).trans (hb8.mono (Nat.le_trans B7.out.size (by simp)))); clear hb8))
        have b9 := B8.out.alloc B8.out.size (.cells #[.bool false, .slice none 0 0, .slice none 0 0] 34)
        generalize w8.alloc (.cells #[.bool false, .slice none 0 0, .slice none 0 0] 34) = w9 at b9 ⊢
        have B9 := hid b9
        clear b9
        go_wp2_with (first | (go_at_call 15; refine (leader_nil _).mono ?_; rintro e wx ⟨rfl, hx⟩; replace hx := hx.symm; subst hx) | (go_at_call 16; refine (leads_nil _).mono ?_; rintro e wx ⟨rfl, hx⟩; replace hx := hx.symm; subst hx) | (go_at_call 17; refine (last_nil _).mono ?_; rintro e wx ⟨rfl, hx⟩; replace hx := hx.symm; subst hx) | (go_at_call 18; refine (told_nil _).mono ?_; rintro e wx ⟨rfl, hx⟩; replace hx := hx.symm; subst hx) | (go_at_call 19; refine (term_nil _).mono ?_; rintro e wx ⟨rfl, hx⟩; replace hx := hx.symm; subst hx) | (go_at_call 20; refine (cvoters_nil _).mono ?_; rintro e wx ⟨rfl, hx⟩; replace hx := hx.symm; subst hx) | (go_at_call 21; refine (encode_nil _).mono ?_; rintro e wx ⟨rfl, hx⟩; replace hx := hx.symm; subst hx) | (go_at_call 22; refine (tick_nil _).mono ?_; rintro e w10 ⟨rfl, hb10⟩; have B10 := hid (B9.out.trans (hb10.mono B9.out.size)); clear hb10) | (go_at_call 23; refine (hear_nil _ _).mono ?_; rintro e w11 ⟨rfl, hb11⟩; have B11 := hid (B10.out.trans (hb11.mono B10.out.size)); clear hb11) | (go_at_call 8; refine (lives_any _).mono ?_; rintro e w12 ⟨rfl, hb12⟩; have B12 := hid (B11.out.trans (hb12.mono B11.out.size)); clear hb12))
        go_ret
        exact ⟨rfl, B12.out⟩
      | true =>
        cases hs0 : decide (0 ≤ self) with
        | false =>
          have HN := hid (HNO.out (by unfold newB nodeB; rw [hvb, hs0]; rfl))
          clear HNO HYE hvb
          go_upto_region 13 with (first | (go_at_call 9; refine HN.out.mono ?_; rintro e w2 ⟨p2, rfl, hb2⟩; have B2 := hid hb2; clear hb2) | (go_at_call 10; refine (HVO.out _).mono ?_; rintro e w3 ⟨v3, rfl, hb3, hn3⟩; have B3 := hid (B2.out.trans (hb3.mono B2.out.size)); have N3 := hid hn3; clear hb3 hn3) | (go_at_call 11; refine (HRO.out _).mono ?_; rintro e w4 ⟨v4, rfl, hb4, hn4⟩; have B4 := hid (B3.out.trans (hb4.mono B3.out.size)); have N4 := hid hn4; have N34 := hid (N3.out.below hb4); clear hb4 hn4))
          go_upto_region 15 with (first | (go_at_call 12; refine (HTX.out _ _ N34.out).mono ?_; rintro e w5 ⟨rfl, hb5⟩; have B5 := hid (B4.out.trans (hb5.mono B4.out.size)); have N45 := hid (N4.out.below hb5); clear hb5 N34) | (go_at_call 12; refine (HTX.out _ _ N45.out).mono ?_; rintro e w6 ⟨rfl, hb6⟩; have B6 := hid (B5.out.trans (hb6.mono B5.out.size)); clear hb6))
          go_upto_region 18 with (first | (go_at_call 13; refine (offer_nil _ _ _).mono ?_; rintro e w7 ⟨rfl, hb7⟩; have B7 := hid (B6.out.trans (hb7.mono B6.out.size)); clear hb7) | (go_at_call 14; refine (compact_nil _ _ _).mono ?_; rintro e w8 ⟨rfl, hb8⟩; have B8 := hid ((B7.out.alloc B7.out.size _).trans (hb8.mono (Nat.le_trans B7.out.size (by simp)))); clear hb8))
          have b9 := B8.out.alloc B8.out.size (.cells #[.bool false, .slice none 0 0, .slice none 0 0] 34)
          generalize w8.alloc (.cells #[.bool false, .slice none 0 0, .slice none 0 0] 34) = w9 at b9 ⊢
          have B9 := hid b9
          clear b9
          go_wp2_with (first | (go_at_call 15; refine (leader_nil _).mono ?_; rintro e wx ⟨rfl, hx⟩; replace hx := hx.symm; subst hx) | (go_at_call 16; refine (leads_nil _).mono ?_; rintro e wx ⟨rfl, hx⟩; replace hx := hx.symm; subst hx) | (go_at_call 17; refine (last_nil _).mono ?_; rintro e wx ⟨rfl, hx⟩; replace hx := hx.symm; subst hx) | (go_at_call 18; refine (told_nil _).mono ?_; rintro e wx ⟨rfl, hx⟩; replace hx := hx.symm; subst hx) | (go_at_call 19; refine (term_nil _).mono ?_; rintro e wx ⟨rfl, hx⟩; replace hx := hx.symm; subst hx) | (go_at_call 20; refine (cvoters_nil _).mono ?_; rintro e wx ⟨rfl, hx⟩; replace hx := hx.symm; subst hx) | (go_at_call 21; refine (encode_nil _).mono ?_; rintro e wx ⟨rfl, hx⟩; replace hx := hx.symm; subst hx) | (go_at_call 22; refine (tick_nil _).mono ?_; rintro e w10 ⟨rfl, hb10⟩; have B10 := hid (B9.out.trans (hb10.mono B9.out.size)); clear hb10) | (go_at_call 23; refine (hear_nil _ _).mono ?_; rintro e w11 ⟨rfl, hb11⟩; have B11 := hid (B10.out.trans (hb11.mono B10.out.size)); clear hb11) | (go_at_call 8; refine (lives_any _).mono ?_; rintro e w12 ⟨rfl, hb12⟩; have B12 := hid (B11.out.trans (hb12.mono B11.out.size)); clear hb12))
          go_ret
          exact ⟨rfl, B12.out⟩
        | true =>
          cases hs7 : decide (self < 7) with
          | false =>
            have HN := hid (HNO.out (by unfold newB nodeB; rw [hvb, hs0, hs7]; rfl))
            clear HNO HYE hvb
            go_upto_region 13 with (first | (go_at_call 9; refine HN.out.mono ?_; rintro e w2 ⟨p2, rfl, hb2⟩; have B2 := hid hb2; clear hb2) | (go_at_call 10; refine (HVO.out _).mono ?_; rintro e w3 ⟨v3, rfl, hb3, hn3⟩; have B3 := hid (B2.out.trans (hb3.mono B2.out.size)); have N3 := hid hn3; clear hb3 hn3) | (go_at_call 11; refine (HRO.out _).mono ?_; rintro e w4 ⟨v4, rfl, hb4, hn4⟩; have B4 := hid (B3.out.trans (hb4.mono B3.out.size)); have N4 := hid hn4; have N34 := hid (N3.out.below hb4); clear hb4 hn4))
            go_upto_region 15 with (first | (go_at_call 12; refine (HTX.out _ _ N34.out).mono ?_; rintro e w5 ⟨rfl, hb5⟩; have B5 := hid (B4.out.trans (hb5.mono B4.out.size)); have N45 := hid (N4.out.below hb5); clear hb5 N34) | (go_at_call 12; refine (HTX.out _ _ N45.out).mono ?_; rintro e w6 ⟨rfl, hb6⟩; have B6 := hid (B5.out.trans (hb6.mono B5.out.size)); clear hb6))
            go_upto_region 18 with (first | (go_at_call 13; refine (offer_nil _ _ _).mono ?_; rintro e w7 ⟨rfl, hb7⟩; have B7 := hid (B6.out.trans (hb7.mono B6.out.size)); clear hb7) | (go_at_call 14; refine (compact_nil _ _ _).mono ?_; rintro e w8 ⟨rfl, hb8⟩; have B8 := hid ((B7.out.alloc B7.out.size _).trans (hb8.mono (Nat.le_trans B7.out.size (by simp)))); clear hb8))
            have b9 := B8.out.alloc B8.out.size (.cells #[.bool false, .slice none 0 0, .slice none 0 0] 34)
            generalize w8.alloc (.cells #[.bool false, .slice none 0 0, .slice none 0 0] 34) = w9 at b9 ⊢
            have B9 := hid b9
            clear b9
            go_wp2_with (first | (go_at_call 15; refine (leader_nil _).mono ?_; rintro e wx ⟨rfl, hx⟩; replace hx := hx.symm; subst hx) | (go_at_call 16; refine (leads_nil _).mono ?_; rintro e wx ⟨rfl, hx⟩; replace hx := hx.symm; subst hx) | (go_at_call 17; refine (last_nil _).mono ?_; rintro e wx ⟨rfl, hx⟩; replace hx := hx.symm; subst hx) | (go_at_call 18; refine (told_nil _).mono ?_; rintro e wx ⟨rfl, hx⟩; replace hx := hx.symm; subst hx) | (go_at_call 19; refine (term_nil _).mono ?_; rintro e wx ⟨rfl, hx⟩; replace hx := hx.symm; subst hx) | (go_at_call 20; refine (cvoters_nil _).mono ?_; rintro e wx ⟨rfl, hx⟩; replace hx := hx.symm; subst hx) | (go_at_call 21; refine (encode_nil _).mono ?_; rintro e wx ⟨rfl, hx⟩; replace hx := hx.symm; subst hx) | (go_at_call 22; refine (tick_nil _).mono ?_; rintro e w10 ⟨rfl, hb10⟩; have B10 := hid (B9.out.trans (hb10.mono B9.out.size)); clear hb10) | (go_at_call 23; refine (hear_nil _ _).mono ?_; rintro e w11 ⟨rfl, hb11⟩; have B11 := hid (B10.out.trans (hb11.mono B10.out.size)); clear hb11) | (go_at_call 8; refine (lives_any _).mono ?_; rintro e w12 ⟨rfl, hb12⟩; have B12 := hid (B11.out.trans (hb12.mono B11.out.size)); clear hb12))
            go_ret
            exact ⟨rfl, B12.out⟩
          | true =>
            have HN := hid (HYE.out (by unfold newB nodeB; rw [hvb, hs0, hs7]; rfl))
            clear HNO HYE hvb
            go_upto_region 13 with (first | (go_at_call 9; refine HN.out.mono ?_; rintro e w2 ⟨p2, rfl, hb2⟩; have B2 := hid hb2; clear hb2) | (go_at_call 10; refine (HVO.out _).mono ?_; rintro e w3 ⟨v3, rfl, hb3, hn3⟩; have B3 := hid (B2.out.trans (hb3.mono B2.out.size)); have N3 := hid hn3; clear hb3 hn3) | (go_at_call 11; refine (HRO.out _).mono ?_; rintro e w4 ⟨v4, rfl, hb4, hn4⟩; have B4 := hid (B3.out.trans (hb4.mono B3.out.size)); have N4 := hid hn4; have N34 := hid (N3.out.below hb4); clear hb4 hn4))
            go_upto_region 15 with (first | (go_at_call 12; refine (HTX.out _ _ N34.out).mono ?_; rintro e w5 ⟨rfl, hb5⟩; have B5 := hid (B4.out.trans (hb5.mono B4.out.size)); have N45 := hid (N4.out.below hb5); clear hb5 N34) | (go_at_call 12; refine (HTX.out _ _ N45.out).mono ?_; rintro e w6 ⟨rfl, hb6⟩; have B6 := hid (B5.out.trans (hb6.mono B5.out.size)); clear hb6))
            go_upto_region 18 with (first | (go_at_call 13; refine (offer_nil _ _ _).mono ?_; rintro e w7 ⟨rfl, hb7⟩; have B7 := hid (B6.out.trans (hb7.mono B6.out.size)); clear hb7) | (go_at_call 14; refine (compact_nil _ _ _).mono ?_; rintro e w8 ⟨rfl, hb8⟩; have B8 := hid ((B7.out.alloc B7.out.size _).trans (hb8.mono (Nat.le_trans B7.out.size (by simp)))); clear hb8))
            have b9 := B8.out.alloc B8.out.size (.cells #[.bool false, .slice none 0 0, .slice none 0 0] 34)
            generalize w8.alloc (.cells #[.bool false, .slice none 0 0, .slice none 0 0] 34) = w9 at b9 ⊢
            have B9 := hid b9
            clear b9
            go_wp2_with (first | (go_at_call 15; refine (leader_nil _).mono ?_; rintro e wx ⟨rfl, hx⟩; replace hx := hx.symm; subst hx) | (go_at_call 16; refine (leads_nil _).mono ?_; rintro e wx ⟨rfl, hx⟩; replace hx := hx.symm; subst hx) | (go_at_call 17; refine (last_nil _).mono ?_; rintro e wx ⟨rfl, hx⟩; replace hx := hx.symm; subst hx) | (go_at_call 18; refine (told_nil _).mono ?_; rintro e wx ⟨rfl, hx⟩; replace hx := hx.symm; subst hx) | (go_at_call 19; refine (term_nil _).mono ?_; rintro e wx ⟨rfl, hx⟩; replace hx := hx.symm; subst hx) | (go_at_call 20; refine (cvoters_nil _).mono ?_; rintro e wx ⟨rfl, hx⟩; replace hx := hx.symm; subst hx) | (go_at_call 21; refine (encode_nil _).mono ?_; rintro e wx ⟨rfl, hx⟩; replace hx := hx.symm; subst hx) | (go_at_call 22; refine (tick_nil _).mono ?_; rintro e w10 ⟨rfl, hb10⟩; have B10 := hid (B9.out.trans (hb10.mono B9.out.size)); clear hb10) | (go_at_call 23; refine (hear_nil _ _).mono ?_; rintro e w11 ⟨rfl, hb11⟩; have B11 := hid (B10.out.trans (hb11.mono B10.out.size)); clear hb11) | (go_at_call 8; refine (lives_any _).mono ?_; rintro e w12 ⟨rfl, hb12⟩; have B12 := hid (B11.out.trans (hb12.mono B11.out.size)); clear hb12))
            go_ret
            exact ⟨rfl, B12.out⟩
end Go.Proofs.Ythlmmkifcehplaa
