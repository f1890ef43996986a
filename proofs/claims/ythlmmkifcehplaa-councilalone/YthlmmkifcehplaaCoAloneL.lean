/- The law CouncilAlone: a voter alone tells what it is offered, in order; what it forgets changes nothing of what comes. Conditions: the texts lie in memory. -/
import Derived.Test.YthlmmkifcehplaaCoLed
namespace Go.Proofs.Ythlmmkifcehplaa
open Go.RowKit
set_option linter.unusedVariables false
set_option linter.unusedSimpArgs false

def aloF (f i : Nat) : Int := if f < i then (f : Int) + 1 else 0
theorem CRet.words {w w' : World} {b : Nat} {lv v : Value} {D D' : CoD} {W' : WdD} (h : CRet w b lv v w' D' W') (hc : Co w 0 b lv D) (q : Nat) (cs : Array Value) (fr : Nat × Nat) (hq : w.heap[q]? = some (.cells cs 34 fr)) : w'.heap[q]? = some (.cells cs 34 fr) := by
  obtain ⟨lv', ms, ns, rfl, -, -, -, hbt, -⟩ := h
  refine (hbt.block q (lt_of_block hq) ?_).trans hq
  rintro (e | e)
  · rw [e, hc.head] at hq; cases hq
  · exact own_ne hc.log hq (by decide) e
theorem compact_noW {w0 w : World} {b : Nat} {lv : Value} {D : CoD} (h : Here w0 w b lv D) (i : Int) (tx : ByteArray) (hb : i ≤ D.bi ∨ D.told < i) (P : Nat) (cs : Array Value) (hP : w.heap[P]? = some (.cells cs 34 (0, 0))) :
    Calls Try.prog 14 #[.pointer (some ⟨b, 0, none⟩), .int .i64 i, .string tx] w fun e w' => ∃ lv' ma mc na nc, e = .returned (.tuple #[.agg #[.bool false, .slice ma 0 mc, .slice na 0 nc], .int .i64 1]) ∧ Here w0 w' b lv' D ∧ w'.heap[P]? = some (.cells cs 34 (0, 0)) :=
  (compact_arg b lv D i tx w h.co hb).mono fun e w' ⟨v, he, hr⟩ => by
    obtain ⟨lv', ma, mc, na, nc, e1, e2⟩ := (quiet_of_ret he hr h.bel h.hb h.own).here h
    exact ⟨lv', ma, mc, na, nc, e1, e2, hr.words h.co P cs (0, 0) hP⟩
theorem ent_a : entB 2 ⟨#[]⟩ = false := by decide
theorem ent_b : entB 3 ⟨#[]⟩ = false := by decide
theorem ent_c : entB 2 ⟨#[3]⟩ = true := by decide
theorem ent_d : entB 2 ⟨#[0, 1, 3]⟩ = true := by decide
theorem ap_c : apN (byT [3]) ⟨#[3]⟩ 7 ≠ 1 := by decide
theorem ap_d : apN (byT [3]) ⟨#[0, 1, 3]⟩ 7 ≠ 1 := by decide
set_option maxRecDepth 100000 in
set_option maxHeartbeats 8000000 in
theorem councilAlone_any (v : Value) (l : List ByteArray) (fg : Nat) (w : World) (hv : Strs w v l) (hs : ∀ s ∈ l, s.size ≤ maxLen) (hfg : fg ≤ 18446744073709551615) :
    Calls Try.prog 5 #[v, .int .u64 (fg : Int)] w fun e w' => e = .returned (.bool true) ∧ Below w.heap.size w w' := by
  have hu : Try.prog.underlying 9 = some .string := by kernel_rfl
  have HV := hid hv
  have HSS := hid hs
  have hL : (l.length : Int) ≤ 9223372036854775807 := by
    obtain ⟨ao, n, cap, -, rfl, h2, h3, -⟩ := hv; omega
  obtain ⟨va, vc, rfl⟩ := hv.shape
  clear hv hs
  have hN : Nums (w.alloc (.cells #[.int .i64 3] 3)) (.slice (some ⟨w.heap.size, 0, none⟩) 1 1) [3] := by
    refine ⟨_, _, _, rfl, rfl, Nat.le_refl _, by omega, (fun h => by cases h), ?_⟩
    intro ad had j hj
    cases had
    obtain rfl : j = 0 := by simpa using hj
    rw [Addr.add_lit, cell_of_row _ _ _ _ _ _ (heap_alloc_new _ _)]; rfl
  have HNW := hid (new_yes 3 [3] _ _ hN (by decide) (by decide))
  have B0 : Hid (Below w.heap.size w (w.alloc (.cells #[.int .i64 3] 3))) := hid ((Below.refl _ _).alloc (Nat.le_refl _) _)
  clear hN
  go_enter Try.func5, Try.ntmps5
  go_upto_region 5 with (first | (go_at_call 9; refine HNW.out.mono ?_; rintro e w1 ⟨b, rfl, hb, hc, hw⟩; have C1 : Hid (Here w w1 b (.slice none 0 0) (newD 3 [3])) := hid ⟨hc, B0.out.trans (hw.mono B0.out.size), Nat.le_trans B0.out.size hb, fun q h => by cases h⟩; clear hb hc hw) | (go_at_call 13; refine (offer_no C1.out 1 8 _ (by decide) (fun Y hY => mayOffer_none b _ _ 1 _ Y hY (by decide))).mono ?_; rintro e w2 ⟨lv2, ma2, mc2, na2, nc2, rfl, hh2⟩; have C2 := hid hh2; clear hh2))
  have C3 := hid (C2.out.alloc (.cells #[.bool false, .slice ma2 0 mc2, .slice na2 0 nc2] 34))
  generalize w2.alloc (.cells #[.bool false, .slice ma2 0 mc2, .slice na2 0 nc2] 34) = w3 at C3 ⊢
  go_wp2_with fail
  go_loopw [41] (fun iv wr => ∃ i : Nat, iv = .int .i64 i ∧ i ≤ 19 ∧ ∃ lv, Here w wr b lv (tkD 3 19 i)) (fun iv _ => 19 - (intOf iv).toNat)
  case atStart => exact ⟨0, rfl, Nat.zero_le _, lv2, C3.out⟩
  case round =>
    obtain ⟨i, rfl, hi, lv, hh⟩ := hrel
    have HH := hid hh
    clear hh
    by_cases hlt : (i : Int) < 19
    · have HT := hid (tick_here 3 19 i (by decide) (by decide) (by decide) (by omega) HH.out)
      go_wp2_with (go_at_call 22; refine HT.out.mono ?_; rintro e w4 ⟨lv4, v4, rfl, hh4⟩; have H4 := hid hh4; clear hh4)
      go_roundw
      case rel => exact ⟨i + 1, by go_num, by omega, lv4, H4.out⟩
      case measure => simp [intOf]; omega
    · obtain rfl : i = 19 := by omega
      obtain ⟨D0, hD0⟩ : ∃ D0, D0 = wonD 3 ((19 : Nat) : Int) := ⟨_, rfl⟩
      have HH0 : Hid (Here w wr b lv D0) := hid (by rw [hD0]; exact HH.out)
      have HL0 : Hid (Led D0 1 ∧ D0.bi = 0 ∧ D0.self = 3) := hid (by
        rw [hD0]
        exact ⟨won_led _ (by decide) (by decide), (won_facts _ (by decide) (by decide)).2.1, (won_facts _ (by decide) (by decide)).2.2.2.1⟩)
      clear hD0 HH
      have HLD := hid (leads_any 0 b lv D0 wr HH0.out.co)
      have HTD := hid (told_any 0 b lv D0 wr HH0.out.co)
      rw [HL0.out.1.role] at HLD
      rw [HL0.out.1.told] at HTD
      go_wp2_with (first | (go_at_call 16; refine HLD.out.mono ?_; rintro e w4 ⟨rfl, hw4⟩; replace hw4 := hw4.symm; subst hw4) | (go_at_call 18; refine HTD.out.mono ?_; rintro e w5 ⟨rfl, hw5⟩; replace hw5 := hw5.symm; subst hw5))
      obtain ⟨f, hf⟩ : ∃ f, f = fg % 40 := ⟨_, rfl⟩
      have hf40 : f < 40 := by omega
      have HFE := hid hf
      clear hf HLD HTD C1 C2 C3 B0 HNW
      go_loopw [9, 10, 11, 12, 13, 14, 15, 16, 17, 18, 56] (fun _ _ _ _ _ _ _ _ _ _ iv wr => ∃ i : Nat, iv = .int .i64 i ∧ i ≤ l.length ∧ i ≤ 40 ∧ ∃ lv D, Here w wr b lv D ∧ Led D ((i : Int) + 1) ∧ D.bi = aloF f i ∧ D.self = 3) (fun _ _ _ _ _ _ _ _ _ _ iv _ => l.length - (intOf iv).toNat)
      case atStart => exact ⟨0, rfl, Nat.zero_le _, Nat.zero_le _, lv, D0, HH0.out, HL0.out.1, HL0.out.2.1, HL0.out.2.2⟩
      case round =>
        obtain ⟨i, rfl, hi, hi40, lvi, D, hh, hL1, hbi, hself⟩ := hrel
        have HH := hid hh
        have HLd := hid hL1
        have HBI := hid hbi
        have HSE := hid hself
        clear hh hL1 hbi hself HH0 HL0
        by_cases hlt2 : (i : Int) < (l.length : Int)
        · have hil : i < l.length := by omega
          have HVR := hid (HV.out.below HH.out.bel)
          obtain ⟨gd, od, rfl⟩ := HVR.out.addr (by omega)
          have c0 := HVR.out.lit i hil
          have hsz : (l[i].size : Int) ≤ 9223372036854775807 := by have := HSS.out _ (List.getElem_mem hil); unfold maxLen at this; omega
          generalize l[i] = s at *
          by_cases h40 : (40 : Int) ≤ (i : Int)
          · skip
            have hvn : vNow D = byT [3] := by rw [HLd.out.al.now, HSE.out]
            have HVN := hid hvn
            clear hvn
            go_wp2_with (first | (go_at_call 13; refine (offer_no HH.out 2 1 ⟨#[]⟩ (by decide) (fun Y hY => mayOffer_arg b _ _ 2 _ Y hY HLd.out.role ent_a)).mono ?_; rintro e z1 ⟨lw1, xa1, xb1, xc1, xd1, rfl, hz1⟩; have Z1 := hid (hz1.alloc (.cells #[.bool false, .slice xa1 0 xb1, .slice xc1 0 xd1] 34)); clear hz1 HH) | (go_at_call 13; refine (offer_no Z1.out 3 1 ⟨#[]⟩ (by decide) (fun Y hY => mayOffer_arg b _ _ 3 _ Y hY HLd.out.role ent_b)).mono ?_; rintro e z2 ⟨lw2, ya1, yb1, yc1, yd1, rfl, hz2⟩; have Z2 := hid (hz2.alloc (.cells #[.bool false, .slice ya1 0 yb1, .slice yc1 0 yd1] 34)); clear hz2 Z1) | (go_at_call 13; refine (offer_no Z2.out 2 1 ⟨#[3]⟩ (by decide) (fun Y hY => mayOffer_apart b _ _ _ Y hY HLd.out.com.i HLd.out.lo (HLd.out.told.trans HLd.out.last.symm) HLd.out.tt HLd.out.role ent_c (by rw [HVN.out]; exact ap_c))).mono ?_; rintro e z3 ⟨lw3, za1, zb1, zc1, zd1, rfl, hz3⟩; have Z3 := hid (hz3.alloc (.cells #[.bool false, .slice za1 0 zb1, .slice zc1 0 zd1] 34)); clear hz3 Z2) | (go_at_call 13; refine (offer_no Z3.out 2 1 ⟨#[0, 1, 3]⟩ (by decide) (fun Y hY => mayOffer_apart b _ _ _ Y hY HLd.out.com.i HLd.out.lo (HLd.out.told.trans HLd.out.last.symm) HLd.out.tt HLd.out.role ent_d (by rw [HVN.out]; exact ap_d))).mono ?_; rintro e z4 ⟨lw4, qa1, qb1, qc1, qd1, rfl, hz4⟩; have Z4 := hid (hz4.alloc (.cells #[.bool false, .slice qa1 0 qb1, .slice qc1 0 qd1] 34)); clear hz4 Z3) | (go_at_call 8; refine (lives_any _).mono ?_; rintro e z5 ⟨rfl, hb5⟩; have B5 := hid (Z4.out.bel.trans (hb5.mono Z4.out.bel.size)); clear hb5))
            go_ret
            exact ⟨rfl, B5.out⟩
          · by_cases h4096 : (4096 : Int) < (s.size : Int)
            · have HO := hid (offer_no HH.out 1 1 s (by decide) (fun Y hY => mayOffer_arg b _ _ 1 s Y hY HLd.out.role (by unfold entB; rw [decide_eq_false (by omega)]; rfl)))
              go_wp2_with (first | (go_at_call 13; refine HO.out.mono ?_; rintro e w6 ⟨lv6, ma6, mc6, na6, nc6, rfl, hh6⟩; have H6 := hid (hh6.alloc (.cells #[.bool false, .slice ma6 0 mc6, .slice na6 0 nc6] 34)); clear hh6) | (go_at_call 8; refine (lives_any _).mono ?_; rintro e w7 ⟨rfl, hb7⟩; have B7 := hid (H6.out.bel.trans (hb7.mono H6.out.bel.size)); clear hb7))
              go_ret
              exact ⟨rfl, B7.out⟩
            · have HO := hid (offer_led HH.out HLd.out (by omega) s (by unfold entB; rw [decide_eq_true (show s.size ≤ 4096 by omega)]; rfl))
              go_upto_region 20 with (go_at_call 13; refine HO.out.mono ?_; rintro e w6 ⟨lv6, ma6, mc6, g6, nc6, rfl, hh6, n0, n3, n4⟩; have H6 := hid hh6; clear hh6)
              have b7 : Below w6.heap.size w6 (w6.alloc (.cells #[.bool true, .slice ma6 0 mc6, .slice (some ⟨g6, 0, none⟩) 1 nc6] 34)) := (Below.refl _ _).alloc (Nat.le_refl _) _
              have hX : (w6.alloc (.cells #[.bool true, .slice ma6 0 mc6, .slice (some ⟨g6, 0, none⟩) 1 nc6] 34)).heap[w6.heap.size]? = _ := heap_alloc_new _ _
              have H7 := hid (H6.out.below b7)
              replace n0 := cell_later b7 n0
              replace n3 := cell_later b7 n3
              replace n4 := cell_later b7 n4
              generalize w6.alloc (.cells #[.bool true, .slice ma6 0 mc6, .slice (some ⟨g6, 0, none⟩) 1 nc6] 34) = w7 at *
              obtain ⟨X, hXe⟩ : ∃ X, X = w6.heap.size := ⟨_, rfl⟩
              rw [← hXe] at hX
              rw [← hXe]
              clear hXe b7
              have k2 : w7.cell? ⟨X, 2, none⟩ = some (.slice (some ⟨g6, 0, none⟩) 1 nc6) := by rw [cell_of_row _ _ _ _ _ _ hX]; rfl
              have hw2 : IntKind.i64.wrap ((i : Int) + 2) = (i : Int) + 2 := IntWalk.i64_in _ ⟨by omega, by omega⟩
              have hn2 : ((i : Int) + 1 + 1) = (i : Int) + 2 := by omega
              rw [hn2] at n0
              have HL7 : Hid (Led (tlD (putD D 1 s) 1) ((i : Int) + 2)) := hid (by rw [← hn2]; exact HLd.out.off (by omega) s)
              clear hX
              go_upto_region 22 with fail
              have hwu : IntKind.u64.wrap (i : Int) = (i : Int) := by simp [IntKind.wrap, IntKind.bits, IntKind.signed]; omega
              have hrm : (fg : Int) % 40 = (f : Int) := by rw [HFE.out]; omega
              have hrt : (fg : Int).tmod 40 = (f : Int) := by rw [Int.tmod_eq_emod_of_nonneg (by omega)]; exact hrm
              have HD7 : Hid ((tlD (putD D 1 s) 1).bi = D.bi ∧ (tlD (putD D 1 s) 1).self = 3) := hid ⟨rfl, HSE.out⟩
              generalize tlD (putD D 1 s) 1 = D7 at *
              clear k2 n0 n3 n4
              by_cases hif : i = f
              · subst hif
                have hb0 : D7.bi = 0 := by rw [HD7.out.1, HBI.out]; unfold aloF; rw [if_neg (by omega)]
                have hlen : D7.log.length = i + 2 := by have := HL7.out.last; omega
                have HC := hid (compact_led H7.out HL7.out (by omega) (i + 1) ⟨#[115, 116, 97, 116, 101]⟩ (by omega) (by omega) (by decide))
                rw [show D7.bi + ((i + 1 : Nat) : Int) = (i : Int) + 1 by omega] at HC
                have HL8 := hid (HL7.out.reb (i + 1) (by omega) (by omega) ⟨#[115, 116, 97, 116, 101]⟩)
                have HD8 : Hid ((rebD D7 (i + 1) (vUp D7 (i + 1)) ⟨#[115, 116, 97, 116, 101]⟩).bi = (i : Int) + 1 ∧ (rebD D7 (i + 1) (vUp D7 (i + 1)) ⟨#[115, 116, 97, 116, 101]⟩).self = 3) := hid ⟨by show D7.bi + ((i + 1 : Nat) : Int) = _; omega, HD7.out.2⟩
                generalize rebD D7 (i + 1) (vUp D7 (i + 1)) ⟨#[115, 116, 97, 116, 101]⟩ = D8 at *
                have hw1 : IntKind.i64.wrap ((i : Int) + 1) = (i : Int) + 1 := IntWalk.i64_in _ ⟨by omega, by omega⟩
                have hw3 : IntKind.i64.wrap ((i : Int) + 3) = (i : Int) + 3 := IntWalk.i64_in _ ⟨by omega, by omega⟩
                have HLA : Hid (D8.bi + (D8.log.length : Int) = (i : Int) + 2) := hid HL8.out.last
                clear hb0 hlen
                go_upto_region 24 with (go_at_call 14; refine HC.out.mono ?_; rintro e y1 ⟨lw1, xa1, xb1, xc1, xd1, rfl, hz1⟩; have Y1 := hid hz1; clear hz1 HC)
                have b1 : Below y1.heap.size y1 (y1.alloc (.cells #[.bool true, .slice xa1 0 xb1, .slice xc1 0 xd1] 34)) := (Below.refl _ _).alloc (Nat.le_refl _) _
                have hP1 : (y1.alloc (.cells #[.bool true, .slice xa1 0 xb1, .slice xc1 0 xd1] 34)).heap[y1.heap.size]? = some (.cells #[.bool true, .slice xa1 0 xb1, .slice xc1 0 xd1] 34 (0, 0)) := heap_alloc_new _ _
                have Z1 := hid (Y1.out.below b1)
                generalize y1.alloc (.cells #[.bool true, .slice xa1 0 xb1, .slice xc1 0 xd1] 34) = v1 at Z1 hP1 ⊢
                obtain ⟨P1, hPe⟩ : ∃ P1, P1 = y1.heap.size := ⟨_, rfl⟩
                rw [← hPe] at hP1
                rw [← hPe]
                clear hPe b1 Y1
                have HP1 := hid hP1
                clear hP1
                have HC := hid (compact_noW Z1.out ((i : Int) + 3) ⟨#[115, 116, 97, 116, 101]⟩ (.inr (by rw [HL8.out.told]; omega)) P1 _ HP1.out)
                go_upto_region 25 with (go_at_call 14; refine HC.out.mono ?_; rintro e y2 ⟨lw2, ya1, yb1, yc1, yd1, rfl, hz2, hp2⟩; have Z2 := hid (hz2.alloc (.cells #[.bool false, .slice ya1 0 yb1, .slice yc1 0 yd1] 34)); have HP2 : Hid ((y2.alloc (.cells #[.bool false, .slice ya1 0 yb1, .slice yc1 0 yd1] 34)).heap[P1]? = some (.cells #[.bool true, .slice xa1 0 xb1, .slice xc1 0 xd1] 34 (0, 0))) := hid ((((Below.refl _ _).alloc (Nat.le_refl _) _).block P1 (lt_of_block hp2)).trans hp2); clear hz2 hp2 HC)
                generalize y2.alloc (.cells #[.bool false, .slice ya1 0 yb1, .slice yc1 0 yd1] 34) = v2 at Z2 HP2 ⊢
                have HC := hid (compact_noW Z2.out ((i : Int) + 1) ⟨#[115, 116, 97, 116, 101]⟩ (.inl (by rw [HD8.out.1]; omega)) P1 _ HP2.out)
                go_upto_region 26 with (go_at_call 14; refine HC.out.mono ?_; rintro e y3 ⟨lw3, za1, zb1, zc1, zd1, rfl, hz3, hp3⟩; have Z3 := hid (hz3.alloc (.cells #[.bool false, .slice za1 0 zb1, .slice zc1 0 zd1] 34)); have HP3 : Hid ((y3.alloc (.cells #[.bool false, .slice za1 0 zb1, .slice zc1 0 zd1] 34)).heap[P1]? = some (.cells #[.bool true, .slice xa1 0 xb1, .slice xc1 0 xd1] 34 (0, 0))) := hid ((((Below.refl _ _).alloc (Nat.le_refl _) _).block P1 (lt_of_block hp3)).trans hp3); clear hz3 hp3 HC)
                generalize y3.alloc (.cells #[.bool false, .slice za1 0 zb1, .slice zc1 0 zd1] 34) = v3 at Z3 HP3 ⊢
                have p0 : v3.cell? ⟨P1, 0, none⟩ = some (.bool true) := by rw [cell_of_row _ _ _ _ _ _ HP3.out]; rfl
                have HLS := hid (last_any 0 b lw3 D8 v3 Z3.out.co HL8.out.com.i)
                rw [HLA.out] at HLS
                go_wp2_with (go_at_call 17; refine HLS.out.mono ?_; rintro e y4 ⟨rfl, m4, rfl⟩; have Z4 := hid (Z3.out.below (belowN v3 m4)))
                go_roundw
                case rel => exact ⟨i + 1, by go_num, by omega, by omega, lw3, D8, Z4.out, by have := HL8.out; rw [show ((i + 1 : Nat) : Int) + 1 = (i : Int) + 2 by omega]; exact this, by rw [HD8.out.1]; unfold aloF; rw [if_pos (by omega)], HD8.out.2⟩
                case measure => simp [intOf]; omega
              · have hq : ((i : Int) == (f : Int)) = false := by simp; omega
                go_wp2_with fail
                go_roundw
                case rel => exact ⟨i + 1, by go_num, by omega, by omega, lv6, D7, H7.out, by have := HL7.out; rw [show ((i + 1 : Nat) : Int) + 1 = (i : Int) + 2 by omega]; exact this, by rw [HD7.out.1, HBI.out]; unfold aloF; (split <;> split <;> omega), HD7.out.2⟩
                case measure => simp [intOf]; omega
        · skip
          have hvn : vNow D = byT [3] := by rw [HLd.out.al.now, HSE.out]
          have HVN := hid hvn
          clear hvn
          go_wp2_with (first | (go_at_call 13; refine (offer_no HH.out 2 1 ⟨#[]⟩ (by decide) (fun Y hY => mayOffer_arg b _ _ 2 _ Y hY HLd.out.role ent_a)).mono ?_; rintro e z1 ⟨lw1, xa1, xb1, xc1, xd1, rfl, hz1⟩; have Z1 := hid (hz1.alloc (.cells #[.bool false, .slice xa1 0 xb1, .slice xc1 0 xd1] 34)); clear hz1 HH) | (go_at_call 13; refine (offer_no Z1.out 3 1 ⟨#[]⟩ (by decide) (fun Y hY => mayOffer_arg b _ _ 3 _ Y hY HLd.out.role ent_b)).mono ?_; rintro e z2 ⟨lw2, ya1, yb1, yc1, yd1, rfl, hz2⟩; have Z2 := hid (hz2.alloc (.cells #[.bool false, .slice ya1 0 yb1, .slice yc1 0 yd1] 34)); clear hz2 Z1) | (go_at_call 13; refine (offer_no Z2.out 2 1 ⟨#[3]⟩ (by decide) (fun Y hY => mayOffer_apart b _ _ _ Y hY HLd.out.com.i HLd.out.lo (HLd.out.told.trans HLd.out.last.symm) HLd.out.tt HLd.out.role ent_c (by rw [HVN.out]; exact ap_c))).mono ?_; rintro e z3 ⟨lw3, za1, zb1, zc1, zd1, rfl, hz3⟩; have Z3 := hid (hz3.alloc (.cells #[.bool false, .slice za1 0 zb1, .slice zc1 0 zd1] 34)); clear hz3 Z2) | (go_at_call 13; refine (offer_no Z3.out 2 1 ⟨#[0, 1, 3]⟩ (by decide) (fun Y hY => mayOffer_apart b _ _ _ Y hY HLd.out.com.i HLd.out.lo (HLd.out.told.trans HLd.out.last.symm) HLd.out.tt HLd.out.role ent_d (by rw [HVN.out]; exact ap_d))).mono ?_; rintro e z4 ⟨lw4, qa1, qb1, qc1, qd1, rfl, hz4⟩; have Z4 := hid (hz4.alloc (.cells #[.bool false, .slice qa1 0 qb1, .slice qc1 0 qd1] 34)); clear hz4 Z3) | (go_at_call 8; refine (lives_any _).mono ?_; rintro e z5 ⟨rfl, hb5⟩; have B5 := hid (Z4.out.bel.trans (hb5.mono Z4.out.bel.size)); clear hb5))
          go_ret
          exact ⟨rfl, B5.out⟩
end Go.Proofs.Ythlmmkifcehplaa
