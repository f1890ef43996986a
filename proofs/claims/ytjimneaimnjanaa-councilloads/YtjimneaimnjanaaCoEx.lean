/- The law's own example: lives. And the calls that read one number. -/
import Derived.Test.YtjimneaimnjanaaCoLives
namespace Go.Proofs.Ytjimneaimnjanaa
open Go.RowKit
set_option linter.unusedVariables false
set_option linter.unusedSimpArgs false

set_option maxRecDepth 100000 in
set_option maxHeartbeats 1600000 in
theorem leads_any (base b : Nat) (lv : Value) (D : CoD) (w : World) (h : Co w base b lv D) :
    Calls Try.prog 20 #[.pointer (some ⟨b, 0, none⟩)] w fun e w' => e = .returned (.bool (D.role == 2)) ∧ w' = w := by
  have c8 : w.cell? ⟨b, 8, none⟩ = some (.int .i64 D.role) := h.cell 8
  clear h
  go_enter Try.func20, Try.ntmps20
  go_wp2_with fail
  go_ret
  exact ⟨rfl, rfl⟩
set_option maxRecDepth 100000 in
set_option maxHeartbeats 1600000 in
theorem told_any (base b : Nat) (lv : Value) (D : CoD) (w : World) (h : Co w base b lv D) :
    Calls Try.prog 17 #[.pointer (some ⟨b, 0, none⟩)] w fun e w' => e = .returned (.int .i64 D.told) ∧ w' = w := by
  have c10 : w.cell? ⟨b, 10, none⟩ = some (.int .i64 D.told) := h.cell 10
  clear h
  go_enter Try.func17, Try.ntmps17
  go_wp2_with fail
  go_ret
  exact ⟨rfl, rfl⟩
theorem word_news (u0 u1 u2 : Value) (W : World) : (Instr.field 61 (.agg #[u0, u1, u2]) 2).run Try.prog W = .ok u2 W := by
  simp [Instr.field, go_sem]
  rfl
/-- The state behind i of the n ticks that it takes to be elected. -/
def tkD (s : Int) (n i : Nat) : CoD := if i < n then oneD s i else wonD s n
theorem CRet.below {w0 w w' : World} {b : Nat} {lv v : Value} {D' : CoD} {W' : WdD} (h : CRet w b lv v w' D' W') (hb : Below w0.heap.size w0 w) (hbb : w0.heap.size ≤ b) (hl : ∀ q, lv.ownBlock = some q → w0.heap.size ≤ q) :
    ∃ lv' ma mc na nc, v = .agg #[.bool W'.keep, .slice ma W'.mails.length mc, .slice na W'.news.length nc] ∧ Co w' 0 b lv' D' ∧ w'.ownsRow w.heap.size 55 28 (.slice ma W'.mails.length mc) W'.mails.length W'.mails.flatten ∧ w'.ownsRow w.heap.size 75 5 (.slice na W'.news.length nc) W'.news.length (nzs W'.news) ∧ Below w0.heap.size w0 w' ∧ (∀ q, lv'.ownBlock = some q → w0.heap.size ≤ q) := by
  obtain ⟨lv', ms, ns, rfl, hc, hm, hn, hbt, hnw⟩ := h
  obtain ⟨ma, mc, rfl⟩ := own_shape hm
  obtain ⟨na, nc, rfl⟩ := own_shape hn
  refine ⟨lv', ma, mc, na, nc, rfl, hc, hm, hn, ⟨hbt.os.trans hb.os, hbt.tape.trans hb.tape, hbt.output.trans hb.output, Nat.le_trans hb.size hbt.size, fun q hq => ?_⟩, fun q hq => ?_⟩
  · refine (hbt.block q (Nat.lt_of_lt_of_le hq hb.size) ?_).trans (hb.block q hq)
    rintro (h | h)
    · omega
    · have := hl q h; omega
  · rcases hnw q hq with h | h
    · exact hl q h
    · exact Nat.le_trans hb.size h
/-- One of the ticks. -/
theorem tick_one (s : Int) (n i : Nat) (b : Nat) (lv : Value) (w : World) (h0 : 0 ≤ s) (h1 : s < 7) (hn : (n : Int) = 10 + 3 * s) (hi : i < n) (h : Co w 0 b lv (tkD s n i)) :
    Calls Try.prog 30 #[.pointer (some ⟨b, 0, none⟩)] w fun e w' => ∃ v, e = .returned v ∧ CRet w b lv v w' (tkD s n (i + 1)) (if i + 1 < n then ⟨false, [], []⟩ else ⟨true, [], [⟨1, ⟨1, 0, ⟨#[]⟩⟩, false⟩]⟩) := by
  unfold tkD at h ⊢
  rw [if_pos hi] at h
  by_cases hl : i + 1 < n
  · rw [if_pos hl, if_pos hl]
    exact tick_wait b lv (oneD s i) w h (.inl rfl) h0 h1 (by show (0 : Int) ≤ i; omega) (by show (i : Int) + 1 < 10 + 3 * s; omega)
  · obtain rfl : n = i + 1 := by omega
    rw [if_neg hl, if_neg hl]
    have := elect_alone b lv (oneD s i) w h (one_al _ h0 h1) ⟨Int.le_refl (0 : Int), by show (0 : Int) ≤ _; decide, Nat.zero_le _⟩ (.inl rfl) (by show (0 : Int) ≤ i; omega) (by show 10 + 3 * s ≤ (i : Int) + 1; omega) (by show (i : Int) ≤ _; omega) (Nat.zero_le _) (Int.le_refl (0 : Int)) (by show (0 : Int) ≤ 0 + ((0 : Nat) : Int); decide) (Int.le_refl (0 : Int)) (by show (0 : Int) < _; decide)
    have e : leadW (standD (oneD s ((i : Int) + 1))) ⟨true, [], []⟩ = _ := won_news _ h0 h1
    have this2 : Calls Try.prog 30 #[.pointer (some ⟨b, 0, none⟩)] w fun e w' => ∃ v, e = .returned v ∧ CRet w b lv v w' (wonD s ((i : Int) + 1)) (leadW (standD (oneD s ((i : Int) + 1))) ⟨true, [], []⟩) := this
    rw [e] at this2
    exact this2
theorem tick_oneB (s : Int) (n i : Nat) (b : Nat) (lv : Value) (w0 w : World) (h0 : 0 ≤ s) (h1 : s < 7) (hn : (n : Int) = 10 + 3 * s) (hi : i < n) (h : Co w 0 b lv (tkD s n i)) (hb : Below w0.heap.size w0 w) (hbb : w0.heap.size ≤ b) (hl : ∀ q, lv.ownBlock = some q → w0.heap.size ≤ q) (W' : WdD) (hW : W' = if i + 1 < n then ⟨false, [], []⟩ else ⟨true, [], [⟨1, ⟨1, 0, ⟨#[]⟩⟩, false⟩]⟩) :
    Calls Try.prog 30 #[.pointer (some ⟨b, 0, none⟩)] w fun e w' => ∃ lv' ma mc na nc, e = .returned (.agg #[.bool W'.keep, .slice ma W'.mails.length mc, .slice na W'.news.length nc]) ∧ Co w' 0 b lv' (tkD s n (i + 1)) ∧ Below w0.heap.size w0 w' ∧ (∀ q, lv'.ownBlock = some q → w0.heap.size ≤ q) := by
  refine (tick_one s n i b lv w h0 h1 hn hi h).mono ?_
  rintro e w' ⟨v, rfl, hr⟩
  rw [← hW] at hr
  obtain ⟨lv', ma, mc, na, nc, rfl, h1, -, -, h4, h5⟩ := hr.below hb hbb hl
  exact ⟨lv', ma, mc, na, nc, rfl, h1, h4, h5⟩
theorem won_off {s : Int} (c : Int) (h0 : 0 ≤ s) (h1 : s < 7) (kind : Int) (t : ByteArray) : tlW (putD (wonD s c) kind t) ⟨true, [], []⟩ 1 = ⟨true, [], [⟨2, ⟨1, kind, t⟩, false⟩]⟩ := by
  obtain ⟨e1, e2, e3, e4, e5, -⟩ := won_facts c h0 h1
  unfold tlW newsN putD
  simp only [e1, e2, e3, e5]
  rfl
set_option maxRecDepth 100000 in
set_option maxHeartbeats 4000000 in
theorem lives_any (w : World) : Calls Try.prog 10 #[] w fun e w' => e = .returned (.bool true) ∧ Below w.heap.size w w' := by
  have hN : Nums (w.alloc (.cells #[.int .i64 0] 3)) (.slice (some ⟨w.heap.size, 0, none⟩) 1 1) [0] := by
    refine ⟨_, _, _, rfl, rfl, Nat.le_refl _, by omega, (fun h => by cases h), ?_⟩
    intro ad had j hj
    cases had
    obtain rfl : j = 0 := by simpa using hj
    rw [Addr.add_lit, cell_of_row _ _ _ _ _ _ (heap_alloc_new _ _)]; rfl
  have HNW := hid (new_yes 0 [0] _ _ hN (by decide) (by decide))
  have B0 : Hid (Below w.heap.size w (w.alloc (.cells #[.int .i64 0] 3))) := hid ((Below.refl _ _).alloc (Nat.le_refl _) _)
  clear hN
  have hwf := fun u0 u1 u2 W => word_news u0 u1 u2 W
  go_enter Try.func10, Try.ntmps10
  go_wp2_with (go_at_call 25; refine HNW.out.mono ?_; rintro e w1 ⟨b, rfl, hb, hc, hw⟩; have C1 := hid hc; have B1 := hid (B0.out.trans (hw.mono B0.out.size)); have HB : Hid (w.heap.size ≤ b) := hid (Nat.le_trans B0.out.size hb); clear hb hc hw)
  go_loopw [3, 13] (fun tv iv wr => ∃ i : Nat, iv = .int .i64 i ∧ i ≤ 10 ∧ tv = .int .i64 (if i < 10 then 0 else 1) ∧ Below w.heap.size w wr ∧ ∃ lv, Co wr 0 b lv (tkD 0 10 i) ∧ (∀ q, lv.ownBlock = some q → w.heap.size ≤ q)) (fun _ iv _ => 10 - (intOf iv).toNat)
  case atStart => exact ⟨0, rfl, Nat.zero_le _, rfl, B1.out, _, C1.out, fun q h => by cases h⟩
  case round =>
    obtain ⟨i, rfl, hi, rfl, hbr, lv, hc, hlv⟩ := hrel
    have BR := hid hbr
    have HC := hid hc
    have HLV := hid hlv
    clear hbr hc hlv
    by_cases hlt : (i : Int) < 10
    · have hi9 : i < 10 := by omega
      rw [if_pos hi9]
      by_cases hl : i + 1 < 10
      · have HT := hid (tick_oneB 0 10 i b lv w wr (by decide) (by decide) (by decide) hi9 HC.out BR.out HB.out HLV.out ⟨false, [], []⟩ (by rw [if_pos hl]))
        go_wp2_with (go_at_call 30; refine HT.out.mono ?_; rintro e w2 ⟨lv2, ma, mc, na, nc, rfl, hc2, hb2, hl2⟩; have C2 := hid hc2; have B2 := hid hb2; have L2 := hid hl2; clear hc2 hb2 hl2)
        go_roundw
        case rel => exact ⟨i + 1, by go_num, by omega, by rw [if_pos hl], B2.out, lv2, C2.out, L2.out⟩
        case measure => simp [intOf]; omega
      · have HT := hid (tick_oneB 0 10 i b lv w wr (by decide) (by decide) (by decide) hi9 HC.out BR.out HB.out HLV.out ⟨true, [], [⟨1, ⟨1, 0, ⟨#[]⟩⟩, false⟩]⟩ (by rw [if_neg hl]))
        go_wp2_with (go_at_call 30; refine HT.out.mono ?_; rintro e w2 ⟨lv2, ma, mc, na, nc, rfl, hc2, hb2, hl2⟩; have C2 := hid hc2; have B2 := hid hb2; have L2 := hid hl2; clear hc2 hb2 hl2)
        go_roundw
        case rel => exact ⟨i + 1, by go_num, by omega, by rw [if_neg hl], B2.out, lv2, C2.out, L2.out⟩
        case measure => simp [intOf]; omega
    · obtain rfl : i = 10 := by omega
      rw [if_neg (by decide)]
      have C10 : Hid (Co wr 0 b lv (wonD 0 (10 : Nat))) := hid HC.out
      obtain ⟨e1, e2, e3, e4, e5, e6, hci, hal⟩ := won_facts (s := 0) ((10 : Nat) : Int) (by decide) (by decide)
      have HOF := hid (offer_one b lv _ 1 ⟨#[97]⟩ wr C10.out hal hci e6 (by rw [e1]; decide) (by decide) (by decide))
      rw [e1, e2, e3] at HOF
      rw [show ((0 : Int) + (([⟨1, 0, ⟨#[]⟩⟩] : List En).length : Int) + 1 - 1).toNat = 1 from rfl] at HOF
      rw [won_off ((10 : Nat) : Int) (by decide) (by decide)] at HOF
      have F6 : Hid ((tlD (putD (wonD 0 ((10 : Nat) : Int)) 1 ⟨#[97]⟩) 1).role = 2 ∧ (tlD (putD (wonD 0 ((10 : Nat) : Int)) 1 ⟨#[97]⟩) 1).told = 2) := hid ⟨e6, by show (wonD 0 ((10 : Nat) : Int)).told + 1 = 2; rw [e3]; rfl⟩
      clear e1 e2 e3 e4 e5 e6 hci hal
      generalize tlD (putD (wonD 0 ((10 : Nat) : Int)) 1 ⟨#[97]⟩) 1 = D2 at HOF F6
      go_upto_region 10 with (go_at_call 27; refine HOF.out.mono ?_; rintro e w2 ⟨v, rfl, hr⟩; obtain ⟨lv2, ma, mc, na, nc, rfl, hc2, -, hn2, hb2, -⟩ := hr.below BR.out HB.out HLV.out; have C2 := hid hc2; have N2 := hid hn2; have B2 := hid hb2; clear hc2 hn2 hb2 hr)
      have b3 : Below w2.heap.size w2 (w2.alloc (.cells #[.bool true, .slice ma 0 mc, .slice na 1 nc] 61)) := (Below.refl _ _).alloc (Nat.le_refl _) _
      have hX : (w2.alloc (.cells #[.bool true, .slice ma 0 mc, .slice na 1 nc] 61)).heap[w2.heap.size]? = _ := heap_alloc_new _ _
      have C3 := hid (C2.out.below b3)
      have B3 := hid (B2.out.trans (b3.mono B2.out.size))
      have hn3 := own_below N2.out b3
      generalize w2.alloc (.cells #[.bool true, .slice ma 0 mc, .slice na 1 nc] 61) = w3 at *
      obtain ⟨X, hXe⟩ : ∃ X, X = w2.heap.size := ⟨_, rfl⟩
      rw [← hXe] at hX
      rw [← hXe]
      clear hXe b3
      have k0 : w3.cell? ⟨X, 0, none⟩ = some (.bool true) := by rw [cell_of_row _ _ _ _ _ _ hX]; rfl
      have k2 : w3.cell? ⟨X, 2, none⟩ = some (.slice na 1 nc) := by rw [cell_of_row _ _ _ _ _ _ hX]; rfl
      obtain ⟨g, hg⟩ : ∃ g, na = some ⟨g, 0, none⟩ := by
        obtain ⟨_, h2⟩ := hn3
        rcases h2 with ⟨h, h0⟩ | ⟨g, cap, cur, h, -⟩
        · cases h
        · cases h; exact ⟨g, rfl⟩
      subst hg
      have t3 : w3.cell? ⟨g, 3, none⟩ = some (.string ⟨#[97]⟩) := hn3.cells (g := g) rfl 3 _ rfl
      have HLD := hid (leads_any 0 b lv2 D2 w3 C3.out)
      have HTD := hid (told_any 0 b lv2 D2 w3 C3.out)
      rw [F6.out.1] at HLD
      rw [F6.out.2] at HTD
      clear hX hn3
      go_wp2_with (first | (go_at_call 20; refine HLD.out.mono ?_; rintro e w4 ⟨rfl, hw4⟩; replace hw4 := hw4.symm; subst hw4) | (go_at_call 17; refine HTD.out.mono ?_; rintro e w5 ⟨rfl, hw5⟩; replace hw5 := hw5.symm; subst hw5))
      go_ret
      exact ⟨rfl, B3.out⟩
end Go.Proofs.Ytjimneaimnjanaa
