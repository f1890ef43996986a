/- lead, and win where enough have voted. What spread leaves is handed in. -/
import Derived.Test.YtjimneaimnjanaaCoCommit
import Derived.Deep.MidRow
namespace Go.Proofs.Ytjimneaimnjanaa
open Go.RowKit
set_option linter.unusedVariables false
set_option linter.unusedSimpArgs false

theorem CStep.glue {w w1 w2 : World} {b wb : Nat} {lv ms ns lv1 ms1 ns1 : Value} {D2 : CoD} {W2 : WdD} (hb : Bt (Blk b wb lv ms ns) w w1) (n1 : Nw w lv lv1) (n2 : Nw w ms ms1) (n3 : Nw w ns ns1)
    (k : CStep w1 b wb lv1 ms1 ns1 w2 D2 W2) : CStep w b wb lv ms ns w2 D2 W2 := by
  obtain ⟨lv2, ms2, ns2, hc2, hw2, hb2, m1, m2, m3⟩ := k
  exact ⟨lv2, ms2, ns2, hc2, hw2, hb.trans hb2 (Blk.new n1 n2 n3), n1.trans m1 hb.size, n2.trans m2 hb.size, n3.trans m3 hb.size⟩
/-- The first n nodes are met anew. -/
def meetN (D : CoD) : Nat → CoD
  | 0 => D
  | n + 1 => meetD (meetN D n) n
theorem meetN_same (D : CoD) (n : Nat) : (meetN D n).self = D.self ∧ (meetN D n).term = D.term ∧ (meetN D n).vote = D.vote ∧ (meetN D n).bi = D.bi ∧ (meetN D n).bt = D.bt ∧ (meetN D n).bv = D.bv ∧ (meetN D n).bx = D.bx ∧ (meetN D n).log = D.log ∧ (meetN D n).role = D.role ∧ (meetN D n).leader = D.leader ∧ (meetN D n).told = D.told ∧ (meetN D n).clock = D.clock ∧ (meetN D n).votes = D.votes ∧ (meetN D n).beats = D.beats := by
  induction n with
  | zero => simp [meetN]
  | succ n ih => simpa [meetN, meetD] using ih
theorem meetN_mt (D : CoD) (n k : Nat) (h : k < n) : (meetN D n).mt k = 0 := by
  induction n with
  | zero => omega
  | succ n ih =>
    show upd (meetN D n).mt n 0 k = 0
    unfold upd
    split
    · rfl
    · exact ih (by omega)
/-- What lead leaves ahead of commit, and behind it. -/
def seatD (D : CoD) : CoD := { D with role := 2, leader := D.self, beats := 0 }
def ledD (D : CoD) : CoD := meetN (putD (seatD D) 0 ⟨#[]⟩) 7
def leadD (D : CoD) : CoD := comE (ledD D)
def leadW (D : CoD) (W : WdD) : WdD := comW (ledD D) { W with keep := true }
set_option maxRecDepth 100000 in
set_option maxHeartbeats 4000000 in
theorem lead_any (b wb : Nat) (lv ms ns : Value) (D : CoD) (W W2 : WdD) (w : World) (h : Co w 0 b lv D) (k : Wd w wb ms ns W) (hi : CoI D) (hlt : D.bi ≤ D.told) (hht : D.told ≤ D.bi + D.log.length) (hl : D.log.length ≤ 4095) (hs : (vNow (ledD D)).size ≤ 999999) (h0 : 0 ≤ D.self) (h1 : D.self ≤ 255) (hnw : W.news.length ≤ 9999)
    (hsp : ∀ w1 lv1 ms1 ns1, Co w1 0 b lv1 (leadD D) → Wd w1 wb ms1 ns1 (leadW D W) → Calls Try.prog 69 #[.pointer (some ⟨b, 0, none⟩), .pointer (some ⟨wb, 0, none⟩)] w1 fun e w' => e = .returned (.tuple #[]) ∧ CStep w1 b wb lv1 ms1 ns1 w' (leadD D) W2) :
    Calls Try.prog 110 #[.pointer (some ⟨b, 0, none⟩), .pointer (some ⟨wb, 0, none⟩)] w fun e w' => e = .returned (.tuple #[]) ∧ CStep w b wb lv ms ns w' (leadD D) W2 := by
  have HSP := hid hsp
  have HSZ := hid hs
  have hlo := hi.lo
  have hhi := hi.hi
  have c0 : w.cell? ⟨b, 0, none⟩ = some (.int .i64 D.self) := h.cell 0
  have c8 : w.cell? ⟨b, 8, none⟩ = some (.int .i64 D.role) := h.cell 8
  have f8 : w.frozen? ⟨b, 8, none⟩ = false := by simp [World.frozen?, h.head]
  have H1 : Hid (Co (w.setCell ⟨b, 8, none⟩ (.int .i64 2)) 0 b lv { D with role := 2 }) := hid (h.set rfl rfl)
  have c9 : (w.setCell ⟨b, 8, none⟩ (.int .i64 2)).cell? ⟨b, 9, none⟩ = some (.int .i64 D.leader) := H1.out.cell 9
  have f9 : (w.setCell ⟨b, 8, none⟩ (.int .i64 2)).frozen? ⟨b, 9, none⟩ = false := by simp [World.frozen?, H1.out.head]
  have H2 : Hid (Co ((w.setCell ⟨b, 8, none⟩ (.int .i64 2)).setCell ⟨b, 9, none⟩ (.int .i64 D.self)) 0 b lv { D with role := 2, leader := D.self }) := hid (H1.out.set rfl rfl)
  have c19 : ((w.setCell ⟨b, 8, none⟩ (.int .i64 2)).setCell ⟨b, 9, none⟩ (.int .i64 D.self)).cell? ⟨b, 19, none⟩ = some (.int .i64 D.beats) := H2.out.cell 19
  have f19 : ((w.setCell ⟨b, 8, none⟩ (.int .i64 2)).setCell ⟨b, 9, none⟩ (.int .i64 D.self)).frozen? ⟨b, 19, none⟩ = false := by simp [World.frozen?, H2.out.head]
  obtain ⟨w3, hw3⟩ : ∃ w3, w3 = (((w.setCell ⟨b, 8, none⟩ (.int .i64 2)).setCell ⟨b, 9, none⟩ (.int .i64 D.self)).setCell ⟨b, 19, none⟩ (.int .i64 0)) := ⟨_, rfl⟩
  have H3 : Hid (Co w3 0 b lv (seatD D)) := hid (by rw [hw3]; exact H2.out.set rfl rfl)
  have K3 : Hid (Wd w3 wb ms ns W) := hid (by rw [hw3]; exact ((k.set h).set H1.out).set H2.out)
  have T3 : Hid (Bt (fun q => q = b) w w3) := hid (by rw [hw3]; exact Bt.set (Bt.set (R := fun q => q = b) (Bt.set (Bt.refl _ _) (.inl rfl)) (.inl rfl)) (.inl rfl))
  clear h k hi hsp hs
  go_enter Try.func110, Try.ntmps110
  go_upto_region 1 with fail
  rw [← hw3]
  clear hw3 c0 c8 f8 c9 f9 c19 f19
  have T3B : Hid (Bt (Blk b wb lv ms ns) w w3) := hid ⟨T3.out.os, T3.out.tape, T3.out.output, T3.out.size, fun q hq hn => T3.out.block q hq fun e => hn (.inl e)⟩
  obtain ⟨D1, hD1⟩ : ∃ D1, D1 = putD (seatD D) 0 ⟨#[]⟩ := ⟨_, rfl⟩
  have HP := hid (put_any b wb lv ms ns (seatD D) W 0 ⟨#[]⟩ w3 H3.out K3.out (by show D.log.length ≤ _; omega))
  rw [← hD1] at HP
  go_wp2_with (go_at_call 64; refine HP.out.mono ?_; rintro e w4 ⟨rfl, hst⟩; have ST4 : Hid (CStep w b wb lv ms ns w4 D1 { W with keep := true }) := hid (CStep.glue T3B.out (.refl _ _) (.refl _ _) (.refl _ _) hst); clear hst)
  have hbl : D1.bi = D.bi ∧ D1.log.length = D.log.length + 1 ∧ D1.told = D.told ∧ D1.self = D.self := by rw [hD1]; exact ⟨rfl, by simp [putD, seatD], rfl, rfl⟩
  have HLD : Hid (meetN D1 7 = ledD D) := hid (by rw [hD1]; rfl)
  clear hD1
  go_loopw [4, 21] (fun _ iv wr => ∃ i : Nat, iv = .int .i64 i ∧ i ≤ 7 ∧ CStep w b wb lv ms ns wr (meetN D1 i) { W with keep := true }) (fun _ iv _ => 7 - (intOf iv).toNat)
  case atStart => exact ⟨0, rfl, Nat.zero_le _, ST4.out⟩
  case round =>
    obtain ⟨i, rfl, hi, hst⟩ := hrel
    obtain ⟨lv1, ms1, ns1, hc, hd, hbt, hn1, hn2, hn3⟩ := hst
    have HC := hid hc
    have HD := hid hd
    have HG := hid (And.intro hbt (And.intro hn1 (And.intro hn2 hn3)))
    clear hc hd hbt hn1 hn2 hn3
    by_cases hlt7 : (i : Int) < 7
    · have HII : Hid (CoI (meetN D1 i)) := hid (by
        obtain ⟨-, -, -, e4, -, -, -, e8, -⟩ := meetN_same D1 i
        exact ⟨by rw [e4]; omega, by rw [e4]; omega, by rw [e8]; omega⟩)
      have HM : Hid (Calls Try.prog 67 #[.pointer (some ⟨b, 0, none⟩), .int .i64 (i : Int)] wr fun e w' => e = .returned (.tuple #[]) ∧ CStep w b wb lv ms ns w' (meetN D1 (i + 1)) { W with keep := true }) := hid (by
        refine (meetAnew_any b lv1 (meetN D1 i) i wr HC.out HII.out (by omega)).mono ?_
        rintro e w5 ⟨rfl, hc5, hb5, hk5⟩
        exact ⟨rfl, CStep.glue HG.out.1 HG.out.2.1 HG.out.2.2.1 HG.out.2.2.2 (CStep.own (D := D1) HD.out hc5 hb5 hk5)⟩)
      go_wp2_with (go_at_call 67; refine HM.out.mono ?_; rintro e w5 ⟨rfl, hst5⟩; have ST5 := hid hst5; clear hst5)
      go_roundw
      case rel => exact ⟨i + 1, by go_num, by omega, ST5.out⟩
      case measure => simp [intOf]; omega
    · obtain rfl : i = 7 := by omega
      have HCI : Hid (ComI (meetN D1 7)) := hid (by
        obtain ⟨-, -, -, e4, -, -, -, e8, -, -, e11, -⟩ := meetN_same D1 7
        refine ⟨⟨by rw [e4]; omega, by rw [e4]; omega, by rw [e8]; omega⟩, by rw [e4, e11]; omega, by rw [e4, e8, e11]; omega, fun n hn => ?_⟩
        rw [meetN_mt _ _ _ hn, e4, e8]; omega)
      have hself : (meetN D1 7).self = D.self := (meetN_same D1 7).1.trans hbl.2.2.2
      have hlen : (meetN D1 7).log.length = D.log.length + 1 := by rw [(meetN_same D1 7).2.2.2.2.2.2.2.1]; exact hbl.2.1
      have HCM := hid (commit_any b wb lv1 ms1 ns1 (meetN D1 7) _ wr HC.out HD.out HCI.out (by rw [HLD.out]; exact HSZ.out) (by rw [hself]; exact h0) (by rw [hself]; exact h1) (by rw [hlen]; show W.news.length + _ ≤ _; omega))
      rw [HLD.out] at HCM
      clear hself hlen
      go_wp2_with (first | (go_at_call 68; refine HCM.out.mono ?_; rintro e w6 ⟨rfl, hst6⟩; obtain ⟨lv6, ms6, ns6, hc6, hd6, hbt6, p1, p2, p3⟩ := hst6; have HC6 := hid hc6; have HD6 := hid hd6; have HG6 := hid (And.intro hbt6 (And.intro p1 (And.intro p2 p3))); clear hc6 hd6 hbt6 p1 p2 p3) | (go_at_call 69; refine (HSP.out _ lv6 ms6 ns6 HC6.out HD6.out).mono ?_; rintro e w7 ⟨rfl, hst7⟩; have ST7 := hid hst7; clear hst7))
      first | go_end0 | refine bodyPost_ret (results_none rfl _ _ _) rfl ?_
      exact ⟨rfl, CStep.glue HG.out.1 HG.out.2.1 HG.out.2.2.1 HG.out.2.2.2 (CStep.glue HG6.out.1 HG6.out.2.1 HG6.out.2.2.1 HG6.out.2.2.2 ST7.out)⟩
end Go.Proofs.Ytjimneaimnjanaa
