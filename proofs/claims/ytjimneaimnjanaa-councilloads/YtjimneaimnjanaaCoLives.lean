/- A voter alone: it elects itself, takes offers; and the law's own example. -/
import Derived.Test.YtjimneaimnjanaaCoOne
namespace Go.Proofs.Ytjimneaimnjanaa
open Go.RowKit
set_option linter.unusedVariables false
set_option linter.unusedSimpArgs false

theorem Al.leadA {D : CoD} (h : Al D) (hb : D.bi ≤ D.told) (hh : D.told ≤ D.bi + D.log.length) : Al (leadD D) := by
  rw [(h.lead hb hh).1]; exact h.led.of rfl rfl rfl
theorem Al.offA {D : CoD} (h : Al D) (kind : Int) (s : ByteArray) (hk : kind ≠ 2) (hb : D.bi ≤ D.told) (hh : D.told ≤ D.bi + D.log.length) : Al (offD D kind s) := by
  rw [(h.off kind s hk hb hh).1]; exact (h.put kind s hk).of rfl rfl rfl
theorem spread_one (b wb : Nat) (lv ms ns : Value) (D : CoD) (W : WdD) (w : World) (h : Co w 0 b lv D) (k : Wd w wb ms ns W) (hA : Al D) (hi : CoI D) :
    Calls Try.prog 69 #[.pointer (some ⟨b, 0, none⟩), .pointer (some ⟨wb, 0, none⟩)] w fun e w' => e = .returned (.tuple #[]) ∧ CStep w b wb lv ms ns w' D W :=
  (spread_alone b lv _ D w h hi hA.size hA.oRow).mono fun e w' ⟨he, hb⟩ => ⟨he, CStep.of_below h k hb⟩
theorem elect_alone (b : Nat) (lv : Value) (D : CoD) (w : World) (h : Co w 0 b lv D) (hA : Al D) (hi : CoI D) (hr : D.role = 0 ∨ D.role = 1) (hc0 : 0 ≤ D.clock) (hc : 10 + 3 * D.self ≤ D.clock + 1) (hc1 : D.clock ≤ 1000000) (hl : D.log.length ≤ 4095) (hb : D.bi ≤ D.told) (hh : D.told ≤ D.bi + D.log.length) (ht0 : 0 ≤ D.term) (ht1 : D.term < 1099511627776) :
    Calls Try.prog 30 #[.pointer (some ⟨b, 0, none⟩)] w fun e w' => ∃ v, e = .returned v ∧ CRet w b lv v w' (leadD (standD { D with clock := D.clock + 1 })) (leadW (standD { D with clock := D.clock + 1 }) ⟨true, [], []⟩) := by
  have hA1 : Al { D with clock := D.clock + 1 } := hA.of rfl rfl rfl
  have hA2 : Al (standD { D with clock := D.clock + 1 }) := hA.of rfl rfl rfl
  have hi1 : CoI { D with clock := D.clock + 1 } := ⟨hi.lo, hi.hi, hi.len⟩
  have hi2 : CoI (standD { D with clock := D.clock + 1 }) := ⟨hi.lo, hi.hi, hi.len⟩
  refine tick_stand b lv D _ _ (D.told - D.bi).toNat w h hi hr hA.lo hA.hi hc0 hc hc1 (by omega) (by omega) (hA.names _) ht1 fun w1 wb h1 k1 => ?_
  refine stand_alone b wb lv _ _ { D with clock := D.clock + 1 } _ ⟨false, [], []⟩ _ w1 h1 k1 hi1 hA1.size hA1.oRow hA.lo hA.hi ht0 (by show D.term ≤ _; omega) fun w2 h2 k2 => ?_
  refine win_yes b wb lv _ _ (standD { D with clock := D.clock + 1 }) _ ⟨true, [], []⟩ _ w2 h2 k2 hi2 hA2.size ?_ fun w3 h3 k3 => ?_
  · unfold winB
    rw [hA2.maj _ (by show upd (fun _ => false) D.self.toNat true D.self.toNat = true; simp [upd]), decide_eq_false (by show ¬ (4096 : Int) ≤ D.log.length; omega)]
    rfl
  · refine lead_any b wb lv _ _ (standD { D with clock := D.clock + 1 }) ⟨true, [], []⟩ _ w3 h3 k3 hi2 hb hh hl hA2.led.size hA.lo (by have := hA.hi; show D.self ≤ 255; omega) (by simp) fun w4 lv4 ms4 ns4 h4 k4 => ?_
    refine spread_one b wb lv4 ms4 ns4 _ _ w4 h4 k4 (hA2.leadA hb hh) ?_
    rw [(hA2.lead hb hh).1]
    obtain ⟨e1, e2, e3, e4, e5, e6, e7⟩ := ledD_log (standD { D with clock := D.clock + 1 })
    refine ⟨?_, ?_, ?_⟩
    · show 0 ≤ (ledD (standD { D with clock := D.clock + 1 })).bi; rw [e2]; exact hi.lo
    · show (ledD (standD { D with clock := D.clock + 1 })).bi ≤ _; rw [e2]; exact hi.hi
    · show (ledD (standD { D with clock := D.clock + 1 })).log.length ≤ _; rw [e1]; show (D.log ++ [_]).length ≤ _; simp; omega
theorem offer_one (b : Nat) (lv : Value) (D : CoD) (kind : Int) (s : ByteArray) (w : World) (h : Co w 0 b lv D) (hA : Al D) (hi : ComI D) (hr : D.role = 2) (hl : D.log.length ≤ 4095) (hk : kind ≠ 2) (he : entB kind s = true) :
    Calls Try.prog 27 #[.pointer (some ⟨b, 0, none⟩), .int .i64 kind, .string s] w fun e w' => ∃ v, e = .returned (.tuple #[v, .int .i64 0]) ∧ CRet w b lv v w' (tlD (putD D kind s) (D.bi + D.log.length + 1 - D.told).toNat) (tlW (putD D kind s) ⟨true, [], []⟩ (D.bi + D.log.length + 1 - D.told).toNat) := by
  have hP := hA.put kind s hk
  have hO := hA.offA kind s hk hi.lo hi.hi
  have := offer_alone b lv D kind s w h hi hl hA.lo (by have := hA.hi; omega) hP.size hA.size hP.oRow hO.oRow hO.size (by
    rw [(hA.off kind s hk hi.lo hi.hi).1]
    refine ⟨hi.i.lo, hi.i.hi, ?_⟩
    show (D.log ++ [_]).length ≤ _
    simp; omega) (fun Y hY => mayOffer_plain b lv D kind s Y hY hr he hk hl)
  rw [(hA.off kind s hk hi.lo hi.hi).1, (hA.off kind s hk hi.lo hi.hi).2] at this
  exact this
/-- The one that is alone, behind its election. -/
def oneD (s c : Int) : CoD := { newD s [s] with clock := c }
def wonD (s c : Int) : CoD := leadD (standD (oneD s c))
theorem one_al {s : Int} (c : Int) (h0 : 0 ≤ s) (h1 : s < 7) : Al (oneD s c) := (Al.newD h0 h1).of rfl rfl rfl
theorem won_eq {s : Int} (c : Int) (h0 : 0 ≤ s) (h1 : s < 7) : wonD s c = tlD (ledD (standD (oneD s c))) 1 := by
  have hA : Al (standD (oneD s c)) := (one_al c h0 h1).of rfl rfl rfl
  have := (hA.lead (Int.le_refl (0 : Int)) (by show (0 : Int) ≤ 0 + ((0 : Nat) : Int); decide)).1
  exact this
theorem won_facts {s : Int} (c : Int) (h0 : 0 ≤ s) (h1 : s < 7) : (wonD s c).log = [⟨1, 0, ⟨#[]⟩⟩] ∧ (wonD s c).bi = 0 ∧ (wonD s c).told = 1 ∧ (wonD s c).self = s ∧ (wonD s c).term = 1 ∧ (wonD s c).role = 2 ∧ ComI (wonD s c) ∧ Al (wonD s c) := by
  have hA : Al (standD (oneD s c)) := (one_al c h0 h1).of rfl rfl rfl
  have hL : Al (wonD s c) := hA.leadA (Int.le_refl (0 : Int)) (by show (0 : Int) ≤ 0 + ((0 : Nat) : Int); decide)
  rw [won_eq c h0 h1] at hL ⊢
  obtain ⟨e1, e2, e3, e4, e5, e6, e7⟩ := ledD_log (standD (oneD s c))
  have a1 : (tlD (ledD (standD (oneD s c))) 1).log = [⟨1, 0, ⟨#[]⟩⟩] := e1
  have a2 : (tlD (ledD (standD (oneD s c))) 1).bi = 0 := e2
  have a3 : (tlD (ledD (standD (oneD s c))) 1).told = 1 := by show (ledD (standD (oneD s c))).told + 1 = 1; rw [e3]; rfl
  refine ⟨a1, a2, a3, e4, e5, e7, ⟨⟨by rw [a2]; decide, by rw [a2]; decide, by rw [a1]; decide⟩, by rw [a2, a3]; decide, by rw [a1, a2, a3]; decide, fun n hn => ?_⟩, hL⟩
  rw [a1, a2]
  show (ledD (standD (oneD s c))).mt n ≤ _
  unfold ledD
  rw [meetN_mt _ _ _ hn]; decide
theorem won_news {s : Int} (c : Int) (h0 : 0 ≤ s) (h1 : s < 7) : leadW (standD (oneD s c)) ⟨true, [], []⟩ = ⟨true, [], [⟨1, ⟨1, 0, ⟨#[]⟩⟩, false⟩]⟩ := by
  have hA : Al (standD (oneD s c)) := (one_al c h0 h1).of rfl rfl rfl
  have e := (hA.lead (Int.le_refl (0 : Int)) (by show (0 : Int) ≤ 0 + ((0 : Nat) : Int); decide)).2 ⟨true, [], []⟩
  rw [e]
  obtain ⟨e1, e2, e3, e4, e5, e6, e7⟩ := ledD_log (standD (oneD s c))
  show tlW (ledD (standD (oneD s c))) ⟨true, [], []⟩ 1 = _
  unfold tlW newsN
  rw [e1, e2, e3]
  rfl
end Go.Proofs.Ytjimneaimnjanaa
