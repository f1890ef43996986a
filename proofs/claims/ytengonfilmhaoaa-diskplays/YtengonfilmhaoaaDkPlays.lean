/- DiskPlays answers true for any Ops and any number; nothing that was there has turned. -/
import Derived.Test.YtengonfilmhaoaaDkTell
import Derived.Deep.DeepCutAuto
import Derived.Deep.RegionWith
namespace Go.Proofs.Ytengonfilmhaoaa
open Go.RowKit

set_option maxHeartbeats 400000 in
theorem roomP_any (n : Nat) (w : World) :
    Calls Try.prog 10 #[.int .u64 (n : Int)] w fun e w' => e = .returned (.int .i64 ((n % 40 + 1 : Nat) : Int)) ∧ w' = w := by
  go_enter Try.func10, Try.ntmps10
  go_wp2
  go_ret
  exact ⟨congrArg (fun x => Ending.returned (.int .i64 x)) (by omega), rfl⟩
/-- A device and the document's lie apart; both have S. -/
structure TwoI (w : World) (d x : Nat) (wr : World) (R X : Nat → Prop) (S T : DS) : Prop where
  dk : Dk wr d R S
  rk : Rk wr x X T
  dis : ∀ k, R k → ¬ X k
  ra : ∀ k, R k → w.heap.size ≤ k
  xa : ∀ k, X k → w.heap.size ≤ k
  be : Below w.heap.size w wr
theorem TwoI.below {w wr wr' : World} {d x : Nat} {R X : Nat → Prop} {S T : DS} (h : TwoI w d x wr R X S T) (hb : Below wr.heap.size wr wr') : TwoI w d x wr' R X S T :=
  ⟨h.dk.below hb, h.rk.below hb, h.dis, h.ra, h.xa, h.be.trans (hb.mono h.be.size)⟩
theorem TwoI.do {w wr w1 : World} {d x : Nat} {R X : Nat → Prop} {S S' T : DS} (h : TwoI w d x wr R X S T) (hs : Step wr d R w1 S') : ∃ R1, TwoI w d x w1 R1 X S' T := by
  obtain ⟨R1, d1, t1, r1⟩ := hs
  have hz := h.be.size
  refine ⟨R1, d1, h.rk.but t1 (fun k hk hr => h.dis k hr hk), ?_, ?_, h.xa, h.be.trans (t1.below hz h.ra)⟩
  · intro k hk hx
    rcases r1 k hk with h' | h'
    · exact h.dis k h' hx
    · have := h.rk.rlt k hx; omega
  · intro k hk
    rcases r1 k hk with h' | h'
    · exact h.ra k h'
    · omega
theorem TwoI.tell {w wr w1 : World} {d x : Nat} {R X : Nat → Prop} {S T T' : DS} (h : TwoI w d x wr R X S T) (hs : RStep wr x X w1 T') : ∃ X1, TwoI w d x w1 R X1 S T' := by
  obtain ⟨X1, d1, t1, r1⟩ := hs
  have hz := h.be.size
  refine ⟨X1, h.dk.but t1 (fun k hk hr => h.dis k hk hr), d1, ?_, h.ra, ?_, h.be.trans (t1.below hz h.xa)⟩
  · intro k hk hx
    rcases r1 k hx with h' | h'
    · exact h.dis k hk h'
    · have := h.dk.rlt k hk; omega
  · intro k hk
    rcases r1 k hk with h' | h'
    · exact h.xa k h'
    · omega
set_option maxRecDepth 100000 in
set_option maxHeartbeats 3200000 in
theorem plays_any (v : Value) (os : List OpD) (n : Nat) (w : World) (hv : Ops w v os) :
    Calls Try.prog 3 #[.int .u64 (n : Int), v] w fun e w' => e = .returned (.bool true) ∧ Below w.heap.size w w' := by
  have HV := hid hv
  obtain ⟨ao, len, cap, rfl, rfl, hc, hcap, hnone, hcell⟩ := hv
  clear hcell
  have Z := Nat.le_refl w.heap.size
  obtain ⟨M, hM⟩ : ∃ M : Nat, M = n % 40 + 1 := ⟨_, rfl⟩
  have hM1 : 1 ≤ M := by omega
  have hM2 : M ≤ 40 := by omega
  have HR := hid (show ∀ w, Calls Try.prog 10 #[.int .u64 (n : Int)] w fun e w' => e = .returned (.int .i64 (M : Int)) ∧ w' = w from fun w => by rw [hM]; exact roomP_any n w)
  clear hM
  go_enter Try.func3, Try.ntmps3
  go_wp2_with fail
  refine (HR.out _).mono ?_
  rintro e w0 ⟨rfl, hw0⟩
  rw [hw0]
  clear hw0
  go_wp2_with fail
  refine (new_ok M _ hM1 (by omega)).mono ?_
  rintro e w1 ⟨d, R1, rfl, hd1, hr1, hb1⟩
  have D1 := hid hd1
  have Q1 := hid hr1
  have B1 := hid hb1
  clear hd1 hr1 hb1
  go_wp2_with fail
  refine (HR.out _).mono ?_
  rintro e w2 ⟨rfl, hw2⟩
  rw [hw2]
  clear hw2
  go_wp2_with fail
  refine (rnew_any M _ (by omega)).mono ?_
  rintro e w3 ⟨x, X1, rfl, hx3, hr3, hb3⟩
  have I3 : Hid (TwoI w d x w3 R1 X1 (newS M) (newS M)) := hid ⟨D1.out.below hb3, hx3, fun k hk hx => by have := hr3 k hx; have := D1.out.rlt k hk; omega, Q1.out, fun k hk => Nat.le_trans B1.out.size (hr3 k hk), B1.out.trans (hb3.mono B1.out.size)⟩
  clear hx3 hr3 hb3 D1 Q1 B1
  go_wp2_with fail
  go_loopw [23] (fun iv wr => ∃ (i : Nat) (R X : Nat → Prop) (S : DS), iv = .int .i64 i ∧ i ≤ os.length ∧ TwoI w d x wr R X S S) (fun iv _ => os.length - (intOf iv).toNat)
  case atStart => exact ⟨0, _, _, _, rfl, Nat.zero_le _, I3.out⟩
  case round =>
    obtain ⟨i, R, X, S, rfl, hi, hp⟩ := hrel
    clear I3
    have P0 := hid hp
    clear hp
    by_cases hlt : (i : Int) < (os.length : Int)
    · have hi' : i < os.length := by omega
      have hao : ∃ ad, ao = some ad := by cases ao with | none => exact absurd (hnone rfl) (by omega) | some ad => exact ⟨ad, rfl⟩
      obtain ⟨ad, rfl⟩ := hao
      obtain ⟨ua, uc, g0, g1, g2, g3, g4⟩ := HV.out.get i hi'
      have HO := hid g4
      obtain ⟨o, ho⟩ : ∃ o, o = os[i] := ⟨_, rfl⟩
      rw [← ho] at g0 g1 g2 g3 HO
      replace g0 := cell_later P0.out.be g0
      replace g1 := cell_later P0.out.be g1
      replace g2 := cell_later P0.out.be g2
      replace g3 := cell_later P0.out.be g3
      clear ho g4
      have hbx : Below wr.heap.size wr (wr.alloc (.cells #[.int .i64 o.kind, .int .i64 o.n, .slice ua o.m.length uc, .int .u64 (o.t : Int)] 33)).drew := ((Below.refl _ _).alloc (Nat.le_refl _) _).drew
      have P1 := hid (P0.out.below hbx)
      have X1 : Hid ((wr.alloc (.cells #[.int .i64 o.kind, .int .i64 o.n, .slice ua o.m.length uc, .int .u64 (o.t : Int)] 33)).drew.heap[wr.heap.size]? = some (.cells #[.int .i64 o.kind, .int .i64 o.n, .slice ua o.m.length uc, .int .u64 (o.t : Int)] 33 (0, 0))) := hid (heap_alloc_new _ _)
      have RB : Hid (¬ R wr.heap.size) := hid fun h => by have := P0.out.dk.rlt _ h; omega
      have XB : Hid (¬ X wr.heap.size) := hid fun h => by have := P0.out.rk.rlt _ h; omega
      have hEE : (doE S o != doE S o) = false := by simp
      clear hbx
      by_cases h100 : 100 ≤ (i : Int)
      · go_wp2_with (go_at_call 15; refine (lives_any _).mono ?_; rintro e w8 ⟨rfl, hb8⟩; have HB := hid hb8; clear hb8)
        go_ret
        have hb := P0.out.be.alloc P0.out.be.size (.cells #[.int .i64 o.kind, .int .i64 o.n, .slice ua o.m.length uc, .int .u64 (o.t : Int)] 33)
        exact ⟨rfl, hb.trans (HB.out.mono hb.size)⟩
      · go_wp2_with fail
        go_region_with (first
          | (go_at_call 12; refine (do_any d R S o _ _ ?_ ?_).mono ?_; exact P1.out.dk; exact HO.out.below P1.out.be; rintro e w5 ⟨rfl, hs5⟩; obtain ⟨R5, d5, t5, r5⟩ := hs5; have hx5 := (t5.block _ (lt_of_block' X1.out) RB.out).trans X1.out; obtain ⟨y0, y1, y2, y3⟩ := cell_four hx5; obtain ⟨R6, hI6⟩ := P1.out.do ⟨R5, d5, t5, r5⟩; have I6 := hid hI6; clear hI6 d5 t5 r5 hx5)
          | (go_at_call 13; refine (tell_any x X S o _ _ ?_ ?_).mono ?_; exact I6.out.rk; exact HO.out.below I6.out.be; rintro e w7 ⟨rfl, hs7⟩; obtain ⟨X7, hI7⟩ := I6.out.tell hs7; have I7 := hid hI7; clear hI7 hs7)
          | (go_at_call 14; refine (same_any d x R6 X7 (doS S o) _ ?_ ?_).mono ?_; exact I7.out.dk; exact I7.out.rk; rintro e w9 ⟨rfl, hb9⟩; have I9 := hid (I7.out.below hb9); clear hb9))
        all_goals
          go_wp2_with fail
          go_roundw
          case rel => exact ⟨i + 1, R6, X7, doS S o, by go_num, by omega, I9.out⟩
          case measure => simp [intOf]; omega
    · go_wp2_with (go_at_call 15; refine (lives_any _).mono ?_; rintro e w8 ⟨rfl, hb8⟩; have HB := hid hb8; clear hb8)
      go_ret
      exact ⟨rfl, P0.out.be.trans (HB.out.mono P0.out.be.size)⟩
end Go.Proofs.Ytengonfilmhaoaa
