/- What Add and Sync of a journal answer and leave. Conditions: the journal and its device lie in memory; its records' frames are not longer than the log; the record lies elsewhere. -/
import Derived.Test.YtpchmdfkifbciaaJnAdd
namespace Go.Proofs.Ytpchmdfkifbciaa
open Go.RowKit

def addE (S : DS) (J : JS) (r : List UInt8) : Int := if J.down then 7 else if 1048576 < r.length then 2 else writeE S (layE S (frameB r))
def addS (S : DS) (J : JS) (r : List UInt8) : DS := if J.down then S else if 1048576 < r.length then S else writeS S (layS S (frameB r)) (layS S (frameB r))
def addJ (S : DS) (J : JS) (r : List UInt8) : JS := if J.down then J else if 1048576 < r.length then J else if writeE S (layE S (frameB r)) = 0 then { J with recs := J.recs ++ [r] } else dn J (writeE S (layE S (frameB r)))
theorem ent_append : Ent 33 := fun args w => by simp [go_sem]
theorem ent_sync : Ent 34 := fun args w => by simp [go_sem]
theorem recs_le (ls : List (List UInt8)) : ls.length ≤ (framesB ls).length := by
  induction ls with
  | nil => simp
  | cons x ls ih => rw [framesB_cons, List.length_append, frameB_len, List.length_cons]; omega
set_option maxHeartbeats 1600000 in
theorem add_any (jb db : Nat) (R : Nat → Prop) (S : DS) (J : JS) (v : Value) (r : List UInt8) (w : World) (hd : Jd w jb db R S J) (hv : Bts w v r) (ho : ∀ w', But R w w' → Bts w' v r) (hsz : sizeJ J ≤ 1000000000) :
    Calls Try.prog 13 #[.pointer (some ⟨jb, 0, none⟩), v] w fun e w' => e = .returned (.int .i64 (addE S J r)) ∧ JStep w jb db R w' (addS S J r) (addJ S J r) := by
  have HV := hid hv
  obtain ⟨ua, uc, rfl⟩ := hv.shape
  have HD := hid hd
  have HO := hid ho
  obtain ⟨iv, rv, vs, c0, c1, c2, c3, c4, cf, -, -⟩ := hd.cells
  clear hd hv ho
  have hmf : ∀ (fn : Fn) (first cap : Array Value) (w : World), (Instr.makeFunc fn first cap).run Try.prog w = .ok (.func fn first cap) w := fun _ _ _ _ => rfl
  unfold addE addS addJ
  cases hu : J.down with
  | true =>
    simp only [if_true]
    have HU := hid hu
    clear hu
    go_enter Try.func13, Try.ntmps13
    go_wp2_with (go_at_call 43; refine (ready_down _ _ _ _ _ _ HD.out HU.out).mono ?_; rintro e w1 ⟨rfl, rfl⟩)
    go_ret
    exact ⟨rfl, JStep.refl HD.out⟩
  | false =>
    have HU := hid hu
    clear hu
    by_cases hl : 1048576 < r.length
    · simp only [Bool.false_eq_true, if_false, if_pos hl]
      have HL := hid hl
      clear hl
      go_enter Try.func13, Try.ntmps13
      go_wp2_with (first | (go_at_call 43; refine (ready_up _ _ _ _ _ _ HD.out HU.out).mono ?_; rintro e w1 ⟨rfl, rfl⟩) | (go_at_call 44; refine (jlay_big jb db _ _ r _ HV.out HL.out).mono ?_; rintro e w1 ⟨rfl, hb1⟩; have HB := hid hb1; clear hb1))
      go_ret
      exact ⟨rfl, JStep.of_below HD.out HB.out⟩
    · simp only [Bool.false_eq_true, if_false, if_neg hl]
      have HL := hid (show r.length ≤ 1048576 by omega)
      have hfl : (frameB r).length ≤ 100000000000 := by rw [frameB_len]; omega
      clear hl
      obtain ⟨er, her⟩ : ∃ er, er = writeE S (layE S (frameB r)) := ⟨_, rfl⟩
      have HG : Hid (∀ w1 va vc, Below w.heap.size w w1 → Bts w1 (.slice va (r.length + 8) vc) (frameB r) → Calls Try.prog 33 #[.pointer (some ⟨db, 0, none⟩), .slice va (r.length + 8) vc] w1 fun e w' => e = .returned (.int .i64 er) ∧ JStep w1 jb db R w' (writeS S (layS S (frameB r)) (layS S (frameB r))) J) :=
        hid fun w1 va vc hb hbt => (HD.out.below hb).disk fun RD d => by rw [her]; exact append_any db RD S _ (frameB r) w1 d hbt hfl
      rw [← her]
      clear her hfl
      obtain ⟨S1, hS1⟩ : ∃ S1, S1 = writeS S (layS S (frameB r)) (layS S (frameB r)) := ⟨_, rfl⟩
      rw [← hS1] at HG ⊢
      clear hS1
      go_enter Try.func13, Try.ntmps13
      go_wp2_with (first | (go_at_call 43; refine (ready_up _ _ _ _ _ _ HD.out HU.out).mono ?_; rintro e w1 ⟨rfl, rfl⟩) | fail)
      refine (jlay_any jb db R S S1 J er _ _ r _ HD.out ent_append HV.out HL.out HG.out).mono ?_
      rintro e w2 ⟨rfl, hs2⟩
      have HS := hid hs2
      clear hs2 HG
      by_cases h0 : er = 0
      · subst h0
        have hs2 := HS.out
        rw [show dn J 0 = J from rfl] at hs2
        obtain ⟨R2, ⟨RJ, RD, d2, e2⟩, t2, r2⟩ := hs2
        obtain ⟨iv2, rv2, vs2, hj, k0, k1, k2, k3, k4, kf⟩ := d2.j.cells
        have HV2 := hid (HO.out w2 t2)
        have D2 := hid d2
        have E2 := hid e2
        have T2 := hid t2
        have RR2 := hid r2
        have HJ := hid hj
        have hjlt := hj.lt
        obtain ⟨ra, rc, rfl⟩ := ownsRow_shape hj.rr.own
        have hjb : ∀ k, (Value.slice ra J.recs.length rc).ownBlock = some k → k ≠ jb := ownsRow_ne hj.rr.own hj.head typeJ.2
        have HJB := hid hjb
        have hrl := recs_le J.recs
        have HRL := hid (show J.recs.length ≤ 1000000000 by unfold sizeJ at hsz; omega)
        have HRB := hid (show r.length ≤ 100000000000 from by have := HL.out; omega)
        clear d2 e2 t2 r2 hj HS c0 c1 c2 c3 c4 cf hjb hrl
        have ez : IntKind.i64.wrap ((sizeJ J : Int) + ((r.length : Int) + 8)) = (sizeJ J : Int) + ((r.length : Int) + 8) := IntWalk.i64_in _ ⟨by omega, by have := HL.out; omega⟩
        go_wp2_with fail
        go_region_law (first
          | (refine step_append_row rfl (.tmp 31) (.tmp 34) rfl (.slice ra J.recs.length rc) J.recs.length vs2 rfl HO4.out w3.heap.size 1 (.slice va3 r.length vc3) rfl HC4.out (slice_one _ _ _) HRL.out ?_; intro va5 vc5 w5 ho5 hg5 hat5; have HO5 := hid ho5; have HG5 := hid hg5; have HA5 := hid hat5; have hb5 : w5.heap[jb]? = w3.heap[jb]? := (hg5.block jb (by have h2 : w2.heap.size ≤ w3.heap.size := HB3.out.size; simp; omega) (fun e => HJB.out jb e.symm rfl)).trans (Below.heap_alloc _ _ _ (by have h2 : w2.heap.size ≤ w3.heap.size := HB3.out.size; omega)); have q2 : w5.cell? ⟨jb, 2, none⟩ = some (.slice ra J.recs.length rc) := (World.cell?_of_block hb5).trans m2; have q3 : w5.cell? ⟨jb, 3, none⟩ = some (.int .i64 (sizeJ J : Nat)) := (World.cell?_of_block hb5).trans m3; have qf : ∀ i, w5.frozen? ⟨jb, i, none⟩ = false := (fun i => (World.frozen?_of_block hb5).trans (mf i)); clear ho5 hg5 hat5 hb5)
          | (go_simp; go_wp2_with (go_at_call 45; refine (clone_any _ r _ (show Bts w2.drew _ r from HV2.out) HRB.out).mono ?_; rintro e w3 ⟨va3, vc3, rfl, ho3, hb3⟩; have HB3 := hid hb3; have HO3 := hid ho3; have hjlt3 : jb < w3.heap.size := Nat.lt_of_lt_of_le hjlt (show w2.heap.size ≤ w3.heap.size from hb3.size); have hb3' : w3.heap[jb]? = w2.heap[jb]? := hb3.block jb hjlt; have m2 : w3.cell? ⟨jb, 2, none⟩ = some (.slice ra J.recs.length rc) := (World.cell?_of_block hb3').trans k2; have m3 : w3.cell? ⟨jb, 3, none⟩ = some (.int .i64 (sizeJ J : Nat)) := (World.cell?_of_block hb3').trans k3; have mf : ∀ i, w3.frozen? ⟨jb, i, none⟩ = false := (fun i => (World.frozen?_of_block hb3').trans (kf i)); have HO4 : Hid ((w3.alloc (.cells #[.slice va3 r.length vc3] 34)).ownsRow 0 34 1 (.slice ra J.recs.length rc) J.recs.length vs2) := hid (ownsRow_blk HJ.out.rr.own fun k hk => (Below.heap_alloc _ _ _ (by have h1 := HJ.out.rlt k (HJ.out.rr.at' k hk); have h2 : w2.heap.size ≤ w3.heap.size := hb3.size; omega)).trans (hb3.block k (HJ.out.rlt k (HJ.out.rr.at' k hk)))); have HC4 : Hid ((w3.alloc (.cells #[.slice va3 r.length vc3] 34)).cell? ⟨w3.heap.size, 0, none⟩ = some (.slice va3 r.length vc3)) := hid (by rw [cell_of_row _ _ _ _ _ _ (heap_alloc_new _ _)]; rfl); clear ho3 hb3 hb3')))
        all_goals
          go_wp2
          go_ret
          have hB3 : Below w2.heap.size w2 w3 := ⟨HB3.out.os, HB3.out.tape, HB3.out.output, HB3.out.size, HB3.out.block⟩
          have hO3 : Own w3 w2.heap.size (.slice va3 r.length vc3) r := HO3.out
          have hx := jstep_trans T2.out RR2.out (D2.out.added E2.out HJ.out (hB3.alloc hB3.size _) (hO3.below ((Below.refl _ _).alloc (Nat.le_refl _) _)) HG5.out HO5.out HA5.out ((sizeJ J : Int) + ((r.length : Int) + 8)) (by omega))
          rw [HU.out] at hx
          exact ⟨rfl, hx⟩
      · have h0' : (er == 0) = false := by simpa using h0
        go_wp2
        go_ret
        exact ⟨rfl, HS.out⟩
def syncE (S : DS) (J : JS) : Int := if J.down then 7 else writeE S 0
def syncD (S : DS) (J : JS) : DS := if J.down then S else writeS S (syncS S) S
def syncJ (S : DS) (J : JS) : JS := if J.down then J else dn J (writeE S 0)
set_option maxHeartbeats 800000 in
theorem jsync_any (jb db : Nat) (R : Nat → Prop) (S : DS) (J : JS) (w : World) (hd : Jd w jb db R S J) :
    Calls Try.prog 16 #[.pointer (some ⟨jb, 0, none⟩)] w fun e w' => e = .returned (.int .i64 (syncE S J)) ∧ JStep w jb db R w' (syncD S J) (syncJ S J) := by
  have HD := hid hd
  obtain ⟨iv, rv, vs, c0, c1, c2, c3, c4, cf, -, -⟩ := hd.cells
  clear hd
  have hmf : ∀ (fn : Fn) (first cap : Array Value) (w : World), (Instr.makeFunc fn first cap).run Try.prog w = .ok (.func fn first cap) w := fun _ _ _ _ => rfl
  unfold syncE syncD syncJ
  cases hu : J.down with
  | true =>
    simp only [if_true]
    have HU := hid hu
    clear hu
    go_enter Try.func16, Try.ntmps16
    go_wp2_with (go_at_call 43; refine (ready_down _ _ _ _ _ _ HD.out HU.out).mono ?_; rintro e w1 ⟨rfl, rfl⟩)
    go_ret
    exact ⟨rfl, JStep.refl HD.out⟩
  | false =>
    have HU := hid hu
    clear hu
    simp only [Bool.false_eq_true, if_false]
    have HG := hid (HD.out.disk fun RD d => sync_any db RD S w d)
    go_enter Try.func16, Try.ntmps16
    go_wp2_with (first | (go_at_call 43; refine (ready_up _ _ _ _ _ _ HD.out HU.out).mono ?_; rintro e w1 ⟨rfl, rfl⟩) | (go_at_call 47; refine (call_met jb db R _ J _ _ _ _ ent_sync HG.out).mono ?_; rintro e w1 ⟨rfl, hs1⟩; have HS := hid hs1; clear hs1))
    go_ret
    exact ⟨rfl, HS.out⟩
end Go.Proofs.Ytpchmdfkifbciaa
