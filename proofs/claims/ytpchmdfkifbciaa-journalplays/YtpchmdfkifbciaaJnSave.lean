/- What Save and Format of a journal answer and leave. Conditions: the journal and its device lie in memory; the image lies elsewhere. -/
import Derived.Test.YtpchmdfkifbciaaJnWrite
namespace Go.Proofs.Ytpchmdfkifbciaa
open Go.RowKit

/-- What Save answers, and what the device and the journal are behind it. -/
def saveR (S : DS) (J : JS) (m : List UInt8) : Int × DS × JS :=
  if J.down then (7, S, J) else if 1048576 < m.length then (2, S, J) else
  if writeE S (stageE S (frameB m)) ≠ 0 then (writeE S (stageE S (frameB m)), writeS S (stageS S (frameB m)) S, dn J (writeE S (stageE S (frameB m)))) else
  let S1 := writeS S (stageS S (frameB m)) S
  if writeE S1 (commitE S1) ≠ 0 then (writeE S1 (commitE S1), writeS S1 (commitS S1) S1, dn J (writeE S1 (commitE S1))) else
  (0, writeS S1 (commitS S1) S1, { image := m, recs := [], down := J.down })
theorem ent_stage : Ent 31 := fun args w => by simp [go_sem]
theorem ent_commit : Ent 32 := fun args w => by simp [go_sem]
theorem JDV.saved {w w1 : World} {jb db : Nat} {R RJ RD : Nat → Prop} {S : DS} {J : JS} {iv rv u : Value} {vs : List Value} {m : List UInt8} (h : JDV w jb db RJ RD S J) (e : ∀ k, R k ↔ RJ k ∨ RD k) (hj : JnV w jb db RJ J iv rv vs)
    (hb : Below w.heap.size w w1) (hu : Own w1 w.heap.size u m) :
    JStep w jb db R (((w1.setCell ⟨jb, 1, none⟩ u).setCell ⟨jb, 2, none⟩ (.slice none 0 0)).setCell ⟨jb, 3, none⟩ (.int .i64 0)) S { image := m, recs := [], down := J.down } := by
  have hjlt := hj.lt
  have hs1 := hb.size
  have h1 : w1.heap[jb]? = some (.cells #[.pointer (some ⟨db, 0, none⟩), iv, rv, .int .i64 (sizeJ J : Nat), .bool J.down] 69 (0, 0)) := (hb.block jb hjlt).trans hj.head
  have hw3 : ∀ k, k ≠ jb → (((w1.setCell ⟨jb, 1, none⟩ u).setCell ⟨jb, 2, none⟩ (.slice none 0 0)).setCell ⟨jb, 3, none⟩ (.int .i64 0)).heap[k]? = w1.heap[k]? := fun k hk => by
    rw [Below.heap_setCell _ _ _ _ (by simpa using hk), Below.heap_setCell _ _ _ _ (by simpa using hk), Below.heap_setCell _ _ _ _ (by simpa using hk)]
  have hs3 : (((w1.setCell ⟨jb, 1, none⟩ u).setCell ⟨jb, 2, none⟩ (.slice none 0 0)).setCell ⟨jb, 3, none⟩ (.int .i64 0)).heap.size = w1.heap.size := by simp [World.setCell]
  refine h.turn (RJ' := fun k => RJ k ∨ u.ownBlock = some k) e ?_ (JnV.jn (iv := u) (rv := .slice none 0 0) (vs := []) ⟨.inl hj.rb, ?_, ?_, ?_, fun k hk => .inr hk, Rws.nil _ _⟩) ?_
  · exact (((But.of_below hb).set (.inl hj.rb)).set (.inl hj.rb)).set (.inl hj.rb)
  · intro k hk
    rw [hs3]
    rcases hk with hk | hk
    · have := hj.rlt k hk; omega
    · exact (hu.lt k hk).2
  · exact heap_setCell_same _ jb 3 _ _ _ (heap_setCell_same _ jb 2 _ _ _ (heap_setCell_same w1 jb 1 _ _ _ h1))
  · exact (hu.lower (Nat.zero_le _)).blk fun k hk => hw3 k (fun e => by have := (hu.lt k hk).1; omega)
  · intro k hk
    rcases hk with hk | hk
    · exact .inl hk
    · exact .inr (hu.lt k hk).1
set_option maxHeartbeats 1600000 in
theorem save_any (jb db : Nat) (R : Nat → Prop) (S : DS) (J : JS) (v : Value) (m : List UInt8) (w : World) (hd : Jd w jb db R S J) (hv : Bts w v m) (hst : ∀ w', But R w w' → Bts w' v m) :
    Calls Try.prog 18 #[.pointer (some ⟨jb, 0, none⟩), v] w fun e w' => e = .returned (.int .i64 (saveR S J m).1) ∧ JStep w jb db R w' (saveR S J m).2.1 (saveR S J m).2.2 := by
  have HV := hid hv
  obtain ⟨ua, uc, rfl⟩ := hv.shape
  have HD := hid hd
  have HST := hid hst
  obtain ⟨iv, rv, vs, c0, c1, c2, c3, c4, cf, -, -⟩ := hd.cells
  clear hd hv hst
  have hmf : ∀ (fn : Fn) (first cap : Array Value) (w : World), (Instr.makeFunc fn first cap).run Try.prog w = .ok (.func fn first cap) w := fun _ _ _ _ => rfl
  unfold saveR
  cases hu : J.down with
  | true =>
    simp only [if_true]
    have HU := hid hu
    clear hu
    go_enter Try.func18, Try.ntmps18
    go_wp2_with (go_at_call 43; refine (ready_down _ _ _ _ _ _ HD.out HU.out).mono ?_; rintro e w1 ⟨rfl, rfl⟩)
    go_ret
    exact ⟨rfl, JStep.refl HD.out⟩
  | false =>
    have HU := hid hu
    clear hu
    by_cases hl : 1048576 < m.length
    · simp only [Bool.false_eq_true, if_false, if_pos hl]
      have HL := hid hl
      clear hl
      go_enter Try.func18, Try.ntmps18
      go_wp2_with (first | (go_at_call 43; refine (ready_up _ _ _ _ _ _ HD.out HU.out).mono ?_; rintro e w1 ⟨rfl, rfl⟩) | (go_at_call 44; refine (jlay_big jb db _ _ m _ HV.out HL.out).mono ?_; rintro e w1 ⟨rfl, hb1⟩; have HB := hid hb1; clear hb1))
      go_ret
      exact ⟨rfl, JStep.of_below HD.out HB.out⟩
    · simp only [Bool.false_eq_true, if_false, if_neg hl]
      have HL := hid (show m.length ≤ 1048576 by omega)
      have hfl : (frameB m).length ≤ 100000000000 := by rw [frameB_len]; omega
      clear hl
      have HG := hid fun (w1 : World) (va : Option Addr) (vc : Nat) (hb : Below w.heap.size w w1) (hbt : Bts w1 (.slice va (m.length + 8) vc) (frameB m)) => (HD.out.below hb).disk fun RD d => stage_any db RD S _ (frameB m) w1 d hbt hfl
      obtain ⟨er, her⟩ : ∃ er, er = writeE S (stageE S (frameB m)) := ⟨_, rfl⟩
      obtain ⟨S1, hS1⟩ : ∃ S1, S1 = writeS S (stageS S (frameB m)) S := ⟨_, rfl⟩
      rw [← her, ← hS1] at HG ⊢
      clear her hS1 hfl
      have HC : Hid (∀ (w : World) RD, Dk w db RD S1 → Calls Try.prog 32 #[.pointer (some ⟨db, 0, none⟩)] w fun e w' => e = .returned (.int .i64 (writeE S1 (commitE S1))) ∧ Step w db RD w' (writeS S1 (commitS S1) S1)) := hid fun w RD d => commit_any db RD S1 w d
      obtain ⟨er2, her2⟩ : ∃ er2, er2 = writeE S1 (commitE S1) := ⟨_, rfl⟩
      obtain ⟨S2, hS2⟩ : ∃ S2, S2 = writeS S1 (commitS S1) S1 := ⟨_, rfl⟩
      simp only [← her2, ← hS2] at HC ⊢
      clear her2 hS2
      go_enter Try.func18, Try.ntmps18
      go_wp2_with (first | (go_at_call 43; refine (ready_up _ _ _ _ _ _ HD.out HU.out).mono ?_; rintro e w1 ⟨rfl, rfl⟩) | fail)
      refine (jlay_any jb db R S S1 J er _ _ m _ HD.out ent_stage HV.out HL.out HG.out).mono ?_
      rintro e w2 ⟨rfl, hs2⟩
      have HS := hid hs2
      clear hs2 HG
      by_cases h0 : er = 0
      · subst h0
        have hs2 := HS.out
        rw [show dn J 0 = J from rfl] at hs2
        obtain ⟨R2, d2, t2, r2⟩ := hs2
        obtain ⟨iv2, rv2, vs2, k0, k1, k2, k3, k4, kf, -, -⟩ := d2.cells
        have HG2 := hid (d2.disk (HC.out w2))
        have T2 := hid t2
        have RR2 := hid r2
        clear d2 t2 r2 HS c0 c1 c2 c3 c4 cf
        go_wp2_with fail
        refine (call_met jb db R2 _ J _ _ _ _ ent_commit HG2.out).mono ?_
        rintro e w3 ⟨rfl, hs3⟩
        have HS3 := hid hs3
        clear hs3 HG2
        by_cases h0 : er2 = 0
        · subst h0
          have hs3 := HS3.out
          rw [show dn J 0 = J from rfl] at hs3
          obtain ⟨R3, ⟨RJ, RD, d3, e3⟩, t3, r3⟩ := hs3
          obtain ⟨iv3, rv3, vs3, hj, m0, m1, m2, m3, m4, mf⟩ := d3.j.cells
          have T3 := hid (T2.out.trans t3 RR2.out)
          have RR3 := hid (show ∀ k, R3 k → R k ∨ w1.heap.size ≤ k from fun k hk => by rcases r3 k hk with h | h <;> first | exact RR2.out k h | exact .inr (Nat.le_trans T2.out.size h))
          have HV3 := hid (HST.out w3 T3.out)
          have HJ := hid hj
          have D3 := hid d3
          have E3 := hid e3
          have hjlt := hj.lt
          clear hj d3 e3 t3 r3 HS3 T2 RR2
          have HRB := hid (show m.length ≤ 100000000000 from by have := HL.out; omega)
          go_wp2_with fail
          refine (clone_any _ m _ HV3.out HRB.out).mono ?_
          rintro e w4 ⟨va4, vc4, rfl, ho4, hb4⟩
          have HO4 := hid ho4
          have HB4 := hid hb4
          have hb4' : w4.heap[jb]? = w3.heap[jb]? := hb4.block jb hjlt
          have q1 : w4.cell? ⟨jb, 1, none⟩ = some iv3 := (World.cell?_of_block hb4').trans m1
          have q2 : w4.cell? ⟨jb, 2, none⟩ = some rv3 := (World.cell?_of_block hb4').trans m2
          have q3 : w4.cell? ⟨jb, 3, none⟩ = some (.int .i64 (sizeJ J : Nat)) := (World.cell?_of_block hb4').trans m3
          have qf : ∀ i, w4.frozen? ⟨jb, i, none⟩ = false := fun i => (World.frozen?_of_block hb4').trans (mf i)
          clear ho4 hb4 hb4' m0 m1 m2 m3 m4 mf k0 k1 k2 k3 k4 kf
          go_wp2
          go_ret
          have hx := jstep_trans T3.out RR3.out (D3.out.saved E3.out HJ.out HB4.out HO4.out)
          rw [HU.out] at hx
          exact ⟨rfl, hx⟩
        · have h0' : (er2 == 0) = false := by simpa using h0
          go_wp2
          go_ret
          exact ⟨rfl, jstep_trans T2.out RR2.out HS3.out⟩
      · have h0' : (er == 0) = false := by simpa using h0
        go_wp2
        go_ret
        exact ⟨rfl, HS.out⟩
end Go.Proofs.Ytpchmdfkifbciaa
