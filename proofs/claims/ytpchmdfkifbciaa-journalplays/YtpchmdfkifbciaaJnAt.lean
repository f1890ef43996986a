/- A journal and its device above a bound, and what was below it as it was: each call of a journal, said so. Conditions: the records' frames have at most a thousand million bytes; what is laid lies below the bound, or is new. -/
import Derived.Test.YtpchmdfkifbciaaJnOpen
import Derived.Test.YtpchmdfkifbciaaJnFacts
namespace Go.Proofs.Ytpchmdfkifbciaa
open Go.RowKit

/-- Since w0 only what lies from B on has turned; there lie the journal and its device. -/
def JAt (B : Nat) (w0 w : World) (jb db : Nat) (S : DS) (J : JS) : Prop := ∃ R, Jd w jb db R S J ∧ (∀ k, R k → B ≤ k) ∧ Below B w0 w
theorem JStep.at {B : Nat} {w0 w w' : World} {jb db : Nat} {R : Nat → Prop} {S' : DS} {J' : JS} (h : JStep w jb db R w' S' J') (hB : Below B w0 w) (hBs : B ≤ w0.heap.size) (hr : ∀ k, R k → B ≤ k) : JAt B w0 w' jb db S' J' := by
  obtain ⟨R', d, t, r⟩ := h
  have hs := hB.size
  refine ⟨R', d, fun k hk => ?_, hB.trans (t.below (by omega) hr)⟩
  rcases r k hk with h | h
  · exact hr k h
  · omega
theorem JAt.do {B : Nat} {w0 w : World} {jb db : Nat} {S S' : DS} {J J' : JS} {f : FuncId} {args : Array Value} {v : Value} (h : JAt B w0 w jb db S J) (hB : B ≤ w0.heap.size) (hc : ∀ R, (∀ k, R k → B ≤ k) → Jd w jb db R S J → Calls Try.prog f args w fun e w' => e = .returned v ∧ JStep w jb db R w' S' J') :
    Calls Try.prog f args w fun e w' => e = .returned v ∧ JAt B w0 w' jb db S' J' := by
  obtain ⟨R, d, r, hb⟩ := h
  exact (hc R r d).mono fun e w' h => ⟨h.1, h.2.at hb hB r⟩
theorem JAt.later {B : Nat} {w0 w w' : World} {jb db : Nat} {S : DS} {J : JS} (h : JAt B w0 w jb db S J) (hB : B ≤ w0.heap.size) (hb : Below w.heap.size w w') : JAt B w0 w' jb db S J := by
  obtain ⟨R, d, r, h0⟩ := h
  exact ⟨R, d.below hb, r, h0.trans (hb.mono (Nat.le_trans hB h0.size))⟩
theorem JAt.below {B : Nat} {w0 w : World} {jb db : Nat} {S : DS} {J : JS} (h : JAt B w0 w jb db S J) : Below B w0 w := by obtain ⟨_, _, _, h⟩ := h; exact h
theorem JAt.jn {B : Nat} {w0 w : World} {jb db : Nat} {S : DS} {J : JS} (h : JAt B w0 w jb db S J) : ∃ R, Jn w jb db R J := by obtain ⟨_, ⟨RJ, RD, h, _⟩, _, _⟩ := h; exact ⟨RJ, h.j⟩
theorem JAt.at {B : Nat} {w0 w : World} {jb db : Nat} {S : DS} {J : JS} (h : JAt B w0 w jb db S J) : At B w0 w db S := by
  obtain ⟨R, ⟨RJ, RD, h, e⟩, r, hb⟩ := h
  exact ⟨RD, h.d, fun k hk => r k ((e k).2 (.inr hk)), hb⟩
theorem JAt.ok {B : Nat} {w0 w : World} {jb db : Nat} {S : DS} {J : JS} (h : JAt B w0 w jb db S J) : Ok S := by obtain ⟨_, h, _⟩ := h; exact h.ok
/-- A row of bytes stays where what it lies in stays. -/
theorem stay {R : Nat → Prop} {w : World} {v : Value} {r : List UInt8} (hv : Bts w v r) (ho : r ≠ [] → Out R v) : ∀ w', But R w w' → Bts w' v r := by
  intro w' t
  by_cases h : r = []
  · subst h; exact hv.nil_any
  · exact hv.but t (ho h)
/-- What was there ahead of all. -/
def Old (B : Nat) (v : Value) (r : List UInt8) : Prop := r ≠ [] → ∀ k, v.ownBlock = some k → k < B
theorem old_of {w : World} {v : Value} {r : List UInt8} (hv : Bts w v r) : Old w.heap.size v r := fun h k hk => hv.lt h k hk
theorem JAt.add {B : Nat} {w0 w : World} {jb db : Nat} {S : DS} {J : JS} (h : JAt B w0 w jb db S J) (hB : B ≤ w0.heap.size) (v : Value) (r : List UInt8) (hv : Bts w v r) (hold : Old B v r) (hsz : sizeJ J ≤ 1000000000) :
    Calls Try.prog 13 #[.pointer (some ⟨jb, 0, none⟩), v] w fun e w' => e = .returned (.int .i64 (addE S J r)) ∧ JAt B w0 w' jb db (addS S J r) (addJ S J r) :=
  h.do hB fun R hR d => add_any jb db R S J v r w d hv (stay hv fun hr k hk h => by have := hold hr k hk; have := hR k h; omega) hsz
theorem JAt.add_new {B : Nat} {w0 w w1 : World} {jb db : Nat} {S : DS} {J : JS} (h : JAt B w0 w jb db S J) (hB : B ≤ w0.heap.size) (hb : Below w.heap.size w w1) (v : Value) (r : List UInt8) (hv : Bts w1 v r) (hnew : ∀ k, v.ownBlock = some k → w.heap.size ≤ k) (hsz : sizeJ J ≤ 1000000000) :
    Calls Try.prog 13 #[.pointer (some ⟨jb, 0, none⟩), v] w1 fun e w' => e = .returned (.int .i64 (addE S J r)) ∧ JAt B w0 w' jb db (addS S J r) (addJ S J r) := by
  obtain ⟨R, d, hR, h0⟩ := h
  have hs := h0.size
  exact (add_any jb db R S J v r w1 (d.below hb) hv (stay hv fun _ k hk h => by have := hnew k hk; have := d.rlt k h; omega) hsz).mono fun e w' hx => ⟨hx.1, hx.2.at (h0.trans (hb.mono (by omega))) hB hR⟩
theorem JAt.save {B : Nat} {w0 w : World} {jb db : Nat} {S : DS} {J : JS} (h : JAt B w0 w jb db S J) (hB : B ≤ w0.heap.size) (v : Value) (r : List UInt8) (hv : Bts w v r) (hold : Old B v r) :
    Calls Try.prog 18 #[.pointer (some ⟨jb, 0, none⟩), v] w fun e w' => e = .returned (.int .i64 (saveR S J r).1) ∧ JAt B w0 w' jb db (saveR S J r).2.1 (saveR S J r).2.2 :=
  h.do hB fun R hR d => save_any jb db R S J v r w d hv (stay hv fun hr k hk h => by have := hold hr k hk; have := hR k h; omega)
theorem JAt.sync {B : Nat} {w0 w : World} {jb db : Nat} {S : DS} {J : JS} (h : JAt B w0 w jb db S J) (hB : B ≤ w0.heap.size) :
    Calls Try.prog 16 #[.pointer (some ⟨jb, 0, none⟩)] w fun e w' => e = .returned (.int .i64 (syncE S J)) ∧ JAt B w0 w' jb db (syncD S J) (syncJ S J) :=
  h.do hB fun R _ d => jsync_any jb db R S J w d
theorem JAt.crash {B : Nat} {w0 w : World} {jb db : Nat} {S : DS} {J : JS} (h : JAt B w0 w jb db S J) (hB : B ≤ w0.heap.size) (n : Int) :
    Calls Try.prog 21 #[.pointer (some ⟨db, 0, none⟩), .int .i64 n] w fun e w' => e = .returned (.tuple #[]) ∧ JAt B w0 w' jb db (crashS S n) J :=
  h.do hB fun _ _ d => d.disk fun RD d => crash_any db RD S n w d
theorem JAt.stop {B : Nat} {w0 w : World} {jb db : Nat} {S : DS} {J : JS} (h : JAt B w0 w jb db S J) (hB : B ≤ w0.heap.size) (n : Int) (hn : n ≤ 9223372036854775807) :
    Calls Try.prog 19 #[.pointer (some ⟨db, 0, none⟩), .int .i64 n] w fun e w' => e = .returned (.tuple #[]) ∧ JAt B w0 w' jb db (stopS S n) J :=
  h.do hB fun _ _ d => d.disk fun RD d => stop_any db RD S n w d hn
theorem At.format {B : Nat} {w0 w : World} {db : Nat} {S : DS} (h : At B w0 w db S) (hB : B ≤ w0.heap.size) (v : Value) (m : List UInt8) (hv : Bts w v m) (hold : Old B v m) (h0 : (saveR S J0 m).1 = 0) :
    Calls Try.prog 10 #[.pointer (some ⟨db, 0, none⟩), v] w fun e w' => ∃ jb, e = .returned (.tuple #[.pointer (some ⟨jb, 0, none⟩), .int .i64 0]) ∧ JAt B w0 w' jb db (saveR S J0 m).2.1 (saveR S J0 m).2.2 := by
  obtain ⟨R, d, hR, hb⟩ := h
  refine (format_ok db R S v m w d hv (fun hm k hk h => by have := hold hm k hk; have := hR k h; omega) h0).mono ?_
  rintro e w' ⟨jb, R', rfl, d', t', r'⟩
  exact ⟨jb, rfl, JStep.at (R := R) ⟨R', d', t', r'⟩ hb hB hR⟩
theorem At.format_new {B : Nat} {w0 w w1 : World} {db : Nat} {S : DS} (h : At B w0 w db S) (hB : B ≤ w0.heap.size) (hb : Below w.heap.size w w1) (v : Value) (m : List UInt8) (hv : Bts w1 v m) (hnew : ∀ k, v.ownBlock = some k → w.heap.size ≤ k) (h0 : (saveR S J0 m).1 = 0) :
    Calls Try.prog 10 #[.pointer (some ⟨db, 0, none⟩), v] w1 fun e w' => ∃ jb, e = .returned (.tuple #[.pointer (some ⟨jb, 0, none⟩), .int .i64 0]) ∧ JAt B w0 w' jb db (saveR S J0 m).2.1 (saveR S J0 m).2.2 := by
  obtain ⟨R, d, hR, hb0⟩ := h
  have hs := hb0.size
  refine (format_ok db R S v m w1 (d.below hb) hv (fun _ k hk h => by have := hnew k hk; have := d.rlt k h; omega) h0).mono ?_
  rintro e w' ⟨jb, R', rfl, d', t', r'⟩
  exact ⟨jb, rfl, JStep.at (R := R) ⟨R', d', t', r'⟩ (hb0.trans (hb.mono (by omega))) hB hR⟩
/-- Open, where the log has whole frames and a beginning of one more, or nothing, behind them. -/
theorem At.open_ok {B : Nat} {w0 w : World} {db : Nat} {S : DS} (h : At B w0 w db S) (hB : B ≤ w0.heap.size) (hon : S.off = false) (hleft : S.left = -1) (hi : imgOk S.image) (ls : List (List UInt8)) (t : List UInt8) (hl : S.log = framesB ls ++ t) (hs : ∀ r ∈ ls, r.length ≤ 1048576) (ht : unfE t = 8 ∨ unfE t = 4) :
    Calls Try.prog 27 #[.pointer (some ⟨db, 0, none⟩)] w fun e w' => ∃ jb S', e = .returned (.tuple #[.pointer (some ⟨jb, 0, none⟩), .int .i64 0]) ∧ JAt B w0 w' jb db S' ⟨unfD S.image, ls, false⟩ ∧ S'.log = framesB ls ∧ S'.image = S.image ∧ S'.off = false ∧ S'.left = -1 ∧ S'.room = S.room ∧ S'.sure = min S.sure (framesB ls).length ∧ S'.stage = S.stage ∧ S'.staged = S.staged := by
  obtain ⟨R, d, hR, hb⟩ := h
  have hok := d.ok
  refine (open_any db R S w d hon hi).mono ?_
  rintro e w' ⟨rs, p, hfr, hne, h1, -⟩
  have htn : unfE t ≠ 0 := by rcases ht with h | h <;> rw [h] <;> decide
  obtain ⟨rfl, rfl, hdr⟩ := hfr.all ls t hl hs htn hne
  rw [hdr] at h1
  have hcut : ¬ (((framesB rs).length : Int) < 0 ∨ (S.log.length : Int) < ((framesB rs).length : Int)) := by rw [hl]; simp; omega
  have e1 : openE S (unfE t) (framesB rs).length = 0 := by
    unfold openE
    rcases ht with h | h
    · rw [if_pos h]
    · rw [if_neg (by rw [h]; decide), if_pos h]
      unfold writeE cutE
      rw [hon, if_neg hcut]; simp [hleft]
  have e2 : ∃ S', openS S (unfE t) (framesB rs).length = S' ∧ S'.log = framesB rs ∧ S'.image = S.image ∧ S'.off = false ∧ S'.left = -1 ∧ S'.room = S.room ∧ S'.sure = min S.sure (framesB rs).length ∧ S'.stage = S.stage ∧ S'.staged = S.staged := by
    unfold openS
    rcases ht with h | h
    · have ht0 : t = [] := by
        unfold unfE at h
        by_cases h0 : t = []
        · exact h0
        · exfalso
          rw [if_neg h0] at h
          split at h <;> try omega
          split at h <;> try omega
          split at h <;> try omega
          split at h <;> omega
      subst ht0
      rw [if_neg (by rw [h]; decide)]
      rw [List.append_nil] at hl
      refine ⟨S, rfl, hl, rfl, hon, hleft, rfl, ?_, rfl, rfl⟩
      have := hok.sure
      rw [hl] at this
      omega
    · rw [if_pos h]
      refine ⟨_, rfl, ?_⟩
      unfold writeS cutS
      rw [hon, if_neg hcut]
      simp only [Bool.false_eq_true, if_false, hleft]
      simp [hl]
      decide
  obtain ⟨S', e3, e4⟩ := e2
  obtain ⟨jb, R', rfl, d', t', r'⟩ := h1 e1
  rw [e3] at d'
  exact ⟨jb, S', rfl, JStep.at (R := R) ⟨R', d', t', r'⟩ hb hB hR, e4⟩
end Go.Proofs.Ytpchmdfkifbciaa
