/- A voter alone that leads: what its offers and Compacts leave. -/
import Derived.Test.YthlmmkifcehplaaCoApart
namespace Go.Proofs.Ythlmmkifcehplaa
open Go.RowKit
set_option linter.unusedVariables false
set_option linter.unusedSimpArgs false

/-- Alone, leading, all up to k is told. -/
structure Led (D : CoD) (k : Int) : Prop where
  al : Al D
  role : D.role = 2
  com : ComI D
  told : D.told = k
  last : D.bi + D.log.length = k
  lo : 0 < D.log.length
  tt : tUp D D.log.length = D.term
theorem won_led {s : Int} (c : Int) (h0 : 0 ≤ s) (h1 : s < 7) : Led (wonD s c) 1 := by
  obtain ⟨e1, e2, e3, e4, e5, e6, hci, hal⟩ := won_facts c h0 h1
  refine ⟨hal, e6, hci, e3, by rw [e1, e2]; rfl, by rw [e1]; decide, ?_⟩
  rw [e1, e5]
  show ((wonD s c).log.getD 0 _).term = 1
  rw [e1]; rfl
theorem Led.off {D : CoD} {k : Int} (h : Led D k) (hk : k ≤ 100000) (s : ByteArray) : Led (tlD (putD D 1 s) 1) (k + 1) := by
  have hl : (putD D 1 s).log.length = D.log.length + 1 := by simp [putD]
  have hlen : D.log.length ≤ 100000 := by have := h.last; have := h.com.i.lo; omega
  have hP := h.com.put (by omega) 1 s
  refine ⟨(h.al.put 1 s (by decide)).of rfl rfl rfl, h.role, ⟨⟨hP.i.lo, hP.i.hi, hP.i.len⟩, ?_, ?_, hP.mt⟩, ?_, ?_, ?_, ?_⟩
  · show D.bi ≤ D.told + 1; have := h.com.lo; omega
  · show D.told + 1 ≤ D.bi + (putD D 1 s).log.length; rw [hl, h.told]; have := h.last; omega
  · show D.told + 1 = k + 1; rw [h.told]
  · show D.bi + (putD D 1 s).log.length = k + 1; rw [hl]; have := h.last; omega
  · show 0 < (putD D 1 s).log.length; omega
  · exact tUp_put D 1 s
theorem Led.news {D : CoD} {k : Int} (h : Led D k) (s : ByteArray) : tlW (putD D 1 s) ⟨true, [], []⟩ 1 = ⟨true, [], [⟨k + 1, ⟨D.term, 1, s⟩, false⟩]⟩ := by
  have e : (putD D 1 s).log.getD ((D.told - D.bi).toNat + 0) ⟨0, 0, ⟨#[]⟩⟩ = ⟨D.term, 1, s⟩ := by
    rw [show (D.told - D.bi).toNat + 0 = D.log.length by have := h.told; have := h.last; omega]
    show (D.log ++ [_]).getD D.log.length _ = _
    simp [List.getD]
  show (⟨true, [], [] ++ [⟨D.told + ((0 : Nat) : Int) + 1, (putD D 1 s).log.getD ((D.told - D.bi).toNat + 0) ⟨0, 0, ⟨#[]⟩⟩, false⟩]⟩ : WdD) = _
  rw [e, h.told]
  simp
theorem vUp_drop (D : CoD) (n : Nat) (vt tx : ByteArray) (X : ByteArray) (hv : vt = X) (h : ∀ k, vUp D k = X) (j : Nat) : vUp (rebD D n vt tx) j = X := by
  induction j with
  | zero => exact hv
  | succ j ih =>
    have hs := h (n + j + 1)
    simp only [vUp] at hs ⊢
    have e : (rebD D n vt tx).log.getD j ⟨0, 0, ⟨#[]⟩⟩ = D.log.getD (n + j) ⟨0, 0, ⟨#[]⟩⟩ := by
      show (D.log.drop n).getD j _ = _
      simp [List.getD]
    rw [e]
    split
    · rename_i h2; rw [if_pos h2] at hs; exact hs
    · exact ih
theorem Led.reb {D : CoD} {k : Int} (h : Led D k) (n : Nat) (hn : n < D.log.length) (hk : k ≤ 100000) (tx : ByteArray) : Led (rebD D n (vUp D n) tx) k := by
  have hl : (rebD D n (vUp D n) tx).log.length = D.log.length - n := by simp [rebD]
  have hb := h.com.i.lo
  have hla := h.last
  refine ⟨⟨h.al.lo, h.al.hi, fun j => vUp_drop D n _ tx (byT [D.self]) (h.al.v n) h.al.v j⟩, h.role, ⟨⟨?_, ?_, ?_⟩, ?_, ?_, fun m hm => ?_⟩, h.told, ?_, by omega, ?_⟩
  · show 0 ≤ D.bi + n; omega
  · show D.bi + n ≤ _; omega
  · rw [hl]; omega
  · show D.bi + n ≤ D.told; rw [h.told]; omega
  · rw [hl]; show D.told ≤ D.bi + n + _; rw [h.told]; omega
  · rw [hl]; have := h.com.mt m hm; show D.mt m ≤ D.bi + n + _; omega
  · rw [hl]; show D.bi + n + _ = k; omega
  · rw [hl]
    have ht := h.tt
    obtain ⟨q, hq⟩ : ∃ q, D.log.length = q + 1 := ⟨D.log.length - 1, by omega⟩
    rw [hq] at ht ⊢
    rw [show q + 1 - n = (q - n) + 1 by omega]
    show ((D.log.drop n).getD (q - n) _).term = D.term
    rw [← ht]
    show _ = (D.log.getD q _).term
    simp only [List.getD, List.getElem?_drop]
    rw [show n + (q - n) = q by omega]
/-- What a call leaves that is refused, or that sends nothing. -/
def Quiet (w0 : World) (b : Nat) (D : CoD) (kp : Bool) (er : Int) (e : Ending) (w' : World) : Prop :=
  ∃ lv' ma mc na nc, e = .returned (.tuple #[.agg #[.bool kp, .slice ma 0 mc, .slice na 0 nc], .int .i64 er]) ∧ Co w' 0 b lv' D ∧ Below w0.heap.size w0 w' ∧ (∀ q, lv'.ownBlock = some q → w0.heap.size ≤ q)
theorem quiet_of_ret {w0 w w' : World} {b : Nat} {lv v : Value} {D' : CoD} {kp : Bool} {er : Int} {e : Ending} (he : e = .returned (.tuple #[v, .int .i64 er])) (h : CRet w b lv v w' D' ⟨kp, [], []⟩) (hb : Below w0.heap.size w0 w) (hbb : w0.heap.size ≤ b) (hl : ∀ q, lv.ownBlock = some q → w0.heap.size ≤ q) : Quiet w0 b D' kp er e w' := by
  obtain ⟨lv', ma, mc, na, nc, rfl, h1, -, -, h4, h5⟩ := h.below hb hbb hl
  exact ⟨lv', ma, mc, na, nc, he, h1, h4, h5⟩
/-- The council is there, in memory of our own. -/
structure Here (w0 w : World) (b : Nat) (lv : Value) (D : CoD) : Prop where
  co : Co w 0 b lv D
  bel : Below w0.heap.size w0 w
  hb : w0.heap.size ≤ b
  own : ∀ q, lv.ownBlock = some q → w0.heap.size ≤ q
theorem Here.below {w0 w w1 : World} {b : Nat} {lv : Value} {D : CoD} (h : Here w0 w b lv D) (hb : Below w.heap.size w w1) : Here w0 w1 b lv D := ⟨h.co.below hb, h.bel.trans (hb.mono h.bel.size), h.hb, h.own⟩
theorem Here.alloc {w0 w : World} {b : Nat} {lv : Value} {D : CoD} (h : Here w0 w b lv D) (o : Obj) : Here w0 (w.alloc o) b lv D := h.below ((Below.refl _ _).alloc (Nat.le_refl _) _)
theorem Quiet.here {w0 w w' : World} {b : Nat} {lv : Value} {D D' : CoD} {kp : Bool} {er : Int} {e : Ending} (h : Here w0 w b lv D) (q : Quiet w0 b D' kp er e w') : ∃ lv' ma mc na nc, e = .returned (.tuple #[.agg #[.bool kp, .slice ma 0 mc, .slice na 0 nc], .int .i64 er]) ∧ Here w0 w' b lv' D' := by
  obtain ⟨lv', ma, mc, na, nc, he, h1, h2, h3⟩ := q
  exact ⟨lv', ma, mc, na, nc, he, h1, h2, h.hb, h3⟩
theorem offer_no {w0 w : World} {b : Nat} {lv : Value} {D : CoD} (h : Here w0 w b lv D) (kind er : Int) (s : ByteArray) (her : er ≠ 0)
    (hm : ∀ Y, Co Y 0 b lv D → Calls Try.prog 35 #[.pointer (some ⟨b, 0, none⟩), .int .i64 kind, .string s] Y fun e w' => e = .returned (.int .i64 er) ∧ Below Y.heap.size Y w') :
    Calls Try.prog 13 #[.pointer (some ⟨b, 0, none⟩), .int .i64 kind, .string s] w fun e w' => ∃ lv' ma mc na nc, e = .returned (.tuple #[.agg #[.bool false, .slice ma 0 mc, .slice na 0 nc], .int .i64 er]) ∧ Here w0 w' b lv' D :=
  (offer_err b lv D kind er s w h.co her hm).mono fun e w' ⟨v, he, hr⟩ => (quiet_of_ret he hr h.bel h.hb h.own).here h
theorem compact_no {w0 w : World} {b : Nat} {lv : Value} {D : CoD} (h : Here w0 w b lv D) (i : Int) (tx : ByteArray) (hb : i ≤ D.bi ∨ D.told < i) :
    Calls Try.prog 14 #[.pointer (some ⟨b, 0, none⟩), .int .i64 i, .string tx] w fun e w' => ∃ lv' ma mc na nc, e = .returned (.tuple #[.agg #[.bool false, .slice ma 0 mc, .slice na 0 nc], .int .i64 1]) ∧ Here w0 w' b lv' D :=
  (compact_arg b lv D i tx w h.co hb).mono fun e w' ⟨v, he, hr⟩ => (quiet_of_ret he hr h.bel h.hb h.own).here h
theorem compact_led {w0 w : World} {b : Nat} {lv : Value} {D : CoD} {k : Int} (h : Here w0 w b lv D) (hL : Led D k) (hk : k ≤ 100000) (n : Nat) (tx : ByteArray) (hn : n < D.log.length) (hn0 : 0 < n) (hx : (tx.size : Int) ≤ 1048576) :
    Calls Try.prog 14 #[.pointer (some ⟨b, 0, none⟩), .int .i64 (D.bi + (n : Int)), .string tx] w fun e w' => ∃ lv' ma mc na nc, e = .returned (.tuple #[.agg #[.bool true, .slice ma 0 mc, .slice na 0 nc], .int .i64 0]) ∧ Here w0 w' b lv' (rebD D n (vUp D n) tx) := by
  have h1 := hL.last
  have h2 := hL.told
  have h3 := hL.com.i.lo
  exact (compact_ok b lv D n tx w h.co hL.com.i hL.lo (by omega) (by omega) hn0 (by omega) (by omega) hx).mono fun e w' ⟨v, he, hr⟩ => (quiet_of_ret he hr h.bel h.hb h.own).here h
theorem offer_led {w0 w : World} {b : Nat} {lv : Value} {D : CoD} {k : Int} (h : Here w0 w b lv D) (hL : Led D k) (hk : k ≤ 4000) (s : ByteArray) (he : entB 1 s = true) :
    Calls Try.prog 13 #[.pointer (some ⟨b, 0, none⟩), .int .i64 1, .string s] w fun e w' => ∃ lv' ma mc g nc, e = .returned (.tuple #[.agg #[.bool true, .slice ma 0 mc, .slice (some ⟨g, 0, none⟩) 1 nc], .int .i64 0]) ∧ Here w0 w' b lv' (tlD (putD D 1 s) 1) ∧ w'.cell? ⟨g, 0, none⟩ = some (.int .i64 (k + 1)) ∧ w'.cell? ⟨g, 3, none⟩ = some (.string s) ∧ w'.cell? ⟨g, 4, none⟩ = some (.bool false) := by
  have h1 := hL.last
  have h2 := hL.told
  have h3 := hL.com.i.lo
  have := offer_one b lv D 1 s w h.co hL.al hL.com hL.role (by omega) (by decide) he
  rw [show (D.bi + D.log.length + 1 - D.told).toNat = 1 by omega, hL.news s] at this
  refine this.mono ?_
  rintro e w' ⟨v, rfl, hr⟩
  obtain ⟨lv', ma, mc, na, nc, rfl, hc, -, hn, hb, ho⟩ := hr.below h.bel h.hb h.own
  obtain ⟨g, hg⟩ : ∃ g, na = some ⟨g, 0, none⟩ := by
    obtain ⟨_, h2⟩ := hn
    rcases h2 with ⟨h, h0⟩ | ⟨g, cap, cur, h, -⟩
    · cases h
    · cases h; exact ⟨g, rfl⟩
  subst hg
  exact ⟨lv', ma, mc, g, nc, rfl, ⟨hc, hb, h.hb, ho⟩, hn.cells (g := g) rfl 0 _ rfl, hn.cells (g := g) rfl 3 _ rfl, hn.cells (g := g) rfl 4 _ rfl⟩
theorem tick_here {w0 w : World} {b : Nat} {lv : Value} (s : Int) (n i : Nat) (h0 : 0 ≤ s) (h1 : s < 7) (hn : (n : Int) = 10 + 3 * s) (hi : i < n) (h : Here w0 w b lv (tkD s n i)) :
    Calls Try.prog 22 #[.pointer (some ⟨b, 0, none⟩)] w fun e w' => ∃ lv' v, e = .returned v ∧ Here w0 w' b lv' (tkD s n (i + 1)) :=
  (tick_oneB s n i b lv w0 w h0 h1 hn hi h.co h.bel h.hb h.own _ rfl).mono fun e w' ⟨lv', ma, mc, na, nc, he, h2, h3, h4⟩ => ⟨lv', _, he, h2, h3, h.hb, h4⟩
end Go.Proofs.Ythlmmkifcehplaa
