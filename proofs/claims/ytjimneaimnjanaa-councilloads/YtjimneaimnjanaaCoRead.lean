/- What a council's calls that only read tell of it: the term at an index, its voters, the others. -/
import Derived.Test.YtjimneaimnjanaaCoNames
namespace Go.Proofs.Ytjimneaimnjanaa
open Go.RowKit
set_option linter.unusedVariables false
set_option linter.unusedSimpArgs false

/-- The term of the entry n behind the base, or the base's. -/
def tUp (D : CoD) : Nat → Int
  | 0 => D.bt
  | n + 1 => (D.log.getD n ⟨0, 0, ⟨#[]⟩⟩).term
theorem place_at (base b : Nat) (lv : Value) (D : CoD) (n : Nat) (w : World) (h : Co w base b lv D) (hi : CoI D) (hn : n < D.log.length) :
    Calls Try.prog 87 #[.pointer (some ⟨b, 0, none⟩), .int .i64 (D.bi + ((n : Int) + 1))] w fun e w' => e = .returned (.int .i64 (n : Int)) ∧ w' = w := by
  have hlo := hi.lo
  have hhi := hi.hi
  have hll := hi.len
  refine (place_any base b lv D _ w h hi (by omega) (by omega)).mono ?_
  rintro e w2 ⟨rfl, rfl⟩
  exact ⟨by rw [show D.bi + ((n : Int) + 1) - D.bi - 1 = (n : Int) by omega], rfl⟩
set_option maxRecDepth 100000 in
set_option maxHeartbeats 1600000 in
theorem termAt_any (base b : Nat) (lv : Value) (D : CoD) (n : Nat) (w : World) (h : Co w base b lv D) (hi : CoI D) (hn : n ≤ D.log.length) :
    Calls Try.prog 71 #[.pointer (some ⟨b, 0, none⟩), .int .i64 (D.bi + n)] w fun e w' => e = .returned (.int .i64 (tUp D n)) ∧ ∃ m, w' = w.drewN m := by
  obtain ⟨va, vc, rfl⟩ := h.shape
  have H := hid h
  have hlo := hi.lo
  have hhi := hi.hi
  have hll := hi.len
  have HI := hid hi
  have c3 : w.cell? ⟨b, 3, none⟩ = some (.int .i64 D.bi) := h.cell 3
  have c4 : w.cell? ⟨b, 4, none⟩ = some (.int .i64 D.bt) := h.cell 4
  clear h hi
  cases n with
  | zero =>
    go_enter Try.func71, Try.ntmps71
    go_wp2_with fail
    go_ret
    exact ⟨rfl, 0, rfl⟩
  | succ n =>
    have hil : n < D.log.length := by omega
    have hne : ¬ D.bi + ((n + 1 : Nat) : Int) = D.bi := by omega
    obtain ⟨g, cap, he⟩ := H.out.addr (by omega)
    cases he
    obtain ⟨e0, e1, e2⟩ := H.out.ent n hil
    have c7 : w.cell? ⟨b, 7, none⟩ = some (.slice (some ⟨g, 0, none⟩) D.log.length vc) := H.out.cell 7
    have hg : D.log.getD n ⟨0, 0, ⟨#[]⟩⟩ = D.log[n] := by simp [List.getD, List.getElem?_eq_getElem hil]
    have HS : Hid (tUp D (n + 1) = D.log[n].term) := hid (by rw [tUp, hg])
    have hlt : (n : Int) < (D.log.length : Int) := by omega
    generalize D.log[n] = en at *
    go_enter Try.func71, Try.ntmps71
    go_wp2_with fail
    go_quiet (first | (go_at_call 87; first | exact Calls.quiet_of_same (place_at base b _ D n _ H.out HI.out hil) | exact Calls.quiet_of_same (place_at base b _ D n _ (H.out.below (belowN _ _)) HI.out hil) | (trace_state; fail)))
    go_wp2_with fail
    go_ret
    exact ⟨by rw [HS.out]; rfl, nq, rfl⟩
/-- The text of a council's voters. -/
def vNow (D : CoD) : ByteArray := vUp D D.log.length
/-- The voters that a text names (none, if it names no such). -/
def vRow (s : ByteArray) : List Int := if votB (vtx s) then vtx s else []
theorem vtx_len (s : ByteArray) : (vtx s).length = s.size := tbs_len s _
theorem vRow_len (s : ByteArray) : (vRow s).length = if votB (vtx s) then s.size else 0 := by unfold vRow; split <;> simp [vtx_len]
set_option maxRecDepth 100000 in
set_option maxHeartbeats 1600000 in
theorem cvoters_any (base b : Nat) (lv : Value) (D : CoD) (w : World) (h : Co w base b lv D) (hi : CoI D) (hs : (vNow D).size ≤ 999999) :
    Calls Try.prog 19 #[.pointer (some ⟨b, 0, none⟩)] w fun e w' => ∃ v, e = .returned v ∧ Below w.heap.size w w' ∧ w'.ownsRow w.heap.size 3 1 v (vRow (vNow D)).length (nvs (vRow (vNow D))) := by
  have H := hid h
  have HI := hid hi
  have HS := hid hs
  clear h hi hs
  go_enter Try.func19, Try.ntmps19
  go_wp2_with (first | (go_at_call 16; refine (last_any base b _ D _ H.out HI.out).mono ?_; rintro e w2 ⟨rfl, m2, rfl⟩) | (go_at_call 49; refine (votersAt_any base b _ D D.log.length _ (H.out.below (belowN _ _)) HI.out (Nat.le_refl _)).mono ?_; rintro e w3 ⟨rfl, rfl⟩) | (go_at_call 26; refine (voters_any _ _ HS.out).mono ?_; rintro e w4 ⟨v4, rfl, hb4, ho4⟩; have B4 := hid hb4; have O4 := hid ho4; clear hb4 ho4))
  go_ret
  exact ⟨_, rfl, (belowN _ _).trans B4.out, by rw [vRow_len]; exact O4.out⟩
/-- The others. -/
def oRow (D : CoD) : List Int := (vRow (vNow D)).filter (· != D.self)
end Go.Proofs.Ytjimneaimnjanaa
