/- A council in memory: what it has (CoD), its cells, and the small calls that only read it. -/
import Derived.Test.YtjimneaimnjanaaCoVot
namespace Go.Proofs.Ytjimneaimnjanaa
open Go.RowKit
set_option linter.unusedVariables false
set_option linter.unusedSimpArgs false

/-- An entry. -/
structure En where
  term : Int
  kind : Int
  text : ByteArray
/-- What a council has. -/
structure CoD where
  self : Int
  term : Int
  vote : Int
  bi : Int
  bt : Int
  bv : ByteArray
  bx : ByteArray
  log : List En
  role : Int
  leader : Int
  told : Int
  clock : Int
  votes : Nat → Bool
  beats : Int
  mt : Nat → Int
  nx : Nat → Int
def coC (D : CoD) (lv : Value) : Array Value :=
  #[.int .i64 D.self, .int .i64 D.term, .int .i64 D.vote, .int .i64 D.bi, .int .i64 D.bt, .string D.bv, .string D.bx, lv, .int .i64 D.role, .int .i64 D.leader, .int .i64 D.told, .int .i64 D.clock,
    .bool (D.votes 0), .bool (D.votes 1), .bool (D.votes 2), .bool (D.votes 3), .bool (D.votes 4), .bool (D.votes 5), .bool (D.votes 6), .int .i64 D.beats,
    .int .i64 (D.mt 0), .int .i64 (D.mt 1), .int .i64 (D.mt 2), .int .i64 (D.mt 3), .int .i64 (D.mt 4), .int .i64 (D.mt 5), .int .i64 (D.mt 6),
    .int .i64 (D.nx 0), .int .i64 (D.nx 1), .int .i64 (D.nx 2), .int .i64 (D.nx 3), .int .i64 (D.nx 4), .int .i64 (D.nx 5), .int .i64 (D.nx 6)]
def evs (l : List En) : List Value := l.flatMap fun e => [.int .i64 e.term, .int .i64 e.kind, .string e.text]
theorem evs_len (l : List En) : (evs l).length = l.length * 3 := by
  induction l with
  | nil => rfl
  | cons x l ih => simp [evs] at ih ⊢; omega
theorem evs_at (l : List En) (j : Nat) (h : j < l.length) : (evs l)[j * 3]? = some (.int .i64 l[j].term) ∧ (evs l)[j * 3 + 1]? = some (.int .i64 l[j].kind) ∧ (evs l)[j * 3 + 2]? = some (.string l[j].text) := by
  induction l generalizing j with
  | nil => cases h
  | cons x l ih =>
    cases j with
    | zero => exact ⟨rfl, rfl, rfl⟩
    | succ j =>
      have := ih j (by simpa using h)
      rw [show (j + 1) * 3 = j * 3 + 1 + 1 + 1 from by omega]
      have e : evs (x :: l) = .int .i64 x.term :: .int .i64 x.kind :: .string x.text :: evs l := by simp [evs]
      rw [e]
      exact ⟨by simpa using this.1, by simpa using this.2.1, by simpa using this.2.2⟩
/-- The council D lies at the block b, its log at lv, a row of its own from base on. -/
structure Co (w : World) (base b : Nat) (lv : Value) (D : CoD) : Prop where
  head : w.heap[b]? = some (.cells (coC D lv) 92 (0, 0))
  log : w.ownsRow base 73 3 lv D.log.length (evs D.log)
theorem Co.below {w w' : World} {base b : Nat} {lv : Value} {D : CoD} (h : Co w base b lv D) (hb : Below w.heap.size w w') : Co w' base b lv D :=
  ⟨(hb.block b (lt_of_block h.head)).trans h.head, own_below h.log hb⟩
theorem Co.cell {w : World} {base b : Nat} {lv : Value} {D : CoD} (h : Co w base b lv D) (i : Nat) : w.cell? ⟨b, i, none⟩ = (coC D lv)[i]? := by
  rw [cell_of_row _ _ _ _ _ _ h.head]
theorem Co.ent {w : World} {base b : Nat} {g n cap : Nat} {D : CoD} (h : Co w base b (.slice (some ⟨g, 0, none⟩) n cap) D) (j : Nat) (hj : j < D.log.length) :
    w.cell? ⟨g, j * 3, none⟩ = some (.int .i64 D.log[j].term) ∧ w.cell? ⟨g, j * 3 + 1, none⟩ = some (.int .i64 D.log[j].kind) ∧ w.cell? ⟨g, j * 3 + 2, none⟩ = some (.string D.log[j].text) := by
  obtain ⟨h1, h2, h3⟩ := evs_at D.log j hj
  have k1 := h.log.cells (g := g) rfl _ _ h1
  have k2 := h.log.cells (g := g) rfl _ _ h2
  have k3 := h.log.cells (g := g) rfl _ _ h3
  rw [Addr.add_lit, Nat.zero_add] at k1 k2 k3
  exact ⟨k1, k2, k3⟩
theorem Co.addr {w : World} {base b : Nat} {lv : Value} {D : CoD} (h : Co w base b lv D) (hl : 0 < D.log.length) : ∃ g cap, lv = .slice (some ⟨g, 0, none⟩) D.log.length cap := by
  obtain ⟨_, h2⟩ := h.log
  rcases h2 with ⟨rfl, h0⟩ | ⟨g, cap, cur, rfl, -⟩
  · omega
  · exact ⟨g, cap, rfl⟩
theorem Co.shape {w : World} {base b : Nat} {lv : Value} {D : CoD} (h : Co w base b lv D) : ∃ va vc, lv = .slice va D.log.length vc := own_shape h.log

def freshD (self : Int) : CoD := ⟨self, 0, -1, 0, 0, ⟨#[]⟩, ⟨#[]⟩, [], 0, -1, 0, 0, fun _ => false, 0, fun _ => 0, fun _ => 0⟩
set_option maxRecDepth 100000 in
set_option maxHeartbeats 1600000 in
theorem fresh_any (n : Int) (w : World) : Calls Try.prog 32 #[.int .i64 n] w fun e w' => e = .returned (.pointer (some ⟨w.heap.size, 0, none⟩)) ∧ w' = w.alloc (.cells (coC (freshD n) (.slice none 0 0)) 92) := by
  go_enter Try.func32, Try.ntmps32
  go_wp2_with fail
  go_ret
  exact ⟨rfl, rfl⟩
/-- Numbers that may be reckoned with. -/
structure CoI (D : CoD) : Prop where
  lo : 0 ≤ D.bi
  hi : D.bi ≤ 4611686018427387904
  len : D.log.length ≤ 1000000
set_option maxRecDepth 100000 in
set_option maxHeartbeats 1600000 in
theorem last_any (base b : Nat) (lv : Value) (D : CoD) (w : World) (h : Co w base b lv D) (hi : CoI D) :
    Calls Try.prog 16 #[.pointer (some ⟨b, 0, none⟩)] w fun e w' => e = .returned (.int .i64 (D.bi + D.log.length)) ∧ ∃ m, w' = w.drewN m := by
  obtain ⟨va, vc, rfl⟩ := h.shape
  have c3 : w.cell? ⟨b, 3, none⟩ = some (.int .i64 D.bi) := h.cell 3
  have c7 : w.cell? ⟨b, 7, none⟩ = some (.slice va D.log.length vc) := h.cell 7
  have hw : IntKind.i64.wrap (D.bi + D.log.length) = D.bi + D.log.length := IntWalk.i64_in _ ⟨by have := hi.lo; have := hi.hi; omega, by have := hi.hi; have := hi.len; omega⟩
  clear h hi
  go_enter Try.func16, Try.ntmps16
  go_wp2_with fail
  go_quiet (fail)
  go_wp2_with fail
  go_ret
  exact ⟨rfl, nq, rfl⟩
set_option maxRecDepth 100000 in
set_option maxHeartbeats 1600000 in
theorem place_any (base b : Nat) (lv : Value) (D : CoD) (i : Int) (w : World) (h : Co w base b lv D) (hi : CoI D) (hlo : D.bi ≤ i) (hhi : i ≤ 4611686018428387904) :
    Calls Try.prog 87 #[.pointer (some ⟨b, 0, none⟩), .int .i64 i] w fun e w' => e = .returned (.int .i64 (i - D.bi - 1)) ∧ w' = w := by
  have c3 : w.cell? ⟨b, 3, none⟩ = some (.int .i64 D.bi) := h.cell 3
  have h1 : IntKind.i64.wrap (i - D.bi) = i - D.bi := IntWalk.i64_in _ ⟨by have := hi.lo; omega, by have := hi.lo; omega⟩
  have h2 : IntKind.i64.wrap (i - D.bi - 1) = i - D.bi - 1 := IntWalk.i64_in _ ⟨by have := hi.lo; omega, by have := hi.lo; omega⟩
  clear h hi
  go_enter Try.func87, Try.ntmps87
  go_wp2_with fail
  go_ret
  exact ⟨rfl, rfl⟩
/-- The voters' text up to the first n entries. -/
def vUp (D : CoD) : Nat → ByteArray
  | 0 => D.bv
  | n + 1 => if (D.log.getD n ⟨0, 0, ⟨#[]⟩⟩).kind = 2 then (D.log.getD n ⟨0, 0, ⟨#[]⟩⟩).text else vUp D n
set_option maxRecDepth 100000 in
set_option maxHeartbeats 4000000 in
theorem votersAt_any (base b : Nat) (lv : Value) (D : CoD) (n : Nat) (w : World) (h : Co w base b lv D) (hi : CoI D) (hn : n ≤ D.log.length) :
    Calls Try.prog 49 #[.pointer (some ⟨b, 0, none⟩), .int .i64 (D.bi + n)] w fun e w' => e = .returned (.string (vUp D n)) ∧ w' = w := by
  obtain ⟨va, vc, rfl⟩ := h.shape
  have H := hid h
  have hlo := hi.lo
  have hhi := hi.hi
  have hll := hi.len
  have HI := hid hi
  clear h hi
  go_enter Try.func49, Try.ntmps49
  go_wp2_with (go_at_call 87; refine (place_any base b _ D _ _ H.out HI.out (by omega) (by omega)).mono ?_; rintro e w2 ⟨rfl, hw2⟩; replace hw2 := hw2.symm; subst hw2; rw [show D.bi + (n : Int) - D.bi - 1 = (n : Int) - 1 by omega])
  go_loopw [5] (fun iv wr => ∃ i : Nat, iv = .int .i64 ((i : Int) - 1) ∧ i ≤ n ∧ vUp D n = vUp D i ∧ wr = w) (fun iv _ => (intOf iv + 1).toNat)
  case atStart => exact ⟨n, rfl, Nat.le_refl _, rfl, rfl⟩
  case round =>
    obtain ⟨i, rfl, hin, hv, hwr⟩ := hrel
    replace hwr := hwr.symm
    subst hwr
    cases i with
    | zero =>
      have c5 : w.cell? ⟨b, 5, none⟩ = some (.string D.bv) := H.out.cell 5
      have HVV := hid hv
      go_wp2_with fail
      go_ret
      exact ⟨by rw [HVV.out]; rfl, rfl⟩
    | succ i =>
      have hil : i < D.log.length := by omega
      obtain ⟨g, cap, he⟩ := H.out.addr (by omega)
      cases he
      obtain ⟨e0, e1, e2⟩ := H.out.ent i hil
      have c7 : w.cell? ⟨b, 7, none⟩ = some (.slice (some ⟨g, 0, none⟩) D.log.length vc) := H.out.cell 7
      have hg : D.log.getD i ⟨0, 0, ⟨#[]⟩⟩ = D.log[i] := by simp [List.getD, List.getElem?_eq_getElem hil]
      have HS : Hid (vUp D (i + 1) = if D.log[i].kind = 2 then D.log[i].text else vUp D i) := hid (by rw [vUp, hg])
      have hq : ((i + 1 : Nat) : Int) - 1 = (i : Int) := by omega
      rw [hq]
      have HVV := hid hv
      clear hv
      have hlt : (i : Int) < (D.log.length : Int) := by omega
      have hw1 : IntKind.i64.wrap ((i : Int) - 1) = (i : Int) - 1 := IntWalk.i64_in _ ⟨by omega, by omega⟩
      generalize D.log[i] = en at *
      by_cases hk : en.kind = 2
      · have HE := hid (HS.out.trans (if_pos hk))
        go_wp2_with fail
        go_ret
        exact ⟨by rw [HVV.out, HE.out]; rfl, rfl⟩
      · have HE := hid (HS.out.trans (if_neg hk))
        go_wp2_with fail
        go_roundw
        case rel => exact ⟨i, rfl, by omega, HVV.out.trans HE.out, by first | rfl | trivial⟩
        case measure => simp [intOf]
end Go.Proofs.Ytjimneaimnjanaa
