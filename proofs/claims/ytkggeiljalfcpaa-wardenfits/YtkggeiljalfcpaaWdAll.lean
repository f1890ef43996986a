/- SpClone AtChJ AtStep AtDo AtCloneA WdSc WdRenew WdMerge WdSplit WdRepl WdLook WdTakes WdDecOff WdDecOn WdLives: joined. No condition. -/
import Derived.Test.YtkggeiljalfcpaaSpEach
import Derived.Test.YtkggeiljalfcpaaSpGet
import Derived.Lib.SliceRun
import Derived.Test.YtkggeiljalfcpaaAtGone
import Derived.Test.YtkggeiljalfcpaaAtRefuse
import Derived.Test.YtkggeiljalfcpaaAtApplyR
import Derived.Test.YtkggeiljalfcpaaAtRApp
import Derived.Test.YtkggeiljalfcpaaAtRRef
import Derived.Test.YtkggeiljalfcpaaAtRTailS
import Derived.Test.YtkggeiljalfcpaaAtRTailM
import Derived.Test.YtkggeiljalfcpaaAtRTailR
import Derived.Test.YtkggeiljalfcpaaAtNew
import Derived.Test.YtkggeiljalfcpaaAtMClone
import Derived.Test.YtkggeiljalfcpaaWdCold
import Derived.Test.YtkggeiljalfcpaaAtRepl
import Derived.Test.YtkggeiljalfcpaaAtFits
import Derived.Test.YtkggeiljalfcpaaAtShards
namespace Go.Proofs.Ytkggeiljalfcpaa
open Go.RowKit Go.Shelf
attribute [local go_sem] Oper.semAt_some

theorem OwnP.empty (w : World) : OwnP (w.alloc (.cells #[] 124)) w.heap.size (.slice (some ⟨w.heap.size, 0, none⟩) 0 0) [] :=
  ⟨rfl, .inr ⟨w.heap.size, 0, #[], rfl, Nat.le_refl _, heap_alloc_new _ _, Nat.le_refl _, Nat.zero_le _, rfl, rfl⟩⟩
set_option maxHeartbeats 800000 in
theorem cloneP_any (v : Value) (l : List Pc) (w : World) (hv : Pcs w v l) (hl : l.length ≤ 1000000000) :
    Calls Try.prog 69 #[v] w fun e w' => ∃ va vc, e = .returned (.slice va l.length vc) ∧ OwnP w' w.heap.size (.slice va l.length vc) l ∧ Below w.heap.size w w' := by
  have HV := hid hv
  obtain ⟨ao, n, cap, rfl, rfl, hc, hcap, hnone, hcell⟩ := hv
  clear hcell
  cases ao with
  | none =>
    have h0 : l = [] := List.eq_nil_of_length_eq_zero (by have := hnone rfl; omega)
    subst h0
    clear hnone
    have hnil := Lib.run_eql_slice_nil (P := Try.prog) w 116 124 none 0 cap 0 0 Try.underlyingPs
    go_enter Try.func69, Try.ntmps69
    go_wp2
    go_ret
    exact ⟨none, 0, rfl, OwnP.nil _ _, Below.refl _ _⟩
  | some a =>
    clear hnone
    have HO := hid (OwnP.empty w)
    have hba : Below w.heap.size w (w.alloc (.cells #[] 124)) := (Below.refl _ _).alloc (Nat.le_refl _) _
    have HA1 := hid (HV.out.below hba)
    have hnil := Lib.run_eql_slice_nil (P := Try.prog) w 116 124 (some a) l.length cap 0 0 Try.underlyingPs
    go_enter Try.func69, Try.ntmps69
    go_wp2_with (at_builtin; refine wpl_appendP rfl _ _ rfl w.heap.size (.slice (some ⟨w.heap.size, 0, none⟩) 0 0) [] rfl HO.out _ l rfl HA1.out (by simp; omega) (by simp) ?_; intro va1 vc1 w2 ho1 hg1; simp only [List.length_nil, Nat.zero_add, List.nil_append] at ho1; have HB2 := hid (hba.trans (belowP_grown HO.out hg1 (by simp))); have HO1 := hid ho1; clear ho1 hg1)
    go_ret
    exact ⟨va1, vc1, by simp, HO1.out, HB2.out⟩
set_option maxHeartbeats 1600000 in
theorem cloneM_any (b : Nat) (l : List Pc) (w : World) (hm : MapC w b l) (hl : l.length ≤ 1000000) :
    Calls Try.prog 60 #[.pointer (some ⟨b, 0, none⟩)] w fun e w' => ∃ g, e = .returned (.pointer (some ⟨g, 0, none⟩)) ∧ MapC w' g l ∧ w.heap.size ≤ g ∧ g < w'.heap.size ∧ Below w.heap.size w w' := by
  have HC := hid hm.can
  have HI := hid hm.ints
  obtain ⟨va, vc, h1, h2⟩ := hm.at'
  have HP := hid (OwnP.pcs h2)
  have cb : w.cell? ⟨b, 0, none⟩ = some (.slice va l.length vc) := by rw [cell_of_row _ _ _ _ _ _ h1]; rfl
  clear hm h1 h2
  go_enter Try.func60, Try.ntmps60
  go_wp2_with fail
  refine (cloneP_any _ l _ HP.out (by omega)).mono ?_
  rintro e w1 ⟨va1, vc1, rfl, ho, hb⟩
  have HO := hid ho
  have HB := hid hb
  clear ho hb
  go_wp2_with fail
  go_ret
  have ba : Below w1.heap.size w1 (w1.alloc (.cells #[.slice va1 l.length vc1] 118)) := (Below.refl _ _).alloc (Nat.le_refl _) _
  exact ⟨w1.heap.size, rfl, ⟨⟨va1, vc1, heap_alloc_new _ _, (HO.out.below ba).lower (Nat.zero_le _)⟩, HC.out, HI.out⟩, HB.out.size, by simp, HB.out.alloc HB.out.size _⟩
set_option maxRecDepth 100000 in
set_option maxHeartbeats 2000000 in
theorem change_nil (pv : Value) (s : Sp) (w : World) :
    Calls Try.prog 68 #[.pointer none, .agg #[.int .i64 s.1, .int .i64 s.2], pv] w fun e w' => e = .returned (.tuple #[]) ∧ Below w.heap.size w w' := by
  obtain ⟨s1, s2⟩ := s
  refine (callsIn_wide (n := 3)).1 ?_
  refine callsIn_of_wp_marks Try.func68 rfl trivial ?_ rfl
  simp only [Try.ntmps68, List.size_toArray, List.length_cons, List.length_nil, Nat.reduceAdd, Nat.reduceSub, Array.replicate_succ, Array.replicate_zero, List.push_toArray, List.append_toArray, List.nil_append, List.cons_append]
  refine wpIn_wide.2 ?_
  go_wp2_with fail
  refine ⟨_, results_none rfl _ _ _, rfl, ?_⟩
  exact (Below.refl _ _).alloc (Nat.le_refl _) _
set_option maxHeartbeats 1600000 in
theorem put_nil (s : Sp) (x : Int) (w : World) :
    Calls Try.prog 59 #[.pointer none, .agg #[.int .i64 s.1, .int .i64 s.2], .int .i64 x] w fun e w' => e = .returned (.tuple #[]) ∧ Below w.heap.size w w' := by
  obtain ⟨s1, s2⟩ := s
  go_enter Try.func59, Try.ntmps59
  go_wp2_with (go_at_call 68; refine (change_nil _ (s1, s2) _).mono ?_; rintro e w2 ⟨rfl, hb⟩; have B2 := hid hb; clear hb)
  go_end0
  have b0 : Below w.heap.size w ((w.alloc (.cells #[.int .i64 s1, .int .i64 s2] 67)).alloc (.cells #[.int .i64 s1, .int .i64 s2, .int .i64 x] 124)) := ((Below.refl _ _).alloc (Nat.le_refl _) _).alloc (by simp) _
  exact ⟨rfl, b0.trans (B2.out.mono b0.size)⟩
set_option maxHeartbeats 1600000 in
theorem get_nil (c : Int) (w : World) :
    Calls Try.prog 54 #[.pointer none, .int .i64 c] w fun e w' => e = .returned (.tuple #[.int .i64 0, .bool false]) ∧ Below w.heap.size w w' := by
  go_enter Try.func54, Try.ntmps54
  go_wp2_with fail
  go_ret2
  exact ⟨rfl, ((Below.refl _ _).alloc (Nat.le_refl _) _).alloc (by simp) _⟩
set_option maxHeartbeats 1600000 in
theorem clone_nil (w : World) :
    Calls Try.prog 60 #[.pointer none] w fun e w' => ∃ g, e = .returned (.pointer (some ⟨g, 0, none⟩)) ∧ MapC w' g [] ∧ Below w.heap.size w w' := by
  go_enter Try.func60, Try.ntmps60
  go_wp2_with fail
  go_ret
  exact ⟨w.heap.size, rfl, ⟨⟨none, 0, heap_alloc_new _ _, OwnP.nil _ _⟩, ⟨(fun x hx => by cases hx), List.Pairwise.nil⟩, fun x hx => by cases hx⟩, (Below.refl _ _).alloc (Nat.le_refl _) _⟩
set_option maxHeartbeats 1000000 in
theorem each_nil (w : World) :
    Calls Try.prog 52 #[.pointer none] w fun e w' => e = .returned (.func (.func 62) #[] #[.pointer (some ⟨w.heap.size, 0, none⟩)]) ∧
      w' = w.alloc (.cells #[.pointer none] 84 (0, 0)) := by
  have hmf : ∀ (fn : Fn) (first cap : Array Value) (w : World), (Instr.makeFunc fn first cap).run Try.prog w = .ok (.func fn first cap) w := fun _ _ _ _ => rfl
  go_enter Try.func52, Try.ntmps52
  go_wp2_with fail
  go_ret
  exact ⟨rfl, rfl⟩
set_option maxRecDepth 100000 in
set_option maxHeartbeats 1000000 in
theorem each1_none (n : Nat) (y B : Nat) (J : List Pc → World → Prop) (W : World) (hB : W.cell? ⟨B, 0, none⟩ = some (.pointer none)) (h0 : J [] W) :
    CallsIn Fence.wide n Try.prog 62 #[.func (.yield y) #[] #[], .pointer (some ⟨B, 0, none⟩)] W fun e W' => (∃ v, e = .returned v) ∧ J [] W' := by
  refine callsIn_of_wp Try.func62 rfl trivial ?_ rfl
  simp only [Try.ntmps62, List.size_toArray, List.length_cons, List.length_nil, Nat.reduceAdd, Nat.reduceSub, Array.replicate_succ, Array.replicate_zero, List.push_toArray, List.append_toArray, List.nil_append, List.cons_append]
  gi_wp2
  refine bodyPost_ret (results_none rfl _ _ _) rfl ?_
  exact ⟨⟨_, rfl⟩, h0⟩
theorem eachn_stops (n : Nat) (B : Nat) (w : World)
    (hB : w.heap[B]? = some (.cells #[.pointer none] 84 (0, 0))) :
    SeqStopsK Fence.wide n Try.prog 62 #[.pointer (some ⟨B, 0, none⟩)] eachV (fun _ _ => True) (fun ys => ys = []) (fun _ => False) 0 w := fun y J Jx W hW hJ _ hY h0 => by
  have hp := (hW.block B (lt_of_block hB)).trans hB
  have hcB : W.cell? ⟨B, 0, none⟩ = some (.pointer none) := by rw [cell_of_row _ _ _ _ _ _ hp]; rfl
  exact (each1_none n y B J W hcB h0).mono fun e W' ⟨he, hj⟩ => ⟨he, .inl ⟨_, rfl, hj⟩⟩
end Go.Proofs.Ytkggeiljalfcpaa
namespace Go.Proofs.Ytkggeiljalfcpaa

def numC (c : ChD) : List Int := [c.k, c.sh, c.ot, c.at', c.out, c.in']
def ChJ (c : ChD) : Prop := ∀ x ∈ numC c, I64 x
end Go.Proofs.Ytkggeiljalfcpaa
namespace Go.Proofs.Ytkggeiljalfcpaa
open Go.RowKit Go.Maps Go.Shelf
set_option linter.unusedVariables false
set_option linter.unusedSimpArgs false

def ShD.or (S : ShD) : OrD := ⟨S.id, S.fr, S.to, S.mem⟩
/-- The new shards, as what they are. -/
def nwD (nx : Int) (ml : List Int) (ps : List OrD) : List Sp → List ShD
  | [] => []
  | s :: l => ⟨nx, s.1, s.2, ml, ps⟩ :: nwD (nx + 1) ml ps l
theorem nwX_s (ml : List Int) (ps : List OrD) (mv pv : Value) : ∀ (l : List Sp) (nx : Int), (nwX nx ml ps mv pv l).map (·.s) = nwD nx ml ps l
  | [], nx => rfl
  | s :: l, nx => by rw [nwX, nwD, List.map_cons, nwX_s ml ps mv pv l (nx + 1)]
/-- The members behind a change; does it fit one shard? -/
def mlD (c : ChD) (S : ShD) : List Int := if c.k = 3 then swD S.mem c.out c.in' else S.mem
def fit1 (c : ChD) (S : ShD) : Bool := if c.k = 1 then decide (S.fr < c.at') && decide (c.at' < S.to) else if c.k = 3 then swB S.mem c.out c.in' else true
def afD (N : AtN) (sp : List Sp) : AtN := ⟨N.bl, N.ep + 1, N.nx + sp.length, opD N.nx sp.length⟩
/-- A change of a map: its error, and the map behind it. -/
inductive StepR (N : AtN) (Z : List ShD) (c : ChD) : Int → AtN → List ShD → Prop
  | bad (h : akB c.k = false ∨ namD c ≠ c) : StepR N Z c 1 N Z
  | calm (hk : akB c.k = true) (hn : namD c = c) (h5 : c.k = 5) (ho : N.op = []) : StepR N Z c 8 N Z
  | settle (hk : akB c.k = true) (hn : namD c = c) (h5 : c.k = 5) (ho : N.op ≠ []) : StepR N Z c 0 { N with op := [] } Z
  | down (hk : akB c.k = true) (hn : namD c = c) (h5 : c.k ≠ 5) (ho : N.op ≠ []) : StepR N Z c 7 N Z
  | miss (hk : akB c.k = true) (hn : namD c = c) (h5 : c.k ≠ 5) (ho : N.op = []) (h : ∀ z ∈ Z, z.id ≠ c.sh) : StepR N Z c 8 N Z
  | miss2 (hk : akB c.k = true) (hn : namD c = c) (h2 : c.k = 2) (ho : N.op = []) (P Q : List ShD) (S : ShD) (hZ : Z = P ++ S :: Q) (hi : S.id = c.sh) (h : ∀ z ∈ Z, z.id ≠ c.ot) : StepR N Z c 8 N Z
  | unfit (hk : akB c.k = true) (hn : namD c = c) (h5 : c.k ≠ 5) (h2 : c.k ≠ 2) (ho : N.op = []) (P Q : List ShD) (S : ShD) (hZ : Z = P ++ S :: Q) (hi : S.id = c.sh) (h : fit1 c S = false) : StepR N Z c 1 N Z
  | unfit2 (hk : akB c.k = true) (hn : namD c = c) (h2 : c.k = 2) (ho : N.op = []) (P Q P' Q' : List ShD) (S U : ShD) (hZ : Z = P ++ S :: Q) (hi : S.id = c.sh) (hZ' : Z = P' ++ U :: Q') (hj : U.id = c.ot) (h : P'.length ≠ P.length + 1) : StepR N Z c 1 N Z
  | one (hk : akB c.k = true) (hn : namD c = c) (h5 : c.k ≠ 5) (h2 : c.k ≠ 2) (ho : N.op = []) (P Q : List ShD) (S : ShD) (hZ : Z = P ++ S :: Q) (hi : S.id = c.sh) (h : fit1 c S = true) : StepR N Z c 0 (afD N (spD c S.fr S.to)) (P ++ nwD N.nx (mlD c S) [S.or] (spD c S.fr S.to) ++ Q)
  | two (hk : akB c.k = true) (hn : namD c = c) (h2 : c.k = 2) (ho : N.op = []) (P Q : List ShD) (S U : ShD) (hZ : Z = P ++ S :: U :: Q) (hi : S.id = c.sh) (hj : U.id = c.ot) : StepR N Z c 0 (afD N [(S.fr, U.to)]) (P ++ nwD N.nx S.mem [S.or, U.or] [(S.fr, U.to)] ++ Q)
theorem mid_of {α : Type} (l : List α) (x : α) (h : x ∈ l) : ∃ P Q, l = P ++ x :: Q := List.append_of_mem h
/-- There is always one. -/
theorem step_ex (N : AtN) (Z : List ShD) (c : ChD) (hd : Z.Pairwise fun x y => x.id ≠ y.id) : ∃ r N' Z', StepR N Z c r N' Z' := by
  by_cases hb : akB c.k = false ∨ namD c ≠ c
  · exact ⟨_, _, _, .bad hb⟩
  have hk : akB c.k = true := by
    cases h : akB c.k with
    | true => rfl
    | false => exact absurd (.inl h) hb
  have hn : namD c = c := Classical.byContradiction fun h => hb (.inr h)
  by_cases h5 : c.k = 5
  · by_cases ho : N.op = []
    · exact ⟨_, _, _, .calm hk hn h5 ho⟩
    · exact ⟨_, _, _, .settle hk hn h5 ho⟩
  by_cases ho : N.op = []
  · by_cases hs : ∃ S ∈ Z, S.id = c.sh
    · obtain ⟨S, hS, hi⟩ := hs
      obtain ⟨P, Q, hZ⟩ := mid_of Z S hS
      by_cases h2 : c.k = 2
      · by_cases ht : ∃ U ∈ Z, U.id = c.ot
        · obtain ⟨U, hU, hj⟩ := ht
          obtain ⟨P', Q', hZ'⟩ := mid_of Z U hU
          by_cases hp : P'.length = P.length + 1
          · have e : Q = U :: Q' := by
              have h1 : Z[P.length + 1]? = some U := by rw [hZ', ← hp]; simp
              have h2 : Z.drop (P.length + 2) = Q' := by rw [hZ', show P.length + 2 = P'.length + 1 by omega]; simp
              have h3 : Z.drop (P.length + 1) = Q := by rw [hZ]; simp
              have h4 : P.length + 1 < Z.length := (List.getElem?_eq_some_iff.1 h1).1
              rw [List.drop_eq_getElem_cons h4, (List.getElem?_eq_some_iff.1 h1).2, h2] at h3
              exact h3.symm
            exact ⟨_, _, _, .two hk hn h2 ho P Q' S U (by rw [hZ, e]) hi hj⟩
          · exact ⟨_, _, _, .unfit2 hk hn h2 ho P Q P' Q' S U hZ hi hZ' hj hp⟩
        · exact ⟨_, _, _, .miss2 hk hn h2 ho P Q S hZ hi fun z hz e => ht ⟨z, hz, e⟩⟩
      · cases hf : fit1 c S with
        | true => exact ⟨_, _, _, .one hk hn h5 h2 ho P Q S hZ hi hf⟩
        | false => exact ⟨_, _, _, .unfit hk hn h5 h2 ho P Q S hZ hi hf⟩
    · exact ⟨_, _, _, .miss hk hn h5 ho fun z hz e => hs ⟨z, hz, e⟩⟩
  · exact ⟨_, _, _, .down hk hn h5 ho⟩
/-- One behind the other. -/
def ChnD : Int → List ShD → Int → Prop
  | a, [], b => a = b
  | a, x :: l, b => x.fr = a ∧ x.fr < x.to ∧ ChnD x.to l b
theorem chn_d : ∀ (X : List SX) (a b : Int), Chn a X b ↔ ChnD a (X.map (·.s)) b
  | [], a, b => Iff.rfl
  | x :: l, a, b => by rw [List.map_cons, Chn, ChnD, chn_d l x.s.to b]
theorem ChnD.append : ∀ (P Q : List ShD) (a b : Int), ChnD a (P ++ Q) b ↔ ∃ m, ChnD a P m ∧ ChnD m Q b
  | [], Q, a, b => ⟨fun h => ⟨a, rfl, h⟩, fun ⟨m, h1, h2⟩ => by have e : a = m := h1; subst e; exact h2⟩
  | x :: P, Q, a, b => by
    constructor
    · rintro ⟨h1, h2, h3⟩
      obtain ⟨m, h4, h5⟩ := (ChnD.append P Q _ b).1 h3
      exact ⟨m, ⟨h1, h2, h4⟩, h5⟩
    · rintro ⟨m, ⟨h1, h2, h4⟩, h5⟩
      exact ⟨h1, h2, (ChnD.append P Q _ b).2 ⟨m, h4, h5⟩⟩
theorem ChnD.le : ∀ (X : List ShD) (a b : Int), ChnD a X b → a ≤ b
  | [], a, b, h => by have e : a = b := h; omega
  | x :: l, a, b, ⟨h1, h2, h3⟩ => by have := ChnD.le l _ b h3; omega
theorem ChnD.mem : ∀ (X : List ShD) (a b : Int), ChnD a X b → ∀ x ∈ X, a ≤ x.fr ∧ x.fr < x.to ∧ x.to ≤ b
  | [], a, b, _, x, hx => by cases hx
  | y :: l, a, b, ⟨h1, h2, h3⟩, x, hx => by
    have hl := ChnD.le l _ b h3
    rcases List.mem_cons.1 hx with rfl | hx
    · exact ⟨by omega, h2, hl⟩
    · have := ChnD.mem l _ b h3 x hx
      exact ⟨by omega, this.2.1, this.2.2⟩
/-- What holds of each map of shards that comes of a new one by some changes. -/
structure Gd (B : Nat) (N : AtN) (Z : List ShD) : Prop where
  ch : ChnD 0 Z N.bl
  mb : ∀ S ∈ Z, memB S.mem = true
  pa : ∀ S ∈ Z, S.past.length ≤ 2 ∧ ∀ o ∈ S.past, memB o.mem = true
  id : ∀ S ∈ Z, 1 ≤ S.id ∧ S.id < N.nx
  ne : Z.Pairwise fun x y => x.id ≠ y.id
  nx : 2 ≤ N.nx ∧ N.nx ≤ B
  ep : 1 ≤ N.ep ∧ N.ep ≤ B
  len : Z.length ≤ B
  opl : N.op.length ≤ 2
  bl : 1 ≤ N.bl ∧ N.bl ≤ 256
theorem Gd.mono {B B' : Nat} {N : AtN} {Z : List ShD} (h : Gd B N Z) (hb : B ≤ B') : Gd B' N Z := ⟨h.ch, h.mb, h.pa, h.id, h.ne, ⟨h.nx.1, by have := h.nx.2; omega⟩, ⟨h.ep.1, by have := h.ep.2; omega⟩, by have := h.len; omega, h.opl, h.bl⟩
theorem nwD_len (ml : List Int) (ps : List OrD) : ∀ (l : List Sp) (nx : Int), (nwD nx ml ps l).length = l.length
  | [], nx => rfl
  | t :: l, nx => by rw [nwD, List.length_cons, List.length_cons, nwD_len ml ps l (nx + 1)]
theorem nwD_mem (ml : List Int) (ps : List OrD) : ∀ (l : List Sp) (nx : Int), ∀ x ∈ nwD nx ml ps l, x.mem = ml ∧ x.past = ps ∧ nx ≤ x.id ∧ x.id < nx + l.length
  | [], nx, x, hx => by cases hx
  | t :: l, nx, x, hx => by
    rw [List.length_cons]
    rcases List.mem_cons.1 hx with rfl | hx
    · exact ⟨rfl, rfl, by show nx ≤ nx; omega, by show nx < _; omega⟩
    · have := nwD_mem ml ps l (nx + 1) x hx
      exact ⟨this.1, this.2.1, by omega, by omega⟩
theorem nwD_ne (ml : List Int) (ps : List OrD) : ∀ (l : List Sp) (nx : Int), (nwD nx ml ps l).Pairwise fun x y => x.id ≠ y.id
  | [], nx => List.Pairwise.nil
  | t :: l, nx => List.pairwise_cons.2 ⟨fun y hy => by have := nwD_mem ml ps l (nx + 1) y hy; show nx ≠ y.id; omega, nwD_ne ml ps l (nx + 1)⟩
theorem memB_swD (l : List Int) (out in' : Int) (h : memB l = true) (hs : swB l out in' = true) : memB (swD l out in') = true := by
  obtain ⟨hr, hn, ho⟩ := mem_rise h
  have hs3 : out ∈ l ∧ in' ∉ l ∧ (0 ≤ in' ∧ in' < 7) := by simpa [swB, nodeB] using hs
  obtain ⟨k, hk, hke⟩ := List.mem_iff_getElem.1 hs3.1
  refine mem_of_rise (swD_rise _ _ _) (fun x hx => ?_) (by rw [swD_len l out in' k hk hke hr hn hs3.2.2 hs3.2.1]; exact ho)
  rcases (mem_swD l out in' x hs3.2.2 hn).1 hx with h | rfl
  · exact hn x h.1
  · exact hs3.2.2
/-- The middle is put anew. -/
theorem Gd.put {B : Nat} {N : AtN} {P G Q : List ShD} {ml : List Int} {sp : List Sp} (h : Gd B N (P ++ G ++ Q)) (hG : 1 ≤ G.length ∧ G.length ≤ 2) (hs : sp.length ≤ 2) (hm : memB ml = true) (hc : ∀ a t, ChnD a G t → ChnD a (nwD N.nx ml (G.map ShD.or) sp) t) : Gd (B + 2) (afD N sp) (P ++ nwD N.nx ml (G.map ShD.or) sp ++ Q) := by
  obtain ⟨t, h12, hq⟩ := (ChnD.append _ _ _ _).1 h.ch
  obtain ⟨f, hp, hg⟩ := (ChnD.append _ _ _ _).1 h12
  have hPm : ∀ S ∈ P, S ∈ P ++ G ++ Q := fun S hS => by simp [hS]
  have hGm : ∀ S ∈ G, S ∈ P ++ G ++ Q := fun S hS => by simp [hS]
  have hQm : ∀ S ∈ Q, S ∈ P ++ G ++ Q := fun S hS => by simp [hS]
  have hpg : ∀ o ∈ G.map ShD.or, memB o.mem = true := fun o ho => by
    obtain ⟨S, hS, rfl⟩ := List.mem_map.1 ho
    exact h.mb S (hGm S hS)
  have hcase : ∀ S ∈ P ++ nwD N.nx ml (G.map ShD.or) sp ++ Q, S ∈ P ++ G ++ Q ∨ S ∈ nwD N.nx ml (G.map ShD.or) sp := fun S hS => by
    rcases List.mem_append.1 hS with hS | hS
    · rcases List.mem_append.1 hS with hS | hS
      · exact .inl (hPm S hS)
      · exact .inr hS
    · exact .inl (hQm S hS)
  obtain ⟨hn12, hnq, hnx⟩ := List.pairwise_append.1 h.ne
  obtain ⟨hnp, hng, hnpg⟩ := List.pairwise_append.1 hn12
  refine ⟨(ChnD.append _ _ _ _).2 ⟨t, (ChnD.append _ _ _ _).2 ⟨f, hp, hc f t hg⟩, hq⟩, fun S hS => ?_, fun S hS => ?_, fun S hS => ?_, ?_, ⟨?_, ?_⟩, ⟨?_, ?_⟩, ?_, ?_, h.bl⟩
  · rcases hcase S hS with h1 | h1
    · exact h.mb S h1
    · rw [(nwD_mem _ _ _ _ S h1).1]; exact hm
  · rcases hcase S hS with h1 | h1
    · exact h.pa S h1
    · rw [(nwD_mem _ _ _ _ S h1).2.1, List.length_map]; exact ⟨hG.2, hpg⟩
  · show 1 ≤ S.id ∧ S.id < N.nx + sp.length
    rcases hcase S hS with h1 | h1
    · have := h.id S h1; omega
    · have := nwD_mem _ _ _ _ S h1; have := h.nx; omega
  · refine List.pairwise_append.2 ⟨List.pairwise_append.2 ⟨hnp, nwD_ne _ _ _ _, fun x hx y hy => ?_⟩, hnq, fun x hx y hy => ?_⟩
    · have := h.id x (hPm x hx); have := nwD_mem _ _ _ _ y hy; omega
    · rcases List.mem_append.1 hx with hx | hx
      · exact hnx x (by simp [hx]) y hy
      · have := h.id y (hQm y hy); have := nwD_mem _ _ _ _ x hx; omega
  · show 2 ≤ N.nx + sp.length; have := h.nx; omega
  · show N.nx + sp.length ≤ ((B + 2 : Nat) : Int); have := h.nx; omega
  · show 1 ≤ N.ep + 1; have := h.ep; omega
  · show N.ep + 1 ≤ ((B + 2 : Nat) : Int); have := h.ep; omega
  · have := h.len
    simp only [List.length_append, nwD_len] at this ⊢
    omega
  · show (opD N.nx sp.length).length ≤ 2; rw [opD_len]; exact hs
theorem spD_len (c : ChD) (fr tt : Int) : (spD c fr tt).length ≤ 2 ∧ 1 ≤ (spD c fr tt).length := by unfold spD; split <;> simp
theorem one_ch (c : ChD) (S : ShD) (ml : List Int) (ps : List OrD) (nx : Int) (hf : fit1 c S = true) (a t : Int) (h : ChnD a [S] t) : ChnD a (nwD nx ml ps (spD c S.fr S.to)) t := by
  obtain ⟨h1, h2, h3⟩ := h
  have h4 : S.to = t := h3
  unfold spD
  by_cases hk : c.k = 1
  · rw [if_pos hk]
    unfold fit1 at hf
    rw [if_pos hk] at hf
    simp at hf
    exact ⟨h1, hf.1, rfl, hf.2, h4⟩
  · rw [if_neg hk]
    exact ⟨h1, h2, h4⟩
theorem mlD_mb (c : ChD) (S : ShD) (h : memB S.mem = true) (hf : fit1 c S = true) : memB (mlD c S) = true := by
  unfold mlD
  split
  · rename_i hk
    unfold fit1 at hf
    rw [if_neg (by omega), if_pos hk] at hf
    exact memB_swD _ _ _ h hf
  · exact h
theorem gd_step {B : Nat} {N N' : AtN} {Z Z' : List ShD} {c : ChD} {r : Int} (h : Gd B N Z) (hs : StepR N Z c r N' Z') : Gd (B + 2) N' Z' := by
  cases hs with
  | bad _ => exact h.mono (by omega)
  | calm _ _ _ _ => exact h.mono (by omega)
  | settle _ _ _ _ =>
    have := h.mono (B' := B + 2) (by omega)
    exact ⟨this.ch, this.mb, this.pa, this.id, this.ne, this.nx, this.ep, this.len, by show (0 : Nat) ≤ 2; omega, this.bl⟩
  | down _ _ _ _ => exact h.mono (by omega)
  | miss _ _ _ _ _ => exact h.mono (by omega)
  | miss2 _ _ _ _ _ _ _ _ _ _ => exact h.mono (by omega)
  | unfit _ _ _ _ _ _ _ _ _ _ _ => exact h.mono (by omega)
  | unfit2 _ _ _ _ _ _ _ _ _ _ _ _ _ _ _ => exact h.mono (by omega)
  | one hk hn h5 h2 ho P Q S hZ hi hf =>
    have h' : Gd B N (P ++ [S] ++ Q) := by rw [hZ] at h; simpa using h
    exact h'.put ⟨by simp, by simp⟩ (spD_len c _ _).1 (mlD_mb c S (h'.mb S (by simp)) hf) fun a t ht => one_ch c S _ _ _ hf a t ht
  | two hk hn h2 ho P Q S U hZ hi hj =>
    have h' : Gd B N (P ++ [S, U] ++ Q) := by rw [hZ] at h; simpa using h
    refine h'.put ⟨by simp, by simp⟩ (by simp) (h'.mb S (by simp)) fun a t ht => ?_
    obtain ⟨h1, h2, h3, h4, h5⟩ := ht
    exact ⟨h1, by show S.fr < U.to; omega, h5⟩
end Go.Proofs.Ytkggeiljalfcpaa
namespace Go.Proofs.Ytkggeiljalfcpaa
open Go.RowKit Go.Maps Go.Shelf
set_option linter.unusedVariables false
set_option linter.unusedSimpArgs false

theorem map_mid {X : List SX} {P Q : List ShD} {S : ShD} (h : X.map (·.s) = P ++ S :: Q) : ∃ PX x QX, X = PX ++ x :: QX ∧ PX.map (·.s) = P ∧ x.s = S ∧ QX.map (·.s) = Q := by
  obtain ⟨PX, R, rfl, h1, h2⟩ := List.map_eq_append_iff.1 h
  obtain ⟨x, QX, rfl, h3, h4⟩ := List.map_eq_cons_iff.1 h2
  exact ⟨PX, x, QX, rfl, h1, h3, h4⟩
theorem ne_map {X : List SX} (h : (X.map (·.s)).Pairwise fun x y => x.id ≠ y.id) : X.Pairwise fun x y => x.s.id ≠ y.s.id := (List.pairwise_map (f := fun x : SX => x.s) (R := fun x y : ShD => x.id ≠ y.id)).1 h
theorem one_of {X : List SX} (h : X.Pairwise fun x y => x.s.id ≠ y.s.id) : ∀ x ∈ X, ∀ y ∈ X, y.s.id = x.s.id → y = x := fun x hx y hy e => by
  obtain ⟨i, hi, rfl⟩ := List.mem_iff_getElem.1 hx
  obtain ⟨j, hj, rfl⟩ := List.mem_iff_getElem.1 hy
  rcases Nat.lt_trichotomy i j with h1 | h1 | h1
  · exact absurd e.symm (List.pairwise_iff_getElem.1 h i j hi hj h1)
  · subst h1; rfl
  · exact absurd e (List.pairwise_iff_getElem.1 h j i hj hi h1)
theorem ChnD.rise : ∀ (X : List ShD) (a b : Int), ChnD a X b → X.Pairwise fun x y => x.to ≤ y.fr
  | [], _, _, _ => List.Pairwise.nil
  | y :: l, a, b, ⟨h1, h2, h3⟩ => List.pairwise_cons.2 ⟨fun x hx => (ChnD.mem l _ b h3 x hx).1, ChnD.rise l _ b h3⟩
/-- The one that begins where another ends is the next. -/
theorem chn_next {a b : Int} {Z P Q P' Q' : List ShD} {S U : ShD} (h : ChnD a Z b) (hZ : Z = P ++ S :: Q) (hZ' : Z = P' ++ U :: Q') (he : U.fr = S.to) : P'.length = P.length + 1 := by
  have hr := List.pairwise_iff_getElem.1 (ChnD.rise Z a b h)
  have hm := ChnD.mem Z a b h
  have hi : P.length < Z.length := by rw [hZ]; simp
  have hj : P'.length < Z.length := by rw [hZ']; simp
  have hS : Z[P.length] = S := by subst hZ; simp
  have hU : Z[P'.length] = U := by subst hZ'; simp
  have hS2 := hm S (by rw [hZ]; simp)
  have hU2 := hm U (by rw [hZ']; simp)
  rcases Nat.lt_trichotomy P'.length P.length with h1 | h1 | h1
  · have := hr _ _ hj hi h1
    rw [hS, hU] at this; omega
  · have : S = U := by rw [← hS, ← hU]; simp [h1]
    subst this; omega
  · by_cases h2 : P'.length = P.length + 1
    · exact h2
    · have hk : P.length + 1 < Z.length := by omega
      have e1 := hr _ _ hi hk (by omega)
      have e2 := hr _ _ hk hj (by omega)
      have := hm _ (List.getElem_mem hk)
      rw [hS] at e1
      rw [hU] at e2
      omega
/-- What Apply leaves. -/
def ApP (b wb mb n : Nat) (N' : AtN) (Z' : List ShD) (r : Int) (w : World) (e : Ending) (w' : World) : Prop :=
  ∃ n' ov' D' X', e = .returned (.int .i64 r) ∧ At w' b wb mb n' ov' D' N' X' ∧ X'.map (·.s) = Z' ∧ n' ≤ n + 2 ∧ Tr (AtR b wb mb) w w'
def RaP (xb : Nat) (N' : AtN) (Z' : List ShD) (r : Int) (w : World) (e : Ending) (w' : World) : Prop :=
  ∃ rv' sv' Y', e = .returned (.int .i64 r) ∧ RB w' xb N' rv' sv' Y' ∧ Y'.map (·.s) = Z' ∧ Tr (fun q => q = xb) w w'
theorem ap_same {b wb mb n : Nat} {ov : Value} {D : DataW Value} {N : AtN} {X : List SX} {w : World} {r : Int} (h : At w b wb mb n ov D N X) (e : Ending) (w' : World) (he : e = .returned (.int .i64 r) ∧ Below w.heap.size w w') : ApP b wb mb n N (X.map (·.s)) r w e w' :=
  ⟨n, ov, D, X, he.1, h.below he.2, rfl, by omega, Tr.below he.2⟩
theorem ra_same {xb : Nat} {rv sv : Value} {N : AtN} {Y : List SX} {w : World} {r : Int} (h : RB w xb N rv sv Y) (e : Ending) (w' : World) (he : e = .returned (.int .i64 r) ∧ Below w.heap.size w w') : RaP xb N (Y.map (·.s)) r w e w' :=
  ⟨rv, sv, Y, he.1, h.below he.2, rfl, Tr.below he.2⟩
theorem fit1_B {c : ChD} {S : ShD} (h3 : c.k ≠ 3) (h2 : c.k ≠ 2) : fitB c S S = fit1 c S := by
  unfold fitB fit1
  rw [if_neg h2, if_neg h3]
theorem sp_in {c : ChD} {S : ShD} {fr tt : Int} (h1 : 0 ≤ fr ∧ tt ≤ 256) (h2 : c.k = 1 → fr < c.at' ∧ c.at' < tt) (h3 : fr < tt) : ∀ s ∈ spD c fr tt, -9223372036854775808 ≤ s.1 ∧ s.2 ≤ 9223372036854775807 := by
  unfold spD
  split
  · rename_i hk
    have := h2 hk
    intro s hs
    simp at hs
    rcases hs with rfl | rfl <;> constructor <;> simp only <;> omega
  · intro s hs
    simp at hs
    subst hs
    constructor <;> simp only <;> omega
theorem mem7 {l : List Int} (h : memB l = true) : l.length ≤ 7 := by
  obtain ⟨hr, hn, -⟩ := mem_rise h
  have := rise_len l 0 hr hn; omega
set_option maxHeartbeats 1000000 in
theorem aapply_any (b wb mb n B : Nat) (ov : Value) (D : DataW Value) (N N' : AtN) (X : List SX) (Z' : List ShD) (c : ChD) (r : Int) (w : World) (h : At w b wb mb n ov D N X) (g : Gd B N (X.map (·.s))) (hs : StepR N (X.map (·.s)) c r N' Z') (hc : ChJ c) (hB : B ≤ 1000) (hn : n ≤ 1000) :
    Calls Try.prog 10 #[.pointer (some ⟨b, 0, none⟩), chV c] w (ApP b wb mb n N' Z' r w) := by
  have hsh : I64 c.sh := hc c.sh (by simp [numC])
  have hot : I64 c.ot := hc c.ot (by simp [numC])
  have hneX := ne_map g.ne
  have honX := one_of hneX
  have gS := gd_step g hs
  have hXI : ∀ x ∈ X, I64 x.s.id := fun x hx => by have := g.id x.s (List.mem_map.2 ⟨x, hx, rfl⟩); have := g.nx; constructor <;> omega
  have hlt : ∀ x ∈ X, x.s.id < N.nx := fun x hx => (g.id x.s (List.mem_map.2 ⟨x, hx, rfl⟩)).2
  have hxl : X.length ≤ 100000 := by have := g.len; rw [List.length_map] at this; omega
  cases hs with
  | bad hb =>
    cases hk : akB c.k with
    | false => exact (apply_kind b c w hk).mono (ap_same h)
    | true => exact (apply_field b c w hk (hb.resolve_left (by simp [hk]))).mono (ap_same h)
  | calm hk hnm h5 ho => exact (apply_calm b wb mb n ov D N X c w h hk hnm h5 ho).mono (ap_same h)
  | settle hk hnm h5 ho =>
    refine (apply_settle b wb mb n ov D N X c w h hk hnm h5 ho).mono ?_
    rintro e w' ⟨rfl, ha, ht⟩
    exact ⟨n, _, D, X, rfl, ha, rfl, by omega, ht⟩
  | down hk hnm h5 ho => exact (apply_down b wb mb n ov D N X c w h hk hnm h5 ho).mono (ap_same h)
  | miss hk hnm h5 ho hno => exact (apply_miss b wb mb n ov D N X c w h hk hnm h5 ho hsh hot ⟨c.sh, by unfold idsD; split <;> simp, fun x hx => hno x.s (List.mem_map.2 ⟨x, hx, rfl⟩)⟩).mono (ap_same h)
  | miss2 hk hnm h2 ho P Q S hZ hi hno => exact (apply_miss b wb mb n ov D N X c w h hk hnm (by omega) ho hsh hot ⟨c.ot, by unfold idsD; rw [if_pos h2]; simp, fun x hx => hno x.s (List.mem_map.2 ⟨x, hx, rfl⟩)⟩).mono (ap_same h)
  | unfit hk hnm h5 h2 ho P Q S hZ hi hf =>
    obtain ⟨PX, x, QX, hX, rfl, rfl, rfl⟩ := map_mid hZ
    have hx : x ∈ X := by rw [hX]; simp
    refine (apply_unfit b wb mb n 1 ov D N X [x] c w h hk hnm h5 (fun W hW => gone_one b wb mb n ov D N _ X c x W hW ho hsh hot h2 hx hi fun y hy e => honX x hx y hy e) (fun W v hv => ?_)).mono (ap_same h)
    by_cases h3 : c.k = 3
    · refine (fits_rep c x.s x.mv x.pv v W h3 hv).mono fun e w' he => ⟨?_, he.2⟩
      unfold fit1 at hf
      rw [if_neg (by omega), if_pos h3] at hf
      rw [he.1, hf]
    · refine (fits_one c x.s x.mv x.pv v W h3 h2 hv).mono fun e w' he => ⟨?_, he.2⟩
      rw [he.1, fit1_B h3 h2, hf]
  | unfit2 hk hnm h2 ho P Q P' Q' S U hZ hi hZ' hj hne =>
    have hfr : ¬ U.fr = S.to := fun e => hne (chn_next g.ch hZ hZ' e)
    obtain ⟨PX, x, QX, hX, -, rfl, -⟩ := map_mid hZ
    obtain ⟨PY, y, QY, hY, -, rfl, -⟩ := map_mid hZ'
    have hx : x ∈ X := by rw [hX]; simp
    have hy : y ∈ X := by rw [hY]; simp
    refine (apply_unfit b wb mb n 2 ov D N X [x, y] c w h hk hnm (by omega) (fun W hW => gone_two b wb mb n ov D N _ X c x y W hW ho hsh hot h2 hx hi (fun z hz e => honX x hx z hz e) hy hj (fun z hz e => honX y hy z hz e)) (fun W v hv => ?_)).mono (ap_same h)
    refine (fits_two c x.s y.s x.mv x.pv y.mv y.pv v W h2 hv).mono fun e w' he => ⟨?_, he.2⟩
    rw [he.1]
    unfold fitB
    rw [if_neg (by omega), if_pos h2, decide_eq_false hfr]
  | one hk hnm h5 h2 ho P Q S hZ hi hf =>
    obtain ⟨PX, x, QX, hX, rfl, rfl, rfl⟩ := map_mid hZ
    have hx : x ∈ X := by rw [hX]; simp
    have hch := (chn_d X 0 N.bl).2 g.ch
    have hX' : X = PX ++ [x] ++ QX := by rw [hX]; simp
    have hmem := Chn.mem X 0 N.bl hch x hx
    rw [hX'] at hch
    obtain ⟨t, h12, hq⟩ := (Chn.append _ _ _ _).1 hch
    obtain ⟨f, hp, hg⟩ := (Chn.append _ _ _ _).1 h12
    have hbl := g.bl
    have hfit : c.k = 1 → x.s.fr < c.at' ∧ c.at' < x.s.to := fun hk1 => by unfold fit1 at hf; rw [if_pos hk1] at hf; simpa using hf
    have hsi := sp_in (c := c) (S := x.s) (fr := x.s.fr) (tt := x.s.to) ⟨hmem.1, by omega⟩ hfit hmem.2.1
    have hcan : ∀ mv' pv' W', Can W' → Chs (X.map SX.pc) ((nwX N.nx (mlD c x.s) ([x].map fun x => x.or.o) mv' pv' (spD c x.s.fr x.s.to)).map SX.pc) W' → W' = (PX ++ nwX N.nx (mlD c x.s) ([x].map fun x => x.or.o) mv' pv' (spD c x.s.fr x.s.to) ++ QX).map SX.pc := fun mv' pv' W' hW hc' => by
      refine chn_put PX [x] QX _ 0 f t N.bl hp hg hq ?_ ?_ W' hW (by rw [← hX']; exact hc')
      · rw [chn_d, nwX_s]
        exact one_ch c x.s _ _ _ hf f t ((chn_d [x] f t).1 hg)
      · refine ne_map ?_
        rw [List.map_append, List.map_append, nwX_s]
        exact gS.ne
    have hout := outX_mid PX [x] QX (by rw [← hX']; exact hneX)
    rw [← hX'] at hout
    have fin : ∀ e w', ApK b wb mb n N PX [x] QX (spD c x.s.fr x.s.to) (mlD c x.s) w e w' → ApP b wb mb n (afD N (spD c x.s.fr x.s.to)) (PX.map (·.s) ++ nwD N.nx (mlD c x.s) [x.s.or] (spD c x.s.fr x.s.to) ++ QX.map (·.s)) 0 w e w' := by
      rintro e w' ⟨ov', D', mv, pvo, he, ha, ht⟩
      exact ⟨_, ov', D', _, he, ha, by rw [List.map_append, List.map_append, nwX_s]; rfl, by have := (spD_len c x.s.fr x.s.to).1; omega, ht⟩
    by_cases h3 : c.k = 3
    · have hml : mlD c x.s = swD x.s.mem c.out c.in' := by unfold mlD; rw [if_pos h3]
      refine (apply_rep b wb mb n ov D N X PX QX [x] x.s x.mv x.pv c w h hk hnm h3 ho rfl (by simpa using hx) hi (fun y hy e => honX x hx y hy e) (mlD c x.s) hml (g.mb x.s (List.mem_map.2 ⟨x, hx, rfl⟩)) (by unfold fit1 at hf; rw [if_neg (by omega), if_pos h3] at hf; exact hf) hXI (by omega) (by have := g.nx; omega) (by have := g.ep; omega) hlt hxl hsi hsh hot (by have := mem7 (g.mb x.s (List.mem_map.2 ⟨x, hx, rfl⟩)); omega) hcan hout).mono fin
    · have hml : mlD c x.s = x.s.mem := by unfold mlD; rw [if_neg h3]
      rw [hml] at hcan fin ⊢
      exact (apply_one b wb mb n ov D N X PX QX [x] x.s x.mv x.pv c w h hk hnm h2 h3 h5 ho rfl (by simpa using hx) hi (fun y hy e => honX x hx y hy e) (by rw [fit1_B h3 h2]; exact hf) hXI (by omega) (by have := g.nx; omega) (by have := g.ep; omega) hlt hxl hsi hsh hot (by have := mem7 (g.mb x.s (List.mem_map.2 ⟨x, hx, rfl⟩)); omega) hcan hout).mono fin
  | two hk hnm h2 ho P Q S U hZ hi hj =>
    obtain ⟨PX, x, RX, hX, rfl, rfl, hR⟩ := map_mid hZ
    obtain ⟨y, QX, rfl, rfl, rfl⟩ := List.map_eq_cons_iff.1 hR
    have hx : x ∈ X := by rw [hX]; simp
    have hy : y ∈ X := by rw [hX]; simp
    have hch := (chn_d X 0 N.bl).2 g.ch
    have hX' : X = PX ++ [x, y] ++ QX := by rw [hX]; simp
    have hmx := Chn.mem X 0 N.bl hch x hx
    have hmy := Chn.mem X 0 N.bl hch y hy
    rw [hX'] at hch
    obtain ⟨t, h12, hq⟩ := (Chn.append _ _ _ _).1 hch
    obtain ⟨f, hp, hg⟩ := (Chn.append _ _ _ _).1 h12
    obtain ⟨q1, q2, q3, q4, q5⟩ := hg
    have hbl := g.bl
    have hsp : spD c x.s.fr y.s.to = [(x.s.fr, y.s.to)] := by unfold spD; rw [if_neg (by omega)]
    have hsi := sp_in (c := c) (S := x.s) (fr := x.s.fr) (tt := y.s.to) ⟨hmx.1, by omega⟩ (fun hk1 => by omega) (by omega)
    have hcan : ∀ mv' pv' W', Can W' → Chs (X.map SX.pc) ((nwX N.nx x.s.mem ([x, y].map fun x => x.or.o) mv' pv' (spD c x.s.fr y.s.to)).map SX.pc) W' → W' = (PX ++ nwX N.nx x.s.mem ([x, y].map fun x => x.or.o) mv' pv' (spD c x.s.fr y.s.to) ++ QX).map SX.pc := fun mv' pv' W' hW hc' => by
      refine chn_put PX [x, y] QX _ 0 f t N.bl hp ⟨q1, q2, q3, q4, q5⟩ hq ?_ ?_ W' hW (by rw [← hX']; exact hc')
      · rw [hsp]
        exact ⟨q1, by show x.s.fr < y.s.to; omega, q5⟩
      · refine ne_map ?_
        rw [List.map_append, List.map_append, nwX_s, hsp]
        exact gS.ne
    have hout := outX_mid PX [x, y] QX (by rw [← hX']; exact hneX)
    rw [← hX'] at hout
    refine (apply_two b wb mb n ov D N X PX QX [x, y] x.s y.s x.mv x.pv y.mv y.pv c w h hk hnm h2 ho rfl (by simp [hx, hy]) hi (fun z hz e => honX x hx z hz e) hj (fun z hz e => honX y hy z hz e) (by unfold fitB; rw [if_neg (by omega), if_pos h2, decide_eq_true (by omega)]) hXI (by omega) (by have := g.nx; omega) (by have := g.ep; omega) hlt hxl hsi hsh hot (by have := mem7 (g.mb x.s (List.mem_map.2 ⟨x, hx, rfl⟩)); omega) hcan hout).mono ?_
    rintro e w' ⟨ov', D', mv, pvo, he, ha, ht⟩
    rw [hsp] at ha
    exact ⟨_, ov', D', _, he, ha, by rw [List.map_append, List.map_append, nwX_s]; rfl, by simp, ht⟩
theorem rapply_any (xb B : Nat) (rv sv : Value) (N N' : AtN) (Y : List SX) (Z' : List ShD) (c : ChD) (r : Int) (w : World) (h : RB w xb N rv sv Y) (g : Gd B N (Y.map (·.s))) (hs : StepR N (Y.map (·.s)) c r N' Z') (hB : B ≤ 1000) :
    Calls Try.prog 11 #[.pointer (some ⟨xb, 0, none⟩), chV c] w (RaP xb N' Z' r w) := by
  have hneY := ne_map g.ne
  have hnx : 0 ≤ N.nx ∧ N.nx ≤ 1073741824 := by have := g.nx; omega
  have hep : 0 ≤ N.ep ∧ N.ep ≤ 1073741824 := by have := g.ep; omega
  have hl : Y.length ≤ 100000 := by have := g.len; rw [List.length_map] at this; omega
  have hno : ∀ {i : Int}, (∀ z ∈ Y.map (·.s), z.id ≠ i) → ∀ z ∈ Y, z.s.id ≠ i := fun hh z hz => hh z.s (List.mem_map.2 ⟨z, hz, rfl⟩)
  have fin : ∀ (P G Q : List SX) (sp : List Sp) (ml : List Int) (e : Ending) (w' : World), RaK xb N P G Q sp ml w e w' → RaP xb (afD N sp) (P.map (·.s) ++ nwD N.nx ml (G.map fun x => x.or.o) sp ++ Q.map (·.s)) 0 w e w' := by
    rintro P G Q sp ml e w' ⟨ov', sv', mv, pv, he, hr, ht⟩
    exact ⟨ov', sv', _, he, hr, by rw [List.map_append, List.map_append, nwX_s], ht⟩
  cases hs with
  | bad hb => exact (rapp_bad xb c w hb).mono (ra_same h)
  | calm hk hnm h5 ho =>
    have hf : c = ⟨5, 0, 0, 0, 0, 0⟩ := by
      rcases ch_form c hk hnm with e | e | e | e | e
      · rw [e] at h5; simp at h5
      · rw [e] at h5; simp at h5
      · rw [e] at h5; simp at h5
      · rw [e] at h5; simp at h5
      · exact e
    rw [hf]
    exact (rapp_calm xb N rv sv Y w h ho).mono (ra_same h)
  | settle hk hnm h5 ho =>
    have hf : c = ⟨5, 0, 0, 0, 0, 0⟩ := by
      rcases ch_form c hk hnm with e | e | e | e | e
      · rw [e] at h5; simp at h5
      · rw [e] at h5; simp at h5
      · rw [e] at h5; simp at h5
      · rw [e] at h5; simp at h5
      · exact e
    rw [hf]
    exact (rapp_settle xb N rv sv Y w h ho).mono fun e w' he => ⟨_, sv, Y, he.1, he.2.1, rfl, he.2.2⟩
  | down hk hnm h5 ho => exact (rapp_down xb N rv sv Y c w h hk hnm h5 ho).mono (ra_same h)
  | miss hk hnm h5 ho hn => exact (rapp_miss xb N rv sv Y c w h hk hnm h5 ho hl (hno hn)).mono (ra_same h)
  | miss2 hk hnm h2 ho P Q S hZ hi hn =>
    obtain ⟨PX, x, QX, hX, rfl, rfl, rfl⟩ := map_mid hZ
    have hf : c = ⟨2, c.sh, c.ot, 0, 0, 0⟩ := by
      rcases ch_form c hk hnm with e | e | e | e | e
      · rw [e] at h2; simp at h2
      · exact e
      · rw [e] at h2; simp at h2
      · rw [e] at h2; simp at h2
      · rw [e] at h2; simp at h2
    rw [hf]
    exact (rapp_miss2 xb N rv sv Y PX QX x c.sh c.ot w h hX hi hneY ho hnx hep hl (hno hn)).mono (ra_same h)
  | unfit hk hnm h5 h2 ho P Q S hZ hi hf =>
    obtain ⟨PX, x, QX, hX, rfl, rfl, rfl⟩ := map_mid hZ
    unfold fit1 at hf
    rcases ch_form c hk hnm with e | e | e | e | e
    · have hk1 : c.k = 1 := by rw [e]
      rw [if_pos hk1] at hf
      rw [e]
      exact (rapp_unfit1 xb N rv sv Y PX QX x c.sh c.at' w h hX hi hneY ho hnx hep hl (by simpa using hf)).mono (ra_same h)
    · exact absurd (by rw [e]) h2
    · have hk3 : c.k = 3 := by rw [e]
      rw [if_neg (by omega), if_pos hk3] at hf
      rw [e]
      exact (rapp_unfit3 xb N rv sv Y PX QX x c.sh c.out c.in' w h hX hi hneY ho hnx hep hl (g.mb x.s (List.mem_map.2 ⟨x, by rw [hX]; simp, rfl⟩)) hf).mono (ra_same h)
    · have hk4 : c.k = 4 := by rw [e]
      rw [if_neg (by omega), if_neg (by omega)] at hf
      cases hf
    · exact absurd (by rw [e]) h5
  | unfit2 hk hnm h2 ho P Q P' Q' S U hZ hi hZ' hj hne =>
    obtain ⟨PX, x, QX, hX, rfl, rfl, rfl⟩ := map_mid hZ
    obtain ⟨PY, y, QY, hY, rfl, rfl, rfl⟩ := map_mid hZ'
    have hf : c = ⟨2, c.sh, c.ot, 0, 0, 0⟩ := by
      rcases ch_form c hk hnm with e | e | e | e | e
      · rw [e] at h2; simp at h2
      · exact e
      · rw [e] at h2; simp at h2
      · rw [e] at h2; simp at h2
      · rw [e] at h2; simp at h2
    rw [hf]
    exact (rapp_unfit2 xb N rv sv Y PX QX PY QY x y c.sh c.ot w h hX hi hneY ho hnx hep hl hY hj (by simpa using hne)).mono (ra_same h)
  | one hk hnm h5 h2 ho P Q S hZ hi hf =>
    obtain ⟨PX, x, QX, hX, rfl, rfl, rfl⟩ := map_mid hZ
    have hm := g.mb x.s (List.mem_map.2 ⟨x, by rw [hX]; simp, rfl⟩)
    have fin' := fin PX [x] QX
    unfold fit1 at hf
    rcases ch_form c hk hnm with e | e | e | e | e
    · have hk1 : c.k = 1 := by rw [e]
      rw [if_pos hk1] at hf
      have hsp : spD c x.s.fr x.s.to = [(x.s.fr, c.at'), (c.at', x.s.to)] := by unfold spD; rw [if_pos hk1]
      have hml : mlD c x.s = x.s.mem := by unfold mlD; rw [if_neg (by omega)]
      have hf2 : x.s.fr < c.at' ∧ c.at' < x.s.to := by simpa using hf
      rw [hsp, hml]
      rw [show chV c = chV ⟨1, c.sh, 0, c.at', 0, 0⟩ from congrArg chV e]
      exact (rapp_split xb N rv sv Y PX QX x c.sh c.at' w h hX hi hneY ho hnx hep hl hf2.1 hf2.2).mono (fin' _ _)
    · exact absurd (by rw [e]) h2
    · have hk3 : c.k = 3 := by rw [e]
      rw [if_neg (by omega), if_pos hk3] at hf
      have hsp : spD c x.s.fr x.s.to = [(x.s.fr, x.s.to)] := by unfold spD; rw [if_neg (by omega)]
      have hml : mlD c x.s = swD x.s.mem c.out c.in' := by unfold mlD; rw [if_pos hk3]
      rw [hsp, hml]
      rw [show chV c = chV ⟨3, c.sh, 0, 0, c.out, c.in'⟩ from congrArg chV e]
      exact (rapp_rep xb N rv sv Y PX QX x c.sh c.out c.in' w h hX hi hneY ho hnx hep hl hm hf).mono (fin' _ _)
    · have hk4 : c.k = 4 := by rw [e]
      have hsp : spD c x.s.fr x.s.to = [(x.s.fr, x.s.to)] := by unfold spD; rw [if_neg (by omega)]
      have hml : mlD c x.s = x.s.mem := by unfold mlD; rw [if_neg (by omega)]
      rw [hsp, hml]
      rw [show chV c = chV ⟨4, c.sh, 0, 0, 0, 0⟩ from congrArg chV e]
      exact (rapp_renew xb N rv sv Y PX QX x c.sh w h hX hi hneY ho hnx hep hl).mono (fin' _ _)
    · exact absurd (by rw [e]) h5
  | two hk hnm h2 ho P Q S U hZ hi hj =>
    obtain ⟨PX, x, RX, hX, rfl, rfl, hR⟩ := map_mid hZ
    obtain ⟨y, QX, rfl, rfl, rfl⟩ := List.map_eq_cons_iff.1 hR
    have hf : c = ⟨2, c.sh, c.ot, 0, 0, 0⟩ := by
      rcases ch_form c hk hnm with e | e | e | e | e
      · rw [e] at h2; simp at h2
      · exact e
      · rw [e] at h2; simp at h2
      · rw [e] at h2; simp at h2
      · rw [e] at h2; simp at h2
    rw [hf]
    exact (rapp_merge xb N rv sv Y PX QX x y c.sh c.ot w h hX hi hj hneY ho hnx hep hl).mono (fin PX [x, y] QX _ _)
end Go.Proofs.Ytkggeiljalfcpaa
namespace Go.Proofs.Ytkggeiljalfcpaa
open Go.RowKit Go.Maps Go.Shelf
set_option linter.unusedVariables false
set_option linter.unusedSimpArgs false

theorem cloneN_nil (w : World) : Calls Try.prog 44 #[.slice none 0 0] w fun e w' => e = .returned (.slice none 0 0) ∧ w' = w := by
  have hnil := Lib.run_eql_slice_nil (P := Try.prog) w 26 3 none 0 0 0 0 Try.underlyingIs
  go_enter Try.func44, Try.ntmps44
  go_wp2
  go_ret
  exact ⟨rfl, rfl⟩
theorem Try.sizeAt : (Try.prog.info? 87).map (·.size) = some 6 := by kernel_rfl
theorem Try.structAt0 : (Try.prog.underlying 87).map (fun d => match d with | .struct _ | .array _ _ => true | _ => false) = some true := by kernel_rfl
theorem Try.structAt : ∃ d, Try.prog.underlying 87 = some d ∧ (match d with | .struct _ | .array _ _ => true | _ => false) = true := by
  have h := Try.structAt0
  cases hd : Try.prog.underlying 87 with
  | none => rw [hd] at h; cases h
  | some d => rw [hd] at h; exact ⟨d, rfl, by simpa using h⟩
theorem wpl_loadA {ops : Array Oper} {rest : List Oper} {o : Oper} {a : Act} {w : World} {Q : Exit → Act → World → Prop} (hgd : o.guard = none) (x : Operand) (ho : o.op = .load 87 x)
    (g : Nat) (hx : a.eval x = .pointer (some ⟨g, 0, none⟩)) (t : TypeId) (cs : Array Value) (fr : Nat × Nat) (hs : cs.size = 6) (hg : w.heap[g]? = some (.cells cs t fr))
    (h : wpList Try.prog ops Q rest (a.put o.dst (.agg cs)) w) : wpList Try.prog ops Q (o :: rest) a w := by
  obtain ⟨d, hd1, hd2⟩ := Try.structAt
  exact wpList_load_row hgd _ x ho g hx t _ fr d hg hd1 (by cases d <;> first | rfl | (simp at hd2)) (by rw [hs]; exact Try.sizeAt) h
theorem wpl_storeA {ops : Array Oper} {rest : List Oper} {o : Oper} {a : Act} {w : World} {Q : Exit → Act → World → Prop} (hgd : o.guard = none) (x y : Operand) (ho : o.op = .store 87 x y)
    (g : Nat) (a0 a1 a2 a3 a4 a5 : Value) (hx : a.eval x = .pointer (some ⟨g, 0, none⟩)) (hy : a.eval y = .agg #[a0, a1, a2, a3, a4, a5]) (h0 : a0.oneCell' = true) (h1 : a1.oneCell' = true) (h2 : a2.oneCell' = true) (h3 : a3.oneCell' = true) (h4 : a4.oneCell' = true) (h5 : a5.oneCell' = true)
    (t : TypeId) (c0 : Array Value) (hc : c0.size = 6) (hg : w.heap[g]? = some (.cells c0 t (0, 0)))
    (h : wpList Try.prog ops Q rest (a.put o.dst undef) (w.setRow g #[a0, a1, a2, a3, a4, a5])) : wpList Try.prog ops Q (o :: rest) a w :=
  wpList_store_row hgd _ x y ho g _ hx hy t _ hg Try.sizeAt (by rw [hc]; rfl) (by simp [h0, h1, h2, h3, h4, h5]) h
theorem mclone_any (mb n : Nat) (D : DataW Value) (w : World) (h : w.ownsMap Try.prog 3 RHs mb n D) :
    Calls Try.prog 61 #[.map (some mb)] w fun e w' => ∃ m, e = .returned (.map (some m)) ∧ w'.ownsMap Try.prog 3 RHs m n D ∧ w.heap.size ≤ m ∧ Below w.heap.size w w' := by
  have hcon := AnyW.maps_Clone_owns Try.cloneSh 3 RHs mb n D w h
  change Calls Try.prog 61 _ _ _ at hcon
  exact hcon.mono fun e w' ⟨he, h1, _, hb⟩ => ⟨_, he, h1, Nat.le_refl _, hb⟩
/-- What Clone leaves. -/
def ClP (n : Nat) (D : DataW Value) (N : AtN) (X : List SX) (w : World) (e : Ending) (w' : World) : Prop := ∃ c wc mc ov', e = .returned (.pointer (some ⟨c, 0, none⟩)) ∧ At w' c wc mc n ov' D N X ∧ Below w.heap.size w w' ∧ ∀ q, AtR c wc mc q → w.heap.size ≤ q
theorem cloneOp_any (va : Option Addr) (vc : Nat) (l : List Int) (w : World) (hn : l = [] → Value.slice va l.length vc = .slice none 0 0) (hv : Nums w (.slice va l.length vc) l) (hl : l.length ≤ 1000000) :
    Calls Try.prog 44 #[.slice va l.length vc] w fun e w' => ∃ ua uc, e = .returned (.slice ua l.length uc) ∧ w'.ownsRow w.heap.size 3 1 (.slice ua l.length uc) l.length (nvs l) ∧ (l = [] → Value.slice ua l.length uc = .slice none 0 0) ∧ Below w.heap.size w w' := by
  cases l with
  | nil =>
    have h := hn rfl
    rw [show (Value.slice va ([] : List Int).length vc) = .slice none 0 0 from h]
    refine (cloneN_nil w).mono ?_
    rintro e w' ⟨rfl, rfl⟩
    exact ⟨none, 0, rfl, World.ownsRow_nil _ _ _ _, fun _ => rfl, Below.refl _ _⟩
  | cons x l =>
    refine (cloneN_any _ _ w hv (by omega)).mono ?_
    rintro e w' ⟨ua, uc, rfl, ho, hb⟩
    exact ⟨ua, uc, rfl, ho, (fun e => by cases e), hb⟩
set_option maxRecDepth 100000 in
set_option maxHeartbeats 4000000 in
theorem aclone_any (b wb mb n : Nat) (ov : Value) (D : DataW Value) (N : AtN) (X : List SX) (w : World) (h : At w b wb mb n ov D N X) (hl : N.op.length ≤ 1000000) (hX : X.length ≤ 1000000) :
    Calls Try.prog 51 #[.pointer (some ⟨b, 0, none⟩)] w (ClP n D N X w) := by
  obtain ⟨va, vc, rfl⟩ := h.m.shape
  have H := hid h
  have hbox := h.m.box
  have HN := hid h.nil
  have HL := hid hl
  have HX := hid hX
  clear h hl hX
  go_enter Try.func51, Try.ntmps51
  unfold atC at hbox
  go_upto_region 4 with (first | (refine wpl_loadA rfl _ rfl b rfl _ _ _ rfl hbox ?_) | (refine wpl_storeA rfl _ _ rfl w.heap.size _ _ _ _ _ _ rfl rfl rfl rfl rfl rfl rfl rfl _ _ rfl (heap_alloc_new _ _) ?_))
  have hC3 := setRow_heap _ _ _ #[.int .i64 N.bl, .int .i64 N.ep, .int .i64 N.nx, .slice va N.op.length vc, .pointer (some ⟨wb, 0, none⟩), .map (some mb)] _ _ (heap_alloc_new w (.cells #[.int .i64 0, .int .i64 0, .int .i64 0, .slice none 0 0, .pointer none, .map none] 87))
  have hB3 := below_row ((Below.refl w.heap.size w).alloc (Nat.le_refl _) (.cells #[.int .i64 0, .int .i64 0, .int .i64 0, .slice none 0 0, .pointer none, .map none] 87)) (Nat.le_refl w.heap.size) #[.int .i64 N.bl, .int .i64 N.ep, .int .i64 N.nx, .slice va N.op.length vc, .pointer (some ⟨wb, 0, none⟩), .map (some mb)]
  generalize (w.alloc (.cells #[.int .i64 0, .int .i64 0, .int .i64 0, .slice none 0 0, .pointer none, .map none] 87)).setRow w.heap.size #[.int .i64 N.bl, .int .i64 N.ep, .int .i64 N.nx, .slice va N.op.length vc, .pointer (some ⟨wb, 0, none⟩), .map (some mb)] = w3 at *
  obtain ⟨C, hCe⟩ : ∃ C, C = w.heap.size := ⟨_, rfl⟩
  rw [← hCe] at hC3
  rw [← hCe]
  have HCE := hid hCe
  have HB3 := hid hB3
  have HC3 := hid hC3
  have H3 := hid (H.out.below hB3)
  clear hCe hB3 hC3 hbox
  have c3 : w3.cell? ⟨b, 3, none⟩ = some (.slice va N.op.length vc) := H3.out.m.cell 3
  go_upto_region 5 with (go_at_call 44; refine (cloneOp_any va vc N.op _ HN.out (nums_own H3.out.m.opn rfl) HL.out).mono ?_; rintro e w4 ⟨ua, uc, rfl, ho4, hn4, hb4⟩; have O4 := hid ho4; have N4 := hid hn4; have HB4 := hid hb4; have k4 : w4.cell? ⟨C, 3, none⟩ = some (.slice va N.op.length vc) := (cell_of_row _ _ _ _ _ _ ((hb4.block C (lt_of_block HC3.out)).trans HC3.out)).trans rfl; have f4 : w4.frozen? ⟨C, 3, none⟩ = false := frozen_of_row _ _ _ _ _ ((hb4.block C (lt_of_block HC3.out)).trans HC3.out); clear ho4 hn4 hb4 c3)
  have hC4 := (HB4.out.block C (lt_of_block HC3.out)).trans HC3.out
  have HC5 := hid (show (w4.setCell ⟨C, 3, none⟩ (.slice ua N.op.length uc)).heap[C]? = _ from heap_setCell_same _ _ _ _ _ _ hC4)
  have T5 : Hid (Tr (fun q => q = C) w4 (w4.setCell ⟨C, 3, none⟩ (.slice ua N.op.length uc))) := hid (Tr.set rfl)
  have HB45 : Hid (Below w.heap.size w w4) := hid (HB3.out.trans (HB4.out.mono HB3.out.size))
  have B5 := hid (HB45.out.trans (T5.out.to (fun q hq => by rw [show q = C from hq, HCE.out]; exact Nat.le_refl _) HB45.out.size))
  have HC4 := hid hC4
  have L5 : Hid (C < (w4.setCell ⟨C, 3, none⟩ (.slice ua N.op.length uc)).heap.size) := hid (lt_of_block HC5.out)
  clear hC4 k4 f4 HC3
  generalize w4.setCell ⟨C, 3, none⟩ (.slice ua N.op.length uc) = w5 at *
  have H5 := hid (H.out.below B5.out)
  have c5 : w5.cell? ⟨b, 4, none⟩ = some (.pointer (some ⟨wb, 0, none⟩)) := H5.out.m.cell 4
  go_upto_region 6 with (go_at_call 60; refine (cloneM_any wb _ _ H5.out.m.whr (by rw [List.length_map]; exact HX.out)).mono ?_; rintro e w6 ⟨g, rfl, hm6, hg6, -, hb6⟩; have M6 := hid hm6; have G6 := hid hg6; have HB6 := hid hb6; have k6 : w6.cell? ⟨C, 4, none⟩ = some (.pointer (some ⟨wb, 0, none⟩)) := (cell_of_row _ _ _ _ _ _ ((hb6.block C (lt_of_block HC5.out)).trans HC5.out)).trans rfl; have f6 : w6.frozen? ⟨C, 4, none⟩ = false := frozen_of_row _ _ _ _ _ ((hb6.block C (lt_of_block HC5.out)).trans HC5.out); clear hm6 hg6 hb6 c5)
  have hC6 := (HB6.out.block C (lt_of_block HC5.out)).trans HC5.out
  have HC7 := hid (show (w6.setCell ⟨C, 4, none⟩ (.pointer (some ⟨g, 0, none⟩))).heap[C]? = _ from heap_setCell_same _ _ _ _ _ _ hC6)
  have T7 : Hid (Tr (fun q => q = C) w6 (w6.setCell ⟨C, 4, none⟩ (.pointer (some ⟨g, 0, none⟩)))) := hid (Tr.set rfl)
  have HB67 : Hid (Below w.heap.size w w6) := hid (B5.out.trans (HB6.out.mono B5.out.size))
  have B7 := hid (HB67.out.trans (T7.out.to (fun q hq => by rw [show q = C from hq, HCE.out]; exact Nat.le_refl _) HB67.out.size))
  have HC6 := hid hC6
  have L7 : Hid (C < (w6.setCell ⟨C, 4, none⟩ (.pointer (some ⟨g, 0, none⟩))).heap.size) := hid (lt_of_block HC7.out)
  clear hC6 k6 f6 HC5
  generalize w6.setCell ⟨C, 4, none⟩ (.pointer (some ⟨g, 0, none⟩)) = w7 at *
  have H7 := hid (H.out.below B7.out)
  have c7 : w7.cell? ⟨b, 5, none⟩ = some (.map (some mb)) := H7.out.m.cell 5
  go_wp2_with (go_at_call 61; refine (mclone_any mb n D _ H7.out.m.own).mono ?_; rintro e w8 ⟨m, rfl, hm8, hg8, hb8⟩; have M8 := hid hm8; have G8 := hid hg8; have HB8 := hid hb8; have k8 : w8.cell? ⟨C, 5, none⟩ = some (.map (some mb)) := (cell_of_row _ _ _ _ _ _ ((hb8.block C (lt_of_block HC7.out)).trans HC7.out)).trans rfl; have f8 : w8.frozen? ⟨C, 5, none⟩ = false := frozen_of_row _ _ _ _ _ ((hb8.block C (lt_of_block HC7.out)).trans HC7.out); clear hm8 hg8 hb8 c7)
  go_ret
  have hC8 := (HB8.out.block C (lt_of_block HC7.out)).trans HC7.out
  have HC9 := (show (w8.setCell ⟨C, 5, none⟩ (.map (some m))).heap[C]? = _ from heap_setCell_same _ _ _ _ _ _ hC8)
  have T9 : Tr (fun q => q = C) w8 (w8.setCell ⟨C, 5, none⟩ (.map (some m))) := Tr.set rfl
  have HB89 : Below w.heap.size w w8 := B7.out.trans (HB8.out.mono B7.out.size)
  have B9 := HB89.trans (T9.to (fun q hq => by rw [show q = C from hq, HCE.out]; exact Nat.le_refl _) HB89.size)
  have hg : g ≠ C := by have h1 := G6.out; have h2 := L5.out; omega
  have hm : m ≠ C := by have h1 := G8.out; have h2 := L7.out; omega
  have T69 : Tr (fun q => q = C) w6 (w8.setCell ⟨C, 5, none⟩ (.map (some m))) := T7.out.trans ((Tr.below HB8.out).trans T9)
  have T49 : Tr (fun q => q = C) w4 (w8.setCell ⟨C, 5, none⟩ (.map (some m))) := T5.out.trans ((Tr.below HB6.out).trans T69)
  refine ⟨C, g, m, .slice ua N.op.length uc, rfl, ⟨⟨by simpa [atC] using HC9, ?_, ?_, M8.out.setCell (a := ⟨C, 5, none⟩) hm _, H.out.m.sm, fun x hx => (H.out.m.mem x hx).below B9⟩, N4.out⟩, B9, ?_⟩
  · exact own_lower (own_kept O4.out fun q cs _ hh => T49.block q (lt_of_block hh) fun e => by rw [show q = C from e, HC4.out] at hh; cases hh) (Nat.zero_le _)
  · obtain ⟨va7, vc7, h1, h2⟩ := M6.out.at'
    exact ⟨⟨va7, vc7, (T69.block g (lt_of_block h1) hg).trans h1, own_kept h2 fun q cs _ hh => T69.block q (lt_of_block hh) fun e => by rw [show q = C from e, HC6.out] at hh; cases hh⟩, M6.out.can, M6.out.ints⟩
  · rintro q (rfl | rfl | rfl)
    · rw [HCE.out]; exact Nat.le_refl _
    · exact Nat.le_trans B5.out.size G6.out
    · exact Nat.le_trans B7.out.size G8.out
end Go.Proofs.Ytkggeiljalfcpaa
namespace Go.Proofs.Ytkggeiljalfcpaa
open Go.RowKit Go.Maps Go.Shelf
set_option linter.unusedVariables false
set_option linter.unusedSimpArgs false

/-- What a shard had to do. -/
structure LoD where
  sh : Int
  cm : Int
  ins : Int
  mid : Int
def zL : LoD := ⟨0, 0, 0, 0⟩
def LoD.c (l : LoD) : List Value := [.int .i64 l.sh, .int .i64 l.cm, .int .i64 l.ins, .int .i64 l.mid]
def lovs (l : List LoD) : List Value := l.flatMap LoD.c
theorem lovs_cons (x : LoD) (l : List LoD) : lovs (x :: l) = x.c ++ lovs l := rfl
theorem lovs_append (a b : List LoD) : lovs (a ++ b) = lovs a ++ lovs b := by simp [lovs]
theorem lovs_len (l : List LoD) : (lovs l).length = l.length * 4 := by
  induction l with
  | nil => rfl
  | cons x l ih => rw [lovs_cons, List.length_append, ih]; simp [LoD.c]; omega
theorem lovs_part (l : List LoD) (j : Nat) (h : j < l.length) : ∀ k v, l[j].c[k]? = some v → (lovs l)[j * 4 + k]? = some v := by
  induction l generalizing j with
  | nil => cases h
  | cons x l ih =>
    intro k v hk
    cases j with
    | zero =>
      rw [lovs_cons, Nat.zero_mul, Nat.zero_add]
      have hl : k < x.c.length := (List.getElem?_eq_some_iff.1 hk).1
      rw [List.getElem?_append_left hl]
      exact hk
    | succ j =>
      have := ih j (by simpa using h) k v (by simpa using hk)
      rw [lovs_cons, show (j + 1) * 4 + k = x.c.length + (j * 4 + k) from by simp [LoD.c]; omega, List.getElem?_append_right (by omega)]
      simpa using this
theorem rowLo : RowT 25 54 (.agg #[.int .i64 0, .int .i64 0, .int .i64 0, .int .i64 0]) 4 32 := ⟨by kernel_rfl, by kernel_rfl, rfl, by decide, by decide⟩
theorem lovs_at {w : World} {B g n vc : Nat} {L : List LoD} (h : w.ownsRow B 54 4 (.slice (some ⟨g, 0, none⟩) n vc) L.length (lovs L)) (j : Nat) (hj : j < L.length) (k : Nat) (v : Value) (hv : L[j].c[k]? = some v) : w.cell? ⟨g, j * 4 + k, none⟩ = some v := by
  have hn : n = L.length := by
    obtain ⟨_, h2⟩ := h
    rcases h2 with ⟨e, h0⟩ | ⟨g', cap, cur, e, -⟩
    · cases e
    · cases e; rfl
  subst hn
  exact own_range h (j * 4) _ (lovs_part L j hj) k v hv
/-- What the rules look at: but shards and loads. -/
structure ScD where
  r : RuD
  b0 : Bool
  b1 : Bool
  b2 : Bool
  b3 : Bool
  b4 : Bool
  b5 : Bool
  b6 : Bool
def scC (s : ScD) (sv lv : Value) : Array Value := #[.int .i64 s.r.hot, .int .i64 s.r.cold, .int .i64 s.r.long, .int .i64 s.r.mute, .int .i64 s.r.cap, sv, lv, .bool s.b0, .bool s.b1, .bool s.b2, .bool s.b3, .bool s.b4, .bool s.b5, .bool s.b6]
def livB (s : ScD) (n : Nat) : Bool := [s.b0, s.b1, s.b2, s.b3, s.b4, s.b5, s.b6].getD n false
theorem scC_live (s : ScD) (sv lv : Value) (n : Nat) (h : n < 7) : (scC s sv lv)[7 + n]? = some (.bool (livB s n)) := by
  match n, h with
  | 0, _ => rfl
  | 1, _ => rfl
  | 2, _ => rfl
  | 3, _ => rfl
  | 4, _ => rfl
  | 5, _ => rfl
  | 6, _ => rfl
structure Sc (w : World) (s : ScD) (G : List SX) (L : List LoD) (sv lv : Value) : Prop where
  sh : ShR w sv G
  lo : w.ownsRow 0 54 4 lv L.length (lovs L)
  len : L.length = G.length
  small : G.length ≤ 100000
  sp : ∀ x ∈ G, 0 ≤ x.s.fr ∧ x.s.fr < x.s.to ∧ x.s.to ≤ 256
  id : ∀ x ∈ G, I64 x.s.id
  ru : 0 ≤ s.r.cold ∧ s.r.cold ≤ 1073741824
theorem Sc.below {w w' : World} {s : ScD} {G : List SX} {L : List LoD} {sv lv : Value} (h : Sc w s G L sv lv) (hb : Below w.heap.size w w') : Sc w' s G L sv lv := ⟨h.sh.below hb, own_below h.lo hb, h.len, h.small, h.sp, h.id, h.ru⟩
theorem Sc.shape {w : World} {s : ScD} {G : List SX} {L : List LoD} {sv lv : Value} (h : Sc w s G L sv lv) : (∃ va vc, sv = .slice va G.length vc) ∧ ∃ va vc, lv = .slice va L.length vc := ⟨own_shape h.sh.o, own_shape h.lo⟩
def zCh : ChD := ⟨0, 0, 0, 0, 0, 0⟩
/-- What a rule answers. -/
def RlP (w : World) (e : Ending) (w' : World) : Prop := ∃ c ok, e = .returned (.tuple #[chV c, .bool ok]) ∧ ChJ c ∧ c.k ≠ 5 ∧ (ok = false → c = zCh) ∧ Below w.heap.size w w'
/-- Nothing is asked for. -/
def NoP (w : World) (e : Ending) (w' : World) : Prop := e = .returned (.tuple #[chV zCh, .bool false]) ∧ Below w.heap.size w w'
theorem zCh_J : ChJ zCh := by
  intro x hx
  simp [numC, zCh] at hx
  subst hx
  exact ⟨by decide, by decide⟩
theorem NoP.rl {w w' : World} {e : Ending} (h : NoP w e w') : RlP w e w' := ⟨zCh, false, h.1, zCh_J, by decide, fun _ => rfl, h.2⟩
theorem ChJ.mk {a b c d e f : Int} (h1 : I64 a) (h2 : I64 b) (h3 : I64 c) (h4 : I64 d) (h5 : I64 e) (h6 : I64 f) : ChJ ⟨a, b, c, d, e, f⟩ := by
  intro x hx
  simp only [numC, List.mem_cons, List.not_mem_nil, or_false] at hx
  rcases hx with rfl | rfl | rfl | rfl | rfl | rfl <;> assumption
theorem results_chB {fn : Func} {p q : Tmp} (h : fn.results = #[.cell p 35, .tmp q]) (tmps : Array Value) (w : World) (g : Nat) (t : TypeId) (cs : Array Value) (fr : Nat × Nat) (hs : cs.size = 6)
    (hp : tmps.getD p undef = .pointer (some ⟨g, 0, none⟩)) (hg : w.heap[g]? = some (.cells cs t fr)) : (results fn tmps).run Try.prog w = .ok (.tuple #[.agg cs, tmps.getD q undef]) w := by
  obtain ⟨d, hd1, hd2⟩ := Try.structCh
  have hp' : tmps[p]?.getD undef = .pointer (some ⟨g, 0, none⟩) := by simpa using hp
  have hl := run_loadVar_row w g t 35 cs fr d hg hd1 (by cases d <;> first | rfl | (simp at hd2)) (by rw [hs]; exact Try.sizeCh)
  simp [results, h, hp', asAddr, hl]
theorem wpl_storeC {ops : Array Oper} {rest : List Oper} {o : Oper} {a : Act} {w : World} {Q : Exit → Act → World → Prop} (hgd : o.guard = none) (x y : Operand) (ho : o.op = .store 35 x y)
    (g : Nat) (a0 a1 a2 a3 a4 a5 : Value) (hx : a.eval x = .pointer (some ⟨g, 0, none⟩)) (hy : a.eval y = .agg #[a0, a1, a2, a3, a4, a5]) (h0 : a0.oneCell' = true) (h1 : a1.oneCell' = true) (h2 : a2.oneCell' = true) (h3 : a3.oneCell' = true) (h4 : a4.oneCell' = true) (h5 : a5.oneCell' = true)
    (t : TypeId) (c0 : Array Value) (hc : c0.size = 6) (hg : w.heap[g]? = some (.cells c0 t (0, 0)))
    (h : wpList Try.prog ops Q rest (a.put o.dst undef) (w.setRow g #[a0, a1, a2, a3, a4, a5])) : wpList Try.prog ops Q (o :: rest) a w :=
  wpList_store_row hgd _ x y ho g _ hx hy t _ hg Try.sizeCh (by rw [hc]; rfl) (by simp [h0, h1, h2, h3, h4, h5]) h
/-- The two boxes that each rule begins with. -/
def scB (s : ScD) (sv lv : Value) : Obj := .cells (scC s sv lv) 60
def chB : Obj := .cells #[.int .i64 0, .int .i64 0, .int .i64 0, .int .i64 0, .int .i64 0, .int .i64 0] 35
structure Bx (w w1 : World) (A C : Nat) (s : ScD) (sv lv : Value) : Prop where
  a : w1.heap[A]? = some (.cells (scC s sv lv) 60 (0, 0))
  c : w1.heap[C]? = some (.cells #[.int .i64 0, .int .i64 0, .int .i64 0, .int .i64 0, .int .i64 0, .int .i64 0] 35 (0, 0))
  b : Below w.heap.size w w1
  ca : w.heap.size ≤ A ∧ A < C
theorem bx_two (w : World) (s : ScD) (sv lv : Value) : Bx w ((w.alloc (scB s sv lv)).alloc chB) w.heap.size (w.heap.size + 1) s sv lv := by
  obtain ⟨h1, h2⟩ := heap_two w (scB s sv lv) chB
  exact ⟨h1, h2, ((Below.refl _ _).alloc (Nat.le_refl _) _).alloc (by simp) _, Nat.le_refl _, by omega⟩
theorem Bx.below {w w1 w2 : World} {A C : Nat} {s : ScD} {sv lv : Value} (h : Bx w w1 A C s sv lv) (hb : Below w1.heap.size w1 w2) : Bx w w2 A C s sv lv :=
  ⟨(hb.block A (lt_of_block h.a)).trans h.a, (hb.block C (lt_of_block h.c)).trans h.c, h.b.trans (hb.mono h.b.size), h.ca⟩
theorem Bx.cell {w w1 : World} {A C : Nat} {s : ScD} {sv lv : Value} (h : Bx w w1 A C s sv lv) (i : Nat) : w1.cell? ⟨A, i, none⟩ = (scC s sv lv)[i]? := cell_of_row _ _ _ _ _ _ h.a
end Go.Proofs.Ytkggeiljalfcpaa
namespace Go.Proofs.Ytkggeiljalfcpaa
open Go.RowKit Go.Maps Go.Shelf
set_option linter.unusedVariables false
set_option linter.unusedSimpArgs false

theorem i0 : I64 0 := ⟨by decide, by decide⟩
set_option maxRecDepth 100000 in
set_option maxHeartbeats 2000000 in
theorem replace_off (s : ScD) (sv lv : Value) (w : World) (hm : s.r.mute = 0) :
    Calls Try.prog 19 #[.agg (scC s sv lv)] w (NoP w) := by
  have HM := hid hm
  clear hm
  obtain ⟨w1, hw1⟩ : ∃ w1, w1 = (w.alloc (scB s sv lv)).alloc chB := ⟨_, rfl⟩
  have hbx := bx_two w s sv lv
  rw [← hw1] at hbx
  unfold scB chB at hw1
  obtain ⟨A, hA⟩ : ∃ A, A = w.heap.size := ⟨_, rfl⟩
  obtain ⟨C, hC⟩ : ∃ C, C = w.heap.size + 1 := ⟨_, rfl⟩
  rw [← hC, ← hA] at hbx
  have BX := hid hbx
  have HW1 := hid hw1
  have HA := hid hA
  have HC := hid hC
  clear hw1 hbx hA hC
  unfold scC at HW1
  unfold scC
  go_enter Try.func19, Try.ntmps19
  go_upto_region 1 with fail
  rw [← HW1.out, ← HC.out, ← HA.out]
  clear HW1 HC HA
  have c3 : w1.cell? ⟨A, 3, none⟩ = some (.int .i64 0) := by rw [BX.out.cell 3]; show some (Value.int .i64 s.r.mute) = _; rw [HM.out]
  have BZ := BX
  go_wp2_with (refine wpl_storeC rfl _ _ rfl C (.int .i64 0) (.int .i64 0) (.int .i64 0) (.int .i64 0) (.int .i64 0) (.int .i64 0) rfl rfl rfl rfl rfl rfl rfl rfl _ _ rfl BZ.out.c ?_)
  (try simp only [Exit.inBlock, Exit.then])
  refine bodyPost_ret (results_chB rfl _ _ C _ _ _ rfl rfl (setRow_heap _ _ _ _ _ _ BZ.out.c)) rfl ?_
  exact ⟨rfl, below_row BZ.out.b (by have := BZ.out.ca; omega) _⟩
set_option maxRecDepth 100000 in
set_option maxHeartbeats 2000000 in
theorem renew_off (s : ScD) (sv lv : Value) (w : World) (hm : s.r.long = 0) :
    Calls Try.prog 20 #[.agg (scC s sv lv)] w (NoP w) := by
  have HM := hid hm
  clear hm
  obtain ⟨w1, hw1⟩ : ∃ w1, w1 = (w.alloc (scB s sv lv)).alloc chB := ⟨_, rfl⟩
  have hbx := bx_two w s sv lv
  rw [← hw1] at hbx
  unfold scB chB at hw1
  obtain ⟨A, hA⟩ : ∃ A, A = w.heap.size := ⟨_, rfl⟩
  obtain ⟨C, hC⟩ : ∃ C, C = w.heap.size + 1 := ⟨_, rfl⟩
  rw [← hC, ← hA] at hbx
  have BX := hid hbx
  have HW1 := hid hw1
  have HA := hid hA
  have HC := hid hC
  clear hw1 hbx hA hC
  unfold scC at HW1
  unfold scC
  go_enter Try.func20, Try.ntmps20
  go_upto_region 1 with fail
  rw [← HW1.out, ← HC.out, ← HA.out]
  clear HW1 HC HA
  have c3 : w1.cell? ⟨A, 2, none⟩ = some (.int .i64 0) := by rw [BX.out.cell 2]; show some (Value.int .i64 s.r.long) = _; rw [HM.out]
  have BZ := BX
  go_wp2_with (refine wpl_storeC rfl _ _ rfl C (.int .i64 0) (.int .i64 0) (.int .i64 0) (.int .i64 0) (.int .i64 0) (.int .i64 0) rfl rfl rfl rfl rfl rfl rfl rfl _ _ rfl BZ.out.c ?_)
  (try simp only [Exit.inBlock, Exit.then])
  refine bodyPost_ret (results_chB rfl _ _ C _ _ _ rfl rfl (setRow_heap _ _ _ _ _ _ BZ.out.c)) rfl ?_
  exact ⟨rfl, below_row BZ.out.b (by have := BZ.out.ca; omega) _⟩
set_option maxRecDepth 100000 in
set_option maxHeartbeats 4000000 in
theorem renew_on (s : ScD) (G : List SX) (L : List LoD) (sv lv : Value) (w : World) (hs : Sc w s G L sv lv) (hm : s.r.long ≠ 0) :
    Calls Try.prog 20 #[.agg (scC s sv lv)] w (RlP w) := by
  have hne : (s.r.long == 0) = false := by simpa using hm
  obtain ⟨⟨va, vc, rfl⟩, ⟨la, lc, rfl⟩⟩ := hs.shape
  have HS := hid hs
  have hGl := hs.small
  have hLG := hid hs.len
  clear hm hs
  generalize hsv : Value.slice va G.length vc = sv at *
  generalize hlv : Value.slice la L.length lc = lv at *
  obtain ⟨w1, hw1⟩ : ∃ w1, w1 = (w.alloc (scB s sv lv)).alloc chB := ⟨_, rfl⟩
  have hbx := bx_two w s sv lv
  rw [← hw1] at hbx
  unfold scB chB at hw1
  obtain ⟨A, hA⟩ : ∃ A, A = w.heap.size := ⟨_, rfl⟩
  obtain ⟨C, hC⟩ : ∃ C, C = w.heap.size + 1 := ⟨_, rfl⟩
  rw [← hC, ← hA] at hbx
  have BX := hid hbx
  have HW1 := hid hw1
  have HA := hid hA
  have HC := hid hC
  clear hw1 hbx hA hC
  unfold scC at HW1
  unfold scC
  have HSV := hid hsv
  have HLV := hid hlv
  clear hsv hlv
  go_enter Try.func20, Try.ntmps20
  go_upto_region 1 with fail
  rw [← HW1.out, ← HC.out, ← HA.out]
  clear HW1 HC HA
  have c2 : w1.cell? ⟨A, 2, none⟩ = some (.int .i64 s.r.long) := by rw [BX.out.cell 2]; rfl
  have c5 : w1.cell? ⟨A, 5, none⟩ = some (.slice va G.length vc) := by rw [BX.out.cell 5, HSV.out]; rfl
  have HS1 := hid (HS.out.below BX.out.b)
  go_wp2_with fail
  clear c2 c5
  go_loopw [4, 5, 14] (fun _ _ iv wr => ∃ i : Nat, iv = .int .i64 i ∧ i ≤ G.length ∧ Below w1.heap.size w1 wr) (fun _ _ iv _ => G.length - (intOf iv).toNat)
  case atStart => exact ⟨0, rfl, Nat.zero_le _, Below.refl _ _⟩
  case round =>
    obtain ⟨i, rfl, hi, hbr⟩ := hrel
    have BR := hid hbr
    have HSR := hid (HS1.out.below hbr)
    clear hbr
    by_cases hlt : (i : Int) < (G.length : Int)
    · have hil : i < G.length := by omega
      have hjl : i < L.length := by have := hLG.out; omega
      have hji : (i : Int) < (L.length : Int) := by omega
      obtain ⟨g, vc', e1⟩ := HSR.out.sh.shape (by omega)
      rw [← HSV.out] at e1
      cases e1
      rw [← HSV.out] at HSR
      rw [← HLV.out] at HSR
      have hRG := HSR.out.sh.range i hil
      obtain ⟨S, ma, mc, pa, pc, hGi⟩ := HSR.out.sh.sl i hil
      have HSM := hid (HSR.out.sh.m _ (List.getElem_mem hil))
      have HSI := hid (HSR.out.id _ (List.getElem_mem hil))
      have HSS := hid (HSR.out.sp _ (List.getElem_mem hil))
      rw [hGi] at hRG HSM HSI HSS
      have HGI := hid hGi
      clear hGi
      unfold SX.c at hRG
      simp only at hRG
      obtain ⟨lg, rfl⟩ := own_some HSR.out.lo (by omega)
      go_upto_region 6 with (refine wpl_loadM rfl _ rfl g (i * 5) (by go_simp) _ _ _ _ _ hRG ?_)
      have hb2 : Below wr.heap.size wr (wr.alloc (.cells #[.int .i64 S.id, .int .i64 S.fr, .int .i64 S.to, .slice ma S.mem.length mc, .slice pa S.past.length pc] 70)) := (Below.refl _ _).alloc (Nat.le_refl _) _
      have hP2 := heap_alloc_new wr (.cells #[.int .i64 S.id, .int .i64 S.fr, .int .i64 S.to, .slice ma S.mem.length mc, .slice pa S.past.length pc] 70)
      have HB2 := hid hb2
      have HP2 := hid hP2
      have HS2 := hid (HSR.out.below hb2)
      have B2 := hid (BR.out.trans (hb2.mono BR.out.size))
      have BZ := hid (BX.out.below B2.out)
      clear hb2 hP2 hRG
      generalize wr.alloc (.cells #[.int .i64 S.id, .int .i64 S.fr, .int .i64 S.to, .slice ma S.mem.length mc, .slice pa S.past.length pc] 70) = w2 at *
      generalize wr.heap.size = SP at *
      have c2 : w2.cell? ⟨A, 2, none⟩ = some (.int .i64 s.r.long) := by rw [BZ.out.cell 2]; rfl
      have c6 : w2.cell? ⟨A, 6, none⟩ = some (.slice (some ⟨lg, 0, none⟩) L.length lc) := by rw [BZ.out.cell 6, HLV.out]; rfl
      have cl : w2.cell? ⟨lg, i * 4 + 2, none⟩ = some (.int .i64 L[i].ins) := lovs_at HS2.out.lo i hjl 2 _ rfl
      have p0 : w2.cell? ⟨SP, 0, none⟩ = some (.int .i64 S.id) := by rw [cell_of_row _ _ _ _ _ _ HP2.out]; rfl
      generalize L[i].ins = n at *
      by_cases hn : s.r.long ≤ n
      · go_quiet (fail)
        go_wp2_with (refine wpl_storeC rfl _ _ rfl C (.int .i64 4) (.int .i64 S.id) (.int .i64 0) (.int .i64 0) (.int .i64 0) (.int .i64 0) rfl rfl rfl rfl rfl rfl rfl rfl _ _ rfl BZ.out.c ?_)
        (try simp only [Exit.inBlock, Exit.then])
        refine bodyPost_ret (results_chB rfl _ _ C _ _ _ rfl rfl (setRow_heap _ _ _ _ _ _ BZ.out.c)) rfl ?_
        exact ⟨⟨4, S.id, 0, 0, 0, 0⟩, true, rfl, ChJ.mk ⟨by decide, by decide⟩ HSI.out i0 i0 i0 i0, (by show (4 : Int) ≠ 5; decide), (fun h => by cases h), below_row (BZ.out.b.trans ((belowN w2 _).mono BZ.out.b.size)) (by have := BZ.out.ca; omega) _⟩
      · have hn2 : n < s.r.long := by omega
        go_quiet (fail)
        go_wp2_with fail
        go_roundw
        case rel => exact ⟨i + 1, by go_num, by omega, B2.out.trans ((belowN w2 _).mono B2.out.size)⟩
        case measure => simp [intOf]; omega
    · have BZ := hid (BX.out.below BR.out)
      go_wp2_with (refine wpl_storeC rfl _ _ rfl C (.int .i64 0) (.int .i64 0) (.int .i64 0) (.int .i64 0) (.int .i64 0) (.int .i64 0) rfl rfl rfl rfl rfl rfl rfl rfl _ _ rfl BZ.out.c ?_)
      (try simp only [Exit.inBlock, Exit.then])
      refine bodyPost_ret (results_chB rfl _ _ C _ _ _ rfl rfl (setRow_heap _ _ _ _ _ _ BZ.out.c)) rfl ?_
      exact NoP.rl ⟨rfl, below_row BZ.out.b (by have := BZ.out.ca; omega) _⟩
theorem renew_any (s : ScD) (G : List SX) (L : List LoD) (sv lv : Value) (w : World) (hs : Sc w s G L sv lv) :
    Calls Try.prog 20 #[.agg (scC s sv lv)] w (RlP w) := by
  by_cases h : s.r.long = 0
  · exact (renew_off s sv lv w h).mono fun e w' h => h.rl
  · exact renew_on s G L sv lv w hs h
end Go.Proofs.Ytkggeiljalfcpaa
namespace Go.Proofs.Ytkggeiljalfcpaa
open Go.RowKit Go.Maps Go.Shelf
set_option linter.unusedVariables false
set_option linter.unusedSimpArgs false

set_option maxRecDepth 100000 in
set_option maxHeartbeats 2000000 in
theorem merge_off (s : ScD) (sv lv : Value) (w : World) (hm : s.r.cold = 0) :
    Calls Try.prog 22 #[.agg (scC s sv lv)] w (NoP w) := by
  have HM := hid hm
  clear hm
  obtain ⟨w1, hw1⟩ : ∃ w1, w1 = (w.alloc (scB s sv lv)).alloc chB := ⟨_, rfl⟩
  have hbx := bx_two w s sv lv
  rw [← hw1] at hbx
  unfold scB chB at hw1
  obtain ⟨A, hA⟩ : ∃ A, A = w.heap.size := ⟨_, rfl⟩
  obtain ⟨C, hC⟩ : ∃ C, C = w.heap.size + 1 := ⟨_, rfl⟩
  rw [← hC, ← hA] at hbx
  have BX := hid hbx
  have HW1 := hid hw1
  have HA := hid hA
  have HC := hid hC
  clear hw1 hbx hA hC
  unfold scC at HW1
  unfold scC
  go_enter Try.func22, Try.ntmps22
  go_upto_region 1 with fail
  rw [← HW1.out, ← HC.out, ← HA.out]
  clear HW1 HC HA
  have c3 : w1.cell? ⟨A, 1, none⟩ = some (.int .i64 0) := by rw [BX.out.cell 1]; show some (Value.int .i64 s.r.cold) = _; rw [HM.out]
  have BZ := BX
  go_wp2_with (refine wpl_storeC rfl _ _ rfl C (.int .i64 0) (.int .i64 0) (.int .i64 0) (.int .i64 0) (.int .i64 0) (.int .i64 0) rfl rfl rfl rfl rfl rfl rfl rfl _ _ rfl BZ.out.c ?_)
  (try simp only [Exit.inBlock, Exit.then])
  refine bodyPost_ret (results_chB rfl _ _ C _ _ _ rfl rfl (setRow_heap _ _ _ _ _ _ BZ.out.c)) rfl ?_
  exact ⟨rfl, below_row BZ.out.b (by have := BZ.out.ca; omega) _⟩
set_option maxRecDepth 100000 in
set_option maxHeartbeats 4000000 in
theorem merge_on (s : ScD) (G : List SX) (L : List LoD) (sv lv : Value) (w : World) (hs : Sc w s G L sv lv) (hm : s.r.cold ≠ 0) :
    Calls Try.prog 22 #[.agg (scC s sv lv)] w (RlP w) := by
  have hne : (s.r.cold == 0) = false := by simpa using hm
  obtain ⟨⟨va, vc, rfl⟩, ⟨la, lc, rfl⟩⟩ := hs.shape
  have HS := hid hs
  have hGl := hs.small
  have hLG := hid hs.len
  clear hm hs
  generalize hsv : Value.slice va G.length vc = sv at *
  generalize hlv : Value.slice la L.length lc = lv at *
  obtain ⟨w1, hw1⟩ : ∃ w1, w1 = (w.alloc (scB s sv lv)).alloc chB := ⟨_, rfl⟩
  have hbx := bx_two w s sv lv
  rw [← hw1] at hbx
  unfold scB chB at hw1
  obtain ⟨A, hA⟩ : ∃ A, A = w.heap.size := ⟨_, rfl⟩
  obtain ⟨C, hC⟩ : ∃ C, C = w.heap.size + 1 := ⟨_, rfl⟩
  rw [← hC, ← hA] at hbx
  have BX := hid hbx
  have HW1 := hid hw1
  have HA := hid hA
  have HC := hid hC
  clear hw1 hbx hA hC
  unfold scC at HW1
  unfold scC
  have HSV := hid hsv
  have HLV := hid hlv
  clear hsv hlv
  go_enter Try.func22, Try.ntmps22
  go_upto_region 1 with fail
  rw [← HW1.out, ← HC.out, ← HA.out]
  clear HW1 HC HA
  have c2 : w1.cell? ⟨A, 1, none⟩ = some (.int .i64 s.r.cold) := by rw [BX.out.cell 1]; rfl
  have c5 : w1.cell? ⟨A, 5, none⟩ = some (.slice va G.length vc) := by rw [BX.out.cell 5, HSV.out]; rfl
  have HS1 := hid (HS.out.below BX.out.b)
  have hw1' : IntKind.i64.wrap ((G.length : Int) - 1) = (G.length : Int) - 1 := IntWalk.i64_in _ ⟨by omega, by omega⟩
  go_wp2_with fail
  clear c2 c5
  go_loopw [4, 5, 6, 16] (fun _ _ _ iv wr => ∃ i : Nat, iv = .int .i64 i ∧ i ≤ G.length ∧ Below w1.heap.size w1 wr) (fun _ _ _ iv _ => G.length - (intOf iv).toNat)
  case atStart => exact ⟨0, rfl, Nat.zero_le _, Below.refl _ _⟩
  case round =>
    obtain ⟨i, rfl, hi, hbr⟩ := hrel
    have BR := hid hbr
    have HSR := hid (HS1.out.below hbr)
    clear hbr
    by_cases hlt : (i : Int) < (G.length : Int) - 1
    · have hil : i < G.length := by omega
      have hil2 : i + 1 < G.length := by omega
      have hI1 : (i : Int) < (G.length : Int) := by omega
      have hI2 : (i : Int) + 1 < (G.length : Int) := by omega
      have hwi : IntKind.i64.wrap ((i : Int) + 1) = (i : Int) + 1 := IntWalk.i64_in _ ⟨by omega, by omega⟩
      have h0i : (0 : Int) ≤ (i : Int) + 1 := by omega
      obtain ⟨g, vc', e1⟩ := HSR.out.sh.shape (by omega)
      rw [← HSV.out] at e1
      cases e1
      rw [← HSV.out] at HSR
      rw [← HLV.out] at HSR
      have c5 : wr.cell? ⟨A, 5, none⟩ = some (.slice (some ⟨g, 0, none⟩) G.length vc) := by rw [(BX.out.below BR.out).cell 5, HSV.out]; rfl
      obtain ⟨S, ma, mc, pa, pc, hGi⟩ := HSR.out.sh.sl i hil
      obtain ⟨U, na, nc, qa, qc, hGj⟩ := HSR.out.sh.sl (i + 1) hil2
      have hR1 := HSR.out.sh.range i hil
      have hR2 := HSR.out.sh.range (i + 1) hil2
      rw [hGi] at hR1
      rw [hGj] at hR2
      unfold SX.c at hR1 hR2
      simp only at hR1 hR2
      have SB : Hid (∀ Y, Below wr.heap.size wr Y → Y.cell? ⟨A, 5, none⟩ = some (.slice (some ⟨g, 0, none⟩) G.length vc) ∧ Y.rangeAt g (i * 5) [.int .i64 S.id, .int .i64 S.fr, .int .i64 S.to, .slice ma S.mem.length mc, .slice pa S.past.length pc] ∧ Y.rangeAt g ((i + 1) * 5) [.int .i64 U.id, .int .i64 U.fr, .int .i64 U.to, .slice na U.mem.length nc, .slice qa U.past.length qc]) := hid fun Y hY => ⟨cell_later hY c5, fun j v hv => cell_later hY (hR1 j v hv), fun j v hv => cell_later hY (hR2 j v hv)⟩
      have HGI := hid hGi
      have HGJ := hid hGj
      obtain ⟨dS, hdS1, hdS2⟩ := Try.rowSh
      clear c5 hR1 hR2 hGi hGj
      go_upto_region 6 with fail
      refine wp_region_held_drew (S := fun Y => Y.cell? ⟨A, 5, none⟩ = some (.slice (some ⟨g, 0, none⟩) G.length vc) ∧ Y.rangeAt g (i * 5) [.int .i64 S.id, .int .i64 S.fr, .int .i64 S.to, .slice ma S.mem.length mc, .slice pa S.past.length pc] ∧ Y.rangeAt g ((i + 1) * 5) [.int .i64 U.id, .int .i64 U.fr, .int .i64 U.to, .slice na U.mem.length nc, .slice qa U.past.length qc]) (by kernel_rfl) (SB.out _ ((Below.refl _ _).drew)) (fun hHeld => ?_)
      refine wpAnyH_take (i := 0) (v := ?pv0) rfl (by kernel_rfl) (by kernel_rfl) (by kernel_rfl) (fun _ _ _ h => h) (Or.inl ⟨by rfl, ?py0⟩) (by assumption) ?pr0
      case py0 => (intro w hSw; (try dsimp only at hSw); go_simp; try with_reducible rfl)
      (try simp only [Act.put, putS])
      refine wpAnyH_take (i := 1) (v := ?pv1) rfl (by kernel_rfl) (by kernel_rfl) (by kernel_rfl) (fun _ _ _ h => h) (Or.inl ⟨by rfl, ?py1⟩) (by assumption) ?pr1
      case py1 => (intro w hSw; (try dsimp only at hSw); go_simp; try with_reducible rfl)
      (try simp only [Act.put, putS])
      refine wpAnyH_take (i := 2) (v := ?pv2) rfl (by kernel_rfl) (by kernel_rfl) (by kernel_rfl) (fun _ _ _ h => h) (Or.inl ⟨by rfl, ?py2⟩) (by assumption) ?pr2
      case py2 => (intro w hSw; (try dsimp only at hSw); go_simp; try with_reducible rfl)
      (try simp only [Act.put, putS])
      refine wpAnyH_take (i := 3) (v := ?pv3) rfl (by kernel_rfl) (by kernel_rfl) (by kernel_rfl) (fun _ _ _ h => h) (Or.inl ⟨by rfl, ?py3⟩) (by assumption) ?pr3
      case py3 => (intro w hSw; (try dsimp only at hSw); go_simp; try with_reducible rfl)
      (try simp only [Act.put, putS])
      refine wpAnyH_take (i := 4) (v := .agg #[.int .i64 S.id, .int .i64 S.fr, .int .i64 S.to, .slice ma S.mem.length mc, .slice pa S.past.length pc]) rfl (by kernel_rfl) (by kernel_rfl) (by kernel_rfl) (fun _ _ _ h => h) (yieldsIf_load_mid rfl _ _ rfl g (i * 5) (by go_simp) [.int .i64 S.id, .int .i64 S.fr, .int .i64 S.to, .slice ma S.mem.length mc, .slice pa S.past.length pc] dS (fun Y hY => hY.2.1) hdS1 hdS2 Try.sizeSh) (by assumption) ?_
      (try simp only [Act.put, putS])
      refine wpAnyH_take (i := 5) (v := ?qv5) rfl (by kernel_rfl) (by kernel_rfl) (by kernel_rfl) (fun _ _ _ h => h) (Or.inl ⟨by rfl, ?qy5⟩) (by assumption) ?qr5
      case qy5 => (intro w hSw; (try dsimp only at hSw); go_simp; try with_reducible rfl)
      (try simp only [Act.put, putS])
      refine wpAnyH_take (i := 6) (v := ?qv6) rfl (by kernel_rfl) (by kernel_rfl) (by kernel_rfl) (fun _ _ _ h => h) (Or.inl ⟨by rfl, ?qy6⟩) (by assumption) ?qr6
      case qy6 => (intro w hSw; (try dsimp only at hSw); go_simp; try with_reducible rfl)
      (try simp only [Act.put, putS])
      refine wpAnyH_take (i := 7) (v := ?qv7) rfl (by kernel_rfl) (by kernel_rfl) (by kernel_rfl) (fun _ _ _ h => h) (Or.inl ⟨by rfl, ?qy7⟩) (by assumption) ?qr7
      case qy7 => (intro w hSw; (try dsimp only at hSw); go_simp; try with_reducible rfl)
      (try simp only [Act.put, putS])
      refine wpAnyH_take (i := 8) (v := ?qv8) rfl (by kernel_rfl) (by kernel_rfl) (by kernel_rfl) (fun _ _ _ h => h) (Or.inl ⟨by rfl, ?qy8⟩) (by assumption) ?qr8
      case qy8 => (intro w hSw; (try dsimp only at hSw); go_simp; try with_reducible rfl)
      (try simp only [Act.put, putS])
      refine wpAnyH_take (i := 9) (v := ?qv9) rfl (by kernel_rfl) (by kernel_rfl) (by kernel_rfl) (fun _ _ _ h => h) (Or.inl ⟨by rfl, ?qy9⟩) (by assumption) ?qr9
      case qy9 => (intro w hSw; (try dsimp only at hSw); go_simp; try with_reducible rfl)
      (try simp only [Act.put, putS])
      refine wpAnyH_take (i := 10) (v := .agg #[.int .i64 U.id, .int .i64 U.fr, .int .i64 U.to, .slice na U.mem.length nc, .slice qa U.past.length qc]) rfl (by kernel_rfl) (by kernel_rfl) (by kernel_rfl) (fun _ _ _ h => h) (yieldsIf_load_mid rfl _ _ rfl g ((i + 1) * 5) (by go_simp) [.int .i64 U.id, .int .i64 U.fr, .int .i64 U.to, .slice na U.mem.length nc, .slice qa U.past.length qc] dS (fun Y hY => hY.2.2) hdS1 hdS2 Try.sizeSh) (by assumption) ?_
      (try simp only [Act.put, putS])
      refine wpAnyH_ready (rs := [11, 12]) (by kernel_rfl) (by simp) ?_
      refine AllReadyH.cons rfl (fun K hK => ?_) (AllReadyH.cons rfl (fun K hK => ?_) AllReadyH.nil)
      · rw [if_pos (by rfl)]
        go_simp
        refine hK.out _ _ (SB.out _ (((Below.refl _ _).drew).alloc (by simp) _)) (fun hHeld => ?_)
        clear hK K
        (try simp only [Act.put, putS])
        refine wpAnyH_ready (rs := [12]) (by kernel_rfl) (by simp) ?_
        refine AllReadyH.cons rfl (fun K hK => ?_) AllReadyH.nil
        rw [if_pos (by rfl)]
        go_simp
        refine hK.out _ _ (SB.out _ ((((Below.refl _ _).drew).alloc (by simp) _).alloc (by simp) _)) (fun hHeld => ?_)
        clear hK K
        (try simp only [Act.put, putS])
        obtain ⟨w2, hw2⟩ : ∃ w2, w2 = ((wr.alloc (.cells #[.int .i64 0, .int .i64 0, .int .i64 0, .slice none 0 0, .slice none 0 0] 70)).alloc (.cells #[.int .i64 0, .int .i64 0, .int .i64 0, .slice none 0 0, .slice none 0 0] 70)).drew := ⟨_, rfl⟩
        obtain ⟨hz1, hz2⟩ := heap_two wr (.cells #[.int .i64 0, .int .i64 0, .int .i64 0, .slice none 0 0, .slice none 0 0] 70) (.cells #[.int .i64 0, .int .i64 0, .int .i64 0, .slice none 0 0, .slice none 0 0] 70)
        have HB2 : Hid (Below wr.heap.size wr w2) := hid (by rw [hw2]; exact (((Below.refl _ _).alloc (Nat.le_refl _) _).alloc (by simp) _).drew)
        rw [← hw2]
        obtain ⟨P6, hPx⟩ : ∃ P, P = wr.heap.size + 1 := ⟨_, rfl⟩
        rw [← hPx]
        rw [← hPx] at hz2
        obtain ⟨P5, hPy⟩ : ∃ P, P = wr.heap.size := ⟨_, rfl⟩
        rw [← hPy]
        rw [← hPy] at hz1
        have HP5 : Hid (w2.heap[P5]? = some (.cells #[.int .i64 0, .int .i64 0, .int .i64 0, .slice none 0 0, .slice none 0 0] 70 (0, 0))) := hid (by rw [hw2]; exact hz1)
        have HP6 : Hid (w2.heap[P6]? = some (.cells #[.int .i64 0, .int .i64 0, .int .i64 0, .slice none 0 0, .slice none 0 0] 70 (0, 0))) := hid (by rw [hw2]; exact hz2)
        have HPP : Hid (P5 ≠ P6) := hid (by omega)
        have HL5 : Hid (wr.heap.size ≤ P5) := hid (by omega)
        have HL6 : Hid (wr.heap.size ≤ P6) := hid (by omega)
        clear hz1 hz2 hPx hPy hw2
        refine wpAnyH_ready (rs := [13]) (by kernel_rfl) (by simp) ?_
        refine AllReadyH.cons rfl (fun K hK => ?_) AllReadyH.nil
        rw [if_pos (by rfl)]
        refine wp_store_row _ _ _ rfl P5 #[.int .i64 S.id, .int .i64 S.fr, .int .i64 S.to, .slice ma S.mem.length mc, .slice pa S.past.length pc] rfl rfl _ _ HP5.out Try.sizeSh rfl (by simp [Value.oneCell']) ?_
        have HQ5 := hid (setRow_heap _ _ _ #[.int .i64 S.id, .int .i64 S.fr, .int .i64 S.to, .slice ma S.mem.length mc, .slice pa S.past.length pc] _ _ HP5.out)
        have HQ6 := hid ((setRow_other w2 P5 P6 #[.int .i64 S.id, .int .i64 S.fr, .int .i64 S.to, .slice ma S.mem.length mc, .slice pa S.past.length pc] HPP.out.symm).trans HP6.out)
        have B3 := hid (below_row HB2.out HL5.out #[.int .i64 S.id, .int .i64 S.fr, .int .i64 S.to, .slice ma S.mem.length mc, .slice pa S.past.length pc])
        refine hK.out _ _ (SB.out _ B3.out) (fun hHeld => ?_)
        clear hK K
        (try simp only [Act.put, putS])
        generalize w2.setRow P5 #[.int .i64 S.id, .int .i64 S.fr, .int .i64 S.to, .slice ma S.mem.length mc, .slice pa S.past.length pc] = w3 at *
        refine wpAnyH_ready (rs := [14]) (by kernel_rfl) (by simp) ?_
        refine AllReadyH.cons rfl (fun K hK => ?_) AllReadyH.nil
        rw [if_pos (by rfl)]
        refine wp_store_row _ _ _ rfl P6 #[.int .i64 U.id, .int .i64 U.fr, .int .i64 U.to, .slice na U.mem.length nc, .slice qa U.past.length qc] rfl rfl _ _ HQ6.out Try.sizeSh rfl (by simp [Value.oneCell']) ?_
        have HR6 := hid (setRow_heap _ _ _ #[.int .i64 U.id, .int .i64 U.fr, .int .i64 U.to, .slice na U.mem.length nc, .slice qa U.past.length qc] _ _ HQ6.out)
        have HR5 := hid ((setRow_other w3 P6 P5 #[.int .i64 U.id, .int .i64 U.fr, .int .i64 U.to, .slice na U.mem.length nc, .slice qa U.past.length qc] HPP.out).trans HQ5.out)
        have B4 := hid (below_row B3.out HL6.out #[.int .i64 U.id, .int .i64 U.fr, .int .i64 U.to, .slice na U.mem.length nc, .slice qa U.past.length qc])
        refine hK.out _ _ (SB.out _ B4.out) (fun hHeld => ?_)
        clear hK K hHeld
        (try simp only [Act.put, putS])
        generalize w3.setRow P6 #[.int .i64 U.id, .int .i64 U.fr, .int .i64 U.to, .slice na U.mem.length nc, .slice qa U.past.length qc] = w4 at *
        refine wpAnyH_done (by kernel_rfl) ?_ _
        have B5 := hid (BR.out.trans (B4.out.mono BR.out.size))
        have BZ := hid (BX.out.below B5.out)
        have HS4 := hid (HSR.out.below B4.out)
        have HSM := HSR.out.sh.m _ (List.getElem_mem hil)
        have HUM := HSR.out.sh.m _ (List.getElem_mem hil2)
        rw [HGI.out] at HSM
        rw [HGJ.out] at HUM
        have HNS := hid ((nums_own HSM.m rfl).below B4.out)
        have HNU := hid ((nums_own HUM.m rfl).below B4.out)
        have HI5 := HSR.out.id _ (List.getElem_mem hil)
        have HI6 := HSR.out.id _ (List.getElem_mem hil2)
        rw [HGI.out] at HI5
        rw [HGJ.out] at HI6
        have HIS := hid HI5
        have HIU := hid HI6
        clear HSM HUM HI5 HI6
        simp only at HNS HNU HIS HIU
        have hjl : i < L.length := by have := hLG.out; omega
        have hjl2 : i + 1 < L.length := by have := hLG.out; omega
        have hJ1 : (i : Int) < (L.length : Int) := by omega
        have hJ2 : (i : Int) + 1 < (L.length : Int) := by omega
        obtain ⟨lg, rfl⟩ := own_some HS4.out.lo (by omega)
        have c1 : w4.cell? ⟨A, 1, none⟩ = some (.int .i64 s.r.cold) := by rw [BZ.out.cell 1]; rfl
        have c6 : w4.cell? ⟨A, 6, none⟩ = some (.slice (some ⟨lg, 0, none⟩) L.length lc) := by rw [BZ.out.cell 6, HLV.out]; rfl
        have cl1 : w4.cell? ⟨lg, i * 4 + 1, none⟩ = some (.int .i64 L[i].cm) := lovs_at HS4.out.lo i hjl 1 _ rfl
        have cl2 : w4.cell? ⟨lg, (i + 1) * 4 + 1, none⟩ = some (.int .i64 L[i + 1].cm) := lovs_at HS4.out.lo (i + 1) hjl2 1 _ rfl
        have p50 : w4.cell? ⟨P5, 0, none⟩ = some (.int .i64 S.id) := by rw [cell_of_row _ _ _ _ _ _ HR5.out]; rfl
        have p53 : w4.cell? ⟨P5, 3, none⟩ = some (.slice ma S.mem.length mc) := by rw [cell_of_row _ _ _ _ _ _ HR5.out]; rfl
        have p60 : w4.cell? ⟨P6, 0, none⟩ = some (.int .i64 U.id) := by rw [cell_of_row _ _ _ _ _ _ HR6.out]; rfl
        have p63 : w4.cell? ⟨P6, 3, none⟩ = some (.slice na U.mem.length nc) := by rw [cell_of_row _ _ _ _ _ _ HR6.out]; rfl
        generalize L[i].cm = x at *
        generalize L[i + 1].cm = y at *
        have HEQ : Hid (∀ W, Nums W (.slice ma S.mem.length mc) S.mem → Nums W (.slice na U.mem.length nc) U.mem → Calls Try.prog 49 #[.slice ma S.mem.length mc, .slice na U.mem.length nc] W fun e w' => e = .returned (.bool (eqN S.mem U.mem)) ∧ ∃ m, w' = W.drewN m) := hid fun W h1 h2 => equalN_any S.mem U.mem _ _ W h1 h2
        have HCO : Hid (∀ W, Calls Try.prog 50 #[.int .i64 x, .int .i64 y, .int .i64 s.r.cold] W fun e w' => e = .returned (.bool (coldB x y s.r.cold)) ∧ w' = W) := hid fun W => cold_any x y s.r.cold W
        cases hq : eqN S.mem U.mem with
        | false =>
          rw [hq] at HEQ
          clear hq
          go_upto_region 7 with fail
          go_quiet (first | (go_at_call 49; exact Calls.quiet_of (HEQ.out _ (by first | exact HNS.out | exact HNS.out.below (belowN _ _)) (by first | exact HNU.out | exact HNU.out.below (belowN _ _)))) | (go_at_call 50; exact Calls.quiet_of_same (HCO.out _)))
          go_wp2_with fail
          go_roundw
          case rel => exact ⟨i + 1, by go_num, by omega, B5.out.trans ((belowN w4 _).mono B5.out.size)⟩
          case measure => simp [intOf]; omega
        | true =>
          rw [hq] at HEQ
          clear hq
          cases hc : coldB x y s.r.cold with
          | false =>
            rw [hc] at HCO
            clear hc
            go_upto_region 7 with fail
            go_quiet (first | (go_at_call 49; exact Calls.quiet_of (HEQ.out _ (by first | exact HNS.out | exact HNS.out.below (belowN _ _)) (by first | exact HNU.out | exact HNU.out.below (belowN _ _)))) | (go_at_call 50; exact Calls.quiet_of_same (HCO.out _)))
            go_wp2_with fail
            go_roundw
            case rel => exact ⟨i + 1, by go_num, by omega, B5.out.trans ((belowN w4 _).mono B5.out.size)⟩
            case measure => simp [intOf]; omega
          | true =>
            rw [hc] at HCO
            clear hc
            go_upto_region 7 with fail
            go_quiet (first | (go_at_call 49; exact Calls.quiet_of (HEQ.out _ (by first | exact HNS.out | exact HNS.out.below (belowN _ _)) (by first | exact HNU.out | exact HNU.out.below (belowN _ _)))) | (go_at_call 50; exact Calls.quiet_of_same (HCO.out _)))
            go_wp2_with (refine wpl_storeC rfl _ _ rfl C (.int .i64 2) (.int .i64 S.id) (.int .i64 U.id) (.int .i64 0) (.int .i64 0) (.int .i64 0) rfl rfl rfl rfl rfl rfl rfl rfl _ _ rfl BZ.out.c ?_)
            (try simp only [Exit.inBlock, Exit.then])
            refine bodyPost_ret (results_chB rfl _ _ C _ _ _ rfl rfl (setRow_heap _ _ _ _ _ _ BZ.out.c)) rfl ?_
            exact ⟨⟨2, S.id, U.id, 0, 0, 0⟩, true, rfl, ChJ.mk ⟨by decide, by decide⟩ HIS.out HIU.out i0 i0 i0, (by show (2 : Int) ≠ 5; decide), (fun h => by cases h), below_row (BZ.out.b.trans ((belowN w4 _).mono BZ.out.b.size)) (by have := BZ.out.ca; omega) _⟩
      · rw [if_pos (by rfl)]
        go_simp
        refine hK.out _ _ (SB.out _ (((Below.refl _ _).drew).alloc (by simp) _)) (fun hHeld => ?_)
        clear hK K
        (try simp only [Act.put, putS])
        refine wpAnyH_ready (rs := [11]) (by kernel_rfl) (by simp) ?_
        refine AllReadyH.cons rfl (fun K hK => ?_) AllReadyH.nil
        rw [if_pos (by rfl)]
        go_simp
        refine hK.out _ _ (SB.out _ ((((Below.refl _ _).drew).alloc (by simp) _).alloc (by simp) _)) (fun hHeld => ?_)
        clear hK K
        (try simp only [Act.put, putS])
        obtain ⟨w2, hw2⟩ : ∃ w2, w2 = ((wr.alloc (.cells #[.int .i64 0, .int .i64 0, .int .i64 0, .slice none 0 0, .slice none 0 0] 70)).alloc (.cells #[.int .i64 0, .int .i64 0, .int .i64 0, .slice none 0 0, .slice none 0 0] 70)).drew := ⟨_, rfl⟩
        obtain ⟨hz1, hz2⟩ := heap_two wr (.cells #[.int .i64 0, .int .i64 0, .int .i64 0, .slice none 0 0, .slice none 0 0] 70) (.cells #[.int .i64 0, .int .i64 0, .int .i64 0, .slice none 0 0, .slice none 0 0] 70)
        have HB2 : Hid (Below wr.heap.size wr w2) := hid (by rw [hw2]; exact (((Below.refl _ _).alloc (Nat.le_refl _) _).alloc (by simp) _).drew)
        rw [← hw2]
        obtain ⟨P5, hPx⟩ : ∃ P, P = wr.heap.size + 1 := ⟨_, rfl⟩
        rw [← hPx]
        rw [← hPx] at hz2
        obtain ⟨P6, hPy⟩ : ∃ P, P = wr.heap.size := ⟨_, rfl⟩
        rw [← hPy]
        rw [← hPy] at hz1
        have HP6 : Hid (w2.heap[P6]? = some (.cells #[.int .i64 0, .int .i64 0, .int .i64 0, .slice none 0 0, .slice none 0 0] 70 (0, 0))) := hid (by rw [hw2]; exact hz1)
        have HP5 : Hid (w2.heap[P5]? = some (.cells #[.int .i64 0, .int .i64 0, .int .i64 0, .slice none 0 0, .slice none 0 0] 70 (0, 0))) := hid (by rw [hw2]; exact hz2)
        have HPP : Hid (P5 ≠ P6) := hid (by omega)
        have HL5 : Hid (wr.heap.size ≤ P5) := hid (by omega)
        have HL6 : Hid (wr.heap.size ≤ P6) := hid (by omega)
        clear hz1 hz2 hPx hPy hw2
        refine wpAnyH_ready (rs := [13]) (by kernel_rfl) (by simp) ?_
        refine AllReadyH.cons rfl (fun K hK => ?_) AllReadyH.nil
        rw [if_pos (by rfl)]
        refine wp_store_row _ _ _ rfl P5 #[.int .i64 S.id, .int .i64 S.fr, .int .i64 S.to, .slice ma S.mem.length mc, .slice pa S.past.length pc] rfl rfl _ _ HP5.out Try.sizeSh rfl (by simp [Value.oneCell']) ?_
        have HQ5 := hid (setRow_heap _ _ _ #[.int .i64 S.id, .int .i64 S.fr, .int .i64 S.to, .slice ma S.mem.length mc, .slice pa S.past.length pc] _ _ HP5.out)
        have HQ6 := hid ((setRow_other w2 P5 P6 #[.int .i64 S.id, .int .i64 S.fr, .int .i64 S.to, .slice ma S.mem.length mc, .slice pa S.past.length pc] HPP.out.symm).trans HP6.out)
        have B3 := hid (below_row HB2.out HL5.out #[.int .i64 S.id, .int .i64 S.fr, .int .i64 S.to, .slice ma S.mem.length mc, .slice pa S.past.length pc])
        refine hK.out _ _ (SB.out _ B3.out) (fun hHeld => ?_)
        clear hK K
        (try simp only [Act.put, putS])
        generalize w2.setRow P5 #[.int .i64 S.id, .int .i64 S.fr, .int .i64 S.to, .slice ma S.mem.length mc, .slice pa S.past.length pc] = w3 at *
        refine wpAnyH_ready (rs := [14]) (by kernel_rfl) (by simp) ?_
        refine AllReadyH.cons rfl (fun K hK => ?_) AllReadyH.nil
        rw [if_pos (by rfl)]
        refine wp_store_row _ _ _ rfl P6 #[.int .i64 U.id, .int .i64 U.fr, .int .i64 U.to, .slice na U.mem.length nc, .slice qa U.past.length qc] rfl rfl _ _ HQ6.out Try.sizeSh rfl (by simp [Value.oneCell']) ?_
        have HR6 := hid (setRow_heap _ _ _ #[.int .i64 U.id, .int .i64 U.fr, .int .i64 U.to, .slice na U.mem.length nc, .slice qa U.past.length qc] _ _ HQ6.out)
        have HR5 := hid ((setRow_other w3 P6 P5 #[.int .i64 U.id, .int .i64 U.fr, .int .i64 U.to, .slice na U.mem.length nc, .slice qa U.past.length qc] HPP.out).trans HQ5.out)
        have B4 := hid (below_row B3.out HL6.out #[.int .i64 U.id, .int .i64 U.fr, .int .i64 U.to, .slice na U.mem.length nc, .slice qa U.past.length qc])
        refine hK.out _ _ (SB.out _ B4.out) (fun hHeld => ?_)
        clear hK K hHeld
        (try simp only [Act.put, putS])
        generalize w3.setRow P6 #[.int .i64 U.id, .int .i64 U.fr, .int .i64 U.to, .slice na U.mem.length nc, .slice qa U.past.length qc] = w4 at *
        refine wpAnyH_done (by kernel_rfl) ?_ _
        have B5 := hid (BR.out.trans (B4.out.mono BR.out.size))
        have BZ := hid (BX.out.below B5.out)
        have HS4 := hid (HSR.out.below B4.out)
        have HSM := HSR.out.sh.m _ (List.getElem_mem hil)
        have HUM := HSR.out.sh.m _ (List.getElem_mem hil2)
        rw [HGI.out] at HSM
        rw [HGJ.out] at HUM
        have HNS := hid ((nums_own HSM.m rfl).below B4.out)
        have HNU := hid ((nums_own HUM.m rfl).below B4.out)
        have HI5 := HSR.out.id _ (List.getElem_mem hil)
        have HI6 := HSR.out.id _ (List.getElem_mem hil2)
        rw [HGI.out] at HI5
        rw [HGJ.out] at HI6
        have HIS := hid HI5
        have HIU := hid HI6
        clear HSM HUM HI5 HI6
        simp only at HNS HNU HIS HIU
        have hjl : i < L.length := by have := hLG.out; omega
        have hjl2 : i + 1 < L.length := by have := hLG.out; omega
        have hJ1 : (i : Int) < (L.length : Int) := by omega
        have hJ2 : (i : Int) + 1 < (L.length : Int) := by omega
        obtain ⟨lg, rfl⟩ := own_some HS4.out.lo (by omega)
        have c1 : w4.cell? ⟨A, 1, none⟩ = some (.int .i64 s.r.cold) := by rw [BZ.out.cell 1]; rfl
        have c6 : w4.cell? ⟨A, 6, none⟩ = some (.slice (some ⟨lg, 0, none⟩) L.length lc) := by rw [BZ.out.cell 6, HLV.out]; rfl
        have cl1 : w4.cell? ⟨lg, i * 4 + 1, none⟩ = some (.int .i64 L[i].cm) := lovs_at HS4.out.lo i hjl 1 _ rfl
        have cl2 : w4.cell? ⟨lg, (i + 1) * 4 + 1, none⟩ = some (.int .i64 L[i + 1].cm) := lovs_at HS4.out.lo (i + 1) hjl2 1 _ rfl
        have p50 : w4.cell? ⟨P5, 0, none⟩ = some (.int .i64 S.id) := by rw [cell_of_row _ _ _ _ _ _ HR5.out]; rfl
        have p53 : w4.cell? ⟨P5, 3, none⟩ = some (.slice ma S.mem.length mc) := by rw [cell_of_row _ _ _ _ _ _ HR5.out]; rfl
        have p60 : w4.cell? ⟨P6, 0, none⟩ = some (.int .i64 U.id) := by rw [cell_of_row _ _ _ _ _ _ HR6.out]; rfl
        have p63 : w4.cell? ⟨P6, 3, none⟩ = some (.slice na U.mem.length nc) := by rw [cell_of_row _ _ _ _ _ _ HR6.out]; rfl
        generalize L[i].cm = x at *
        generalize L[i + 1].cm = y at *
        have HEQ : Hid (∀ W, Nums W (.slice ma S.mem.length mc) S.mem → Nums W (.slice na U.mem.length nc) U.mem → Calls Try.prog 49 #[.slice ma S.mem.length mc, .slice na U.mem.length nc] W fun e w' => e = .returned (.bool (eqN S.mem U.mem)) ∧ ∃ m, w' = W.drewN m) := hid fun W h1 h2 => equalN_any S.mem U.mem _ _ W h1 h2
        have HCO : Hid (∀ W, Calls Try.prog 50 #[.int .i64 x, .int .i64 y, .int .i64 s.r.cold] W fun e w' => e = .returned (.bool (coldB x y s.r.cold)) ∧ w' = W) := hid fun W => cold_any x y s.r.cold W
        cases hq : eqN S.mem U.mem with
        | false =>
          rw [hq] at HEQ
          clear hq
          go_upto_region 7 with fail
          go_quiet (first | (go_at_call 49; exact Calls.quiet_of (HEQ.out _ (by first | exact HNS.out | exact HNS.out.below (belowN _ _)) (by first | exact HNU.out | exact HNU.out.below (belowN _ _)))) | (go_at_call 50; exact Calls.quiet_of_same (HCO.out _)))
          go_wp2_with fail
          go_roundw
          case rel => exact ⟨i + 1, by go_num, by omega, B5.out.trans ((belowN w4 _).mono B5.out.size)⟩
          case measure => simp [intOf]; omega
        | true =>
          rw [hq] at HEQ
          clear hq
          cases hc : coldB x y s.r.cold with
          | false =>
            rw [hc] at HCO
            clear hc
            go_upto_region 7 with fail
            go_quiet (first | (go_at_call 49; exact Calls.quiet_of (HEQ.out _ (by first | exact HNS.out | exact HNS.out.below (belowN _ _)) (by first | exact HNU.out | exact HNU.out.below (belowN _ _)))) | (go_at_call 50; exact Calls.quiet_of_same (HCO.out _)))
            go_wp2_with fail
            go_roundw
            case rel => exact ⟨i + 1, by go_num, by omega, B5.out.trans ((belowN w4 _).mono B5.out.size)⟩
            case measure => simp [intOf]; omega
          | true =>
            rw [hc] at HCO
            clear hc
            go_upto_region 7 with fail
            go_quiet (first | (go_at_call 49; exact Calls.quiet_of (HEQ.out _ (by first | exact HNS.out | exact HNS.out.below (belowN _ _)) (by first | exact HNU.out | exact HNU.out.below (belowN _ _)))) | (go_at_call 50; exact Calls.quiet_of_same (HCO.out _)))
            go_wp2_with (refine wpl_storeC rfl _ _ rfl C (.int .i64 2) (.int .i64 S.id) (.int .i64 U.id) (.int .i64 0) (.int .i64 0) (.int .i64 0) rfl rfl rfl rfl rfl rfl rfl rfl _ _ rfl BZ.out.c ?_)
            (try simp only [Exit.inBlock, Exit.then])
            refine bodyPost_ret (results_chB rfl _ _ C _ _ _ rfl rfl (setRow_heap _ _ _ _ _ _ BZ.out.c)) rfl ?_
            exact ⟨⟨2, S.id, U.id, 0, 0, 0⟩, true, rfl, ChJ.mk ⟨by decide, by decide⟩ HIS.out HIU.out i0 i0 i0, (by show (2 : Int) ≠ 5; decide), (fun h => by cases h), below_row (BZ.out.b.trans ((belowN w4 _).mono BZ.out.b.size)) (by have := BZ.out.ca; omega) _⟩
    · have BZ := hid (BX.out.below BR.out)
      go_wp2_with (refine wpl_storeC rfl _ _ rfl C (.int .i64 0) (.int .i64 0) (.int .i64 0) (.int .i64 0) (.int .i64 0) (.int .i64 0) rfl rfl rfl rfl rfl rfl rfl rfl _ _ rfl BZ.out.c ?_)
      (try simp only [Exit.inBlock, Exit.then])
      refine bodyPost_ret (results_chB rfl _ _ C _ _ _ rfl rfl (setRow_heap _ _ _ _ _ _ BZ.out.c)) rfl ?_
      exact NoP.rl ⟨rfl, below_row BZ.out.b (by have := BZ.out.ca; omega) _⟩
theorem merge_any (s : ScD) (G : List SX) (L : List LoD) (sv lv : Value) (w : World) (hs : Sc w s G L sv lv) :
    Calls Try.prog 22 #[.agg (scC s sv lv)] w (RlP w) := by
  by_cases h : s.r.cold = 0
  · exact (merge_off s sv lv w h).mono fun e w' h => h.rl
  · exact merge_on s G L sv lv w hs h
end Go.Proofs.Ytkggeiljalfcpaa
namespace Go.Proofs.Ytkggeiljalfcpaa
open Go.RowKit Go.Maps Go.Shelf
set_option linter.unusedVariables false
set_option linter.unusedSimpArgs false

set_option maxRecDepth 100000 in
set_option maxHeartbeats 2000000 in
theorem split_off (s : ScD) (sv lv : Value) (w : World) (hm : s.r.hot = 0) :
    Calls Try.prog 21 #[.agg (scC s sv lv)] w (NoP w) := by
  have HM := hid hm
  clear hm
  obtain ⟨w1, hw1⟩ : ∃ w1, w1 = (w.alloc (scB s sv lv)).alloc chB := ⟨_, rfl⟩
  have hbx := bx_two w s sv lv
  rw [← hw1] at hbx
  unfold scB chB at hw1
  obtain ⟨A, hA⟩ : ∃ A, A = w.heap.size := ⟨_, rfl⟩
  obtain ⟨C, hC⟩ : ∃ C, C = w.heap.size + 1 := ⟨_, rfl⟩
  rw [← hC, ← hA] at hbx
  have BX := hid hbx
  have HW1 := hid hw1
  have HA := hid hA
  have HC := hid hC
  clear hw1 hbx hA hC
  unfold scC at HW1
  unfold scC
  go_enter Try.func21, Try.ntmps21
  go_upto_region 1 with fail
  rw [← HW1.out, ← HC.out, ← HA.out]
  clear HW1 HC HA
  have c3 : w1.cell? ⟨A, 0, none⟩ = some (.int .i64 0) := by rw [BX.out.cell 0]; show some (Value.int .i64 s.r.hot) = _; rw [HM.out]
  have BZ := BX
  go_wp2_with (refine wpl_storeC rfl _ _ rfl C (.int .i64 0) (.int .i64 0) (.int .i64 0) (.int .i64 0) (.int .i64 0) (.int .i64 0) rfl rfl rfl rfl rfl rfl rfl rfl _ _ rfl BZ.out.c ?_)
  (try simp only [Exit.inBlock, Exit.then])
  refine bodyPost_ret (results_chB rfl _ _ C _ _ _ rfl rfl (setRow_heap _ _ _ _ _ _ BZ.out.c)) rfl ?_
  exact ⟨rfl, below_row BZ.out.b (by have := BZ.out.ca; omega) _⟩
/-- Is a shard hot? -/
def hotOk (h : Int) (G : List SX) (L : List LoD) (j : Nat) : Prop := ∃ (h1 : j < G.length) (h2 : j < L.length), 1 < G[j].s.to - G[j].s.fr ∧ h ≤ L[j].cm
def atD (fr tt mid : Int) : Int := min (max mid (fr + 1)) (tt - 1)
/-- What has been found among the first ones. -/
structure HotI (h : Int) (G : List SX) (L : List LoD) (i : Nat) (k : Int) : Prop where
  lo : -1 ≤ k
  hi : k < i
  no : k < 0 → ∀ j, j < i → ¬ hotOk h G L j
  yes : 0 ≤ k → hotOk h G L k.toNat
theorem HotI.skip {h : Int} {G : List SX} {L : List LoD} {i : Nat} {k : Int} (H : HotI h G L i k) (hn : 0 ≤ k ∨ ¬ hotOk h G L i) : HotI h G L (i + 1) k :=
  ⟨H.lo, by have := H.hi; omega, fun hk j hj => by
    rcases Nat.lt_or_ge j i with h1 | h1
    · exact H.no hk j h1
    · have e : j = i := by omega
      rcases hn with h2 | h2
      · omega
      · rw [e]; exact h2, H.yes⟩
theorem HotI.take {h : Int} {G : List SX} {L : List LoD} {i : Nat} (ho : hotOk h G L i) : HotI h G L (i + 1) (i : Int) :=
  ⟨by omega, by omega, fun hk => by omega, fun _ => by simpa using ho⟩
/-- What the rule Split answers. -/
def WSpP (h : Int) (G : List SX) (L : List LoD) (w : World) (e : Ending) (w' : World) : Prop :=
  (NoP w e w' ∧ ∀ j, j < G.length → ¬ hotOk h G L j) ∨ ∃ k, ∃ (h1 : k < G.length) (h2 : k < L.length), hotOk h G L k ∧ e = .returned (.tuple #[chV ⟨1, G[k].s.id, 0, atD G[k].s.fr G[k].s.to L[k].mid, 0, 0⟩, .bool true]) ∧ Below w.heap.size w w'
theorem wpl_loadSp {ops : Array Oper} {rest : List Oper} {o : Oper} {a : Act} {w : World} {Q : Exit → Act → World → Prop} (hgd : o.guard = none) (x : Operand) (ho : o.op = .load 67 x)
    (b f : Nat) (hx : a.eval x = .pointer (some ⟨b, f, none⟩)) (c0 c1 : Value) (hg : w.rangeAt b f [c0, c1])
    (h : wpList Try.prog ops Q rest (a.put o.dst (.agg #[c0, c1])) w) : wpList Try.prog ops Q (o :: rest) a w := by
  obtain ⟨d, hd1, hd2⟩ := Try.rowSp
  exact wpList_load_mid hgd _ x ho b f hx [c0, c1] d hg hd1 hd2 Try.sizeSp h
theorem at_mem {fr tt mid : Int} (h : fr < tt) : atD fr tt mid ≤ tt ∧ fr ≤ atD fr tt mid := by unfold atD; omega
set_option maxRecDepth 100000 in
set_option maxHeartbeats 4000000 in
theorem split_on (s : ScD) (G : List SX) (L : List LoD) (sv lv : Value) (w : World) (hs : Sc w s G L sv lv) (hm : s.r.hot ≠ 0) :
    Calls Try.prog 21 #[.agg (scC s sv lv)] w (WSpP s.r.hot G L w) := by
  have hne : (s.r.hot == 0) = false := by simpa using hm
  obtain ⟨⟨va, vc, rfl⟩, ⟨la, lc, rfl⟩⟩ := hs.shape
  have HS := hid hs
  have hGl := hs.small
  have hLG := hid hs.len
  clear hm hs
  generalize hsv : Value.slice va G.length vc = sv at *
  generalize hlv : Value.slice la L.length lc = lv at *
  obtain ⟨w1, hw1⟩ : ∃ w1, w1 = (w.alloc (scB s sv lv)).alloc chB := ⟨_, rfl⟩
  have hbx := bx_two w s sv lv
  rw [← hw1] at hbx
  unfold scB chB at hw1
  obtain ⟨A, hA⟩ : ∃ A, A = w.heap.size := ⟨_, rfl⟩
  obtain ⟨C, hC⟩ : ∃ C, C = w.heap.size + 1 := ⟨_, rfl⟩
  rw [← hC, ← hA] at hbx
  have BX := hid hbx
  have HW1 := hid hw1
  have HA := hid hA
  have HC := hid hC
  clear hw1 hbx hA hC
  unfold scC at HW1
  unfold scC
  have HSV := hid hsv
  have HLV := hid hlv
  clear hsv hlv
  go_enter Try.func21, Try.ntmps21
  go_upto_region 1 with fail
  rw [← HW1.out, ← HC.out, ← HA.out]
  clear HW1 HC HA
  have c2 : w1.cell? ⟨A, 0, none⟩ = some (.int .i64 s.r.hot) := by rw [BX.out.cell 0]; rfl
  have c5 : w1.cell? ⟨A, 5, none⟩ = some (.slice va G.length vc) := by rw [BX.out.cell 5, HSV.out]; rfl
  have HS1 := hid (HS.out.below BX.out.b)
  go_wp2_with fail
  clear c2 c5
  go_loopw [4, 5, 6, 7, 18] (fun hv _ _ _ iv wr => ∃ (i : Nat) (k : Int), iv = .int .i64 i ∧ i ≤ G.length ∧ hv = .int .i64 k ∧ HotI s.r.hot G L i k ∧ Below w1.heap.size w1 wr) (fun _ _ _ _ iv _ => G.length - (intOf iv).toNat)
  case atStart => exact ⟨0, -1, rfl, Nat.zero_le _, rfl, ⟨by omega, by omega, (fun _ j hj => by omega), (fun h => by omega)⟩, Below.refl _ _⟩
  case round =>
    obtain ⟨i, k, rfl, hi, rfl, hinv, hbr⟩ := hrel
    have BR := hid hbr
    have HINV := hid hinv
    have HSR := hid (HS1.out.below hbr)
    clear hbr hinv
    by_cases hlt : (i : Int) < (G.length : Int)
    · have hil : i < G.length := by omega
      have hjl : i < L.length := by have := hLG.out; omega
      have hji : (i : Int) < (L.length : Int) := by omega
      obtain ⟨g, vc', e1⟩ := HSR.out.sh.shape (by omega)
      rw [← HSV.out] at e1
      cases e1
      rw [← HSV.out] at HSR
      rw [← HLV.out] at HSR
      have hRG := HSR.out.sh.range i hil
      obtain ⟨S, ma, mc, pa, pc, hGi⟩ := HSR.out.sh.sl i hil
      have HSM := hid (HSR.out.sh.m _ (List.getElem_mem hil))
      have HSI := hid (HSR.out.id _ (List.getElem_mem hil))
      have HSS := hid (HSR.out.sp _ (List.getElem_mem hil))
      rw [hGi] at hRG HSM HSI HSS
      have HGI := hid hGi
      clear hGi
      unfold SX.c at hRG
      simp only at hRG
      obtain ⟨lg, rfl⟩ := own_some HSR.out.lo (by omega)
      go_upto_region 7 with (refine wpl_loadM rfl _ rfl g (i * 5) (by go_simp) _ _ _ _ _ hRG ?_)
      have hb2 : Below wr.heap.size wr (wr.alloc (.cells #[.int .i64 S.id, .int .i64 S.fr, .int .i64 S.to, .slice ma S.mem.length mc, .slice pa S.past.length pc] 70)) := (Below.refl _ _).alloc (Nat.le_refl _) _
      have hP2 := heap_alloc_new wr (.cells #[.int .i64 S.id, .int .i64 S.fr, .int .i64 S.to, .slice ma S.mem.length mc, .slice pa S.past.length pc] 70)
      have HB2 := hid hb2
      have HP2 := hid hP2
      have HS2 := hid (HSR.out.below hb2)
      have B2 := hid (BR.out.trans (hb2.mono BR.out.size))
      have BZ := hid (BX.out.below B2.out)
      clear hb2 hP2 hRG
      generalize wr.alloc (.cells #[.int .i64 S.id, .int .i64 S.fr, .int .i64 S.to, .slice ma S.mem.length mc, .slice pa S.past.length pc] 70) = w2 at *
      generalize wr.heap.size = SP at *
      have c0 : w2.cell? ⟨A, 0, none⟩ = some (.int .i64 s.r.hot) := by rw [BZ.out.cell 0]; rfl
      have c6 : w2.cell? ⟨A, 6, none⟩ = some (.slice (some ⟨lg, 0, none⟩) L.length lc) := by rw [BZ.out.cell 6, HLV.out]; rfl
      have cl : w2.cell? ⟨lg, i * 4 + 1, none⟩ = some (.int .i64 L[i].cm) := lovs_at HS2.out.lo i hjl 1 _ rfl
      have p1 : w2.cell? ⟨SP, 1, none⟩ = some (.int .i64 S.fr) := by rw [cell_of_row _ _ _ _ _ _ HP2.out]; rfl
      have p2 : w2.cell? ⟨SP, 2, none⟩ = some (.int .i64 S.to) := by rw [cell_of_row _ _ _ _ _ _ HP2.out]; rfl
      have hwd : IntKind.i64.wrap (S.to - S.fr) = S.to - S.fr := IntWalk.i64_in _ ⟨by have := HSS.out; simp only at this; omega, by have := HSS.out; simp only at this; omega⟩
      have HOK : Hid (hotOk s.r.hot G L i ↔ 1 < S.to - S.fr ∧ s.r.hot ≤ L[i].cm) := hid (by
        constructor
        · rintro ⟨h1, h2, h3, h4⟩
          rw [HGI.out] at h3
          exact ⟨h3, h4⟩
        · rintro ⟨h3, h4⟩
          refine ⟨hil, hjl, ?_, h4⟩
          rw [HGI.out]
          exact h3)
      generalize L[i].cm = n at *
      by_cases hd : 1 < S.to - S.fr
      · by_cases hn : s.r.hot ≤ n
        · have HY := hid (HOK.out.2 ⟨hd, hn⟩)
          by_cases hk : k < 0
          · have HNX := hid (HotI.take HY.out)
            go_wp2_with fail
            go_roundw
            case rel => exact ⟨i + 1, _, by go_num, by omega, rfl, HNX.out, B2.out⟩
            case measure => simp [intOf]; omega
          · have hk0 : 0 ≤ k := by omega
            obtain ⟨kn, rfl⟩ : ∃ kn : Nat, k = kn := ⟨k.toNat, by omega⟩
            have hkn : kn < L.length := by have := HINV.out.hi; omega
            have hkI : (kn : Int) < (L.length : Int) := by omega
            have ck : w2.cell? ⟨lg, kn * 4 + 1, none⟩ = some (.int .i64 L[kn].cm) := lovs_at HS2.out.lo kn hkn 1 _ rfl
            generalize L[kn].cm = m at *
            by_cases hmn : m < n
            · have HNX := hid (HotI.take HY.out)
              go_wp2_with fail
              go_roundw
              case rel => exact ⟨i + 1, _, by go_num, by omega, rfl, HNX.out, B2.out⟩
              case measure => simp [intOf]; omega
            · have HNX := hid (HINV.out.skip (.inl hk0))
              go_wp2_with fail
              go_roundw
              case rel => exact ⟨i + 1, _, by go_num, by omega, rfl, HNX.out, B2.out⟩
              case measure => simp [intOf]; omega
        · have hn' : n < s.r.hot := by omega
          have HNX := hid (HINV.out.skip (.inr fun h => hn (HOK.out.1 h).2))
          go_wp2_with fail
          go_roundw
          case rel => exact ⟨i + 1, _, by go_num, by omega, rfl, HNX.out, B2.out⟩
          case measure => simp [intOf]; omega
      · have HNX := hid (HINV.out.skip (.inr fun h => hd (HOK.out.1 h).1))
        go_wp2_with fail
        go_roundw
        case rel => exact ⟨i + 1, _, by go_num, by omega, rfl, HNX.out, B2.out⟩
        case measure => simp [intOf]; omega
    · obtain rfl : i = G.length := by omega
      by_cases hk : k < 0
      · have BZ := hid (BX.out.below BR.out)
        go_wp2_with (refine wpl_storeC rfl _ _ rfl C (.int .i64 0) (.int .i64 0) (.int .i64 0) (.int .i64 0) (.int .i64 0) (.int .i64 0) rfl rfl rfl rfl rfl rfl rfl rfl _ _ rfl BZ.out.c ?_)
        (try simp only [Exit.inBlock, Exit.then])
        refine bodyPost_ret (results_chB rfl _ _ C _ _ _ rfl rfl (setRow_heap _ _ _ _ _ _ BZ.out.c)) rfl ?_
        exact .inl ⟨⟨rfl, below_row BZ.out.b (by have := BZ.out.ca; omega) _⟩, HINV.out.no hk⟩
      · obtain ⟨kn, rfl⟩ : ∃ kn : Nat, k = kn := ⟨k.toNat, by have := HINV.out.lo; omega⟩
        have hkg : kn < G.length := by have := HINV.out.hi; omega
        have hkn : kn < L.length := by have := hLG.out; omega
        have hkI : (kn : Int) < (L.length : Int) := by omega
        have hkJ : (kn : Int) < (G.length : Int) := by omega
        have HYY := hid (HINV.out.yes (by omega))
        rw [Int.toNat_natCast] at HYY
        obtain ⟨g, vc', e1⟩ := HSR.out.sh.shape (by omega)
        rw [← HSV.out] at e1
        cases e1
        rw [← HSV.out] at HSR
        rw [← HLV.out] at HSR
        have hRG := HSR.out.sh.range kn hkg
        obtain ⟨S, ma, mc, pa, pc, hGi⟩ := HSR.out.sh.sl kn hkg
        have HSI := hid (HSR.out.id _ (List.getElem_mem hkg))
        have HSS := hid (HSR.out.sp _ (List.getElem_mem hkg))
        rw [hGi] at hRG HSI HSS
        have HGI := hid hGi
        clear hGi
        unfold SX.c at hRG
        simp only at hRG HSS HSI
        obtain ⟨lg, rfl⟩ := own_some HSR.out.lo (by omega)
        have c5 : wr.cell? ⟨A, 5, none⟩ = some (.slice (some ⟨g, 0, none⟩) G.length vc) := by rw [(BX.out.below BR.out).cell 5, HSV.out]; rfl
        have hR2 : wr.rangeAt g (kn * 5 + 1) [.int .i64 S.fr, .int .i64 S.to] := fun j v hv => by
          have := hRG (j + 1) v (by
            match j, hv with
            | 0, hv => exact hv
            | 1, hv => exact hv)
          rw [show kn * 5 + 1 + j = kn * 5 + (j + 1) from by omega]; exact this
        go_upto_region 14 with (refine wpl_loadSp rfl _ rfl g (kn * 5 + 1) (by go_simp) _ _ hR2 ?_)
        have hb2 : Below wr.heap.size wr (wr.alloc (.cells #[.int .i64 S.fr, .int .i64 S.to] 67)) := (Below.refl _ _).alloc (Nat.le_refl _) _
        have hP2 := heap_alloc_new wr (.cells #[.int .i64 S.fr, .int .i64 S.to] 67)
        have HP2 := hid hP2
        have HS2 := hid (HSR.out.below hb2)
        have HB2 := hid hb2
        have B2 := hid (BR.out.trans (hb2.mono BR.out.size))
        have BZ := hid (BX.out.below B2.out)
        have g0 : wr.cell? ⟨g, kn * 5, none⟩ = some (.int .i64 S.id) := hRG 0 _ rfl
        replace g0 := cell_later hb2 g0
        clear hb2 hP2 hRG hR2 c5
        generalize wr.alloc (.cells #[.int .i64 S.fr, .int .i64 S.to] 67) = w2 at *
        generalize wr.heap.size = SP at *
        have c5 : w2.cell? ⟨A, 5, none⟩ = some (.slice (some ⟨g, 0, none⟩) G.length vc) := by rw [BZ.out.cell 5, HSV.out]; rfl
        have c6 : w2.cell? ⟨A, 6, none⟩ = some (.slice (some ⟨lg, 0, none⟩) L.length lc) := by rw [BZ.out.cell 6, HLV.out]; rfl
        have cl : w2.cell? ⟨lg, kn * 4 + 3, none⟩ = some (.int .i64 L[kn].mid) := lovs_at HS2.out.lo kn hkn 3 _ rfl
        have p0 : w2.cell? ⟨SP, 0, none⟩ = some (.int .i64 S.fr) := by rw [cell_of_row _ _ _ _ _ _ HP2.out]; rfl
        have p1 : w2.cell? ⟨SP, 1, none⟩ = some (.int .i64 S.to) := by rw [cell_of_row _ _ _ _ _ _ HP2.out]; rfl
        obtain ⟨mid, hmid⟩ : ∃ m, m = L[kn].mid := ⟨_, rfl⟩
        have HMD := hid hmid
        rw [← hmid] at cl
        clear hmid
        have hwf : IntKind.i64.wrap (S.fr + 1) = S.fr + 1 := IntWalk.i64_in _ ⟨by have := HSS.out; omega, by have := HSS.out; omega⟩
        have hwt : IntKind.i64.wrap (S.to - 1) = S.to - 1 := IntWalk.i64_in _ ⟨by have := HSS.out; omega, by have := HSS.out; omega⟩
        have HFIN : Hid (∀ e w', e = .returned (.tuple #[chV ⟨1, S.id, 0, atD S.fr S.to mid, 0, 0⟩, .bool true]) → Below w.heap.size w w' → WSpP s.r.hot G L w e w') := hid fun e w' he hb => .inr ⟨kn, hkg, hkn, HYY.out, by rw [he, HGI.out, HMD.out], hb⟩
        go_quiet (fail)
        go_wp2_with (refine wpl_storeC rfl _ _ rfl C (.int .i64 1) (.int .i64 S.id) (.int .i64 0) (.int .i64 (min (max mid (S.fr + 1)) (S.to - 1))) (.int .i64 0) (.int .i64 0) rfl rfl rfl rfl rfl rfl rfl rfl _ _ rfl BZ.out.c ?_)
        (try simp only [Exit.inBlock, Exit.then])
        refine bodyPost_ret (results_chB rfl _ _ C _ _ _ rfl rfl (setRow_heap _ _ _ _ _ _ BZ.out.c)) rfl ?_
        exact HFIN.out _ _ rfl (below_row (BZ.out.b.trans ((belowN w2 _).mono BZ.out.b.size)) (by have := BZ.out.ca; omega) _)
theorem split_any (s : ScD) (G : List SX) (L : List LoD) (sv lv : Value) (w : World) (hs : Sc w s G L sv lv) :
    Calls Try.prog 21 #[.agg (scC s sv lv)] w (RlP w) := by
  by_cases h : s.r.hot = 0
  · exact (split_off s sv lv w h).mono fun e w' h => h.rl
  · refine (split_on s G L sv lv w hs h).mono fun e w' h => ?_
    rcases h with ⟨h, -⟩ | ⟨k, h1, h2, -, he, hb⟩
    · exact h.rl
    · have hsp := hs.sp _ (List.getElem_mem h1)
      have hat := at_mem (mid := L[k].mid) hsp.2.1
      exact ⟨_, true, he, ChJ.mk ⟨by decide, by decide⟩ (hs.id _ (List.getElem_mem h1)) i0 ⟨by omega, by omega⟩ i0 i0, (by show (1 : Int) ≠ 5; decide), (fun h => by cases h), hb⟩
end Go.Proofs.Ytkggeiljalfcpaa
namespace Go.Proofs.Ytkggeiljalfcpaa
open Go.RowKit Go.Maps Go.Shelf
set_option linter.unusedVariables false
set_option linter.unusedSimpArgs false

/-- Is it a member that is silent? One that is there and isn't a member? -/
def outB (s : ScD) (l : List Int) (n : Nat) : Bool := decide ((n : Int) ∈ l) && !livB s n
def inB (s : ScD) (l : List Int) (n : Nat) : Bool := !decide ((n : Int) ∈ l) && livB s n
theorem entOut : EntF 47 := fun _ _ => by kernel_rfl
theorem entIn : EntF 48 := fun _ _ => by kernel_rfl
/-- What the two closures look at. -/
structure Cap (w : World) (A SP : Nat) (s : ScD) (l : List Int) (va : Option Addr) (vc : Nat) : Prop where
  p : w.cell? ⟨SP, 3, none⟩ = some (.slice va l.length vc)
  m : Nums w (.slice va l.length vc) l
  l : ∀ n, n < 7 → w.cell? ⟨A, 7 + n, none⟩ = some (.bool (livB s n))
theorem Cap.below {w w' : World} {A SP : Nat} {s : ScD} {l : List Int} {va : Option Addr} {vc : Nat} (h : Cap w A SP s l va vc) (hb : Below w.heap.size w w') : Cap w' A SP s l va vc := ⟨cell_later hb h.p, h.m.below hb, fun n hn => cell_later hb (h.l n hn)⟩
set_option maxRecDepth 100000 in
set_option maxHeartbeats 2000000 in
theorem out_any (A SP n : Nat) (s : ScD) (l : List Int) (va : Option Addr) (vc : Nat) (w : World) (h : Cap w A SP s l va vc) (hn : n < 7) :
    Calls Try.prog 47 (#[.int .i64 n] ++ #[.pointer (some ⟨SP, 0, none⟩), .pointer (some ⟨A, 0, none⟩)]) w fun e w' => e = .returned (.bool (outB s l n)) ∧ Below w.heap.size w w' := by
  have hp := h.p
  have HM := hid h.m
  have cl := h.l n hn
  have hn7 : (n : Int) < 7 := by omega
  have HC := hid (ncontains_any l n _ w h.m)
  unfold outB
  clear h
  simp only [List.push_toArray, List.append_toArray, List.nil_append, List.cons_append]
  cases hm : decide ((n : Int) ∈ l) with
  | false =>
    rw [hm] at HC
    clear hm
    go_enter Try.func47, Try.ntmps47
    go_wp2_with (go_at_call 45; refine HC.out.mono ?_; rintro e w2 ⟨rfl, hw2⟩; replace hw2 := hw2.symm; subst hw2)
    go_ret
    exact ⟨rfl, Below.refl _ _⟩
  | true =>
    rw [hm] at HC
    clear hm
    go_enter Try.func47, Try.ntmps47
    go_wp2_with (go_at_call 45; refine HC.out.mono ?_; rintro e w2 ⟨rfl, hw2⟩; replace hw2 := hw2.symm; subst hw2)
    go_ret
    exact ⟨by simp, Below.refl _ _⟩
set_option maxRecDepth 100000 in
set_option maxHeartbeats 2000000 in
theorem in_any (A SP n : Nat) (s : ScD) (l : List Int) (va : Option Addr) (vc : Nat) (w : World) (h : Cap w A SP s l va vc) (hn : n < 7) :
    Calls Try.prog 48 (#[.int .i64 n] ++ #[.pointer (some ⟨SP, 0, none⟩), .pointer (some ⟨A, 0, none⟩)]) w fun e w' => e = .returned (.bool (inB s l n)) ∧ Below w.heap.size w w' := by
  have hp := h.p
  have HM := hid h.m
  have cl := h.l n hn
  have hn7 : (n : Int) < 7 := by omega
  have HC := hid (ncontains_any l n _ w h.m)
  unfold inB
  clear h
  simp only [List.push_toArray, List.append_toArray, List.nil_append, List.cons_append]
  cases hm : decide ((n : Int) ∈ l) with
  | false =>
    rw [hm] at HC
    clear hm
    go_enter Try.func48, Try.ntmps48
    go_wp2_with (go_at_call 45; refine HC.out.mono ?_; rintro e w2 ⟨rfl, hw2⟩; replace hw2 := hw2.symm; subst hw2)
    go_ret
    exact ⟨by simp, Below.refl _ _⟩
  | true =>
    rw [hm] at HC
    clear hm
    go_enter Try.func48, Try.ntmps48
    go_wp2_with (go_at_call 45; refine HC.out.mono ?_; rintro e w2 ⟨rfl, hw2⟩; replace hw2 := hw2.symm; subst hw2)
    go_ret
    exact ⟨rfl, Below.refl _ _⟩
set_option maxRecDepth 100000 in
set_option maxHeartbeats 4000000 in
theorem replace_on (s : ScD) (G : List SX) (L : List LoD) (sv lv : Value) (w : World) (hs : Sc w s G L sv lv) (hm : s.r.mute ≠ 0) :
    Calls Try.prog 19 #[.agg (scC s sv lv)] w (RlP w) := by
  have hne : (s.r.mute == 0) = false := by simpa using hm
  obtain ⟨⟨va, vc, rfl⟩, ⟨la, lc, rfl⟩⟩ := hs.shape
  have HS := hid hs
  have hGl := hs.small
  clear hm hs
  generalize hsv : Value.slice va G.length vc = sv at *
  generalize hlv : Value.slice la L.length lc = lv at *
  obtain ⟨w1, hw1⟩ : ∃ w1, w1 = (w.alloc (scB s sv lv)).alloc chB := ⟨_, rfl⟩
  have hbx := bx_two w s sv lv
  rw [← hw1] at hbx
  unfold scB chB at hw1
  obtain ⟨A, hA⟩ : ∃ A, A = w.heap.size := ⟨_, rfl⟩
  obtain ⟨C, hC⟩ : ∃ C, C = w.heap.size + 1 := ⟨_, rfl⟩
  rw [← hC, ← hA] at hbx
  have BX := hid hbx
  have HW1 := hid hw1
  have HA := hid hA
  have HC := hid hC
  clear hw1 hbx hA hC
  unfold scC at HW1
  unfold scC
  have HSV := hid hsv
  clear hsv hlv
  have hmf : ∀ (fn : Fn) (first cap : Array Value) (w : World), (Instr.makeFunc fn first cap).run Try.prog w = .ok (.func fn first cap) w := fun _ _ _ _ => rfl
  go_enter Try.func19, Try.ntmps19
  go_upto_region 1 with fail
  rw [← HW1.out, ← HC.out, ← HA.out]
  clear HW1 HC HA
  have c2 : w1.cell? ⟨A, 3, none⟩ = some (.int .i64 s.r.mute) := by rw [BX.out.cell 3]; rfl
  have c5 : w1.cell? ⟨A, 5, none⟩ = some (.slice va G.length vc) := by rw [BX.out.cell 5, HSV.out]; rfl
  have HS1 := hid (HS.out.below BX.out.b)
  go_wp2_with fail
  clear c2 c5
  go_loopw [5, 6, 7, 8, 9, 18] (fun _ _ _ _ _ iv wr => ∃ i : Nat, iv = .int .i64 i ∧ i ≤ G.length ∧ Below w1.heap.size w1 wr) (fun _ _ _ _ _ iv _ => G.length - (intOf iv).toNat)
  case atStart => exact ⟨0, rfl, Nat.zero_le _, Below.refl _ _⟩
  case round =>
    obtain ⟨i, rfl, hi, hbr⟩ := hrel
    have BR := hid hbr
    have HSR := hid (HS1.out.below hbr)
    clear hbr
    by_cases hlt : (i : Int) < (G.length : Int)
    · have hil : i < G.length := by omega
      obtain ⟨g, vc', e1⟩ := HSR.out.sh.shape (by omega)
      rw [← HSV.out] at e1
      cases e1
      rw [← HSV.out] at HSR
      have hRG := HSR.out.sh.range i hil
      obtain ⟨S, ma, mc, pa, pc, hGi⟩ := HSR.out.sh.sl i hil
      have HSM := hid (HSR.out.sh.m _ (List.getElem_mem hil))
      have HSI := hid (HSR.out.id _ (List.getElem_mem hil))
      have HSS := hid (HSR.out.sp _ (List.getElem_mem hil))
      rw [hGi] at hRG HSM HSI HSS
      have HGI := hid hGi
      clear hGi
      unfold SX.c at hRG
      simp only at hRG
      go_upto_region 6 with (refine wpl_loadM rfl _ rfl g (i * 5) (by go_simp) _ _ _ _ _ hRG ?_)
      have hb2 : Below wr.heap.size wr (wr.alloc (.cells #[.int .i64 S.id, .int .i64 S.fr, .int .i64 S.to, .slice ma S.mem.length mc, .slice pa S.past.length pc] 70)) := (Below.refl _ _).alloc (Nat.le_refl _) _
      have hP2 := heap_alloc_new wr (.cells #[.int .i64 S.id, .int .i64 S.fr, .int .i64 S.to, .slice ma S.mem.length mc, .slice pa S.past.length pc] 70)
      have HB2 := hid hb2
      have HP2 := hid hP2
      have HS2 := hid (HSR.out.below hb2)
      have B2 := hid (BR.out.trans (hb2.mono BR.out.size))
      have BZ := hid (BX.out.below B2.out)
      clear hb2 hP2 hRG
      generalize wr.alloc (.cells #[.int .i64 S.id, .int .i64 S.fr, .int .i64 S.to, .slice ma S.mem.length mc, .slice pa S.past.length pc] 70) = w2 at *
      generalize wr.heap.size = SP at *
      have hM2 := HS2.out.sh.m _ (List.getElem_mem hil)
      rw [HGI.out] at hM2
      have HNU := hid (nums_own hM2.m rfl)
      clear hM2
      have p0 : w2.cell? ⟨SP, 0, none⟩ = some (.int .i64 S.id) := by rw [cell_of_row _ _ _ _ _ _ HP2.out]; rfl
      have HCP : Hid (Cap w2 A SP s S.mem ma mc) := hid ⟨by rw [cell_of_row _ _ _ _ _ _ HP2.out]; rfl, HNU.out, fun n hn => by rw [BZ.out.cell (7 + n)]; exact scC_live s sv lv n hn⟩
      have HF1 := hid (firstNode_any 47 #[.pointer (some ⟨SP, 0, none⟩), .pointer (some ⟨A, 0, none⟩)] (outB s S.mem) w2 entOut fun W hW n hn => out_any A SP n s S.mem ma mc W (HCP.out.below hW) hn)
      have HF2 := hid (fun W2 (h2 : Below w2.heap.size w2 W2) => firstNode_any 48 #[.pointer (some ⟨SP, 0, none⟩), .pointer (some ⟨A, 0, none⟩)] (inB s S.mem) W2 entIn fun W hW n hn => in_any A SP n s S.mem ma mc W ((HCP.out.below h2).below hW) hn)
      go_wp2_with fail
      refine HF1.out.mono ?_
      rintro e w3 ⟨⟨n1, ok1, rfl, hn1, -⟩, hb3⟩
      have HB3 := hid hb3
      have HN1 := hid hn1
      clear hb3 hn1
      go_wp2_with fail
      refine (HF2.out _ HB3.out).mono ?_
      rintro e w4 ⟨⟨n2, ok2, rfl, hn2, -⟩, hb4⟩
      have B24 := hid (HB3.out.trans (hb4.mono HB3.out.size))
      have HN2 := hid hn2
      have B4 := hid (B2.out.trans (B24.out.mono B2.out.size))
      have BY := hid (BZ.out.below B24.out)
      replace p0 := cell_later B24.out p0
      clear hb4 hn2 HF1 HF2 HB3
      cases ok1 with
      | false =>
        go_wp2_with fail
        go_roundw
        case rel => exact ⟨i + 1, by go_num, by omega, B4.out⟩
        case measure => simp [intOf]; omega
      | true =>
        cases ok2 with
        | false =>
          go_wp2_with fail
          go_roundw
          case rel => exact ⟨i + 1, by go_num, by omega, B4.out⟩
          case measure => simp [intOf]; omega
        | true =>
          go_wp2_with (refine wpl_storeC rfl _ _ rfl C (.int .i64 3) (.int .i64 S.id) (.int .i64 0) (.int .i64 0) (.int .i64 n1) (.int .i64 n2) rfl rfl rfl rfl rfl rfl rfl rfl _ _ rfl BY.out.c ?_)
          (try simp only [Exit.inBlock, Exit.then])
          refine bodyPost_ret (results_chB rfl _ _ C _ _ _ rfl rfl (setRow_heap _ _ _ _ _ _ BY.out.c)) rfl ?_
          exact ⟨⟨3, S.id, 0, 0, n1, n2⟩, true, rfl, ChJ.mk ⟨by decide, by decide⟩ HSI.out i0 i0 ⟨by omega, by have := HN1.out; omega⟩ ⟨by omega, by have := HN2.out; omega⟩, (by show (3 : Int) ≠ 5; decide), (fun h => by cases h), below_row BY.out.b (by have := BY.out.ca; omega) _⟩
    · have BZ := hid (BX.out.below BR.out)
      go_wp2_with (refine wpl_storeC rfl _ _ rfl C (.int .i64 0) (.int .i64 0) (.int .i64 0) (.int .i64 0) (.int .i64 0) (.int .i64 0) rfl rfl rfl rfl rfl rfl rfl rfl _ _ rfl BZ.out.c ?_)
      (try simp only [Exit.inBlock, Exit.then])
      refine bodyPost_ret (results_chB rfl _ _ C _ _ _ rfl rfl (setRow_heap _ _ _ _ _ _ BZ.out.c)) rfl ?_
      exact NoP.rl ⟨rfl, below_row BZ.out.b (by have := BZ.out.ca; omega) _⟩
theorem replace_any (s : ScD) (G : List SX) (L : List LoD) (sv lv : Value) (w : World) (hs : Sc w s G L sv lv) :
    Calls Try.prog 19 #[.agg (scC s sv lv)] w (RlP w) := by
  by_cases h : s.r.mute = 0
  · exact (replace_off s sv lv w h).mono fun e w' h => h.rl
  · exact replace_on s G L sv lv w hs h
end Go.Proofs.Ytkggeiljalfcpaa
namespace Go.Proofs.Ytkggeiljalfcpaa
open Go.RowKit Go.Maps Go.Shelf
set_option linter.unusedVariables false
set_option linter.unusedSimpArgs false

def ruC (r : RuD) : Array Value := #[.int .i64 r.hot, .int .i64 r.cold, .int .i64 r.long, .int .i64 r.mute, .int .i64 r.cap]
/-- The last load of a shard. -/
def ldOf (K : List LoD) (i : Int) : LoD := K.foldl (fun a l => if l.sh = i then l else a) zL
theorem ldOf_snoc (K : List LoD) (l : LoD) (i : Int) : ldOf (K ++ [l]) i = if l.sh = i then l else ldOf K i := by simp [ldOf]
def loV (l : LoD) : Value := .agg #[.int .i64 l.sh, .int .i64 l.cm, .int .i64 l.ins, .int .i64 l.mid]
/-- Loads lie in memory. -/
def Lds (w : World) (v : Value) (K : List LoD) : Prop :=
  ∃ ao n cap, v = .slice ao n cap ∧ n = K.length ∧ n ≤ cap ∧ cap ≤ 9223372036854775807 ∧ (ao = none → cap = 0) ∧ ∀ ad, ao = some ad → ∀ j k u, (lovs K)[j * 4 + k]? = some u → j < K.length → k < 4 → w.cell? (ad.add (j * 4 + k)) = some u
theorem Lds.below {w w' : World} {v : Value} {K : List LoD} (h : Lds w v K) (hb : Below w.heap.size w w') : Lds w' v K := by
  obtain ⟨ao, n, cap, rfl, h1, h2, h3, h4, h5⟩ := h
  exact ⟨ao, n, cap, rfl, h1, h2, h3, h4, fun ad had j k u hu hj hk => cell_later hb (h5 ad had j k u hu hj hk)⟩
theorem Lds.shape {w : World} {v : Value} {K : List LoD} (h : Lds w v K) : ∃ va vc, v = .slice va K.length vc := by
  obtain ⟨ao, n, cap, rfl, rfl, -⟩ := h; exact ⟨_, _, rfl⟩
theorem Lds.addr {w : World} {ao : Option Addr} {cap : Nat} {K : List LoD} (h : Lds w (.slice ao K.length cap) K) (hl : 0 < K.length) : ∃ b o, ao = some ⟨b, o, none⟩ := by
  obtain ⟨ao', n, cap', e, h1, h2, h3, h4, h5⟩ := h
  cases e
  cases ao with
  | none => have := h4 rfl; omega
  | some a =>
    have hp := lovs_part K 0 hl 0 (.int .i64 K[0].sh) rfl
    have h0 := h5 a rfl 0 0 _ hp hl (by omega)
    have := World.cell?_spot h0
    obtain ⟨b, o, sp⟩ := a
    simp [Addr.add] at this
    subst this
    exact ⟨b, o, rfl⟩
theorem Lds.range {w : World} {b o cap : Nat} {K : List LoD} (h : Lds w (.slice (some ⟨b, o, none⟩) K.length cap) K) (j : Nat) (hj : j < K.length) : w.rangeAt b (o + j * 4) K[j].c := fun k u hu => by
  obtain ⟨ao', n, cap', e, h1, h2, h3, h4, h5⟩ := h
  cases e
  have hk : k < 4 := by have := (List.getElem?_eq_some_iff.1 hu).1; simpa [LoD.c] using this
  have := h5 _ rfl j k u (lovs_part K j hj k u hu) hj hk
  rw [Addr.add_lit] at this
  rw [show o + j * 4 + k = o + (j * 4 + k) from by omega]
  exact this
theorem Lds.nil (w : World) : Lds w (.slice none 0 0) [] := ⟨none, 0, 0, rfl, rfl, Nat.le_refl _, by omega, (fun _ => rfl), (fun ad h => by cases h)⟩
theorem Lds.own {w : World} {B n : Nat} {v : Value} {K : List LoD} (h : w.ownsRow B 54 4 v n (lovs K)) (hn : n = K.length) : Lds w v K := by
  subst hn
  have h' := h
  obtain ⟨h1, h2⟩ := h
  rcases h2 with ⟨rfl, h0⟩ | ⟨g, cap, cur, rfl, -, hh, hc, hm, -⟩
  · have : K = [] := List.length_eq_zero_iff.1 h0
    subst this; exact Lds.nil _
  · refine ⟨_, _, _, rfl, rfl, hc, by unfold maxLen at hm; omega, (fun h => by cases h), ?_⟩
    intro ad had j k u hu hj hk
    cases had
    exact h'.cells (g := g) rfl (j * 4 + k) u hu
/-- A load is held as it is. -/
def LoS (v : Value) : Prop := ∃ l, v = loV l
open Classical in
noncomputable def RLo (v : Value) : Option (DataW Value × List MemPlace) := if LoS v then some (.held v, []) else none
theorem RLo_mk {v : Value} (h : LoS v) : RLo v = some (.held v, []) := if_pos h
theorem RLo_inv {v : Value} {d : DataW Value} {ps : List MemPlace} (h : RLo v = some (d, ps)) : LoS v ∧ d = .held v ∧ ps = [] := by
  unfold RLo at h
  split at h
  · rename_i hc
    simp only [Option.some.injEq, Prod.mk.injEq] at h
    exact ⟨hc, h.1.symm, h.2.symm⟩
  · cases h
theorem Try.infoLo : (Try.prog.info? 54).map (fun i => i.zero) = some (some (loV zL)) := by kernel_rfl
theorem Try.zeroLo (w : World) : (zeroValue 54).run Try.prog w = .ok (loV zL) w := by
  have hz := Try.infoLo
  cases hi : Try.prog.info? 54 with
  | none => rw [hi] at hz; cases hz
  | some i =>
    rw [hi] at hz
    have h2 : i.zero = some (loV zL) := by simpa using hz
    simp [zeroValue, typeInfo, hi, h2]
theorem Try.underlyingMl : Try.prog.underlying 102 = some (.map 3 54) := by kernel_rfl
/-- The map has of each shard the last load. -/
structure LM (D : DataW Value) (K : List LoD) : Prop where
  isMap : IsMap D
  at' : ∀ i : Int, D.atKey (.int .i64 i) (.held (loV zL)) = .held (loV (ldOf K i))
theorem LM.nil : LM (.map []) [] := ⟨isMap_empty, fun i => rfl⟩
theorem LM.put {D : DataW Value} {K : List LoD} (h : LM D K) (l : LoD) : LM (D.put (.int .i64 l.sh) (.held (loV l))) (K ++ [l]) := by
  refine ⟨h.isMap.put _ _, fun i => ?_⟩
  rw [ldOf_snoc]
  by_cases e : l.sh = i
  · subst e
    rw [if_pos rfl]
    exact atKey_put_same h.isMap (show WideAt.IsKeyLit (.int .i64 l.sh) from trivial) _ _
  · rw [if_neg e, atKey_put_other (lit_ne fun h => e h.symm)]
    exact h.at' i
theorem LM.look {w : World} {mb n : Nat} {D : DataW Value} {K : List LoD} (h : LM D K) (ho : w.ownsMap Try.prog 3 RLo mb n D) (i : Int) (hi : I64 i) : (Instr.lookup 102 (.map (some mb)) (.int .i64 i) false).run Try.prog w = .ok (loV (ldOf K i)) w := by
  obtain ⟨v, ps, hrun, hv⟩ := World.ownsMap.lookup (w := w) ho intK Try.underlyingMl (Try.zeroLo _) (RLo_mk ⟨zL, rfl⟩) (key_of i hi)
  obtain ⟨-, hd, -⟩ := RLo_inv hv
  rw [h.at' i] at hd
  cases hd
  rw [hrun]
theorem Try.sizeLo : (Try.prog.info? 54).map (·.size) = some 4 := by kernel_rfl
theorem Try.structLo0 : (Try.prog.underlying 54).map (fun d => match d with | .struct _ | .array _ _ => true | _ => false) = some true := by kernel_rfl
theorem Try.structLo : ∃ d, Try.prog.underlying 54 = some d ∧ (match d with | .struct _ | .array _ _ => true | _ => false) = true := by
  have h := Try.structLo0
  cases hd : Try.prog.underlying 54 with
  | none => rw [hd] at h; cases h
  | some d => rw [hd] at h; exact ⟨d, rfl, by simpa using h⟩
theorem Try.rowLd : ∃ d : TypeDesc, Try.prog.underlying 54 = some d ∧ d.isRow = true := by
  obtain ⟨d, hd1, hd2⟩ := Try.structLo
  exact ⟨d, hd1, by cases d <;> first | rfl | (simp at hd2)⟩
theorem wpl_loadLo {ops : Array Oper} {rest : List Oper} {o : Oper} {a : Act} {w : World} {Q : Exit → Act → World → Prop} (hgd : o.guard = none) (x : Operand) (ho : o.op = .load 54 x)
    (b f : Nat) (hx : a.eval x = .pointer (some ⟨b, f, none⟩)) (c0 c1 c2 c3 : Value) (hg : w.rangeAt b f [c0, c1, c2, c3])
    (h : wpList Try.prog ops Q rest (a.put o.dst (.agg #[c0, c1, c2, c3])) w) : wpList Try.prog ops Q (o :: rest) a w := by
  obtain ⟨d, hd1, hd2⟩ := Try.rowLd
  exact wpList_load_mid hgd _ x ho b f hx [c0, c1, c2, c3] d hg hd1 hd2 Try.sizeLo h
theorem Try.sizeSc : (Try.prog.info? 60).map (·.size) = some 14 := by kernel_rfl
theorem Try.structSc0 : (Try.prog.underlying 60).map (fun d => match d with | .struct _ | .array _ _ => true | _ => false) = some true := by kernel_rfl
theorem Try.structSc : ∃ d, Try.prog.underlying 60 = some d ∧ (match d with | .struct _ | .array _ _ => true | _ => false) = true := by
  have h := Try.structSc0
  cases hd : Try.prog.underlying 60 with
  | none => rw [hd] at h; cases h
  | some d => rw [hd] at h; exact ⟨d, rfl, by simpa using h⟩
theorem Try.rowSc : ∃ d : TypeDesc, Try.prog.underlying 60 = some d ∧ d.isRow = true := by
  obtain ⟨d, hd1, hd2⟩ := Try.structSc
  exact ⟨d, hd1, by cases d <;> first | rfl | (simp at hd2)⟩
theorem Try.sizeRu : (Try.prog.info? 24).map (·.size) = some 5 := by kernel_rfl
theorem Try.structRu0 : (Try.prog.underlying 24).map (fun d => match d with | .struct _ | .array _ _ => true | _ => false) = some true := by kernel_rfl
theorem Try.structRu : ∃ d, Try.prog.underlying 24 = some d ∧ (match d with | .struct _ | .array _ _ => true | _ => false) = true := by
  have h := Try.structRu0
  cases hd : Try.prog.underlying 24 with
  | none => rw [hd] at h; cases h
  | some d => rw [hd] at h; exact ⟨d, rfl, by simpa using h⟩
theorem Try.rowRu : ∃ d : TypeDesc, Try.prog.underlying 24 = some d ∧ d.isRow = true := by
  obtain ⟨d, hd1, hd2⟩ := Try.structRu
  exact ⟨d, hd1, by cases d <;> first | rfl | (simp at hd2)⟩
theorem results_sc {fn : Func} {p : Tmp} (h : fn.results = #[.cell p 60]) (tmps : Array Value) (w : World) (g : Nat) (t : TypeId) (cs : Array Value) (fr : Nat × Nat) (hs : cs.size = 14)
    (hp : tmps.getD p undef = .pointer (some ⟨g, 0, none⟩)) (hg : w.heap[g]? = some (.cells cs t fr)) : (results fn tmps).run Try.prog w = .ok (.agg cs) w := by
  obtain ⟨d, hd1, hd2⟩ := Try.structSc
  have hp' : tmps[p]?.getD undef = .pointer (some ⟨g, 0, none⟩) := by simpa using hp
  have hl := run_loadVar_row w g t 60 cs fr d hg hd1 (by cases d <;> first | rfl | (simp at hd2)) (by rw [hs]; exact Try.sizeSc)
  simp [results, h, hp', asAddr, hl]
/-- What look leaves. -/
def LkP (r : RuD) (X : List SX) (K : List LoD) (w : World) (e : Ending) (w' : World) : Prop := ∃ s G sv lv, e = .returned (.agg (scC s sv lv)) ∧ s.r = r ∧ G.map (·.s) = X.map (·.s) ∧ Sc w' s G (G.map fun y => ldOf K y.s.id) sv lv ∧ Below w.heap.size w w'
theorem wpl_loadSc {ops : Array Oper} {rest : List Oper} {o : Oper} {a : Act} {w : World} {Q : Exit → Act → World → Prop} (hgd : o.guard = none) (x : Operand) (ho : o.op = .load 60 x)
    (g : Nat) (hx : a.eval x = .pointer (some ⟨g, 0, none⟩)) (t : TypeId) (cs : Array Value) (fr : Nat × Nat) (hs : cs.size = 14) (hg : w.heap[g]? = some (.cells cs t fr))
    (h : wpList Try.prog ops Q rest (a.put o.dst (.agg cs)) w) : wpList Try.prog ops Q (o :: rest) a w := by
  obtain ⟨d, hd1, hd2⟩ := Try.structSc
  exact wpList_load_row hgd _ x ho g hx t _ fr d hg hd1 (by cases d <;> first | rfl | (simp at hd2)) (by rw [hs]; exact Try.sizeSc) h
theorem wpl_updLo {ops : Array Oper} {rest : List Oper} {o : Oper} {a : Act} {w w' : World} {Q : Exit → Act → World → Prop} (hgd : o.guard = none) {t : TypeId} (m x v : Operand) (hop : o.op = .mapUpdate t m x v) {mv key val : Value} (hm : a.eval m = mv) (hx : a.eval x = key) (hv : a.eval v = val)
    (hrun : (Instr.mapUpdate t mv key val).run Try.prog w = .ok () w') (h : wpList Try.prog ops Q rest (a.put o.dst undef) w') : wpList Try.prog ops Q (o :: rest) a w :=
  wpList_plain hgd fun _ hK => wp_upd m x v hop hm hx hv hrun (hK _ _ h)
def zSc (r : RuD) : ScD := ⟨r, false, false, false, false, false, false, false⟩
def ScD.set (s : ScD) (n : Nat) (b : Bool) : ScD := match n with
  | 0 => { s with b0 := b }
  | 1 => { s with b1 := b }
  | 2 => { s with b2 := b }
  | 3 => { s with b3 := b }
  | 4 => { s with b4 := b }
  | 5 => { s with b5 := b }
  | _ => { s with b6 := b }
theorem ScD.set_r (s : ScD) (n : Nat) (b : Bool) : (s.set n b).r = s.r := by
  unfold ScD.set; split <;> rfl
theorem scC_set (s : ScD) (sv lv : Value) (n : Nat) (h : n < 7) (b : Bool) : (scC s sv lv).setIfInBounds (7 + n) (.bool b) = scC (s.set n b) sv lv := by
  match n, h with
  | 0, _ => rfl
  | 1, _ => rfl
  | 2, _ => rfl
  | 3, _ => rfl
  | 4, _ => rfl
  | 5, _ => rfl
  | 6, _ => rfl
theorem scC_at (s : ScD) (sv lv : Value) (n : Nat) (h : n < 7) : ∃ b, (scC s sv lv)[7 + n]? = some (.bool b) := ⟨_, scC_live s sv lv n h⟩
def z14 : Array Value := #[.int .i64 0, .int .i64 0, .int .i64 0, .int .i64 0, .int .i64 0, .slice none 0 0, .slice none 0 0, .bool false, .bool false, .bool false, .bool false, .bool false, .bool false, .bool false]
/-- Blocks of cells of other types than a scene's stay. -/
def KpC (w w' : World) : Prop := ∀ (q : Nat) (cs : Array Value) (t : TypeId) (fr : Nat × Nat), w.heap[q]? = some (.cells cs t fr) → t ≠ 60 → w'.heap[q]? = w.heap[q]?
theorem KpC.trans {a b c : World} (h : KpC a b) (k : KpC b c) : KpC a c := fun q cs t fr hq ht => (k q cs t fr ((h q cs t fr hq ht).trans hq) ht).trans (h q cs t fr hq ht)
theorem KpC.below {a b : World} (h : Below a.heap.size a b) : KpC a b := fun q cs t fr hq _ => h.block q (lt_of_block hq)
theorem KpC.tr {a b : World} {R : Nat → Prop} (h : Tr R a b) (hR : ∀ q cs t fr, a.heap[q]? = some (.cells cs t fr) → t ≠ 60 → ¬ R q) : KpC a b := fun q cs t fr hq ht => h.block q (lt_of_block hq) (hR q cs t fr hq ht)
theorem KpC.row {w : World} {B : Nat} {cs0 cs : Array Value} (h : w.heap[B]? = some (.cells cs0 60 (0, 0))) : KpC w (w.setRow B cs) := fun q cs' t fr hq ht => setRow_other _ _ _ _ fun e => by rw [e, h] at hq; cases hq; exact ht rfl
theorem ShR.kpc {w w' : World} {v : Value} {G : List SX} (h : ShR w v G) (hk : KpC w w') : ShR w' v G :=
  ⟨own_kept h.o fun q cs _ hh => hk q cs _ _ hh (by decide), fun x hx => (h.m x hx).keep fun q cs t fr hq ht => hk q cs t fr hq (by rcases ht with rfl | rfl <;> decide)⟩
theorem Tr.grownS {w w' : World} {B : Nat} (h : Tr (fun q => q = B) w w') : w.grownBy w' (some B) := ⟨h.os, h.tape, h.output, h.size, fun q hq hn => h.block q hq fun e => hn (by rw [e])⟩
/-- What lies in memory when the loops begin. -/
structure Rst (w w4 : World) (r : RuD) (B8 B9 : Nat) (Y : List SX) (sv : Value) : Prop where
  b9 : w4.heap[B9]? = some (.cells (scC (zSc r) sv (.slice none 0 0)) 60 (0, 0))
  b8 : w4.heap[B8]? = some (.cells z14 60 (0, 0))
  ne : B8 ≠ B9
  l : w.heap.size ≤ B8 ∧ w.heap.size ≤ B9
  oy : ShR w4 sv Y
  b : Below w.heap.size w w4
set_option maxRecDepth 100000 in
set_option maxHeartbeats 4000000 in
theorem look_any (b wb mb n : Nat) (ov : Value) (D : DataW Value) (N : AtN) (X : List SX) (r : RuD) (K : List LoD) (kv : Value) (V : List Int) (vv : Value) (w : World) (h : At w b wb mb n ov D N X) (hX : ∀ x ∈ X, ShB x.s) (hI : ∀ x ∈ X, I64 x.s.id) (hd : ∀ x ∈ X, ∀ y ∈ X, y.s.id = x.s.id → y = x) (hl : X.length ≤ 1000) (hsp : ∀ x ∈ X, 0 ≤ x.s.fr ∧ x.s.fr < x.s.to ∧ x.s.to ≤ 256) (hr : 0 ≤ r.cold ∧ r.cold ≤ 1073741824)
    (hk : Lds w kv K) (hkj : ∀ l ∈ K, I64 l.sh) (hkl : K.length ≤ 1000) (hv : Nums w vv V) :
    Calls Try.prog 18 #[.pointer (some ⟨b, 0, none⟩), .agg (ruC r), kv, vv] w (LkP r X K w) := by
  have HII := hid hI
  have HSH := hid (fun W (hW : At W b wb mb n ov D N X) => shards_any b wb mb n ov D N X W hW hX hI hd (by omega))
  have H := hid h
  have HK := hid hk
  have HV := hid hv
  obtain ⟨ka, kc, rfl⟩ := hk.shape
  obtain ⟨va, vc, rfl⟩ := hv.shape
  clear h hX hI hd hk hv
  unfold ruC
  go_enter Try.func18, Try.ntmps18
  go_upto_region 1 with fail
  obtain ⟨w1, hw1⟩ : ∃ w1, w1 = (w.alloc (.cells #[.int .i64 r.hot, .int .i64 r.cold, .int .i64 r.long, .int .i64 r.mute, .int .i64 r.cap] 24)).alloc (.cells #[.int .i64 0, .int .i64 0, .int .i64 0, .int .i64 0, .int .i64 0, .slice none 0 0, .slice none 0 0, .bool false, .bool false, .bool false, .bool false, .bool false, .bool false, .bool false] 60) := ⟨_, rfl⟩
  obtain ⟨hA, hB⟩ := heap_two w (.cells #[.int .i64 r.hot, .int .i64 r.cold, .int .i64 r.long, .int .i64 r.mute, .int .i64 r.cap] 24) (.cells #[.int .i64 0, .int .i64 0, .int .i64 0, .int .i64 0, .int .i64 0, .slice none 0 0, .slice none 0 0, .bool false, .bool false, .bool false, .bool false, .bool false, .bool false, .bool false] 60)
  rw [← hw1] at hA hB
  have B1 : Hid (Below w.heap.size w w1) := hid (by rw [hw1]; exact ((Below.refl _ _).alloc (Nat.le_refl _) _).alloc (by simp) _)
  rw [← hw1]
  clear hw1
  obtain ⟨B8, hB8⟩ : ∃ P, P = w.heap.size + 1 := ⟨_, rfl⟩
  rw [← hB8] at hB
  rw [← hB8]
  obtain ⟨A5, hA5⟩ : ∃ P, P = w.heap.size := ⟨_, rfl⟩
  rw [← hA5] at hA
  rw [← hA5]
  have L8 : Hid (w.heap.size ≤ B8) := hid (by omega)
  have HB8 := hid hB
  have HA5 := hid hA
  have H1 := hid (H.out.below B1.out)
  clear hA hB hA5 hB8 H
  obtain ⟨dR, hdR1, hdR2⟩ := Try.rowRu
  have SB : Hid (∀ Y, Below w1.heap.size w1 Y → Y.rangeAt A5 0 [.int .i64 r.hot, .int .i64 r.cold, .int .i64 r.long, .int .i64 r.mute, .int .i64 r.cap]) := hid fun Y hY => range_of_row ((hY.block A5 (lt_of_block HA5.out)).trans HA5.out) 0 _ fun j v hv => by rw [Nat.zero_add]; simpa using hv
  refine wp_region_held_drew (S := fun Y => Y.rangeAt A5 0 [.int .i64 r.hot, .int .i64 r.cold, .int .i64 r.long, .int .i64 r.mute, .int .i64 r.cap]) (by kernel_rfl) (SB.out _ ((Below.refl _ _).drew)) (fun hHeld => ?_)
  refine wpAnyH_take (i := 0) (v := .agg #[.int .i64 r.hot, .int .i64 r.cold, .int .i64 r.long, .int .i64 r.mute, .int .i64 r.cap]) rfl (by kernel_rfl) (by kernel_rfl) (by kernel_rfl) (fun _ _ _ h => h) (yieldsIf_load_mid rfl _ _ rfl A5 0 rfl [.int .i64 r.hot, .int .i64 r.cold, .int .i64 r.long, .int .i64 r.mute, .int .i64 r.cap] dR (fun Y hY => hY) hdR1 hdR2 Try.sizeRu) (by assumption) ?_
  (try simp only [Act.put, putS])
  refine wpAnyH_take (i := 1) (v := ?pv1) rfl (by kernel_rfl) (by kernel_rfl) (by kernel_rfl) (fun _ _ _ h => h) (Or.inl ⟨by rfl, ?py1⟩) (by assumption) ?pr1
  case py1 => (intro w hSw; (try dsimp only at hSw); go_simp; try with_reducible rfl)
  (try simp only [Act.put, putS])
  refine wpAnyH_ready (rs := [2, 4]) (by kernel_rfl) (by simp) ?_
  refine AllReadyH.cons rfl (fun K hK => ?_) (AllReadyH.cons rfl (fun K hK => ?_) AllReadyH.nil)
  · rw [if_pos (by rfl)]
    go_wp2_with fail
    refine (HSH.out _ (H1.out.below ((Below.refl _ _).drew))).mono ?_
    rintro e w2 ⟨Y, ya, yc, rfl, hys, hyo, hym, hyb⟩
    have HYS := hid hys
    have B12 : Hid (Below w1.heap.size w1 w2) := hid (((Below.refl w1.heap.size w1).drew).trans hyb)
    have OY2 := hid hyo
    have MY2 := hid hym
    clear hys hyo hym hyb
    refine hK.out _ _ (SB.out _ B12.out) (fun hHeld => ?_)
    clear hK K
    (try simp only [Act.put, putS])
    refine wpAnyH_take (i := 3) (v := .agg #[.int .i64 r.hot, .int .i64 r.cold, .int .i64 r.long, .int .i64 r.mute, .int .i64 r.cap, .slice ya Y.length yc, .slice none 0 0, .bool false, .bool false, .bool false, .bool false, .bool false, .bool false, .bool false]) rfl (by kernel_rfl) (by kernel_rfl) (by kernel_rfl) (fun _ _ _ h => h) (Or.inl ⟨by rfl, by intro w hSw; go_simp; try with_reducible rfl⟩) (by assumption) ?_
    (try simp only [Act.put, putS])
    refine wpAnyH_ready (rs := [4]) (by kernel_rfl) (by simp) ?_
    refine AllReadyH.cons rfl (fun K hK => ?_) AllReadyH.nil
    rw [if_pos (by rfl)]
    go_simp
    have b23 : Below w2.heap.size w2 (w2.alloc (.cells #[.int .i64 0, .int .i64 0, .int .i64 0, .int .i64 0, .int .i64 0, .slice none 0 0, .slice none 0 0, .bool false, .bool false, .bool false, .bool false, .bool false, .bool false, .bool false] 60)) := (Below.refl _ _).alloc (Nat.le_refl _) _
    refine hK.out _ _ (SB.out _ (B12.out.trans (b23.mono B12.out.size))) (fun hHeld => ?_)
    clear hK K
    (try simp only [Act.put, putS])
    have HZ9 := hid (heap_alloc_new w2 (.cells #[.int .i64 0, .int .i64 0, .int .i64 0, .int .i64 0, .int .i64 0, .slice none 0 0, .slice none 0 0, .bool false, .bool false, .bool false, .bool false, .bool false, .bool false, .bool false] 60))
    have B3 := hid (B12.out.trans (b23.mono B12.out.size))
    have L9 : Hid (w1.heap.size ≤ w2.heap.size) := hid B12.out.size
    have HC8 := hid ((B3.out.block B8 (lt_of_block HB8.out)).trans HB8.out)
    have HNE : Hid (B8 ≠ w2.heap.size) := hid (by have := lt_of_block HB8.out; have := L9.out; omega)
    have HSR3 : Hid (ShR (w2.alloc (.cells #[.int .i64 0, .int .i64 0, .int .i64 0, .int .i64 0, .int .i64 0, .slice none 0 0, .slice none 0 0, .bool false, .bool false, .bool false, .bool false, .bool false, .bool false, .bool false] 60)) (.slice ya Y.length yc) Y) := hid ((⟨own_lower OY2.out (Nat.zero_le _), MY2.out⟩ : ShR w2 (.slice ya Y.length yc) Y).below b23)
    clear b23 OY2 MY2 B12
    generalize w2.alloc (.cells #[.int .i64 0, .int .i64 0, .int .i64 0, .int .i64 0, .int .i64 0, .slice none 0 0, .slice none 0 0, .bool false, .bool false, .bool false, .bool false, .bool false, .bool false, .bool false] 60) = w3 at *
    generalize w2.heap.size = B9 at *
    refine wpAnyH_ready (rs := [5]) (by kernel_rfl) (by simp) ?_
    refine AllReadyH.cons rfl (fun K hK => ?_) AllReadyH.nil
    rw [if_pos (by rfl)]
    refine wp_store_row _ _ _ rfl B9 #[.int .i64 r.hot, .int .i64 r.cold, .int .i64 r.long, .int .i64 r.mute, .int .i64 r.cap, .slice ya Y.length yc, .slice none 0 0, .bool false, .bool false, .bool false, .bool false, .bool false, .bool false, .bool false] rfl rfl _ _ HZ9.out Try.sizeSc rfl (by simp [Value.oneCell']) ?_
    have HB9 : Hid ((w3.setRow B9 #[.int .i64 r.hot, .int .i64 r.cold, .int .i64 r.long, .int .i64 r.mute, .int .i64 r.cap, .slice ya Y.length yc, .slice none 0 0, .bool false, .bool false, .bool false, .bool false, .bool false, .bool false, .bool false]).heap[B9]? = some (.cells (scC (zSc r) (.slice ya Y.length yc) (.slice none 0 0)) 60 (0, 0))) := hid (setRow_heap _ _ _ #[.int .i64 r.hot, .int .i64 r.cold, .int .i64 r.long, .int .i64 r.mute, .int .i64 r.cap, .slice ya Y.length yc, .slice none 0 0, .bool false, .bool false, .bool false, .bool false, .bool false, .bool false, .bool false] _ _ HZ9.out)
    have B4 := hid (below_row B3.out L9.out #[.int .i64 r.hot, .int .i64 r.cold, .int .i64 r.long, .int .i64 r.mute, .int .i64 r.cap, .slice ya Y.length yc, .slice none 0 0, .bool false, .bool false, .bool false, .bool false, .bool false, .bool false, .bool false])
    refine hK.out _ _ (SB.out _ B4.out) (fun hHeld => ?_)
    clear hK K hHeld
    (try simp only [Act.put, putS])
    refine wpAnyH_done (by kernel_rfl) ?_ _
    have R4 : Hid (Rst w (w3.setRow B9 #[.int .i64 r.hot, .int .i64 r.cold, .int .i64 r.long, .int .i64 r.mute, .int .i64 r.cap, .slice ya Y.length yc, .slice none 0 0, .bool false, .bool false, .bool false, .bool false, .bool false, .bool false, .bool false]) r B8 B9 Y (.slice ya Y.length yc)) := hid ⟨HB9.out, (setRow_other _ _ _ _ HNE.out).trans HC8.out, HNE.out, ⟨L8.out, Nat.le_trans B1.out.size L9.out⟩, HSR3.out.kpc (KpC.row HZ9.out), B1.out.trans (B4.out.mono B1.out.size)⟩
    generalize w3.setRow B9 #[.int .i64 r.hot, .int .i64 r.cold, .int .i64 r.long, .int .i64 r.mute, .int .i64 r.cap, .slice ya Y.length yc, .slice none 0 0, .bool false, .bool false, .bool false, .bool false, .bool false, .bool false, .bool false] = w4 at *
    clear HB9 B4 HNE HC8 HSR3 HZ9 L9 L8 SB B3 HB8 HA5 H1 B1 HSH
    have hmm := @run_makeMap Try.prog
    have HYS := HYS
    go_wp2_with fail
    have b45 : Below w4.heap.size w4 (w4.alloc (.map #[] 0)) := (Below.refl _ _).alloc (Nat.le_refl _) _
    have own5 := World.ownsMap_made w4 Try.prog 3 RLo
    have B5 := hid (R4.out.b.trans (b45.mono R4.out.b.size))
    have K5 := hid (KpC.below b45)
    have N9 := hid ((b45.block B9 (lt_of_block R4.out.b9)).trans R4.out.b9)
    have N8 := hid ((b45.block B8 (lt_of_block R4.out.b8)).trans R4.out.b8)
    have LM9 : Hid (w.heap.size ≤ w4.heap.size) := hid R4.out.b.size
    have HO5 := hid own5
    clear b45 own5 hmm
    generalize w4.alloc (.map #[] 0) = w5 at *
    generalize w4.heap.size = M at *
    go_loopw [12, 23] (fun _ iv wr => ∃ (j : Nat) (D1 : DataW Value), iv = .int .i64 j ∧ j ≤ K.length ∧ LM D1 (K.take j) ∧ wr.ownsMap Try.prog 3 RLo M j D1 ∧ Tr (fun q => q = M) w5 wr) (fun _ iv _ => K.length - (intOf iv).toNat)
    case atStart => exact ⟨0, _, rfl, Nat.zero_le _, LM.nil, HO5.out, Tr.refl _ _⟩
    case round =>
      obtain ⟨j, D1, rfl, hj, hlm, hown, htr⟩ := hrel
      have HLM := hid hlm
      have HOW := hid hown
      have TR := hid htr
      have BR : Hid (Below w.heap.size w wr) := hid (B5.out.trans (htr.to (fun q hq => by rw [show q = M from hq]; exact LM9.out) B5.out.size))
      clear hlm hown htr
      by_cases hlt : (j : Int) < (K.length : Int)
      · have hjl : j < K.length := by omega
        obtain ⟨kb, ko, rfl⟩ := HK.out.addr (by omega)
        have hRG := (HK.out.below BR.out).range j hjl
        have HTK := hid (show K.take (j + 1) = K.take j ++ [K[j]] by rw [List.take_add_one, List.getElem?_eq_getElem hjl]; simp)
        have HIL := hid (hkj K[j] (List.getElem_mem hjl))
        unfold LoD.c at hRG
        generalize K[j] = l at *
        go_upto_region 6 with (refine wpl_loadLo rfl _ rfl kb (ko + j * 4) (by go_simp) _ _ _ _ hRG ?_)
        have hb6 : Below wr.heap.size wr (wr.alloc (.cells #[.int .i64 l.sh, .int .i64 l.cm, .int .i64 l.ins, .int .i64 l.mid] 54)) := (Below.refl _ _).alloc (Nat.le_refl _) _
        have hP6 := heap_alloc_new wr (.cells #[.int .i64 l.sh, .int .i64 l.cm, .int .i64 l.ins, .int .i64 l.mid] 54)
        have ho6 := HOW.out.kept (row := none) (grown_of_below hb6 none) (by simp)
        obtain ⟨w7, hrun, ho7, hg7⟩ := ho6.update intK Try.underlyingMl (by unfold maxLen; omega) (key_of l.sh HIL.out) (RLo_mk ⟨l, rfl⟩)
        have HO7 := hid ho7
        have TR7 : Hid (Tr (fun q => q = M) w5 w7) := hid (TR.out.trans ((Tr.below hb6).trans (Tr.grown hg7 rfl)))
        clear ho6 ho7 hg7 hb6 hRG
        generalize wr.alloc (.cells #[.int .i64 l.sh, .int .i64 l.cm, .int .i64 l.ins, .int .i64 l.mid] 54) = w6 at *
        generalize wr.heap.size = P6 at *
        have hR6 : w6.rangeAt P6 0 [.int .i64 l.sh, .int .i64 l.cm, .int .i64 l.ins, .int .i64 l.mid] := range_of_row hP6 0 _ fun j v hv => by rw [Nat.zero_add]; simpa using hv
        have p0 : w6.cell? ⟨P6, 0, none⟩ = some (.int .i64 l.sh) := by rw [cell_of_row _ _ _ _ _ _ hP6]; rfl
        unfold loV at hrun
        clear hP6
        go_wp2_with (first | (refine wpl_loadLo rfl _ rfl P6 0 rfl _ _ _ _ hR6 ?_) | (refine wpl_updLo rfl _ _ _ rfl rfl rfl rfl hrun ?_))
        go_roundw
        case rel => exact ⟨j + 1, _, by go_num, by omega, by rw [HTK.out]; exact HLM.out.put l, HO7.out, TR7.out⟩
        case measure => simp [intOf]; omega
      · obtain rfl : j = K.length := by omega
        have HLK : Hid (LM D1 K) := hid (by have := HLM.out; rwa [List.take_length] at this)
        have KR : Hid (KpC w5 wr) := hid (KpC.tr TR.out fun q cs t fr hq _ e => by obtain ⟨es, clock, hm, -⟩ := HO5.out; rw [show q = M from e, hm] at hq; cases hq)
        have hM9 : B9 ≠ M := fun e => by obtain ⟨es, clock, hm, -⟩ := HO5.out; have := N9.out; rw [e, hm] at this; cases this
        have hM8 : B8 ≠ M := fun e => by obtain ⟨es, clock, hm, -⟩ := HO5.out; have := N8.out; rw [e, hm] at this; cases this
        have Q9 := hid ((TR.out.block B9 (lt_of_block N9.out) hM9).trans N9.out)
        have Q8 := hid ((TR.out.block B8 (lt_of_block N8.out) hM8).trans N8.out)
        have HSY := hid ((R4.out.oy.kpc K5.out).kpc KR.out)
        have HM9 := hid hM9
        clear KR K5 N9 N8 TR HLM HO5 hM9 hM8
        have c5 : wr.cell? ⟨B9, 5, none⟩ = some (.slice ya Y.length yc) := by rw [cell_of_row _ _ _ _ _ _ Q9.out]; rfl
        have HYL : Hid (Y.length = X.length) := hid (by have := congrArg List.length HYS.out; simpa using this)
        have hYl : Y.length ≤ 1000 := by have := HYL.out; omega
        have HYI : Hid (∀ y ∈ Y, (0 ≤ y.s.fr ∧ y.s.fr < y.s.to ∧ y.s.to ≤ 256) ∧ I64 y.s.id) := hid fun y hy => by
          have hm : y.s ∈ X.map (·.s) := by rw [← HYS.out]; exact List.mem_map.2 ⟨y, hy, rfl⟩
          obtain ⟨x, hx, he⟩ := List.mem_map.1 hm
          rw [← he]
          exact ⟨hsp x hx, HII.out x hx⟩
        go_upto_region 9 with fail
        clear c5
        obtain ⟨wq, rfl⟩ : ∃ x, x = wr := ⟨_, rfl⟩
        go_loopw [14, 35] (fun _ iv wr => ∃ (i : Nat) (lv : Value), iv = .int .i64 i ∧ i ≤ Y.length ∧ wr.heap[B9]? = some (.cells (scC (zSc r) (.slice ya Y.length yc) lv) 60 (0, 0)) ∧ wr.ownsRow wq.heap.size 54 4 lv i (lovs ((Y.take i).map fun y => ldOf K y.s.id)) ∧ Tr (fun q => q = B9) wq wr) (fun _ iv _ => Y.length - (intOf iv).toNat)
        case atStart => exact ⟨0, _, rfl, Nat.zero_le _, Q9.out, World.ownsRow_nil _ _ _ _, Tr.refl _ _⟩
        case round =>
          obtain ⟨i, lv, rfl, hi, hq9, hol, htr⟩ := hrel
          obtain ⟨la, lc, rfl⟩ := own_shape hol
          have TS := hid htr
          have S9 := hid hq9
          have OL := hid hol
          have KS : Hid (KpC wq wr) := hid (KpC.tr htr fun q cs t fr hq ht e => by rw [show q = B9 from e, Q9.out] at hq; cases hq; exact ht rfl)
          have HSS := hid (HSY.out.kpc KS.out)
          have BS : Hid (Below w.heap.size w wr) := hid (BR.out.trans (htr.to (fun q hq => by rw [show q = B9 from hq]; exact R4.out.l.2) BR.out.size))
          have HOS := hid (HOW.out.kept htr.grownS (by intro e; exact HM9.out (by cases e; rfl)))
          clear hq9 hol htr
          by_cases hlt2 : (i : Int) < (Y.length : Int)
          · have hil : i < Y.length := by omega
            obtain ⟨g, vc', e1⟩ := HSS.out.shape (by omega)
            cases e1
            have hRG := HSS.out.range i hil
            obtain ⟨S, ma, mc, pa, pc, hYi⟩ := HSS.out.sl i hil
            have HSI := hid (HYI.out _ (List.getElem_mem hil)).2
            have HTK : Hid ((Y.take (i + 1)).map (fun y => ldOf K y.s.id) = (Y.take i).map (fun y => ldOf K y.s.id) ++ [ldOf K S.id]) := hid (by rw [List.take_add_one, List.getElem?_eq_getElem hil, hYi]; simp)
            rw [hYi] at hRG HSI
            clear hYi
            unfold SX.c at hRG
            simp only at hRG HSI
            go_upto_region 11 with (refine wpl_loadM rfl _ rfl g (i * 5) (by go_simp) _ _ _ _ _ hRG ?_)
            have hb6 : Below wr.heap.size wr (wr.alloc (.cells #[.int .i64 S.id, .int .i64 S.fr, .int .i64 S.to, .slice ma S.mem.length mc, .slice pa S.past.length pc] 70)) := (Below.refl _ _).alloc (Nat.le_refl _) _
            have hP6 := heap_alloc_new wr (.cells #[.int .i64 S.id, .int .i64 S.fr, .int .i64 S.to, .slice ma S.mem.length mc, .slice pa S.past.length pc] 70)
            have HB6 := hid (Tr.below (R := fun q => q = B9) hb6)
            have HP6 := hid hP6
            have ho6 := HOS.out.kept (row := none) (grown_of_below hb6 none) (by simp)
            have O6 := hid (own_below OL.out hb6)
            have S6 := hid ((hb6.block B9 (lt_of_block S9.out)).trans S9.out)
            have LW : Hid (wq.heap.size ≤ (wr.alloc (.cells #[.int .i64 S.id, .int .i64 S.fr, .int .i64 S.to, .slice ma S.mem.length mc, .slice pa S.past.length pc] 70)).heap.size) := hid (Nat.le_trans TS.out.size hb6.size)
            obtain ⟨w6, hw6⟩ : ∃ w6, w6 = wr.alloc (.cells #[.int .i64 S.id, .int .i64 S.fr, .int .i64 S.to, .slice ma S.mem.length mc, .slice pa S.past.length pc] 70) := ⟨_, rfl⟩
            rw [← hw6] at ho6 O6 S6 HB6 HP6 LW
            rw [← hw6]
            clear hw6 hb6 hP6 hRG
            generalize wr.heap.size = SP at *
            have p0 : w6.cell? ⟨SP, 0, none⟩ = some (.int .i64 S.id) := by rw [cell_of_row _ _ _ _ _ _ HP6.out]; rfl
            have c6 : w6.cell? ⟨B9, 6, none⟩ = some (.slice la i lc) := by rw [cell_of_row _ _ _ _ _ _ S6.out]; rfl
            have hlk := HLK.out.look ho6 S.id HSI.out
            clear ho6
            generalize ldOf K S.id = l at *
            unfold loV at hlk
            have hbl : Below w6.heap.size w6 (w6.alloc (.cells #[.int .i64 l.sh, .int .i64 l.cm, .int .i64 l.ins, .int .i64 l.mid] 54)) := (Below.refl _ _).alloc (Nat.le_refl _) _
            have HBL := hid hbl
            have OA := hid (own_below O6.out hbl)
            have YA : Hid (∀ j u, (LoD.c l)[j]? = some u → (w6.alloc (.cells #[.int .i64 l.sh, .int .i64 l.cm, .int .i64 l.ins, .int .i64 l.mid] 54)).cell? ⟨w6.heap.size, j, none⟩ = some u) := hid fun j u hj => by
              rw [cell_of_row _ _ _ _ _ _ (heap_alloc_new _ _)]; unfold LoD.c at hj; simpa using hj
            clear hbl
            have SA := hid ((HBL.out.block B9 (lt_of_block S6.out)).trans S6.out)
            have LA : Hid (wq.heap.size ≤ (w6.alloc (.cells #[.int .i64 l.sh, .int .i64 l.cm, .int .i64 l.ins, .int .i64 l.mid] 54)).heap.size) := hid (Nat.le_trans LW.out HBL.out.size)
            have TA : Hid (Tr (fun q => q = B9) wq (w6.alloc (.cells #[.int .i64 l.sh, .int .i64 l.cm, .int .i64 l.ins, .int .i64 l.mid] 54))) := hid ((TS.out.trans HB6.out).trans (Tr.below HBL.out))
            go_upto_region 12 with (at_builtin; refine wpl_app rowLo rfl _ _ rfl wq.heap.size (.slice la i lc) i (lovs ((Y.take i).map fun y => ldOf K y.s.id)) rfl OA.out w6.heap.size 1 1 (LoD.c l) rfl rfl YA.out (by simp [LoD.c, Value.oneCell']) (by omega) LA.out ?_; intro va9 vc9 w9 ho9 hg9; have b99 := (hg9.block B9 (lt_of_block SA.out) (fun e => own_ne OA.out SA.out (by decide) e.symm)).trans SA.out; have k9 : w9.cell? ⟨B9, 6, none⟩ = some (.slice la i lc) := (cell_of_row _ _ _ _ _ _ b99).trans rfl; have f9 : w9.frozen? ⟨B9, 6, none⟩ = false := frozen_of_row _ _ _ _ _ b99; have HB99 := hid b99; have HO9 := hid ho9; have HG9 := hid hg9; clear b99 ho9 hg9)
            have TR9 : Tr (fun q => q = B9) wq w9 := ⟨HG9.out.os.trans TA.out.os, HG9.out.tape.trans TA.out.tape, HG9.out.output.trans TA.out.output, Nat.le_trans TA.out.size HG9.out.size, fun q hq hne => (HG9.out.block q (Nat.lt_of_lt_of_le hq LA.out) (fun e => by have := (World.ownsRow.lt OA.out q e.symm).1; omega)).trans (TA.out.block q hq hne)⟩
            have HT9 := hid (TR9.trans (Tr.set (i := 6) (v := .slice va9 (i + 1) vc9) rfl))
            have HX9 : Hid ((w9.setCell ⟨B9, 6, none⟩ (.slice va9 (i + 1) vc9)).heap[B9]? = some (.cells (scC (zSc r) (.slice (some ⟨g, 0, none⟩) Y.length yc) (.slice va9 (i + 1) vc9)) 60 (0, 0))) := hid (heap_setCell_same _ _ _ _ _ _ HB99.out)
            have HY9 := hid (own_set (i := 6) (u := .slice va9 (i + 1) vc9) HO9.out HB99.out (by decide))
            clear TR9 k9 f9
            go_wp2_with fail
            go_roundw
            case rel => exact ⟨i + 1, _, by go_num, by omega, HX9.out, by rw [HTK.out, lovs_append, show lovs [l] = LoD.c l from by simp [lovs]]; exact HY9.out, HT9.out⟩
            case measure => simp [intOf]; omega
          · obtain rfl : i = Y.length := by omega
            have OLF : Hid (wr.ownsRow wq.heap.size 54 4 (.slice la Y.length lc) Y.length (lovs (Y.map fun y => ldOf K y.s.id))) := hid (by have := OL.out; rwa [List.take_length] at this)
            have T8 := hid ((TS.out.block B8 (lt_of_block Q8.out) R4.out.ne).trans Q8.out)
            obtain ⟨wp, rfl⟩ : ∃ x, x = wr := ⟨_, rfl⟩
            clear TS OL KS HOS
            go_upto_region 13 with fail
            go_wp2_with fail
            go_loopw [15, 49] (fun _ iv wr => ∃ (n : Nat) (s : ScD), iv = .int .i64 n ∧ n ≤ 7 ∧ s.r = r ∧ wr.heap[B9]? = some (.cells (scC s (.slice ya Y.length yc) (.slice la Y.length lc)) 60 (0, 0)) ∧ Tr (fun q => q = B9) wp wr) (fun _ iv _ => 7 - (intOf iv).toNat)
            case atStart => exact ⟨0, _, rfl, by omega, rfl, S9.out, Tr.refl _ _⟩
            case round =>
              obtain ⟨n, s, rfl, hn, hsr, hq9, htr⟩ := hrel
              have TT := hid htr
              have U9 := hid hq9
              have HSR := hid hsr
              have BT : Hid (Below w.heap.size w wr) := hid (BS.out.trans (htr.to (fun q hq => by rw [show q = B9 from hq]; exact R4.out.l.2) BS.out.size))
              clear hsr hq9 htr
              by_cases hlt3 : (n : Int) < 7
              · have hn7 : n < 7 := by omega
                obtain ⟨bb, hbb⟩ := scC_at s (.slice ya Y.length yc) (.slice la Y.length lc) n hn7
                have k9 : wr.cell? ⟨B9, 7 + n, none⟩ = some (.bool bb) := (cell_of_row _ _ _ _ _ _ U9.out).trans hbb
                have f9 : wr.frozen? ⟨B9, 7 + n, none⟩ = false := frozen_of_row _ _ _ _ _ U9.out
                have HCN := hid (ncontains_any V n _ wr (HV.out.below BT.out))
                have HUX : Hid (∀ c : Bool, (wr.setCell ⟨B9, 7 + n, none⟩ (.bool c)).heap[B9]? = some (.cells (scC (s.set n c) (.slice ya Y.length yc) (.slice la Y.length lc)) 60 (0, 0))) := hid fun c => by rw [← scC_set _ _ _ n hn7 c]; exact heap_setCell_same _ _ _ _ _ _ U9.out
                have HUT : Hid (∀ c : Bool, Tr (fun q => q = B9) wp (wr.setCell ⟨B9, 7 + n, none⟩ (.bool c))) := hid fun c => TT.out.trans (Tr.set rfl)
                clear hbb
                generalize decide ((n : Int) ∈ V) = cb at *
                go_wp2_with (go_at_call 45; refine HCN.out.mono ?_; rintro e w2 ⟨rfl, hw2⟩; replace hw2 := hw2.symm; subst hw2)
                go_roundw
                case rel => exact ⟨n + 1, s.set n cb, by go_num, by omega, (ScD.set_r s n cb).trans HSR.out, HUX.out cb, HUT.out cb⟩
                case measure => simp [intOf]; omega
              · have hT8 := (TT.out.block B8 (lt_of_block T8.out) R4.out.ne).trans T8.out
                have KT : Hid (KpC wp wr) := hid (KpC.tr TT.out fun q cs t fr hq ht e => by rw [show q = B9 from e, S9.out] at hq; cases hq; exact ht rfl)
                have HT8 := hid hT8
                have hu9 := U9.out
                go_wp2_with (first | (refine wpl_loadSc rfl _ rfl B9 rfl _ _ _ rfl hu9 ?_) | (refine wpList_store_row rfl _ _ _ rfl B8 (scC s (.slice ya Y.length yc) (.slice la Y.length lc)) rfl rfl _ _ hT8 Try.sizeSc rfl (by simp [scC, Value.oneCell']) ?_))
                (try simp only [Exit.inBlock, Exit.then])
                refine bodyPost_ret (results_sc rfl _ _ B8 _ _ _ rfl rfl (setRow_heap _ _ _ _ _ _ HT8.out)) rfl ?_
                have KF : KpC wp (wr.setRow B8 (scC s (.slice ya Y.length yc) (.slice la Y.length lc))) := KT.out.trans (KpC.row HT8.out)
                exact ⟨s, Y, _, _, rfl, HSR.out, HYS.out, ⟨HSS.out.kpc KF, by rw [List.length_map]; exact own_lower (own_kept OLF.out fun q cs _ hh => KF q cs _ _ hh (by decide)) (Nat.zero_le _), by simp, by omega, fun y hy => (HYI.out y hy).1, fun y hy => (HYI.out y hy).2, by rw [HSR.out]; exact hr⟩, below_row BT.out R4.out.l.1 _⟩
  · rw [if_pos (by rfl)]
    go_simp
    have b23 : Below w1.heap.size w1 (w1.alloc (.cells #[.int .i64 0, .int .i64 0, .int .i64 0, .int .i64 0, .int .i64 0, .slice none 0 0, .slice none 0 0, .bool false, .bool false, .bool false, .bool false, .bool false, .bool false, .bool false] 60)) := (Below.refl _ _).alloc (Nat.le_refl _) _
    refine hK.out _ _ (SB.out _ b23.drew) (fun hHeld => ?_)
    clear hK K
    (try simp only [Act.put, putS])
    refine wpAnyH_ready (rs := [2]) (by kernel_rfl) (by simp) ?_
    refine AllReadyH.cons rfl (fun K hK => ?_) AllReadyH.nil
    rw [if_pos (by rfl)]
    have hz9 := heap_alloc_new w1 (.cells #[.int .i64 0, .int .i64 0, .int .i64 0, .int .i64 0, .int .i64 0, .slice none 0 0, .slice none 0 0, .bool false, .bool false, .bool false, .bool false, .bool false, .bool false, .bool false] 60)
    have HZ2 := hid hz9
    have HB23 := hid b23
    have LB9 : Hid (w1.heap.size ≤ w1.heap.size) := hid (Nat.le_refl _)
    have HNE : Hid (B8 ≠ w1.heap.size) := hid (by have := lt_of_block HB8.out; omega)
    clear hz9 b23
    generalize w1.alloc (.cells #[.int .i64 0, .int .i64 0, .int .i64 0, .int .i64 0, .int .i64 0, .slice none 0 0, .slice none 0 0, .bool false, .bool false, .bool false, .bool false, .bool false, .bool false, .bool false] 60) = w2 at *
    obtain ⟨B9, hB9⟩ : ∃ B, B = w1.heap.size := ⟨_, rfl⟩
    have L9 : Hid (w1.heap.size ≤ B9) := hid (by omega)
    rw [← hB9] at HZ2 HNE
    rw [← hB9]
    clear LB9 hB9
    go_wp2_with fail
    refine (HSH.out _ ((H1.out.below HB23.out).below ((Below.refl _ _).drew))).mono ?_
    rintro e w3 ⟨Y, ya, yc, rfl, hys, hyo, hym, hyb⟩
    have HYS := hid hys
    have b3 : Below w2.heap.size w2 w3 := ((Below.refl w2.heap.size w2).drew).trans hyb
    have B3 : Hid (Below w1.heap.size w1 w3) := hid (HB23.out.trans (b3.mono HB23.out.size))
    have HSR3 : Hid (ShR w3 (.slice ya Y.length yc) Y) := hid ⟨own_lower hyo (Nat.zero_le _), hym⟩
    have HZ9 := hid ((b3.block B9 (lt_of_block HZ2.out)).trans HZ2.out)
    have HC8 := hid ((B3.out.block B8 (lt_of_block HB8.out)).trans HB8.out)
    clear hys hyo hym hyb b3 HZ2 HB23
    refine hK.out _ _ (SB.out _ B3.out) (fun hHeld => ?_)
    clear hK K
    (try simp only [Act.put, putS])
    refine wpAnyH_take (i := 3) (v := .agg #[.int .i64 r.hot, .int .i64 r.cold, .int .i64 r.long, .int .i64 r.mute, .int .i64 r.cap, .slice ya Y.length yc, .slice none 0 0, .bool false, .bool false, .bool false, .bool false, .bool false, .bool false, .bool false]) rfl (by kernel_rfl) (by kernel_rfl) (by kernel_rfl) (fun _ _ _ h => h) (Or.inl ⟨by rfl, by intro w hSw; go_simp; try with_reducible rfl⟩) (by assumption) ?_
    (try simp only [Act.put, putS])
    refine wpAnyH_ready (rs := [5]) (by kernel_rfl) (by simp) ?_
    refine AllReadyH.cons rfl (fun K hK => ?_) AllReadyH.nil
    rw [if_pos (by rfl)]
    refine wp_store_row _ _ _ rfl B9 #[.int .i64 r.hot, .int .i64 r.cold, .int .i64 r.long, .int .i64 r.mute, .int .i64 r.cap, .slice ya Y.length yc, .slice none 0 0, .bool false, .bool false, .bool false, .bool false, .bool false, .bool false, .bool false] rfl rfl _ _ HZ9.out Try.sizeSc rfl (by simp [Value.oneCell']) ?_
    have HB9 : Hid ((w3.setRow B9 #[.int .i64 r.hot, .int .i64 r.cold, .int .i64 r.long, .int .i64 r.mute, .int .i64 r.cap, .slice ya Y.length yc, .slice none 0 0, .bool false, .bool false, .bool false, .bool false, .bool false, .bool false, .bool false]).heap[B9]? = some (.cells (scC (zSc r) (.slice ya Y.length yc) (.slice none 0 0)) 60 (0, 0))) := hid (setRow_heap _ _ _ #[.int .i64 r.hot, .int .i64 r.cold, .int .i64 r.long, .int .i64 r.mute, .int .i64 r.cap, .slice ya Y.length yc, .slice none 0 0, .bool false, .bool false, .bool false, .bool false, .bool false, .bool false, .bool false] _ _ HZ9.out)
    have B4 := hid (below_row B3.out L9.out #[.int .i64 r.hot, .int .i64 r.cold, .int .i64 r.long, .int .i64 r.mute, .int .i64 r.cap, .slice ya Y.length yc, .slice none 0 0, .bool false, .bool false, .bool false, .bool false, .bool false, .bool false, .bool false])
    refine hK.out _ _ (SB.out _ B4.out) (fun hHeld => ?_)
    clear hK K hHeld
    (try simp only [Act.put, putS])
    refine wpAnyH_done (by kernel_rfl) ?_ _
    have R4 : Hid (Rst w (w3.setRow B9 #[.int .i64 r.hot, .int .i64 r.cold, .int .i64 r.long, .int .i64 r.mute, .int .i64 r.cap, .slice ya Y.length yc, .slice none 0 0, .bool false, .bool false, .bool false, .bool false, .bool false, .bool false, .bool false]) r B8 B9 Y (.slice ya Y.length yc)) := hid ⟨HB9.out, (setRow_other _ _ _ _ HNE.out).trans HC8.out, HNE.out, ⟨L8.out, Nat.le_trans B1.out.size L9.out⟩, HSR3.out.kpc (KpC.row HZ9.out), B1.out.trans (B4.out.mono B1.out.size)⟩
    generalize w3.setRow B9 #[.int .i64 r.hot, .int .i64 r.cold, .int .i64 r.long, .int .i64 r.mute, .int .i64 r.cap, .slice ya Y.length yc, .slice none 0 0, .bool false, .bool false, .bool false, .bool false, .bool false, .bool false, .bool false] = w4 at *
    clear HB9 B4 HNE HC8 HSR3 HZ9 L9 L8 SB B3 HB8 HA5 H1 B1 HSH
    have hmm := @run_makeMap Try.prog
    have HYS := HYS
    go_wp2_with fail
    have b45 : Below w4.heap.size w4 (w4.alloc (.map #[] 0)) := (Below.refl _ _).alloc (Nat.le_refl _) _
    have own5 := World.ownsMap_made w4 Try.prog 3 RLo
    have B5 := hid (R4.out.b.trans (b45.mono R4.out.b.size))
    have K5 := hid (KpC.below b45)
    have N9 := hid ((b45.block B9 (lt_of_block R4.out.b9)).trans R4.out.b9)
    have N8 := hid ((b45.block B8 (lt_of_block R4.out.b8)).trans R4.out.b8)
    have LM9 : Hid (w.heap.size ≤ w4.heap.size) := hid R4.out.b.size
    have HO5 := hid own5
    clear b45 own5 hmm
    generalize w4.alloc (.map #[] 0) = w5 at *
    generalize w4.heap.size = M at *
    go_loopw [12, 23] (fun _ iv wr => ∃ (j : Nat) (D1 : DataW Value), iv = .int .i64 j ∧ j ≤ K.length ∧ LM D1 (K.take j) ∧ wr.ownsMap Try.prog 3 RLo M j D1 ∧ Tr (fun q => q = M) w5 wr) (fun _ iv _ => K.length - (intOf iv).toNat)
    case atStart => exact ⟨0, _, rfl, Nat.zero_le _, LM.nil, HO5.out, Tr.refl _ _⟩
    case round =>
      obtain ⟨j, D1, rfl, hj, hlm, hown, htr⟩ := hrel
      have HLM := hid hlm
      have HOW := hid hown
      have TR := hid htr
      have BR : Hid (Below w.heap.size w wr) := hid (B5.out.trans (htr.to (fun q hq => by rw [show q = M from hq]; exact LM9.out) B5.out.size))
      clear hlm hown htr
      by_cases hlt : (j : Int) < (K.length : Int)
      · have hjl : j < K.length := by omega
        obtain ⟨kb, ko, rfl⟩ := HK.out.addr (by omega)
        have hRG := (HK.out.below BR.out).range j hjl
        have HTK := hid (show K.take (j + 1) = K.take j ++ [K[j]] by rw [List.take_add_one, List.getElem?_eq_getElem hjl]; simp)
        have HIL := hid (hkj K[j] (List.getElem_mem hjl))
        unfold LoD.c at hRG
        generalize K[j] = l at *
        go_upto_region 6 with (refine wpl_loadLo rfl _ rfl kb (ko + j * 4) (by go_simp) _ _ _ _ hRG ?_)
        have hb6 : Below wr.heap.size wr (wr.alloc (.cells #[.int .i64 l.sh, .int .i64 l.cm, .int .i64 l.ins, .int .i64 l.mid] 54)) := (Below.refl _ _).alloc (Nat.le_refl _) _
        have hP6 := heap_alloc_new wr (.cells #[.int .i64 l.sh, .int .i64 l.cm, .int .i64 l.ins, .int .i64 l.mid] 54)
        have ho6 := HOW.out.kept (row := none) (grown_of_below hb6 none) (by simp)
        obtain ⟨w7, hrun, ho7, hg7⟩ := ho6.update intK Try.underlyingMl (by unfold maxLen; omega) (key_of l.sh HIL.out) (RLo_mk ⟨l, rfl⟩)
        have HO7 := hid ho7
        have TR7 : Hid (Tr (fun q => q = M) w5 w7) := hid (TR.out.trans ((Tr.below hb6).trans (Tr.grown hg7 rfl)))
        clear ho6 ho7 hg7 hb6 hRG
        generalize wr.alloc (.cells #[.int .i64 l.sh, .int .i64 l.cm, .int .i64 l.ins, .int .i64 l.mid] 54) = w6 at *
        generalize wr.heap.size = P6 at *
        have hR6 : w6.rangeAt P6 0 [.int .i64 l.sh, .int .i64 l.cm, .int .i64 l.ins, .int .i64 l.mid] := range_of_row hP6 0 _ fun j v hv => by rw [Nat.zero_add]; simpa using hv
        have p0 : w6.cell? ⟨P6, 0, none⟩ = some (.int .i64 l.sh) := by rw [cell_of_row _ _ _ _ _ _ hP6]; rfl
        unfold loV at hrun
        clear hP6
        go_wp2_with (first | (refine wpl_loadLo rfl _ rfl P6 0 rfl _ _ _ _ hR6 ?_) | (refine wpl_updLo rfl _ _ _ rfl rfl rfl rfl hrun ?_))
        go_roundw
        case rel => exact ⟨j + 1, _, by go_num, by omega, by rw [HTK.out]; exact HLM.out.put l, HO7.out, TR7.out⟩
        case measure => simp [intOf]; omega
      · obtain rfl : j = K.length := by omega
        have HLK : Hid (LM D1 K) := hid (by have := HLM.out; rwa [List.take_length] at this)
        have KR : Hid (KpC w5 wr) := hid (KpC.tr TR.out fun q cs t fr hq _ e => by obtain ⟨es, clock, hm, -⟩ := HO5.out; rw [show q = M from e, hm] at hq; cases hq)
        have hM9 : B9 ≠ M := fun e => by obtain ⟨es, clock, hm, -⟩ := HO5.out; have := N9.out; rw [e, hm] at this; cases this
        have hM8 : B8 ≠ M := fun e => by obtain ⟨es, clock, hm, -⟩ := HO5.out; have := N8.out; rw [e, hm] at this; cases this
        have Q9 := hid ((TR.out.block B9 (lt_of_block N9.out) hM9).trans N9.out)
        have Q8 := hid ((TR.out.block B8 (lt_of_block N8.out) hM8).trans N8.out)
        have HSY := hid ((R4.out.oy.kpc K5.out).kpc KR.out)
        have HM9 := hid hM9
        clear KR K5 N9 N8 TR HLM HO5 hM9 hM8
        have c5 : wr.cell? ⟨B9, 5, none⟩ = some (.slice ya Y.length yc) := by rw [cell_of_row _ _ _ _ _ _ Q9.out]; rfl
        have HYL : Hid (Y.length = X.length) := hid (by have := congrArg List.length HYS.out; simpa using this)
        have hYl : Y.length ≤ 1000 := by have := HYL.out; omega
        have HYI : Hid (∀ y ∈ Y, (0 ≤ y.s.fr ∧ y.s.fr < y.s.to ∧ y.s.to ≤ 256) ∧ I64 y.s.id) := hid fun y hy => by
          have hm : y.s ∈ X.map (·.s) := by rw [← HYS.out]; exact List.mem_map.2 ⟨y, hy, rfl⟩
          obtain ⟨x, hx, he⟩ := List.mem_map.1 hm
          rw [← he]
          exact ⟨hsp x hx, HII.out x hx⟩
        go_upto_region 9 with fail
        clear c5
        obtain ⟨wq, rfl⟩ : ∃ x, x = wr := ⟨_, rfl⟩
        go_loopw [14, 35] (fun _ iv wr => ∃ (i : Nat) (lv : Value), iv = .int .i64 i ∧ i ≤ Y.length ∧ wr.heap[B9]? = some (.cells (scC (zSc r) (.slice ya Y.length yc) lv) 60 (0, 0)) ∧ wr.ownsRow wq.heap.size 54 4 lv i (lovs ((Y.take i).map fun y => ldOf K y.s.id)) ∧ Tr (fun q => q = B9) wq wr) (fun _ iv _ => Y.length - (intOf iv).toNat)
        case atStart => exact ⟨0, _, rfl, Nat.zero_le _, Q9.out, World.ownsRow_nil _ _ _ _, Tr.refl _ _⟩
        case round =>
          obtain ⟨i, lv, rfl, hi, hq9, hol, htr⟩ := hrel
          obtain ⟨la, lc, rfl⟩ := own_shape hol
          have TS := hid htr
          have S9 := hid hq9
          have OL := hid hol
          have KS : Hid (KpC wq wr) := hid (KpC.tr htr fun q cs t fr hq ht e => by rw [show q = B9 from e, Q9.out] at hq; cases hq; exact ht rfl)
          have HSS := hid (HSY.out.kpc KS.out)
          have BS : Hid (Below w.heap.size w wr) := hid (BR.out.trans (htr.to (fun q hq => by rw [show q = B9 from hq]; exact R4.out.l.2) BR.out.size))
          have HOS := hid (HOW.out.kept htr.grownS (by intro e; exact HM9.out (by cases e; rfl)))
          clear hq9 hol htr
          by_cases hlt2 : (i : Int) < (Y.length : Int)
          · have hil : i < Y.length := by omega
            obtain ⟨g, vc', e1⟩ := HSS.out.shape (by omega)
            cases e1
            have hRG := HSS.out.range i hil
            obtain ⟨S, ma, mc, pa, pc, hYi⟩ := HSS.out.sl i hil
            have HSI := hid (HYI.out _ (List.getElem_mem hil)).2
            have HTK : Hid ((Y.take (i + 1)).map (fun y => ldOf K y.s.id) = (Y.take i).map (fun y => ldOf K y.s.id) ++ [ldOf K S.id]) := hid (by rw [List.take_add_one, List.getElem?_eq_getElem hil, hYi]; simp)
            rw [hYi] at hRG HSI
            clear hYi
            unfold SX.c at hRG
            simp only at hRG HSI
            go_upto_region 11 with (refine wpl_loadM rfl _ rfl g (i * 5) (by go_simp) _ _ _ _ _ hRG ?_)
            have hb6 : Below wr.heap.size wr (wr.alloc (.cells #[.int .i64 S.id, .int .i64 S.fr, .int .i64 S.to, .slice ma S.mem.length mc, .slice pa S.past.length pc] 70)) := (Below.refl _ _).alloc (Nat.le_refl _) _
            have hP6 := heap_alloc_new wr (.cells #[.int .i64 S.id, .int .i64 S.fr, .int .i64 S.to, .slice ma S.mem.length mc, .slice pa S.past.length pc] 70)
            have HB6 := hid (Tr.below (R := fun q => q = B9) hb6)
            have HP6 := hid hP6
            have ho6 := HOS.out.kept (row := none) (grown_of_below hb6 none) (by simp)
            have O6 := hid (own_below OL.out hb6)
            have S6 := hid ((hb6.block B9 (lt_of_block S9.out)).trans S9.out)
            have LW : Hid (wq.heap.size ≤ (wr.alloc (.cells #[.int .i64 S.id, .int .i64 S.fr, .int .i64 S.to, .slice ma S.mem.length mc, .slice pa S.past.length pc] 70)).heap.size) := hid (Nat.le_trans TS.out.size hb6.size)
            obtain ⟨w6, hw6⟩ : ∃ w6, w6 = wr.alloc (.cells #[.int .i64 S.id, .int .i64 S.fr, .int .i64 S.to, .slice ma S.mem.length mc, .slice pa S.past.length pc] 70) := ⟨_, rfl⟩
            rw [← hw6] at ho6 O6 S6 HB6 HP6 LW
            rw [← hw6]
            clear hw6 hb6 hP6 hRG
            generalize wr.heap.size = SP at *
            have p0 : w6.cell? ⟨SP, 0, none⟩ = some (.int .i64 S.id) := by rw [cell_of_row _ _ _ _ _ _ HP6.out]; rfl
            have c6 : w6.cell? ⟨B9, 6, none⟩ = some (.slice la i lc) := by rw [cell_of_row _ _ _ _ _ _ S6.out]; rfl
            have hlk := HLK.out.look ho6 S.id HSI.out
            clear ho6
            generalize ldOf K S.id = l at *
            unfold loV at hlk
            have hbl : Below w6.heap.size w6 (w6.alloc (.cells #[.int .i64 l.sh, .int .i64 l.cm, .int .i64 l.ins, .int .i64 l.mid] 54)) := (Below.refl _ _).alloc (Nat.le_refl _) _
            have HBL := hid hbl
            have OA := hid (own_below O6.out hbl)
            have YA : Hid (∀ j u, (LoD.c l)[j]? = some u → (w6.alloc (.cells #[.int .i64 l.sh, .int .i64 l.cm, .int .i64 l.ins, .int .i64 l.mid] 54)).cell? ⟨w6.heap.size, j, none⟩ = some u) := hid fun j u hj => by
              rw [cell_of_row _ _ _ _ _ _ (heap_alloc_new _ _)]; unfold LoD.c at hj; simpa using hj
            clear hbl
            have SA := hid ((HBL.out.block B9 (lt_of_block S6.out)).trans S6.out)
            have LA : Hid (wq.heap.size ≤ (w6.alloc (.cells #[.int .i64 l.sh, .int .i64 l.cm, .int .i64 l.ins, .int .i64 l.mid] 54)).heap.size) := hid (Nat.le_trans LW.out HBL.out.size)
            have TA : Hid (Tr (fun q => q = B9) wq (w6.alloc (.cells #[.int .i64 l.sh, .int .i64 l.cm, .int .i64 l.ins, .int .i64 l.mid] 54))) := hid ((TS.out.trans HB6.out).trans (Tr.below HBL.out))
            go_upto_region 12 with (at_builtin; refine wpl_app rowLo rfl _ _ rfl wq.heap.size (.slice la i lc) i (lovs ((Y.take i).map fun y => ldOf K y.s.id)) rfl OA.out w6.heap.size 1 1 (LoD.c l) rfl rfl YA.out (by simp [LoD.c, Value.oneCell']) (by omega) LA.out ?_; intro va9 vc9 w9 ho9 hg9; have b99 := (hg9.block B9 (lt_of_block SA.out) (fun e => own_ne OA.out SA.out (by decide) e.symm)).trans SA.out; have k9 : w9.cell? ⟨B9, 6, none⟩ = some (.slice la i lc) := (cell_of_row _ _ _ _ _ _ b99).trans rfl; have f9 : w9.frozen? ⟨B9, 6, none⟩ = false := frozen_of_row _ _ _ _ _ b99; have HB99 := hid b99; have HO9 := hid ho9; have HG9 := hid hg9; clear b99 ho9 hg9)
            have TR9 : Tr (fun q => q = B9) wq w9 := ⟨HG9.out.os.trans TA.out.os, HG9.out.tape.trans TA.out.tape, HG9.out.output.trans TA.out.output, Nat.le_trans TA.out.size HG9.out.size, fun q hq hne => (HG9.out.block q (Nat.lt_of_lt_of_le hq LA.out) (fun e => by have := (World.ownsRow.lt OA.out q e.symm).1; omega)).trans (TA.out.block q hq hne)⟩
            have HT9 := hid (TR9.trans (Tr.set (i := 6) (v := .slice va9 (i + 1) vc9) rfl))
            have HX9 : Hid ((w9.setCell ⟨B9, 6, none⟩ (.slice va9 (i + 1) vc9)).heap[B9]? = some (.cells (scC (zSc r) (.slice (some ⟨g, 0, none⟩) Y.length yc) (.slice va9 (i + 1) vc9)) 60 (0, 0))) := hid (heap_setCell_same _ _ _ _ _ _ HB99.out)
            have HY9 := hid (own_set (i := 6) (u := .slice va9 (i + 1) vc9) HO9.out HB99.out (by decide))
            clear TR9 k9 f9
            go_wp2_with fail
            go_roundw
            case rel => exact ⟨i + 1, _, by go_num, by omega, HX9.out, by rw [HTK.out, lovs_append, show lovs [l] = LoD.c l from by simp [lovs]]; exact HY9.out, HT9.out⟩
            case measure => simp [intOf]; omega
          · obtain rfl : i = Y.length := by omega
            have OLF : Hid (wr.ownsRow wq.heap.size 54 4 (.slice la Y.length lc) Y.length (lovs (Y.map fun y => ldOf K y.s.id))) := hid (by have := OL.out; rwa [List.take_length] at this)
            have T8 := hid ((TS.out.block B8 (lt_of_block Q8.out) R4.out.ne).trans Q8.out)
            obtain ⟨wp, rfl⟩ : ∃ x, x = wr := ⟨_, rfl⟩
            clear TS OL KS HOS
            go_upto_region 13 with fail
            go_wp2_with fail
            go_loopw [15, 49] (fun _ iv wr => ∃ (n : Nat) (s : ScD), iv = .int .i64 n ∧ n ≤ 7 ∧ s.r = r ∧ wr.heap[B9]? = some (.cells (scC s (.slice ya Y.length yc) (.slice la Y.length lc)) 60 (0, 0)) ∧ Tr (fun q => q = B9) wp wr) (fun _ iv _ => 7 - (intOf iv).toNat)
            case atStart => exact ⟨0, _, rfl, by omega, rfl, S9.out, Tr.refl _ _⟩
            case round =>
              obtain ⟨n, s, rfl, hn, hsr, hq9, htr⟩ := hrel
              have TT := hid htr
              have U9 := hid hq9
              have HSR := hid hsr
              have BT : Hid (Below w.heap.size w wr) := hid (BS.out.trans (htr.to (fun q hq => by rw [show q = B9 from hq]; exact R4.out.l.2) BS.out.size))
              clear hsr hq9 htr
              by_cases hlt3 : (n : Int) < 7
              · have hn7 : n < 7 := by omega
                obtain ⟨bb, hbb⟩ := scC_at s (.slice ya Y.length yc) (.slice la Y.length lc) n hn7
                have k9 : wr.cell? ⟨B9, 7 + n, none⟩ = some (.bool bb) := (cell_of_row _ _ _ _ _ _ U9.out).trans hbb
                have f9 : wr.frozen? ⟨B9, 7 + n, none⟩ = false := frozen_of_row _ _ _ _ _ U9.out
                have HCN := hid (ncontains_any V n _ wr (HV.out.below BT.out))
                have HUX : Hid (∀ c : Bool, (wr.setCell ⟨B9, 7 + n, none⟩ (.bool c)).heap[B9]? = some (.cells (scC (s.set n c) (.slice ya Y.length yc) (.slice la Y.length lc)) 60 (0, 0))) := hid fun c => by rw [← scC_set _ _ _ n hn7 c]; exact heap_setCell_same _ _ _ _ _ _ U9.out
                have HUT : Hid (∀ c : Bool, Tr (fun q => q = B9) wp (wr.setCell ⟨B9, 7 + n, none⟩ (.bool c))) := hid fun c => TT.out.trans (Tr.set rfl)
                clear hbb
                generalize decide ((n : Int) ∈ V) = cb at *
                go_wp2_with (go_at_call 45; refine HCN.out.mono ?_; rintro e w2 ⟨rfl, hw2⟩; replace hw2 := hw2.symm; subst hw2)
                go_roundw
                case rel => exact ⟨n + 1, s.set n cb, by go_num, by omega, (ScD.set_r s n cb).trans HSR.out, HUX.out cb, HUT.out cb⟩
                case measure => simp [intOf]; omega
              · have hT8 := (TT.out.block B8 (lt_of_block T8.out) R4.out.ne).trans T8.out
                have KT : Hid (KpC wp wr) := hid (KpC.tr TT.out fun q cs t fr hq ht e => by rw [show q = B9 from e, S9.out] at hq; cases hq; exact ht rfl)
                have HT8 := hid hT8
                have hu9 := U9.out
                go_wp2_with (first | (refine wpl_loadSc rfl _ rfl B9 rfl _ _ _ rfl hu9 ?_) | (refine wpList_store_row rfl _ _ _ rfl B8 (scC s (.slice ya Y.length yc) (.slice la Y.length lc)) rfl rfl _ _ hT8 Try.sizeSc rfl (by simp [scC, Value.oneCell']) ?_))
                (try simp only [Exit.inBlock, Exit.then])
                refine bodyPost_ret (results_sc rfl _ _ B8 _ _ _ rfl rfl (setRow_heap _ _ _ _ _ _ HT8.out)) rfl ?_
                have KF : KpC wp (wr.setRow B8 (scC s (.slice ya Y.length yc) (.slice la Y.length lc))) := KT.out.trans (KpC.row HT8.out)
                exact ⟨s, Y, _, _, rfl, HSR.out, HYS.out, ⟨HSS.out.kpc KF, by rw [List.length_map]; exact own_lower (own_kept OLF.out fun q cs _ hh => KF q cs _ _ hh (by decide)) (Nat.zero_le _), by simp, by omega, fun y hy => (HYI.out y hy).1, fun y hy => (HYI.out y hy).2, by rw [HSR.out]; exact hr⟩, below_row BT.out R4.out.l.1 _⟩
end Go.Proofs.Ytkggeiljalfcpaa
namespace Go.Proofs.Ytkggeiljalfcpaa
open Go.RowKit Go.Maps Go.Shelf
set_option linter.unusedVariables false
set_option linter.unusedSimpArgs false

set_option maxRecDepth 100000 in
set_option maxHeartbeats 4000000 in
theorem takes_any (b wb mb n B : Nat) (ov : Value) (D : DataW Value) (N N' : AtN) (X : List SX) (Z' : List ShD) (c : ChD) (r : Int) (w : World) (h : At w b wb mb n ov D N X) (g : Gd B N (X.map (·.s))) (hs : StepR N (X.map (·.s)) c r N' Z') (hc : ChJ c) (hB : B ≤ 1000) (hn : n ≤ 1000) (hol : N.op.length ≤ 1000000) (hxl : X.length ≤ 1000000) :
    Calls Try.prog 23 #[.pointer (some ⟨b, 0, none⟩), chV c] w fun e w' => e = .returned (.bool (r == 0)) ∧ Below w.heap.size w w' := by
  obtain ⟨k, sh, ot, at', out, in'⟩ := c
  obtain ⟨w1, hw1⟩ : ∃ w1, w1 = w.alloc (.cells #[.int .i64 k, .int .i64 sh, .int .i64 ot, .int .i64 at', .int .i64 out, .int .i64 in'] 35) := ⟨_, rfl⟩
  have B1 : Hid (Below w.heap.size w w1) := hid (by rw [hw1]; exact (Below.refl _ _).alloc (Nat.le_refl _) _)
  have hA1 : w1.heap[w.heap.size]? = some (.cells #[.int .i64 k, .int .i64 sh, .int .i64 ot, .int .i64 at', .int .i64 out, .int .i64 in'] 35 (0, 0)) := by rw [hw1]; exact heap_alloc_new _ _
  have H1 := hid (h.below B1.out)
  have HW1 := hid hw1
  have HG := hid g
  have HST := hid hs
  have HCJ := hid hc
  have HBB := hid hB
  have HNN := hid hn
  have HOL := hid hol
  have HXL := hid hxl
  clear h g hs hc hw1 hB hn hol hxl
  unfold chV
  go_enter Try.func23, Try.ntmps23
  go_upto_region 1 with fail
  rw [← HW1.out]
  clear HW1
  obtain ⟨A, hA⟩ : ∃ A, A = w.heap.size := ⟨_, rfl⟩
  rw [← hA] at hA1
  rw [← hA]
  have HA1 := hid hA1
  clear hA1 hA
  obtain ⟨dC, hdC1, hdC2⟩ := Try.rowCh
  have SB : Hid (∀ Y, Below w1.heap.size w1 Y → Y.rangeAt A 0 [.int .i64 k, .int .i64 sh, .int .i64 ot, .int .i64 at', .int .i64 out, .int .i64 in']) := hid fun Y hY => range_of_row ((hY.block A (lt_of_block HA1.out)).trans HA1.out) 0 _ fun j v hv => by rw [Nat.zero_add]; simpa using hv
  refine wp_region_held_drew (S := fun Y => Y.rangeAt A 0 [.int .i64 k, .int .i64 sh, .int .i64 ot, .int .i64 at', .int .i64 out, .int .i64 in']) (by kernel_rfl) (SB.out _ ((Below.refl _ _).drew)) (fun hHeld => ?_)
  refine wpAnyH_take (i := 0) (v := ?pv0) rfl (by kernel_rfl) (by kernel_rfl) (by kernel_rfl) (fun _ _ _ h => h) (Or.inl ⟨by rfl, ?py0⟩) (by assumption) ?pr0
  case py0 => (intro w hSw; (try dsimp only at hSw); go_simp; try with_reducible rfl)
  (try simp only [Act.put, putS])
  refine wpAnyH_take (i := 2) (v := .agg #[.int .i64 k, .int .i64 sh, .int .i64 ot, .int .i64 at', .int .i64 out, .int .i64 in']) rfl (by kernel_rfl) (by kernel_rfl) (by kernel_rfl) (fun _ _ _ h => h) (yieldsIf_load_mid rfl _ _ rfl A 0 rfl [.int .i64 k, .int .i64 sh, .int .i64 ot, .int .i64 at', .int .i64 out, .int .i64 in'] dC (fun Y hY => hY) hdC1 hdC2 Try.sizeCh) (by assumption) ?_
  (try simp only [Act.put, putS])
  refine wpAnyH_ready (rs := [1]) (by kernel_rfl) (by simp) ?_
  refine AllReadyH.cons rfl (fun K hK => ?_) AllReadyH.nil
  rw [if_pos (by rfl)]
  go_wp2_with fail
  refine (aclone_any b wb mb n ov D N X _ (H1.out.below ((Below.refl _ _).drew)) HOL.out HXL.out).mono ?_
  rintro e w2 ⟨c1, wc, mc, ov1, rfl, ha2, hb2, hr2⟩
  have B12 : Hid (Below w1.heap.size w1 w2) := hid (((Below.refl w1.heap.size w1).drew).trans hb2)
  have A2 := hid ha2
  have R2 : Hid (∀ q, AtR c1 wc mc q → w1.heap.size ≤ q) := hid hr2
  clear ha2 hb2 hr2
  refine hK.out _ _ (SB.out _ B12.out) (fun hHeld => ?_)
  try clear hK K
  (try simp only [Act.put, putS])
  refine wpAnyH_ready (rs := [3]) (by kernel_rfl) (by simp) ?_
  refine AllReadyH.cons rfl (fun K hK => ?_) AllReadyH.nil
  rw [if_pos (by rfl)]
  go_wp2_with fail
  refine (aapply_any c1 wc mc n B ov1 D N N' X Z' ⟨k, sh, ot, at', out, in'⟩ r _ A2.out HG.out HST.out HCJ.out HBB.out HNN.out).mono ?_
  rintro e w3 ⟨n3, ov3, D3, X3, rfl, -, -, -, ht3⟩
  have B3 : Hid (Below w1.heap.size w1 w3) := hid (B12.out.trans (ht3.to R2.out B12.out.size))
  clear ht3
  refine hK.out _ _ (SB.out _ B3.out) (fun hHeld => ?_)
  try clear hK K
  (try simp only [Act.put, putS])
  refine wpAnyH_take (i := 4) (v := ?qv4) rfl (by kernel_rfl) (by kernel_rfl) (by kernel_rfl) (fun _ _ _ h => h) (Or.inl ⟨by rfl, ?qy4⟩) (by assumption) ?qr4
  case qy4 => (intro w hSw; (try dsimp only at hSw); go_simp; try with_reducible rfl)
  (try simp only [Act.put, putS])
  refine wpAnyH_take (i := 5) (v := ?qv5) rfl (by kernel_rfl) (by kernel_rfl) (by kernel_rfl) (fun _ _ _ h => h) (Or.inl ⟨by rfl, ?qy5⟩) (by assumption) ?qr5
  case qy5 => (intro w hSw; (try dsimp only at hSw); go_simp; try with_reducible rfl)
  (try simp only [Act.put, putS])
  refine wpAnyH_done (by kernel_rfl) ?_ _
  go_wp2_with fail
  go_ret
  exact ⟨rfl, B1.out.trans (B3.out.mono B1.out.size)⟩
end Go.Proofs.Ytkggeiljalfcpaa
namespace Go.Proofs.Ytkggeiljalfcpaa
open Go.RowKit Go.Maps Go.Shelf
set_option linter.unusedVariables false
set_option linter.unusedSimpArgs false

/-- Shards that can be told. -/
structure WIn (X : List SX) : Prop where
  shb : ∀ x ∈ X, ShB x.s
  i64 : ∀ x ∈ X, I64 x.s.id
  one : ∀ x ∈ X, ∀ y ∈ X, y.s.id = x.s.id → y = x
/-- What a rule answers, and what holds of it. -/
def RqP (Q : ChD → Bool → Prop) (w : World) (e : Ending) (w' : World) : Prop := ∃ c ok, e = .returned (.tuple #[chV c, .bool ok]) ∧ ChJ c ∧ c.k ≠ 5 ∧ (ok = false → c = zCh) ∧ Q c ok ∧ Below w.heap.size w w'
/-- What Decide has come to. -/
def DcR (N : AtN) (Z : List ShD) (Q : Nat → ChD → Bool → Prop) (P : ChD → Int → Prop) (c : ChD) (ok : Bool) : Prop :=
  (ok = true ∧ ∃ i, i < 4 ∧ Q i c true ∧ (∀ j, j < i → Q j zCh false) ∧ ∃ N' Z', StepR N Z c 0 N' Z') ∨
  (ok = false ∧ c = zCh ∧ ((∀ i, i < 4 → Q i zCh false) ∨ ∃ i c' r, i < 4 ∧ Q i c' true ∧ (∀ j, j < i → Q j zCh false) ∧ P c' r ∧ r ≠ 0))
def DcP (N : AtN) (Z : List ShD) (Q : Nat → ChD → Bool → Prop) (P : ChD → Int → Prop) (w : World) (e : Ending) (w' : World) : Prop := ∃ c ok, e = .returned (.tuple #[chV c, .bool ok]) ∧ ChJ c ∧ c.k ≠ 5 ∧ DcR N Z Q P c ok ∧ Below w.heap.size w w'
/-- Decide where nothing may be decided. -/
def dcOff (r : RuD) (N : AtN) : Prop := mayB r = false ∨ N.op ≠ [] ∨ r.cap ≤ N.ep
set_option maxRecDepth 100000 in
set_option maxHeartbeats 4000000 in
theorem decide_off (b wb mb n : Nat) (ov : Value) (D : DataW Value) (N : AtN) (X : List SX) (r : RuD) (kv vv : Value) (w : World) (h : At w b wb mb n ov D N X) (hol : N.op.length ≤ 1000000) (hoff : dcOff r N) :
    Calls Try.prog 7 #[.pointer (some ⟨b, 0, none⟩), .agg (ruC r), kv, vv] w (NoP w) := by
  have H := hid h
  have HOL := hid hol
  have HMY := hid (may_any r)
  have HOFF := hid hoff
  unfold ruV at HMY
  clear h hol hoff
  unfold ruC
  go_enter Try.func7, Try.ntmps7
  go_upto_region 1 with fail
  obtain ⟨w1, hw1⟩ : ∃ w1, w1 = (w.alloc (.cells #[.int .i64 r.hot, .int .i64 r.cold, .int .i64 r.long, .int .i64 r.mute, .int .i64 r.cap] 24)).alloc (.cells #[.int .i64 0, .int .i64 0, .int .i64 0, .int .i64 0, .int .i64 0, .int .i64 0] 35) := ⟨_, rfl⟩
  obtain ⟨hA, hC⟩ := heap_two w (.cells #[.int .i64 r.hot, .int .i64 r.cold, .int .i64 r.long, .int .i64 r.mute, .int .i64 r.cap] 24) (.cells #[.int .i64 0, .int .i64 0, .int .i64 0, .int .i64 0, .int .i64 0, .int .i64 0] 35)
  rw [← hw1] at hA hC
  have B1 : Hid (Below w.heap.size w w1) := hid (by rw [hw1]; exact ((Below.refl _ _).alloc (Nat.le_refl _) _).alloc (by simp) _)
  rw [← hw1]
  clear hw1
  obtain ⟨C, hCe⟩ : ∃ P, P = w.heap.size + 1 := ⟨_, rfl⟩
  rw [← hCe] at hC
  rw [← hCe]
  obtain ⟨A, hAe⟩ : ∃ P, P = w.heap.size := ⟨_, rfl⟩
  rw [← hAe] at hA
  rw [← hAe]
  have HLC : Hid (w.heap.size ≤ C) := hid (by omega)
  have HA := hid hA
  have HC := hid hC
  have H1 := hid (H.out.below B1.out)
  clear hA hC hAe hCe
  obtain ⟨dR, hdR1, hdR2⟩ := Try.rowRu
  have SB : Hid (∀ Y, Below w1.heap.size w1 Y → Y.rangeAt A 0 [.int .i64 r.hot, .int .i64 r.cold, .int .i64 r.long, .int .i64 r.mute, .int .i64 r.cap] ∧ Y.cell? ⟨A, 4, none⟩ = some (.int .i64 r.cap)) := hid fun Y hY => ⟨range_of_row ((hY.block A (lt_of_block HA.out)).trans HA.out) 0 _ fun j v hv => by rw [Nat.zero_add]; simpa using hv, by rw [cell_of_row _ _ _ _ _ _ ((hY.block A (lt_of_block HA.out)).trans HA.out)]; rfl⟩
  refine wp_region_held_drew (S := fun Y => Y.rangeAt A 0 [.int .i64 r.hot, .int .i64 r.cold, .int .i64 r.long, .int .i64 r.mute, .int .i64 r.cap] ∧ Y.cell? ⟨A, 4, none⟩ = some (.int .i64 r.cap)) (by kernel_rfl) (SB.out _ ((Below.refl _ _).drew)) (fun hHeld => ?_)
  refine wpAnyH_take (i := 0) (v := ?pv0) rfl (by kernel_rfl) (by kernel_rfl) (by kernel_rfl) (fun _ _ _ h => h) (Or.inl ⟨by rfl, ?py0⟩) (by assumption) ?pr0
  case py0 => (intro w hSw; (try dsimp only at hSw); go_simp; try with_reducible rfl)
  (try simp only [Act.put, putS])
  refine wpAnyH_take (i := 1) (v := ?pv1) rfl (by kernel_rfl) (by kernel_rfl) (by kernel_rfl) (fun _ _ _ h => h) (Or.inl ⟨by rfl, ?py1⟩) (by assumption) ?pr1
  case py1 => (intro w hSw; (try dsimp only at hSw); go_simp; try with_reducible rfl)
  (try simp only [Act.put, putS])
  refine wpAnyH_take (i := 2) (v := ?pv2) rfl (by kernel_rfl) (by kernel_rfl) (by kernel_rfl) (fun _ _ _ h => h) (Or.inl ⟨by rfl, ?py2⟩) (by assumption) ?pr2
  case py2 => (intro w hSw; (try dsimp only at hSw); go_simp; try with_reducible rfl)
  (try simp only [Act.put, putS])
  refine wpAnyH_take (i := 3) (v := .agg #[.int .i64 r.hot, .int .i64 r.cold, .int .i64 r.long, .int .i64 r.mute, .int .i64 r.cap]) rfl (by kernel_rfl) (by kernel_rfl) (by kernel_rfl) (fun _ _ _ h => h) (yieldsIf_load_mid rfl _ _ rfl A 0 rfl [.int .i64 r.hot, .int .i64 r.cold, .int .i64 r.long, .int .i64 r.mute, .int .i64 r.cap] dR (fun Y hY => hY.1) hdR1 hdR2 Try.sizeRu) (by assumption) ?_
  (try simp only [Act.put, putS])
  cases hm : mayB r with
  | false =>
    rw [hm] at HMY
    clear hm
    refine wpAnyH_ready (rs := [4]) (by kernel_rfl) (by simp) ?_
    refine AllReadyH.cons rfl (fun K hK => ?_) AllReadyH.nil
    rw [if_pos (by rfl)]
    go_wp2_with fail
    refine (HMY.out _).mono ?_
    rintro e w2 ⟨rfl, hb2⟩
    have B2 : Hid (Below w1.heap.size w1 w2) := hid (((Below.refl w1.heap.size w1).drew).trans hb2)
    clear hb2
    refine hK.out _ _ (SB.out _ B2.out) (fun hHeld => ?_)
    try clear hK K
    (try simp only [Act.put, putS])
    refine wpAnyH_take (i := 5) (v := ?qv5) rfl (by kernel_rfl) (by kernel_rfl) (by kernel_rfl) (fun _ _ _ h => h) (Or.inl ⟨by rfl, ?qy5⟩) (by assumption) ?qr5
    case qy5 => (intro w hSw; (try dsimp only at hSw); go_simp; try with_reducible rfl)
    (try simp only [Act.put, putS])
    refine wpAnyH_take (i := 6) (v := ?qv6) rfl (by kernel_rfl) (by kernel_rfl) (by kernel_rfl) (fun _ _ _ h => h) (Or.inl ⟨by rfl, ?qy6⟩) (by assumption) ?qr6
    case qy6 => (intro w hSw; (try dsimp only at hSw); go_simp; try with_reducible rfl)
    (try simp only [Act.put, putS])
    refine wpAnyH_take (i := 7) (v := ?qv7) rfl (by kernel_rfl) (by kernel_rfl) (by kernel_rfl) (fun _ _ _ h => h) (Or.inl ⟨by rfl, ?qy7⟩) (by assumption) ?qr7
    case qy7 => (intro w hSw; (try dsimp only at hSw); go_simp; try with_reducible rfl)
    (try simp only [Act.put, putS])
    refine wpAnyH_take (i := 8) (v := undef) rfl (by kernel_rfl) (by kernel_rfl) (by kernel_rfl) (fun _ _ _ h => h) (Or.inr ⟨by rfl, rfl⟩) (by assumption) ?_
    (try simp only [Act.put, putS])
    refine wpAnyH_take (i := 9) (v := undef) rfl (by kernel_rfl) (by kernel_rfl) (by kernel_rfl) (fun _ _ _ h => h) (Or.inr ⟨by rfl, rfl⟩) (by assumption) ?_
    (try simp only [Act.put, putS])
    refine wpAnyH_take (i := 10) (v := undef) rfl (by kernel_rfl) (by kernel_rfl) (by kernel_rfl) (fun _ _ _ h => h) (Or.inr ⟨by rfl, rfl⟩) (by assumption) ?_
    (try simp only [Act.put, putS])
    refine wpAnyH_take (i := 11) (v := undef) rfl (by kernel_rfl) (by kernel_rfl) (by kernel_rfl) (fun _ _ _ h => h) (Or.inr ⟨by rfl, rfl⟩) (by assumption) ?_
    (try simp only [Act.put, putS])
    refine wpAnyH_take (i := 12) (v := ?qv12) rfl (by kernel_rfl) (by kernel_rfl) (by kernel_rfl) (fun _ _ _ h => h) (Or.inl ⟨by rfl, ?qy12⟩) (by assumption) ?qr12
    case qy12 => (intro w hSw; (try dsimp only at hSw); go_simp; try with_reducible rfl)
    (try simp only [Act.put, putS])
    refine wpAnyH_take (i := 13) (v := ?qv13) rfl (by kernel_rfl) (by kernel_rfl) (by kernel_rfl) (fun _ _ _ h => h) (Or.inl ⟨by rfl, ?qy13⟩) (by assumption) ?qr13
    case qy13 => (intro w hSw; (try dsimp only at hSw); go_simp; try with_reducible rfl)
    (try simp only [Act.put, putS])
    refine wpAnyH_take (i := 14) (v := undef) rfl (by kernel_rfl) (by kernel_rfl) (by kernel_rfl) (fun _ _ _ h => h) (Or.inr ⟨by rfl, rfl⟩) (by assumption) ?_
    (try simp only [Act.put, putS])
    refine wpAnyH_take (i := 15) (v := undef) rfl (by kernel_rfl) (by kernel_rfl) (by kernel_rfl) (fun _ _ _ h => h) (Or.inr ⟨by rfl, rfl⟩) (by assumption) ?_
    (try simp only [Act.put, putS])
    refine wpAnyH_take (i := 16) (v := undef) rfl (by kernel_rfl) (by kernel_rfl) (by kernel_rfl) (fun _ _ _ h => h) (Or.inr ⟨by rfl, rfl⟩) (by assumption) ?_
    (try simp only [Act.put, putS])
    refine wpAnyH_take (i := 17) (v := undef) rfl (by kernel_rfl) (by kernel_rfl) (by kernel_rfl) (fun _ _ _ h => h) (Or.inr ⟨by rfl, rfl⟩) (by assumption) ?_
    (try simp only [Act.put, putS])
    refine wpAnyH_take (i := 18) (v := undef) rfl (by kernel_rfl) (by kernel_rfl) (by kernel_rfl) (fun _ _ _ h => h) (Or.inr ⟨by rfl, rfl⟩) (by assumption) ?_
    (try simp only [Act.put, putS])
    refine wpAnyH_take (i := 19) (v := ?qv19) rfl (by kernel_rfl) (by kernel_rfl) (by kernel_rfl) (fun _ _ _ h => h) (Or.inl ⟨by rfl, ?qy19⟩) (by assumption) ?qr19
    case qy19 => (intro w hSw; (try dsimp only at hSw); go_simp; try with_reducible rfl)
    (try simp only [Act.put, putS])
    refine wpAnyH_done (by kernel_rfl) ?_ _
    have HCZ := hid ((B2.out.block C (lt_of_block HC.out)).trans HC.out)
    go_wp2_with (refine wpl_storeC rfl _ _ rfl C (.int .i64 0) (.int .i64 0) (.int .i64 0) (.int .i64 0) (.int .i64 0) (.int .i64 0) rfl rfl rfl rfl rfl rfl rfl rfl _ _ rfl HCZ.out ?_)
    (try simp only [Exit.inBlock, Exit.then])
    refine bodyPost_ret (results_chB rfl _ _ C _ _ _ rfl rfl (setRow_heap _ _ _ _ _ _ HCZ.out)) rfl ?_
    exact ⟨rfl, below_row (B1.out.trans (B2.out.mono B1.out.size)) HLC.out _⟩
  | true =>
    have HM := hid hm
    rw [hm] at HMY
    clear hm
    refine wpAnyH_ready (rs := [4]) (by kernel_rfl) (by simp) ?_
    refine AllReadyH.cons rfl (fun K hK => ?_) AllReadyH.nil
    rw [if_pos (by rfl)]
    go_wp2_with fail
    refine (HMY.out _).mono ?_
    rintro e w2 ⟨rfl, hb2⟩
    have B2 : Hid (Below w1.heap.size w1 w2) := hid (((Below.refl w1.heap.size w1).drew).trans hb2)
    clear hb2
    refine hK.out _ _ (SB.out _ B2.out) (fun hHeld => ?_)
    try clear hK K
    (try simp only [Act.put, putS])
    refine wpAnyH_take (i := 5) (v := ?sv5) rfl (by kernel_rfl) (by kernel_rfl) (by kernel_rfl) (fun _ _ _ h => h) (Or.inl ⟨by rfl, ?sy5⟩) (by assumption) ?sr5
    case sy5 => (intro w hSw; (try dsimp only at hSw); go_simp; try with_reducible rfl)
    (try simp only [Act.put, putS])
    refine wpAnyH_take (i := 6) (v := ?sv6) rfl (by kernel_rfl) (by kernel_rfl) (by kernel_rfl) (fun _ _ _ h => h) (Or.inl ⟨by rfl, ?sy6⟩) (by assumption) ?sr6
    case sy6 => (intro w hSw; (try dsimp only at hSw); go_simp; try with_reducible rfl)
    (try simp only [Act.put, putS])
    refine wpAnyH_take (i := 7) (v := ?sv7) rfl (by kernel_rfl) (by kernel_rfl) (by kernel_rfl) (fun _ _ _ h => h) (Or.inl ⟨by rfl, ?sy7⟩) (by assumption) ?sr7
    case sy7 => (intro w hSw; (try dsimp only at hSw); go_simp; try with_reducible rfl)
    (try simp only [Act.put, putS])
    refine wpAnyH_take (i := 8) (v := ?sv8) rfl (by kernel_rfl) (by kernel_rfl) (by kernel_rfl) (fun _ _ _ h => h) (Or.inl ⟨by rfl, ?sy8⟩) (by assumption) ?sr8
    case sy8 => (intro w hSw; (try dsimp only at hSw); go_simp; try with_reducible rfl)
    (try simp only [Act.put, putS])
    by_cases ho : N.op = []
    · have hl0 : N.op.length = 0 := by rw [ho]; rfl
      have hep : r.cap ≤ N.ep := by
        rcases HOFF.out with h | h | h
        · rw [HM.out] at h; cases h
        · exact absurd ho h
        · exact h
      clear ho HOFF
      refine wpAnyH_ready (rs := [9]) (by kernel_rfl) (by simp) ?_
      refine AllReadyH.cons rfl (fun K hK => ?_) AllReadyH.nil
      rw [if_pos (by rfl)]
      go_wp2_with fail
      refine (aopen_any b wb mb n ov D N _ X _ (H1.out.below B2.out).m HOL.out).mono ?_
      rintro e w3 ⟨oa, oc, rfl, -, hb3⟩
      have B3 : Hid (Below w1.heap.size w1 w3) := hid (B2.out.trans (hb3.mono B2.out.size))
      clear hb3
      refine hK.out _ _ (SB.out _ B3.out) (fun hHeld => ?_)
      try clear hK K
      (try simp only [Act.put, putS])
      refine wpAnyH_take (i := 10) (v := ?tv10) rfl (by kernel_rfl) (by kernel_rfl) (by kernel_rfl) (fun _ _ _ h => h) (Or.inl ⟨by rfl, ?ty10⟩) (by assumption) ?tr10
      case ty10 => (intro w hSw; (try dsimp only at hSw); go_simp; try with_reducible rfl)
      (try simp only [Act.put, putS])
      refine wpAnyH_take (i := 11) (v := ?tv11) rfl (by kernel_rfl) (by kernel_rfl) (by kernel_rfl) (fun _ _ _ h => h) (Or.inl ⟨by rfl, ?ty11⟩) (by assumption) ?tr11
      case ty11 => (intro w hSw; (try dsimp only at hSw); go_simp; try with_reducible rfl)
      (try simp only [Act.put, putS])
      refine wpAnyH_take (i := 12) (v := ?tv12) rfl (by kernel_rfl) (by kernel_rfl) (by kernel_rfl) (fun _ _ _ h => h) (Or.inl ⟨by rfl, ?ty12⟩) (by assumption) ?tr12
      case ty12 => (intro w hSw; (try dsimp only at hSw); go_simp; try with_reducible rfl)
      (try simp only [Act.put, putS])
      refine wpAnyH_take (i := 13) (v := ?tv13) rfl (by kernel_rfl) (by kernel_rfl) (by kernel_rfl) (fun _ _ _ h => h) (Or.inl ⟨by rfl, ?ty13⟩) (by assumption) ?tr13
      case ty13 => (intro w hSw; (try dsimp only at hSw); go_simp; try with_reducible rfl)
      (try simp only [Act.put, putS])
      refine wpAnyH_take (i := 14) (v := ?tv14) rfl (by kernel_rfl) (by kernel_rfl) (by kernel_rfl) (fun _ _ _ h => h) (Or.inl ⟨by rfl, ?ty14⟩) (by assumption) ?tr14
      case ty14 => (intro w hSw; (try dsimp only at hSw); go_simp; try with_reducible rfl)
      (try simp only [Act.put, putS])
      refine wpAnyH_take (i := 16) (v := ?tv16) rfl (by kernel_rfl) (by kernel_rfl) (by kernel_rfl) (fun _ _ _ h => h) (Or.inl ⟨by rfl, ?ty16⟩) (by assumption) ?tr16
      case ty16 => (intro w hSw; (try dsimp only at hSw); go_simp; try with_reducible rfl)
      (try simp only [Act.put, putS])
      refine wpAnyH_take (i := 17) (v := ?tv17) rfl (by kernel_rfl) (by kernel_rfl) (by kernel_rfl) (fun _ _ _ h => h) (Or.inl ⟨by rfl, ?ty17⟩) (by assumption) ?tr17
      case ty17 => (intro w hSw; (try dsimp only at hSw); go_simp; try with_reducible rfl)
      (try simp only [Act.put, putS])
      refine wpAnyH_ready (rs := [15]) (by kernel_rfl) (by simp) ?_
      refine AllReadyH.cons rfl (fun K hK => ?_) AllReadyH.nil
      rw [if_pos (by rfl)]
      go_wp2_with fail
      refine (aepoch_any b wb mb n ov D N _ X _ (H1.out.below B3.out).m).mono ?_
      rintro e w4 ⟨rfl, hw4⟩
      replace hw4 := hw4.symm
      subst hw4
      refine hK.out _ _ (SB.out _ B3.out) (fun hHeld => ?_)
      try clear hK K
      (try simp only [Act.put, putS])
      refine wpAnyH_take (i := 18) (v := ?tv18) rfl (by kernel_rfl) (by kernel_rfl) (by kernel_rfl) (fun _ _ _ h => h) (Or.inl ⟨by rfl, ?ty18⟩) (by assumption) ?tr18
      case ty18 => (intro w hSw; (try dsimp only at hSw); go_simp; try with_reducible rfl)
      (try simp only [Act.put, putS])
      refine wpAnyH_take (i := 19) (v := ?tv19) rfl (by kernel_rfl) (by kernel_rfl) (by kernel_rfl) (fun _ _ _ h => h) (Or.inl ⟨by rfl, ?ty19⟩) (by assumption) ?tr19
      case ty19 => (intro w hSw; (try dsimp only at hSw); go_simp; try with_reducible rfl)
      (try simp only [Act.put, putS])
      refine wpAnyH_done (by kernel_rfl) ?_ _
      have HCZ := hid ((B3.out.block C (lt_of_block HC.out)).trans HC.out)
      go_wp2_with (refine wpl_storeC rfl _ _ rfl C (.int .i64 0) (.int .i64 0) (.int .i64 0) (.int .i64 0) (.int .i64 0) (.int .i64 0) rfl rfl rfl rfl rfl rfl rfl rfl _ _ rfl HCZ.out ?_)
      (try simp only [Exit.inBlock, Exit.then])
      refine bodyPost_ret (results_chB rfl _ _ C _ _ _ rfl rfl (setRow_heap _ _ _ _ _ _ HCZ.out)) rfl ?_
      exact ⟨rfl, below_row (B1.out.trans (B3.out.mono B1.out.size)) HLC.out _⟩
    · have hl0 : (0 : Int) < (N.op.length : Int) := by have := List.length_pos_iff.2 ho; omega
      have hl1 : 0 < N.op.length := by omega
      clear ho HOFF
      refine wpAnyH_ready (rs := [9]) (by kernel_rfl) (by simp) ?_
      refine AllReadyH.cons rfl (fun K hK => ?_) AllReadyH.nil
      rw [if_pos (by rfl)]
      go_wp2_with fail
      refine (aopen_any b wb mb n ov D N _ X _ (H1.out.below B2.out).m HOL.out).mono ?_
      rintro e w3 ⟨oa, oc, rfl, -, hb3⟩
      have B3 : Hid (Below w1.heap.size w1 w3) := hid (B2.out.trans (hb3.mono B2.out.size))
      clear hb3
      refine hK.out _ _ (SB.out _ B3.out) (fun hHeld => ?_)
      try clear hK K
      (try simp only [Act.put, putS])
      refine wpAnyH_take (i := 10) (v := ?uv10) rfl (by kernel_rfl) (by kernel_rfl) (by kernel_rfl) (fun _ _ _ h => h) (Or.inl ⟨by rfl, ?uy10⟩) (by assumption) ?ur10
      case uy10 => (intro w hSw; (try dsimp only at hSw); go_simp; try with_reducible rfl)
      (try simp only [Act.put, putS])
      refine wpAnyH_take (i := 11) (v := .bool true) rfl (by kernel_rfl) (by kernel_rfl) (by kernel_rfl) (fun _ _ _ h => h) (Or.inl ⟨by rfl, ?uy11⟩) (by assumption) ?ur11
      case uy11 => (intro w hSw; (try dsimp only at hSw); go_simp; try with_reducible rfl)
      (try simp only [Act.put, putS])
      refine wpAnyH_take (i := 12) (v := ?uv12) rfl (by kernel_rfl) (by kernel_rfl) (by kernel_rfl) (fun _ _ _ h => h) (Or.inl ⟨by rfl, ?uy12⟩) (by assumption) ?ur12
      case uy12 => (intro w hSw; (try dsimp only at hSw); go_simp; try with_reducible rfl)
      (try simp only [Act.put, putS])
      refine wpAnyH_take (i := 13) (v := ?uv13) rfl (by kernel_rfl) (by kernel_rfl) (by kernel_rfl) (fun _ _ _ h => h) (Or.inl ⟨by rfl, ?uy13⟩) (by assumption) ?ur13
      case uy13 => (intro w hSw; (try dsimp only at hSw); go_simp; try with_reducible rfl)
      (try simp only [Act.put, putS])
      refine wpAnyH_take (i := 14) (v := undef) rfl (by kernel_rfl) (by kernel_rfl) (by kernel_rfl) (fun _ _ _ h => h) (Or.inr ⟨by rfl, rfl⟩) (by assumption) ?_
      (try simp only [Act.put, putS])
      refine wpAnyH_take (i := 15) (v := undef) rfl (by kernel_rfl) (by kernel_rfl) (by kernel_rfl) (fun _ _ _ h => h) (Or.inr ⟨by rfl, rfl⟩) (by assumption) ?_
      (try simp only [Act.put, putS])
      refine wpAnyH_take (i := 16) (v := undef) rfl (by kernel_rfl) (by kernel_rfl) (by kernel_rfl) (fun _ _ _ h => h) (Or.inr ⟨by rfl, rfl⟩) (by assumption) ?_
      (try simp only [Act.put, putS])
      refine wpAnyH_take (i := 17) (v := undef) rfl (by kernel_rfl) (by kernel_rfl) (by kernel_rfl) (fun _ _ _ h => h) (Or.inr ⟨by rfl, rfl⟩) (by assumption) ?_
      (try simp only [Act.put, putS])
      refine wpAnyH_take (i := 18) (v := undef) rfl (by kernel_rfl) (by kernel_rfl) (by kernel_rfl) (fun _ _ _ h => h) (Or.inr ⟨by rfl, rfl⟩) (by assumption) ?_
      (try simp only [Act.put, putS])
      refine wpAnyH_take (i := 19) (v := ?uv19) rfl (by kernel_rfl) (by kernel_rfl) (by kernel_rfl) (fun _ _ _ h => h) (Or.inl ⟨by rfl, ?uy19⟩) (by assumption) ?ur19
      case uy19 => (intro w hSw; (try dsimp only at hSw); go_simp; try with_reducible rfl)
      (try simp only [Act.put, putS])
      refine wpAnyH_done (by kernel_rfl) ?_ _
      have HCZ := hid ((B3.out.block C (lt_of_block HC.out)).trans HC.out)
      go_wp2_with (refine wpl_storeC rfl _ _ rfl C (.int .i64 0) (.int .i64 0) (.int .i64 0) (.int .i64 0) (.int .i64 0) (.int .i64 0) rfl rfl rfl rfl rfl rfl rfl rfl _ _ rfl HCZ.out ?_)
      (try simp only [Exit.inBlock, Exit.then])
      refine bodyPost_ret (results_chB rfl _ _ C _ _ _ rfl rfl (setRow_heap _ _ _ _ _ _ HCZ.out)) rfl ?_
      exact ⟨rfl, below_row (B1.out.trans (B3.out.mono B1.out.size)) HLC.out _⟩
end Go.Proofs.Ytkggeiljalfcpaa
namespace Go.Proofs.Ytkggeiljalfcpaa
open Go.RowKit Go.Maps Go.Shelf
set_option linter.unusedVariables false
set_option linter.unusedSimpArgs false

theorem wpl_loadRu {ops : Array Oper} {rest : List Oper} {o : Oper} {a : Act} {w : World} {Q : Exit → Act → World → Prop} (hgd : o.guard = none) (x : Operand) (ho : o.op = .load 24 x)
    (b f : Nat) (hx : a.eval x = .pointer (some ⟨b, f, none⟩)) (c0 c1 c2 c3 c4 : Value) (hg : w.rangeAt b f [c0, c1, c2, c3, c4])
    (h : wpList Try.prog ops Q rest (a.put o.dst (.agg #[c0, c1, c2, c3, c4])) w) : wpList Try.prog ops Q (o :: rest) a w := by
  obtain ⟨d, hd1, hd2⟩ := Try.rowRu
  exact wpList_load_mid hgd _ x ho b f hx [c0, c1, c2, c3, c4] d hg hd1 hd2 Try.sizeRu h
theorem wpl_loadCh {ops : Array Oper} {rest : List Oper} {o : Oper} {a : Act} {w : World} {Q : Exit → Act → World → Prop} (hgd : o.guard = none) (x : Operand) (ho : o.op = .load 35 x)
    (b f : Nat) (hx : a.eval x = .pointer (some ⟨b, f, none⟩)) (c0 c1 c2 c3 c4 c5 : Value) (hg : w.rangeAt b f [c0, c1, c2, c3, c4, c5])
    (h : wpList Try.prog ops Q rest (a.put o.dst (.agg #[c0, c1, c2, c3, c4, c5])) w) : wpList Try.prog ops Q (o :: rest) a w := by
  obtain ⟨d, hd1, hd2⟩ := Try.rowCh
  exact wpList_load_mid hgd _ x ho b f hx [c0, c1, c2, c3, c4, c5] d hg hd1 hd2 Try.sizeCh h
theorem entF0 : EntF 19 := fun _ _ => by kernel_rfl
theorem entF1 : EntF 20 := fun _ _ => by kernel_rfl
theorem entF2 : EntF 21 := fun _ _ => by kernel_rfl
theorem entF3 : EntF 22 := fun _ _ => by kernel_rfl
/-- What the rules are given. -/
structure Giv (w : World) (r : RuD) (X : List SX) (K : List LoD) (s : ScD) (G : List SX) (L : List LoD) (sv lv : Value) : Prop where
  sc : Sc w s G L sv lv
  r : s.r = r
  x : G.map (·.s) = X.map (·.s)
  l : L = G.map fun y => ldOf K y.s.id
theorem Giv.below {w w' : World} {r : RuD} {X : List SX} {K : List LoD} {s : ScD} {G : List SX} {L : List LoD} {sv lv : Value} (h : Giv w r X K s G L sv lv) (hb : Below w.heap.size w w') : Giv w' r X K s G L sv lv := ⟨h.sc.below hb, h.r, h.x, h.l⟩
theorem Try.underlying4r : Try.prog.underlying 64 = some (.array 4 63) := by kernel_rfl
theorem index4r (f0 f1 f2 f3 : Value) (i : Nat) (h : i < 4) (x : Value) (hx : [f0, f1, f2, f3].getD i undef = x) (w : World) :
    (Instr.index 64 (.agg #[f0, f1, f2, f3]) (.int .i64 (i : Int))).run Try.prog w = .ok x w := by
  subst hx
  match i, h with
  | 0, h => simp [Instr.index, run_underlying Try.underlying4r, asIntOf, go_sem]
  | 1, h => simp [Instr.index, run_underlying Try.underlying4r, asIntOf, go_sem]
  | 2, h => simp [Instr.index, run_underlying Try.underlying4r, asIntOf, go_sem]
  | 3, h => simp [Instr.index, run_underlying Try.underlying4r, asIntOf, go_sem]
set_option maxRecDepth 100000 in
set_option maxHeartbeats 8000000 in
theorem decide_on (b wb mb n B : Nat) (ov : Value) (D : DataW Value) (N : AtN) (X : List SX) (r : RuD) (K : List LoD) (V : List Int) (kv vv : Value) (Q : Nat → ChD → Bool → Prop) (P : ChD → Int → Prop) (w : World) (h : At w b wb mb n ov D N X) (g : Gd B N (X.map (·.s))) (hB : B ≤ 1000) (hn : n ≤ 1000) (hai : WIn X) (hxl : X.length ≤ 1000) (hsp : ∀ x ∈ X, 0 ≤ x.s.fr ∧ x.s.fr < x.s.to ∧ x.s.to ≤ 256)
    (hk : Lds w kv K) (hkj : ∀ l ∈ K, I64 l.sh) (hkl : K.length ≤ 1000) (hv : Nums w vv V)
    (hm : mayB r = true) (ho : N.op = []) (he : N.ep < r.cap)
    (h0 : ∀ W s G L sv lv, Giv W r X K s G L sv lv → Calls Try.prog 19 #[.agg (scC s sv lv)] W (RqP (Q 0) W))
    (h1 : ∀ W s G L sv lv, Giv W r X K s G L sv lv → Calls Try.prog 20 #[.agg (scC s sv lv)] W (RqP (Q 1) W))
    (h2 : ∀ W s G L sv lv, Giv W r X K s G L sv lv → Calls Try.prog 21 #[.agg (scC s sv lv)] W (RqP (Q 2) W))
    (h3 : ∀ W s G L sv lv, Giv W r X K s G L sv lv → Calls Try.prog 22 #[.agg (scC s sv lv)] W (RqP (Q 3) W))
    (hP : ∀ c, ChJ c → ∃ q N' Z', StepR N (X.map (·.s)) c q N' Z' ∧ P c q) :
    Calls Try.prog 7 #[.pointer (some ⟨b, 0, none⟩), .agg (ruC r), kv, vv] w (DcP N (X.map (·.s)) Q P w) := by
  have H := hid h
  have HG := hid g
  have HAI := hid hai
  have HOL : Hid (N.op.length ≤ 1000000) := hid (by rw [ho]; simp)
  have HMY := hid (may_any r)
  have hrc : 0 ≤ r.cold ∧ r.cold ≤ 1073741824 := by
    have := List.all_eq_true.1 hm r.cold (by simp [ruL])
    unfold okN at this
    simpa using this
  have HLK := hid (fun W (hW : At W b wb mb n ov D N X) (hk : Lds W kv K) (hv : Nums W vv V) => look_any b wb mb n ov D N X r K kv V vv W hW hai.shb hai.i64 hai.one hxl hsp hrc hk hkj hkl hv)
  have HKV := hid hk
  have HVV := hid hv
  have HP := hid hP
  have HN0 := hid h0
  have HN1 := hid h1
  have HN2 := hid h2
  have HN3 := hid h3
  have HBB := hid hB
  have HNN := hid hn
  have HXL : Hid (X.length ≤ 1000000) := hid (by omega)
  obtain ⟨ka, kc, rfl⟩ := hk.shape
  obtain ⟨va, vc, rfl⟩ := hv.shape
  unfold ruV at HMY
  rw [hm] at HMY
  have hl0 : N.op.length = 0 := by rw [ho]; rfl
  clear h g hai hk hv hP h0 h1 h2 h3 hB hn hm ho hrc hxl hsp hkj hkl
  unfold ruC at *
  go_enter Try.func7, Try.ntmps7
  go_upto_region 1 with fail
  obtain ⟨w1, hw1⟩ : ∃ w1, w1 = (w.alloc (.cells #[.int .i64 r.hot, .int .i64 r.cold, .int .i64 r.long, .int .i64 r.mute, .int .i64 r.cap] 24)).alloc (.cells #[.int .i64 0, .int .i64 0, .int .i64 0, .int .i64 0, .int .i64 0, .int .i64 0] 35) := ⟨_, rfl⟩
  obtain ⟨hA, hC⟩ := heap_two w (.cells #[.int .i64 r.hot, .int .i64 r.cold, .int .i64 r.long, .int .i64 r.mute, .int .i64 r.cap] 24) (.cells #[.int .i64 0, .int .i64 0, .int .i64 0, .int .i64 0, .int .i64 0, .int .i64 0] 35)
  rw [← hw1] at hA hC
  have B1 : Hid (Below w.heap.size w w1) := hid (by rw [hw1]; exact ((Below.refl _ _).alloc (Nat.le_refl _) _).alloc (by simp) _)
  rw [← hw1]
  clear hw1
  obtain ⟨C, hCe⟩ : ∃ P, P = w.heap.size + 1 := ⟨_, rfl⟩
  rw [← hCe] at hC
  rw [← hCe]
  obtain ⟨A, hAe⟩ : ∃ P, P = w.heap.size := ⟨_, rfl⟩
  rw [← hAe] at hA
  rw [← hAe]
  have HLC : Hid (w.heap.size ≤ C) := hid (by omega)
  have HA := hid hA
  have HC := hid hC
  have H1 := hid (H.out.below B1.out)
  clear hA hC hAe hCe
  obtain ⟨dR, hdR1, hdR2⟩ := Try.rowRu
  have SB : Hid (∀ Y, Below w1.heap.size w1 Y → Y.rangeAt A 0 [.int .i64 r.hot, .int .i64 r.cold, .int .i64 r.long, .int .i64 r.mute, .int .i64 r.cap] ∧ Y.cell? ⟨A, 4, none⟩ = some (.int .i64 r.cap)) := hid fun Y hY => ⟨range_of_row ((hY.block A (lt_of_block HA.out)).trans HA.out) 0 _ fun j v hv => by rw [Nat.zero_add]; simpa using hv, by rw [cell_of_row _ _ _ _ _ _ ((hY.block A (lt_of_block HA.out)).trans HA.out)]; rfl⟩
  refine wp_region_held_drew (S := fun Y => Y.rangeAt A 0 [.int .i64 r.hot, .int .i64 r.cold, .int .i64 r.long, .int .i64 r.mute, .int .i64 r.cap] ∧ Y.cell? ⟨A, 4, none⟩ = some (.int .i64 r.cap)) (by kernel_rfl) (SB.out _ ((Below.refl _ _).drew)) (fun hHeld => ?_)
  refine wpAnyH_take (i := 0) (v := ?pv0) rfl (by kernel_rfl) (by kernel_rfl) (by kernel_rfl) (fun _ _ _ h => h) (Or.inl ⟨by rfl, ?py0⟩) (by assumption) ?pr0
  case py0 => (intro w hSw; (try dsimp only at hSw); go_simp; try with_reducible rfl)
  (try simp only [Act.put, putS])
  refine wpAnyH_take (i := 1) (v := ?pv1) rfl (by kernel_rfl) (by kernel_rfl) (by kernel_rfl) (fun _ _ _ h => h) (Or.inl ⟨by rfl, ?py1⟩) (by assumption) ?pr1
  case py1 => (intro w hSw; (try dsimp only at hSw); go_simp; try with_reducible rfl)
  (try simp only [Act.put, putS])
  refine wpAnyH_take (i := 2) (v := ?pv2) rfl (by kernel_rfl) (by kernel_rfl) (by kernel_rfl) (fun _ _ _ h => h) (Or.inl ⟨by rfl, ?py2⟩) (by assumption) ?pr2
  case py2 => (intro w hSw; (try dsimp only at hSw); go_simp; try with_reducible rfl)
  (try simp only [Act.put, putS])
  refine wpAnyH_take (i := 3) (v := .agg #[.int .i64 r.hot, .int .i64 r.cold, .int .i64 r.long, .int .i64 r.mute, .int .i64 r.cap]) rfl (by kernel_rfl) (by kernel_rfl) (by kernel_rfl) (fun _ _ _ h => h) (yieldsIf_load_mid rfl _ _ rfl A 0 rfl [.int .i64 r.hot, .int .i64 r.cold, .int .i64 r.long, .int .i64 r.mute, .int .i64 r.cap] dR (fun Y hY => hY.1) hdR1 hdR2 Try.sizeRu) (by assumption) ?_
  (try simp only [Act.put, putS])
  refine wpAnyH_ready (rs := [4]) (by kernel_rfl) (by simp) ?_
  refine AllReadyH.cons rfl (fun K hK => ?_) AllReadyH.nil
  rw [if_pos (by rfl)]
  go_wp2_with fail
  refine (HMY.out _).mono ?_
  rintro e w2 ⟨rfl, hb2⟩
  have B2 : Hid (Below w1.heap.size w1 w2) := hid (((Below.refl w1.heap.size w1).drew).trans hb2)
  clear hb2
  refine hK.out _ _ (SB.out _ B2.out) (fun hHeld => ?_)
  try clear hK K
  (try simp only [Act.put, putS])
  refine wpAnyH_take (i := 5) (v := ?sv5) rfl (by kernel_rfl) (by kernel_rfl) (by kernel_rfl) (fun _ _ _ h => h) (Or.inl ⟨by rfl, ?sy5⟩) (by assumption) ?sr5
  case sy5 => (intro w hSw; (try dsimp only at hSw); go_simp; try with_reducible rfl)
  (try simp only [Act.put, putS])
  refine wpAnyH_take (i := 6) (v := ?sv6) rfl (by kernel_rfl) (by kernel_rfl) (by kernel_rfl) (fun _ _ _ h => h) (Or.inl ⟨by rfl, ?sy6⟩) (by assumption) ?sr6
  case sy6 => (intro w hSw; (try dsimp only at hSw); go_simp; try with_reducible rfl)
  (try simp only [Act.put, putS])
  refine wpAnyH_take (i := 7) (v := ?sv7) rfl (by kernel_rfl) (by kernel_rfl) (by kernel_rfl) (fun _ _ _ h => h) (Or.inl ⟨by rfl, ?sy7⟩) (by assumption) ?sr7
  case sy7 => (intro w hSw; (try dsimp only at hSw); go_simp; try with_reducible rfl)
  (try simp only [Act.put, putS])
  refine wpAnyH_take (i := 8) (v := ?sv8) rfl (by kernel_rfl) (by kernel_rfl) (by kernel_rfl) (fun _ _ _ h => h) (Or.inl ⟨by rfl, ?sy8⟩) (by assumption) ?sr8
  case sy8 => (intro w hSw; (try dsimp only at hSw); go_simp; try with_reducible rfl)
  (try simp only [Act.put, putS])
  refine wpAnyH_ready (rs := [9]) (by kernel_rfl) (by simp) ?_
  refine AllReadyH.cons rfl (fun K hK => ?_) AllReadyH.nil
  rw [if_pos (by rfl)]
  go_wp2_with fail
  refine (aopen_any b wb mb n ov D N _ X _ (H1.out.below B2.out).m HOL.out).mono ?_
  rintro e w3 ⟨oa, oc, rfl, -, hb3⟩
  have B3 : Hid (Below w1.heap.size w1 w3) := hid (B2.out.trans (hb3.mono B2.out.size))
  clear hb3
  refine hK.out _ _ (SB.out _ B3.out) (fun hHeld => ?_)
  try clear hK K
  (try simp only [Act.put, putS])
  refine wpAnyH_take (i := 10) (v := ?tv10) rfl (by kernel_rfl) (by kernel_rfl) (by kernel_rfl) (fun _ _ _ h => h) (Or.inl ⟨by rfl, ?ty10⟩) (by assumption) ?tr10
  case ty10 => (intro w hSw; (try dsimp only at hSw); go_simp; try with_reducible rfl)
  (try simp only [Act.put, putS])
  refine wpAnyH_take (i := 11) (v := ?tv11) rfl (by kernel_rfl) (by kernel_rfl) (by kernel_rfl) (fun _ _ _ h => h) (Or.inl ⟨by rfl, ?ty11⟩) (by assumption) ?tr11
  case ty11 => (intro w hSw; (try dsimp only at hSw); go_simp; try with_reducible rfl)
  (try simp only [Act.put, putS])
  refine wpAnyH_take (i := 12) (v := ?tv12) rfl (by kernel_rfl) (by kernel_rfl) (by kernel_rfl) (fun _ _ _ h => h) (Or.inl ⟨by rfl, ?ty12⟩) (by assumption) ?tr12
  case ty12 => (intro w hSw; (try dsimp only at hSw); go_simp; try with_reducible rfl)
  (try simp only [Act.put, putS])
  refine wpAnyH_take (i := 13) (v := ?tv13) rfl (by kernel_rfl) (by kernel_rfl) (by kernel_rfl) (fun _ _ _ h => h) (Or.inl ⟨by rfl, ?ty13⟩) (by assumption) ?tr13
  case ty13 => (intro w hSw; (try dsimp only at hSw); go_simp; try with_reducible rfl)
  (try simp only [Act.put, putS])
  refine wpAnyH_take (i := 14) (v := ?tv14) rfl (by kernel_rfl) (by kernel_rfl) (by kernel_rfl) (fun _ _ _ h => h) (Or.inl ⟨by rfl, ?ty14⟩) (by assumption) ?tr14
  case ty14 => (intro w hSw; (try dsimp only at hSw); go_simp; try with_reducible rfl)
  (try simp only [Act.put, putS])
  refine wpAnyH_take (i := 16) (v := ?tv16) rfl (by kernel_rfl) (by kernel_rfl) (by kernel_rfl) (fun _ _ _ h => h) (Or.inl ⟨by rfl, ?ty16⟩) (by assumption) ?tr16
  case ty16 => (intro w hSw; (try dsimp only at hSw); go_simp; try with_reducible rfl)
  (try simp only [Act.put, putS])
  refine wpAnyH_take (i := 17) (v := ?tv17) rfl (by kernel_rfl) (by kernel_rfl) (by kernel_rfl) (fun _ _ _ h => h) (Or.inl ⟨by rfl, ?ty17⟩) (by assumption) ?tr17
  case ty17 => (intro w hSw; (try dsimp only at hSw); go_simp; try with_reducible rfl)
  (try simp only [Act.put, putS])
  refine wpAnyH_ready (rs := [15]) (by kernel_rfl) (by simp) ?_
  refine AllReadyH.cons rfl (fun K hK => ?_) AllReadyH.nil
  rw [if_pos (by rfl)]
  go_wp2_with fail
  refine (aepoch_any b wb mb n ov D N _ X _ (H1.out.below B3.out).m).mono ?_
  rintro e w4 ⟨rfl, hw4⟩
  replace hw4 := hw4.symm
  subst hw4
  refine hK.out _ _ (SB.out _ B3.out) (fun hHeld => ?_)
  try clear hK K
  (try simp only [Act.put, putS])
  refine wpAnyH_take (i := 18) (v := ?tv18) rfl (by kernel_rfl) (by kernel_rfl) (by kernel_rfl) (fun _ _ _ h => h) (Or.inl ⟨by rfl, ?ty18⟩) (by assumption) ?tr18
  case ty18 => (intro w hSw; (try dsimp only at hSw); go_simp; try with_reducible rfl)
  (try simp only [Act.put, putS])
  refine wpAnyH_take (i := 19) (v := ?tv19) rfl (by kernel_rfl) (by kernel_rfl) (by kernel_rfl) (fun _ _ _ h => h) (Or.inl ⟨by rfl, ?ty19⟩) (by assumption) ?tr19
  case ty19 => (intro w hSw; (try dsimp only at hSw); go_simp; try with_reducible rfl)
  (try simp only [Act.put, putS])
  refine wpAnyH_done (by kernel_rfl) ?_ _
  have hR3 := (SB.out _ B3.out).1
  have B13 := hid (B1.out.trans (B3.out.mono B1.out.size))
  have HC3 := hid ((B3.out.block C (lt_of_block HC.out)).trans HC.out)
  go_wp2_with (refine wpl_loadRu rfl _ rfl A 0 rfl _ _ _ _ _ hR3 ?_)
  refine (HLK.out _ (H1.out.below B3.out) (HKV.out.below B13.out) (HVV.out.below B13.out)).mono ?_
  rintro e w4 ⟨s, G, sv, lv, rfl, hsr, hgx, hsc, hb4⟩
  have B34 := hid hb4
  have HGV : Hid (Giv w4 r X K s G (G.map fun y => ldOf K y.s.id) sv lv) := hid ⟨hsc, hsr, hgx, rfl⟩
  obtain ⟨⟨sa, sc, rfl⟩, ⟨la, lc, rfl⟩⟩ := hsc.shape
  clear hsr hgx hsc hb4 hR3
  unfold scC
  go_upto_region 4 with fail
  have hb45 : Below w4.heap.size w4 (w4.alloc (scB s (.slice sa G.length sc) (.slice la G.length lc))) := (Below.refl _ _).alloc (Nat.le_refl _) _
  have hS5 := heap_alloc_new w4 (scB s (.slice sa G.length sc) (.slice la G.length lc))
  have HB45 := hid hb45
  have HS5 := hid hS5
  have B15 := hid ((B13.out.trans (B34.out.mono B13.out.size)).trans (hb45.mono (B13.out.trans (B34.out.mono B13.out.size)).size))
  have HG5 := hid (HGV.out.below hb45)
  have H5 := hid (H.out.below B15.out)
  have HC5 := hid (((B34.out.trans (hb45.mono B34.out.size)).block C (lt_of_block HC3.out)).trans HC3.out)
  obtain ⟨w5, hw5⟩ : ∃ w5, w5 = w4.alloc (scB s (.slice sa G.length sc) (.slice la G.length lc)) := ⟨_, rfl⟩
  rw [← hw5] at HS5 B15 HG5 H5 HC5
  unfold scB scC at hw5
  rw [← hw5]
  clear hw5 hb45 hS5 HB45 HGV H1 SB HA HC B3 B2 B13 B34 HC3 HLK HMY
  generalize w4.heap.size = SP at *
  unfold scB at HS5
  go_upto_region 5 with fail
  go_loopw [12, 13, 14, 42] (fun _ _ _ iv wr => ∃ i : Nat, iv = .int .i64 i ∧ i ≤ 4 ∧ (∀ j, j < i → Q j zCh false) ∧ Below w5.heap.size w5 wr) (fun _ _ _ iv _ => 4 - (intOf iv).toNat)
  case atStart => exact ⟨0, rfl, by omega, (fun j hj => by omega), Below.refl _ _⟩
  case round =>
    obtain ⟨i, rfl, hi, hall, hbr⟩ := hrel
    have BR := hid hbr
    have HALL := hid hall
    have HGR := hid (HG5.out.below hbr)
    have HSR := hid ((hbr.block SP (lt_of_block HS5.out)).trans HS5.out)
    have BWR := hid (B15.out.trans (hbr.mono B15.out.size))
    have HCR := hid ((hbr.block C (lt_of_block HC5.out)).trans HC5.out)
    have HR := hid (H5.out.below hbr)
    clear hbr hall
    by_cases h4 : i = 4
    · subst h4
      have HCZ := HCR
      go_wp2_with (refine wpl_storeC rfl _ _ rfl C (.int .i64 0) (.int .i64 0) (.int .i64 0) (.int .i64 0) (.int .i64 0) (.int .i64 0) rfl rfl rfl rfl rfl rfl rfl rfl _ _ rfl HCZ.out ?_)
      (try simp only [Exit.inBlock, Exit.then])
      refine bodyPost_ret (results_chB rfl _ _ C _ _ _ rfl rfl (setRow_heap _ _ _ _ _ _ HCZ.out)) rfl ?_
      exact ⟨zCh, false, rfl, zCh_J, by decide, .inr ⟨rfl, rfl, .inl HALL.out⟩, below_row BWR.out HLC.out _⟩
    · have hi4 : i < 4 := by omega
      have hI4 : (i : Int) < 4 := by omega
      have e0 := entF0
      have e1 := entF1
      have e2 := entF2
      have e3 := entF3
      unfold EntF at e0 e1 e2 e3
      have hc : i = 0 ∨ i = 1 ∨ i = 2 ∨ i = 3 := by omega
      clear h4 hi hl0 he
      have hsr := HSR.out
      rcases hc with rfl | rfl | rfl | rfl
      · have hix : ∀ W : World, (Instr.index 64 (.agg #[.func (.func 19) #[] #[], .func (.func 20) #[] #[], .func (.func 21) #[] #[], .func (.func 22) #[] #[]]) (.int .i64 0)).run Try.prog W = .ok (.func (.func 19) #[] #[]) W := fun W => index4r _ _ _ _ 0 (by omega) _ rfl W
        have HCALL := hid (HN0.out _ _ _ _ _ _ HGR.out)
        have HIX : Hid ((0 : Nat) < 4) := hid (by omega)
        unfold scC at HCALL hsr
        simp only [List.length_map] at HCALL hsr
        clear e0 e1 e2 e3
        go_upto_region 7 with fail
        clear hix
        go_wp2_with (refine wpl_loadSc rfl _ rfl SP rfl _ _ _ rfl hsr ?_)
        refine HCALL.out.mono ?_
        rintro e w6 ⟨⟨k, sh, ot, at', out, in'⟩, ok, rfl, hcj, hk5, hz, hq, hb6⟩
        have HCJ := hid hcj
        have HK5 := hid hk5
        have HZ := hid hz
        have HQ := hid hq
        have HB6 := hid hb6
        clear hcj hk5 hz hq hb6 HCALL hsr
        unfold chV
        go_upto_region 9 with fail
        have hb7 : Below w6.heap.size w6 (w6.alloc (.cells #[.int .i64 k, .int .i64 sh, .int .i64 ot, .int .i64 at', .int .i64 out, .int .i64 in'] 35)) := (Below.refl _ _).alloc (Nat.le_refl _) _
        have hP7 := heap_alloc_new w6 (.cells #[.int .i64 k, .int .i64 sh, .int .i64 ot, .int .i64 at', .int .i64 out, .int .i64 in'] 35)
        have HB7 := hid (HB6.out.trans (hb7.mono HB6.out.size))
        have HP7 := hid hP7
        clear hb7 hP7 HB6
        generalize w6.alloc (.cells #[.int .i64 k, .int .i64 sh, .int .i64 ot, .int .i64 at', .int .i64 out, .int .i64 in'] 35) = w7 at *
        generalize w6.heap.size = P7 at *
        cases ok with
        | false =>
          have HZ0 := hid (HZ.out rfl)
          have HAL : Hid (∀ j, j < 0 + 1 → Q j zCh false) := hid fun j hj => by
            rcases Nat.lt_or_ge j 0 with h1 | h1
            · exact HALL.out j h1
            · have e : j = 0 := by omega
              rw [e, ← HZ0.out]; exact HQ.out
          go_wp2_with fail
          go_roundw
          case rel => exact ⟨0 + 1, by go_num, by omega, HAL.out, BR.out.trans (HB7.out.mono BR.out.size)⟩
          case measure => simp [intOf]
        | true =>
          obtain ⟨q, N', Z', hst, hp⟩ := HP.out ⟨k, sh, ot, at', out, in'⟩ HCJ.out
          have HTK := hid (takes_any b wb mb n B ov D N N' X Z' ⟨k, sh, ot, at', out, in'⟩ q w7 (HR.out.below HB7.out) HG.out hst HCJ.out HBB.out HNN.out HOL.out HXL.out)
          have HST := hid hst
          have HPQ := hid hp
          have hR7 : w7.rangeAt P7 0 [.int .i64 k, .int .i64 sh, .int .i64 ot, .int .i64 at', .int .i64 out, .int .i64 in'] := range_of_row HP7.out 0 _ fun j v hv => by rw [Nat.zero_add]; simpa using hv
          clear hst hp
          unfold chV at HTK
          cases hqz : (q == 0) with
          | false =>
            have HQZ : Hid (q ≠ 0) := hid (by simpa using hqz)
            rw [hqz] at HTK
            clear hqz
            go_wp2_with (first | (refine wpl_loadCh rfl _ rfl P7 0 rfl _ _ _ _ _ _ hR7 ?_) | (go_at_call 23; refine HTK.out.mono ?_; rintro e w8 ⟨rfl, hb8⟩; have B8 := hid (HB7.out.trans (hb8.mono HB7.out.size)); have HCZ := hid ((B8.out.block C (lt_of_block HCR.out)).trans HCR.out); clear hb8) | (refine wpl_storeC rfl _ _ rfl C (.int .i64 0) (.int .i64 0) (.int .i64 0) (.int .i64 0) (.int .i64 0) (.int .i64 0) rfl rfl rfl rfl rfl rfl rfl rfl _ _ rfl HCZ.out ?_))
            (try simp only [Exit.inBlock, Exit.then])
            refine bodyPost_ret (results_chB rfl _ _ C _ _ _ rfl rfl (setRow_heap _ _ _ _ _ _ HCZ.out)) rfl ?_
            exact ⟨zCh, false, rfl, zCh_J, by decide, .inr ⟨rfl, rfl, .inr ⟨0, _, q, HIX.out, HQ.out, HALL.out, HPQ.out, HQZ.out⟩⟩, below_row (BWR.out.trans (B8.out.mono BWR.out.size)) HLC.out _⟩
          | true =>
            have HQZ : Hid (q = 0) := hid (by simpa using hqz)
            rw [hqz] at HTK
            clear hqz
            go_wp2_with (first | (refine wpl_loadCh rfl _ rfl P7 0 rfl _ _ _ _ _ _ hR7 ?_) | (go_at_call 23; refine HTK.out.mono ?_; rintro e w8 ⟨rfl, hb8⟩; have B8 := hid (HB7.out.trans (hb8.mono HB7.out.size)); have HCZ := hid ((B8.out.block C (lt_of_block HCR.out)).trans HCR.out); replace hR7 : w8.rangeAt P7 0 [.int .i64 k, .int .i64 sh, .int .i64 ot, .int .i64 at', .int .i64 out, .int .i64 in'] := (fun j v hv => cell_later hb8 (hR7 j v hv)); clear hb8) | (refine wpl_storeC rfl _ _ rfl C (.int .i64 k) (.int .i64 sh) (.int .i64 ot) (.int .i64 at') (.int .i64 out) (.int .i64 in') rfl rfl rfl rfl rfl rfl rfl rfl _ _ rfl HCZ.out ?_))
            (try simp only [Exit.inBlock, Exit.then])
            refine bodyPost_ret (results_chB rfl _ _ C _ _ _ rfl rfl (setRow_heap _ _ _ _ _ _ HCZ.out)) rfl ?_
            exact ⟨⟨k, sh, ot, at', out, in'⟩, true, rfl, HCJ.out, HK5.out, .inl ⟨rfl, 0, HIX.out, HQ.out, HALL.out, N', Z', by have := HST.out; rwa [HQZ.out] at this⟩, below_row (BWR.out.trans (B8.out.mono BWR.out.size)) HLC.out _⟩
      · have hix : ∀ W : World, (Instr.index 64 (.agg #[.func (.func 19) #[] #[], .func (.func 20) #[] #[], .func (.func 21) #[] #[], .func (.func 22) #[] #[]]) (.int .i64 1)).run Try.prog W = .ok (.func (.func 20) #[] #[]) W := fun W => index4r _ _ _ _ 1 (by omega) _ rfl W
        have HCALL := hid (HN1.out _ _ _ _ _ _ HGR.out)
        have HIX : Hid ((1 : Nat) < 4) := hid (by omega)
        unfold scC at HCALL hsr
        simp only [List.length_map] at HCALL hsr
        clear e0 e1 e2 e3
        go_upto_region 7 with fail
        clear hix
        go_wp2_with (refine wpl_loadSc rfl _ rfl SP rfl _ _ _ rfl hsr ?_)
        refine HCALL.out.mono ?_
        rintro e w6 ⟨⟨k, sh, ot, at', out, in'⟩, ok, rfl, hcj, hk5, hz, hq, hb6⟩
        have HCJ := hid hcj
        have HK5 := hid hk5
        have HZ := hid hz
        have HQ := hid hq
        have HB6 := hid hb6
        clear hcj hk5 hz hq hb6 HCALL hsr
        unfold chV
        go_upto_region 9 with fail
        have hb7 : Below w6.heap.size w6 (w6.alloc (.cells #[.int .i64 k, .int .i64 sh, .int .i64 ot, .int .i64 at', .int .i64 out, .int .i64 in'] 35)) := (Below.refl _ _).alloc (Nat.le_refl _) _
        have hP7 := heap_alloc_new w6 (.cells #[.int .i64 k, .int .i64 sh, .int .i64 ot, .int .i64 at', .int .i64 out, .int .i64 in'] 35)
        have HB7 := hid (HB6.out.trans (hb7.mono HB6.out.size))
        have HP7 := hid hP7
        clear hb7 hP7 HB6
        generalize w6.alloc (.cells #[.int .i64 k, .int .i64 sh, .int .i64 ot, .int .i64 at', .int .i64 out, .int .i64 in'] 35) = w7 at *
        generalize w6.heap.size = P7 at *
        cases ok with
        | false =>
          have HZ0 := hid (HZ.out rfl)
          have HAL : Hid (∀ j, j < 1 + 1 → Q j zCh false) := hid fun j hj => by
            rcases Nat.lt_or_ge j 1 with h1 | h1
            · exact HALL.out j h1
            · have e : j = 1 := by omega
              rw [e, ← HZ0.out]; exact HQ.out
          go_wp2_with fail
          go_roundw
          case rel => exact ⟨1 + 1, by go_num, by omega, HAL.out, BR.out.trans (HB7.out.mono BR.out.size)⟩
          case measure => simp [intOf]
        | true =>
          obtain ⟨q, N', Z', hst, hp⟩ := HP.out ⟨k, sh, ot, at', out, in'⟩ HCJ.out
          have HTK := hid (takes_any b wb mb n B ov D N N' X Z' ⟨k, sh, ot, at', out, in'⟩ q w7 (HR.out.below HB7.out) HG.out hst HCJ.out HBB.out HNN.out HOL.out HXL.out)
          have HST := hid hst
          have HPQ := hid hp
          have hR7 : w7.rangeAt P7 0 [.int .i64 k, .int .i64 sh, .int .i64 ot, .int .i64 at', .int .i64 out, .int .i64 in'] := range_of_row HP7.out 0 _ fun j v hv => by rw [Nat.zero_add]; simpa using hv
          clear hst hp
          unfold chV at HTK
          cases hqz : (q == 0) with
          | false =>
            have HQZ : Hid (q ≠ 0) := hid (by simpa using hqz)
            rw [hqz] at HTK
            clear hqz
            go_wp2_with (first | (refine wpl_loadCh rfl _ rfl P7 0 rfl _ _ _ _ _ _ hR7 ?_) | (go_at_call 23; refine HTK.out.mono ?_; rintro e w8 ⟨rfl, hb8⟩; have B8 := hid (HB7.out.trans (hb8.mono HB7.out.size)); have HCZ := hid ((B8.out.block C (lt_of_block HCR.out)).trans HCR.out); clear hb8) | (refine wpl_storeC rfl _ _ rfl C (.int .i64 0) (.int .i64 0) (.int .i64 0) (.int .i64 0) (.int .i64 0) (.int .i64 0) rfl rfl rfl rfl rfl rfl rfl rfl _ _ rfl HCZ.out ?_))
            (try simp only [Exit.inBlock, Exit.then])
            refine bodyPost_ret (results_chB rfl _ _ C _ _ _ rfl rfl (setRow_heap _ _ _ _ _ _ HCZ.out)) rfl ?_
            exact ⟨zCh, false, rfl, zCh_J, by decide, .inr ⟨rfl, rfl, .inr ⟨1, _, q, HIX.out, HQ.out, HALL.out, HPQ.out, HQZ.out⟩⟩, below_row (BWR.out.trans (B8.out.mono BWR.out.size)) HLC.out _⟩
          | true =>
            have HQZ : Hid (q = 0) := hid (by simpa using hqz)
            rw [hqz] at HTK
            clear hqz
            go_wp2_with (first | (refine wpl_loadCh rfl _ rfl P7 0 rfl _ _ _ _ _ _ hR7 ?_) | (go_at_call 23; refine HTK.out.mono ?_; rintro e w8 ⟨rfl, hb8⟩; have B8 := hid (HB7.out.trans (hb8.mono HB7.out.size)); have HCZ := hid ((B8.out.block C (lt_of_block HCR.out)).trans HCR.out); replace hR7 : w8.rangeAt P7 0 [.int .i64 k, .int .i64 sh, .int .i64 ot, .int .i64 at', .int .i64 out, .int .i64 in'] := (fun j v hv => cell_later hb8 (hR7 j v hv)); clear hb8) | (refine wpl_storeC rfl _ _ rfl C (.int .i64 k) (.int .i64 sh) (.int .i64 ot) (.int .i64 at') (.int .i64 out) (.int .i64 in') rfl rfl rfl rfl rfl rfl rfl rfl _ _ rfl HCZ.out ?_))
            (try simp only [Exit.inBlock, Exit.then])
            refine bodyPost_ret (results_chB rfl _ _ C _ _ _ rfl rfl (setRow_heap _ _ _ _ _ _ HCZ.out)) rfl ?_
            exact ⟨⟨k, sh, ot, at', out, in'⟩, true, rfl, HCJ.out, HK5.out, .inl ⟨rfl, 1, HIX.out, HQ.out, HALL.out, N', Z', by have := HST.out; rwa [HQZ.out] at this⟩, below_row (BWR.out.trans (B8.out.mono BWR.out.size)) HLC.out _⟩
      · have hix : ∀ W : World, (Instr.index 64 (.agg #[.func (.func 19) #[] #[], .func (.func 20) #[] #[], .func (.func 21) #[] #[], .func (.func 22) #[] #[]]) (.int .i64 2)).run Try.prog W = .ok (.func (.func 21) #[] #[]) W := fun W => index4r _ _ _ _ 2 (by omega) _ rfl W
        have HCALL := hid (HN2.out _ _ _ _ _ _ HGR.out)
        have HIX : Hid ((2 : Nat) < 4) := hid (by omega)
        unfold scC at HCALL hsr
        simp only [List.length_map] at HCALL hsr
        clear e0 e1 e2 e3
        go_upto_region 7 with fail
        clear hix
        go_wp2_with (refine wpl_loadSc rfl _ rfl SP rfl _ _ _ rfl hsr ?_)
        refine HCALL.out.mono ?_
        rintro e w6 ⟨⟨k, sh, ot, at', out, in'⟩, ok, rfl, hcj, hk5, hz, hq, hb6⟩
        have HCJ := hid hcj
        have HK5 := hid hk5
        have HZ := hid hz
        have HQ := hid hq
        have HB6 := hid hb6
        clear hcj hk5 hz hq hb6 HCALL hsr
        unfold chV
        go_upto_region 9 with fail
        have hb7 : Below w6.heap.size w6 (w6.alloc (.cells #[.int .i64 k, .int .i64 sh, .int .i64 ot, .int .i64 at', .int .i64 out, .int .i64 in'] 35)) := (Below.refl _ _).alloc (Nat.le_refl _) _
        have hP7 := heap_alloc_new w6 (.cells #[.int .i64 k, .int .i64 sh, .int .i64 ot, .int .i64 at', .int .i64 out, .int .i64 in'] 35)
        have HB7 := hid (HB6.out.trans (hb7.mono HB6.out.size))
        have HP7 := hid hP7
        clear hb7 hP7 HB6
        generalize w6.alloc (.cells #[.int .i64 k, .int .i64 sh, .int .i64 ot, .int .i64 at', .int .i64 out, .int .i64 in'] 35) = w7 at *
        generalize w6.heap.size = P7 at *
        cases ok with
        | false =>
          have HZ0 := hid (HZ.out rfl)
          have HAL : Hid (∀ j, j < 2 + 1 → Q j zCh false) := hid fun j hj => by
            rcases Nat.lt_or_ge j 2 with h1 | h1
            · exact HALL.out j h1
            · have e : j = 2 := by omega
              rw [e, ← HZ0.out]; exact HQ.out
          go_wp2_with fail
          go_roundw
          case rel => exact ⟨2 + 1, by go_num, by omega, HAL.out, BR.out.trans (HB7.out.mono BR.out.size)⟩
          case measure => simp [intOf]
        | true =>
          obtain ⟨q, N', Z', hst, hp⟩ := HP.out ⟨k, sh, ot, at', out, in'⟩ HCJ.out
          have HTK := hid (takes_any b wb mb n B ov D N N' X Z' ⟨k, sh, ot, at', out, in'⟩ q w7 (HR.out.below HB7.out) HG.out hst HCJ.out HBB.out HNN.out HOL.out HXL.out)
          have HST := hid hst
          have HPQ := hid hp
          have hR7 : w7.rangeAt P7 0 [.int .i64 k, .int .i64 sh, .int .i64 ot, .int .i64 at', .int .i64 out, .int .i64 in'] := range_of_row HP7.out 0 _ fun j v hv => by rw [Nat.zero_add]; simpa using hv
          clear hst hp
          unfold chV at HTK
          cases hqz : (q == 0) with
          | false =>
            have HQZ : Hid (q ≠ 0) := hid (by simpa using hqz)
            rw [hqz] at HTK
            clear hqz
            go_wp2_with (first | (refine wpl_loadCh rfl _ rfl P7 0 rfl _ _ _ _ _ _ hR7 ?_) | (go_at_call 23; refine HTK.out.mono ?_; rintro e w8 ⟨rfl, hb8⟩; have B8 := hid (HB7.out.trans (hb8.mono HB7.out.size)); have HCZ := hid ((B8.out.block C (lt_of_block HCR.out)).trans HCR.out); clear hb8) | (refine wpl_storeC rfl _ _ rfl C (.int .i64 0) (.int .i64 0) (.int .i64 0) (.int .i64 0) (.int .i64 0) (.int .i64 0) rfl rfl rfl rfl rfl rfl rfl rfl _ _ rfl HCZ.out ?_))
            (try simp only [Exit.inBlock, Exit.then])
            refine bodyPost_ret (results_chB rfl _ _ C _ _ _ rfl rfl (setRow_heap _ _ _ _ _ _ HCZ.out)) rfl ?_
            exact ⟨zCh, false, rfl, zCh_J, by decide, .inr ⟨rfl, rfl, .inr ⟨2, _, q, HIX.out, HQ.out, HALL.out, HPQ.out, HQZ.out⟩⟩, below_row (BWR.out.trans (B8.out.mono BWR.out.size)) HLC.out _⟩
          | true =>
            have HQZ : Hid (q = 0) := hid (by simpa using hqz)
            rw [hqz] at HTK
            clear hqz
            go_wp2_with (first | (refine wpl_loadCh rfl _ rfl P7 0 rfl _ _ _ _ _ _ hR7 ?_) | (go_at_call 23; refine HTK.out.mono ?_; rintro e w8 ⟨rfl, hb8⟩; have B8 := hid (HB7.out.trans (hb8.mono HB7.out.size)); have HCZ := hid ((B8.out.block C (lt_of_block HCR.out)).trans HCR.out); replace hR7 : w8.rangeAt P7 0 [.int .i64 k, .int .i64 sh, .int .i64 ot, .int .i64 at', .int .i64 out, .int .i64 in'] := (fun j v hv => cell_later hb8 (hR7 j v hv)); clear hb8) | (refine wpl_storeC rfl _ _ rfl C (.int .i64 k) (.int .i64 sh) (.int .i64 ot) (.int .i64 at') (.int .i64 out) (.int .i64 in') rfl rfl rfl rfl rfl rfl rfl rfl _ _ rfl HCZ.out ?_))
            (try simp only [Exit.inBlock, Exit.then])
            refine bodyPost_ret (results_chB rfl _ _ C _ _ _ rfl rfl (setRow_heap _ _ _ _ _ _ HCZ.out)) rfl ?_
            exact ⟨⟨k, sh, ot, at', out, in'⟩, true, rfl, HCJ.out, HK5.out, .inl ⟨rfl, 2, HIX.out, HQ.out, HALL.out, N', Z', by have := HST.out; rwa [HQZ.out] at this⟩, below_row (BWR.out.trans (B8.out.mono BWR.out.size)) HLC.out _⟩
      · have hix : ∀ W : World, (Instr.index 64 (.agg #[.func (.func 19) #[] #[], .func (.func 20) #[] #[], .func (.func 21) #[] #[], .func (.func 22) #[] #[]]) (.int .i64 3)).run Try.prog W = .ok (.func (.func 22) #[] #[]) W := fun W => index4r _ _ _ _ 3 (by omega) _ rfl W
        have HCALL := hid (HN3.out _ _ _ _ _ _ HGR.out)
        have HIX : Hid ((3 : Nat) < 4) := hid (by omega)
        unfold scC at HCALL hsr
        simp only [List.length_map] at HCALL hsr
        clear e0 e1 e2 e3
        go_upto_region 7 with fail
        clear hix
        go_wp2_with (refine wpl_loadSc rfl _ rfl SP rfl _ _ _ rfl hsr ?_)
        refine HCALL.out.mono ?_
        rintro e w6 ⟨⟨k, sh, ot, at', out, in'⟩, ok, rfl, hcj, hk5, hz, hq, hb6⟩
        have HCJ := hid hcj
        have HK5 := hid hk5
        have HZ := hid hz
        have HQ := hid hq
        have HB6 := hid hb6
        clear hcj hk5 hz hq hb6 HCALL hsr
        unfold chV
        go_upto_region 9 with fail
        have hb7 : Below w6.heap.size w6 (w6.alloc (.cells #[.int .i64 k, .int .i64 sh, .int .i64 ot, .int .i64 at', .int .i64 out, .int .i64 in'] 35)) := (Below.refl _ _).alloc (Nat.le_refl _) _
        have hP7 := heap_alloc_new w6 (.cells #[.int .i64 k, .int .i64 sh, .int .i64 ot, .int .i64 at', .int .i64 out, .int .i64 in'] 35)
        have HB7 := hid (HB6.out.trans (hb7.mono HB6.out.size))
        have HP7 := hid hP7
        clear hb7 hP7 HB6
        generalize w6.alloc (.cells #[.int .i64 k, .int .i64 sh, .int .i64 ot, .int .i64 at', .int .i64 out, .int .i64 in'] 35) = w7 at *
        generalize w6.heap.size = P7 at *
        cases ok with
        | false =>
          have HZ0 := hid (HZ.out rfl)
          have HAL : Hid (∀ j, j < 3 + 1 → Q j zCh false) := hid fun j hj => by
            rcases Nat.lt_or_ge j 3 with h1 | h1
            · exact HALL.out j h1
            · have e : j = 3 := by omega
              rw [e, ← HZ0.out]; exact HQ.out
          go_wp2_with fail
          go_roundw
          case rel => exact ⟨3 + 1, by go_num, by omega, HAL.out, BR.out.trans (HB7.out.mono BR.out.size)⟩
          case measure => simp [intOf]
        | true =>
          obtain ⟨q, N', Z', hst, hp⟩ := HP.out ⟨k, sh, ot, at', out, in'⟩ HCJ.out
          have HTK := hid (takes_any b wb mb n B ov D N N' X Z' ⟨k, sh, ot, at', out, in'⟩ q w7 (HR.out.below HB7.out) HG.out hst HCJ.out HBB.out HNN.out HOL.out HXL.out)
          have HST := hid hst
          have HPQ := hid hp
          have hR7 : w7.rangeAt P7 0 [.int .i64 k, .int .i64 sh, .int .i64 ot, .int .i64 at', .int .i64 out, .int .i64 in'] := range_of_row HP7.out 0 _ fun j v hv => by rw [Nat.zero_add]; simpa using hv
          clear hst hp
          unfold chV at HTK
          cases hqz : (q == 0) with
          | false =>
            have HQZ : Hid (q ≠ 0) := hid (by simpa using hqz)
            rw [hqz] at HTK
            clear hqz
            go_wp2_with (first | (refine wpl_loadCh rfl _ rfl P7 0 rfl _ _ _ _ _ _ hR7 ?_) | (go_at_call 23; refine HTK.out.mono ?_; rintro e w8 ⟨rfl, hb8⟩; have B8 := hid (HB7.out.trans (hb8.mono HB7.out.size)); have HCZ := hid ((B8.out.block C (lt_of_block HCR.out)).trans HCR.out); clear hb8) | (refine wpl_storeC rfl _ _ rfl C (.int .i64 0) (.int .i64 0) (.int .i64 0) (.int .i64 0) (.int .i64 0) (.int .i64 0) rfl rfl rfl rfl rfl rfl rfl rfl _ _ rfl HCZ.out ?_))
            (try simp only [Exit.inBlock, Exit.then])
            refine bodyPost_ret (results_chB rfl _ _ C _ _ _ rfl rfl (setRow_heap _ _ _ _ _ _ HCZ.out)) rfl ?_
            exact ⟨zCh, false, rfl, zCh_J, by decide, .inr ⟨rfl, rfl, .inr ⟨3, _, q, HIX.out, HQ.out, HALL.out, HPQ.out, HQZ.out⟩⟩, below_row (BWR.out.trans (B8.out.mono BWR.out.size)) HLC.out _⟩
          | true =>
            have HQZ : Hid (q = 0) := hid (by simpa using hqz)
            rw [hqz] at HTK
            clear hqz
            go_wp2_with (first | (refine wpl_loadCh rfl _ rfl P7 0 rfl _ _ _ _ _ _ hR7 ?_) | (go_at_call 23; refine HTK.out.mono ?_; rintro e w8 ⟨rfl, hb8⟩; have B8 := hid (HB7.out.trans (hb8.mono HB7.out.size)); have HCZ := hid ((B8.out.block C (lt_of_block HCR.out)).trans HCR.out); replace hR7 : w8.rangeAt P7 0 [.int .i64 k, .int .i64 sh, .int .i64 ot, .int .i64 at', .int .i64 out, .int .i64 in'] := (fun j v hv => cell_later hb8 (hR7 j v hv)); clear hb8) | (refine wpl_storeC rfl _ _ rfl C (.int .i64 k) (.int .i64 sh) (.int .i64 ot) (.int .i64 at') (.int .i64 out) (.int .i64 in') rfl rfl rfl rfl rfl rfl rfl rfl _ _ rfl HCZ.out ?_))
            (try simp only [Exit.inBlock, Exit.then])
            refine bodyPost_ret (results_chB rfl _ _ C _ _ _ rfl rfl (setRow_heap _ _ _ _ _ _ HCZ.out)) rfl ?_
            exact ⟨⟨k, sh, ot, at', out, in'⟩, true, rfl, HCJ.out, HK5.out, .inl ⟨rfl, 3, HIX.out, HQ.out, HALL.out, N', Z', by have := HST.out; rwa [HQZ.out] at this⟩, below_row (BWR.out.trans (B8.out.mono BWR.out.size)) HLC.out _⟩
end Go.Proofs.Ytkggeiljalfcpaa
namespace Go.Proofs.Ytkggeiljalfcpaa
open Go.RowKit Go.Maps Go.Shelf
set_option linter.unusedVariables false
set_option linter.unusedSimpArgs false

theorem wain_of {B : Nat} {N : AtN} {X : List SX} (g : Gd B N (X.map (·.s))) (hB : B ≤ 1000) : WIn X := by
  have hm : ∀ x ∈ X, x.s ∈ X.map (·.s) := fun x hx => List.mem_map.2 ⟨x, hx, rfl⟩
  refine ⟨fun x hx => ⟨?_, ?_, fun o ho => ?_⟩, fun x hx => ?_, one_of (ne_map g.ne)⟩
  · have := mem7 (g.mb x.s (hm x hx)); omega
  · have := (g.pa x.s (hm x hx)).1; omega
  · have := mem7 ((g.pa x.s (hm x hx)).2 o ho); omega
  · have h1 := g.id x.s (hm x hx); have h2 := g.nx; exact ⟨by omega, by omega⟩
theorem wgd_new (bl : Int) (h : 1 ≤ bl ∧ bl ≤ 256) : Gd 2 ⟨bl, 1, 2, []⟩ [⟨1, 0, bl, [0, 1, 2], []⟩] :=
  ⟨⟨rfl, by show (0 : Int) < bl; omega, rfl⟩, by intro S hS; rw [List.mem_singleton.1 hS]; show memB [0, 1, 2] = true; decide, by intro S hS; rw [List.mem_singleton.1 hS]; exact ⟨by simp, by intro o ho; cases ho⟩, by intro S hS; rw [List.mem_singleton.1 hS]; exact ⟨by show (1 : Int) ≤ 1; omega, by show (1 : Int) < 2; omega⟩, List.pairwise_singleton _ _, ⟨by show (2 : Int) ≤ 2; omega, by show (2 : Int) ≤ 2; omega⟩, ⟨by show (1 : Int) ≤ 1; omega, by show (1 : Int) ≤ 2; omega⟩, by simp, by simp, h⟩
def exC : ChD := ⟨1, 1, 0, 3, 0, 0⟩
def exR : RuD := ⟨10, 0, 0, 0, 9⟩
def exL : LoD := ⟨1, 12, 0, 3⟩
def exQ (i : Nat) (c : ChD) (ok : Bool) : Prop := match i with
  | 0 => ok = false
  | 1 => ok = false
  | 2 => ok = true ∧ c = exC
  | _ => True
def exP (c : ChD) (q : Int) : Prop := c = exC → q = 0
def exS : ShD := ⟨1, 0, 8, [0, 1, 2], []⟩
theorem ex_split (W : World) (X : List SX) (hX : X.map (·.s) = [exS]) (s : ScD) (G : List SX) (L : List LoD) (sv lv : Value) (h : Giv W exR X [exL] s G L sv lv) :
    Calls Try.prog 21 #[.agg (scC s sv lv)] W (RqP (exQ 2) W) := by
  have hh : s.r.hot = 10 := by rw [h.r]; rfl
  have hg := h.x
  rw [hX] at hg
  obtain ⟨x, rfl⟩ : ∃ x, G = [x] := by
    have h1 := congrArg List.length hg
    rw [List.length_map] at h1
    match G, h1 with
    | [x], _ => exact ⟨x, rfl⟩
  have hx : x.s = exS := by simpa using hg
  have hL : L = [exL] := by
    rw [h.l]
    simp only [List.map_cons, List.map_nil, hx]
    congr 1
  subst hL
  have hok : hotOk s.r.hot [x] [exL] 0 := ⟨by simp, by simp, by show 1 < x.s.to - x.s.fr; rw [hx]; decide, by rw [hh]; decide⟩
  refine (split_on s [x] [exL] sv lv W h.sc (by rw [hh]; decide)).mono ?_
  rintro e w' (⟨-, hn⟩ | ⟨k, h1, h2, -, rfl, hb⟩)
  · exact absurd hok (hn 0 (by simp))
  · obtain rfl : k = 0 := by simp at h1; exact h1
    refine ⟨exC, true, ?_, ChJ.mk ⟨by decide, by decide⟩ ⟨by decide, by decide⟩ i0 ⟨by decide, by decide⟩ i0 i0, by decide, (fun h => by cases h), ⟨rfl, rfl⟩, hb⟩
    simp only [List.getElem_cons_zero, hx]
    rfl
theorem nop_rq {Q : ChD → Bool → Prop} {w w' : World} {e : Ending} (h : NoP w e w') (hq : Q zCh false) : RqP Q w e w' := ⟨zCh, false, h.1, zCh_J, by decide, fun _ => rfl, hq, h.2⟩
theorem ex_step (N : AtN) (hN : N = ⟨8, 1, 2, []⟩) (Z : List ShD) (hZ : Z = [exS]) (c : ChD) : ∃ q N' Z', StepR N Z c q N' Z' ∧ exP c q := by
  by_cases h : c = exC
  · subst h
    exact ⟨0, _, _, StepR.one (by decide) (by rfl) (by decide) (by decide) (by rw [hN]) [] [] exS (by rw [hZ]; rfl) (by decide) (by decide), fun _ => rfl⟩
  · obtain ⟨q, N', Z', hs⟩ := step_ex N Z c (by rw [hZ]; exact List.pairwise_singleton _ _)
    exact ⟨q, N', Z', hs, fun e => absurd e h⟩
theorem ex_end {N : AtN} {Z : List ShD} {c : ChD} {ok : Bool} (h : DcR N Z exQ exP c ok) : ok = true ∧ c = exC := by
  rcases h with ⟨hk, i, hi, hq, hall, -⟩ | ⟨hk, hz, h | ⟨i, c', q, hi, hq, hall, hp, hn⟩⟩
  · refine ⟨hk, ?_⟩
    match i, hi with
    | 0, _ => cases (show true = false from hq)
    | 1, _ => cases (show true = false from hq)
    | 2, _ => exact (show true = true ∧ c = exC from hq).2
    | 3, _ => exact absurd (show false = true ∧ zCh = exC from hall 2 (by omega)).1 (by decide)
  · exact absurd (show false = true ∧ zCh = exC from h 2 (by omega)).1 (by decide)
  · match i, hi with
    | 0, _ => cases (show true = false from hq)
    | 1, _ => cases (show true = false from hq)
    | 2, _ => exact absurd (hp (show true = true ∧ c' = exC from hq).2) hn
    | 3, _ => exact absurd (show false = true ∧ zCh = exC from hall 2 (by omega)).1 (by decide)
theorem ex_decide (b wb mb : Nat) (D : DataW Value) (mv pv kv : Value) (w : World) (h : At w b wb mb 1 (.slice none 0 0) D ⟨8, 1, 2, []⟩ [⟨exS, mv, pv⟩]) (hk : Lds w kv [exL]) :
    Calls Try.prog 7 #[.pointer (some ⟨b, 0, none⟩), .agg (ruC exR), kv, .slice none 0 0] w fun e w' => e = .returned (.tuple #[chV exC, .bool true]) ∧ Below w.heap.size w w' := by
  refine (decide_on b wb mb 1 2 _ D ⟨8, 1, 2, []⟩ [⟨exS, mv, pv⟩] exR [exL] [] kv _ exQ exP w h (wgd_new 8 (by omega)) (by omega) (by omega) (wain_of (wgd_new 8 (by omega)) (by omega)) (by simp) (fun x hx => by rw [List.mem_singleton.1 hx]; exact (show (0 : Int) ≤ 0 ∧ (0 : Int) < 8 ∧ (8 : Int) ≤ 256 by decide)) hk (fun l hl => by rw [List.mem_singleton.1 hl]; exact ⟨by decide, by decide⟩) (by simp) (Nums.nil w) (by decide) rfl (by decide) ?_ ?_ ?_ ?_ ?_).mono ?_
  · intro W s G L sv lv hg
    exact (replace_off s sv lv W (by rw [hg.r]; rfl)).mono fun e w' h => nop_rq h rfl
  · intro W s G L sv lv hg
    exact (renew_off s sv lv W (by rw [hg.r]; rfl)).mono fun e w' h => nop_rq h rfl
  · intro W s G L sv lv hg
    exact ex_split W _ rfl s G L sv lv hg
  · intro W s G L sv lv hg
    exact (merge_off s sv lv W (by rw [hg.r]; rfl)).mono fun e w' h => nop_rq h trivial
  · intro c _
    exact ex_step _ rfl _ rfl c
  · rintro e w' ⟨c, ok, rfl, -, -, hr, hb⟩
    obtain ⟨rfl, rfl⟩ := ex_end hr
    exact ⟨rfl, hb⟩
set_option maxRecDepth 100000 in
set_option maxHeartbeats 4000000 in
theorem wlives_any (w : World) : Calls Try.prog 6 #[] w fun e w' => e = .returned (.bool true) ∧ Below w.heap.size w w' := by
  have hN : Nums (w.alloc (.cells #[.int .i64 0, .int .i64 1, .int .i64 2] 3)) (.slice (some ⟨w.heap.size, 0, none⟩) 3 3) [0, 1, 2] := by
    refine ⟨_, _, _, rfl, rfl, Nat.le_refl _, by omega, (fun h => by cases h), ?_⟩
    intro ad had j hj
    cases had
    rw [Addr.add_lit, cell_of_row _ _ _ _ _ _ (heap_alloc_new _ _), Nat.zero_add]
    match j, hj with
    | 0, _ => rfl
    | 1, _ => rfl
    | 2, _ => rfl
  have HNW := hid (anew_yes 8 [0, 1, 2] _ _ hN (by simp) (by decide))
  have B1 : Hid (Below w.heap.size w (w.alloc (.cells #[.int .i64 0, .int .i64 1, .int .i64 2] 3))) := hid ((Below.refl _ _).alloc (Nat.le_refl _) _)
  clear hN
  go_enter Try.func6, Try.ntmps6
  go_upto_region 2 with (go_at_call 13; refine HNW.out.mono ?_; rintro e w2 ⟨b, wb, mb, D, mv, pv, rfl, ha2, hb2, -⟩; have A2 := hid ha2; have B2 := hid (B1.out.trans (hb2.mono B1.out.size)); clear ha2 hb2)
  clear HNW B1
  have hb3 : Below w2.heap.size w2 (w2.alloc (.cells #[.int .i64 1, .int .i64 12, .int .i64 0, .int .i64 3] 54)) := (Below.refl _ _).alloc (Nat.le_refl _) _
  have hL : Lds (w2.alloc (.cells #[.int .i64 1, .int .i64 12, .int .i64 0, .int .i64 3] 54)) (.slice (some ⟨w2.heap.size, 0, none⟩) 1 1) [exL] := Lds.own (B := 0) ⟨rfl, .inr ⟨w2.heap.size, 1, _, rfl, Nat.zero_le _, heap_alloc_new _ _, Nat.le_refl _, by unfold maxLen; omega, rfl, rfl⟩⟩ rfl
  have HDC := hid (ex_decide b wb mb D mv pv _ _ (A2.out.below hb3) hL)
  have B3 := hid (B2.out.trans (hb3.mono B2.out.size))
  clear hb3 hL
  unfold ruC exR chV exC at HDC
  simp only at HDC
  go_wp2_with (go_at_call 7; refine HDC.out.mono ?_; rintro e w4 ⟨rfl, hb4⟩; have B4 := hid (B3.out.trans (hb4.mono B3.out.size)); clear hb4)
  go_ret
  exact ⟨rfl, B4.out.trans (((Below.refl w4.heap.size w4).alloc (Nat.le_refl _) _).mono B4.out.size)⟩
end Go.Proofs.Ytkggeiljalfcpaa
