/- AtlasPieces: any blocks are cut where shards end, into pieces that are not too long; together they are those that there are. No condition: for every input. -/
import Derived.Test.YtmocedkbabnpfaaGreatAtRefuse
import Derived.Test.YtmocedkbabnpfaaGreatAtApplyR
import Derived.Test.YtmocedkbabnpfaaGreatAtRApp
import Derived.Test.YtmocedkbabnpfaaGreatAtRRef
import Derived.Test.YtmocedkbabnpfaaGreatAtRTailS
import Derived.Test.YtmocedkbabnpfaaGreatAtRTailM
import Derived.Test.YtmocedkbabnpfaaGreatAtRTailR
import Derived.Test.YtmocedkbabnpfaaGreatAtChJ
import Derived.Test.YtmocedkbabnpfaaGreatSpPk
import Derived.Test.YtmocedkbabnpfaaGreatAtBase
import Derived.Maps.AppendAt
import Derived.Test.YtmocedkbabnpfaaGreatAtShards
import Derived.RangeFuncBound
import Derived.RangeFuncNested
import Derived.Sort.CutIn
import Derived.BigQuiet
import Derived.ProofKit
import Derived.OpenShut
import Derived.ChangeOld
import Derived.Deep.SlicePairs
import Derived.Lib.SmallJoins
import Derived.Test.YtmocedkbabnpfaaGreatRows
import Derived.WalkKit
import Derived.ShutString
import Derived.Below
namespace Go.Proofs.YtmocedkbabnpfaaGreat
theorem putS {α : Type} : (∀ (l : List α) (i : Nat) (v : α), l.toArray.setIfInBounds i v = (l.set i v).toArray) ∧ (∀ (a : α) (l : List α) (v : α), (a :: l).set 0 v = v :: l) ∧ (∀ (a : α) (l : List α) (n : Nat) (v : α), (a :: l).set (n + 1) v = a :: l.set n v) ∧ (∀ (l : List α) (i : Nat) (h : i < l.toArray.size), l.toArray[i]'h = l[i]'(by simpa using h)) ∧ (∀ (a : α) (l : List α) (h : 0 < (a :: l).length), (a :: l)[0]'h = a) ∧ (∀ (a : α) (l : List α) (i : Nat) (h : i + 1 < (a :: l).length), (a :: l)[i + 1]'h = l[i]'(by simpa using h)) :=
  ⟨fun _ _ _ => List.setIfInBounds_toArray .., fun _ _ _ => rfl, fun _ _ _ _ => rfl, fun _ _ _ => rfl, fun _ _ _ => rfl, fun _ _ _ _ => rfl⟩
open Go.RowKit Go.Maps Go.Shelf
set_option linter.unusedVariables false
set_option linter.unusedSimpArgs false

def ShD.or (S : ShD) : OrD := ⟨S.id, S.fr, S.to, S.mem⟩
/-- The new shards, as what they are. -/
def nwD (nx : Int) (ml : List Int) (ps : List OrD) : List Sp → List ShD
  | [] => []
  | s :: l => ⟨nx, s.1, s.2, ml, ps⟩ :: nwD (nx + 1) ml ps l
theorem nwX_s (ml : List Int) (ps : List OrD) (mv pv : Value) : ∀ (l : List Sp) (nx : Int), (nwX nx ml ps mv pv l).map (·.s) = nwD nx ml ps l
  | [], nx => rfl
  | s :: l, nx => by rw [nwX, nwD, List.map_cons, nwX_s ml ps mv pv l (nx + 1)]
/-- The members behind a change; does it fit one shard? -/
def mlD (c : ChD) (S : ShD) : List Int := if c.k = 3 then swD S.mem c.out c.in' else S.mem
def fit1 (c : ChD) (S : ShD) : Bool := if c.k = 1 then decide (S.fr < c.at') && decide (c.at' < S.to) else if c.k = 3 then swB S.mem c.out c.in' else true
def afD (N : AtN) (sp : List Sp) : AtN := ⟨N.bl, N.ep + 1, N.nx + sp.length, opD N.nx sp.length⟩
/-- A change of a map: its error, and the map behind it. -/
inductive StepR (N : AtN) (Z : List ShD) (c : ChD) : Int → AtN → List ShD → Prop
  | bad (h : akB c.k = false ∨ namD c ≠ c) : StepR N Z c 1 N Z
  | calm (hk : akB c.k = true) (hn : namD c = c) (h5 : c.k = 5) (ho : N.op = []) : StepR N Z c 8 N Z
  | settle (hk : akB c.k = true) (hn : namD c = c) (h5 : c.k = 5) (ho : N.op ≠ []) : StepR N Z c 0 { N with op := [] } Z
  | down (hk : akB c.k = true) (hn : namD c = c) (h5 : c.k ≠ 5) (ho : N.op ≠ []) : StepR N Z c 7 N Z
  | miss (hk : akB c.k = true) (hn : namD c = c) (h5 : c.k ≠ 5) (ho : N.op = []) (h : ∀ z ∈ Z, z.id ≠ c.sh) : StepR N Z c 8 N Z
  | miss2 (hk : akB c.k = true) (hn : namD c = c) (h2 : c.k = 2) (ho : N.op = []) (P Q : List ShD) (S : ShD) (hZ : Z = P ++ S :: Q) (hi : S.id = c.sh) (h : ∀ z ∈ Z, z.id ≠ c.ot) : StepR N Z c 8 N Z
  | unfit (hk : akB c.k = true) (hn : namD c = c) (h5 : c.k ≠ 5) (h2 : c.k ≠ 2) (ho : N.op = []) (P Q : List ShD) (S : ShD) (hZ : Z = P ++ S :: Q) (hi : S.id = c.sh) (h : fit1 c S = false) : StepR N Z c 1 N Z
  | unfit2 (hk : akB c.k = true) (hn : namD c = c) (h2 : c.k = 2) (ho : N.op = []) (P Q P' Q' : List ShD) (S U : ShD) (hZ : Z = P ++ S :: Q) (hi : S.id = c.sh) (hZ' : Z = P' ++ U :: Q') (hj : U.id = c.ot) (h : P'.length ≠ P.length + 1) : StepR N Z c 1 N Z
  | one (hk : akB c.k = true) (hn : namD c = c) (h5 : c.k ≠ 5) (h2 : c.k ≠ 2) (ho : N.op = []) (P Q : List ShD) (S : ShD) (hZ : Z = P ++ S :: Q) (hi : S.id = c.sh) (h : fit1 c S = true) : StepR N Z c 0 (afD N (spD c S.fr S.to)) (P ++ nwD N.nx (mlD c S) [S.or] (spD c S.fr S.to) ++ Q)
  | two (hk : akB c.k = true) (hn : namD c = c) (h2 : c.k = 2) (ho : N.op = []) (P Q : List ShD) (S U : ShD) (hZ : Z = P ++ S :: U :: Q) (hi : S.id = c.sh) (hj : U.id = c.ot) : StepR N Z c 0 (afD N [(S.fr, U.to)]) (P ++ nwD N.nx S.mem [S.or, U.or] [(S.fr, U.to)] ++ Q)
theorem mid_of {α : Type} (l : List α) (x : α) (h : x ∈ l) : ∃ P Q, l = P ++ x :: Q := List.append_of_mem h
/-- There is always one. -/
theorem step_ex (N : AtN) (Z : List ShD) (c : ChD) (hd : Z.Pairwise fun x y => x.id ≠ y.id) : ∃ r N' Z', StepR N Z c r N' Z' := by
  by_cases hb : akB c.k = false ∨ namD c ≠ c
  · exact ⟨_, _, _, .bad hb⟩
  have hk : akB c.k = true := by
    cases h : akB c.k with
    | true => rfl
    | false => exact absurd (.inl h) hb
  have hn : namD c = c := Classical.byContradiction fun h => hb (.inr h)
  by_cases h5 : c.k = 5
  · by_cases ho : N.op = []
    · exact ⟨_, _, _, .calm hk hn h5 ho⟩
    · exact ⟨_, _, _, .settle hk hn h5 ho⟩
  by_cases ho : N.op = []
  · by_cases hs : ∃ S ∈ Z, S.id = c.sh
    · obtain ⟨S, hS, hi⟩ := hs
      obtain ⟨P, Q, hZ⟩ := mid_of Z S hS
      by_cases h2 : c.k = 2
      · by_cases ht : ∃ U ∈ Z, U.id = c.ot
        · obtain ⟨U, hU, hj⟩ := ht
          obtain ⟨P', Q', hZ'⟩ := mid_of Z U hU
          by_cases hp : P'.length = P.length + 1
          · have e : Q = U :: Q' := by
              have h1 : Z[P.length + 1]? = some U := by rw [hZ', ← hp]; simp
              have h2 : Z.drop (P.length + 2) = Q' := by rw [hZ', show P.length + 2 = P'.length + 1 by omega]; simp
              have h3 : Z.drop (P.length + 1) = Q := by rw [hZ]; simp
              have h4 : P.length + 1 < Z.length := (List.getElem?_eq_some_iff.1 h1).1
              rw [List.drop_eq_getElem_cons h4, (List.getElem?_eq_some_iff.1 h1).2, h2] at h3
              exact h3.symm
            exact ⟨_, _, _, .two hk hn h2 ho P Q' S U (by rw [hZ, e]) hi hj⟩
          · exact ⟨_, _, _, .unfit2 hk hn h2 ho P Q P' Q' S U hZ hi hZ' hj hp⟩
        · exact ⟨_, _, _, .miss2 hk hn h2 ho P Q S hZ hi fun z hz e => ht ⟨z, hz, e⟩⟩
      · cases hf : fit1 c S with
        | true => exact ⟨_, _, _, .one hk hn h5 h2 ho P Q S hZ hi hf⟩
        | false => exact ⟨_, _, _, .unfit hk hn h5 h2 ho P Q S hZ hi hf⟩
    · exact ⟨_, _, _, .miss hk hn h5 ho fun z hz e => hs ⟨z, hz, e⟩⟩
  · exact ⟨_, _, _, .down hk hn h5 ho⟩
/-- One behind the other. -/
def ChnD : Int → List ShD → Int → Prop
  | a, [], b => a = b
  | a, x :: l, b => x.fr = a ∧ x.fr < x.to ∧ ChnD x.to l b
theorem chn_d : ∀ (X : List SX) (a b : Int), Chn a X b ↔ ChnD a (X.map (·.s)) b
  | [], a, b => Iff.rfl
  | x :: l, a, b => by rw [List.map_cons, Chn, ChnD, chn_d l x.s.to b]
theorem ChnD.append : ∀ (P Q : List ShD) (a b : Int), ChnD a (P ++ Q) b ↔ ∃ m, ChnD a P m ∧ ChnD m Q b
  | [], Q, a, b => ⟨fun h => ⟨a, rfl, h⟩, fun ⟨m, h1, h2⟩ => by have e : a = m := h1; subst e; exact h2⟩
  | x :: P, Q, a, b => by
    constructor
    · rintro ⟨h1, h2, h3⟩
      obtain ⟨m, h4, h5⟩ := (ChnD.append P Q _ b).1 h3
      exact ⟨m, ⟨h1, h2, h4⟩, h5⟩
    · rintro ⟨m, ⟨h1, h2, h4⟩, h5⟩
      exact ⟨h1, h2, (ChnD.append P Q _ b).2 ⟨m, h4, h5⟩⟩
theorem ChnD.le : ∀ (X : List ShD) (a b : Int), ChnD a X b → a ≤ b
  | [], a, b, h => by have e : a = b := h; omega
  | x :: l, a, b, ⟨h1, h2, h3⟩ => by have := ChnD.le l _ b h3; omega
theorem ChnD.mem : ∀ (X : List ShD) (a b : Int), ChnD a X b → ∀ x ∈ X, a ≤ x.fr ∧ x.fr < x.to ∧ x.to ≤ b
  | [], a, b, _, x, hx => by cases hx
  | y :: l, a, b, ⟨h1, h2, h3⟩, x, hx => by
    have hl := ChnD.le l _ b h3
    rcases List.mem_cons.1 hx with rfl | hx
    · exact ⟨by omega, h2, hl⟩
    · have := ChnD.mem l _ b h3 x hx
      exact ⟨by omega, this.2.1, this.2.2⟩
/-- What holds of each map of shards that comes of a new one by some changes. -/
structure Gd (B : Nat) (N : AtN) (Z : List ShD) : Prop where
  ch : ChnD 0 Z N.bl
  mb : ∀ S ∈ Z, memB S.mem = true
  pa : ∀ S ∈ Z, S.past.length ≤ 2 ∧ ∀ o ∈ S.past, memB o.mem = true
  id : ∀ S ∈ Z, 1 ≤ S.id ∧ S.id < N.nx
  ne : Z.Pairwise fun x y => x.id ≠ y.id
  nx : 2 ≤ N.nx ∧ N.nx ≤ B
  ep : 1 ≤ N.ep ∧ N.ep ≤ B
  len : Z.length ≤ B
  opl : N.op.length ≤ 2
  bl : 1 ≤ N.bl ∧ N.bl ≤ 256
theorem Gd.mono {B B' : Nat} {N : AtN} {Z : List ShD} (h : Gd B N Z) (hb : B ≤ B') : Gd B' N Z := ⟨h.ch, h.mb, h.pa, h.id, h.ne, ⟨h.nx.1, by have := h.nx.2; omega⟩, ⟨h.ep.1, by have := h.ep.2; omega⟩, by have := h.len; omega, h.opl, h.bl⟩
theorem nwD_len (ml : List Int) (ps : List OrD) : ∀ (l : List Sp) (nx : Int), (nwD nx ml ps l).length = l.length
  | [], nx => rfl
  | t :: l, nx => by rw [nwD, List.length_cons, List.length_cons, nwD_len ml ps l (nx + 1)]
theorem nwD_mem (ml : List Int) (ps : List OrD) : ∀ (l : List Sp) (nx : Int), ∀ x ∈ nwD nx ml ps l, x.mem = ml ∧ x.past = ps ∧ nx ≤ x.id ∧ x.id < nx + l.length
  | [], nx, x, hx => by cases hx
  | t :: l, nx, x, hx => by
    rw [List.length_cons]
    rcases List.mem_cons.1 hx with rfl | hx
    · exact ⟨rfl, rfl, by show nx ≤ nx; omega, by show nx < _; omega⟩
    · have := nwD_mem ml ps l (nx + 1) x hx
      exact ⟨this.1, this.2.1, by omega, by omega⟩
theorem nwD_ne (ml : List Int) (ps : List OrD) : ∀ (l : List Sp) (nx : Int), (nwD nx ml ps l).Pairwise fun x y => x.id ≠ y.id
  | [], nx => List.Pairwise.nil
  | t :: l, nx => List.pairwise_cons.2 ⟨fun y hy => by have := nwD_mem ml ps l (nx + 1) y hy; show nx ≠ y.id; omega, nwD_ne ml ps l (nx + 1)⟩
theorem memB_swD (l : List Int) (out in' : Int) (h : memB l = true) (hs : swB l out in' = true) : memB (swD l out in') = true := by
  obtain ⟨hr, hn, ho⟩ := mem_rise h
  have hs3 : out ∈ l ∧ in' ∉ l ∧ (0 ≤ in' ∧ in' < 7) := by simpa [swB, nodeB] using hs
  obtain ⟨k, hk, hke⟩ := List.mem_iff_getElem.1 hs3.1
  refine mem_of_rise (swD_rise _ _ _) (fun x hx => ?_) (by rw [swD_len l out in' k hk hke hr hn hs3.2.2 hs3.2.1]; exact ho)
  rcases (mem_swD l out in' x hs3.2.2 hn).1 hx with h | rfl
  · exact hn x h.1
  · exact hs3.2.2
/-- The middle is put anew. -/
theorem Gd.put {B : Nat} {N : AtN} {P G Q : List ShD} {ml : List Int} {sp : List Sp} (h : Gd B N (P ++ G ++ Q)) (hG : 1 ≤ G.length ∧ G.length ≤ 2) (hs : sp.length ≤ 2) (hm : memB ml = true) (hc : ∀ a t, ChnD a G t → ChnD a (nwD N.nx ml (G.map ShD.or) sp) t) : Gd (B + 2) (afD N sp) (P ++ nwD N.nx ml (G.map ShD.or) sp ++ Q) := by
  obtain ⟨t, h12, hq⟩ := (ChnD.append _ _ _ _).1 h.ch
  obtain ⟨f, hp, hg⟩ := (ChnD.append _ _ _ _).1 h12
  have hPm : ∀ S ∈ P, S ∈ P ++ G ++ Q := fun S hS => by simp [hS]
  have hGm : ∀ S ∈ G, S ∈ P ++ G ++ Q := fun S hS => by simp [hS]
  have hQm : ∀ S ∈ Q, S ∈ P ++ G ++ Q := fun S hS => by simp [hS]
  have hpg : ∀ o ∈ G.map ShD.or, memB o.mem = true := fun o ho => by
    obtain ⟨S, hS, rfl⟩ := List.mem_map.1 ho
    exact h.mb S (hGm S hS)
  have hcase : ∀ S ∈ P ++ nwD N.nx ml (G.map ShD.or) sp ++ Q, S ∈ P ++ G ++ Q ∨ S ∈ nwD N.nx ml (G.map ShD.or) sp := fun S hS => by
    rcases List.mem_append.1 hS with hS | hS
    · rcases List.mem_append.1 hS with hS | hS
      · exact .inl (hPm S hS)
      · exact .inr hS
    · exact .inl (hQm S hS)
  obtain ⟨hn12, hnq, hnx⟩ := List.pairwise_append.1 h.ne
  obtain ⟨hnp, hng, hnpg⟩ := List.pairwise_append.1 hn12
  refine ⟨(ChnD.append _ _ _ _).2 ⟨t, (ChnD.append _ _ _ _).2 ⟨f, hp, hc f t hg⟩, hq⟩, fun S hS => ?_, fun S hS => ?_, fun S hS => ?_, ?_, ⟨?_, ?_⟩, ⟨?_, ?_⟩, ?_, ?_, h.bl⟩
  · rcases hcase S hS with h1 | h1
    · exact h.mb S h1
    · rw [(nwD_mem _ _ _ _ S h1).1]; exact hm
  · rcases hcase S hS with h1 | h1
    · exact h.pa S h1
    · rw [(nwD_mem _ _ _ _ S h1).2.1, List.length_map]; exact ⟨hG.2, hpg⟩
  · show 1 ≤ S.id ∧ S.id < N.nx + sp.length
    rcases hcase S hS with h1 | h1
    · have := h.id S h1; omega
    · have := nwD_mem _ _ _ _ S h1; have := h.nx; omega
  · refine List.pairwise_append.2 ⟨List.pairwise_append.2 ⟨hnp, nwD_ne _ _ _ _, fun x hx y hy => ?_⟩, hnq, fun x hx y hy => ?_⟩
    · have := h.id x (hPm x hx); have := nwD_mem _ _ _ _ y hy; omega
    · rcases List.mem_append.1 hx with hx | hx
      · exact hnx x (by simp [hx]) y hy
      · have := h.id y (hQm y hy); have := nwD_mem _ _ _ _ x hx; omega
  · show 2 ≤ N.nx + sp.length; have := h.nx; omega
  · show N.nx + sp.length ≤ ((B + 2 : Nat) : Int); have := h.nx; omega
  · show 1 ≤ N.ep + 1; have := h.ep; omega
  · show N.ep + 1 ≤ ((B + 2 : Nat) : Int); have := h.ep; omega
  · have := h.len
    simp only [List.length_append, nwD_len] at this ⊢
    omega
  · show (opD N.nx sp.length).length ≤ 2; rw [opD_len]; exact hs
theorem spD_len (c : ChD) (fr tt : Int) : (spD c fr tt).length ≤ 2 ∧ 1 ≤ (spD c fr tt).length := by unfold spD; split <;> simp
theorem one_ch (c : ChD) (S : ShD) (ml : List Int) (ps : List OrD) (nx : Int) (hf : fit1 c S = true) (a t : Int) (h : ChnD a [S] t) : ChnD a (nwD nx ml ps (spD c S.fr S.to)) t := by
  obtain ⟨h1, h2, h3⟩ := h
  have h4 : S.to = t := h3
  unfold spD
  by_cases hk : c.k = 1
  · rw [if_pos hk]
    unfold fit1 at hf
    rw [if_pos hk] at hf
    simp at hf
    exact ⟨h1, hf.1, rfl, hf.2, h4⟩
  · rw [if_neg hk]
    exact ⟨h1, h2, h4⟩
theorem mlD_mb (c : ChD) (S : ShD) (h : memB S.mem = true) (hf : fit1 c S = true) : memB (mlD c S) = true := by
  unfold mlD
  split
  · rename_i hk
    unfold fit1 at hf
    rw [if_neg (by omega), if_pos hk] at hf
    exact memB_swD _ _ _ h hf
  · exact h
theorem gd_step {B : Nat} {N N' : AtN} {Z Z' : List ShD} {c : ChD} {r : Int} (h : Gd B N Z) (hs : StepR N Z c r N' Z') : Gd (B + 2) N' Z' := by
  cases hs with
  | bad _ => exact h.mono (by omega)
  | calm _ _ _ _ => exact h.mono (by omega)
  | settle _ _ _ _ =>
    have := h.mono (B' := B + 2) (by omega)
    exact ⟨this.ch, this.mb, this.pa, this.id, this.ne, this.nx, this.ep, this.len, by show (0 : Nat) ≤ 2; omega, this.bl⟩
  | down _ _ _ _ => exact h.mono (by omega)
  | miss _ _ _ _ _ => exact h.mono (by omega)
  | miss2 _ _ _ _ _ _ _ _ _ _ => exact h.mono (by omega)
  | unfit _ _ _ _ _ _ _ _ _ _ _ => exact h.mono (by omega)
  | unfit2 _ _ _ _ _ _ _ _ _ _ _ _ _ _ _ => exact h.mono (by omega)
  | one hk hn h5 h2 ho P Q S hZ hi hf =>
    have h' : Gd B N (P ++ [S] ++ Q) := by rw [hZ] at h; simpa using h
    exact h'.put ⟨by simp, by simp⟩ (spD_len c _ _).1 (mlD_mb c S (h'.mb S (by simp)) hf) fun a t ht => one_ch c S _ _ _ hf a t ht
  | two hk hn h2 ho P Q S U hZ hi hj =>
    have h' : Gd B N (P ++ [S, U] ++ Q) := by rw [hZ] at h; simpa using h
    refine h'.put ⟨by simp, by simp⟩ (by simp) (h'.mb S (by simp)) fun a t ht => ?_
    obtain ⟨h1, h2, h3, h4, h5⟩ := ht
    exact ⟨h1, by show S.fr < U.to; omega, h5⟩
end Go.Proofs.YtmocedkbabnpfaaGreat
namespace Go.Proofs.YtmocedkbabnpfaaGreat
open Go.RowKit Go.Maps Go.Shelf
set_option linter.unusedVariables false
set_option linter.unusedSimpArgs false

theorem map_mid {X : List SX} {P Q : List ShD} {S : ShD} (h : X.map (·.s) = P ++ S :: Q) : ∃ PX x QX, X = PX ++ x :: QX ∧ PX.map (·.s) = P ∧ x.s = S ∧ QX.map (·.s) = Q := by
  obtain ⟨PX, R, rfl, h1, h2⟩ := List.map_eq_append_iff.1 h
  obtain ⟨x, QX, rfl, h3, h4⟩ := List.map_eq_cons_iff.1 h2
  exact ⟨PX, x, QX, rfl, h1, h3, h4⟩
theorem ne_map {X : List SX} (h : (X.map (·.s)).Pairwise fun x y => x.id ≠ y.id) : X.Pairwise fun x y => x.s.id ≠ y.s.id := (List.pairwise_map (f := fun x : SX => x.s) (R := fun x y : ShD => x.id ≠ y.id)).1 h
theorem one_of {X : List SX} (h : X.Pairwise fun x y => x.s.id ≠ y.s.id) : ∀ x ∈ X, ∀ y ∈ X, y.s.id = x.s.id → y = x := fun x hx y hy e => by
  obtain ⟨i, hi, rfl⟩ := List.mem_iff_getElem.1 hx
  obtain ⟨j, hj, rfl⟩ := List.mem_iff_getElem.1 hy
  rcases Nat.lt_trichotomy i j with h1 | h1 | h1
  · exact absurd e.symm (List.pairwise_iff_getElem.1 h i j hi hj h1)
  · subst h1; rfl
  · exact absurd e (List.pairwise_iff_getElem.1 h j i hj hi h1)
theorem ChnD.rise : ∀ (X : List ShD) (a b : Int), ChnD a X b → X.Pairwise fun x y => x.to ≤ y.fr
  | [], _, _, _ => List.Pairwise.nil
  | y :: l, a, b, ⟨h1, h2, h3⟩ => List.pairwise_cons.2 ⟨fun x hx => (ChnD.mem l _ b h3 x hx).1, ChnD.rise l _ b h3⟩
/-- The one that begins where another ends is the next. -/
theorem chn_next {a b : Int} {Z P Q P' Q' : List ShD} {S U : ShD} (h : ChnD a Z b) (hZ : Z = P ++ S :: Q) (hZ' : Z = P' ++ U :: Q') (he : U.fr = S.to) : P'.length = P.length + 1 := by
  have hr := List.pairwise_iff_getElem.1 (ChnD.rise Z a b h)
  have hm := ChnD.mem Z a b h
  have hi : P.length < Z.length := by rw [hZ]; simp
  have hj : P'.length < Z.length := by rw [hZ']; simp
  have hS : Z[P.length] = S := by subst hZ; simp
  have hU : Z[P'.length] = U := by subst hZ'; simp
  have hS2 := hm S (by rw [hZ]; simp)
  have hU2 := hm U (by rw [hZ']; simp)
  rcases Nat.lt_trichotomy P'.length P.length with h1 | h1 | h1
  · have := hr _ _ hj hi h1
    rw [hS, hU] at this; omega
  · have : S = U := by rw [← hS, ← hU]; simp [h1]
    subst this; omega
  · by_cases h2 : P'.length = P.length + 1
    · exact h2
    · have hk : P.length + 1 < Z.length := by omega
      have e1 := hr _ _ hi hk (by omega)
      have e2 := hr _ _ hk hj (by omega)
      have := hm _ (List.getElem_mem hk)
      rw [hS] at e1
      rw [hU] at e2
      omega
/-- What Apply leaves. -/
def ApP (b wb mb n : Nat) (N' : AtN) (Z' : List ShD) (r : Int) (w : World) (e : Ending) (w' : World) : Prop :=
  ∃ n' ov' D' X', e = .returned (.int .i64 r) ∧ At w' b wb mb n' ov' D' N' X' ∧ X'.map (·.s) = Z' ∧ n' ≤ n + 2 ∧ Tr (AtR b wb mb) w w'
def RaP (xb : Nat) (N' : AtN) (Z' : List ShD) (r : Int) (w : World) (e : Ending) (w' : World) : Prop :=
  ∃ rv' sv' Y', e = .returned (.int .i64 r) ∧ RB w' xb N' rv' sv' Y' ∧ Y'.map (·.s) = Z' ∧ Tr (fun q => q = xb) w w'
theorem ap_same {b wb mb n : Nat} {ov : Value} {D : DataW Value} {N : AtN} {X : List SX} {w : World} {r : Int} (h : At w b wb mb n ov D N X) (e : Ending) (w' : World) (he : e = .returned (.int .i64 r) ∧ Below w.heap.size w w') : ApP b wb mb n N (X.map (·.s)) r w e w' :=
  ⟨n, ov, D, X, he.1, h.below he.2, rfl, by omega, Tr.below he.2⟩
theorem ra_same {xb : Nat} {rv sv : Value} {N : AtN} {Y : List SX} {w : World} {r : Int} (h : RB w xb N rv sv Y) (e : Ending) (w' : World) (he : e = .returned (.int .i64 r) ∧ Below w.heap.size w w') : RaP xb N (Y.map (·.s)) r w e w' :=
  ⟨rv, sv, Y, he.1, h.below he.2, rfl, Tr.below he.2⟩
theorem fit1_B {c : ChD} {S : ShD} (h3 : c.k ≠ 3) (h2 : c.k ≠ 2) : fitB c S S = fit1 c S := by
  unfold fitB fit1
  rw [if_neg h2, if_neg h3]
theorem sp_in {c : ChD} {S : ShD} {fr tt : Int} (h1 : 0 ≤ fr ∧ tt ≤ 256) (h2 : c.k = 1 → fr < c.at' ∧ c.at' < tt) (h3 : fr < tt) : ∀ s ∈ spD c fr tt, -9223372036854775808 ≤ s.1 ∧ s.2 ≤ 9223372036854775807 := by
  unfold spD
  split
  · rename_i hk
    have := h2 hk
    intro s hs
    simp at hs
    rcases hs with rfl | rfl <;> constructor <;> simp only <;> omega
  · intro s hs
    simp at hs
    subst hs
    constructor <;> simp only <;> omega
theorem mem7 {l : List Int} (h : memB l = true) : l.length ≤ 7 := by
  obtain ⟨hr, hn, -⟩ := mem_rise h
  have := rise_len l 0 hr hn; omega
set_option maxHeartbeats 1000000 in
theorem aapply_any (b wb mb n B : Nat) (ov : Value) (D : DataW Value) (N N' : AtN) (X : List SX) (Z' : List ShD) (c : ChD) (r : Int) (w : World) (h : At w b wb mb n ov D N X) (g : Gd B N (X.map (·.s))) (hs : StepR N (X.map (·.s)) c r N' Z') (hc : ChJ c) (hB : B ≤ 1000) (hn : n ≤ 1000) :
    Calls Tryz.prog 21 #[.pointer (some ⟨b, 0, none⟩), chV c] w (ApP b wb mb n N' Z' r w) := by
  have hsh : I64 c.sh := hc c.sh (by simp [numC])
  have hot : I64 c.ot := hc c.ot (by simp [numC])
  have hneX := ne_map g.ne
  have honX := one_of hneX
  have gS := gd_step g hs
  have hXI : ∀ x ∈ X, I64 x.s.id := fun x hx => by have := g.id x.s (List.mem_map.2 ⟨x, hx, rfl⟩); have := g.nx; constructor <;> omega
  have hlt : ∀ x ∈ X, x.s.id < N.nx := fun x hx => (g.id x.s (List.mem_map.2 ⟨x, hx, rfl⟩)).2
  have hxl : X.length ≤ 100000 := by have := g.len; rw [List.length_map] at this; omega
  cases hs with
  | bad hb =>
    cases hk : akB c.k with
    | false => exact (apply_kind b c w hk).mono (ap_same h)
    | true => exact (apply_field b c w hk (hb.resolve_left (by simp [hk]))).mono (ap_same h)
  | calm hk hnm h5 ho => exact (apply_calm b wb mb n ov D N X c w h hk hnm h5 ho).mono (ap_same h)
  | settle hk hnm h5 ho =>
    refine (apply_settle b wb mb n ov D N X c w h hk hnm h5 ho).mono ?_
    rintro e w' ⟨rfl, ha, ht⟩
    exact ⟨n, _, D, X, rfl, ha, rfl, by omega, ht⟩
  | down hk hnm h5 ho => exact (apply_down b wb mb n ov D N X c w h hk hnm h5 ho).mono (ap_same h)
  | miss hk hnm h5 ho hno => exact (apply_miss b wb mb n ov D N X c w h hk hnm h5 ho hsh hot ⟨c.sh, by unfold idsD; split <;> simp, fun x hx => hno x.s (List.mem_map.2 ⟨x, hx, rfl⟩)⟩).mono (ap_same h)
  | miss2 hk hnm h2 ho P Q S hZ hi hno => exact (apply_miss b wb mb n ov D N X c w h hk hnm (by omega) ho hsh hot ⟨c.ot, by unfold idsD; rw [if_pos h2]; simp, fun x hx => hno x.s (List.mem_map.2 ⟨x, hx, rfl⟩)⟩).mono (ap_same h)
  | unfit hk hnm h5 h2 ho P Q S hZ hi hf =>
    obtain ⟨PX, x, QX, hX, rfl, rfl, rfl⟩ := map_mid hZ
    have hx : x ∈ X := by rw [hX]; simp
    refine (apply_unfit b wb mb n 1 ov D N X [x] c w h hk hnm h5 (fun W hW => gone_one b wb mb n ov D N _ X c x W hW ho hsh hot h2 hx hi fun y hy e => honX x hx y hy e) (fun W v hv => ?_)).mono (ap_same h)
    by_cases h3 : c.k = 3
    · refine (fits_rep c x.s x.mv x.pv v W h3 hv).mono fun e w' he => ⟨?_, he.2⟩
      unfold fit1 at hf
      rw [if_neg (by omega), if_pos h3] at hf
      rw [he.1, hf]
    · refine (fits_one c x.s x.mv x.pv v W h3 h2 hv).mono fun e w' he => ⟨?_, he.2⟩
      rw [he.1, fit1_B h3 h2, hf]
  | unfit2 hk hnm h2 ho P Q P' Q' S U hZ hi hZ' hj hne =>
    have hfr : ¬ U.fr = S.to := fun e => hne (chn_next g.ch hZ hZ' e)
    obtain ⟨PX, x, QX, hX, -, rfl, -⟩ := map_mid hZ
    obtain ⟨PY, y, QY, hY, -, rfl, -⟩ := map_mid hZ'
    have hx : x ∈ X := by rw [hX]; simp
    have hy : y ∈ X := by rw [hY]; simp
    refine (apply_unfit b wb mb n 2 ov D N X [x, y] c w h hk hnm (by omega) (fun W hW => gone_two b wb mb n ov D N _ X c x y W hW ho hsh hot h2 hx hi (fun z hz e => honX x hx z hz e) hy hj (fun z hz e => honX y hy z hz e)) (fun W v hv => ?_)).mono (ap_same h)
    refine (fits_two c x.s y.s x.mv x.pv y.mv y.pv v W h2 hv).mono fun e w' he => ⟨?_, he.2⟩
    rw [he.1]
    unfold fitB
    rw [if_neg (by omega), if_pos h2, decide_eq_false hfr]
  | one hk hnm h5 h2 ho P Q S hZ hi hf =>
    obtain ⟨PX, x, QX, hX, rfl, rfl, rfl⟩ := map_mid hZ
    have hx : x ∈ X := by rw [hX]; simp
    have hch := (chn_d X 0 N.bl).2 g.ch
    have hX' : X = PX ++ [x] ++ QX := by rw [hX]; simp
    have hmem := Chn.mem X 0 N.bl hch x hx
    rw [hX'] at hch
    obtain ⟨t, h12, hq⟩ := (Chn.append _ _ _ _).1 hch
    obtain ⟨f, hp, hg⟩ := (Chn.append _ _ _ _).1 h12
    have hbl := g.bl
    have hfit : c.k = 1 → x.s.fr < c.at' ∧ c.at' < x.s.to := fun hk1 => by unfold fit1 at hf; rw [if_pos hk1] at hf; simpa using hf
    have hsi := sp_in (c := c) (S := x.s) (fr := x.s.fr) (tt := x.s.to) ⟨hmem.1, by omega⟩ hfit hmem.2.1
    have hcan : ∀ mv' pv' W', Can W' → Chs (X.map SX.pc) ((nwX N.nx (mlD c x.s) ([x].map fun x => x.or.o) mv' pv' (spD c x.s.fr x.s.to)).map SX.pc) W' → W' = (PX ++ nwX N.nx (mlD c x.s) ([x].map fun x => x.or.o) mv' pv' (spD c x.s.fr x.s.to) ++ QX).map SX.pc := fun mv' pv' W' hW hc' => by
      refine chn_put PX [x] QX _ 0 f t N.bl hp hg hq ?_ ?_ W' hW (by rw [← hX']; exact hc')
      · rw [chn_d, nwX_s]
        exact one_ch c x.s _ _ _ hf f t ((chn_d [x] f t).1 hg)
      · refine ne_map ?_
        rw [List.map_append, List.map_append, nwX_s]
        exact gS.ne
    have hout := outX_mid PX [x] QX (by rw [← hX']; exact hneX)
    rw [← hX'] at hout
    have fin : ∀ e w', ApK b wb mb n N PX [x] QX (spD c x.s.fr x.s.to) (mlD c x.s) w e w' → ApP b wb mb n (afD N (spD c x.s.fr x.s.to)) (PX.map (·.s) ++ nwD N.nx (mlD c x.s) [x.s.or] (spD c x.s.fr x.s.to) ++ QX.map (·.s)) 0 w e w' := by
      rintro e w' ⟨ov', D', mv, pvo, he, ha, ht⟩
      exact ⟨_, ov', D', _, he, ha, by rw [List.map_append, List.map_append, nwX_s]; rfl, by have := (spD_len c x.s.fr x.s.to).1; omega, ht⟩
    by_cases h3 : c.k = 3
    · have hml : mlD c x.s = swD x.s.mem c.out c.in' := by unfold mlD; rw [if_pos h3]
      refine (apply_rep b wb mb n ov D N X PX QX [x] x.s x.mv x.pv c w h hk hnm h3 ho rfl (by simpa using hx) hi (fun y hy e => honX x hx y hy e) (mlD c x.s) hml (g.mb x.s (List.mem_map.2 ⟨x, hx, rfl⟩)) (by unfold fit1 at hf; rw [if_neg (by omega), if_pos h3] at hf; exact hf) hXI (by omega) (by have := g.nx; omega) (by have := g.ep; omega) hlt hxl hsi hsh hot (by have := mem7 (g.mb x.s (List.mem_map.2 ⟨x, hx, rfl⟩)); omega) hcan hout).mono fin
    · have hml : mlD c x.s = x.s.mem := by unfold mlD; rw [if_neg h3]
      rw [hml] at hcan fin ⊢
      exact (apply_one b wb mb n ov D N X PX QX [x] x.s x.mv x.pv c w h hk hnm h2 h3 h5 ho rfl (by simpa using hx) hi (fun y hy e => honX x hx y hy e) (by rw [fit1_B h3 h2]; exact hf) hXI (by omega) (by have := g.nx; omega) (by have := g.ep; omega) hlt hxl hsi hsh hot (by have := mem7 (g.mb x.s (List.mem_map.2 ⟨x, hx, rfl⟩)); omega) hcan hout).mono fin
  | two hk hnm h2 ho P Q S U hZ hi hj =>
    obtain ⟨PX, x, RX, hX, rfl, rfl, hR⟩ := map_mid hZ
    obtain ⟨y, QX, rfl, rfl, rfl⟩ := List.map_eq_cons_iff.1 hR
    have hx : x ∈ X := by rw [hX]; simp
    have hy : y ∈ X := by rw [hX]; simp
    have hch := (chn_d X 0 N.bl).2 g.ch
    have hX' : X = PX ++ [x, y] ++ QX := by rw [hX]; simp
    have hmx := Chn.mem X 0 N.bl hch x hx
    have hmy := Chn.mem X 0 N.bl hch y hy
    rw [hX'] at hch
    obtain ⟨t, h12, hq⟩ := (Chn.append _ _ _ _).1 hch
    obtain ⟨f, hp, hg⟩ := (Chn.append _ _ _ _).1 h12
    obtain ⟨q1, q2, q3, q4, q5⟩ := hg
    have hbl := g.bl
    have hsp : spD c x.s.fr y.s.to = [(x.s.fr, y.s.to)] := by unfold spD; rw [if_neg (by omega)]
    have hsi := sp_in (c := c) (S := x.s) (fr := x.s.fr) (tt := y.s.to) ⟨hmx.1, by omega⟩ (fun hk1 => by omega) (by omega)
    have hcan : ∀ mv' pv' W', Can W' → Chs (X.map SX.pc) ((nwX N.nx x.s.mem ([x, y].map fun x => x.or.o) mv' pv' (spD c x.s.fr y.s.to)).map SX.pc) W' → W' = (PX ++ nwX N.nx x.s.mem ([x, y].map fun x => x.or.o) mv' pv' (spD c x.s.fr y.s.to) ++ QX).map SX.pc := fun mv' pv' W' hW hc' => by
      refine chn_put PX [x, y] QX _ 0 f t N.bl hp ⟨q1, q2, q3, q4, q5⟩ hq ?_ ?_ W' hW (by rw [← hX']; exact hc')
      · rw [hsp]
        exact ⟨q1, by show x.s.fr < y.s.to; omega, q5⟩
      · refine ne_map ?_
        rw [List.map_append, List.map_append, nwX_s, hsp]
        exact gS.ne
    have hout := outX_mid PX [x, y] QX (by rw [← hX']; exact hneX)
    rw [← hX'] at hout
    refine (apply_two b wb mb n ov D N X PX QX [x, y] x.s y.s x.mv x.pv y.mv y.pv c w h hk hnm h2 ho rfl (by simp [hx, hy]) hi (fun z hz e => honX x hx z hz e) hj (fun z hz e => honX y hy z hz e) (by unfold fitB; rw [if_neg (by omega), if_pos h2, decide_eq_true (by omega)]) hXI (by omega) (by have := g.nx; omega) (by have := g.ep; omega) hlt hxl hsi hsh hot (by have := mem7 (g.mb x.s (List.mem_map.2 ⟨x, hx, rfl⟩)); omega) hcan hout).mono ?_
    rintro e w' ⟨ov', D', mv, pvo, he, ha, ht⟩
    rw [hsp] at ha
    exact ⟨_, ov', D', _, he, ha, by rw [List.map_append, List.map_append, nwX_s]; rfl, by simp, ht⟩
theorem rapply_any (xb B : Nat) (rv sv : Value) (N N' : AtN) (Y : List SX) (Z' : List ShD) (c : ChD) (r : Int) (w : World) (h : RB w xb N rv sv Y) (g : Gd B N (Y.map (·.s))) (hs : StepR N (Y.map (·.s)) c r N' Z') (hB : B ≤ 1000) :
    Calls Tryz.prog 28 #[.pointer (some ⟨xb, 0, none⟩), chV c] w (RaP xb N' Z' r w) := by
  have hneY := ne_map g.ne
  have hnx : 0 ≤ N.nx ∧ N.nx ≤ 1073741824 := by have := g.nx; omega
  have hep : 0 ≤ N.ep ∧ N.ep ≤ 1073741824 := by have := g.ep; omega
  have hl : Y.length ≤ 100000 := by have := g.len; rw [List.length_map] at this; omega
  have hno : ∀ {i : Int}, (∀ z ∈ Y.map (·.s), z.id ≠ i) → ∀ z ∈ Y, z.s.id ≠ i := fun hh z hz => hh z.s (List.mem_map.2 ⟨z, hz, rfl⟩)
  have fin : ∀ (P G Q : List SX) (sp : List Sp) (ml : List Int) (e : Ending) (w' : World), RaK xb N P G Q sp ml w e w' → RaP xb (afD N sp) (P.map (·.s) ++ nwD N.nx ml (G.map fun x => x.or.o) sp ++ Q.map (·.s)) 0 w e w' := by
    rintro P G Q sp ml e w' ⟨ov', sv', mv, pv, he, hr, ht⟩
    exact ⟨ov', sv', _, he, hr, by rw [List.map_append, List.map_append, nwX_s], ht⟩
  cases hs with
  | bad hb => exact (rapp_bad xb c w hb).mono (ra_same h)
  | calm hk hnm h5 ho =>
    have hf : c = ⟨5, 0, 0, 0, 0, 0⟩ := by
      rcases ch_form c hk hnm with e | e | e | e | e
      · rw [e] at h5; simp at h5
      · rw [e] at h5; simp at h5
      · rw [e] at h5; simp at h5
      · rw [e] at h5; simp at h5
      · exact e
    rw [hf]
    exact (rapp_calm xb N rv sv Y w h ho).mono (ra_same h)
  | settle hk hnm h5 ho =>
    have hf : c = ⟨5, 0, 0, 0, 0, 0⟩ := by
      rcases ch_form c hk hnm with e | e | e | e | e
      · rw [e] at h5; simp at h5
      · rw [e] at h5; simp at h5
      · rw [e] at h5; simp at h5
      · rw [e] at h5; simp at h5
      · exact e
    rw [hf]
    exact (rapp_settle xb N rv sv Y w h ho).mono fun e w' he => ⟨_, sv, Y, he.1, he.2.1, rfl, he.2.2⟩
  | down hk hnm h5 ho => exact (rapp_down xb N rv sv Y c w h hk hnm h5 ho).mono (ra_same h)
  | miss hk hnm h5 ho hn => exact (rapp_miss xb N rv sv Y c w h hk hnm h5 ho hl (hno hn)).mono (ra_same h)
  | miss2 hk hnm h2 ho P Q S hZ hi hn =>
    obtain ⟨PX, x, QX, hX, rfl, rfl, rfl⟩ := map_mid hZ
    have hf : c = ⟨2, c.sh, c.ot, 0, 0, 0⟩ := by
      rcases ch_form c hk hnm with e | e | e | e | e
      · rw [e] at h2; simp at h2
      · exact e
      · rw [e] at h2; simp at h2
      · rw [e] at h2; simp at h2
      · rw [e] at h2; simp at h2
    rw [hf]
    exact (rapp_miss2 xb N rv sv Y PX QX x c.sh c.ot w h hX hi hneY ho hnx hep hl (hno hn)).mono (ra_same h)
  | unfit hk hnm h5 h2 ho P Q S hZ hi hf =>
    obtain ⟨PX, x, QX, hX, rfl, rfl, rfl⟩ := map_mid hZ
    unfold fit1 at hf
    rcases ch_form c hk hnm with e | e | e | e | e
    · have hk1 : c.k = 1 := by rw [e]
      rw [if_pos hk1] at hf
      rw [e]
      exact (rapp_unfit1 xb N rv sv Y PX QX x c.sh c.at' w h hX hi hneY ho hnx hep hl (by simpa using hf)).mono (ra_same h)
    · exact absurd (by rw [e]) h2
    · have hk3 : c.k = 3 := by rw [e]
      rw [if_neg (by omega), if_pos hk3] at hf
      rw [e]
      exact (rapp_unfit3 xb N rv sv Y PX QX x c.sh c.out c.in' w h hX hi hneY ho hnx hep hl (g.mb x.s (List.mem_map.2 ⟨x, by rw [hX]; simp, rfl⟩)) hf).mono (ra_same h)
    · have hk4 : c.k = 4 := by rw [e]
      rw [if_neg (by omega), if_neg (by omega)] at hf
      cases hf
    · exact absurd (by rw [e]) h5
  | unfit2 hk hnm h2 ho P Q P' Q' S U hZ hi hZ' hj hne =>
    obtain ⟨PX, x, QX, hX, rfl, rfl, rfl⟩ := map_mid hZ
    obtain ⟨PY, y, QY, hY, rfl, rfl, rfl⟩ := map_mid hZ'
    have hf : c = ⟨2, c.sh, c.ot, 0, 0, 0⟩ := by
      rcases ch_form c hk hnm with e | e | e | e | e
      · rw [e] at h2; simp at h2
      · exact e
      · rw [e] at h2; simp at h2
      · rw [e] at h2; simp at h2
      · rw [e] at h2; simp at h2
    rw [hf]
    exact (rapp_unfit2 xb N rv sv Y PX QX PY QY x y c.sh c.ot w h hX hi hneY ho hnx hep hl hY hj (by simpa using hne)).mono (ra_same h)
  | one hk hnm h5 h2 ho P Q S hZ hi hf =>
    obtain ⟨PX, x, QX, hX, rfl, rfl, rfl⟩ := map_mid hZ
    have hm := g.mb x.s (List.mem_map.2 ⟨x, by rw [hX]; simp, rfl⟩)
    have fin' := fin PX [x] QX
    unfold fit1 at hf
    rcases ch_form c hk hnm with e | e | e | e | e
    · have hk1 : c.k = 1 := by rw [e]
      rw [if_pos hk1] at hf
      have hsp : spD c x.s.fr x.s.to = [(x.s.fr, c.at'), (c.at', x.s.to)] := by unfold spD; rw [if_pos hk1]
      have hml : mlD c x.s = x.s.mem := by unfold mlD; rw [if_neg (by omega)]
      have hf2 : x.s.fr < c.at' ∧ c.at' < x.s.to := by simpa using hf
      rw [hsp, hml]
      rw [show chV c = chV ⟨1, c.sh, 0, c.at', 0, 0⟩ from congrArg chV e]
      exact (rapp_split xb N rv sv Y PX QX x c.sh c.at' w h hX hi hneY ho hnx hep hl hf2.1 hf2.2).mono (fin' _ _)
    · exact absurd (by rw [e]) h2
    · have hk3 : c.k = 3 := by rw [e]
      rw [if_neg (by omega), if_pos hk3] at hf
      have hsp : spD c x.s.fr x.s.to = [(x.s.fr, x.s.to)] := by unfold spD; rw [if_neg (by omega)]
      have hml : mlD c x.s = swD x.s.mem c.out c.in' := by unfold mlD; rw [if_pos hk3]
      rw [hsp, hml]
      rw [show chV c = chV ⟨3, c.sh, 0, 0, c.out, c.in'⟩ from congrArg chV e]
      exact (rapp_rep xb N rv sv Y PX QX x c.sh c.out c.in' w h hX hi hneY ho hnx hep hl hm hf).mono (fin' _ _)
    · have hk4 : c.k = 4 := by rw [e]
      have hsp : spD c x.s.fr x.s.to = [(x.s.fr, x.s.to)] := by unfold spD; rw [if_neg (by omega)]
      have hml : mlD c x.s = x.s.mem := by unfold mlD; rw [if_neg (by omega)]
      rw [hsp, hml]
      rw [show chV c = chV ⟨4, c.sh, 0, 0, 0, 0⟩ from congrArg chV e]
      exact (rapp_renew xb N rv sv Y PX QX x c.sh w h hX hi hneY ho hnx hep hl).mono (fin' _ _)
    · exact absurd (by rw [e]) h5
  | two hk hnm h2 ho P Q S U hZ hi hj =>
    obtain ⟨PX, x, RX, hX, rfl, rfl, hR⟩ := map_mid hZ
    obtain ⟨y, QX, rfl, rfl, rfl⟩ := List.map_eq_cons_iff.1 hR
    have hf : c = ⟨2, c.sh, c.ot, 0, 0, 0⟩ := by
      rcases ch_form c hk hnm with e | e | e | e | e
      · rw [e] at h2; simp at h2
      · exact e
      · rw [e] at h2; simp at h2
      · rw [e] at h2; simp at h2
      · rw [e] at h2; simp at h2
    rw [hf]
    exact (rapp_merge xb N rv sv Y PX QX x y c.sh c.ot w h hX hi hj hneY ho hnx hep hl).mono (fin PX [x, y] QX _ _)
end Go.Proofs.YtmocedkbabnpfaaGreat
namespace Go.Proofs.YtmocedkbabnpfaaGreat
open Go.RowKit
def stC (x : ChD × Bool) : List Value := [.int .i64 x.1.k, .int .i64 x.1.sh, .int .i64 x.1.ot, .int .i64 x.1.at', .int .i64 x.1.out, .int .i64 x.1.in', .bool x.2]
/-- The value v is a slice of the steps l. -/
def Stps (w : World) (v : Value) (l : List (ChD × Bool)) : Prop :=
  ∃ ao n cap, v = .slice ao n cap ∧ n = l.length ∧ n ≤ cap ∧ cap ≤ 9223372036854775807 ∧ (ao = none → cap = 0) ∧ ∀ ad, ao = some ad → ∀ j, (h : j < l.length) → ∀ k u, (stC l[j])[k]? = some u → w.cell? (ad.add (j * 7 + k)) = some u
theorem Stps.below {w w' : World} {v : Value} {l : List (ChD × Bool)} (h : Stps w v l) (hb : Below w.heap.size w w') : Stps w' v l := by
  obtain ⟨ao, n, cap, rfl, h1, h2, h3, h4, h5⟩ := h
  exact ⟨ao, n, cap, rfl, h1, h2, h3, h4, fun ad had j hj k u hk => cell_later hb (h5 ad had j hj k u hk)⟩
theorem Stps.shape {w : World} {v : Value} {l : List (ChD × Bool)} (h : Stps w v l) : ∃ va vc, v = .slice va l.length vc := by
  obtain ⟨ao, n, cap, rfl, rfl, -⟩ := h; exact ⟨_, _, rfl⟩
theorem Stps.len {w : World} {v : Value} {l : List (ChD × Bool)} (h : Stps w v l) : (l.length : Int) ≤ 9223372036854775807 := by
  obtain ⟨ao, n, cap, rfl, h1, h2, h3, -⟩ := h; omega
theorem Stps.addr {w : World} {ao : Option Addr} {cap : Nat} {l : List (ChD × Bool)} (h : Stps w (.slice ao l.length cap) l) (hl : 0 < l.length) : ∃ b o, ao = some ⟨b, o, none⟩ := by
  obtain ⟨ao', n, cap', e, h1, h2, h3, h4, h5⟩ := h
  cases e
  cases ao with
  | none => have := h4 rfl; omega
  | some a =>
    have h0 := h5 a rfl 0 hl 0 _ rfl
    have := World.cell?_spot h0
    obtain ⟨b, o, sp⟩ := a
    simp [Addr.add] at this
    subst this
    exact ⟨b, o, rfl⟩
theorem Stps.range {w : World} {b o cap : Nat} {l : List (ChD × Bool)} (h : Stps w (.slice (some ⟨b, o, none⟩) l.length cap) l) (j : Nat) (hj : j < l.length) : w.rangeAt b (o + j * 7) (stC l[j]) := by
  obtain ⟨ao, n, cap', e, h1, h2, h3, h4, h5⟩ := h
  cases e
  intro k u hk
  have := h5 _ rfl j hj k u hk
  rw [Addr.add_lit, ← Nat.add_assoc] at this
  exact this
end Go.Proofs.YtmocedkbabnpfaaGreat
namespace Go.Proofs.YtmocedkbabnpfaaGreat
open Go.RowKit Go.Maps Go.Shelf
set_option linter.unusedVariables false
set_option linter.unusedSimpArgs false

theorem u64_mod (n : Int) : IntKind.u64.wrap n = n % 18446744073709551616 := by simp [IntKind.wrap, IntKind.bits, IntKind.signed]
theorem rest_in2 (t m : Int) (h0 : 1 ≤ m) (h1 : m ≤ 1000000000) : 0 ≤ IntKind.i64.wrap ((IntKind.u64.wrap t).tmod m) ∧ IntKind.i64.wrap ((IntKind.u64.wrap t).tmod m) < m := by
  rw [u64_mod, Int.tmod_eq_emod_of_nonneg (by omega)]
  have a := Int.emod_nonneg (t % 18446744073709551616) (b := m) (by omega)
  have b := Int.emod_lt_of_pos (t % 18446744073709551616) (b := m) (by omega)
  rw [IntWalk.i64_in _ ⟨by omega, by omega⟩]
  exact ⟨a, b⟩
def stV (c : ChD) (nr : Bool) : Value := .agg #[.int .i64 c.k, .int .i64 c.sh, .int .i64 c.ot, .int .i64 c.at', .int .i64 c.out, .int .i64 c.in', .bool nr]
/-- What Of answers. -/
def OfP (w : World) (e : Ending) (w' : World) : Prop := ∃ c : ChD, e = .returned (chV c) ∧ ChJ c ∧ Below w.heap.size w w'
theorem heap_three (w : World) (A B C : Obj) : (((w.alloc A).alloc B).alloc C).heap[w.heap.size]? = some A ∧ (((w.alloc A).alloc B).alloc C).heap[w.heap.size + 1]? = some B ∧ (((w.alloc A).alloc B).alloc C).heap[w.heap.size + 2]? = some C := by
  obtain ⟨h1, h2⟩ := heap_two w A B
  refine ⟨?_, ?_, ?_⟩
  · rw [Below.heap_alloc _ _ _ (by simp; omega)]; exact h1
  · rw [Below.heap_alloc _ _ _ (by simp)]; exact h2
  · have := heap_alloc_new ((w.alloc A).alloc B) C
    simpa using this
set_option maxRecDepth 100000 in
set_option maxHeartbeats 8000000 in
theorem of_any (c : ChD) (nr : Bool) (xb B : Nat) (rv sv : Value) (N : AtN) (Y : List SX) (w : World) (hc : ChJ c) (h : RB w xb N rv sv Y) (g : Gd B N (Y.map (·.s))) (hB : B ≤ 1000) :
    Calls Tryz.prog 22 #[stV c nr, .pointer (some ⟨xb, 0, none⟩)] w (OfP w) := by
  obtain ⟨k, sh, ot, at', out, in'⟩ := c
  cases nr with
  | false =>
    obtain ⟨nr, hnr⟩ : ∃ nr, nr = false := ⟨_, rfl⟩
    rw [← hnr]
    have HNR := hid hnr
    have HJ := hid hc
    clear hnr h g hc
    obtain ⟨w1, hw1⟩ : ∃ w1, w1 = ((w.alloc (.cells #[.int .i64 k, .int .i64 sh, .int .i64 ot, .int .i64 at', .int .i64 out, .int .i64 in', .bool nr] 53)).alloc (.cells z6 51)).alloc (.cells #[.int .i64 k, .int .i64 sh, .int .i64 ot, .int .i64 at', .int .i64 out, .int .i64 in'] 51) := ⟨_, rfl⟩
    obtain ⟨hC1, hR1, hA1⟩ := heap_three w (.cells #[.int .i64 k, .int .i64 sh, .int .i64 ot, .int .i64 at', .int .i64 out, .int .i64 in', .bool nr] 53) (.cells z6 51) (.cells #[.int .i64 k, .int .i64 sh, .int .i64 ot, .int .i64 at', .int .i64 out, .int .i64 in'] 51)
    rw [← hw1] at hC1 hR1 hA1
    have HB1 : Hid (Below w.heap.size w w1) := hid (by rw [hw1]; exact (((Below.refl _ _).alloc (Nat.le_refl _) _).alloc (by simp) _).alloc (by simp; omega) _)
    have HW1 := hid hw1
    have HC1 := hid hC1
    have HR1 := hid hR1
    have HA1 := hid hA1
    obtain ⟨w0, hw0⟩ : ∃ w0, w0 = (w.alloc (.cells #[.int .i64 k, .int .i64 sh, .int .i64 ot, .int .i64 at', .int .i64 out, .int .i64 in', .bool nr] 53)).alloc (.cells z6 51) := ⟨_, rfl⟩
    have hrg : w0.rangeAt w.heap.size 0 [.int .i64 k, .int .i64 sh, .int .i64 ot, .int .i64 at', .int .i64 out, .int .i64 in'] := by
      rw [hw0]
      refine range_of_row (heap_two w _ _).1 0 _ fun j v hv => ?_
      match j, hv with
      | 0, hv => exact hv
      | 1, hv => exact hv
      | 2, hv => exact hv
      | 3, hv => exact hv
      | 4, hv => exact hv
      | 5, hv => exact hv
    have HW0 := hid hw0
    have HS0 : Hid (w0.heap.size = w.heap.size + 2) := hid (by rw [hw0]; simp)
    rw [← hw0] at HW1
    clear hw1 hw0 hC1 hR1 hA1
    unfold z6 at HW0
    obtain ⟨dC, hdC1, hdC2⟩ := Tryz.rowCh
    unfold stV
    go_enter Tryz.func22, Tryz.ntmps22
    go_upto_region 1 with fail
    rw [← HW0.out]
    clear HW0
    go_upto_region 2 with (refine wpList_load_mid rfl _ _ rfl w.heap.size 0 (by go_simp) [.int .i64 k, .int .i64 sh, .int .i64 ot, .int .i64 at', .int .i64 out, .int .i64 in'] dC hrg hdC1 hdC2 Tryz.sizeCh ?_)
    rw [← HW1.out]
    rw [HS0.out]
    clear HW1 hrg HS0
    obtain ⟨C, hC⟩ : ∃ C, C = w.heap.size := ⟨_, rfl⟩
    rw [← hC] at HC1 HR1 HA1
    rw [← hC]
    have HCE : Hid (w.heap.size ≤ C) := hid (by omega)
    clear hC
    have c6 : w1.cell? ⟨C, 6, none⟩ = some (.bool nr) := (cell_of_row _ _ _ _ _ _ HC1.out).trans rfl
    obtain rfl := HNR.out
    have hA9 := HA1.out
    have hR9 := HR1.out
    have HB9 := HB1
    unfold z6 at hR9
    clear HA1 HR1
    go_wp2_with (first | (refine wpl_loadK rfl _ rfl (C + 2) rfl _ _ _ rfl hA9 ?_) | (refine wpl_storeK rfl _ _ rfl (C + 1) _ _ _ _ _ _ rfl rfl rfl rfl rfl rfl rfl rfl _ _ rfl hR9 ?_))
    (try simp only [Exit.inBlock, Exit.then])
    refine bodyPost_ret (results_ch rfl _ _ (C + 1) _ _ _ rfl rfl (setRow_heap _ _ _ _ _ _ hR9)) rfl ?_
    exact ⟨⟨_, _, _, _, _, _⟩, rfl, HJ.out, below_row HB9.out (by have := HCE.out; omega) _⟩
  | true =>
    obtain ⟨nr, hnr⟩ : ∃ nr, nr = true := ⟨_, rfl⟩
    rw [← hnr]
    have HNR := hid hnr
    have HJ := hid hc
    have H := hid h
    have G := hid g
    obtain ⟨-, sva, svc, rfl⟩ := h.shapes
    have HYL : Hid (0 < Y.length) := hid (by
      cases Y with
      | nil => have := g.bl; have h0 : (0 : Int) = N.bl := g.ch; omega
      | cons y l => simp)
    clear hnr h g hc
    obtain ⟨w1, hw1⟩ : ∃ w1, w1 = ((w.alloc (.cells #[.int .i64 k, .int .i64 sh, .int .i64 ot, .int .i64 at', .int .i64 out, .int .i64 in', .bool nr] 53)).alloc (.cells z6 51)).alloc (.cells #[.int .i64 k, .int .i64 sh, .int .i64 ot, .int .i64 at', .int .i64 out, .int .i64 in'] 51) := ⟨_, rfl⟩
    obtain ⟨hC1, hR1, hA1⟩ := heap_three w (.cells #[.int .i64 k, .int .i64 sh, .int .i64 ot, .int .i64 at', .int .i64 out, .int .i64 in', .bool nr] 53) (.cells z6 51) (.cells #[.int .i64 k, .int .i64 sh, .int .i64 ot, .int .i64 at', .int .i64 out, .int .i64 in'] 51)
    rw [← hw1] at hC1 hR1 hA1
    have HB1 : Hid (Below w.heap.size w w1) := hid (by rw [hw1]; exact (((Below.refl _ _).alloc (Nat.le_refl _) _).alloc (by simp) _).alloc (by simp; omega) _)
    have HW1 := hid hw1
    have HC1 := hid hC1
    have HR1 := hid hR1
    have HA1 := hid hA1
    obtain ⟨w0, hw0⟩ : ∃ w0, w0 = (w.alloc (.cells #[.int .i64 k, .int .i64 sh, .int .i64 ot, .int .i64 at', .int .i64 out, .int .i64 in', .bool nr] 53)).alloc (.cells z6 51) := ⟨_, rfl⟩
    have hrg : w0.rangeAt w.heap.size 0 [.int .i64 k, .int .i64 sh, .int .i64 ot, .int .i64 at', .int .i64 out, .int .i64 in'] := by
      rw [hw0]
      refine range_of_row (heap_two w _ _).1 0 _ fun j v hv => ?_
      match j, hv with
      | 0, hv => exact hv
      | 1, hv => exact hv
      | 2, hv => exact hv
      | 3, hv => exact hv
      | 4, hv => exact hv
      | 5, hv => exact hv
    have HW0 := hid hw0
    have HS0 : Hid (w0.heap.size = w.heap.size + 2) := hid (by rw [hw0]; simp)
    rw [← hw0] at HW1
    clear hw1 hw0 hC1 hR1 hA1
    unfold z6 at HW0
    obtain ⟨dC, hdC1, hdC2⟩ := Tryz.rowCh
    unfold stV
    go_enter Tryz.func22, Tryz.ntmps22
    go_upto_region 1 with fail
    rw [← HW0.out]
    clear HW0
    go_upto_region 2 with (refine wpList_load_mid rfl _ _ rfl w.heap.size 0 (by go_simp) [.int .i64 k, .int .i64 sh, .int .i64 ot, .int .i64 at', .int .i64 out, .int .i64 in'] dC hrg hdC1 hdC2 Tryz.sizeCh ?_)
    rw [← HW1.out]
    rw [HS0.out]
    clear HW1 hrg HS0
    obtain ⟨C, hC⟩ : ∃ C, C = w.heap.size := ⟨_, rfl⟩
    rw [← hC] at HC1 HR1 HA1
    rw [← hC]
    have HCE : Hid (w.heap.size ≤ C) := hid (by omega)
    clear hC
    have c6 : w1.cell? ⟨C, 6, none⟩ = some (.bool nr) := (cell_of_row _ _ _ _ _ _ HC1.out).trans rfl
    obtain rfl := HNR.out
    have a1 : w1.cell? ⟨C + 2, 1, none⟩ = some (.int .i64 sh) := (cell_of_row _ _ _ _ _ _ HA1.out).trans rfl
    have H1 := hid (H.out.below HB1.out)
    have x4 : w1.cell? ⟨xb, 4, none⟩ = some (.slice sva Y.length svc) := H1.out.cell 4
    go_upto_region 4 with fail
    refine wp_region_held_drew (S := fun Z => Z.cell? ⟨C + 2, 1, none⟩ = some (.int .i64 sh) ∧ Z.cell? ⟨xb, 4, none⟩ = some (.slice sva Y.length svc)) (by kernel_rfl) ⟨a1, x4⟩ (fun hHeld => ?_)
    have hwl : IntKind.u64.wrap (Y.length : Int) = (Y.length : Int) := IntWalk.u64_in _ ⟨by omega, by have := G.out.len; rw [List.length_map] at this; omega⟩
    have hwl0 : ¬ (Y.length : Int) = 0 := by have := HYL.out; omega
    have hyn : ¬ Y = [] := fun e => by have := HYL.out; rw [e] at this; simp at this
    refine wpAnyH_take (i := 0) (v := ?av0) rfl (by kernel_rfl) (by kernel_rfl) (by kernel_rfl) (fun _ _ _ h => h) (Or.inl ⟨by rfl, ?ay0⟩) (by assumption) ?ar0
    case ay0 => (intro w hSw; (try dsimp only at hSw); go_simp; try with_reducible rfl)
    (try simp only [Act.put, putS])
    refine wpAnyH_take (i := 1) (v := ?av1) rfl (by kernel_rfl) (by kernel_rfl) (by kernel_rfl) (fun _ _ _ h => h) (Or.inl ⟨by rfl, ?ay1⟩) (by assumption) ?ar1
    case ay1 => (intro w hSw; (try dsimp only at hSw); go_simp; try with_reducible rfl)
    (try simp only [Act.put, putS])
    refine wpAnyH_take (i := 2) (v := ?av2) rfl (by kernel_rfl) (by kernel_rfl) (by kernel_rfl) (fun _ _ _ h => h) (Or.inl ⟨by rfl, ?ay2⟩) (by assumption) ?ar2
    case ay2 => (intro w hSw; (try dsimp only at hSw); go_simp; try with_reducible rfl)
    (try simp only [Act.put, putS])
    refine wpAnyH_take (i := 3) (v := ?av3) rfl (by kernel_rfl) (by kernel_rfl) (by kernel_rfl) (fun _ _ _ h => h) (Or.inl ⟨by rfl, ?ay3⟩) (by assumption) ?ar3
    case ay3 => (intro w hSw; (try dsimp only at hSw); go_simp; try with_reducible rfl)
    (try simp only [Act.put, putS])
    refine wpAnyH_take (i := 4) (v := ?av4) rfl (by kernel_rfl) (by kernel_rfl) (by kernel_rfl) (fun _ _ _ h => h) (Or.inl ⟨by rfl, ?ay4⟩) (by assumption) ?ar4
    case ay4 => (intro w hSw; (try dsimp only at hSw); go_simp; try with_reducible rfl)
    (try simp only [Act.put, putS])
    refine wpAnyH_take (i := 5) (v := ?av5) rfl (by kernel_rfl) (by kernel_rfl) (by kernel_rfl) (fun _ _ _ h => h) (Or.inl ⟨by rfl, ?ay5⟩) (by assumption) ?ar5
    case ay5 => (intro w hSw; (try dsimp only at hSw); go_simp; try with_reducible rfl)
    (try simp only [Act.put, putS])
    refine wpAnyH_take (i := 6) (v := ?av6) rfl (by kernel_rfl) (by kernel_rfl) (by kernel_rfl) (fun _ _ _ h => h) (Or.inl ⟨by rfl, ?ay6⟩) (by assumption) ?ar6
    case ay6 => (intro w hSw; (try dsimp only at hSw); go_simp; try with_reducible rfl)
    (try simp only [Act.put, putS])
    refine wpAnyH_take (i := 7) (v := ?av7) rfl (by kernel_rfl) (by kernel_rfl) (by kernel_rfl) (fun _ _ _ h => h) (Or.inl ⟨by rfl, ?ay7⟩) (by assumption) ?ar7
    case ay7 => (intro w hSw; (try dsimp only at hSw); go_simp; try with_reducible rfl)
    (try simp only [Act.put, putS])
    refine wpAnyH_take (i := 8) (v := ?av8) rfl (by kernel_rfl) (by kernel_rfl) (by kernel_rfl) (fun _ _ _ h => h) (Or.inl ⟨by rfl, ?ay8⟩) (by assumption) ?ar8
    case ay8 => (intro w hSw; (try dsimp only at hSw); go_simp; try with_reducible rfl)
    (try simp only [Act.put, putS])
    refine wpAnyH_take (i := 9) (v := ?av9) rfl (by kernel_rfl) (by kernel_rfl) (by kernel_rfl) (fun _ _ _ h => h) (Or.inl ⟨by rfl, ?ay9⟩) (by assumption) ?ar9
    case ay9 => (intro w hSw; (try dsimp only at hSw); go_simp; try with_reducible rfl)
    (try simp only [Act.put, putS])
    refine wpAnyH_take (i := 10) (v := ?av10) rfl (by kernel_rfl) (by kernel_rfl) (by kernel_rfl) (fun _ _ _ h => h) (Or.inl ⟨by rfl, ?ay10⟩) (by assumption) ?ar10
    case ay10 => (intro w hSw; (try dsimp only at hSw); go_simp; try with_reducible rfl)
    (try simp only [Act.put, putS])
    refine wpAnyH_take (i := 11) (v := ?av11) rfl (by kernel_rfl) (by kernel_rfl) (by kernel_rfl) (fun _ _ _ h => h) (Or.inl ⟨by rfl, ?ay11⟩) (by assumption) ?ar11
    case ay11 => (intro w hSw; (try dsimp only at hSw); go_simp; try with_reducible rfl)
    (try simp only [Act.put, putS])
    refine wpAnyH_done (by kernel_rfl) ?_ _
    have hrr := rest_in2 sh (Y.length : Int) (by have := HYL.out; omega) (by have := G.out.len; rw [List.length_map] at this; omega)
    obtain ⟨i, hie⟩ : ∃ i : Nat, IntKind.i64.wrap ((IntKind.u64.wrap sh).tmod (Y.length : Int)) = (i : Int) := ⟨(IntKind.i64.wrap ((IntKind.u64.wrap sh).tmod (Y.length : Int))).toNat, by rw [Int.toNat_of_nonneg hrr.1]⟩
    have hil : (i : Int) < (Y.length : Int) := by rw [← hie]; exact hrr.2
    rw [hie]
    clear hrr hie hHeld hwl hwl0 hyn
    have HIL : Hid (i < Y.length) := hid (by omega)
    have H2 := hid (H1.out.below ((Below.refl w1.heap.size w1).drew))
    have HA2 : Hid (w1.drew.heap[C + 2]? = _) := hid HA1.out
    have HR2 : Hid (w1.drew.heap[C + 1]? = _) := hid HR1.out
    have HB2 : Hid (Below w.heap.size w w1.drew) := hid (HB1.out.drew)
    clear H1 HA1 HR1 HB1 HC1 a1 x4 c6
    generalize w1.drew = w2 at *
    obtain ⟨g, rfl⟩ : ∃ g, sva = some ⟨g, 0, none⟩ := own_some H.out.row HYL.out
    have x4 : w2.cell? ⟨xb, 4, none⟩ = some (.slice (some ⟨g, 0, none⟩) Y.length svc) := H2.out.cell 4
    have y0 : w2.cell? ⟨g, i * 5, none⟩ = some (.int .i64 Y[i].s.id) := own_cell H2.out.row (shvs_part Y i HIL.out 0 _ rfl)
    have a1 : w2.cell? ⟨C + 2, 1, none⟩ = some (.int .i64 sh) := (cell_of_row _ _ _ _ _ _ HA2.out).trans rfl
    have f1 : w2.frozen? ⟨C + 2, 1, none⟩ = false := frozen_of_row _ _ _ _ _ HA2.out
    have HID : Hid (1 ≤ Y[i].s.id ∧ I64 Y[i].s.id) := hid (by
      have := G.out.id Y[i].s (List.mem_map.2 ⟨Y[i], List.getElem_mem _, rfl⟩)
      have := G.out.nx
      exact ⟨by omega, by constructor <;> omega⟩)
    have HFT : Hid (0 ≤ Y[i].s.fr ∧ Y[i].s.fr < Y[i].s.to ∧ Y[i].s.to ≤ 256) := hid (by
      have := ChnD.mem _ _ _ G.out.ch Y[i].s (List.mem_map.2 ⟨Y[i], List.getElem_mem _, rfl⟩)
      have := G.out.bl
      omega)
    have HFC : Hid (∀ W : World, RB W xb N rv (.slice (some ⟨g, 0, none⟩) Y.length svc) Y → W.cell? ⟨g, i * 5 + 1, none⟩ = some (.int .i64 Y[i].s.fr) ∧ W.cell? ⟨g, i * 5 + 1 + 1, none⟩ = some (.int .i64 Y[i].s.to)) := hid fun W hW => ⟨own_cell hW.row (shvs_part Y i HIL.out 1 _ rfl), own_cell hW.row (shvs_part Y i HIL.out 2 _ rfl)⟩
    generalize Y[i].s.id = id at *
    generalize Y[i].s.fr = fr at *
    generalize Y[i].s.to = tt at *
    go_upto_region 6 with fail
    clear x4 y0 a1 f1
    have HA3 : Hid ((w2.setCell ⟨C + 2, 1, none⟩ (.int .i64 id)).heap[C + 2]? = some (.cells #[.int .i64 k, .int .i64 id, .int .i64 ot, .int .i64 at', .int .i64 out, .int .i64 in'] 51 (0, 0))) := hid (heap_setCell_same _ _ _ _ _ _ HA2.out)
    have HR3 : Hid ((w2.setCell ⟨C + 2, 1, none⟩ (.int .i64 id)).heap[C + 1]? = some (.cells z6 51 (0, 0))) := hid ((Below.heap_setCell _ _ _ _ (by show C + 1 ≠ C + 2; omega)).trans HR2.out)
    have HB3 : Hid (Below w.heap.size w (w2.setCell ⟨C + 2, 1, none⟩ (.int .i64 id))) := hid (below_set HB2.out (by have := HCE.out; omega))
    clear HA2 HR2 HB2 H2
    generalize w2.setCell ⟨C + 2, 1, none⟩ (.int .i64 id) = w3 at *
    have H3 := hid (H.out.below HB3.out)
    have x4 : w3.cell? ⟨xb, 4, none⟩ = some (.slice (some ⟨g, 0, none⟩) Y.length svc) := H3.out.cell 4
    have a0 : w3.cell? ⟨C + 2, 0, none⟩ = some (.int .i64 k) := (cell_of_row _ _ _ _ _ _ HA3.out).trans rfl
    have hwi : IntKind.i64.wrap ((i : Int) + 1) = (i : Int) + 1 := IntWalk.i64_in _ ⟨by omega, by have := G.out.len; rw [List.length_map] at this; omega⟩
    have hi0 : (0 : Int) ≤ (i : Int) + 1 := by omega
    by_cases h2 : k = 2
    · subst h2
      by_cases hlt : (i : Int) + 1 < (Y.length : Int)
      · have hi1 : i + 1 < Y.length := by omega
        have y1 : w3.cell? ⟨g, (i + 1) * 5, none⟩ = some (.int .i64 Y[i + 1].s.id) := own_cell H3.out.row (shvs_part Y (i + 1) hi1 0 _ rfl)
        have a2 : w3.cell? ⟨C + 2, 2, none⟩ = some (.int .i64 ot) := (cell_of_row _ _ _ _ _ _ HA3.out).trans rfl
        have f2 : w3.frozen? ⟨C + 2, 2, none⟩ = false := frozen_of_row _ _ _ _ _ HA3.out
        have HID2 : Hid (I64 Y[i + 1].s.id) := hid (by
          have := G.out.id Y[i + 1].s (List.mem_map.2 ⟨Y[i + 1], List.getElem_mem _, rfl⟩)
          have := G.out.nx
          constructor <;> omega)
        generalize Y[i + 1].s.id = id2 at *
        clear hi1
        go_upto_region 8 with fail
        clear x4 y1 a2 f2 a0
        have HA4 : Hid ((w3.setCell ⟨C + 2, 2, none⟩ (.int .i64 id2)).heap[C + 2]? = some (.cells #[.int .i64 2, .int .i64 id, .int .i64 id2, .int .i64 at', .int .i64 out, .int .i64 in'] 51 (0, 0))) := hid (heap_setCell_same _ _ _ _ _ _ HA3.out)
        have hR9 : (w3.setCell ⟨C + 2, 2, none⟩ (.int .i64 id2)).heap[C + 1]? = some (.cells z6 51 (0, 0)) := (Below.heap_setCell _ _ _ _ (by show C + 1 ≠ C + 2; omega)).trans HR3.out
        have HB9 : Hid (Below w.heap.size w (w3.setCell ⟨C + 2, 2, none⟩ (.int .i64 id2))) := hid (below_set HB3.out (by have := HCE.out; omega))
        clear HA3 HR3 HB3 H3
        generalize w3.setCell ⟨C + 2, 2, none⟩ (.int .i64 id2) = w4 at *
        have hA9 := HA4.out
        have a0 : w4.cell? ⟨C + 2, 0, none⟩ = some (.int .i64 2) := (cell_of_row _ _ _ _ _ _ HA4.out).trans rfl
        replace HJ : Hid (ChJ ⟨2, id, id2, at', out, in'⟩) := hid (by
          have hj := HJ.out
          intro x hx
          simp [numC] at hx
          rcases hx with rfl | rfl | rfl | rfl | rfl | rfl
          · exact hj _ (by simp [numC])
          · exact HID.out.2
          · exact HID2.out
          all_goals exact hj _ (by simp [numC]))
        clear HA4
        unfold z6 at hR9
        go_wp2_with (first | (refine wpl_loadK rfl _ rfl (C + 2) rfl _ _ _ rfl hA9 ?_) | (refine wpl_storeK rfl _ _ rfl (C + 1) _ _ _ _ _ _ rfl rfl rfl rfl rfl rfl rfl rfl _ _ rfl hR9 ?_))
        (try simp only [Exit.inBlock, Exit.then])
        refine bodyPost_ret (results_ch rfl _ _ (C + 1) _ _ _ rfl rfl (setRow_heap _ _ _ _ _ _ hR9)) rfl ?_
        exact ⟨⟨_, _, _, _, _, _⟩, rfl, HJ.out, below_row HB9.out (by have := HCE.out; omega) _⟩
      · have hA9 := HA3.out
        have hR9 := HR3.out
        have HB9 := HB3
        replace HJ : Hid (ChJ ⟨2, id, ot, at', out, in'⟩) := hid (by
          have hj := HJ.out
          intro x hx
          simp [numC] at hx
          rcases hx with rfl | rfl | rfl | rfl | rfl | rfl
          · exact hj _ (by simp [numC])
          · exact HID.out.2
          all_goals exact hj _ (by simp [numC]))
        unfold z6 at hR9
        go_wp2_with (first | (refine wpl_loadK rfl _ rfl (C + 2) rfl _ _ _ rfl hA9 ?_) | (refine wpl_storeK rfl _ _ rfl (C + 1) _ _ _ _ _ _ rfl rfl rfl rfl rfl rfl rfl rfl _ _ rfl hR9 ?_))
        (try simp only [Exit.inBlock, Exit.then])
        refine bodyPost_ret (results_ch rfl _ _ (C + 1) _ _ _ rfl rfl (setRow_heap _ _ _ _ _ _ hR9)) rfl ?_
        exact ⟨⟨_, _, _, _, _, _⟩, rfl, HJ.out, below_row HB9.out (by have := HCE.out; omega) _⟩
    replace HJ : Hid (ChJ ⟨k, id, ot, at', out, in'⟩) := hid (by
      have hj := HJ.out
      intro x hx
      simp [numC] at hx
      rcases hx with rfl | rfl | rfl | rfl | rfl | rfl
      · exact hj _ (by simp [numC])
      · exact HID.out.2
      all_goals exact hj _ (by simp [numC]))
    have g2 : (k == 2) = false := by simpa using h2
    by_cases h1 : k = 1
    · subst h1
      clear h2
      obtain ⟨y1, y2⟩ := HFC.out w3 H3.out
      have a3 : w3.cell? ⟨C + 2, 3, none⟩ = some (.int .i64 at') := (cell_of_row _ _ _ _ _ _ HA3.out).trans rfl
      have f3 : w3.frozen? ⟨C + 2, 3, none⟩ = false := frozen_of_row _ _ _ _ _ HA3.out
      have hs1 : IntKind.i64.wrap (tt - fr) = tt - fr := IntWalk.i64_in _ ⟨by have := HFT.out; omega, by have := HFT.out; omega⟩
      have hs2 : IntKind.i64.wrap (tt - fr + 1) = tt - fr + 1 := IntWalk.i64_in _ ⟨by have := HFT.out; omega, by have := HFT.out; omega⟩
      have hs3 : IntKind.u64.wrap (tt - fr + 1) = tt - fr + 1 := IntWalk.u64_in _ ⟨by have := HFT.out; omega, by have := HFT.out; omega⟩
      have hs4 : ¬ tt - fr + 1 = 0 := by have := HFT.out; omega
      have HRR := hid (rest_in2 at' (tt - fr + 1) (by have := HFT.out; omega) (by have := HFT.out; omega))
      have HSV : Hid (∀ v : Int, (w3.setCell ⟨C + 2, 3, none⟩ (.int .i64 v)).drew.cell? ⟨g, i * 5 + 1, none⟩ = some (.int .i64 fr) ∧ (w3.setCell ⟨C + 2, 3, none⟩ (.int .i64 v)).drew.cell? ⟨g, i * 5 + 1 + 1, none⟩ = some (.int .i64 tt) ∧ (w3.setCell ⟨C + 2, 3, none⟩ (.int .i64 v)).drew.cell? ⟨xb, 4, none⟩ = some (.slice (some ⟨g, 0, none⟩) Y.length svc)) := hid fun v => by
        have h4 := H.out.below ((below_set HB3.out (i := 3) (v := .int .i64 v) (show w.heap.size ≤ C + 2 by have := HCE.out; omega)).drew)
        exact ⟨(HFC.out _ h4).1, (HFC.out _ h4).2, h4.cell 4⟩
      go_upto_region 9 with fail
      refine wp_region_held_drew (S := fun Z => Z.cell? ⟨g, i * 5 + 1, none⟩ = some (.int .i64 fr) ∧ Z.cell? ⟨g, i * 5 + 1 + 1, none⟩ = some (.int .i64 tt) ∧ Z.cell? ⟨xb, 4, none⟩ = some (.slice (some ⟨g, 0, none⟩) Y.length svc)) (by kernel_rfl) ⟨y1, y2, x4⟩ (fun hHeld => ?_)
      refine wpAnyH_take (i := 0) (v := ?bv0) rfl (by kernel_rfl) (by kernel_rfl) (by kernel_rfl) (fun _ _ _ h => h) (Or.inl ⟨by rfl, ?by0⟩) (by assumption) ?br0
      case by0 => (intro w hSw; (try dsimp only at hSw); go_simp; try with_reducible rfl)
      (try simp only [Act.put, putS])
      refine wpAnyH_take (i := 1) (v := ?bv1) rfl (by kernel_rfl) (by kernel_rfl) (by kernel_rfl) (fun _ _ _ h => h) (Or.inl ⟨by rfl, ?by1⟩) (by assumption) ?br1
      case by1 => (intro w hSw; (try dsimp only at hSw); go_simp; try with_reducible rfl)
      (try simp only [Act.put, putS])
      refine wpAnyH_take (i := 2) (v := ?bv2) rfl (by kernel_rfl) (by kernel_rfl) (by kernel_rfl) (fun _ _ _ h => h) (Or.inl ⟨by rfl, ?by2⟩) (by assumption) ?br2
      case by2 => (intro w hSw; (try dsimp only at hSw); go_simp; try with_reducible rfl)
      (try simp only [Act.put, putS])
      refine wpAnyH_take (i := 3) (v := ?bv3) rfl (by kernel_rfl) (by kernel_rfl) (by kernel_rfl) (fun _ _ _ h => h) (Or.inl ⟨by rfl, ?by3⟩) (by assumption) ?br3
      case by3 => (intro w hSw; (try dsimp only at hSw); go_simp; try with_reducible rfl)
      (try simp only [Act.put, putS])
      refine wpAnyH_take (i := 4) (v := ?bv4) rfl (by kernel_rfl) (by kernel_rfl) (by kernel_rfl) (fun _ _ _ h => h) (Or.inl ⟨by rfl, ?by4⟩) (by assumption) ?br4
      case by4 => (intro w hSw; (try dsimp only at hSw); go_simp; try with_reducible rfl)
      (try simp only [Act.put, putS])
      refine wpAnyH_take (i := 5) (v := ?bv5) rfl (by kernel_rfl) (by kernel_rfl) (by kernel_rfl) (fun _ _ _ h => h) (Or.inl ⟨by rfl, ?by5⟩) (by assumption) ?br5
      case by5 => (intro w hSw; (try dsimp only at hSw); go_simp; try with_reducible rfl)
      (try simp only [Act.put, putS])
      refine wpAnyH_take (i := 6) (v := ?bv6) rfl (by kernel_rfl) (by kernel_rfl) (by kernel_rfl) (fun _ _ _ h => h) (Or.inl ⟨by rfl, ?by6⟩) (by assumption) ?br6
      case by6 => (intro w hSw; (try dsimp only at hSw); go_simp; try with_reducible rfl)
      (try simp only [Act.put, putS])
      refine wpAnyH_take (i := 7) (v := ?bv7) rfl (by kernel_rfl) (by kernel_rfl) (by kernel_rfl) (fun _ _ _ h => h) (Or.inl ⟨by rfl, ?by7⟩) (by assumption) ?br7
      case by7 => (intro w hSw; (try dsimp only at hSw); go_simp; try with_reducible rfl)
      (try simp only [Act.put, putS])
      refine wpAnyH_take (i := 8) (v := ?bv8) rfl (by kernel_rfl) (by kernel_rfl) (by kernel_rfl) (fun _ _ _ h => h) (Or.inl ⟨by rfl, ?by8⟩) (by assumption) ?br8
      case by8 => (intro w hSw; (try dsimp only at hSw); go_simp; try with_reducible rfl)
      (try simp only [Act.put, putS])
      refine wpAnyH_take (i := 9) (v := ?bv9) rfl (by kernel_rfl) (by kernel_rfl) (by kernel_rfl) (fun _ _ _ h => h) (Or.inl ⟨by rfl, ?by9⟩) (by assumption) ?br9
      case by9 => (intro w hSw; (try dsimp only at hSw); go_simp; try with_reducible rfl)
      (try simp only [Act.put, putS])
      refine wpAnyH_take (i := 12) (v := ?bv12) rfl (by kernel_rfl) (by kernel_rfl) (by kernel_rfl) (fun _ _ _ h => h) (Or.inl ⟨by rfl, ?by12⟩) (by assumption) ?br12
      case by12 => (intro w hSw; (try dsimp only at hSw); go_simp; try with_reducible rfl)
      (try simp only [Act.put, putS])
      refine wpAnyH_take (i := 13) (v := ?bv13) rfl (by kernel_rfl) (by kernel_rfl) (by kernel_rfl) (fun _ _ _ h => h) (Or.inl ⟨by rfl, ?by13⟩) (by assumption) ?br13
      case by13 => (intro w hSw; (try dsimp only at hSw); go_simp; try with_reducible rfl)
      (try simp only [Act.put, putS])
      refine wpAnyH_take (i := 14) (v := ?bv14) rfl (by kernel_rfl) (by kernel_rfl) (by kernel_rfl) (fun _ _ _ h => h) (Or.inl ⟨by rfl, ?by14⟩) (by assumption) ?br14
      case by14 => (intro w hSw; (try dsimp only at hSw); go_simp; try with_reducible rfl)
      (try simp only [Act.put, putS])
      refine wpAnyH_take (i := 15) (v := ?bv15) rfl (by kernel_rfl) (by kernel_rfl) (by kernel_rfl) (fun _ _ _ h => h) (Or.inl ⟨by rfl, ?by15⟩) (by assumption) ?br15
      case by15 => (intro w hSw; (try dsimp only at hSw); go_simp; try with_reducible rfl)
      (try simp only [Act.put, putS])
      refine wpAnyH_take (i := 16) (v := ?bv16) rfl (by kernel_rfl) (by kernel_rfl) (by kernel_rfl) (fun _ _ _ h => h) (Or.inl ⟨by rfl, ?by16⟩) (by assumption) ?br16
      case by16 => (intro w hSw; (try dsimp only at hSw); go_simp; try with_reducible rfl)
      (try simp only [Act.put, putS])
      refine wpAnyH_take (i := 17) (v := ?bv17) rfl (by kernel_rfl) (by kernel_rfl) (by kernel_rfl) (fun _ _ _ h => h) (Or.inl ⟨by rfl, ?by17⟩) (by assumption) ?br17
      case by17 => (intro w hSw; (try dsimp only at hSw); go_simp; try with_reducible rfl)
      (try simp only [Act.put, putS])
      refine wpAnyH_take (i := 18) (v := ?bv18) rfl (by kernel_rfl) (by kernel_rfl) (by kernel_rfl) (fun _ _ _ h => h) (Or.inl ⟨by rfl, ?by18⟩) (by assumption) ?br18
      case by18 => (intro w hSw; (try dsimp only at hSw); go_simp; try with_reducible rfl)
      (try simp only [Act.put, putS])
      refine wpAnyH_take (i := 19) (v := ?bv19) rfl (by kernel_rfl) (by kernel_rfl) (by kernel_rfl) (fun _ _ _ h => h) (Or.inl ⟨by rfl, ?by19⟩) (by assumption) ?br19
      case by19 => (intro w hSw; (try dsimp only at hSw); go_simp; try with_reducible rfl)
      (try simp only [Act.put, putS])
      refine wpAnyH_take (i := 20) (v := ?bv20) rfl (by kernel_rfl) (by kernel_rfl) (by kernel_rfl) (fun _ _ _ h => h) (Or.inl ⟨by rfl, ?by20⟩) (by assumption) ?br20
      case by20 => (intro w hSw; (try dsimp only at hSw); go_simp; try with_reducible rfl)
      (try simp only [Act.put, putS])
      refine wpAnyH_take (i := 21) (v := ?bv21) rfl (by kernel_rfl) (by kernel_rfl) (by kernel_rfl) (fun _ _ _ h => h) (Or.inl ⟨by rfl, ?by21⟩) (by assumption) ?br21
      case by21 => (intro w hSw; (try dsimp only at hSw); go_simp; try with_reducible rfl)
      (try simp only [Act.put, putS])
      refine wpAnyH_take (i := 22) (v := ?bv22) rfl (by kernel_rfl) (by kernel_rfl) (by kernel_rfl) (fun _ _ _ h => h) (Or.inl ⟨by rfl, ?by22⟩) (by assumption) ?br22
      case by22 => (intro w hSw; (try dsimp only at hSw); go_simp; try with_reducible rfl)
      (try simp only [Act.put, putS])
      refine wpAnyH_take (i := 23) (v := ?bv23) rfl (by kernel_rfl) (by kernel_rfl) (by kernel_rfl) (fun _ _ _ h => h) (Or.inl ⟨by rfl, ?by23⟩) (by assumption) ?br23
      case by23 => (intro w hSw; (try dsimp only at hSw); go_simp; try with_reducible rfl)
      (try simp only [Act.put, putS])
      refine wpAnyH_take (i := 24) (v := ?bv24) rfl (by kernel_rfl) (by kernel_rfl) (by kernel_rfl) (fun _ _ _ h => h) (Or.inl ⟨by rfl, ?by24⟩) (by assumption) ?br24
      case by24 => (intro w hSw; (try dsimp only at hSw); go_simp; try with_reducible rfl)
      (try simp only [Act.put, putS])
      refine wpAnyH_take (i := 25) (v := ?bv25) rfl (by kernel_rfl) (by kernel_rfl) (by kernel_rfl) (fun _ _ _ h => h) (Or.inl ⟨by rfl, ?by25⟩) (by assumption) ?br25
      case by25 => (intro w hSw; (try dsimp only at hSw); go_simp; try with_reducible rfl)
      (try simp only [Act.put, putS])
      refine wpAnyH_take (i := 26) (v := ?bv26) rfl (by kernel_rfl) (by kernel_rfl) (by kernel_rfl) (fun _ _ _ h => h) (Or.inl ⟨by rfl, ?by26⟩) (by assumption) ?br26
      case by26 => (intro w hSw; (try dsimp only at hSw); go_simp; try with_reducible rfl)
      (try simp only [Act.put, putS])
      refine wpAnyH_take (i := 27) (v := ?bv27) rfl (by kernel_rfl) (by kernel_rfl) (by kernel_rfl) (fun _ _ _ h => h) (Or.inl ⟨by rfl, ?by27⟩) (by assumption) ?br27
      case by27 => (intro w hSw; (try dsimp only at hSw); go_simp; try with_reducible rfl)
      (try simp only [Act.put, putS])
      refine wpAnyH_take (i := 28) (v := ?bv28) rfl (by kernel_rfl) (by kernel_rfl) (by kernel_rfl) (fun _ _ _ h => h) (Or.inl ⟨by rfl, ?by28⟩) (by assumption) ?br28
      case by28 => (intro w hSw; (try dsimp only at hSw); go_simp; try with_reducible rfl)
      (try simp only [Act.put, putS])
      refine wpAnyH_take (i := 29) (v := ?bv29) rfl (by kernel_rfl) (by kernel_rfl) (by kernel_rfl) (fun _ _ _ h => h) (Or.inl ⟨by rfl, ?by29⟩) (by assumption) ?br29
      case by29 => (intro w hSw; (try dsimp only at hSw); go_simp; try with_reducible rfl)
      (try simp only [Act.put, putS])
      refine wpAnyH_take (i := 30) (v := ?bv30) rfl (by kernel_rfl) (by kernel_rfl) (by kernel_rfl) (fun _ _ _ h => h) (Or.inl ⟨by rfl, ?by30⟩) (by assumption) ?br30
      case by30 => (intro w hSw; (try dsimp only at hSw); go_simp; try with_reducible rfl)
      (try simp only [Act.put, putS])
      refine wpAnyH_take (i := 31) (v := ?bv31) rfl (by kernel_rfl) (by kernel_rfl) (by kernel_rfl) (fun _ _ _ h => h) (Or.inl ⟨by rfl, ?by31⟩) (by assumption) ?br31
      case by31 => (intro w hSw; (try dsimp only at hSw); go_simp; try with_reducible rfl)
      (try simp only [Act.put, putS])
      refine wpAnyH_take (i := 32) (v := ?bv32) rfl (by kernel_rfl) (by kernel_rfl) (by kernel_rfl) (fun _ _ _ h => h) (Or.inl ⟨by rfl, ?by32⟩) (by assumption) ?br32
      case by32 => (intro w hSw; (try dsimp only at hSw); go_simp; try with_reducible rfl)
      (try simp only [Act.put, putS])
      refine wpAnyH_ready (rs := [10]) (by kernel_rfl) (by simp) ?_
      refine AllReadyH.cons rfl (fun K hK => ?_) AllReadyH.nil
      rw [if_pos (by rfl)]
      go_simp
      refine hK.out _ _ hHeld (fun hHeld => ?_)
      try clear hK K
      (try simp only [Act.put, putS])
      refine wpAnyH_take (i := 11) (v := ?bv11) rfl (by kernel_rfl) (by kernel_rfl) (by kernel_rfl) (fun _ _ _ h => h) (Or.inl ⟨by rfl, ?by11⟩) (by assumption) ?br11
      case by11 => (intro w hSw; (try dsimp only at hSw); go_simp; try with_reducible rfl)
      (try simp only [Act.put, putS])
      refine wpAnyH_take (i := 33) (v := ?bv33) rfl (by kernel_rfl) (by kernel_rfl) (by kernel_rfl) (fun _ _ _ h => h) (Or.inl ⟨by rfl, ?by33⟩) (by assumption) ?br33
      case by33 => (intro w hSw; (try dsimp only at hSw); go_simp; try with_reducible rfl)
      (try simp only [Act.put, putS])
      refine wpAnyH_take (i := 34) (v := ?bv34) rfl (by kernel_rfl) (by kernel_rfl) (by kernel_rfl) (fun _ _ _ h => h) (Or.inl ⟨by rfl, ?by34⟩) (by assumption) ?br34
      case by34 => (intro w hSw; (try dsimp only at hSw); go_simp; try with_reducible rfl)
      (try simp only [Act.put, putS])
      refine wpAnyH_take (i := 35) (v := ?bv35) rfl (by kernel_rfl) (by kernel_rfl) (by kernel_rfl) (fun _ _ _ h => h) (Or.inl ⟨by rfl, ?by35⟩) (by assumption) ?br35
      case by35 => (intro w hSw; (try dsimp only at hSw); go_simp; try with_reducible rfl)
      (try simp only [Act.put, putS])
      refine wpAnyH_take (i := 36) (v := ?bv36) rfl (by kernel_rfl) (by kernel_rfl) (by kernel_rfl) (fun _ _ _ h => h) (Or.inl ⟨by rfl, ?by36⟩) (by assumption) ?br36
      case by36 => (intro w hSw; (try dsimp only at hSw); go_simp; try with_reducible rfl)
      (try simp only [Act.put, putS])
      refine wpAnyH_ready (rs := [37]) (by kernel_rfl) (by simp) ?_
      refine AllReadyH.cons rfl (fun K hK => ?_) AllReadyH.nil
      rw [if_pos (by rfl)]
      go_simp
      refine hK.out _ _ (HSV.out _) (fun hHeld => ?_)
      try clear hK K
      (try simp only [Act.put, putS])
      refine wpAnyH_done (by kernel_rfl) ?_ _
      obtain ⟨v, hv⟩ : ∃ v, v = IntKind.i64.wrap (fr + IntKind.i64.wrap ((IntKind.u64.wrap at').tmod (tt - fr + 1))) := ⟨_, rfl⟩
      have HV : Hid (I64 v) := hid (by
        have h1 := HRR.out
        have h2 := HFT.out
        rw [hv, IntWalk.i64_in _ ⟨by omega, by omega⟩]
        constructor <;> omega)
      rw [← hv]
      clear hv hHeld y1 y2 a3 f3 hs1 hs2 hs3 hs4 x4 a0
      have HA4 : Hid ((w3.setCell ⟨C + 2, 3, none⟩ (.int .i64 v)).drew.heap[C + 2]? = some (.cells #[.int .i64 1, .int .i64 id, .int .i64 ot, .int .i64 v, .int .i64 out, .int .i64 in'] 51 (0, 0))) := hid (heap_setCell_same _ _ _ _ _ _ HA3.out)
      have hR9 : (w3.setCell ⟨C + 2, 3, none⟩ (.int .i64 v)).drew.heap[C + 1]? = some (.cells z6 51 (0, 0)) := (Below.heap_setCell _ _ _ _ (by show C + 1 ≠ C + 2; omega)).trans HR3.out
      have HB9 : Hid (Below w.heap.size w (w3.setCell ⟨C + 2, 3, none⟩ (.int .i64 v)).drew) := hid (below_set HB3.out (by have := HCE.out; omega)).drew
      clear HA3 HR3 HB3 H3
      generalize (w3.setCell ⟨C + 2, 3, none⟩ (.int .i64 v)).drew = w4 at *
      have hA9 := HA4.out
      have a0 : w4.cell? ⟨C + 2, 0, none⟩ = some (.int .i64 1) := (cell_of_row _ _ _ _ _ _ HA4.out).trans rfl
      replace HJ : Hid (ChJ ⟨1, id, ot, v, out, in'⟩) := hid (by
        have hj := HJ.out
        intro x hx
        simp [numC] at hx
        rcases hx with rfl | rfl | rfl | rfl | rfl | rfl
        · exact hj _ (by simp [numC])
        · exact HID.out.2
        · exact hj _ (by simp [numC])
        · exact HV.out
        all_goals exact hj _ (by simp [numC]))
      clear HA4
      unfold z6 at hR9
      go_wp2_with (first | (refine wpl_loadK rfl _ rfl (C + 2) rfl _ _ _ rfl hA9 ?_) | (refine wpl_storeK rfl _ _ rfl (C + 1) _ _ _ _ _ _ rfl rfl rfl rfl rfl rfl rfl rfl _ _ rfl hR9 ?_))
      (try simp only [Exit.inBlock, Exit.then])
      refine bodyPost_ret (results_ch rfl _ _ (C + 1) _ _ _ rfl rfl (setRow_heap _ _ _ _ _ _ hR9)) rfl ?_
      exact ⟨⟨_, _, _, _, _, _⟩, rfl, HJ.out, below_row HB9.out (by have := HCE.out; omega) _⟩
    have g1 : (k == 1) = false := by simpa using h1
    by_cases h5 : k = 5
    · subst h5
      have hA3 := HA3.out
      go_upto_region 12 with (refine wpl_storeK rfl _ _ rfl (C + 2) _ _ _ _ _ _ rfl rfl rfl rfl rfl rfl rfl rfl _ _ rfl hA3 ?_)
      clear hA3 x4 a0
      have HA4 : Hid ((w3.setRow (C + 2) #[.int .i64 5, .int .i64 0, .int .i64 0, .int .i64 0, .int .i64 0, .int .i64 0]).heap[C + 2]? = some (.cells #[.int .i64 5, .int .i64 0, .int .i64 0, .int .i64 0, .int .i64 0, .int .i64 0] 51 (0, 0))) := hid (setRow_heap _ _ _ _ _ _ HA3.out)
      have hR9 : (w3.setRow (C + 2) #[.int .i64 5, .int .i64 0, .int .i64 0, .int .i64 0, .int .i64 0, .int .i64 0]).heap[C + 1]? = some (.cells z6 51 (0, 0)) := (setRow_other _ _ _ _ (by omega)).trans HR3.out
      have HB9 : Hid (Below w.heap.size w (w3.setRow (C + 2) #[.int .i64 5, .int .i64 0, .int .i64 0, .int .i64 0, .int .i64 0, .int .i64 0])) := hid (below_row HB3.out (by have := HCE.out; omega) _)
      clear HA3 HR3 HB3 H3
      generalize w3.setRow (C + 2) #[.int .i64 5, .int .i64 0, .int .i64 0, .int .i64 0, .int .i64 0, .int .i64 0] = w4 at *
      have hA9 := HA4.out
      replace HJ : Hid (ChJ ⟨5, 0, 0, 0, 0, 0⟩) := hid (by
        intro x hx
        simp [numC] at hx
        rcases hx with rfl | rfl <;> constructor <;> omega)
      clear HA4
      unfold z6 at hR9
      go_wp2_with (first | (refine wpl_loadK rfl _ rfl (C + 2) rfl _ _ _ rfl hA9 ?_) | (refine wpl_storeK rfl _ _ rfl (C + 1) _ _ _ _ _ _ rfl rfl rfl rfl rfl rfl rfl rfl _ _ rfl hR9 ?_))
      (try simp only [Exit.inBlock, Exit.then])
      refine bodyPost_ret (results_ch rfl _ _ (C + 1) _ _ _ rfl rfl (setRow_heap _ _ _ _ _ _ hR9)) rfl ?_
      exact ⟨⟨_, _, _, _, _, _⟩, rfl, HJ.out, below_row HB9.out (by have := HCE.out; omega) _⟩
    · have g5 : (k == 5) = false := by simpa using h5
      have hA9 := HA3.out
      have hR9 := HR3.out
      have HB9 := HB3
      unfold z6 at hR9
      go_wp2_with (first | (refine wpl_loadK rfl _ rfl (C + 2) rfl _ _ _ rfl hA9 ?_) | (refine wpl_storeK rfl _ _ rfl (C + 1) _ _ _ _ _ _ rfl rfl rfl rfl rfl rfl rfl rfl _ _ rfl hR9 ?_))
      (try simp only [Exit.inBlock, Exit.then])
      refine bodyPost_ret (results_ch rfl _ _ (C + 1) _ _ _ rfl rfl (setRow_heap _ _ _ _ _ _ hR9)) rfl ?_
      exact ⟨⟨_, _, _, _, _, _⟩, rfl, HJ.out, below_row HB9.out (by have := HCE.out; omega) _⟩
end Go.Proofs.YtmocedkbabnpfaaGreat
namespace Go.Proofs.YtmocedkbabnpfaaGreat
open Go.RowKit Go.Maps Go.Shelf
set_option linter.unusedVariables false
set_option linter.unusedSimpArgs false

/-- What the document's New leaves, in rows of its own. -/
def RNb (bl : Int) (l : List Int) (w : World) (e : Ending) (w' : World) : Prop := ∃ b sv X, e = .returned (.pointer (some ⟨b, 0, none⟩)) ∧ RB w' b ⟨bl, 1, 2, []⟩ (.slice none 0 0) sv X ∧ X.map (·.s) = [⟨1, 0, bl, l, []⟩] ∧ Below w.heap.size w w' ∧ w.heap.size ≤ b
set_option maxRecDepth 100000 in
set_option maxHeartbeats 4000000 in
theorem rnewB_any (bl : Int) (l : List Int) (va : Option Addr) (vc : Nat) (w : World) (hv : w.ownsRow 0 3 1 (.slice va l.length vc) l.length (nvs l)) :
    Calls Tryz.prog 27 #[.int .i64 bl, .slice va l.length vc] w (RNb bl l w) := by
  have HV := hid hv
  clear hv
  obtain ⟨h1, h2⟩ := heap_two w (.cells #[.int .i64 1, .int .i64 0, .int .i64 bl, .slice va l.length vc, .slice none 0 0] 34) (.cells #[.int .i64 bl, .int .i64 1, .int .i64 2, .slice none 0 0, .slice (some ⟨w.heap.size, 0, none⟩) 1 1] 103)
  have hb : Below w.heap.size w ((w.alloc (.cells #[.int .i64 1, .int .i64 0, .int .i64 bl, .slice va l.length vc, .slice none 0 0] 34)).alloc (.cells #[.int .i64 bl, .int .i64 1, .int .i64 2, .slice none 0 0, .slice (some ⟨w.heap.size, 0, none⟩) 1 1] 103)) := ((Below.refl _ _).alloc (Nat.le_refl _) _).alloc (by simp) _
  have HF : Hid (RNb bl l w (.returned (.pointer (some ⟨w.heap.size + 1, 0, none⟩))) ((w.alloc (.cells #[.int .i64 1, .int .i64 0, .int .i64 bl, .slice va l.length vc, .slice none 0 0] 34)).alloc (.cells #[.int .i64 bl, .int .i64 1, .int .i64 2, .slice none 0 0, .slice (some ⟨w.heap.size, 0, none⟩) 1 1] 103))) := hid (by
    refine ⟨w.heap.size + 1, .slice (some ⟨w.heap.size, 0, none⟩) 1 1, [⟨⟨1, 0, bl, l, []⟩, .slice va l.length vc, .slice none 0 0⟩], rfl, ⟨h2, World.ownsRow_nil _ _ _ _, ?_, ?_, fun _ => rfl⟩, rfl, hb, by omega⟩
    · exact ⟨rfl, .inr ⟨w.heap.size, 1, _, rfl, Nat.zero_le _, h1, Nat.le_refl _, by unfold maxLen; omega, rfl, rfl⟩⟩
    · intro x hx
      rw [List.mem_singleton.1 hx]
      exact ⟨own_below HV.out hb, [], rfl, World.ownsRow_nil _ _ _ _, fun x hx => by cases hx⟩)
  clear h1 h2 hb
  go_enter Tryz.func27, Tryz.ntmps27
  go_wp2_with fail
  go_ret
  simpa using HF.out
/-- What play leaves. -/
def PlyP (w : World) (e : Ending) (w' : World) : Prop := ∃ b wb mb n ov D N X xb rv sv Y, e = .returned (.tuple #[.pointer (some ⟨b, 0, none⟩), .pointer (some ⟨xb, 0, none⟩), .bool true]) ∧ At w' b wb mb n ov D N X ∧ RB w' xb N rv sv Y ∧ Y.map (·.s) = X.map (·.s) ∧ Gd 100 N (X.map (·.s)) ∧ n ≤ 100 ∧ Below w.heap.size w w' ∧ (∀ q, AtR b wb mb q → w.heap.size ≤ q) ∧ w.heap.size ≤ xb ∧ ∀ S ∈ X.map (·.s), S.mem.length = 3
/-- Members stay three. -/
theorem three_step {B : Nat} {N N' : AtN} {Z Z' : List ShD} {c : ChD} {r : Int} (g : Gd B N Z) (h : ∀ S ∈ Z, S.mem.length = 3) (hs : StepR N Z c r N' Z') : ∀ S ∈ Z', S.mem.length = 3 := by
  cases hs with
  | bad _ => exact h
  | calm _ _ _ _ => exact h
  | settle _ _ _ _ => exact h
  | down _ _ _ _ => exact h
  | miss _ _ _ _ _ => exact h
  | miss2 _ _ _ _ _ _ _ _ _ _ => exact h
  | unfit _ _ _ _ _ _ _ _ _ _ _ => exact h
  | unfit2 _ _ _ _ _ _ _ _ _ _ _ _ _ _ _ => exact h
  | one hk hn h5 h2 ho P Q S hZ hi hf =>
    subst hZ
    have hS := h S (by simp)
    have hm := g.mb S (by simp)
    have hl : (mlD c S).length = 3 := by
      unfold mlD
      split
      · rename_i hk3
        unfold fit1 at hf
        rw [if_neg (by omega), if_pos hk3] at hf
        obtain ⟨hr, hnn, -⟩ := mem_rise hm
        have hs3 : c.out ∈ S.mem ∧ c.in' ∉ S.mem ∧ (0 ≤ c.in' ∧ c.in' < 7) := by simpa [swB, nodeB] using hf
        obtain ⟨k, hk', hke⟩ := List.mem_iff_getElem.1 hs3.1
        rw [swD_len S.mem c.out c.in' k hk' hke hr hnn hs3.2.2 hs3.2.1]; exact hS
      · exact hS
    intro T hT
    rcases List.mem_append.1 hT with hT | hT
    · rcases List.mem_append.1 hT with hT | hT
      · exact h T (by simp [hT])
      · rw [(nwD_mem _ _ _ _ T hT).1]; exact hl
    · exact h T (by simp [hT])
  | two hk hn h2 ho P Q S U hZ hi hj =>
    subst hZ
    intro T hT
    rcases List.mem_append.1 hT with hT | hT
    · rcases List.mem_append.1 hT with hT | hT
      · exact h T (by simp [hT])
      · rw [(nwD_mem _ _ _ _ T hT).1]; exact h S (by simp)
    · exact h T (by simp [hT])
/-- Both maps side by side, behind i steps. -/
structure PlI (w : World) (b wb mb xb i : Nat) (wr : World) : Prop where
  both : ∃ n ov D N X rv sv Y, At wr b wb mb n ov D N X ∧ RB wr xb N rv sv Y ∧ Y.map (·.s) = X.map (·.s) ∧ Gd (2 + 2 * i) N (X.map (·.s)) ∧ n ≤ 1 + 2 * i ∧ ∀ S ∈ X.map (·.s), S.mem.length = 3
  bel : Below w.heap.size w wr
  ra : ∀ q, AtR b wb mb q → w.heap.size ≤ q
  rx : w.heap.size ≤ xb
theorem mem012 : memB [0, 1, 2] = true := by decide
theorem gd_new (bl : Int) (h : 1 ≤ bl ∧ bl ≤ 256) : Gd 2 ⟨bl, 1, 2, []⟩ [⟨1, 0, bl, [0, 1, 2], []⟩] :=
  ⟨⟨rfl, by show (0 : Int) < bl; omega, rfl⟩, by intro S hS; rw [List.mem_singleton.1 hS]; exact mem012, by intro S hS; rw [List.mem_singleton.1 hS]; exact ⟨by simp, by intro o ho; cases ho⟩, by intro S hS; rw [List.mem_singleton.1 hS]; exact ⟨by show (1 : Int) ≤ 1; omega, by show (1 : Int) < 2; omega⟩, List.pairwise_singleton _ _, ⟨by show (2 : Int) ≤ 2; omega, by show (2 : Int) ≤ 2; omega⟩, ⟨by show (1 : Int) ≤ 1; omega, by show (1 : Int) ≤ 2; omega⟩, by simp, by simp, h⟩
theorem Tryz.rowSt : ∃ d : TypeDesc, Tryz.prog.underlying 53 = some d ∧ d.isRow = true := by
  obtain ⟨d, h1, h2⟩ : ∃ d, Tryz.prog.underlying 53 = some d ∧ d.isRow = true := by
    have h : (Tryz.prog.underlying 53).map (·.isRow) = some true := by kernel_rfl
    cases hu : Tryz.prog.underlying 53 with
    | none => rw [hu] at h; cases h
    | some d => rw [hu] at h; exact ⟨d, rfl, by simpa using h⟩
  exact ⟨d, h1, h2⟩
theorem Tryz.sizeSt : (Tryz.prog.info? 53).map (·.size) = some 7 := by kernel_rfl
theorem rest_in64 (t m : Int) (h0 : 1 ≤ m) (h1 : m ≤ 1000000000) : 0 ≤ wrap64 ((IntKind.u64.wrap t).tmod m) ∧ wrap64 ((IntKind.u64.wrap t).tmod m) < m := by
  rw [u64_mod, Int.tmod_eq_emod_of_nonneg (by omega)]
  have a := Int.emod_nonneg (t % 18446744073709551616) (b := m) (by omega)
  have b := Int.emod_lt_of_pos (t % 18446744073709551616) (b := m) (by omega)
  rw [IntWalk.wrap64_in _ (by omega)]
  exact ⟨a, b⟩
set_option maxRecDepth 100000 in
set_option maxHeartbeats 8000000 in
theorem play_any (bl : Int) (L : List (ChD × Bool)) (v : Value) (w : World) (hv : Stps w v L) (hj : ∀ x ∈ L, ChJ x.1) :
    Calls Tryz.prog 6 #[.int .i64 bl, v] w (PlyP w) := by
  have HV := hid hv
  have HJ := hid hj
  have hL := hv.len
  obtain ⟨va, vc, rfl⟩ := hv.shape
  clear hv hj
  have hrr := rest_in64 bl 60 (by omega) (by omega)
  obtain ⟨nb, hnb⟩ : ∃ nb, nb = wrap64 (1 + wrap64 ((IntKind.u64.wrap bl).tmod 60)) := ⟨_, rfl⟩
  have HNB : Hid (1 ≤ nb ∧ nb ≤ 256) := hid (by rw [hnb, IntWalk.wrap64_in _ (by omega)]; omega)
  have HQ := hid hnb
  clear hnb hrr
  have HO : Hid (∀ W : World, (W.alloc (.cells #[.int .i64 0, .int .i64 1, .int .i64 2] 3)).ownsRow 0 3 1 (.slice (some ⟨W.heap.size, 0, none⟩) 3 3) 3 (nvs [0, 1, 2])) := hid fun W => own_many W 3 #[.int .i64 0, .int .i64 1, .int .i64 2] 1 3 (Nat.zero_le _) rfl (by omega)
  have HN1 := hid (anew_yes nb [0, 1, 2] (.slice (some ⟨w.heap.size, 0, none⟩) 3 3) (w.alloc (.cells #[.int .i64 0, .int .i64 1, .int .i64 2] 3)) (nums_own (HO.out w) rfl) (by simp) (by unfold anewB; rw [decide_eq_true HNB.out.1, decide_eq_true HNB.out.2, mem012]; rfl))
  have HN3 := hid fun W : World => rnewB_any nb [0, 1, 2] (some ⟨W.heap.size, 0, none⟩) 3 (W.alloc (.cells #[.int .i64 0, .int .i64 1, .int .i64 2] 3)) (HO.out W)
  go_enter Tryz.func6, Tryz.ntmps6
  go_upto_region 2 with fail
  rw [← HQ.out]
  clear HQ
  go_upto_region 3 with (go_at_call 26; refine HN1.out.mono ?_; rintro e w2 ⟨b, wb, mb, D, mv, pv, rfl, ha2, hb2, hr2⟩; have A2 := hid ha2; have HR2 := hid hr2; have B2 := hid (((Below.refl w.heap.size w).alloc (Nat.le_refl _) (.cells #[.int .i64 0, .int .i64 1, .int .i64 2] 3)).trans (hb2.mono (by simp))); clear ha2 hb2 hr2)
  go_upto_region 4 with (go_at_call 27; refine (HN3.out w2).mono ?_; rintro e w3 ⟨xb, sv, Y0, rfl, hr3, hy3, hb3, hx3⟩; have R3 := hid hr3; have HY3 := hid hy3; have HX3 : Hid (w.heap.size ≤ xb) := hid (Nat.le_trans B2.out.size (Nat.le_trans (by simp) hx3)); have HB3 := hid (((Below.refl w2.heap.size w2).alloc (Nat.le_refl _) (.cells #[.int .i64 0, .int .i64 1, .int .i64 2] 3)).trans (hb3.mono (by simp))); clear hr3 hy3 hb3 hx3)
  have HPI : Hid (PlI w b wb mb xb 0 w3) := hid ⟨⟨1, _, D, ⟨nb, 1, 2, []⟩, _, _, sv, Y0, A2.out.below HB3.out, R3.out, HY3.out, gd_new nb HNB.out, by omega, by intro S hS; rw [List.mem_singleton.1 hS]; rfl⟩, B2.out.trans (HB3.out.mono B2.out.size), fun q hq => Nat.le_trans (by simp) (HR2.out q hq), HX3.out⟩
  clear A2 HR2 B2 R3 HY3 HX3 HB3 HN1 HN3 HO
  go_wp2_with fail
  go_loopw [11, 12, 13, 32] (fun _ _ _ iv wr => ∃ i : Nat, iv = .int .i64 i ∧ i ≤ L.length ∧ i ≤ 40 ∧ PlI w b wb mb xb i wr) (fun _ _ _ iv _ => L.length - (intOf iv).toNat)
  case atStart => exact ⟨0, rfl, Nat.zero_le _, by omega, HPI.out⟩
  case round =>
    obtain ⟨i, rfl, hi, hi40, hpi⟩ := hrel
    have P := hid hpi
    have HFIN : Hid (PlyP w (.returned (.tuple #[.pointer (some ⟨b, 0, none⟩), .pointer (some ⟨xb, 0, none⟩), .bool true])) wr) := hid (by
      obtain ⟨⟨n, ov, D, N, X, rv, sv, Y, h1, h2, h3, h4, h5, h9⟩, h6, h7, h8⟩ := hpi
      exact ⟨b, wb, mb, n, ov, D, N, X, xb, rv, sv, Y, rfl, h1, h2, h3, h4.mono (by omega), by omega, h6, h7, h8, h9⟩)
    clear hpi
    by_cases hlt : (i : Int) < (L.length : Int)
    · have hil : i < L.length := by omega
      have HVR := hid (HV.out.below P.out.bel)
      obtain ⟨gs, os, rfl⟩ := HVR.out.addr (by omega)
      have hrg := HVR.out.range i hil
      have HXJ := hid (HJ.out L[i] (List.getElem_mem hil))
      obtain ⟨⟨⟨k0, k1, k2, k3, k4, k5⟩, nr⟩, hx⟩ : ∃ x, x = L[i] := ⟨_, rfl⟩
      rw [← hx] at hrg HXJ
      clear hx
      unfold stC at hrg
      obtain ⟨dT, hdT1, hdT2⟩ := Tryz.rowSt
      obtain ⟨w3, hw3⟩ : ∃ w3, w3 = wr.alloc (.cells #[.int .i64 k0, .int .i64 k1, .int .i64 k2, .int .i64 k3, .int .i64 k4, .int .i64 k5, .bool nr] 53) := ⟨_, rfl⟩
      have HB3 : Hid (Below wr.heap.size wr w3) := hid (by rw [hw3]; exact (Below.refl _ _).alloc (Nat.le_refl _) _)
      have HS3 : Hid (w3.heap[wr.heap.size]? = some (.cells #[.int .i64 k0, .int .i64 k1, .int .i64 k2, .int .i64 k3, .int .i64 k4, .int .i64 k5, .bool nr] 53 (0, 0))) := hid (by rw [hw3]; exact heap_alloc_new _ _)
      have HW3 := hid hw3
      clear hw3
      go_upto_region 9 with (refine wpList_load_mid rfl _ _ rfl gs (os + i * 7) (by go_simp) [.int .i64 k0, .int .i64 k1, .int .i64 k2, .int .i64 k3, .int .i64 k4, .int .i64 k5, .bool nr] dT hrg hdT1 hdT2 Tryz.sizeSt ?_)
      rw [← HW3.out]
      clear HW3 hrg
      by_cases h40 : (40 : Int) ≤ (i : Int)
      · have HF3 : Hid (PlyP w (.returned (.tuple #[.pointer (some ⟨b, 0, none⟩), .pointer (some ⟨xb, 0, none⟩), .bool true])) w3) := hid (by
          obtain ⟨⟨n, ov, D, N, X, rv, sv, Y, h1, h2, h3, h4, h5, h9⟩, h6, h7, h8⟩ := P.out
          exact ⟨b, wb, mb, n, ov, D, N, X, xb, rv, sv, Y, rfl, h1.below HB3.out, h2.below HB3.out, h3, h4.mono (by omega), by omega, h6.trans (HB3.out.mono h6.size), h7, h8, h9⟩)
        go_wp2_with fail
        go_ret3
        exact HF3.out
      · have HI40 : Hid (i < 40) := hid (by omega)
        obtain ⟨⟨n, ov, D, N, X, rv, sv, Y, h1, h2, h3, h4, h5, h9⟩, h6, h7, h8⟩ := P.out
        have A3 := hid (h1.below HB3.out)
        have R3 := hid (h2.below HB3.out)
        have HYX := hid h3
        have HGX := hid h4
        have HGY : Hid (Gd (2 + 2 * i) N (Y.map (·.s))) := hid (by rw [h3]; exact h4)
        have HNI := hid h5
        have B3 := hid (h6.trans (HB3.out.mono h6.size))
        have HRA := hid h7
        have HRX := hid h8
        have HT9 := hid h9
        clear h1 h2 h3 h4 h5 h6 h7 h8 h9 HVR P HFIN
        have HOF := hid (of_any ⟨k0, k1, k2, k3, k4, k5⟩ nr xb (2 + 2 * i) rv sv N Y w3 HXJ.out R3.out HGY.out (by have := HI40.out; omega))
        unfold stV at HOF
        have hrg3 : w3.rangeAt wr.heap.size 0 [.int .i64 k0, .int .i64 k1, .int .i64 k2, .int .i64 k3, .int .i64 k4, .int .i64 k5, .bool nr] := range_of_row HS3.out 0 _ fun j v hv => by rw [Nat.zero_add]; simpa using hv
        generalize wr.heap.size = S3 at *
        go_upto_region 11 with (first | (refine wpList_load_mid rfl _ _ rfl S3 0 (by go_simp) [.int .i64 k0, .int .i64 k1, .int .i64 k2, .int .i64 k3, .int .i64 k4, .int .i64 k5, .bool nr] dT hrg3 hdT1 hdT2 Tryz.sizeSt ?_) | (go_at_call 22; refine HOF.out.mono ?_; rintro e w4 ⟨⟨c0, c1, c2, c3, c4, c5⟩, rfl, hcj, hb4⟩; unfold chV; have HCJ := hid hcj; have HB4 := hid hb4; clear hcj hb4))
        obtain ⟨w5, hw5⟩ : ∃ w5, w5 = w4.alloc (.cells #[.int .i64 c0, .int .i64 c1, .int .i64 c2, .int .i64 c3, .int .i64 c4, .int .i64 c5] 51) := ⟨_, rfl⟩
        have HB5 : Hid (Below w4.heap.size w4 w5) := hid (by rw [hw5]; exact (Below.refl _ _).alloc (Nat.le_refl _) _)
        have HC5 : Hid (w5.heap[w4.heap.size]? = some (.cells #[.int .i64 c0, .int .i64 c1, .int .i64 c2, .int .i64 c3, .int .i64 c4, .int .i64 c5] 51 (0, 0))) := hid (by rw [hw5]; exact heap_alloc_new _ _)
        rw [← hw5]
        clear hw5
        have HB35 := hid (HB4.out.trans (HB5.out.mono HB4.out.size))
        have A5 := hid (A3.out.below HB35.out)
        have R5 := hid (R3.out.below HB35.out)
        have B5 := hid (B3.out.trans (HB35.out.mono B3.out.size))
        generalize w4.heap.size = C5 at *
        obtain ⟨r, N', Z', hst⟩ := step_ex N (X.map (·.s)) ⟨c0, c1, c2, c3, c4, c5⟩ HGX.out.ne
        have HST := hid hst
        have HG2 := hid (gd_step HGX.out hst)
        have HT2 := hid (three_step HGX.out HT9.out hst)
        clear hst HB4 HB5 HB35 A3 R3 B3 HOF hrg3 HS3 HB3
        obtain ⟨dC, hdC1, hdC2⟩ := Tryz.rowCh
        have HSW : Hid (∀ Y : World, Y.heap[C5]? = some (.cells #[.int .i64 c0, .int .i64 c1, .int .i64 c2, .int .i64 c3, .int .i64 c4, .int .i64 c5] 51 (0, 0)) → Y.rangeAt C5 0 [.int .i64 c0, .int .i64 c1, .int .i64 c2, .int .i64 c3, .int .i64 c4, .int .i64 c5]) := hid fun Y hY => range_of_row hY 0 _ fun j v hv => by rw [Nat.zero_add]; simpa using hv
        refine wp_region_held_drew (S := fun Y => Y.rangeAt C5 0 [.int .i64 c0, .int .i64 c1, .int .i64 c2, .int .i64 c3, .int .i64 c4, .int .i64 c5]) (by kernel_rfl) (HSW.out _ HC5.out) (fun hHeld => ?_)
        refine wpAnyH_take (i := 0) (v := ?av0) rfl (by kernel_rfl) (by kernel_rfl) (by kernel_rfl) (fun _ _ _ h => h) (Or.inl ⟨by rfl, ?ay0⟩) (by assumption) ?ar0
        case ay0 => (intro w hSw; (try dsimp only at hSw); go_simp; try with_reducible rfl)
        (try simp only [Act.put, putS])
        refine wpAnyH_take (i := 1) (v := .agg #[.int .i64 c0, .int .i64 c1, .int .i64 c2, .int .i64 c3, .int .i64 c4, .int .i64 c5]) rfl (by kernel_rfl) (by kernel_rfl) (by kernel_rfl) (fun _ _ _ h => h) (yieldsIf_load_mid rfl _ _ rfl C5 0 rfl [.int .i64 c0, .int .i64 c1, .int .i64 c2, .int .i64 c3, .int .i64 c4, .int .i64 c5] dC (fun Y hY => hY) hdC1 hdC2 Tryz.sizeCh) (by assumption) ?_
        (try simp only [Act.put, putS])
        refine wpAnyH_take (i := 3) (v := ?bv3) rfl (by kernel_rfl) (by kernel_rfl) (by kernel_rfl) (fun _ _ _ h => h) (Or.inl ⟨by rfl, ?by3⟩) (by assumption) ?br3
        case by3 => (intro w hSw; (try dsimp only at hSw); go_simp; try with_reducible rfl)
        (try simp only [Act.put, putS])
        refine wpAnyH_take (i := 4) (v := .agg #[.int .i64 c0, .int .i64 c1, .int .i64 c2, .int .i64 c3, .int .i64 c4, .int .i64 c5]) rfl (by kernel_rfl) (by kernel_rfl) (by kernel_rfl) (fun _ _ _ h => h) (yieldsIf_load_mid rfl _ _ rfl C5 0 rfl [.int .i64 c0, .int .i64 c1, .int .i64 c2, .int .i64 c3, .int .i64 c4, .int .i64 c5] dC (fun Y hY => hY) hdC1 hdC2 Tryz.sizeCh) (by assumption) ?_
        (try simp only [Act.put, putS])
        refine wpAnyH_ready (rs := [2]) (by kernel_rfl) (by simp) ?_
        refine AllReadyH.cons rfl (fun K hK => ?_) AllReadyH.nil
        rw [if_pos (by rfl)]
        go_wp2_with fail
        refine (aapply_any b wb mb n (2 + 2 * i) ov D N N' X Z' ⟨c0, c1, c2, c3, c4, c5⟩ r _ (A5.out.below ((Below.refl _ _).drew)) HGX.out HST.out HCJ.out (by have := HI40.out; omega) (by have := HI40.out; have := HNI.out; omega)).mono ?_
        rintro e w6 ⟨n6, ov6, D6, X6, rfl, ha6, hx6, hn6, ht6⟩
        have T6 := hid ((Tr.below (R := AtR b wb mb) ((Below.refl w5.heap.size w5).drew)).trans ht6)
        have A6 := hid ha6
        have HX6 := hid hx6
        have HN6 := hid hn6
        have R6 := hid (R5.out.away A5.out.m T6.out)
        have C6 := hid ((T6.out.block C5 (lt_of_block HC5.out) (A5.out.m.nob HC5.out (by decide) (by decide))).trans HC5.out)
        clear ha6 hx6 hn6 ht6
        refine hK.out _ _ (HSW.out _ C6.out) (fun hHeld => ?_)
        try clear hK K
        (try simp only [Act.put, putS])
        refine wpAnyH_ready (rs := [5]) (by kernel_rfl) (by simp) ?_
        refine AllReadyH.cons rfl (fun K hK => ?_) AllReadyH.nil
        rw [if_pos (by rfl)]
        go_wp2_with fail
        refine (rapply_any xb (2 + 2 * i) rv sv N N' Y Z' ⟨c0, c1, c2, c3, c4, c5⟩ r _ R6.out HGY.out (by rw [HYX.out]; exact HST.out) (by have := HI40.out; omega)).mono ?_
        rintro e w7 ⟨rv7, sv7, Y7, rfl, hr7, hy7, ht7⟩
        have R7 := hid hr7
        have HY7 := hid hy7
        have A7 := hid (A6.out.away R6.out.box ht7)
        have C7 : Hid (w7.heap[C5]? = some (.cells #[.int .i64 c0, .int .i64 c1, .int .i64 c2, .int .i64 c3, .int .i64 c4, .int .i64 c5] 51 (0, 0))) := hid ((ht7.block C5 (lt_of_block C6.out) (fun e => by
          have e' : C5 = xb := e
          have h1 := C6.out
          rw [e', R6.out.box] at h1
          cases h1)).trans C6.out)
        have T7 := hid ht7
        clear hr7 hy7 ht7
        refine hK.out _ _ (HSW.out _ C7.out) (fun hHeld => ?_)
        try clear hK K
        (try simp only [Act.put, putS])
        refine wpAnyH_take (i := 6) (v := ?dv6) rfl (by kernel_rfl) (by kernel_rfl) (by kernel_rfl) (fun _ _ _ h => h) (Or.inl ⟨by rfl, ?dy6⟩) (by assumption) ?dr6
        case dy6 => (intro w hSw; (try dsimp only at hSw); go_simp; try with_reducible rfl)
        (try simp only [Act.put, putS])
        refine wpAnyH_done (by kernel_rfl) ?_ _
        have HREL : Hid (PlI w b wb mb xb (i + 1) w7) := hid ⟨⟨n6, ov6, D6, N', X6, rv7, sv7, Y7, A7.out, R7.out, by rw [HY7.out, HX6.out], by rw [HX6.out]; exact HG2.out.mono (by omega), by have := HN6.out; have := HNI.out; omega, by rw [HX6.out]; exact HT2.out⟩, (B5.out.trans (T6.out.to HRA.out B5.out.size)).trans (T7.out.to (fun q hq => by have e : q = xb := hq; rw [e]; exact HRX.out) (Nat.le_trans B5.out.size T6.out.size)), HRA.out, HRX.out⟩
        go_wp2_with fail
        go_roundw
        case rel => exact ⟨i + 1, by go_num, by omega, by omega, HREL.out⟩
        case measure => simp [intOf]; omega
    · go_wp2_with fail
      go_ret3
      exact HFIN.out
end Go.Proofs.YtmocedkbabnpfaaGreat
namespace Go.Proofs.YtmocedkbabnpfaaGreat
open Go.RowKit Go.Maps Go.Shelf
set_option linter.unusedVariables false
set_option linter.unusedSimpArgs false

theorem ain_of {B : Nat} {N : AtN} {X : List SX} (g : Gd B N (X.map (·.s))) (hB : B ≤ 1000) : AIn N X := by
  have hm : ∀ x ∈ X, x.s ∈ X.map (·.s) := fun x hx => List.mem_map.2 ⟨x, hx, rfl⟩
  refine ⟨(chn_d X 0 N.bl).2 g.ch, fun x hx => ⟨?_, ?_, fun o ho => ?_⟩, fun x hx => ?_, one_of (ne_map g.ne), ?_, ?_, ?_⟩
  · have := mem7 (g.mb x.s (hm x hx)); omega
  · have := (g.pa x.s (hm x hx)).1; omega
  · have := mem7 ((g.pa x.s (hm x hx)).2 o ho); omega
  · have := g.id x.s (hm x hx); have := g.nx; omega
  · have := g.len; rw [List.length_map] at this; omega
  · have := g.opl; omega
  · have := g.bl; omega
end Go.Proofs.YtmocedkbabnpfaaGreat
namespace Go.Proofs.YtmocedkbabnpfaaGreat
open Go.RowKit Go.Shelf

theorem wrap_subP (s t : Int) (h : s < t) (hs : I64 s) (ht : I64 t) : IntKind.u64.wrap (IntKind.u64.wrap t - IntKind.u64.wrap s) = t - s := by
  have hw : ∀ n : Int, IntKind.u64.wrap n = n % 18446744073709551616 := fun n => by simp [IntKind.wrap, IntKind.signed, IntKind.bits]
  rw [hw, hw, hw]
  obtain ⟨h1, h2⟩ := hs
  obtain ⟨h3, h4⟩ := ht
  omega
theorem wrap_u (m : Int) (h0 : 0 ≤ m) (h1 : m ≤ 18446744073709551615) : IntKind.u64.wrap m = m := by
  have hw : ∀ n : Int, IntKind.u64.wrap n = n % 18446744073709551616 := fun n => by simp [IntKind.wrap, IntKind.signed, IntKind.bits]
  rw [hw]; omega
set_option maxHeartbeats 800000 in
theorem sizeP_any (s t : Int) (w : World) (h : s < t) (hs : I64 s) (ht : I64 t) :
    Calls Tryz.prog 76 #[.agg #[.int .i64 s, .int .i64 t]] w fun e w' => e = .returned (.int .u64 (t - s)) ∧ Below w.heap.size w w' := by
  have hw := wrap_subP s t h hs ht
  have HB := hid ((Below.refl w.heap.size w).alloc (Nat.le_refl _) (.cells #[.int .i64 s, .int .i64 t] 24))
  clear h hs ht
  go_enter Tryz.func76, Tryz.ntmps76
  go_wp2_with fail
  go_ret
  exact ⟨rfl, HB.out⟩
theorem quo_u (n m : Int) (h0 : 0 ≤ n) (h1 : n ≤ 18446744073709551615) (hm : 1 ≤ m) : IntKind.u64.wrap (n.tdiv m) = n / m := by
  rw [Int.tdiv_eq_ediv_of_nonneg h0]
  have a := Int.ediv_nonneg h0 (show 0 ≤ m by omega)
  have b := Int.ediv_le_self m h0
  exact wrap_u _ a (by omega)
/-- The first i pieces of m blocks from f on. -/
def pcs0 (f m : Int) : Nat → List Sp
  | 0 => []
  | i + 1 => pcs0 f m i ++ [(f + i * m, f + (i + 1 : Nat) * m)]
theorem pcs0_len (f m : Int) (i : Nat) : (pcs0 f m i).length = i := by
  induction i with
  | zero => rfl
  | succ i ih => simp [pcs0, ih]
/-- How many whole pieces there are ahead of the last one. -/
structure PcQ (f t m : Int) (q : Nat) : Prop where
  lo : (q : Int) * m < t - f
  hi : t - f ≤ (q : Int) * m + m
theorem PcQ.of {f t m : Int} (h : f < t) (hm : 1 ≤ m) : PcQ f t m ((t - f - 1) / m).toNat := by
  have h0 : 0 ≤ (t - f - 1) / m := Int.ediv_nonneg (by omega) (by omega)
  have e := Int.mul_ediv_add_emod (t - f - 1) m
  have r1 := Int.emod_nonneg (t - f - 1) (show m ≠ 0 by omega)
  have r2 := Int.emod_lt_of_pos (t - f - 1) (show 0 < m by omega)
  have c : (((t - f - 1) / m).toNat : Int) * m = m * ((t - f - 1) / m) := by rw [Int.toNat_of_nonneg h0, Int.mul_comm]
  exact ⟨by omega, by omega⟩
theorem PcQ.at {f t m : Int} {q : Nat} (_ : PcQ f t m q) (hm : 1 ≤ m) (i : Nat) (hi : i ≤ q) : (i : Int) * m ≤ (q : Int) * m ∧ 0 ≤ (i : Int) * m ∧ (i < q → (i : Int) * m + m ≤ (q : Int) * m) := by
  refine ⟨Int.mul_le_mul_of_nonneg_right (by omega) (by omega), Int.mul_nonneg (by omega) (by omega), fun hl => ?_⟩
  have := Int.mul_le_mul_of_nonneg_right (show ((i + 1 : Nat) : Int) ≤ (q : Int) by omega) (show 0 ≤ m by omega)
  rw [Int.natCast_add, Int.add_mul] at this
  simpa using this
theorem next_mul (f m : Int) (i : Nat) : f + ((i + 1 : Nat) : Int) * m = f + (i : Int) * m + m := by
  rw [Int.natCast_add, Int.add_mul]; simp; omega
set_option maxRecDepth 100000 in
set_option maxHeartbeats 4000000 in
theorem pieces_some (f t m : Int) (w : World) (hf : I64 f) (ht : I64 t) (hm : I64 m) (h1 : f < t) (h2 : 1 ≤ m) (q : Nat) (hq : q = ((t - f - 1) / m).toNat) (h3 : q < 4096) :
    Calls Tryz.prog 31 #[.agg #[.int .i64 f, .int .i64 t], .int .i64 m] w fun e w' => ∃ va vc, e = .returned (.slice va (q + 1) vc) ∧ OwnS w' w.heap.size (.slice va (q + 1) vc) (pcs0 f m q ++ [(f + q * m, t)]) ∧ Below w.heap.size w w' := by
  have HPQ : Hid (PcQ f t m q) := hid (by rw [hq]; exact PcQ.of h1 h2)
  have HB := hid ((Below.refl w.heap.size w).alloc (Nat.le_refl _) (.cells #[.int .i64 f, .int .i64 t] 24))
  have hd : decide (t ≤ f) = false := decide_eq_false (by omega)
  have hd2 : decide (m < 1) = false := decide_eq_false (by omega)
  have HS := hid h1
  have HF := hid hf
  have HT := hid ht
  have HM := hid h2
  have wm : IntKind.u64.wrap m = m := wrap_u m (by omega) (by have := hm.2; omega)
  have w1' : IntKind.u64.wrap (t - f - 1) = t - f - 1 := wrap_u _ (by omega) (by have := hf.1; have := ht.2; omega)
  have hmz : 1 ≤ m := h2
  have h0 : 0 ≤ (t - f - 1) / m := Int.ediv_nonneg (by omega) (by omega)
  have wq : IntKind.u64.wrap ((t - f - 1).tdiv m) = (q : Int) := by rw [hq, Int.toNat_of_nonneg h0]; exact quo_u _ _ (by omega) (by have := hf.1; have := ht.2; omega) (by omega)
  have hd3 : decide (4096 ≤ (q : Int)) = false := decide_eq_false (by omega)
  clear hf ht hm h1 h2 hq h0
  go_enter Tryz.func31, Tryz.ntmps31
  go_wp2_with (first | (go_at_call 75; refine (empty_any (f, t) _).mono ?_; rintro e w1 ⟨rfl, hw1⟩; simp only [hd]; have h1 : w1.heap[w.heap.size]? = some (.cells #[.int .i64 f, .int .i64 t] 24 (0, 0)) := (by rw [hw1, Below.heap_alloc _ _ _ (by simp)]; exact heap_alloc_new _ _); have b1 : Below w.heap.size w w1 := (by rw [hw1]; exact HB.out.alloc HB.out.size _); have H1 := hid h1; have B1 := hid b1; have c0 : w1.cell? ⟨w.heap.size, 0, none⟩ = some (.int .i64 f) := (by rw [cell_of_row _ _ _ _ _ _ h1]; rfl); have c1 : w1.cell? ⟨w.heap.size, 1, none⟩ = some (.int .i64 t) := (by rw [cell_of_row _ _ _ _ _ _ h1]; rfl); clear hw1 h1 b1) | (go_at_call 76; refine (sizeP_any f t _ HS.out HF.out HT.out).mono ?_; rintro e w2 ⟨rfl, hb2⟩; have B2 := hid hb2; clear hb2))
  have X2 : Hid (w2.heap[w.heap.size]? = some (.cells #[.int .i64 f, .int .i64 t] 24 (0, 0))) := hid (by rw [B2.out.block _ (lt_of_block H1.out)]; exact H1.out)
  have BB2 := hid (B1.out.trans (B2.out.mono B1.out.size))
  obtain ⟨b, hb⟩ : ∃ b, b = w.heap.size := ⟨_, rfl⟩
  rw [← hb] at X2 ⊢
  have hbl : b < w2.heap.size := lt_of_block X2.out
  have HBW : Hid (w.heap.size ≤ b) := hid (by omega)
  clear hb c0 c1 H1 B1 B2 HB w1' hmz wq hd3 hd hd2
  go_wp2_with fail
  go_loopw [5, 6] (fun pv _ wr => ∃ (i : Nat) (va : Option Addr) (vc : Nat) (p : List Sp), pv = .slice va p.length vc ∧ i ≤ q ∧ p = pcs0 f m i ∧ wr.heap[b]? = some (.cells #[.int .i64 (f + i * m), .int .i64 t] 24 (0, 0)) ∧ OwnS wr w2.heap.size (.slice va p.length vc) p ∧ w2.grownBy wr (some b)) (fun pv _ _ => q - (match pv with | .slice _ n _ => n | _ => 0))
  case atStart => exact ⟨0, none, 0, [], rfl, Nat.zero_le _, rfl, by simpa using X2.out, OwnS.nil _ _, World.grownBy.refl _ _⟩
  case round =>
    obtain ⟨i, va, vc, p, rfl, hi, hp, hx, ho, hg⟩ := hrel
    have HP := hid hp
    have HX := hid hx
    have HO := hid ho
    have HG := hid hg
    have hsz := hg.size
    have hpl : p.length = i := by rw [hp, pcs0_len]
    have HPL := hid hpl
    obtain ⟨a1, a2, a3⟩ := HPQ.out.at HM.out i hi
    have q1 := HPQ.out.lo
    have q2 := HPQ.out.hi
    have HNX := hid (next_mul f m i)
    obtain ⟨c, hc⟩ : ∃ c, c = f + (i : Int) * m := ⟨_, rfl⟩
    have hxb : wr.heap[b]? = some (.cells #[.int .i64 c, .int .i64 t] 24 (0, 0)) := by rw [hc]; exact hx
    have x0 : wr.cell? ⟨b, 0, none⟩ = some (.int .i64 c) := by rw [cell_of_row _ _ _ _ _ _ hxb]; rfl
    have x1 : wr.cell? ⟨b, 1, none⟩ = some (.int .i64 t) := by rw [cell_of_row _ _ _ _ _ _ hxb]; rfl
    have HXB := hid hxb
    have hct : c < t := by omega
    have hcI : I64 c := ⟨by have := HF.out.1; omega, by have := HT.out.2; omega⟩
    have HCT := hid hct
    have HCI := hid hcI
    have HCC := hid hc
    rw [← hc] at HNX
    by_cases hlt : i < q
    · have hcm : decide (m < t - c) = true := decide_eq_true (by have := a3 hlt; omega)
      have wcm : IntKind.i64.wrap (c + m) = c + m := IntWalk.i64_in _ ⟨by have := HF.out.1; have := HM.out; omega, by have := a3 hlt; have := HT.out.2; omega⟩
      have HNP : Hid (pcs0 f m (i + 1) = p ++ [(c, c + m)]) := hid (by rw [pcs0, HP.out, HNX.out, HCC.out])
      clear hp hx ho hg hpl a1 a2 a3 q1 q2 hc hxb hct hcI
      go_wp2_with fail
      refine (sizeP_any c t _ HCT.out HCI.out HT.out).mono ?_
      rintro e w5 ⟨rfl, hb5⟩
      have O5 := hid (HO.out.below hb5)
      have G5 := hid (HG.out.trans (grown_of_below hb5 _))
      have hx5 := (hb5.block b (by omega)).trans HXB.out
      have c0 : w5.cell? ⟨b, 0, none⟩ = some (.int .i64 c) := by rw [cell_of_row _ _ _ _ _ _ hx5]; rfl
      have HX5 := hid hx5
      have hs5 : w2.heap.size ≤ w5.heap.size := Nat.le_trans hsz hb5.size
      have OX := hid (O5.out.below ((Below.refl _ _).alloc (Nat.le_refl _) (.cells #[.int .i64 c, .int .i64 (c + m)] 24)))
      have PX := hid (sps_one (heap_alloc_new w5 (.cells #[.int .i64 c, .int .i64 (c + m)] 24)))
      have hsX : w2.heap.size ≤ (w5.alloc (.cells #[.int .i64 c, .int .i64 (c + m)] 24)).heap.size := Nat.le_trans hs5 (by simp)
      have hpl2 : p.length ≤ 4096 := by have := HPL.out; omega
      clear hb5 hx5 x0 x1
      go_wp2_with (at_builtin; refine wpl_appendS rfl (.tmp 31) (.tmp 36) rfl w2.heap.size (.slice va p.length vc) p rfl OX.out _ [(c, c + m)] rfl PX.out (by simp only [List.length_singleton]; omega) hsX ?_; intro va7 vc7 w7 ho7 hg7; have O7 := hid ho7; have B7 := hid (belowS_grown OX.out hg7 hsX); have X7 : Hid (w7.heap[b]? = some (.cells #[.int .i64 c, .int .i64 t] 24 (0, 0))) := hid (by rw [B7.out.block b hbl, Below.heap_alloc _ _ _ (by omega)]; exact HX5.out); have c7 : w7.cell? ⟨b, 0, none⟩ = some (.int .i64 c) := (by rw [cell_of_row _ _ _ _ _ _ X7.out]; rfl); have f7 : w7.frozen? ⟨b, 0, none⟩ = false := (by simp [World.frozen?, X7.out]); have K7 := hid hg7; clear ho7 hg7)
      have X8 := heap_setCell_same w7 b 0 _ _ (.int .i64 (c + m)) X7.out
      have G7 : w2.grownBy w7 (some b) := (G5.out.trans (World.grownBy_alloc w5 _ _)).andThen K7.out fun k e => by
        have := (World.ownsRow.lt OX.out k e).1; exact .inl this
      refine ⟨⟨i + 1, va7, vc7, p ++ [(c, c + m)], by simp, by omega, HNP.out.symm, ?_, ?_, G7.trans (grownBy_setCell' w7 b _)⟩, ?_⟩
      · rw [HNX.out]; exact X8
      · have := O7.out.kept (w' := w7.setCell ⟨b, 0, none⟩ (.int .i64 (c + m))) fun k hk _ => Below.heap_setCell w7 ⟨b, 0, none⟩ _ k (by simp; omega)
        simpa using this
      · have := HPL.out; simp only; omega
    · have hcm : decide (m < t - c) = false := decide_eq_false (by
        have : i = q := by omega
        subst this; omega)
      have hiq : i = q := by omega
      have HIQ := hid hiq
      clear hp hx ho hg hpl a1 a2 a3 q1 q2 hc hxb hct hcI hiq
      go_wp2_with fail
      refine (sizeP_any c t _ HCT.out HCI.out HT.out).mono ?_
      rintro e w5 ⟨rfl, hb5⟩
      have O5 := hid (HO.out.below hb5)
      have G5 := hid (HG.out.trans (grown_of_below hb5 _))
      have hx5 := (hb5.block b (by omega)).trans HXB.out
      have c0 : w5.cell? ⟨b, 0, none⟩ = some (.int .i64 c) := by rw [cell_of_row _ _ _ _ _ _ hx5]; rfl
      have c1 : w5.cell? ⟨b, 1, none⟩ = some (.int .i64 t) := by rw [cell_of_row _ _ _ _ _ _ hx5]; rfl
      have hs5 : w2.heap.size ≤ w5.heap.size := Nat.le_trans hsz hb5.size
      have OX := hid (O5.out.below ((Below.refl _ _).alloc (Nat.le_refl _) (.cells #[.int .i64 c, .int .i64 t] 24)))
      have PX := hid (sps_one (heap_alloc_new w5 (.cells #[.int .i64 c, .int .i64 t] 24)))
      have hsX : w2.heap.size ≤ (w5.alloc (.cells #[.int .i64 c, .int .i64 t] 24)).heap.size := Nat.le_trans hs5 (by simp)
      have hpl2 : p.length ≤ 4096 := by have := HPL.out; omega
      clear hb5 hx5 x0 x1
      go_wp2_with (at_builtin; refine wpl_appendS rfl (.tmp 40) (.tmp 42) rfl w2.heap.size (.slice va p.length vc) p rfl OX.out _ [(c, t)] rfl PX.out (by simp only [List.length_singleton]; omega) hsX ?_; intro va7 vc7 w7 ho7 hg7; have O7 := hid ho7; have K7 := hid hg7; clear ho7 hg7)
      go_ret
      have G7 : w2.grownBy w7 (some b) := (G5.out.trans (World.grownBy_alloc w5 _ _)).andThen K7.out fun k e => by
        have := (World.ownsRow.lt OX.out k e).1; exact .inl this
      have e1 : p.length + 1 = q + 1 := by have := HPL.out; have := HIQ.out; omega
      have e2 : p ++ [(c, t)] = pcs0 f m q ++ [(f + (q : Int) * m, t)] := by rw [HP.out, HCC.out, HIQ.out]
      have o7 := O7.out
      simp only [List.length_singleton] at o7
      rw [e1, e2] at o7
      refine ⟨va7, vc7, ?_, o7.lower BB2.out.size, BB2.out.grown G7 BB2.out.size fun k e => by cases e; exact HBW.out⟩
      show Ending.returned (.slice va7 (p.length + 1) vc7) = _
      rw [e1]
end Go.Proofs.YtmocedkbabnpfaaGreat
namespace Go.Proofs.YtmocedkbabnpfaaGreat
open Go.RowKit Go.Maps Go.Shelf
set_option linter.unusedVariables false
set_option linter.unusedSimpArgs false

/-- What two spans have in common. -/
def mtD (a s : Sp) : List Sp := if max a.1 s.1 < min a.2 s.2 then [(max a.1 s.1, min a.2 s.2)] else []
/-- A span in pieces of 16 blocks. -/
def pcsD (p : Sp) : List Sp := pcs0 p.1 16 ((p.2 - p.1 - 1) / 16).toNat ++ [(p.1 + (((p.2 - p.1 - 1) / 16).toNat : Int) * 16, p.2)]
def pcA (s : Sp) (l : List Sp) : List Sp := l.flatMap fun a => (mtD a s).flatMap pcsD
theorem pcA_snoc (s : Sp) (l : List Sp) (a : Sp) : pcA s (l ++ [a]) = pcA s l ++ (mtD a s).flatMap pcsD := by simp [pcA]
theorem inL_one (x : Sp) (k : Int) : InL [x] k ↔ (x.1 ≤ k ∧ k < x.2) := by simp [InL]
theorem mt_plain (a s : Sp) : PlainL (mtD a s) ∧ ∀ k, InL (mtD a s) k ↔ (InL [a] k ∧ InL [s] k) := by
  unfold mtD
  split
  · rename_i h
    refine ⟨⟨fun x hx => ?_, List.pairwise_singleton _ _⟩, fun k => ?_⟩
    · rw [List.mem_singleton.1 hx]; exact h
    · rw [inL_one, inL_one, inL_one]
      show (max a.1 s.1 ≤ k ∧ k < min a.2 s.2) ↔ _
      omega
  · rename_i h
    refine ⟨⟨fun x hx => (by cases hx), List.Pairwise.nil⟩, fun k => ?_⟩
    rw [inL_one, inL_one]
    constructor
    · rintro ⟨x, hx, -⟩; cases hx
    · intro hk; exact absurd hk (by omega)
theorem mt_of {a s : Sp} {r : List Sp} (h : MeetOf [a] [s] r) : r = mtD a s :=
  plain_unique h.plain (mt_plain a s).1 fun k => by rw [h.mem, (mt_plain a s).2]
end Go.Proofs.YtmocedkbabnpfaaGreat
namespace Go.Proofs.YtmocedkbabnpfaaGreat
open Go.RowKit Go.Maps Go.Shelf
set_option linter.unusedVariables false
set_option linter.unusedSimpArgs false

theorem rowSpA : RowT 29 24 (.agg #[.int .i64 0, .int .i64 0]) 2 16 := ⟨by kernel_rfl, by kernel_rfl, rfl, by decide, by decide⟩
theorem mt_in {a s z : Sp} (ha : 0 ≤ a.1 ∧ a.2 ≤ 256) (hz : z ∈ mtD a s) : 0 ≤ z.1 ∧ z.1 < z.2 ∧ z.2 ≤ 256 := by
  unfold mtD at hz
  split at hz
  · rename_i h
    rw [List.mem_singleton.1 hz]
    show 0 ≤ max a.1 s.1 ∧ max a.1 s.1 < min a.2 s.2 ∧ min a.2 s.2 ≤ 256
    omega
  · cases hz
theorem mt_len (a s : Sp) : (mtD a s).length ≤ 1 := by unfold mtD; split <;> simp
theorem flatOne (l : List Sp) : ∀ u ∈ flat l, u.oneCell' = true := by
  intro u hu
  simp only [flat, List.mem_flatMap] at hu
  obtain ⟨x, -, hx⟩ := hu
  simp [spc] at hx
  rcases hx with rfl | rfl <;> rfl
theorem pcs0_le (f m : Int) (i : Nat) : (pcs0 f m i).length = i := pcs0_len f m i
theorem pcs_len16 {z : Sp} (h : 0 ≤ z.1 ∧ z.1 < z.2 ∧ z.2 ≤ 256) : (pcsD z).length ≤ 17 := by
  unfold pcsD
  rw [List.length_append, pcs0_len]
  simp
  omega
theorem pcA_len (s : Sp) (l : List Sp) (h : ∀ a ∈ l, 0 ≤ a.1 ∧ a.2 ≤ 256) : (pcA s l).length ≤ 17 * l.length := by
  induction l with
  | nil => simp [pcA]
  | cons a l ih =>
    have h1 := ih fun b hb => h b (by simp [hb])
    have h2 : ((mtD a s).flatMap pcsD).length ≤ 17 := by
      have hl := mt_len a s
      match hm : mtD a s with
      | [] => simp
      | [z] =>
        have hz := mt_in (z := z) (h a (by simp)) (by rw [hm]; simp)
        have := pcs_len16 hz
        simpa using this
      | _ :: _ :: _ => rw [hm] at hl; simp at hl
    have e : pcA s (a :: l) = (mtD a s).flatMap pcsD ++ pcA s l := rfl
    rw [e, List.length_append, List.length_cons]
    omega
def pcSp (p : Pc) : Sp := (p.1, p.2.1)
/-- Under way: what has come is in pieces. -/
structure PJ (w5 : World) (B5 : Nat) (Q : List Sp) (W : World) : Prop where
  grown : w5.grownBy W (some B5)
  row : ∃ (va : Option Addr) (vc : Nat), W.heap[B5]? = some (.cells #[.slice va Q.length vc] 29 (0, 0)) ∧ OwnS W w5.heap.size (.slice va Q.length vc) Q
theorem PJ.turned {w5 U V : World} {B5 : Nat} {Q : List Sp} {row : Option Nat} (h : PJ w5 B5 Q U) (hg : U.grownBy V row) (hr : ∀ r, row = some r → w5.heap.size ≤ r ∧ ∃ o : Obj, U.heap[r]? = some o ∧ o.isCells = false) : PJ w5 B5 Q V := by
  obtain ⟨va, vc, h2, h3⟩ := h.row
  have hk : ∀ (q : Nat) (cs : Array Value) (t : TypeId) (fr : Nat × Nat), U.heap[q]? = some (.cells cs t fr) → V.heap[q]? = U.heap[q]? := fun q cs t fr hq => (cells_turnedP hq hg fun r e => (hr r e).2).trans hq.symm
  exact ⟨h.grown.andThen hg fun j e => .inl (hr j e).1, va, vc, (hk _ _ _ _ h2).trans h2, own_kept h3 fun q cs _ hh => hk q cs _ _ hh⟩
theorem PJ.below {w5 U V : World} {B5 : Nat} {Q : List Sp} (h : PJ w5 B5 Q U) (hb : Below U.heap.size U V) : PJ w5 B5 Q V := by
  obtain ⟨va, vc, h2, h3⟩ := h.row
  exact ⟨h.grown.andThen (grown_of_below hb none) (fun j e => by cases e), va, vc, (hb.block B5 (lt_of_block h2)).trans h2, own_below h3 hb⟩
theorem Tryz.sizeSpA : (Tryz.prog.info? 24).map (·.size) = some 2 := by kernel_rfl
theorem wplI_storeSp {F : Fence} {n : Nat} {ops : Array Oper} {rest : List Oper} {o : Oper} {a : Act} {w : World} {Q : Exit → Act → World → Prop} (hgd : o.guard = none) (x y : Operand) (ho : o.op = .store 24 x y)
    (g : Nat) (c0 c1 : Value) (hx : a.eval x = .pointer (some ⟨g, 0, none⟩)) (hy : a.eval y = .agg #[c0, c1]) (h0 : c0.oneCell' = true) (h1 : c1.oneCell' = true)
    (t : TypeId) (d0 d1 : Value) (hg : w.heap[g]? = some (.cells #[d0, d1] t (0, 0)))
    (h : wpListIn F n Tryz.prog ops Q rest (a.put o.dst undef) (w.setRow g #[c0, c1])) : wpListIn F n Tryz.prog ops Q (o :: rest) a w := by
  have hr := run_storeVar_row (P := Tryz.prog) w g t 24 _ #[c0, c1] hg Tryz.sizeSpA rfl (by simp [h0, h1])
  refine wpListIn_plain hgd fun K' hK' => ?_
  unfold Oper.wpIn
  refine ⟨by simp [Oper.about, ho], ?_⟩
  rw [Oper.semAt_plain F _ _ (by rw [ho]; intro c hc'; cases hc')]
  unfold execOp
  simp only [ho, hx, hy, Instr.storeAt, Instr.sureAddr, Sem.run_bind, Sem.run_pure, Result.andThen_ok, hr]
  exact hK' _ _ h
theorem wplI_allocSp {F : Fence} {n : Nat} {ops : Array Oper} {rest : List Oper} {o : Oper} {a : Act} {w : World} {Q : Exit → Act → World → Prop} (hgd : o.guard = none) (ho : o.op = .alloc 24)
    (h : wpListIn F n Tryz.prog ops Q rest (a.put o.dst (.pointer (some ⟨w.heap.size, 0, none⟩))) (w.alloc (.cells #[.int .i64 0, .int .i64 0] 24))) : wpListIn F n Tryz.prog ops Q (o :: rest) a w := by
  refine wpListIn_plain hgd fun K' hK' => ?_
  unfold Oper.wpIn
  refine ⟨by simp [Oper.about, ho], ?_⟩
  rw [Oper.semAt_plain F _ _ (by rw [ho]; intro c hc'; cases hc')]
  unfold execOp
  simp only [ho]
  go_simp
  exact hK' _ _ h
theorem sps_box {w : World} {g : Nat} {a b : Int} {t : TypeId} (h : w.heap[g]? = some (.cells #[.int .i64 a, .int .i64 b] t (0, 0))) : Sps w (.slice (some ⟨g, 0, none⟩) 1 1) [(a, b)] := by
  refine ⟨_, _, _, rfl, rfl, Nat.le_refl _, by omega, (fun h => by cases h), ?_⟩
  intro ad had j hj
  cases had
  have hj0 : j = 0 := by simp at hj; exact hj
  subst hj0
  exact ⟨by rw [Addr.add_lit, cell_of_row _ _ _ _ _ _ h]; rfl, by rw [Addr.add_lit, cell_of_row _ _ _ _ _ _ h]; rfl⟩
theorem Tryz.structSpA0 : (Tryz.prog.underlying 24).map (fun d => match d with | .struct _ | .array _ _ => true | _ => false) = some true := by kernel_rfl
theorem Tryz.rowSpA : ∃ d : TypeDesc, Tryz.prog.underlying 24 = some d ∧ d.isRow = true := by
  have h := Tryz.structSpA0
  cases hd : Tryz.prog.underlying 24 with
  | none => rw [hd] at h; cases h
  | some d =>
    rw [hd] at h
    exact ⟨d, rfl, by cases d <;> first | rfl | (simp at h)⟩
theorem wplI_loadSp {F : Fence} {n : Nat} {ops : Array Oper} {rest : List Oper} {o : Oper} {a : Act} {w : World} {Q : Exit → Act → World → Prop} (hgd : o.guard = none) (x : Operand) (ho : o.op = .load 24 x)
    (b f : Nat) (hx : a.eval x = .pointer (some ⟨b, f, none⟩)) (c0 c1 : Value) (hg : w.rangeAt b f [c0, c1])
    (h : wpListIn F n Tryz.prog ops Q rest (a.put o.dst (.agg #[c0, c1])) w) : wpListIn F n Tryz.prog ops Q (o :: rest) a w := by
  obtain ⟨d, hd1, hd2⟩ := Tryz.rowSpA
  have hr := run_loadVar_mid w b f 24 [c0, c1] d hg hd1 hd2 Tryz.sizeSpA
  refine wpListIn_plain hgd fun K' hK' => ?_
  unfold Oper.wpIn
  refine ⟨by simp [Oper.about, ho], ?_⟩
  rw [Oper.semAt_plain F _ _ (by rw [ho]; intro c hc'; cases hc')]
  unfold execOp
  simp only [ho, hx, Instr.loadAt, Instr.sureAddr, Sem.run_bind, Sem.run_pure, Result.andThen_ok, hr]
  exact hK' _ _ h
/-- Behind the loop variable: it lies in a box. -/
def AtB {P : List Pc} (Fr : Int → Int → Int → Nat → Act) (B : Nat) (x : {z : Pc // z ∈ P}) (a' : Act) (W : World) : Prop := ∃ P6, a' = Fr x.1.1 x.1.2.1 x.1.2.2 P6 ∧ W.heap[P6]? = some (.cells #[.int .i64 x.1.1, .int .i64 x.1.2.1] 24 (0, 0)) ∧ B ≤ P6
def AtH {α : Type} (Fr : α → Act) (x : α) (a' : Act) (W : World) : Prop := a' = Fr x
/-- What Pieces leaves. -/
def PsP (X : List SX) (s : Sp) (w : World) (e : Ending) (w' : World) : Prop := ∃ (va : Option Addr) (vc : Nat), e = .returned (.slice va (pcA s (X.map fun x => pcSp x.pc)).length vc) ∧ OwnS w' w.heap.size (.slice va (pcA s (X.map fun x => pcSp x.pc)).length vc) (pcA s (X.map fun x => pcSp x.pc)) ∧ Below w.heap.size w w'
set_option maxRecDepth 100000 in
set_option maxHeartbeats 8000000 in
theorem apieces_any (b wb mb n : Nat) (ov : Value) (D : DataW Value) (N : AtN) (X : List SX) (s : Sp) (w : World) (h : At w b wb mb n ov D N X) (hsp : ∀ x ∈ X, 0 ≤ x.s.fr ∧ x.s.fr < x.s.to ∧ x.s.to ≤ 256) (hl : X.length ≤ 1000) :
    Calls Tryz.prog 7 #[.pointer (some ⟨b, 0, none⟩), .agg #[.int .i64 s.1, .int .i64 s.2]] w (PsP X s w) := by
  have hnil : ∀ (B : Nat) (W : World), (binOp BinOp.eql 68 (.func (.func 72) #[] #[.pointer (some ⟨B, 0, none⟩)]) .nilFunc).run Tryz.prog W = .ok (.bool false) W := fun _ _ => by kernel_rfl
  obtain ⟨s1, s2⟩ := s
  obtain ⟨w1, hw1⟩ : ∃ w1, w1 = (w.alloc (.cells #[.int .i64 s1, .int .i64 s2] 24)).alloc (.cells #[.slice none 0 0] 29) := ⟨_, rfl⟩
  obtain ⟨hA, hB⟩ := heap_two w (.cells #[.int .i64 s1, .int .i64 s2] 24) (.cells #[.slice none 0 0] 29)
  rw [← hw1] at hA hB
  have B1 : Hid (Below w.heap.size w w1) := hid (by rw [hw1]; exact ((Below.refl _ _).alloc (Nat.le_refl _) _).alloc (by simp) _)
  have HW1 := hid hw1
  have H1 := hid (h.below B1.out)
  have HSP := hid hsp
  clear h hsp hw1
  simp only
  refine (callsIn_wide (n := 3)).1 ?_
  refine callsIn_of_wp_marks Tryz.func7 rfl trivial ?_ rfl
  simp only [Tryz.ntmps7, List.size_toArray, List.length_cons, List.length_nil, Nat.reduceAdd, Nat.reduceSub, Array.replicate_succ, Array.replicate_zero, List.push_toArray, List.append_toArray, List.nil_append, List.cons_append]
  refine wpIn_wide.2 ?_
  go_upto_region 4 with fail
  rw [← HW1.out]
  clear HW1
  have c4 : w1.cell? ⟨b, 4, none⟩ = some (.pointer (some ⟨wb, 0, none⟩)) := H1.out.m.cell 4
  obtain ⟨A3, hA3e⟩ : ∃ A, A = w.heap.size := ⟨_, rfl⟩
  obtain ⟨B5, hB5e⟩ : ∃ B, B = w.heap.size + 1 := ⟨_, rfl⟩
  rw [← hA3e] at hA
  rw [← hB5e] at hB
  rw [← hB5e, ← hA3e]
  have HA1 := hid hA
  have HB1 := hid hB
  have HBW : Hid (w.heap.size ≤ B5) := hid (by omega)
  have HAB : Hid (A3 ≠ B5) := hid (by omega)
  clear hA hB hA3e hB5e
  go_wp2_with (go_at_call 29; refine (each_any wb _).mono ?_; rintro e w5 ⟨rfl, hw5⟩; have W5 := hid hw5; clear hw5)
  have hb5 : Below w1.heap.size w1 w5 := by rw [W5.out]; exact (Below.refl _ _).alloc (Nat.le_refl _) _
  have hE5 : w5.heap[w1.heap.size]? = some (.cells #[.pointer (some ⟨wb, 0, none⟩)] 69 (0, 0)) := by rw [W5.out]; exact heap_alloc_new _ _
  have A5 := hid (H1.out.below hb5)
  have BW5 := hid (B1.out.trans (hb5.mono B1.out.size))
  have HB5 := hid ((hb5.block B5 (lt_of_block HB1.out)).trans HB1.out)
  have HA5 := hid ((hb5.block A3 (lt_of_block HA1.out)).trans HA1.out)
  have hBlt : B5 < w5.heap.size := lt_of_block HB5.out
  obtain ⟨E5, hE5e⟩ : ∃ E, E = w1.heap.size := ⟨_, rfl⟩
  rw [← hE5e] at hE5
  rw [← hE5e]
  clear hb5 W5 hE5e HA1 HB1 H1 c4 B1
  obtain ⟨ra, rc, hMr, hRow⟩ := A5.out.m.whr.at'
  obtain ⟨P, hPe⟩ : ∃ P, P = X.map SX.pc := ⟨_, rfl⟩
  rw [← hPe] at hMr hRow
  have HPE := hid hPe
  have hPl : P.length ≤ 1000 := by rw [hPe, List.length_map]; omega
  clear hPe
  have hheld := (hRow.held 0 P.length (Nat.zero_le _) (Nat.le_refl _)).2
  simp only [List.take_length, List.drop_zero] at hheld
  have hsl : sliceP ra 0 P.length rc = .slice ra P.length rc := by cases ra <;> simp [sliceP, Addr.add]
  rw [hsl] at hheld
  have hrk : ∀ k, (Value.slice ra P.length rc).ownBlock = some k → k < w5.heap.size := fun k hk => hRow.lt k hk
  have HRT0 : Hid (∀ k, (Value.slice ra P.length rc).ownBlock = some k → ∃ cs fr, w5.heap[k]? = some (.cells cs 129 fr)) := hid fun k hk => by obtain ⟨cur, hc⟩ := own_typed hRow hk; exact ⟨cur, _, hc⟩
  clear hRow hsl
  refine (wpIn_wide (n := 3)).1 ?_
  refine wpIn_rangeFunc_ownH (F := Fence.wide) rfl (by omega) (gf := 72) (lb := #[.pointer (some ⟨E5, 0, none⟩)]) rfl trivial (enters_of Tryz.func72 (by kernel_rfl) rfl)
    (eachA_stops _ (by omega) E5 wb (.slice ra P.length rc) P (by omega) w5 hE5 hMr hheld) KeptR.trans ?keptb (Below.refl _ _) (fun _ => rfl)
    (fun pre W => PJ w5 B5 (pcA (s1, s2) (pre.map fun z => pcSp z.1)) W)
    (fun _ _ _ => False) ?hI (fun _ _ _ _ _ h _ _ => h) ⟨World.grownBy.refl _ _, none, 0, HB5.out, World.ownsRow_nil _ _ _ _⟩
    (AtB ?Fr w5.heap.size)
    ?hAx ?assign ?body ?done (fun _ _ _ _ _ _ h _ => h.elim)
  case keptb =>
    intro W y o o' hy ho _ _ k hk
    have h1 := hrk k hk
    have h2 := lt_of_block ho
    refine (grownBy_putObj' W y o').block k (by omega) fun e => ?_
    have h3 : k = y := by simpa using e
    omega
  case hI =>
    intro s U V row h hg hr
    exact h.turned hg hr
  case hAx =>
    rintro x a' s U V row ⟨q, h1, h2, h3⟩ hg hr
    exact ⟨q, h1, (cells_turnedP h2 hg fun r e => (hr r e).2), h3⟩
  case assign =>
    intro y pre x W K h hK
    obtain ⟨⟨f, t, v⟩, hx⟩ := x
    unfold eachV
    simp only
    gi_wp2_with (refine wplI_allocSp rfl rfl ?_)
    have hr := run_storeVar_row (P := Tryz.prog) (W.alloc (.cells #[.int .i64 0, .int .i64 0] 24)) W.heap.size _ 24 _ #[.int .i64 f, .int .i64 t] (heap_alloc_new _ _) Tryz.sizeSpA rfl (by simp [Value.oneCell'])
    rw [Oper.semAt_some _ _ _ (by intro c hc; cases hc)]
    simp [execOp, Act.eval, Instr.storeAt, Instr.sureAddr, Result.andThen_ok, hr, Oper.uponIn]
    clear hr
    gi_wp2
    have hb : Below W.heap.size W ((W.alloc (.cells #[.int .i64 0, .int .i64 0] 24)).setRow W.heap.size #[.int .i64 f, .int .i64 t]) := below_row ((Below.refl _ _).alloc (Nat.le_refl _) _) (Nat.le_refl _) _
    have hrow : ((W.alloc (.cells #[.int .i64 0, .int .i64 0] 24)).setRow W.heap.size #[.int .i64 f, .int .i64 t]).heap[W.heap.size]? = some (.cells #[.int .i64 f, .int .i64 t] 24 (0, 0)) := setRow_heap _ _ _ _ _ _ (heap_alloc_new _ _)
    refine hK _ _ ((show KeepsOthers W _ from ⟨hb.size, fun j o hj _ => (hb.block j (lt_of_block hj)).trans hj⟩).from _) (fun q hq => hb.block q (by have := hrk q hq; have := h.grown.size; omega)) (h.below hb) ⟨W.heap.size, ?ax, hrow, h.grown.size⟩
    case ax =>
      clear hK hb hrow
      obtain ⟨q, hq⟩ : ∃ q, q = W.heap.size := ⟨_, rfl⟩
      rw [← hq]
      simp only [Act.put]
      show _ = _
      with_reducible rfl
  case body =>
    rintro y pre ⟨p, hp⟩ a' W hy _ hSI hfr hlt'
    obtain ⟨P6, rfl, h6, hP6⟩ := hfr
    obtain ⟨x, hx, hxe⟩ := List.mem_map.1 (show p ∈ X.map SX.pc by rw [← HPE.out]; exact hp)
    have HX6 := hid (HSP.out x hx)
    have HPX : Hid (p.1 = x.s.fr ∧ p.2.1 = x.s.to) := hid (by rw [← hxe]; exact ⟨rfl, rfl⟩)
    obtain ⟨f, t, v⟩ := p
    have HPX : Hid (f = x.s.fr ∧ t = x.s.to) := HPX
    have HFT : Hid (0 ≤ f ∧ f < t ∧ t ≤ 256) := hid (by rw [HPX.out.1, HPX.out.2]; exact HX6.out)
    clear HX6 HPX hxe hx
    have HSI := hid hSI
    have hAW := (hSI.grown.block A3 (lt_of_block HA5.out) (fun e => HAB.out (by cases e; rfl))).trans HA5.out
    have HG0 : Hid (w5.heap.size ≤ W.heap.size) := hid hSI.grown.size
    have HRT : Hid (∀ k, (Value.slice ra P.length rc).ownBlock = some k → W.heap[k]? = w5.heap[k]? ∧ k < w5.heap.size) := hid fun k hk => by
      obtain ⟨cs, fr, h5⟩ := HRT0.out k hk
      exact ⟨hSI.grown.block k (lt_of_block h5) (fun e => by cases e; rw [HB5.out] at h5; cases h5), hrk k hk⟩
    have h6 : W.heap[P6]? = some (.cells #[.int .i64 f, .int .i64 t] 24 (0, 0)) := h6
    obtain ⟨w8, hw8⟩ : ∃ w8, w8 = (W.alloc (.cells #[.int .i64 f, .int .i64 t] 24)).alloc (.cells #[.int .i64 s1, .int .i64 s2] 24) := ⟨_, rfl⟩
    have hb8 : Below W.heap.size W w8 := by rw [hw8]; exact ((Below.refl _ _).alloc (Nat.le_refl _) _).alloc (by simp) _
    obtain ⟨hU, hV⟩ := heap_two W (.cells #[.int .i64 f, .int .i64 t] 24) (.cells #[.int .i64 s1, .int .i64 s2] 24)
    rw [← hw8] at hU hV
    have HMT := hid (meet_any (.slice (some ⟨W.heap.size, 0, none⟩) 1 1) (.slice (some ⟨W.heap.size + 1, 0, none⟩) 1 1) [(f, t)] [(s1, s2)] w8 (sps_box hU) (sps_box hV) (by simp) (by simp))
    have r6 : W.rangeAt P6 0 [.int .i64 f, .int .i64 t] := range_of_row h6 0 _ fun j v hv => by rw [Nat.zero_add]; simpa using hv
    have hb7 : Below W.heap.size W (W.alloc (.cells #[.int .i64 f, .int .i64 t] 24)) := (Below.refl _ _).alloc (Nat.le_refl _) _
    have r3 : (W.alloc (.cells #[.int .i64 f, .int .i64 t] 24)).rangeAt A3 0 [.int .i64 s1, .int .i64 s2] := range_of_row ((hb7.block A3 (lt_of_block hAW)).trans hAW) 0 _ fun j v hv => by rw [Nat.zero_add]; simpa using hv
    have HB8 := hid hb8
    have HW8 := hid hw8
    clear hw8 hU hV hb7 hb8 h6 hSI hAW
    simp only
    gi_wp2_with (first | (refine wplI_loadSp rfl _ rfl P6 0 rfl _ _ r6 ?_) | (refine wplI_loadSp rfl _ rfl A3 0 rfl _ _ r3 ?_) | (refine ⟨trivial, ?_⟩; gi_at_call 30; rw [← HW8.out]; refine (CallsIn.inRound y (callsIn_wide.2 HMT.out)).mono ?_; rintro e w9 ⟨met, ma, mc, hmt, rfl, ho9, hb9⟩; have HM9 := hid (mt_of hmt); have O9 := hid ho9; have B9 := hid (HB8.out.trans (hb9.mono HB8.out.size)); clear hmt ho9 hb9) | (rw [Oper.semAt_some _ _ _ (by intro c hc; cases hc)]; go_simp))
    have hml : met.length ≤ 1 := by rw [HM9.out]; exact mt_len _ _
    have HMB : Hid (∀ z ∈ met, 0 ≤ z.1 ∧ z.1 < z.2 ∧ z.2 ≤ 256) := hid fun z hz => mt_in (a := (f, t)) (s := (s1, s2)) ⟨by have := HFT.out; show (0 : Int) ≤ f; omega, by have := HFT.out; show t ≤ 256; omega⟩ (by rw [← HM9.out]; exact hz)
    have HPL : Hid ((pcA (s1, s2) (pre.map fun z => pcSp z.1)).length ≤ 900000) := hid (by
      have := pcA_len (s1, s2) (pre.map fun z => pcSp z.1) (fun a ha => by
        obtain ⟨z, -, rfl⟩ := List.mem_map.1 ha
        obtain ⟨x, hx, hxe⟩ := List.mem_map.1 (show z.1 ∈ X.map SX.pc by rw [← HPE.out]; exact z.2)
        have h1 := HSP.out x hx
        rw [← hxe]
        exact ⟨h1.1, h1.2.2⟩)
      rw [List.length_map] at this
      omega)
    gi_loopw [8, 24] (fun _ iv wr => ∃ j : Nat, iv = .int .i64 j ∧ j ≤ met.length ∧ PJ w5 B5 (pcA (s1, s2) (pre.map fun z => pcSp z.1) ++ (met.take j).flatMap pcsD) wr ∧ KeepsOthers W wr ∧ (j < met.length → Sps wr (.slice ma met.length mc) met)) (fun _ iv _ => met.length - (intOf iv).toNat)
    case atStart =>
      refine ⟨0, rfl, Nat.zero_le _, ?_, ⟨B9.out.size, fun j o hj _ => (B9.out.block j (lt_of_block hj)).trans hj⟩, fun _ => O9.out.sps⟩
      rw [List.take_zero, List.flatMap_nil, List.append_nil]
      exact HSI.out.below B9.out
    case round =>
      obtain ⟨j, rfl, hj, hpj, hko, hsm⟩ := hrel
      by_cases hlt : (j : Int) < (met.length : Int)
      · have hjl : j < met.length := by omega
        obtain rfl : j = 0 := by omega
        obtain ⟨g, o, rfl⟩ := (hsm hjl).addr (by omega)
        have hz := (hsm hjl).lit 0 hjl
        have HZB := hid (HMB.out met[0] (List.getElem_mem hjl))
        have HTK : Hid (met.take (0 + 1) = met.take 0 ++ [met[0]]) := hid (by rw [List.take_add_one, List.getElem?_eq_getElem hjl]; simp)
        obtain ⟨z, hze⟩ : ∃ z, z = met[0] := ⟨_, rfl⟩
        rw [← hze] at hz HZB HTK
        clear hze
        have hrz : wr.rangeAt g (o + 0 * 2) [.int .i64 z.1, .int .i64 z.2] := fun k u hk => by
          match k, hk with
          | 0, hk => cases hk; exact hz.1
          | 1, hk => cases hk; exact hz.2
        obtain ⟨Q, hQ⟩ : ∃ Q, Q = pcA (s1, s2) (pre.map fun z => pcSp z.1) ++ (met.take 0).flatMap pcsD := ⟨_, rfl⟩
        rw [← hQ] at hpj
        have HQE := hid hQ
        have HQL : Hid (Q.length ≤ 900000) := hid (by rw [hQ, List.take_zero, List.flatMap_nil, List.append_nil]; exact HPL.out)
        obtain ⟨va, vc, hb5r, hown⟩ := hpj.row
        obtain ⟨w10, hw10⟩ : ∃ w10, w10 = wr.alloc (.cells #[.int .i64 z.1, .int .i64 z.2] 24) := ⟨_, rfl⟩
        have hb10 : Below wr.heap.size wr w10 := by rw [hw10]; exact (Below.refl _ _).alloc (Nat.le_refl _) _
        have hp10 : w10.heap[wr.heap.size]? = some (.cells #[.int .i64 z.1, .int .i64 z.2] 24 (0, 0)) := by rw [hw10]; exact heap_alloc_new _ _
        have B10 := hid hb10
        have HW10 := hid hw10
        have PG := hid hpj.grown
        have HG10 : Hid (w5.heap.size ≤ w10.heap.size) := hid (Nat.le_trans hpj.grown.size hb10.size)
        have HB10 := hid ((hb10.block B5 (lt_of_block hb5r)).trans hb5r)
        have HBL : Hid (B5 < w10.heap.size) := hid (lt_of_block HB10.out)
        have OWN := hid (own_below hown hb10)
        have HLQ : Hid (∀ k, (Value.slice va Q.length vc).ownBlock = some k → k < wr.heap.size) := hid fun k hk => (World.ownsRow.lt hown k hk).2
        have KO10 : Hid (KeepsOthers W w10) := hid (hko.trans ⟨hb10.size, fun j o hj _ => (hb10.block j (lt_of_block hj)).trans hj⟩)
        have HP85 : Hid (wr.heap.size ≠ B5) := hid (by have := lt_of_block hb5r; omega)
        have HP10 := hid hp10
        obtain ⟨q, hq⟩ : ∃ q, q = ((z.2 - z.1 - 1) / 16).toNat := ⟨_, rfl⟩
        have HQD : Hid (pcs0 z.1 16 q ++ [(z.1 + (q : Int) * 16, z.2)] = pcsD z) := hid (by rw [hq]; rfl)
        have hq16 : q < 4096 := by have := HZB.out; omega
        have HPS := hid (fun Z => pieces_some z.1 z.2 16 Z (by have := HZB.out; constructor <;> omega) (by have := HZB.out; constructor <;> omega) (by constructor <;> omega) HZB.out.2.1 (by omega) q hq hq16)
        clear hw10 hb10 hp10 hpj hko hb5r hown hz hsm hQ hq
        gi_upto_region 9 with (first | (refine wplI_loadSp rfl _ rfl g (o + 0 * 2) (by go_simp) _ _ hrz ?_) | (rw [Oper.semAt_some _ _ _ (by intro c hc; cases hc)]; go_simp))
        rw [← HW10.out]
        clear HW10 hrz
        obtain ⟨P8, hP8⟩ : ∃ P, P = wr.heap.size := ⟨_, rfl⟩
        rw [← hP8] at HP10 HP85 HLQ ⊢
        clear hP8
        have SB : Hid (∀ Z, Below w10.heap.size w10 Z → Z.rangeAt P8 0 [.int .i64 z.1, .int .i64 z.2]) := hid fun Z hZ => range_of_row ((hZ.block P8 (lt_of_block HP10.out)).trans HP10.out) 0 _ fun j v hv => by rw [Nat.zero_add]; simpa using hv
        have c5 : w10.drew.cell? ⟨B5, 0, none⟩ = some (.slice va Q.length vc) := by show w10.cell? _ = _; rw [cell_of_row _ _ _ _ _ _ HB10.out]; rfl
        obtain ⟨dS, hdS1, hdS2⟩ := Tryz.rowSpA
        refine region_held_round (S := fun Z => Z.rangeAt P8 0 [.int .i64 z.1, .int .i64 z.2]) y (by rintro ⟨_, _, h⟩; exact h) (by kernel_rfl) (by kernel_rfl) (SB.out _ ((Below.refl _ _).drew)) (fun hHeld => ?_)
        refine wpAnyH_take (i := 1) (v := .agg #[.int .i64 z.1, .int .i64 z.2]) rfl (by kernel_rfl) (by kernel_rfl) (by kernel_rfl) (fun _ _ _ h => h) (yieldsIf_load_mid rfl _ _ rfl P8 0 rfl [.int .i64 z.1, .int .i64 z.2] dS (fun Y hY => hY) hdS1 hdS2 Tryz.sizeSpA) (by assumption) ?_
        (try simp only [Act.put, putS])
        refine wpAnyH_ready (rs := [0, 2]) (by kernel_rfl) (by simp) ?_
        refine AllReadyH.cons rfl (fun K hK => ?_) (AllReadyH.cons rfl (fun K hK => ?_) AllReadyH.nil)
        · skip
          rw [if_pos (by rfl)]
          go_simp
          refine hK.out _ _ hHeld (fun hHeld => ?_)
          clear hK K
          (try simp only [Act.put, putS])
          refine wpAnyH_ready (rs := [2]) (by kernel_rfl) (by simp) ?_
          refine AllReadyH.cons rfl (fun K hK => ?_) AllReadyH.nil
          rw [if_pos (by rfl)]
          go_wp2_with fail
          refine (HPS.out _).mono ?_
          rintro e w11 ⟨pa, pc, rfl, ho11, hb11⟩
          have B11 : Hid (Below w10.heap.size w10 w11) := hid (((Below.refl w10.heap.size w10).drew).trans hb11)
          have O11 := hid ho11
          have c5b := cell_later B11.out c5
          clear ho11 hb11
          refine hK.out _ _ (SB.out _ B11.out) (fun hHeld => ?_)
          clear hK K
          (try simp only [Act.put, putS])
          clear c5 c5b
          have OQ := hid (own_below OWN.out B11.out)
          obtain ⟨gp, rfl⟩ : ∃ gp, pa = some ⟨gp, 0, none⟩ := own_some O11.out (by simp)
          have QL : Hid ((pcs0 z.1 16 q ++ [(z.1 + (q : Int) * 16, z.2)]).length = q + 1) := hid (by simp [pcs0_len])
          have HFL : Hid ((flat (pcs0 z.1 16 q ++ [(z.1 + (q : Int) * 16, z.2)])).length = (q + 1) * 2) := hid (by rw [flat_len, QL.out])
          have YA : Hid (∀ j u, (flat (pcs0 z.1 16 q ++ [(z.1 + (q : Int) * 16, z.2)]))[j]? = some u → w11.cell? ⟨gp, j, none⟩ = some u) := hid fun j u hj => own_cell (show w11.ownsRow _ _ _ (.slice (some ⟨gp, 0, none⟩) (q + 1) pc) (q + 1) _ from by have h := O11.out; unfold OwnS at h; rw [QL.out] at h; exact h) hj
          refine wpAnyH_ready (rs := [3]) (by kernel_rfl) (by simp) ?_
          refine AllReadyH.cons rfl (fun K hK => ?_) AllReadyH.nil
          rw [if_pos (by rfl)]
          refine wp_app rowSpA _ _ rfl w5.heap.size (.slice va Q.length vc) Q.length (flat Q) rfl OQ.out gp (q + 1) pc (flat (pcs0 z.1 16 q ++ [(z.1 + (q : Int) * 16, z.2)])) rfl HFL.out YA.out (flatOne _) (by have := HQL.out; omega) (Nat.le_trans HG10.out B11.out.size) ?_
          intro va9 vc9 w12 ho12 hg12
          have O9 := hid ho12
          have G9 := hid hg12
          have b59 : w12.heap[B5]? = some (.cells #[.slice va Q.length vc] 29 (0, 0)) := (hg12.block B5 (Nat.lt_of_lt_of_le HBL.out B11.out.size) (fun e => own_ne OQ.out ((B11.out.block B5 HBL.out).trans HB10.out) (by decide) e.symm)).trans ((B11.out.block B5 HBL.out).trans HB10.out)
          have hp8 : w12.heap[P8]? = some (.cells #[.int .i64 z.1, .int .i64 z.2] 24 (0, 0)) := (hg12.block P8 (Nat.lt_of_lt_of_le (lt_of_block HP10.out) B11.out.size) (fun e => by have h1 := HLQ.out P8 e.symm; omega)).trans ((B11.out.block P8 (lt_of_block HP10.out)).trans HP10.out)
          have HB9 := hid b59
          have HP9 := hid hp8
          refine hK.out _ _ (range_of_row hp8 0 _ fun j v hv => by rw [Nat.zero_add]; simpa using hv) (fun hHeld => ?_)
          clear hK K ho12 hg12
          (try simp only [Act.put, putS])
          have k9 : w12.cell? ⟨B5, 0, none⟩ = some (.slice va Q.length vc) := by rw [cell_of_row _ _ _ _ _ _ b59]; rfl
          have f9 : w12.frozen? ⟨B5, 0, none⟩ = false := frozen_of_row _ _ _ _ _ b59
          refine wpAnyH_ready (rs := [4]) (by kernel_rfl) (by simp) ?_
          refine AllReadyH.cons rfl (fun K hK => ?_) AllReadyH.nil
          rw [if_pos (by rfl)]
          go_simp
          refine hK.out _ _ (range_of_row ((Below.heap_setCell _ _ _ _ HP85.out).trans HP9.out) 0 _ fun j v hv => by rw [Nat.zero_add]; simpa using hv) (fun hHeld => ?_)
          clear hK K k9 f9 b59 hp8 hHeld
          (try simp only [Act.put, putS])
          refine wpAnyH_done (by kernel_rfl) ?_ _
          have HREL : Hid (PJ w5 B5 (pcA (s1, s2) (pre.map fun z => pcSp z.1) ++ (met.take (0 + 1)).flatMap pcsD) (w12.setCell ⟨B5, 0, none⟩ (.slice va9 (Q.length + (q + 1)) vc9)) ∧ KeepsOthers W (w12.setCell ⟨B5, 0, none⟩ (.slice va9 (Q.length + (q + 1)) vc9))) := hid (by
            have e2 : Q ++ (pcs0 z.1 16 q ++ [(z.1 + (q : Int) * 16, z.2)]) = pcA (s1, s2) (pre.map fun z => pcSp z.1) ++ (met.take (0 + 1)).flatMap pcsD := by
              have e3 : (met.take (0 + 1)).flatMap pcsD = (met.take 0).flatMap pcsD ++ pcsD z := by rw [HTK.out, List.flatMap_append]; simp
              rw [e3, HQD.out, HQE.out, List.append_assoc]
            rw [← e2]
            refine ⟨⟨⟨?_, ?_, ?_, ?_, fun k hk hne => ?_⟩, va9, vc9, ?_, ?_⟩, ?_⟩
            · exact G9.out.os.trans (B11.out.os.trans (B10.out.os.trans PG.out.os))
            · exact G9.out.tape.trans (B11.out.tape.trans (B10.out.tape.trans PG.out.tape))
            · exact G9.out.output.trans (B11.out.output.trans (B10.out.output.trans PG.out.output))
            · exact Nat.le_trans HG10.out (Nat.le_trans B11.out.size (by simpa using G9.out.size))
            · have k1 : k < w10.heap.size := Nat.lt_of_lt_of_le hk HG10.out
              refine ((Below.heap_setCell _ _ _ _ fun e => hne (by rw [show k = B5 from e])).trans ?_)
              refine (G9.out.block k (Nat.lt_of_lt_of_le k1 B11.out.size) fun e => by have := (World.ownsRow.lt OQ.out k e.symm).1; omega).trans ?_
              exact (B11.out.block k k1).trans ((B10.out.block k (Nat.lt_of_lt_of_le hk PG.out.size)).trans (PG.out.block k hk hne))
            · rw [List.length_append, QL.out]
              exact heap_setCell_same _ _ _ _ _ _ HB9.out
            · show World.ownsRow _ _ _ _ _ _ _
              rw [List.length_append, QL.out, flat_append]
              exact own_set O9.out HB9.out (by decide)
            · have ko : KeepsOthers W w12 := (KO10.out.trans (show KeepsOthers w10 w11 from ⟨B11.out.size, fun j o hj _ => (B11.out.block j (lt_of_block hj)).trans hj⟩)).trans (KeepsOthers.of_grownBy G9.out fun j o hj hoj => by obtain ⟨cur, hc⟩ := own_typed OQ.out hj; rw [hc] at hoj; cases hoj; rfl)
              exact ko.trans (KeepsOthers.setCell _ _ _))
          generalize w12.setCell ⟨B5, 0, none⟩ (.slice va9 (Q.length + (q + 1)) vc9) = w13 at *
          gi_wp2_with (rw [Oper.semAt_some _ _ _ (by intro c hc; cases hc)]; go_simp)
          go_roundw
          case rel => exact ⟨0 + 1, by go_num, by omega, HREL.out.1, HREL.out.2, fun h => by omega⟩
          case measure =>
            have hw1 : IntKind.i64.wrap 1 = 1 := by decide
            simp [intOf, hw1]
            try omega
        · skip
          rw [if_pos (by rfl)]
          go_wp2_with fail
          refine (HPS.out _).mono ?_
          rintro e w11 ⟨pa, pc, rfl, ho11, hb11⟩
          have B11 : Hid (Below w10.heap.size w10 w11) := hid (((Below.refl w10.heap.size w10).drew).trans hb11)
          have O11 := hid ho11
          have c5b := cell_later B11.out c5
          clear ho11 hb11
          refine hK.out _ _ (SB.out _ B11.out) (fun hHeld => ?_)
          clear hK K
          (try simp only [Act.put, putS])
          have c5 := c5b
          refine wpAnyH_ready (rs := [0]) (by kernel_rfl) (by simp) ?_
          refine AllReadyH.cons rfl (fun K hK => ?_) AllReadyH.nil
          rw [if_pos (by rfl)]
          go_simp
          refine hK.out _ _ hHeld (fun hHeld => ?_)
          clear hK K
          (try simp only [Act.put, putS])
          clear c5 c5b
          have OQ := hid (own_below OWN.out B11.out)
          obtain ⟨gp, rfl⟩ : ∃ gp, pa = some ⟨gp, 0, none⟩ := own_some O11.out (by simp)
          have QL : Hid ((pcs0 z.1 16 q ++ [(z.1 + (q : Int) * 16, z.2)]).length = q + 1) := hid (by simp [pcs0_len])
          have HFL : Hid ((flat (pcs0 z.1 16 q ++ [(z.1 + (q : Int) * 16, z.2)])).length = (q + 1) * 2) := hid (by rw [flat_len, QL.out])
          have YA : Hid (∀ j u, (flat (pcs0 z.1 16 q ++ [(z.1 + (q : Int) * 16, z.2)]))[j]? = some u → w11.cell? ⟨gp, j, none⟩ = some u) := hid fun j u hj => own_cell (show w11.ownsRow _ _ _ (.slice (some ⟨gp, 0, none⟩) (q + 1) pc) (q + 1) _ from by have h := O11.out; unfold OwnS at h; rw [QL.out] at h; exact h) hj
          refine wpAnyH_ready (rs := [3]) (by kernel_rfl) (by simp) ?_
          refine AllReadyH.cons rfl (fun K hK => ?_) AllReadyH.nil
          rw [if_pos (by rfl)]
          refine wp_app rowSpA _ _ rfl w5.heap.size (.slice va Q.length vc) Q.length (flat Q) rfl OQ.out gp (q + 1) pc (flat (pcs0 z.1 16 q ++ [(z.1 + (q : Int) * 16, z.2)])) rfl HFL.out YA.out (flatOne _) (by have := HQL.out; omega) (Nat.le_trans HG10.out B11.out.size) ?_
          intro va9 vc9 w12 ho12 hg12
          have O9 := hid ho12
          have G9 := hid hg12
          have b59 : w12.heap[B5]? = some (.cells #[.slice va Q.length vc] 29 (0, 0)) := (hg12.block B5 (Nat.lt_of_lt_of_le HBL.out B11.out.size) (fun e => own_ne OQ.out ((B11.out.block B5 HBL.out).trans HB10.out) (by decide) e.symm)).trans ((B11.out.block B5 HBL.out).trans HB10.out)
          have hp8 : w12.heap[P8]? = some (.cells #[.int .i64 z.1, .int .i64 z.2] 24 (0, 0)) := (hg12.block P8 (Nat.lt_of_lt_of_le (lt_of_block HP10.out) B11.out.size) (fun e => by have h1 := HLQ.out P8 e.symm; omega)).trans ((B11.out.block P8 (lt_of_block HP10.out)).trans HP10.out)
          have HB9 := hid b59
          have HP9 := hid hp8
          refine hK.out _ _ (range_of_row hp8 0 _ fun j v hv => by rw [Nat.zero_add]; simpa using hv) (fun hHeld => ?_)
          clear hK K ho12 hg12
          (try simp only [Act.put, putS])
          have k9 : w12.cell? ⟨B5, 0, none⟩ = some (.slice va Q.length vc) := by rw [cell_of_row _ _ _ _ _ _ b59]; rfl
          have f9 : w12.frozen? ⟨B5, 0, none⟩ = false := frozen_of_row _ _ _ _ _ b59
          refine wpAnyH_ready (rs := [4]) (by kernel_rfl) (by simp) ?_
          refine AllReadyH.cons rfl (fun K hK => ?_) AllReadyH.nil
          rw [if_pos (by rfl)]
          go_simp
          refine hK.out _ _ (range_of_row ((Below.heap_setCell _ _ _ _ HP85.out).trans HP9.out) 0 _ fun j v hv => by rw [Nat.zero_add]; simpa using hv) (fun hHeld => ?_)
          clear hK K k9 f9 b59 hp8 hHeld
          (try simp only [Act.put, putS])
          refine wpAnyH_done (by kernel_rfl) ?_ _
          have HREL : Hid (PJ w5 B5 (pcA (s1, s2) (pre.map fun z => pcSp z.1) ++ (met.take (0 + 1)).flatMap pcsD) (w12.setCell ⟨B5, 0, none⟩ (.slice va9 (Q.length + (q + 1)) vc9)) ∧ KeepsOthers W (w12.setCell ⟨B5, 0, none⟩ (.slice va9 (Q.length + (q + 1)) vc9))) := hid (by
            have e2 : Q ++ (pcs0 z.1 16 q ++ [(z.1 + (q : Int) * 16, z.2)]) = pcA (s1, s2) (pre.map fun z => pcSp z.1) ++ (met.take (0 + 1)).flatMap pcsD := by
              have e3 : (met.take (0 + 1)).flatMap pcsD = (met.take 0).flatMap pcsD ++ pcsD z := by rw [HTK.out, List.flatMap_append]; simp
              rw [e3, HQD.out, HQE.out, List.append_assoc]
            rw [← e2]
            refine ⟨⟨⟨?_, ?_, ?_, ?_, fun k hk hne => ?_⟩, va9, vc9, ?_, ?_⟩, ?_⟩
            · exact G9.out.os.trans (B11.out.os.trans (B10.out.os.trans PG.out.os))
            · exact G9.out.tape.trans (B11.out.tape.trans (B10.out.tape.trans PG.out.tape))
            · exact G9.out.output.trans (B11.out.output.trans (B10.out.output.trans PG.out.output))
            · exact Nat.le_trans HG10.out (Nat.le_trans B11.out.size (by simpa using G9.out.size))
            · have k1 : k < w10.heap.size := Nat.lt_of_lt_of_le hk HG10.out
              refine ((Below.heap_setCell _ _ _ _ fun e => hne (by rw [show k = B5 from e])).trans ?_)
              refine (G9.out.block k (Nat.lt_of_lt_of_le k1 B11.out.size) fun e => by have := (World.ownsRow.lt OQ.out k e.symm).1; omega).trans ?_
              exact (B11.out.block k k1).trans ((B10.out.block k (Nat.lt_of_lt_of_le hk PG.out.size)).trans (PG.out.block k hk hne))
            · rw [List.length_append, QL.out]
              exact heap_setCell_same _ _ _ _ _ _ HB9.out
            · show World.ownsRow _ _ _ _ _ _ _
              rw [List.length_append, QL.out, flat_append]
              exact own_set O9.out HB9.out (by decide)
            · have ko : KeepsOthers W w12 := (KO10.out.trans (show KeepsOthers w10 w11 from ⟨B11.out.size, fun j o hj _ => (B11.out.block j (lt_of_block hj)).trans hj⟩)).trans (KeepsOthers.of_grownBy G9.out fun j o hj hoj => by obtain ⟨cur, hc⟩ := own_typed OQ.out hj; rw [hc] at hoj; cases hoj; rfl)
              exact ko.trans (KeepsOthers.setCell _ _ _))
          generalize w12.setCell ⟨B5, 0, none⟩ (.slice va9 (Q.length + (q + 1)) vc9) = w13 at *
          gi_wp2_with (rw [Oper.semAt_some _ _ _ (by intro c hc; cases hc)]; go_simp)
          go_roundw
          case rel => exact ⟨0 + 1, by go_num, by omega, HREL.out.1, HREL.out.2, fun h => by omega⟩
          case measure =>
            have hw1 : IntKind.i64.wrap 1 = 1 := by decide
            simp [intOf, hw1]
            try omega
      · have HJE : Hid (j = met.length) := hid (by omega)
        have HPJ := hid hpj
        have HKO := hid hko
        clear hpj hko hsm
        gi_wp2_with (rw [Oper.semAt_some _ _ _ (by intro c hc; cases hc)]; go_simp)
        refine ⟨HKO.out.from _, ?_, ?_⟩
        · intro k hk
          have h1 := HRT.out k hk
          rw [h1.1]
          refine HPJ.out.grown.block k h1.2 fun e => ?_
          cases e
          obtain ⟨cs, fr, h5⟩ := HRT0.out _ hk
          rw [HB5.out] at h5; cases h5
        · have := HPJ.out
          rw [HJE.out, List.take_length] at this
          have hA : PJ w5 B5 (pcA (s1, s2) ((pre ++ [(⟨(f, t, v), hp⟩ : {z : Pc // z ∈ P})]).map fun z => pcSp z.1)) wr := by
            rw [List.map_append, List.map_cons, List.map_nil, pcA_snoc]
            rw [HM9.out] at this
            exact this
          simpa using hA
  case done =>
    intro DD ys W hDD hys hSI hK
    have HE : (ys.map fun z => pcSp z.1) = X.map fun x => pcSp x.pc := by
      have e : (ys.map fun z => pcSp z.1) = (ys.map fun z => z.1).map pcSp := by rw [List.map_map]; rfl
      rw [e]
      have hys' : (ys.map fun z => z.1) = P := hys
      rw [hys', HPE.out, List.map_map]
      rfl
    rw [HE] at hSI
    clear hys HE
    have hDl := lt_of_block hK
    have HK := hid hK
    obtain ⟨G, hG⟩ : ∃ G, G = pcA (s1, s2) (X.map fun x => pcSp x.pc) := ⟨_, rfl⟩
    rw [← hG] at hSI
    have HGE := hid hG
    clear hG
    obtain ⟨va, vc, h2, h3⟩ := hSI.row
    have HSI := hid hSI
    have c3 : W.cell? ⟨B5, 0, none⟩ = some (.slice va G.length vc) := by rw [cell_of_row _ _ _ _ _ _ h2]; rfl
    have H3 := hid h3
    clear hSI hK h2 h3
    go_wp2_with fail
    have gp := grownBy_putObj' W DD (.deferred none)
    have rp : ∀ r, some DD = some r → w5.heap.size ≤ r ∧ ∃ o : Obj, W.heap[r]? = some o ∧ o.isCells = false := fun r e => by cases e; exact ⟨hDD, _, HK.out, rfl⟩
    have hkc : ∀ (q : Nat) (cs : Array Value) (t : TypeId) (fr : Nat × Nat), W.heap[q]? = some (.cells cs t fr) → _ = W.heap[q]? := fun q cs t fr hq => (cells_turnedP hq gp fun r e => (rp r e).2).trans hq.symm
    have C9 := HSI.out.turned gp rp
    refine ⟨by simp, .inl ⟨_, _, rfl, run_takeDeferred HK.out, _, results_tmp rfl _ _ _, va, vc, by rw [← HGE.out]; rfl, by rw [← HGE.out]; exact own_lower (own_kept H3.out fun q cs _ hh => hkc q cs _ _ hh) BW5.out.size, ?_⟩⟩
    exact ⟨C9.grown.os.trans BW5.out.os, C9.grown.tape.trans BW5.out.tape, C9.grown.output.trans BW5.out.output, Nat.le_trans BW5.out.size C9.grown.size, fun q hq => (C9.grown.block q (Nat.lt_of_lt_of_le hq BW5.out.size) (fun e => by cases e; have := HBW.out; omega)).trans (BW5.out.block q hq)⟩
end Go.Proofs.YtmocedkbabnpfaaGreat
namespace Go.Proofs.YtmocedkbabnpfaaGreat
open Go.RowKit Go.Maps Go.Shelf
set_option linter.unusedVariables false
set_option linter.unusedSimpArgs false

/-- One behind the other, from a to b. -/
def Cn : Int → List Sp → Int → Prop
  | a, [], b => a = b
  | a, x :: l, b => x.1 = a ∧ x.1 < x.2 ∧ Cn x.2 l b
theorem Cn.append : ∀ (P Q : List Sp) (a b : Int), Cn a (P ++ Q) b ↔ ∃ m, Cn a P m ∧ Cn m Q b
  | [], Q, a, b => ⟨fun h => ⟨a, rfl, h⟩, fun ⟨m, h1, h2⟩ => by have e : a = m := h1; subst e; exact h2⟩
  | x :: P, Q, a, b => by
    constructor
    · rintro ⟨h1, h2, h3⟩
      obtain ⟨m, h4, h5⟩ := (Cn.append P Q _ b).1 h3
      exact ⟨m, ⟨h1, h2, h4⟩, h5⟩
    · rintro ⟨m, ⟨h1, h2, h4⟩, h5⟩
      exact ⟨h1, h2, (Cn.append P Q _ b).2 ⟨m, h4, h5⟩⟩
theorem Cn.le : ∀ (l : List Sp) (a b : Int), Cn a l b → a ≤ b
  | [], a, b, h => by have e : a = b := h; omega
  | x :: l, a, b, ⟨h1, h2, h3⟩ => by have := Cn.le l _ b h3; omega
theorem Cn.inl : ∀ (l : List Sp) (a b : Int), Cn a l b → ∀ k, InL l k ↔ (a ≤ k ∧ k < b)
  | [], a, b, h, k => by
    have e : a = b := h
    constructor
    · rintro ⟨x, hx, -⟩; cases hx
    · intro hk; exact absurd hk (by omega)
  | x :: l, a, b, ⟨h1, h2, h3⟩, k => by
    have hl := Cn.le l _ b h3
    rw [InL_cons, Cn.inl l _ b h3 k]
    omega
theorem Cn.at : ∀ (l : List Sp) (a b : Int), Cn a l b → ∀ i (h : i < l.length), l[i].1 < l[i].2 ∧ (∀ (h0 : 0 < i), (l[i - 1]'(by omega)).2 = l[i].1) ∧ (i = 0 → l[i].1 = a)
  | [], a, b, _, i, h => by cases h
  | x :: l, a, b, ⟨h1, h2, h3⟩, i, h => by
    cases i with
    | zero => exact ⟨h2, fun h0 => absurd h0 (by omega), fun _ => h1⟩
    | succ i =>
      have hi : i < l.length := by simpa using h
      obtain ⟨k1, k2, k3⟩ := Cn.at l _ b h3 i hi
      refine ⟨k1, fun _ => ?_, fun e => by omega⟩
      cases i with
      | zero => simpa using (k3 rfl).symm
      | succ i => simpa using k2 (by omega)
theorem Cn.mem : ∀ (l : List Sp) (a b : Int), Cn a l b → ∀ x ∈ l, a ≤ x.1 ∧ x.1 < x.2 ∧ x.2 ≤ b
  | [], a, b, _, x, hx => by cases hx
  | y :: l, a, b, ⟨h1, h2, h3⟩, x, hx => by
    have hl := Cn.le l _ b h3
    rcases List.mem_cons.1 hx with rfl | hx
    · exact ⟨by omega, h2, hl⟩
    · have := Cn.mem l _ b h3 x hx
      exact ⟨by omega, this.2.1, this.2.2⟩
theorem pcs0_cn (f : Int) : ∀ i : Nat, Cn f (pcs0 f 16 i) (f + (i : Int) * 16)
  | 0 => by show f = f + ((0 : Nat) : Int) * 16; omega
  | i + 1 => by
    rw [pcs0]
    refine (Cn.append _ _ _ _).2 ⟨f + (i : Int) * 16, pcs0_cn f i, rfl, ?_, ?_⟩
    · show f + (i : Int) * 16 < f + ((i + 1 : Nat) : Int) * 16; omega
    · rfl
theorem pcs_cn {z : Sp} (h : z.1 < z.2) : Cn z.1 (pcsD z) z.2 := by
  unfold pcsD
  obtain ⟨q, hq⟩ : ∃ q, q = ((z.2 - z.1 - 1) / 16).toNat := ⟨_, rfl⟩
  rw [← hq]
  refine (Cn.append _ _ _ _).2 ⟨_, pcs0_cn z.1 q, rfl, ?_, rfl⟩
  show z.1 + (q : Int) * 16 < z.2
  omega
theorem pcs0_16 (f : Int) : ∀ i : Nat, ∀ e ∈ pcs0 f 16 i, e.2 - e.1 = 16
  | 0, e, he => by cases he
  | i + 1, e, he => by
    rw [pcs0] at he
    rcases List.mem_append.1 he with he | he
    · exact pcs0_16 f i e he
    · rw [List.mem_singleton.1 he]
      show f + ((i + 1 : Nat) : Int) * 16 - (f + (i : Int) * 16) = 16
      omega
theorem pcs_16 {z e : Sp} (h : z.1 < z.2) (he : e ∈ pcsD z) : e.2 - e.1 ≤ 16 ∧ (e.2 - e.1 = 16 ∨ e.2 = z.2) := by
  unfold pcsD at he
  obtain ⟨q, hq⟩ : ∃ q, q = ((z.2 - z.1 - 1) / 16).toNat := ⟨_, rfl⟩
  rw [← hq] at he
  rcases List.mem_append.1 he with he | he
  · have := pcs0_16 z.1 q e he; exact ⟨by omega, .inl this⟩
  · rw [List.mem_singleton.1 he]
    refine ⟨?_, .inr rfl⟩
    show z.2 - (z.1 + (q : Int) * 16) ≤ 16
    omega
/-- A chain's pieces are a chain. -/
theorem pcA_cn (s : Sp) : ∀ (A : List Sp) (a b : Int), Cn a A b → (max a s.1 < min b s.2 → Cn (max a s.1) (pcA s A) (min b s.2)) ∧ (¬ max a s.1 < min b s.2 → pcA s A = [])
  | [], a, b, h => by
    have e : a = b := h
    exact ⟨fun hh => absurd hh (by omega), fun _ => rfl⟩
  | x :: l, a, b, ⟨h1, h2, h3⟩ => by
    have hl := Cn.le l _ b h3
    obtain ⟨i1, i2⟩ := pcA_cn s l x.2 b h3
    have e : pcA s (x :: l) = (mtD x s).flatMap pcsD ++ pcA s l := rfl
    rw [e]
    by_cases hm : max x.1 s.1 < min x.2 s.2
    · have em : (mtD x s).flatMap pcsD = pcsD (max x.1 s.1, min x.2 s.2) := by unfold mtD; rw [if_pos hm]; simp
      have hc : Cn (max x.1 s.1) (pcsD (max x.1 s.1, min x.2 s.2)) (min x.2 s.2) := pcs_cn (z := (max x.1 s.1, min x.2 s.2)) hm
      rw [em]
      constructor
      · intro hh
        refine (Cn.append _ _ _ _).2 ⟨min x.2 s.2, by rw [← h1]; exact hc, ?_⟩
        by_cases hn : max x.2 s.1 < min b s.2
        · have := i1 hn
          rwa [show max x.2 s.1 = min x.2 s.2 from by omega] at this
        · rw [i2 hn]
          show min x.2 s.2 = min b s.2
          omega
      · intro hh; exact absurd hh (by omega)
    · have em : (mtD x s).flatMap pcsD = [] := by unfold mtD; rw [if_neg hm]; rfl
      rw [em, List.nil_append]
      constructor
      · intro hh
        have := i1 (by omega)
        rwa [show max x.2 s.1 = max a s.1 from by omega] at this
      · intro hh; exact i2 (by omega)
theorem pcA_mem {s e : Sp} {A : List Sp} (he : e ∈ pcA s A) : ∃ x ∈ A, x.1 ≤ e.1 ∧ e.1 < e.2 ∧ e.2 ≤ x.2 ∧ e.2 - e.1 ≤ 16 ∧ (e.2 - e.1 = 16 ∨ e.2 = x.2 ∨ e.2 = s.2) := by
  unfold pcA at he
  obtain ⟨x, hx, he⟩ := List.mem_flatMap.1 he
  obtain ⟨z, hz, he⟩ := List.mem_flatMap.1 he
  unfold mtD at hz
  split at hz
  · rename_i hm
    have e1 := List.mem_singleton.1 hz
    have hzl : z.1 < z.2 := by rw [e1]; exact hm
    have h1 := Cn.mem _ _ _ (pcs_cn hzl) e he
    have h2 := pcs_16 hzl he
    have a1 : z.1 = max x.1 s.1 := by rw [e1]
    have a2 : z.2 = min x.2 s.2 := by rw [e1]
    refine ⟨x, hx, by omega, h1.2.1, by omega, h2.1, ?_⟩
    rcases h2.2 with h | h
    · exact .inl h
    · right; omega
  · cases hz
/-- A map's shards are a chain. -/
theorem cn_of : ∀ (X : List SX) (a b : Int), ChnD a (X.map (·.s)) b → Cn a (X.map fun x => pcSp x.pc) b
  | [], a, b, h => h
  | x :: l, a, b, ⟨h1, h2, h3⟩ => ⟨h1, h2, cn_of l _ b h3⟩
theorem pcA_in {X : List SX} {bl : Int} (s : Sp) (h : ChnD 0 (X.map (·.s)) bl) (k : Int) : InL (pcA s (X.map fun x => pcSp x.pc)) k ↔ (InL [s] k ∧ InL [((0 : Int), bl)] k) := by
  obtain ⟨h1, h2⟩ := pcA_cn s _ 0 bl (cn_of X 0 bl h)
  rw [inL_one, inL_one]
  by_cases hm : max 0 s.1 < min bl s.2
  · rw [Cn.inl _ _ _ (h1 hm) k]
    show _ ↔ (s.1 ≤ k ∧ k < s.2) ∧ 0 ≤ k ∧ k < bl
    omega
  · rw [h2 hm]
    show _ ↔ (s.1 ≤ k ∧ k < s.2) ∧ 0 ≤ k ∧ k < bl
    constructor
    · rintro ⟨x, hx, -⟩; cases hx
    · intro hk; exact absurd hk (by omega)
theorem pcA_at {X : List SX} {bl : Int} (s : Sp) (h : ChnD 0 (X.map (·.s)) bl) (i : Nat) (hi : i < (pcA s (X.map fun x => pcSp x.pc)).length) :
    (∀ (h0 : 0 < i), ((pcA s (X.map fun x => pcSp x.pc))[i - 1]'(by omega)).2 = (pcA s (X.map fun x => pcSp x.pc))[i].1) ∧ ∃ x ∈ X, x.s.fr ≤ (pcA s (X.map fun x => pcSp x.pc))[i].1 ∧ (pcA s (X.map fun x => pcSp x.pc))[i].1 < (pcA s (X.map fun x => pcSp x.pc))[i].2 ∧ (pcA s (X.map fun x => pcSp x.pc))[i].2 ≤ x.s.to ∧ (pcA s (X.map fun x => pcSp x.pc))[i].2 - (pcA s (X.map fun x => pcSp x.pc))[i].1 ≤ 16 ∧ ((pcA s (X.map fun x => pcSp x.pc))[i].2 - (pcA s (X.map fun x => pcSp x.pc))[i].1 = 16 ∨ (pcA s (X.map fun x => pcSp x.pc))[i].2 = x.s.to ∨ (pcA s (X.map fun x => pcSp x.pc))[i].2 = s.2) := by
  obtain ⟨h1, h2⟩ := pcA_cn s _ 0 bl (cn_of X 0 bl h)
  have hm : max 0 s.1 < min bl s.2 := Classical.byContradiction fun hn => by rw [h2 hn] at hi; cases hi
  refine ⟨(Cn.at _ _ _ (h1 hm) i hi).2.1, ?_⟩
  obtain ⟨z, hz, k⟩ := pcA_mem (List.getElem_mem hi)
  obtain ⟨x, hx, rfl⟩ := List.mem_map.1 hz
  exact ⟨x, hx, k⟩
end Go.Proofs.YtmocedkbabnpfaaGreat
namespace Go.Proofs.YtmocedkbabnpfaaGreat
open Go.RowKit Go.Maps Go.Shelf
set_option linter.unusedVariables false
set_option linter.unusedSimpArgs false

theorem wpl_loadSpL {ops : Array Oper} {rest : List Oper} {o : Oper} {a : Act} {w : World} {Q : Exit → Act → World → Prop} (hgd : o.guard = none) (x : Operand) (ho : o.op = .load 24 x)
    (b f : Nat) (hx : a.eval x = .pointer (some ⟨b, f, none⟩)) (c0 c1 : Value) (hg : w.rangeAt b f [c0, c1])
    (h : wpList Tryz.prog ops Q rest (a.put o.dst (.agg #[c0, c1])) w) : wpList Tryz.prog ops Q (o :: rest) a w := by
  obtain ⟨d, hd1, hd2⟩ := Tryz.rowSpA
  exact wpList_load_mid hgd _ x ho b f hx [c0, c1] d hg hd1 hd2 Tryz.sizeSpA h
set_option maxRecDepth 100000 in
set_option maxHeartbeats 16000000 in
theorem atlasPieces_any (bl : Int) (L : List (ChD × Bool)) (v : Value) (s : Sp) (w : World) (hv : Stps w v L) (hj : ∀ x ∈ L, ChJ x.1) :
    Calls Tryz.prog 3 #[.int .i64 bl, v, .agg #[.int .i64 s.1, .int .i64 s.2]] w fun e w' => e = .returned (.bool true) ∧ Below w.heap.size w w' := by
  obtain ⟨s1, s2⟩ := s
  obtain ⟨sa, sc, rfl⟩ := hv.shape
  obtain ⟨w1, hw1⟩ : ∃ w1, w1 = w.alloc (.cells #[.int .i64 s1, .int .i64 s2] 24) := ⟨_, rfl⟩
  have B1 : Hid (Below w.heap.size w w1) := hid (by rw [hw1]; exact (Below.refl _ _).alloc (Nat.le_refl _) _)
  have hA1 : w1.heap[w.heap.size]? = some (.cells #[.int .i64 s1, .int .i64 s2] 24 (0, 0)) := by rw [hw1]; exact heap_alloc_new _ _
  have HW1 := hid hw1
  have HPL := hid (play_any bl L _ w1 (hv.below B1.out) hj)
  clear hv hj hw1
  simp only
  go_enter Tryz.func3, Tryz.ntmps3
  go_upto_region 1 with fail
  rw [← HW1.out]
  clear HW1
  obtain ⟨A, hA⟩ : ∃ A, A = w.heap.size := ⟨_, rfl⟩
  rw [← hA] at hA1
  rw [← hA]
  have HA1 := hid hA1
  clear hA hA1
  go_upto_region 4 with (go_at_call 6; refine HPL.out.mono ?_; rintro e w2 ⟨b, wb, mb, n, ov, D, N, X, xb, rv, sv, Yx, rfl, ha, hr, hy, hg, hn, hb, -, -, -⟩; have A0 := hid ha; have HG := hid hg; have HA2 := hid ((hb.block A (lt_of_block HA1.out)).trans HA1.out); have B2 := hid (B1.out.trans (hb.mono B1.out.size)); clear ha hr hy hg hn hb)
  clear HPL HA1 B1
  have AI := hid (ain_of HG.out (by omega))
  have HSPX : Hid (∀ x ∈ X, 0 ≤ x.s.fr ∧ x.s.fr < x.s.to ∧ x.s.to ≤ 256) := hid fun x hx => by
    have h1 := ChnD.mem _ _ _ HG.out.ch x.s (List.mem_map.2 ⟨x, hx, rfl⟩)
    have h2 := HG.out.bl
    omega
  have HXL : Hid (X.length ≤ 1000) := hid (by have := HG.out.len; rw [List.length_map] at this; omega)
  have HPC := hid (apieces_any b wb mb n ov D N X (s1, s2) w2 A0.out HSPX.out HXL.out)
  have r2 : w2.rangeAt A 0 [.int .i64 s1, .int .i64 s2] := range_of_row HA2.out 0 _ fun j v hv => by rw [Nat.zero_add]; simpa using hv
  unfold PsP at HPC
  go_upto_region 5 with (first | (refine wpl_loadSpL rfl _ rfl A 0 rfl _ _ r2 ?_) | (go_at_call 7; refine HPC.out.mono ?_; rintro e w3 ⟨ga, gc, rfl, hog, hb3⟩; have OG0 := hid hog; have HB3 := hid hb3; clear hog hb3))
  have A3 := hid (A0.out.below HB3.out)
  have HA3 := hid ((HB3.out.block A (lt_of_block HA2.out)).trans HA2.out)
  have B3 := hid (B2.out.trans (HB3.out.mono B2.out.size))
  obtain ⟨G, hG⟩ : ∃ G, G = pcA (s1, s2) (X.map fun x => pcSp x.pc) := ⟨_, rfl⟩
  have HGI : Hid (∀ k, InL G k ↔ (InL [(s1, s2)] k ∧ InL [((0 : Int), N.bl)] k)) := hid fun k => by rw [hG]; exact pcA_in (s1, s2) HG.out.ch k
  have HGT : Hid (∀ i (hi : i < G.length), (∀ (h0 : 0 < i), (G[i - 1]'(by omega)).2 = G[i].1) ∧ ∃ x ∈ X, x.s.fr ≤ G[i].1 ∧ G[i].1 < G[i].2 ∧ G[i].2 ≤ x.s.to ∧ G[i].2 - G[i].1 ≤ 16 ∧ (G[i].2 - G[i].1 = 16 ∨ G[i].2 = x.s.to ∨ G[i].2 = s2)) := hid (by subst hG; exact fun i hi => pcA_at (s1, s2) HG.out.ch i hi)
  have HGL : Hid (G.length ≤ 17000) := hid (by
    have := pcA_len (s1, s2) (X.map fun x => pcSp x.pc) (fun a ha => by
      obtain ⟨x, hx, rfl⟩ := List.mem_map.1 ha
      have h1 := HSPX.out x hx
      exact ⟨h1.1, h1.2.2⟩)
    rw [List.length_map] at this
    have h2 := HXL.out
    rw [hG]; omega)
  rw [← hG] at OG0 ⊢
  have OG : Hid (OwnS w3 w2.heap.size (.slice ga G.length gc) G) := OG0
  clear hG OG0 HPC r2 A0 HA2 B2
  have hgl : (G.length : Int) ≤ 17000 := by have := HGL.out; omega
  go_wp2_with fail
  go_loopw [11, 12, 13, 14, 15, 30] (fun _ _ _ _ _ iv wr => ∃ i : Nat, iv = .int .i64 i ∧ i ≤ G.length ∧ Below w3.heap.size w3 wr) (fun _ _ _ _ _ iv _ => G.length - (intOf iv).toNat)
  case atStart => exact ⟨0, rfl, Nat.zero_le _, Below.refl _ _⟩
  case round =>
    obtain ⟨i, rfl, hi, hbr⟩ := hrel
    have BR := hid hbr
    clear hbr
    by_cases hlt : (i : Int) < (G.length : Int)
    · have hil : i < G.length := by omega
      obtain ⟨hprev, x, hx, hx1, hx2, hx3, hx4, hx5⟩ := HGT.out i hil
      have SG := (OG.out.below BR.out).sps
      obtain ⟨g, o, rfl⟩ := SG.addr (by omega)
      have hc := SG.lit i hil
      have HPV : Hid (0 < i → wr.cell? ⟨g, o + (i - 1) * 2 + 1, none⟩ = some (.int .i64 G[i].1)) := hid fun h0 => by
        have := (SG.lit (i - 1) (by omega)).2
        rw [hprev h0] at this
        exact this
      have HCH := HG.out.ch
      have HFD := hid fun (W : World) (hW : At W b wb mb n ov D N X) => find_yes b wb mb n ov D N X G[i].1 x 0 N.bl W hW AI.out.ch hx ⟨hx1, by omega⟩ (AI.out.shb x hx) (AI.out.i64 x hx) (fun y hy e => AI.out.one x hx y hy e) (by have := AI.out.len; omega) (chn_one X 0 N.bl G[i].1 AI.out.ch)
      have hxb := HSPX.out x hx
      obtain ⟨⟨p1, p2⟩, hp⟩ : ∃ p, p = G[i] := ⟨_, rfl⟩
      rw [← hp] at hc hx1 hx2 hx3 hx4 hx5 HFD HPV
      clear hp hprev SG HCH
      simp only at hc hx1 hx2 hx3 hx4 hx5 HFD HPV
      generalize x.s = S at *
      clear hx
      have hrg : wr.rangeAt g (o + i * 2) [.int .i64 p1, .int .i64 p2] := fun k u hk => by
        match k, hk with
        | 0, hk => cases hk; exact hc.1
        | 1, hk => cases hk; exact hc.2
      clear hc
      obtain ⟨w5, hw5⟩ : ∃ w5, w5 = wr.alloc (.cells #[.int .i64 p1, .int .i64 p2] 24) := ⟨_, rfl⟩
      have hb5 : Below wr.heap.size wr w5 := by rw [hw5]; exact (Below.refl _ _).alloc (Nat.le_refl _) _
      have HP5 : Hid (w5.heap[wr.heap.size]? = some (.cells #[.int .i64 p1, .int .i64 p2] 24 (0, 0))) := hid (by rw [hw5]; exact heap_alloc_new _ _)
      have HB5 := hid hb5
      have B5 := hid (BR.out.trans (hb5.mono BR.out.size))
      have HW5 := hid hw5
      clear hw5 hb5
      go_upto_region 8 with (refine wpl_loadSpL rfl _ rfl g (o + i * 2) (by go_simp) _ _ hrg ?_)
      rw [← HW5.out]
      clear HW5 hrg
      obtain ⟨P, hP⟩ : ∃ P, P = wr.heap.size := ⟨_, rfl⟩
      rw [← hP] at HP5 ⊢
      clear hP
      have c0 : w5.cell? ⟨P, 0, none⟩ = some (.int .i64 p1) := by rw [cell_of_row _ _ _ _ _ _ HP5.out]; rfl
      go_upto_region 9 with (go_at_call 8; refine (HFD.out _ (A3.out.below B5.out)).mono ?_; rintro e w6 ⟨mv, pv, rfl, hm6, hb6⟩; obtain ⟨⟨ma, mc', rfl⟩, ⟨pa, pc, rfl⟩⟩ := hm6.shape; unfold shV; have HB6 := hid hb6; clear hm6 hb6)
      have HB9 : Hid (Below w6.heap.size w6 (w6.alloc (.cells #[.int .i64 S.id, .int .i64 S.fr, .int .i64 S.to, .slice ma S.mem.length mc', .slice pa S.past.length pc] 34))) := hid ((Below.refl _ _).alloc (Nat.le_refl _) _)
      have h13 := heap_alloc_new w6 (.cells #[.int .i64 S.id, .int .i64 S.fr, .int .i64 S.to, .slice ma S.mem.length mc', .slice pa S.past.length pc] 34)
      obtain ⟨T3, hT3⟩ : ∃ T, T = w6.heap.size := ⟨_, rfl⟩
      have B6 := hid (B5.out.trans (HB6.out.mono B5.out.size))
      have B9 := hid (B6.out.trans (HB9.out.mono B6.out.size))
      have B59 := hid (HB6.out.trans (HB9.out.mono HB6.out.size))
      rw [← hT3] at h13 ⊢
      clear hT3
      obtain ⟨w9, hw9⟩ : ∃ w9, w9 = w6.alloc (.cells #[.int .i64 S.id, .int .i64 S.fr, .int .i64 S.to, .slice ma S.mem.length mc', .slice pa S.past.length pc] 34) := ⟨_, rfl⟩
      rw [← hw9] at HB9 h13 B9 B59 ⊢
      clear hw9 c0
      have hP9 := (B59.out.block P (lt_of_block HP5.out)).trans HP5.out
      have hA9 := (B9.out.block A (lt_of_block HA3.out)).trans HA3.out
      have c0 : w9.cell? ⟨P, 0, none⟩ = some (.int .i64 p1) := by rw [cell_of_row _ _ _ _ _ _ hP9]; rfl
      have c1 : w9.cell? ⟨P, 1, none⟩ = some (.int .i64 p2) := by rw [cell_of_row _ _ _ _ _ _ hP9]; rfl
      have c2 : w9.cell? ⟨T3, 2, none⟩ = some (.int .i64 S.to) := by rw [cell_of_row _ _ _ _ _ _ h13]; rfl
      have c3 : w9.cell? ⟨A, 1, none⟩ = some (.int .i64 s2) := by rw [cell_of_row _ _ _ _ _ _ hA9]; rfl
      have BR9 := hid (HB5.out.trans (B59.out.mono HB5.out.size))
      have d1 : decide (p2 ≤ p1) = false := decide_eq_false (by omega)
      have d2 : decide (S.to < p2) = false := decide_eq_false (by omega)
      have hsub : IntKind.i64.wrap (p2 - p1) = p2 - p1 := IntWalk.i64_in _ ⟨by omega, by omega⟩
      have d3 : decide (16 < p2 - p1) = false := decide_eq_false (by omega)
      clear hP9 hA9 h13 hx1 hx2 hx3 hx4 HFD hxb B5 B6 HB5 HB6 HB9 B59 HP5 BR
      by_cases hi0 : i = 0
      · have h0g : decide ((0 : Int) < (i : Int)) = false := decide_eq_false (by omega)
        have h0n : decide (0 < i) = false := decide_eq_false (by omega)
        clear hi0 HPV BR9
        by_cases h16 : p2 - p1 = 16
        · have e1 : (p2 - p1 == 16) = true := by simp [h16]
          clear hx5 h16
          go_quiet (fail)
          go_wp2_with fail
          go_roundw
          case rel => exact ⟨i + 1, by go_num, by omega, B9.out.trans ((belowN w9 _).mono B9.out.size)⟩
          case measure => simp [intOf]; omega
        · have e1 : (p2 - p1 == 16) = false := by simpa using h16
          by_cases hto : p2 = S.to
          · have e2 : (p2 == S.to) = true := by simp [hto]
            clear hx5 h16 hto
            go_quiet (fail)
            go_wp2_with fail
            go_roundw
            case rel => exact ⟨i + 1, by go_num, by omega, B9.out.trans ((belowN w9 _).mono B9.out.size)⟩
            case measure => simp [intOf]; omega
          · have e2 : (p2 == S.to) = false := by simpa using hto
            have hs2 : p2 = s2 := by
              rcases hx5 with h | h | h
              · exact absurd h h16
              · exact absurd h hto
              · exact h
            have e3 : (p2 == s2) = true := by simp [hs2]
            clear hx5 h16 hto hs2
            go_quiet (fail)
            go_wp2_with fail
            go_roundw
            case rel => exact ⟨i + 1, by go_num, by omega, B9.out.trans ((belowN w9 _).mono B9.out.size)⟩
            case measure => simp [intOf]; omega
      · have h0g : decide ((0 : Int) < (i : Int)) = true := by apply decide_eq_true; omega
        have h0n : decide (0 < i) = true := decide_eq_true (by omega)
        have hwi : IntKind.i64.wrap ((i : Int) - 1) = ((i - 1 : Nat) : Int) := by rw [IntWalk.i64_in _ ⟨by omega, by omega⟩]; omega
        have hix : ((i - 1 : Nat) : Int) < (G.length : Int) := by omega
        have c4 : w9.cell? ⟨g, o + (i - 1) * 2 + 1, none⟩ = some (.int .i64 p1) := cell_later BR9.out (HPV.out (by omega))
        have e0 : (p1 != p1) = false := by simp
        clear hi0 HPV BR9
        by_cases h16 : p2 - p1 = 16
        · have e1 : (p2 - p1 == 16) = true := by simp [h16]
          clear hx5 h16
          go_quiet (fail)
          go_wp2_with fail
          go_roundw
          case rel => exact ⟨i + 1, by go_num, by omega, B9.out.trans ((belowN w9 _).mono B9.out.size)⟩
          case measure => simp [intOf]; omega
        · have e1 : (p2 - p1 == 16) = false := by simpa using h16
          by_cases hto : p2 = S.to
          · have e2 : (p2 == S.to) = true := by simp [hto]
            clear hx5 h16 hto
            go_quiet (fail)
            go_wp2_with fail
            go_roundw
            case rel => exact ⟨i + 1, by go_num, by omega, B9.out.trans ((belowN w9 _).mono B9.out.size)⟩
            case measure => simp [intOf]; omega
          · have e2 : (p2 == S.to) = false := by simpa using hto
            have hs2 : p2 = s2 := by
              rcases hx5 with h | h | h
              · exact absurd h h16
              · exact absurd h hto
              · exact h
            have e3 : (p2 == s2) = true := by simp [hs2]
            clear hx5 h16 hto hs2
            go_quiet (fail)
            go_wp2_with fail
            go_roundw
            case rel => exact ⟨i + 1, by go_num, by omega, B9.out.trans ((belowN w9 _).mono B9.out.size)⟩
            case measure => simp [intOf]; omega
    · clear hi hgl
      have hE : ofL G [] (keepF 0 G []) = mtD (s1, s2) (0, N.bl) := plain_unique (of0_plain G []).1 (mt_plain _ _).1 fun k => by
        rw [(of0_plain G []).2, (mt_plain _ _).2, HGI.out k]
        constructor
        · rintro (h | ⟨x, hx, -⟩)
          · exact h
          · cases hx
        · exact fun h => .inl h
      have hF : ofL [(s1, s2)] [((0 : Int), N.bl)] (keepF 1 [(s1, s2)] [((0 : Int), N.bl)]) = mtD (s1, s2) (0, N.bl) := plain_unique (of1_plain _ _).1 (mt_plain _ _).1 fun k => by
        rw [(of1_plain _ _).2, (mt_plain _ _).2]
      have HSE : Hid (ofL G [] (keepF 0 G []) = ofL [(s1, s2)] [((0 : Int), N.bl)] (keepF 1 [(s1, s2)] [((0 : Int), N.bl)])) := hid (hE.trans hF.symm)
      have HOL : Hid ((ofL G [] (keepF 0 G [])).length ≤ 1000000000) := hid (by rw [hE]; have := mt_len (s1, s2) (0, N.bl); omega)
      clear hE hF
      have SB : Hid (∀ Y, Below w3.heap.size w3 Y → Y.rangeAt A 0 [.int .i64 s1, .int .i64 s2]) := hid fun Y hY => range_of_row ((hY.block A (lt_of_block HA3.out)).trans HA3.out) 0 _ fun j v hv => by rw [Nat.zero_add]; simpa using hv
      obtain ⟨dS, hdS1, hdS2⟩ := Tryz.rowSpA
      go_upto_region 15 with fail
      clear hlt
      refine wp_region_held_drew (S := fun Y => Y.rangeAt A 0 [.int .i64 s1, .int .i64 s2]) (by kernel_rfl) (SB.out _ (BR.out.trans ((Below.refl wr.heap.size wr).drew.mono BR.out.size))) (fun hHeld => ?_)
      obtain ⟨Y, hY⟩ : ∃ Y, Y = wr.drew := ⟨_, rfl⟩
      have BX : Hid (Below w3.heap.size w3 Y) := hid (by rw [hY]; exact BR.out.trans ((Below.refl wr.heap.size wr).drew.mono BR.out.size))
      rw [← hY] at hHeld ⊢
      clear hY
      refine wpAnyH_take (i := 0) (v := ?pzv0) rfl (by kernel_rfl) (by kernel_rfl) (by kernel_rfl) (fun _ _ _ h => h) (Or.inl ⟨by rfl, ?pzy0⟩) (by assumption) ?pzr0
      case pzy0 => (intro w hSw; (try dsimp only at hSw); go_simp; try with_reducible rfl)
      (try simp only [Act.put, putS])
      refine wpAnyH_take (i := 4) (v := ?pzv4) rfl (by kernel_rfl) (by kernel_rfl) (by kernel_rfl) (fun _ _ _ h => h) (Or.inl ⟨by rfl, ?pzy4⟩) (by assumption) ?pzr4
      case pzy4 => (intro w hSw; (try dsimp only at hSw); go_simp; try with_reducible rfl)
      (try simp only [Act.put, putS])
      refine wpAnyH_take (i := 2) (v := .agg #[.int .i64 s1, .int .i64 s2]) rfl (by kernel_rfl) (by kernel_rfl) (by kernel_rfl) (fun _ _ _ h => h) (yieldsIf_load_mid rfl _ _ rfl A 0 rfl [.int .i64 s1, .int .i64 s2] dS (fun Y hY => hY) hdS1 hdS2 Tryz.sizeSpA) (by assumption) ?_
      (try simp only [Act.put, putS])
      refine wpAnyH_ready (rs := [1, 3]) (by kernel_rfl) (by simp) ?_
      refine AllReadyH.cons rfl (fun K hK => ?_) (AllReadyH.cons rfl (fun K hK => ?_) AllReadyH.nil)
      · skip
        rw [if_pos (by rfl)]
        go_wp2_with fail
        refine (rof_0 _ _ G [] _ (OG.out.below BX.out).sps (Sps.nil _) (by have := HGL.out; omega) (by simp)).mono ?_
        rintro e Y ⟨v1a, v1c, rfl, ho1, hb1⟩
        have H1 := hid ho1.sps
        have BX := hid (BX.out.trans (hb1.mono BX.out.size))
        try have H3 := hid (H3.out.below hb1)
        clear ho1 hb1
        refine hK.out _ _ (SB.out _ BX.out) (fun hHeld => ?_)
        clear hK K
        (try simp only [Act.put, putS])
        refine wpAnyH_ready (rs := [3, 5]) (by kernel_rfl) (by simp) ?_
        refine AllReadyH.cons rfl (fun K hK => ?_) (AllReadyH.cons rfl (fun K hK => ?_) AllReadyH.nil)
        · skip
          rw [if_pos (by rfl)]
          go_simp
          have hb3 : Below Y.heap.size Y (Y.alloc (.cells #[.int .i64 s1, .int .i64 s2] 24)) := (Below.refl _ _).alloc (Nat.le_refl _) _
          have hc3 := heap_alloc_new Y (.cells #[.int .i64 s1, .int .i64 s2] 24)
          obtain ⟨P3, hP3⟩ : ∃ P, P = Y.heap.size := ⟨_, rfl⟩
          have BX := hid (BX.out.trans (hb3.mono BX.out.size))
          try have H1 := hid (H1.out.below hb3)
          try have H7 := hid (H7.out.below hb3)
          rw [← hP3] at hc3 ⊢
          clear hb3 hP3
          obtain ⟨Y, hY⟩ : ∃ Z, Z = Y.alloc (.cells #[.int .i64 s1, .int .i64 s2] 24) := ⟨_, rfl⟩
          rw [← hY] at hc3 BX ⊢
          try rw [← hY] at H1
          try rw [← hY] at H7
          have H3 := hid (sps_box hc3)
          clear hc3 hY
          refine hK.out _ _ (SB.out _ BX.out) (fun hHeld => ?_)
          clear hK K
          (try simp only [Act.put, putS])
          refine wpAnyH_ready (rs := [5]) (by kernel_rfl) (by simp) ?_
          refine AllReadyH.cons rfl (fun K hK => ?_) AllReadyH.nil
          rw [if_pos (by rfl)]
          go_wp2_with fail
          refine (ablocks_any b wb mb n ov D N _ X _ (A3.out.below BX.out).m).mono ?_
          rintro e wx ⟨rfl, hwx⟩
          replace hwx := hwx.symm
          subst hwx
          refine hK.out _ _ hHeld (fun hHeld => ?_)
          clear hK K
          (try simp only [Act.put, putS])
          refine wpAnyH_take (i := 6) (v := ?paav6) rfl (by kernel_rfl) (by kernel_rfl) (by kernel_rfl) (fun _ _ _ h => h) (Or.inl ⟨by rfl, ?paay6⟩) (by assumption) ?paar6
          case paay6 => (intro w hSw; (try dsimp only at hSw); go_simp; try with_reducible rfl)
          (try simp only [Act.put, putS])
          refine wpAnyH_ready (rs := [7]) (by kernel_rfl) (by simp) ?_
          refine AllReadyH.cons rfl (fun K hK => ?_) AllReadyH.nil
          rw [if_pos (by rfl)]
          go_simp
          have hb7 : Below Y.heap.size Y (Y.alloc (.cells #[.int .i64 0, .int .i64 N.bl] 24)) := (Below.refl _ _).alloc (Nat.le_refl _) _
          have hc7 := heap_alloc_new Y (.cells #[.int .i64 0, .int .i64 N.bl] 24)
          obtain ⟨P7, hP7⟩ : ∃ P, P = Y.heap.size := ⟨_, rfl⟩
          have BX := hid (BX.out.trans (hb7.mono BX.out.size))
          have H1 := hid (H1.out.below hb7)
          try have H3 := hid (H3.out.below hb7)
          rw [← hP7] at hc7 ⊢
          clear hb7 hP7
          obtain ⟨Y, hY⟩ : ∃ Z, Z = Y.alloc (.cells #[.int .i64 0, .int .i64 N.bl] 24) := ⟨_, rfl⟩
          rw [← hY] at hc7 BX H1 ⊢
          try rw [← hY] at H3
          have H7 := hid (sps_box hc7)
          clear hc7 hY
          refine hK.out _ _ (SB.out _ BX.out) (fun hHeld => ?_)
          clear hK K
          (try simp only [Act.put, putS])
          refine wpAnyH_ready (rs := [8]) (by kernel_rfl) (by simp) ?_
          refine AllReadyH.cons rfl (fun K hK => ?_) AllReadyH.nil
          rw [if_pos (by rfl)]
          go_wp2_with fail
          refine (rof_1 _ _ [(s1, s2)] [((0 : Int), N.bl)] _ H3.out H7.out (by simp) (by simp)).mono ?_
          rintro e Y ⟨v8a, v8c, rfl, ho8, hb8⟩
          have H8 := hid ho8.sps
          have H1 := hid (H1.out.below hb8)
          have BX := hid (BX.out.trans (hb8.mono BX.out.size))
          clear ho8 hb8
          refine hK.out _ _ (SB.out _ BX.out) (fun hHeld => ?_)
          clear hK K
          (try simp only [Act.put, putS])
          refine wpAnyH_ready (rs := [9]) (by kernel_rfl) (by simp) ?_
          refine AllReadyH.cons rfl (fun K hK => ?_) AllReadyH.nil
          rw [if_pos (by rfl)]
          go_wp2_with fail
          refine (rsame_any _ _ _ _ _ H1.out H8.out HOL.out).mono ?_
          rintro e Y ⟨rfl, hb9⟩
          have BX := hid (BX.out.trans (hb9.mono BX.out.size))
          rw [decide_eq_true HSE.out]
          clear hb9
          refine hK.out _ _ (SB.out _ BX.out) (fun hHeld => ?_)
          clear hK K
          (try simp only [Act.put, putS])
          refine wpAnyH_take (i := 10) (v := ?pabv10) rfl (by kernel_rfl) (by kernel_rfl) (by kernel_rfl) (fun _ _ _ h => h) (Or.inl ⟨by rfl, ?paby10⟩) (by assumption) ?pabr10
          case paby10 => (intro w hSw; (try dsimp only at hSw); go_simp; try with_reducible rfl)
          (try simp only [Act.put, putS])
          refine wpAnyH_ready (rs := [11]) (by kernel_rfl) (by simp) ?_
          refine AllReadyH.cons rfl (fun K hK => ?_) AllReadyH.nil
          rw [if_pos (by rfl)]
          go_wp2_with fail
          refine (lives_any _).mono ?_
          rintro e Y ⟨rfl, hb11⟩
          have BX := hid (BX.out.trans (hb11.mono BX.out.size))
          clear hb11
          refine hK.out _ _ (SB.out _ BX.out) (fun hHeld => ?_)
          clear hK K
          (try simp only [Act.put, putS])
          refine wpAnyH_take (i := 12) (v := ?pacv12) rfl (by kernel_rfl) (by kernel_rfl) (by kernel_rfl) (fun _ _ _ h => h) (Or.inl ⟨by rfl, ?pacy12⟩) (by assumption) ?pacr12
          case pacy12 => (intro w hSw; (try dsimp only at hSw); go_simp; try with_reducible rfl)
          (try simp only [Act.put, putS])
          refine wpAnyH_take (i := 13) (v := ?pacv13) rfl (by kernel_rfl) (by kernel_rfl) (by kernel_rfl) (fun _ _ _ h => h) (Or.inl ⟨by rfl, ?pacy13⟩) (by assumption) ?pacr13
          case pacy13 => (intro w hSw; (try dsimp only at hSw); go_simp; try with_reducible rfl)
          (try simp only [Act.put, putS])
          refine wpAnyH_done (by kernel_rfl) ?_ _
          go_wp2_with fail
          go_ret
          exact ⟨rfl, B3.out.trans (BX.out.mono B3.out.size)⟩
        · skip
          rw [if_pos (by rfl)]
          go_wp2_with fail
          refine (ablocks_any b wb mb n ov D N _ X _ (A3.out.below BX.out).m).mono ?_
          rintro e wx ⟨rfl, hwx⟩
          replace hwx := hwx.symm
          subst hwx
          refine hK.out _ _ hHeld (fun hHeld => ?_)
          clear hK K
          (try simp only [Act.put, putS])
          refine wpAnyH_take (i := 6) (v := ?padv6) rfl (by kernel_rfl) (by kernel_rfl) (by kernel_rfl) (fun _ _ _ h => h) (Or.inl ⟨by rfl, ?pady6⟩) (by assumption) ?padr6
          case pady6 => (intro w hSw; (try dsimp only at hSw); go_simp; try with_reducible rfl)
          (try simp only [Act.put, putS])
          refine wpAnyH_ready (rs := [3, 7]) (by kernel_rfl) (by simp) ?_
          refine AllReadyH.cons rfl (fun K hK => ?_) (AllReadyH.cons rfl (fun K hK => ?_) AllReadyH.nil)
          · skip
            rw [if_pos (by rfl)]
            go_simp
            have hb3 : Below Y.heap.size Y (Y.alloc (.cells #[.int .i64 s1, .int .i64 s2] 24)) := (Below.refl _ _).alloc (Nat.le_refl _) _
            have hc3 := heap_alloc_new Y (.cells #[.int .i64 s1, .int .i64 s2] 24)
            obtain ⟨P3, hP3⟩ : ∃ P, P = Y.heap.size := ⟨_, rfl⟩
            have BX := hid (BX.out.trans (hb3.mono BX.out.size))
            try have H1 := hid (H1.out.below hb3)
            try have H7 := hid (H7.out.below hb3)
            rw [← hP3] at hc3 ⊢
            clear hb3 hP3
            obtain ⟨Y, hY⟩ : ∃ Z, Z = Y.alloc (.cells #[.int .i64 s1, .int .i64 s2] 24) := ⟨_, rfl⟩
            rw [← hY] at hc3 BX ⊢
            try rw [← hY] at H1
            try rw [← hY] at H7
            have H3 := hid (sps_box hc3)
            clear hc3 hY
            refine hK.out _ _ (SB.out _ BX.out) (fun hHeld => ?_)
            clear hK K
            (try simp only [Act.put, putS])
            refine wpAnyH_ready (rs := [7]) (by kernel_rfl) (by simp) ?_
            refine AllReadyH.cons rfl (fun K hK => ?_) AllReadyH.nil
            rw [if_pos (by rfl)]
            go_simp
            have hb7 : Below Y.heap.size Y (Y.alloc (.cells #[.int .i64 0, .int .i64 N.bl] 24)) := (Below.refl _ _).alloc (Nat.le_refl _) _
            have hc7 := heap_alloc_new Y (.cells #[.int .i64 0, .int .i64 N.bl] 24)
            obtain ⟨P7, hP7⟩ : ∃ P, P = Y.heap.size := ⟨_, rfl⟩
            have BX := hid (BX.out.trans (hb7.mono BX.out.size))
            have H1 := hid (H1.out.below hb7)
            try have H3 := hid (H3.out.below hb7)
            rw [← hP7] at hc7 ⊢
            clear hb7 hP7
            obtain ⟨Y, hY⟩ : ∃ Z, Z = Y.alloc (.cells #[.int .i64 0, .int .i64 N.bl] 24) := ⟨_, rfl⟩
            rw [← hY] at hc7 BX H1 ⊢
            try rw [← hY] at H3
            have H7 := hid (sps_box hc7)
            clear hc7 hY
            refine hK.out _ _ (SB.out _ BX.out) (fun hHeld => ?_)
            clear hK K
            (try simp only [Act.put, putS])
            refine wpAnyH_ready (rs := [8]) (by kernel_rfl) (by simp) ?_
            refine AllReadyH.cons rfl (fun K hK => ?_) AllReadyH.nil
            rw [if_pos (by rfl)]
            go_wp2_with fail
            refine (rof_1 _ _ [(s1, s2)] [((0 : Int), N.bl)] _ H3.out H7.out (by simp) (by simp)).mono ?_
            rintro e Y ⟨v8a, v8c, rfl, ho8, hb8⟩
            have H8 := hid ho8.sps
            have H1 := hid (H1.out.below hb8)
            have BX := hid (BX.out.trans (hb8.mono BX.out.size))
            clear ho8 hb8
            refine hK.out _ _ (SB.out _ BX.out) (fun hHeld => ?_)
            clear hK K
            (try simp only [Act.put, putS])
            refine wpAnyH_ready (rs := [9]) (by kernel_rfl) (by simp) ?_
            refine AllReadyH.cons rfl (fun K hK => ?_) AllReadyH.nil
            rw [if_pos (by rfl)]
            go_wp2_with fail
            refine (rsame_any _ _ _ _ _ H1.out H8.out HOL.out).mono ?_
            rintro e Y ⟨rfl, hb9⟩
            have BX := hid (BX.out.trans (hb9.mono BX.out.size))
            rw [decide_eq_true HSE.out]
            clear hb9
            refine hK.out _ _ (SB.out _ BX.out) (fun hHeld => ?_)
            clear hK K
            (try simp only [Act.put, putS])
            refine wpAnyH_take (i := 10) (v := ?paev10) rfl (by kernel_rfl) (by kernel_rfl) (by kernel_rfl) (fun _ _ _ h => h) (Or.inl ⟨by rfl, ?paey10⟩) (by assumption) ?paer10
            case paey10 => (intro w hSw; (try dsimp only at hSw); go_simp; try with_reducible rfl)
            (try simp only [Act.put, putS])
            refine wpAnyH_ready (rs := [11]) (by kernel_rfl) (by simp) ?_
            refine AllReadyH.cons rfl (fun K hK => ?_) AllReadyH.nil
            rw [if_pos (by rfl)]
            go_wp2_with fail
            refine (lives_any _).mono ?_
            rintro e Y ⟨rfl, hb11⟩
            have BX := hid (BX.out.trans (hb11.mono BX.out.size))
            clear hb11
            refine hK.out _ _ (SB.out _ BX.out) (fun hHeld => ?_)
            clear hK K
            (try simp only [Act.put, putS])
            refine wpAnyH_take (i := 12) (v := ?pafv12) rfl (by kernel_rfl) (by kernel_rfl) (by kernel_rfl) (fun _ _ _ h => h) (Or.inl ⟨by rfl, ?pafy12⟩) (by assumption) ?pafr12
            case pafy12 => (intro w hSw; (try dsimp only at hSw); go_simp; try with_reducible rfl)
            (try simp only [Act.put, putS])
            refine wpAnyH_take (i := 13) (v := ?pafv13) rfl (by kernel_rfl) (by kernel_rfl) (by kernel_rfl) (fun _ _ _ h => h) (Or.inl ⟨by rfl, ?pafy13⟩) (by assumption) ?pafr13
            case pafy13 => (intro w hSw; (try dsimp only at hSw); go_simp; try with_reducible rfl)
            (try simp only [Act.put, putS])
            refine wpAnyH_done (by kernel_rfl) ?_ _
            go_wp2_with fail
            go_ret
            exact ⟨rfl, B3.out.trans (BX.out.mono B3.out.size)⟩
          · skip
            rw [if_pos (by rfl)]
            go_simp
            have hb7 : Below Y.heap.size Y (Y.alloc (.cells #[.int .i64 0, .int .i64 N.bl] 24)) := (Below.refl _ _).alloc (Nat.le_refl _) _
            have hc7 := heap_alloc_new Y (.cells #[.int .i64 0, .int .i64 N.bl] 24)
            obtain ⟨P7, hP7⟩ : ∃ P, P = Y.heap.size := ⟨_, rfl⟩
            have BX := hid (BX.out.trans (hb7.mono BX.out.size))
            have H1 := hid (H1.out.below hb7)
            try have H3 := hid (H3.out.below hb7)
            rw [← hP7] at hc7 ⊢
            clear hb7 hP7
            obtain ⟨Y, hY⟩ : ∃ Z, Z = Y.alloc (.cells #[.int .i64 0, .int .i64 N.bl] 24) := ⟨_, rfl⟩
            rw [← hY] at hc7 BX H1 ⊢
            try rw [← hY] at H3
            have H7 := hid (sps_box hc7)
            clear hc7 hY
            refine hK.out _ _ (SB.out _ BX.out) (fun hHeld => ?_)
            clear hK K
            (try simp only [Act.put, putS])
            refine wpAnyH_ready (rs := [3]) (by kernel_rfl) (by simp) ?_
            refine AllReadyH.cons rfl (fun K hK => ?_) AllReadyH.nil
            rw [if_pos (by rfl)]
            go_simp
            have hb3 : Below Y.heap.size Y (Y.alloc (.cells #[.int .i64 s1, .int .i64 s2] 24)) := (Below.refl _ _).alloc (Nat.le_refl _) _
            have hc3 := heap_alloc_new Y (.cells #[.int .i64 s1, .int .i64 s2] 24)
            obtain ⟨P3, hP3⟩ : ∃ P, P = Y.heap.size := ⟨_, rfl⟩
            have BX := hid (BX.out.trans (hb3.mono BX.out.size))
            try have H1 := hid (H1.out.below hb3)
            try have H7 := hid (H7.out.below hb3)
            rw [← hP3] at hc3 ⊢
            clear hb3 hP3
            obtain ⟨Y, hY⟩ : ∃ Z, Z = Y.alloc (.cells #[.int .i64 s1, .int .i64 s2] 24) := ⟨_, rfl⟩
            rw [← hY] at hc3 BX ⊢
            try rw [← hY] at H1
            try rw [← hY] at H7
            have H3 := hid (sps_box hc3)
            clear hc3 hY
            refine hK.out _ _ (SB.out _ BX.out) (fun hHeld => ?_)
            clear hK K
            (try simp only [Act.put, putS])
            refine wpAnyH_ready (rs := [8]) (by kernel_rfl) (by simp) ?_
            refine AllReadyH.cons rfl (fun K hK => ?_) AllReadyH.nil
            rw [if_pos (by rfl)]
            go_wp2_with fail
            refine (rof_1 _ _ [(s1, s2)] [((0 : Int), N.bl)] _ H3.out H7.out (by simp) (by simp)).mono ?_
            rintro e Y ⟨v8a, v8c, rfl, ho8, hb8⟩
            have H8 := hid ho8.sps
            have H1 := hid (H1.out.below hb8)
            have BX := hid (BX.out.trans (hb8.mono BX.out.size))
            clear ho8 hb8
            refine hK.out _ _ (SB.out _ BX.out) (fun hHeld => ?_)
            clear hK K
            (try simp only [Act.put, putS])
            refine wpAnyH_ready (rs := [9]) (by kernel_rfl) (by simp) ?_
            refine AllReadyH.cons rfl (fun K hK => ?_) AllReadyH.nil
            rw [if_pos (by rfl)]
            go_wp2_with fail
            refine (rsame_any _ _ _ _ _ H1.out H8.out HOL.out).mono ?_
            rintro e Y ⟨rfl, hb9⟩
            have BX := hid (BX.out.trans (hb9.mono BX.out.size))
            rw [decide_eq_true HSE.out]
            clear hb9
            refine hK.out _ _ (SB.out _ BX.out) (fun hHeld => ?_)
            clear hK K
            (try simp only [Act.put, putS])
            refine wpAnyH_take (i := 10) (v := ?pagv10) rfl (by kernel_rfl) (by kernel_rfl) (by kernel_rfl) (fun _ _ _ h => h) (Or.inl ⟨by rfl, ?pagy10⟩) (by assumption) ?pagr10
            case pagy10 => (intro w hSw; (try dsimp only at hSw); go_simp; try with_reducible rfl)
            (try simp only [Act.put, putS])
            refine wpAnyH_ready (rs := [11]) (by kernel_rfl) (by simp) ?_
            refine AllReadyH.cons rfl (fun K hK => ?_) AllReadyH.nil
            rw [if_pos (by rfl)]
            go_wp2_with fail
            refine (lives_any _).mono ?_
            rintro e Y ⟨rfl, hb11⟩
            have BX := hid (BX.out.trans (hb11.mono BX.out.size))
            clear hb11
            refine hK.out _ _ (SB.out _ BX.out) (fun hHeld => ?_)
            clear hK K
            (try simp only [Act.put, putS])
            refine wpAnyH_take (i := 12) (v := ?pahv12) rfl (by kernel_rfl) (by kernel_rfl) (by kernel_rfl) (fun _ _ _ h => h) (Or.inl ⟨by rfl, ?pahy12⟩) (by assumption) ?pahr12
            case pahy12 => (intro w hSw; (try dsimp only at hSw); go_simp; try with_reducible rfl)
            (try simp only [Act.put, putS])
            refine wpAnyH_take (i := 13) (v := ?pahv13) rfl (by kernel_rfl) (by kernel_rfl) (by kernel_rfl) (fun _ _ _ h => h) (Or.inl ⟨by rfl, ?pahy13⟩) (by assumption) ?pahr13
            case pahy13 => (intro w hSw; (try dsimp only at hSw); go_simp; try with_reducible rfl)
            (try simp only [Act.put, putS])
            refine wpAnyH_done (by kernel_rfl) ?_ _
            go_wp2_with fail
            go_ret
            exact ⟨rfl, B3.out.trans (BX.out.mono B3.out.size)⟩
      · skip
        rw [if_pos (by rfl)]
        go_simp
        have hb3 : Below Y.heap.size Y (Y.alloc (.cells #[.int .i64 s1, .int .i64 s2] 24)) := (Below.refl _ _).alloc (Nat.le_refl _) _
        have hc3 := heap_alloc_new Y (.cells #[.int .i64 s1, .int .i64 s2] 24)
        obtain ⟨P3, hP3⟩ : ∃ P, P = Y.heap.size := ⟨_, rfl⟩
        have BX := hid (BX.out.trans (hb3.mono BX.out.size))
        try have H1 := hid (H1.out.below hb3)
        try have H7 := hid (H7.out.below hb3)
        rw [← hP3] at hc3 ⊢
        clear hb3 hP3
        obtain ⟨Y, hY⟩ : ∃ Z, Z = Y.alloc (.cells #[.int .i64 s1, .int .i64 s2] 24) := ⟨_, rfl⟩
        rw [← hY] at hc3 BX ⊢
        try rw [← hY] at H1
        try rw [← hY] at H7
        have H3 := hid (sps_box hc3)
        clear hc3 hY
        refine hK.out _ _ (SB.out _ BX.out) (fun hHeld => ?_)
        clear hK K
        (try simp only [Act.put, putS])
        refine wpAnyH_ready (rs := [1]) (by kernel_rfl) (by simp) ?_
        refine AllReadyH.cons rfl (fun K hK => ?_) AllReadyH.nil
        rw [if_pos (by rfl)]
        go_wp2_with fail
        refine (rof_0 _ _ G [] _ (OG.out.below BX.out).sps (Sps.nil _) (by have := HGL.out; omega) (by simp)).mono ?_
        rintro e Y ⟨v1a, v1c, rfl, ho1, hb1⟩
        have H1 := hid ho1.sps
        have BX := hid (BX.out.trans (hb1.mono BX.out.size))
        try have H3 := hid (H3.out.below hb1)
        clear ho1 hb1
        refine hK.out _ _ (SB.out _ BX.out) (fun hHeld => ?_)
        clear hK K
        (try simp only [Act.put, putS])
        refine wpAnyH_ready (rs := [5]) (by kernel_rfl) (by simp) ?_
        refine AllReadyH.cons rfl (fun K hK => ?_) AllReadyH.nil
        rw [if_pos (by rfl)]
        go_wp2_with fail
        refine (ablocks_any b wb mb n ov D N _ X _ (A3.out.below BX.out).m).mono ?_
        rintro e wx ⟨rfl, hwx⟩
        replace hwx := hwx.symm
        subst hwx
        refine hK.out _ _ hHeld (fun hHeld => ?_)
        clear hK K
        (try simp only [Act.put, putS])
        refine wpAnyH_take (i := 6) (v := ?paiv6) rfl (by kernel_rfl) (by kernel_rfl) (by kernel_rfl) (fun _ _ _ h => h) (Or.inl ⟨by rfl, ?paiy6⟩) (by assumption) ?pair6
        case paiy6 => (intro w hSw; (try dsimp only at hSw); go_simp; try with_reducible rfl)
        (try simp only [Act.put, putS])
        refine wpAnyH_ready (rs := [7]) (by kernel_rfl) (by simp) ?_
        refine AllReadyH.cons rfl (fun K hK => ?_) AllReadyH.nil
        rw [if_pos (by rfl)]
        go_simp
        have hb7 : Below Y.heap.size Y (Y.alloc (.cells #[.int .i64 0, .int .i64 N.bl] 24)) := (Below.refl _ _).alloc (Nat.le_refl _) _
        have hc7 := heap_alloc_new Y (.cells #[.int .i64 0, .int .i64 N.bl] 24)
        obtain ⟨P7, hP7⟩ : ∃ P, P = Y.heap.size := ⟨_, rfl⟩
        have BX := hid (BX.out.trans (hb7.mono BX.out.size))
        have H1 := hid (H1.out.below hb7)
        try have H3 := hid (H3.out.below hb7)
        rw [← hP7] at hc7 ⊢
        clear hb7 hP7
        obtain ⟨Y, hY⟩ : ∃ Z, Z = Y.alloc (.cells #[.int .i64 0, .int .i64 N.bl] 24) := ⟨_, rfl⟩
        rw [← hY] at hc7 BX H1 ⊢
        try rw [← hY] at H3
        have H7 := hid (sps_box hc7)
        clear hc7 hY
        refine hK.out _ _ (SB.out _ BX.out) (fun hHeld => ?_)
        clear hK K
        (try simp only [Act.put, putS])
        refine wpAnyH_ready (rs := [8]) (by kernel_rfl) (by simp) ?_
        refine AllReadyH.cons rfl (fun K hK => ?_) AllReadyH.nil
        rw [if_pos (by rfl)]
        go_wp2_with fail
        refine (rof_1 _ _ [(s1, s2)] [((0 : Int), N.bl)] _ H3.out H7.out (by simp) (by simp)).mono ?_
        rintro e Y ⟨v8a, v8c, rfl, ho8, hb8⟩
        have H8 := hid ho8.sps
        have H1 := hid (H1.out.below hb8)
        have BX := hid (BX.out.trans (hb8.mono BX.out.size))
        clear ho8 hb8
        refine hK.out _ _ (SB.out _ BX.out) (fun hHeld => ?_)
        clear hK K
        (try simp only [Act.put, putS])
        refine wpAnyH_ready (rs := [9]) (by kernel_rfl) (by simp) ?_
        refine AllReadyH.cons rfl (fun K hK => ?_) AllReadyH.nil
        rw [if_pos (by rfl)]
        go_wp2_with fail
        refine (rsame_any _ _ _ _ _ H1.out H8.out HOL.out).mono ?_
        rintro e Y ⟨rfl, hb9⟩
        have BX := hid (BX.out.trans (hb9.mono BX.out.size))
        rw [decide_eq_true HSE.out]
        clear hb9
        refine hK.out _ _ (SB.out _ BX.out) (fun hHeld => ?_)
        clear hK K
        (try simp only [Act.put, putS])
        refine wpAnyH_take (i := 10) (v := ?pajv10) rfl (by kernel_rfl) (by kernel_rfl) (by kernel_rfl) (fun _ _ _ h => h) (Or.inl ⟨by rfl, ?pajy10⟩) (by assumption) ?pajr10
        case pajy10 => (intro w hSw; (try dsimp only at hSw); go_simp; try with_reducible rfl)
        (try simp only [Act.put, putS])
        refine wpAnyH_ready (rs := [11]) (by kernel_rfl) (by simp) ?_
        refine AllReadyH.cons rfl (fun K hK => ?_) AllReadyH.nil
        rw [if_pos (by rfl)]
        go_wp2_with fail
        refine (lives_any _).mono ?_
        rintro e Y ⟨rfl, hb11⟩
        have BX := hid (BX.out.trans (hb11.mono BX.out.size))
        clear hb11
        refine hK.out _ _ (SB.out _ BX.out) (fun hHeld => ?_)
        clear hK K
        (try simp only [Act.put, putS])
        refine wpAnyH_take (i := 12) (v := ?pakv12) rfl (by kernel_rfl) (by kernel_rfl) (by kernel_rfl) (fun _ _ _ h => h) (Or.inl ⟨by rfl, ?paky12⟩) (by assumption) ?pakr12
        case paky12 => (intro w hSw; (try dsimp only at hSw); go_simp; try with_reducible rfl)
        (try simp only [Act.put, putS])
        refine wpAnyH_take (i := 13) (v := ?pakv13) rfl (by kernel_rfl) (by kernel_rfl) (by kernel_rfl) (fun _ _ _ h => h) (Or.inl ⟨by rfl, ?paky13⟩) (by assumption) ?pakr13
        case paky13 => (intro w hSw; (try dsimp only at hSw); go_simp; try with_reducible rfl)
        (try simp only [Act.put, putS])
        refine wpAnyH_done (by kernel_rfl) ?_ _
        go_wp2_with fail
        go_ret
        exact ⟨rfl, B3.out.trans (BX.out.mono B3.out.size)⟩
end Go.Proofs.YtmocedkbabnpfaaGreat
namespace Go.Proofs.YtmocedkbabnpfaaGreat
open Go.ChangeShapes Go.WideShapes Go.ChangeAt Go.RowKit Go.Deep
set_option maxRecDepth 100000

variable {H : Type} {enc : TypeId × Value → H} {w : World} {base : Nat} {spare : Nat → Bool} {held : Bool}

theorem Tryz.cellsI : Tryz.prog.cellsOf 3 = 1 := by kernel_rfl
theorem int_of {n : Nat} {v0 : Value} {y0 : DataW H × List MemPlace} (h0 : DataW.trod enc Tryz.prog w base spare held n 3 [v0] = some y0) : ∃ x : Int, v0 = .int .i64 x ∧ I64 x := by
  obtain ⟨a0, e0, rfl, w0⟩ := DataW.trod_int Tryz.underlying3 h0
  simp at e0
  subst e0
  have s0 : -9223372036854775808 ≤ a0 ∧ a0 ≤ 9223372036854775807 := by simpa [Lit.wf, IntKind.min, IntKind.max, IntKind.signed, IntKind.bits] using w0
  exact ⟨a0, rfl, s0⟩
/-- A slice of numbers that came in. -/
theorem nums_of {n : Nat} {v : Value} {y : DataW H × List MemPlace} (h : DataW.trod enc Tryz.prog w base spare held n 31 [v] = some y) : ∃ l, Nums w v l ∧ ∀ x ∈ l, I64 x := by
  rcases DataW.trod_slice Tryz.underlying31 h with ⟨hcs, _⟩ | ⟨a, len, cap, elems, rest, n', _, hcs, _, hb, hl, hm, hlen, hel, _, _⟩
  · simp at hcs
    subst hcs
    exact ⟨[], ⟨none, 0, 0, rfl, rfl, Nat.le_refl _, by omega, (fun _ => rfl), (fun ad h => by cases h)⟩, by simp⟩
  · simp at hcs
    subst hcs
    have each : ∀ i, i < len → ∃ q : Int, w.cell? (a.add i) = some (.int .i64 q) ∧ I64 q := by
      intro i hi
      have h1 := hel i hi
      rw [List.getElem?_eq_getElem (by omega), Tryz.cellsI] at h1
      obtain ⟨cs, h2, h3⟩ := Option.bind_eq_some_iff.1 h1
      obtain ⟨_, hcl, hcell⟩ := World.cells?_some h2
      match cs, hcl with
      | [v0], _ =>
        obtain ⟨x, rfl, hx⟩ := int_of h3
        have e0 := hcell 0 (by omega)
        rw [Addr.add_add] at e0
        exact ⟨x, by simpa using e0, hx⟩
    obtain ⟨q, hq⟩ := choose_lt each
    refine ⟨(List.range len).map q, ⟨some a, len, cap, rfl, by simp, hl, by unfold maxLen at hm; omega, (fun h => by cases h), fun ad had j hj => ?_⟩, ?_⟩
    · obtain rfl := Option.some.inj had
      have hj' : j < len := by simpa using hj
      simp only [List.getElem_map, List.getElem_range]
      exact (hq j hj').1
    · intro x hx
      simp only [List.mem_map, List.mem_range] at hx
      obtain ⟨i, hi, rfl⟩ := hx
      exact (hq i hi).2
end Go.Proofs.YtmocedkbabnpfaaGreat
namespace Go.Proofs.YtmocedkbabnpfaaGreat
open Go.ChangeShapes Go.WideShapes Go.ChangeAt Go.RowKit Go.Deep
set_option maxRecDepth 100000

variable {H : Type} {enc : TypeId × Value → H} {w : World} {base : Nat} {spare : Nat → Bool} {held : Bool}
theorem Tryz.cellsCh : Tryz.prog.cellsOf 51 = 6 := by kernel_rfl
theorem ch6_of {n : Nat} {v0 v1 v2 v3 v4 v5 : Value} {y : DataW H × List MemPlace} (h : DataW.trod enc Tryz.prog w base spare held n 51 [v0, v1, v2, v3, v4, v5] = some y) : ∃ c : ChD, v0 = .int .i64 c.k ∧ v1 = .int .i64 c.sh ∧ v2 = .int .i64 c.ot ∧ v3 = .int .i64 c.at' ∧ v4 = .int .i64 c.out ∧ v5 = .int .i64 c.in' ∧ ChJ c := by
  obtain ⟨xs, k, hk, hxy, _, hxl, hf⟩ := DataW.trod_struct Tryz.underlying51 h
  match xs, hxl with
  | [y0, y1, y2, y3, y4, y5], _ =>
    have g0 := hf 0 _ rfl
    have g1 := hf 1 _ rfl
    have g2 := hf 2 _ rfl
    have g3 := hf 3 _ rfl
    have g4 := hf 4 _ rfl
    have g5 := hf 5 _ rfl
    simp [Tryz.cellsI] at g0 g1 g2 g3 g4 g5
    obtain ⟨x0, rfl, i0⟩ := int_of g0
    obtain ⟨x1, rfl, i1⟩ := int_of g1
    obtain ⟨x2, rfl, i2⟩ := int_of g2
    obtain ⟨x3, rfl, i3⟩ := int_of g3
    obtain ⟨x4, rfl, i4⟩ := int_of g4
    obtain ⟨x5, rfl, i5⟩ := int_of g5
    refine ⟨⟨x0, x1, x2, x3, x4, x5⟩, rfl, rfl, rfl, rfl, rfl, rfl, ?_⟩
    intro x hx
    simp only [numC, List.mem_cons, List.not_mem_nil, or_false] at hx
    rcases hx with rfl | rfl | rfl | rfl | rfl | rfl <;> assumption
/-- A change by value. -/
theorem ch_of {r : Reach} {b0 : Nat} {v : Value} {d : DataW H} {p : List MemPlace} (hv : Value.okWide Tryz.prog w r b0 51 v) (h : DataW.Trod enc Tryz.prog w base spare held 51 v d p) : ∃ c : ChD, v = chV c ∧ ChJ c := by
  simp only [Value.okWide, Tryz.underlying51] at hv
  obtain ⟨cs, rfl, h2, -⟩ := hv
  rw [Tryz.cellsCh] at h2
  obtain ⟨l⟩ := cs
  obtain ⟨fuel, hf⟩ := h
  match l, h2 with
  | [c0, c1, c2, c3, c4, c5], _ =>
    obtain ⟨c, rfl, rfl, rfl, rfl, rfl, rfl, hj⟩ := ch6_of hf
    exact ⟨c, rfl, hj⟩
end Go.Proofs.YtmocedkbabnpfaaGreat
namespace Go.Proofs.YtmocedkbabnpfaaGreat
open Go.ChangeShapes Go.WideShapes Go.ChangeAt Go.RowKit Go.Deep
set_option maxRecDepth 100000
set_option linter.unusedVariables false

variable {H : Type} {enc : TypeId × Value → H} {w : World} {base : Nat} {spare : Nat → Bool} {held : Bool}
theorem Tryz.cellsBs : Tryz.prog.cellsOf 4 = 1 := by kernel_rfl
theorem Tryz.cellsSt : Tryz.prog.cellsOf 53 = 7 := by kernel_rfl
theorem choose_ltT {α : Type} [Inhabited α] {n : Nat} {P : Nat → α → Prop} (h : ∀ i, i < n → ∃ x, P i x) : ∃ f : Nat → α, ∀ i, i < n → P i (f i) :=
  Classical.axiomOfChoice (r := fun i x => i < n → P i x) fun i => by
    by_cases hi : i < n
    · obtain ⟨x, hx⟩ := h i hi; exact ⟨x, fun _ => hx⟩
    · exact ⟨default, fun hh => absurd hh hi⟩
theorem st7_of {n : Nat} {v0 v1 v2 v3 v4 v5 v6 : Value} {y : DataW H × List MemPlace} (h : DataW.trod enc Tryz.prog w base spare held n 53 [v0, v1, v2, v3, v4, v5, v6] = some y) : ∃ (c : ChD) (nr : Bool), v0 = .int .i64 c.k ∧ v1 = .int .i64 c.sh ∧ v2 = .int .i64 c.ot ∧ v3 = .int .i64 c.at' ∧ v4 = .int .i64 c.out ∧ v5 = .int .i64 c.in' ∧ v6 = .bool nr ∧ ChJ c := by
  obtain ⟨xs, k, hk, hxy, _, hxl, hf⟩ := DataW.trod_struct Tryz.underlying53 h
  match xs, hxl with
  | [y0, y1], _ =>
    have g0 := hf 0 _ rfl
    have g1 := hf 1 _ rfl
    simp [Tryz.cellsCh, Tryz.cellsBs] at g0 g1
    obtain ⟨c, e0, e1, e2, e3, e4, e5, hj⟩ := ch6_of g0
    obtain ⟨nr, hb, _⟩ := DataW.trod_bool Tryz.underlying4 g1
    exact ⟨c, nr, e0, e1, e2, e3, e4, e5, by simpa using hb, hj⟩
/-- A step by value. -/
theorem st_of {r : Reach} {b0 : Nat} {v : Value} {d : DataW H} {p : List MemPlace} (hv : Value.okWide Tryz.prog w r b0 53 v) (h : DataW.Trod enc Tryz.prog w base spare held 53 v d p) : ∃ x : ChD × Bool, v = .agg (stC x).toArray ∧ ChJ x.1 := by
  simp only [Value.okWide, Tryz.underlying53] at hv
  obtain ⟨cs, rfl, h2, -⟩ := hv
  rw [Tryz.cellsSt] at h2
  obtain ⟨l⟩ := cs
  obtain ⟨fuel, hf⟩ := h
  match l, h2 with
  | [c0, c1, c2, c3, c4, c5, c6], _ =>
    obtain ⟨c, nr, rfl, rfl, rfl, rfl, rfl, rfl, rfl, hj⟩ := st7_of hf
    exact ⟨(c, nr), rfl, hj⟩
/-- A slice of steps that came in. -/
theorem stps_of {n : Nat} {v : Value} {y : DataW H × List MemPlace} (h : DataW.trod enc Tryz.prog w base spare held n 22 [v] = some y) : ∃ l, Stps w v l ∧ ∀ x ∈ l, ChJ x.1 := by
  rcases DataW.trod_slice Tryz.underlying22 h with ⟨hcs, _⟩ | ⟨a, len, cap, elems, rest, n', _, hcs, _, hb, hl, hm, hlen, hel, _, _⟩
  · simp at hcs
    subst hcs
    exact ⟨[], ⟨none, 0, 0, rfl, rfl, Nat.le_refl _, by omega, (fun _ => rfl), (fun ad h => by cases h)⟩, by simp⟩
  · simp at hcs
    subst hcs
    have each : ∀ i, i < len → ∃ q : ChD × Bool, (∀ k u, (stC q)[k]? = some u → w.cell? (a.add (i * 7 + k)) = some u) ∧ ChJ q.1 := by
      intro i hi
      have h1 := hel i hi
      rw [List.getElem?_eq_getElem (by omega), Tryz.cellsSt] at h1
      obtain ⟨cs, h2, h3⟩ := Option.bind_eq_some_iff.1 h1
      obtain ⟨_, hcl, hcell⟩ := World.cells?_some h2
      match cs, hcl with
      | [v0, v1, v2, v3, v4, v5, v6], _ =>
        obtain ⟨c, nr, rfl, rfl, rfl, rfl, rfl, rfl, rfl, hj⟩ := st7_of h3
        refine ⟨(c, nr), fun k u hk => ?_, hj⟩
        have hk7 : k < 7 := (List.getElem?_eq_some_iff.1 hk).1
        have e := hcell k (by simpa using hk7)
        rw [Addr.add_add] at e
        rw [e]
        have : (stC (c, nr))[k]? = _ := hk
        unfold stC at this
        simpa using this
    haveI : Inhabited (ChD × Bool) := ⟨(⟨0, 0, 0, 0, 0, 0⟩, false)⟩
    obtain ⟨q, hq⟩ := choose_ltT each
    refine ⟨(List.range len).map q, ⟨some a, len, cap, rfl, by simp, hl, by unfold maxLen at hm; omega, (fun h => by cases h), fun ad had j hj => ?_⟩, ?_⟩
    · obtain rfl := Option.some.inj had
      have hj' : j < len := by simpa using hj
      simp only [List.getElem_map, List.getElem_range]
      exact (hq j hj').1
    · intro x hx
      simp only [List.mem_map, List.mem_range] at hx
      obtain ⟨i, hi, rfl⟩ := hx
      exact (hq i hi).2
end Go.Proofs.YtmocedkbabnpfaaGreat
namespace Go.Proofs.YtmocedkbabnpfaaGreat
open Go.ChangeShapes Go.WideShapes Go.ChangeAt Go.RowKit Go.Deep
set_option maxRecDepth 100000

variable {H : Type} {enc : TypeId × Value → H} {w : World} {base : Nat} {spare : Nat → Bool} {held : Bool}

def SpI (x : Sp) : Prop := I64 x.1 ∧ I64 x.2
theorem Tryz.cellsSp : Tryz.prog.cellsOf 24 = 2 := by kernel_rfl
theorem sp_of {n : Nat} {v0 v1 : Value} {y0 y1 : DataW H × List MemPlace} (h0 : DataW.trod enc Tryz.prog w base spare held n 3 [v0] = some y0) (h1 : DataW.trod enc Tryz.prog w base spare held n 3 [v1] = some y1) : ∃ x : Sp, v0 = .int .i64 x.1 ∧ v1 = .int .i64 x.2 ∧ SpI x := by
  obtain ⟨a0, e0, rfl, w0⟩ := DataW.trod_int Tryz.underlying3 h0
  obtain ⟨a1, e1, rfl, w1⟩ := DataW.trod_int Tryz.underlying3 h1
  simp at e0 e1
  subst e0 e1
  have s0 : -9223372036854775808 ≤ a0 ∧ a0 ≤ 9223372036854775807 := by simpa [Lit.wf, IntKind.min, IntKind.max, IntKind.signed, IntKind.bits] using w0
  have s1 : -9223372036854775808 ≤ a1 ∧ a1 ≤ 9223372036854775807 := by simpa [Lit.wf, IntKind.min, IntKind.max, IntKind.signed, IntKind.bits] using w1
  exact ⟨(a0, a1), rfl, rfl, s0, s1⟩
/-- A slice of spans that came in. -/
theorem sps_of {n : Nat} {v : Value} {y : DataW H × List MemPlace} (h : DataW.trod enc Tryz.prog w base spare held n 29 [v] = some y) : ∃ l, Sps w v l ∧ ∀ x ∈ l, SpI x := by
  rcases DataW.trod_slice Tryz.underlying29 h with ⟨hcs, _⟩ | ⟨a, len, cap, elems, rest, n', _, hcs, _, hb, hl, hm, hlen, hel, _, _⟩
  · simp at hcs
    subst hcs
    exact ⟨[], ⟨none, 0, 0, rfl, rfl, Nat.le_refl _, by omega, (fun _ => rfl), (fun ad h => by cases h)⟩, by simp⟩
  · simp at hcs
    subst hcs
    have each : ∀ i, i < len → ∃ q : Sp, w.cell? (a.add (i * 2)) = some (.int .i64 q.1) ∧ w.cell? (a.add (i * 2 + 1)) = some (.int .i64 q.2) ∧ SpI q := by
      intro i hi
      have h1 := hel i hi
      rw [List.getElem?_eq_getElem (by omega), Tryz.cellsSp] at h1
      obtain ⟨cs, h2, h3⟩ := Option.bind_eq_some_iff.1 h1
      obtain ⟨_, hcl, hcell⟩ := World.cells?_some h2
      obtain ⟨xs, k, hk, hxy, _, hxl, hf⟩ := DataW.trod_struct Tryz.underlying24 h3
      match cs, hcl, xs, hxl with
      | [v0, v1], _, [y0, y1], _ =>
        have g0 := hf 0 _ rfl
        have g1 := hf 1 _ rfl
        simp [Tryz.cellsI] at g0 g1
        obtain ⟨x, rfl, rfl, hx⟩ := sp_of g0 g1
        have e0 := hcell 0 (by omega)
        have e1 := hcell 1 (by omega)
        rw [Addr.add_add] at e0 e1
        exact ⟨x, by simpa using e0, by simpa using e1, hx⟩
    obtain ⟨q, hq⟩ := choose_lt each
    refine ⟨(List.range len).map q, ⟨some a, len, cap, rfl, by simp, hl, by unfold maxLen at hm; omega, (fun h => by cases h), fun ad had j hj => ?_⟩, ?_⟩
    · obtain rfl := Option.some.inj had
      have hj' : j < len := by simpa using hj
      simp only [List.getElem_map, List.getElem_range]
      exact ⟨(hq j hj').1, (hq j hj').2.1⟩
    · intro x hx
      simp only [List.mem_map, List.mem_range] at hx
      obtain ⟨i, hi, rfl⟩ := hx
      exact (hq i hi).2.2
/-- A span by value. -/
theorem span_of {r : Reach} {b0 : Nat} {v : Value} {d : DataW H} {p : List MemPlace} (hv : Value.okWide Tryz.prog w r b0 24 v) (h : DataW.Trod enc Tryz.prog w base spare held 24 v d p) : ∃ x : Sp, v = .agg #[.int .i64 x.1, .int .i64 x.2] ∧ SpI x := by
  obtain ⟨v0, v1, y0, y1, n, rfl, rfl, rfl, h0, h1⟩ := Go.Joins.open_agg2 Tryz.underlying24 (by kernel_rfl) Tryz.cellsSp hv h
  obtain ⟨x, rfl, rfl, hx⟩ := sp_of h0 h1
  exact ⟨x, rfl, hx⟩
end Go.Proofs.YtmocedkbabnpfaaGreat
namespace Go.Proofs.YtmocedkbabnpfaaGreat.atlasPieces
open Go.ChangeShapes Go.WideShapes Go.ChangeAt Go.RowKit
set_option linter.unusedVariables false

theorem own : ownKnob Tryz.prog.godebug = none := by kernel_rfl
theorem laidOut : laidOutB Tryz.prog = true := by kernel_rfl

set_option maxRecDepth 100000 in
set_option maxHeartbeats 1600000 in
theorem lifted (os : Os) (started : os.Started) (H : Type) (enc : TypeId × Value → H) :
    ReturnsInHanded {} Tryz.checked os 3 .any (Rows.atlasPiecesSpec.pre6 enc Tryz.prog Tryz.f3 Rows.atlasPiecesRow.domain false) (Rows.atlasPiecesSpec.post enc Tryz.prog Tryz.f3 false true false false) := by
  refine returnsInHanded_of_change (C := Tryz.checked) own started (by kernel_rfl) Tryz.func3
    (ChangeSpec.witness6 (enc := enc) (C := Tryz.checked) false ⟨#[], #[.int .i64 0, .slice none 0 0, .agg #[.int .i64 0, .int .i64 0]], []⟩ 8 (by kernel_rfl) (by kernel_rfl) (by kernel_rfl) (by kernel_rfl)) ?_
  intro W base args ds gs before hval0 hW hcnd _
  have hval : ∀ (j : Nat) t v, Tryz.f3.params[j]? = some t → args[j]? = some v → Value.okWide Tryz.prog W .any base t v := hval0
  have hW' := hW
  obtain ⟨p, q, hA0, hV, rfl, hfz, hnd⟩ := hW
  have hA : DataW.TrodAll enc Tryz.prog W 0 (fun _ => true) true Tryz.f3.params.toList args.toList ds p := hA0
  rw [Tryz.params3] at hA hval
  obtain ⟨v0, vs0, d0, ds0, p0, q0, hargs, rfl, rfl, h0, r0⟩ := trodAll_cons hA
  obtain ⟨v1, vs1, d1, ds1, p1, q1, rfl, rfl, rfl, h1, r1⟩ := trodAll_cons r0
  obtain ⟨v2, vs2, d2, ds2, p2, q2, rfl, rfl, rfl, h2, r2⟩ := trodAll_cons r1
  obtain ⟨rfl, rfl, rfl⟩ := trodAll_nil r2
  obtain rfl : args = #[v0, v1, v2] := by cases args; simp_all
  obtain ⟨rfl, rfl⟩ := trodVars_none hV
  have k0 := h0
  have lt0 : ∀ x ∈ p0, x.block < W.heap.size := by obtain ⟨m, hm⟩ := k0; exact DataW.trod_lt m _ _ _ hm
  obtain ⟨x0, rfl⟩ := okWide_int Tryz.underlying3 (hval 0 3 v0 rfl rfl)
  obtain ⟨f0, hf0⟩ := h0
  obtain ⟨z0, e0, -, w0⟩ := DataW.trod_int Tryz.underlying3 hf0
  simp [Value.cells] at e0
  subst e0
  have s0 : -9223372036854775808 ≤ x0 ∧ x0 ≤ 9223372036854775807 := by simpa [Lit.wf, IntKind.min, IntKind.max, IntKind.signed, IntKind.bits] using w0
  have k1 := h1
  have lt1 : ∀ x ∈ p1, x.block < W.heap.size := by obtain ⟨m, hm⟩ := k1; exact DataW.trod_lt m _ _ _ hm
  obtain ⟨a1, len1, cap1, rfl⟩ := okWide_slice Tryz.underlying22 (hval 1 22 v1 rfl rfl)
  obtain ⟨f1, hf1⟩ := h1
  obtain ⟨l1, H1, J1⟩ := stps_of hf1
  have k2 := h2
  have lt2 : ∀ x ∈ p2, x.block < W.heap.size := by obtain ⟨m, hm⟩ := k2; exact DataW.trod_lt m _ _ _ hm
  obtain ⟨x2, rfl, J2⟩ := span_of (hval 2 24 v2 rfl rfl) h2
  clear hA0 hval0
  refine (atlasPieces_any x0 l1 _ x2 W H1 J1).mono fun e W' ⟨he, bel⟩ => ?_
  subst he
  have t0 := Below.trod laidOut (by kernel_rfl) (of_decide_eq_true (by kernel_rfl)) k0 bel lt0
  have t1 := Below.trod laidOut (by kernel_rfl) (of_decide_eq_true (by kernel_rfl)) k1 bel lt1
  have t2 := Below.trod laidOut (by kernel_rfl) (of_decide_eq_true (by kernel_rfl)) k2 bel lt2
  have T := trodAll_cons_mk t0 (trodAll_cons_mk t1 (trodAll_cons_mk t2 trodAll_mk0))
  exact ⟨_, rfl, _, _, _, [], _, [], hW', trodAll_mk1 (shut_bool Tryz.underlying4 _), T, rfl, bel.frame _, fun h => by cases h⟩

theorem over : Rows.atlasPiecesRow.holds Tryz.pinned (OpenSpec.ofChange Rows.atlasPiecesSpec) :=
  OpenClaim.holds_of_wide 3 Tryz.f3 rfl rfl rfl rfl rfl rfl rfl ⟨rfl, rfl, rfl, rfl, rfl⟩ rfl rfl rfl rfl rfl (by kernel_rfl) Tryz.func3 (by kernel_rfl)
    (of_decide_eq_true (by kernel_rfl)) (by unfold Func.isWrapper; first | (rw [if_pos (by decide +kernel)]; kernel_rfl) | (rw [if_neg (by decide +kernel)]; exact ⟨rfl, rfl⟩))
    (fun os started H enc _ => lifted os started H enc)

theorem proved : Rows.AtlasPiecesSaid := over
end Go.Proofs.YtmocedkbabnpfaaGreat.atlasPieces
namespace Go.Proofs.YtmocedkbabnpfaaGreat
/-- The statement. -/
theorem atlasPieces_holds : Rows.AtlasPiecesSaid := atlasPieces.proved
end Go.Proofs.YtmocedkbabnpfaaGreat
