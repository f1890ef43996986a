/- What a change does to a map of shards, and to the document's: the same. Conditions: both lie in memory. -/
import Derived.Test.YtnkjkaofgninnaaGreatAtRefuse
import Derived.Test.YtnkjkaofgninnaaGreatAtApplyR
import Derived.Test.YtnkjkaofgninnaaGreatAtRApp
import Derived.Test.YtnkjkaofgninnaaGreatAtRRef
import Derived.Test.YtnkjkaofgninnaaGreatAtRTailS
import Derived.Test.YtnkjkaofgninnaaGreatAtRTailM
import Derived.Test.YtnkjkaofgninnaaGreatAtRTailR
import Derived.Test.YtnkjkaofgninnaaGreatAtChJ
namespace Go.Proofs.YtnkjkaofgninnaaGreat
open Go.RowKit Go.Maps Go.Shelf
set_option linter.unusedVariables false
set_option linter.unusedSimpArgs false

def ShD.or (S : ShD) : OrD := ⟨S.id, S.fr, S.to, S.mem⟩
/-- The new shards, as what they are. -/
def nwD (nx : Int) (ml : List Int) (ps : List OrD) : List Sp → List ShD
  | [] => []
  | s :: l => ⟨nx, s.1, s.2, ml, ps⟩ :: nwD (nx + 1) ml ps l
theorem nwX_s (ml : List Int) (ps : List OrD) (mv pv : Value) : ∀ (l : List Sp) (nx : Int), (nwX nx ml ps mv pv l).map (·.s) = nwD nx ml ps l
  | [], nx => rfl
  | s :: l, nx => by rw [nwX, nwD, List.map_cons, nwX_s ml ps mv pv l (nx + 1)]
/-- The members behind a change; does it fit one shard? -/
def mlD (c : ChD) (S : ShD) : List Int := if c.k = 3 then swD S.mem c.out c.in' else S.mem
def fit1 (c : ChD) (S : ShD) : Bool := if c.k = 1 then decide (S.fr < c.at') && decide (c.at' < S.to) else if c.k = 3 then swB S.mem c.out c.in' else true
def afD (N : AtN) (sp : List Sp) : AtN := ⟨N.bl, N.ep + 1, N.nx + sp.length, opD N.nx sp.length⟩
/-- A change of a map: its error, and the map behind it. -/
inductive StepR (N : AtN) (Z : List ShD) (c : ChD) : Int → AtN → List ShD → Prop
  | bad (h : akB c.k = false ∨ namD c ≠ c) : StepR N Z c 1 N Z
  | calm (hk : akB c.k = true) (hn : namD c = c) (h5 : c.k = 5) (ho : N.op = []) : StepR N Z c 8 N Z
  | settle (hk : akB c.k = true) (hn : namD c = c) (h5 : c.k = 5) (ho : N.op ≠ []) : StepR N Z c 0 { N with op := [] } Z
  | down (hk : akB c.k = true) (hn : namD c = c) (h5 : c.k ≠ 5) (ho : N.op ≠ []) : StepR N Z c 7 N Z
  | miss (hk : akB c.k = true) (hn : namD c = c) (h5 : c.k ≠ 5) (ho : N.op = []) (h : ∀ z ∈ Z, z.id ≠ c.sh) : StepR N Z c 8 N Z
  | miss2 (hk : akB c.k = true) (hn : namD c = c) (h2 : c.k = 2) (ho : N.op = []) (P Q : List ShD) (S : ShD) (hZ : Z = P ++ S :: Q) (hi : S.id = c.sh) (h : ∀ z ∈ Z, z.id ≠ c.ot) : StepR N Z c 8 N Z
  | unfit (hk : akB c.k = true) (hn : namD c = c) (h5 : c.k ≠ 5) (h2 : c.k ≠ 2) (ho : N.op = []) (P Q : List ShD) (S : ShD) (hZ : Z = P ++ S :: Q) (hi : S.id = c.sh) (h : fit1 c S = false) : StepR N Z c 1 N Z
  | unfit2 (hk : akB c.k = true) (hn : namD c = c) (h2 : c.k = 2) (ho : N.op = []) (P Q P' Q' : List ShD) (S U : ShD) (hZ : Z = P ++ S :: Q) (hi : S.id = c.sh) (hZ' : Z = P' ++ U :: Q') (hj : U.id = c.ot) (h : P'.length ≠ P.length + 1) : StepR N Z c 1 N Z
  | one (hk : akB c.k = true) (hn : namD c = c) (h5 : c.k ≠ 5) (h2 : c.k ≠ 2) (ho : N.op = []) (P Q : List ShD) (S : ShD) (hZ : Z = P ++ S :: Q) (hi : S.id = c.sh) (h : fit1 c S = true) : StepR N Z c 0 (afD N (spD c S.fr S.to)) (P ++ nwD N.nx (mlD c S) [S.or] (spD c S.fr S.to) ++ Q)
  | two (hk : akB c.k = true) (hn : namD c = c) (h2 : c.k = 2) (ho : N.op = []) (P Q : List ShD) (S U : ShD) (hZ : Z = P ++ S :: U :: Q) (hi : S.id = c.sh) (hj : U.id = c.ot) : StepR N Z c 0 (afD N [(S.fr, U.to)]) (P ++ nwD N.nx S.mem [S.or, U.or] [(S.fr, U.to)] ++ Q)
theorem mid_of {α : Type} (l : List α) (x : α) (h : x ∈ l) : ∃ P Q, l = P ++ x :: Q := List.append_of_mem h
/-- There is always one. -/
theorem step_ex (N : AtN) (Z : List ShD) (c : ChD) (hd : Z.Pairwise fun x y => x.id ≠ y.id) : ∃ r N' Z', StepR N Z c r N' Z' := by
  by_cases hb : akB c.k = false ∨ namD c ≠ c
  · exact ⟨_, _, _, .bad hb⟩
  have hk : akB c.k = true := by
    cases h : akB c.k with
    | true => rfl
    | false => exact absurd (.inl h) hb
  have hn : namD c = c := Classical.byContradiction fun h => hb (.inr h)
  by_cases h5 : c.k = 5
  · by_cases ho : N.op = []
    · exact ⟨_, _, _, .calm hk hn h5 ho⟩
    · exact ⟨_, _, _, .settle hk hn h5 ho⟩
  by_cases ho : N.op = []
  · by_cases hs : ∃ S ∈ Z, S.id = c.sh
    · obtain ⟨S, hS, hi⟩ := hs
      obtain ⟨P, Q, hZ⟩ := mid_of Z S hS
      by_cases h2 : c.k = 2
      · by_cases ht : ∃ U ∈ Z, U.id = c.ot
        · obtain ⟨U, hU, hj⟩ := ht
          obtain ⟨P', Q', hZ'⟩ := mid_of Z U hU
          by_cases hp : P'.length = P.length + 1
          · have e : Q = U :: Q' := by
              have h1 : Z[P.length + 1]? = some U := by rw [hZ', ← hp]; simp
              have h2 : Z.drop (P.length + 2) = Q' := by rw [hZ', show P.length + 2 = P'.length + 1 by omega]; simp
              have h3 : Z.drop (P.length + 1) = Q := by rw [hZ]; simp
              have h4 : P.length + 1 < Z.length := (List.getElem?_eq_some_iff.1 h1).1
              rw [List.drop_eq_getElem_cons h4, (List.getElem?_eq_some_iff.1 h1).2, h2] at h3
              exact h3.symm
            exact ⟨_, _, _, .two hk hn h2 ho P Q' S U (by rw [hZ, e]) hi hj⟩
          · exact ⟨_, _, _, .unfit2 hk hn h2 ho P Q P' Q' S U hZ hi hZ' hj hp⟩
        · exact ⟨_, _, _, .miss2 hk hn h2 ho P Q S hZ hi fun z hz e => ht ⟨z, hz, e⟩⟩
      · cases hf : fit1 c S with
        | true => exact ⟨_, _, _, .one hk hn h5 h2 ho P Q S hZ hi hf⟩
        | false => exact ⟨_, _, _, .unfit hk hn h5 h2 ho P Q S hZ hi hf⟩
    · exact ⟨_, _, _, .miss hk hn h5 ho fun z hz e => hs ⟨z, hz, e⟩⟩
  · exact ⟨_, _, _, .down hk hn h5 ho⟩
/-- One behind the other. -/
def ChnD : Int → List ShD → Int → Prop
  | a, [], b => a = b
  | a, x :: l, b => x.fr = a ∧ x.fr < x.to ∧ ChnD x.to l b
theorem chn_d : ∀ (X : List SX) (a b : Int), Chn a X b ↔ ChnD a (X.map (·.s)) b
  | [], a, b => Iff.rfl
  | x :: l, a, b => by rw [List.map_cons, Chn, ChnD, chn_d l x.s.to b]
theorem ChnD.append : ∀ (P Q : List ShD) (a b : Int), ChnD a (P ++ Q) b ↔ ∃ m, ChnD a P m ∧ ChnD m Q b
  | [], Q, a, b => ⟨fun h => ⟨a, rfl, h⟩, fun ⟨m, h1, h2⟩ => by have e : a = m := h1; subst e; exact h2⟩
  | x :: P, Q, a, b => by
    constructor
    · rintro ⟨h1, h2, h3⟩
      obtain ⟨m, h4, h5⟩ := (ChnD.append P Q _ b).1 h3
      exact ⟨m, ⟨h1, h2, h4⟩, h5⟩
    · rintro ⟨m, ⟨h1, h2, h4⟩, h5⟩
      exact ⟨h1, h2, (ChnD.append P Q _ b).2 ⟨m, h4, h5⟩⟩
theorem ChnD.le : ∀ (X : List ShD) (a b : Int), ChnD a X b → a ≤ b
  | [], a, b, h => by have e : a = b := h; omega
  | x :: l, a, b, ⟨h1, h2, h3⟩ => by have := ChnD.le l _ b h3; omega
theorem ChnD.mem : ∀ (X : List ShD) (a b : Int), ChnD a X b → ∀ x ∈ X, a ≤ x.fr ∧ x.fr < x.to ∧ x.to ≤ b
  | [], a, b, _, x, hx => by cases hx
  | y :: l, a, b, ⟨h1, h2, h3⟩, x, hx => by
    have hl := ChnD.le l _ b h3
    rcases List.mem_cons.1 hx with rfl | hx
    · exact ⟨by omega, h2, hl⟩
    · have := ChnD.mem l _ b h3 x hx
      exact ⟨by omega, this.2.1, this.2.2⟩
/-- What holds of each map of shards that comes of a new one by some changes. -/
structure Gd (B : Nat) (N : AtN) (Z : List ShD) : Prop where
  ch : ChnD 0 Z N.bl
  mb : ∀ S ∈ Z, memB S.mem = true
  pa : ∀ S ∈ Z, S.past.length ≤ 2 ∧ ∀ o ∈ S.past, memB o.mem = true
  id : ∀ S ∈ Z, 1 ≤ S.id ∧ S.id < N.nx
  ne : Z.Pairwise fun x y => x.id ≠ y.id
  nx : 2 ≤ N.nx ∧ N.nx ≤ B
  ep : 1 ≤ N.ep ∧ N.ep ≤ B
  len : Z.length ≤ B
  opl : N.op.length ≤ 2
  bl : 1 ≤ N.bl ∧ N.bl ≤ 256
theorem Gd.mono {B B' : Nat} {N : AtN} {Z : List ShD} (h : Gd B N Z) (hb : B ≤ B') : Gd B' N Z := ⟨h.ch, h.mb, h.pa, h.id, h.ne, ⟨h.nx.1, by have := h.nx.2; omega⟩, ⟨h.ep.1, by have := h.ep.2; omega⟩, by have := h.len; omega, h.opl, h.bl⟩
theorem nwD_len (ml : List Int) (ps : List OrD) : ∀ (l : List Sp) (nx : Int), (nwD nx ml ps l).length = l.length
  | [], nx => rfl
  | t :: l, nx => by rw [nwD, List.length_cons, List.length_cons, nwD_len ml ps l (nx + 1)]
theorem nwD_mem (ml : List Int) (ps : List OrD) : ∀ (l : List Sp) (nx : Int), ∀ x ∈ nwD nx ml ps l, x.mem = ml ∧ x.past = ps ∧ nx ≤ x.id ∧ x.id < nx + l.length
  | [], nx, x, hx => by cases hx
  | t :: l, nx, x, hx => by
    rw [List.length_cons]
    rcases List.mem_cons.1 hx with rfl | hx
    · exact ⟨rfl, rfl, by show nx ≤ nx; omega, by show nx < _; omega⟩
    · have := nwD_mem ml ps l (nx + 1) x hx
      exact ⟨this.1, this.2.1, by omega, by omega⟩
theorem nwD_ne (ml : List Int) (ps : List OrD) : ∀ (l : List Sp) (nx : Int), (nwD nx ml ps l).Pairwise fun x y => x.id ≠ y.id
  | [], nx => List.Pairwise.nil
  | t :: l, nx => List.pairwise_cons.2 ⟨fun y hy => by have := nwD_mem ml ps l (nx + 1) y hy; show nx ≠ y.id; omega, nwD_ne ml ps l (nx + 1)⟩
theorem memB_swD (l : List Int) (out in' : Int) (h : memB l = true) (hs : swB l out in' = true) : memB (swD l out in') = true := by
  obtain ⟨hr, hn, ho⟩ := mem_rise h
  have hs3 : out ∈ l ∧ in' ∉ l ∧ (0 ≤ in' ∧ in' < 7) := by simpa [swB, nodeB] using hs
  obtain ⟨k, hk, hke⟩ := List.mem_iff_getElem.1 hs3.1
  refine mem_of_rise (swD_rise _ _ _) (fun x hx => ?_) (by rw [swD_len l out in' k hk hke hr hn hs3.2.2 hs3.2.1]; exact ho)
  rcases (mem_swD l out in' x hs3.2.2 hn).1 hx with h | rfl
  · exact hn x h.1
  · exact hs3.2.2
/-- The middle is put anew. -/
theorem Gd.put {B : Nat} {N : AtN} {P G Q : List ShD} {ml : List Int} {sp : List Sp} (h : Gd B N (P ++ G ++ Q)) (hG : 1 ≤ G.length ∧ G.length ≤ 2) (hs : sp.length ≤ 2) (hm : memB ml = true) (hc : ∀ a t, ChnD a G t → ChnD a (nwD N.nx ml (G.map ShD.or) sp) t) : Gd (B + 2) (afD N sp) (P ++ nwD N.nx ml (G.map ShD.or) sp ++ Q) := by
  obtain ⟨t, h12, hq⟩ := (ChnD.append _ _ _ _).1 h.ch
  obtain ⟨f, hp, hg⟩ := (ChnD.append _ _ _ _).1 h12
  have hPm : ∀ S ∈ P, S ∈ P ++ G ++ Q := fun S hS => by simp [hS]
  have hGm : ∀ S ∈ G, S ∈ P ++ G ++ Q := fun S hS => by simp [hS]
  have hQm : ∀ S ∈ Q, S ∈ P ++ G ++ Q := fun S hS => by simp [hS]
  have hpg : ∀ o ∈ G.map ShD.or, memB o.mem = true := fun o ho => by
    obtain ⟨S, hS, rfl⟩ := List.mem_map.1 ho
    exact h.mb S (hGm S hS)
  have hcase : ∀ S ∈ P ++ nwD N.nx ml (G.map ShD.or) sp ++ Q, S ∈ P ++ G ++ Q ∨ S ∈ nwD N.nx ml (G.map ShD.or) sp := fun S hS => by
    rcases List.mem_append.1 hS with hS | hS
    · rcases List.mem_append.1 hS with hS | hS
      · exact .inl (hPm S hS)
      · exact .inr hS
    · exact .inl (hQm S hS)
  obtain ⟨hn12, hnq, hnx⟩ := List.pairwise_append.1 h.ne
  obtain ⟨hnp, hng, hnpg⟩ := List.pairwise_append.1 hn12
  refine ⟨(ChnD.append _ _ _ _).2 ⟨t, (ChnD.append _ _ _ _).2 ⟨f, hp, hc f t hg⟩, hq⟩, fun S hS => ?_, fun S hS => ?_, fun S hS => ?_, ?_, ⟨?_, ?_⟩, ⟨?_, ?_⟩, ?_, ?_, h.bl⟩
  · rcases hcase S hS with h1 | h1
    · exact h.mb S h1
    · rw [(nwD_mem _ _ _ _ S h1).1]; exact hm
  · rcases hcase S hS with h1 | h1
    · exact h.pa S h1
    · rw [(nwD_mem _ _ _ _ S h1).2.1, List.length_map]; exact ⟨hG.2, hpg⟩
  · show 1 ≤ S.id ∧ S.id < N.nx + sp.length
    rcases hcase S hS with h1 | h1
    · have := h.id S h1; omega
    · have := nwD_mem _ _ _ _ S h1; have := h.nx; omega
  · refine List.pairwise_append.2 ⟨List.pairwise_append.2 ⟨hnp, nwD_ne _ _ _ _, fun x hx y hy => ?_⟩, hnq, fun x hx y hy => ?_⟩
    · have := h.id x (hPm x hx); have := nwD_mem _ _ _ _ y hy; omega
    · rcases List.mem_append.1 hx with hx | hx
      · exact hnx x (by simp [hx]) y hy
      · have := h.id y (hQm y hy); have := nwD_mem _ _ _ _ x hx; omega
  · show 2 ≤ N.nx + sp.length; have := h.nx; omega
  · show N.nx + sp.length ≤ ((B + 2 : Nat) : Int); have := h.nx; omega
  · show 1 ≤ N.ep + 1; have := h.ep; omega
  · show N.ep + 1 ≤ ((B + 2 : Nat) : Int); have := h.ep; omega
  · have := h.len
    simp only [List.length_append, nwD_len] at this ⊢
    omega
  · show (opD N.nx sp.length).length ≤ 2; rw [opD_len]; exact hs
theorem spD_len (c : ChD) (fr tt : Int) : (spD c fr tt).length ≤ 2 ∧ 1 ≤ (spD c fr tt).length := by unfold spD; split <;> simp
theorem one_ch (c : ChD) (S : ShD) (ml : List Int) (ps : List OrD) (nx : Int) (hf : fit1 c S = true) (a t : Int) (h : ChnD a [S] t) : ChnD a (nwD nx ml ps (spD c S.fr S.to)) t := by
  obtain ⟨h1, h2, h3⟩ := h
  have h4 : S.to = t := h3
  unfold spD
  by_cases hk : c.k = 1
  · rw [if_pos hk]
    unfold fit1 at hf
    rw [if_pos hk] at hf
    simp at hf
    exact ⟨h1, hf.1, rfl, hf.2, h4⟩
  · rw [if_neg hk]
    exact ⟨h1, h2, h4⟩
theorem mlD_mb (c : ChD) (S : ShD) (h : memB S.mem = true) (hf : fit1 c S = true) : memB (mlD c S) = true := by
  unfold mlD
  split
  · rename_i hk
    unfold fit1 at hf
    rw [if_neg (by omega), if_pos hk] at hf
    exact memB_swD _ _ _ h hf
  · exact h
theorem gd_step {B : Nat} {N N' : AtN} {Z Z' : List ShD} {c : ChD} {r : Int} (h : Gd B N Z) (hs : StepR N Z c r N' Z') : Gd (B + 2) N' Z' := by
  cases hs with
  | bad _ => exact h.mono (by omega)
  | calm _ _ _ _ => exact h.mono (by omega)
  | settle _ _ _ _ =>
    have := h.mono (B' := B + 2) (by omega)
    exact ⟨this.ch, this.mb, this.pa, this.id, this.ne, this.nx, this.ep, this.len, by show (0 : Nat) ≤ 2; omega, this.bl⟩
  | down _ _ _ _ => exact h.mono (by omega)
  | miss _ _ _ _ _ => exact h.mono (by omega)
  | miss2 _ _ _ _ _ _ _ _ _ _ => exact h.mono (by omega)
  | unfit _ _ _ _ _ _ _ _ _ _ _ => exact h.mono (by omega)
  | unfit2 _ _ _ _ _ _ _ _ _ _ _ _ _ _ _ => exact h.mono (by omega)
  | one hk hn h5 h2 ho P Q S hZ hi hf =>
    have h' : Gd B N (P ++ [S] ++ Q) := by rw [hZ] at h; simpa using h
    exact h'.put ⟨by simp, by simp⟩ (spD_len c _ _).1 (mlD_mb c S (h'.mb S (by simp)) hf) fun a t ht => one_ch c S _ _ _ hf a t ht
  | two hk hn h2 ho P Q S U hZ hi hj =>
    have h' : Gd B N (P ++ [S, U] ++ Q) := by rw [hZ] at h; simpa using h
    refine h'.put ⟨by simp, by simp⟩ (by simp) (h'.mb S (by simp)) fun a t ht => ?_
    obtain ⟨h1, h2, h3, h4, h5⟩ := ht
    exact ⟨h1, by show S.fr < U.to; omega, h5⟩
end Go.Proofs.YtnkjkaofgninnaaGreat
