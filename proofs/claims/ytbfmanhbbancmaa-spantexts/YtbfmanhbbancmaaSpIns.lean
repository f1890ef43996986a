/- Rows of numbers of the document's own; what its in answers: a number more, in its place, if it is not there. Conditions: the row is the call's own, rises, and has at most a thousand million numbers. -/
import Derived.Test.YtbfmanhbbancmaaSpRefs
namespace Go.Proofs.Ytbfmanhbbancmaa
open Go.RowKit

theorem insE_behind (q : List Int) (n : Int) (h : ∀ y ∈ q, y < n) : insE q n = q ++ [n] := by
  induction q with
  | nil => rfl
  | cons z q ih =>
    have hz := h z List.mem_cons_self
    unfold insE
    rw [if_neg (by omega), if_neg (by omega), ih fun y hy => h y (List.mem_cons_of_mem _ hy)]
    rfl
theorem insE_within (q : List Int) (n x : Int) (hn : n ∉ q) (h : ∃ y ∈ q, n < y) : insE (q ++ [x]) n = insE q n ++ [x] := by
  induction q with
  | nil => obtain ⟨_, h, _⟩ := h; cases h
  | cons z q ih =>
    have hz : z ≠ n := fun e => hn (by rw [e]; exact List.mem_cons_self)
    rw [List.cons_append]
    unfold insE
    rw [if_neg hz, if_neg hz]
    by_cases hlt : n < z
    · rw [if_pos hlt, if_pos hlt]; rfl
    · rw [if_neg hlt, if_neg hlt, ih (fun hm => hn (List.mem_cons_of_mem _ hm)) ?_]
      · rfl
      · obtain ⟨y, hy, hny⟩ := h
        rcases List.mem_cons.1 hy with e | hy
        · exact absurd (e ▸ hny) hlt
        · exact ⟨y, hy, hny⟩
theorem insE_ahead (q : List Int) (n x : Int) (h : ∀ y ∈ q, y < n) (hx : n < x) : insE (q ++ [x]) n = q ++ [n] ++ [x] := by
  induction q with
  | nil =>
    show insE (x :: []) n = [n, x]
    unfold insE
    rw [if_neg (by omega), if_pos hx]
  | cons z q ih =>
    have hz := h z List.mem_cons_self
    rw [List.cons_append]
    unfold insE
    rw [if_neg (by omega), if_neg (by omega), ih fun y hy => h y (List.mem_cons_of_mem _ hy)]
    rfl
theorem insE_there (l : List Int) (n : Int) (hs : l.Pairwise fun x y => x < y) (h : n ∈ l) : insE l n = l := by
  induction l with
  | nil => cases h
  | cons z l ih =>
    obtain ⟨h1, h2⟩ := List.pairwise_cons.1 hs
    unfold insE
    by_cases hz : z = n
    · rw [if_pos hz]
    · rw [if_neg hz]
      rcases List.mem_cons.1 h with e | h
      · exact absurd e.symm hz
      · have := h1 n h
        rw [if_neg (by omega), ih h2 h]
/-- Numbers as values. -/
def ivs (l : List Int) : List Value := l.map fun x => .int .i64 x
/-- The value v is a row of the call's own, its numbers are l. -/
def OwnN (w : World) (base : Nat) (v : Value) (l : List Int) : Prop := w.ownsRow base 3 1 v l.length (ivs l)
theorem OwnN.nil (w : World) (base : Nat) : OwnN w base (.slice none 0 0) [] := World.ownsRow_nil _ _ _ _
theorem OwnN.shape {w : World} {base : Nat} {v : Value} {l : List Int} (h : OwnN w base v l) : ∃ va vc, v = .slice va l.length vc := by
  obtain ⟨h1, h2⟩ := h
  rcases h2 with ⟨rfl, h0⟩ | ⟨g, cap, cur, rfl, -⟩
  · exact ⟨none, 0, by rw [h0]⟩
  · exact ⟨_, _, rfl⟩
theorem OwnN.kept {w w' : World} {base : Nat} {v : Value} {l : List Int} (h : OwnN w base v l) (hb : ∀ k, base ≤ k → k < w.heap.size → w'.heap[k]? = w.heap[k]?) : OwnN w' base v l := by
  obtain ⟨h1, h2⟩ := h
  refine ⟨h1, ?_⟩
  rcases h2 with h2 | ⟨g, cap, cur, hv, hg, hh, r⟩
  · exact Or.inl h2
  · exact Or.inr ⟨g, cap, cur, hv, hg, by rw [hb g hg (lt_of_block hh)]; exact hh, r⟩
theorem OwnN.below {w w' : World} {base : Nat} {v : Value} {l : List Int} (h : OwnN w base v l) (hb : Below w.heap.size w w') : OwnN w' base v l := h.kept fun k _ hk => hb.block k hk
theorem OwnN.lower {w : World} {base base' : Nat} {v : Value} {l : List Int} (h : OwnN w base v l) (hb : base' ≤ base) : OwnN w base' v l := by
  obtain ⟨h1, h2⟩ := h
  refine ⟨h1, ?_⟩
  rcases h2 with h2 | ⟨g, cap, cur, hv, hg, r⟩
  · exact Or.inl h2
  · exact Or.inr ⟨g, cap, cur, hv, by omega, r⟩
theorem OwnN.at_lit {w : World} {base : Nat} {va : Option Addr} {vc : Nat} {l : List Int} (h : OwnN w base (.slice va l.length vc) l) (j : Nat) (hj : j < l.length) : ∃ g, va = some ⟨g, 0, none⟩ ∧ w.cell? ⟨g, j, none⟩ = some (.int .i64 l[j]) := by
  obtain ⟨h1, h2⟩ := id h
  rcases h2 with ⟨e, h0⟩ | ⟨g, cap, cur, e, -⟩
  · omega
  · cases e
    have := World.ownsRow.cells h rfl j (.int .i64 l[j]) (by simp [ivs, hj])
    exact ⟨g, rfl, by simpa [Addr.add_lit] using this⟩
theorem Try.underlyingIs : Try.prog.underlying 23 = some (.slice 3) := by kernel_rfl
theorem Try.infoI : (Try.prog.info? 3).map (fun i => (i.zero, i.size, i.bytes)) = some (some (.int .i64 0), 1, 8) := by kernel_rfl
theorem one_cellN {w : World} {g : Nat} {u : Value} (h : w.cell? ⟨g, 0, none⟩ = some u) : ∀ j x, [u][j]? = some x → w.cell? ((⟨g, 0, none⟩ : Addr).add j) = some x := by
  intro j x hj
  match j with
  | 0 => simp at hj; subst hj; exact h
  | j + 1 => simp at hj
theorem one_int (x : Int) : ∀ u ∈ [Value.int .i64 x], u.oneCell' = true := by intro u hu; simp at hu; subst hu; rfl
/-- A number more behind a row of the call's own. -/
theorem wpl_appendN {w : World} {ops : Array Oper} {rest : List Oper} {o : Oper} {a : Act} {Q : Exit → Act → World → Prop} (hgd : o.guard = none) (s x : Operand)
    (ho : o.op = .call { callee := .builtin .append, args := #[s, x], argTypes := #[23, 23] })
    (base : Nat) (v : Value) (l : List Int) (hs : a.eval s = v) (hown : OwnN w base v l) (g : Nat) (y : Int) (hx : a.eval x = .slice (some ⟨g, 0, none⟩) 1 1) (hg : w.cell? ⟨g, 0, none⟩ = some (.int .i64 y))
    (hl : l.length ≤ 1000000001) (hbase : base ≤ w.heap.size)
    (h : ∀ va vc m w', m = l ++ [y] → OwnN w' base (.slice va m.length vc) m → Below base w w' → wpList Try.prog ops Q rest (a.put o.dst (.slice va m.length vc)) w') :
    wpList Try.prog ops Q (o :: rest) a w := by
  obtain ⟨i, hi, hz0, hz1, hz2⟩ := info_parts Try.infoI
  refine wpList_append_own w hgd s x 23 ho base 3 i (.int .i64 0) 1 8 Try.underlyingIs hi hz0 hz1 hz2 rfl (by decide) v l.length (ivs l) hs hown ⟨g, 0, none⟩ 1 1 [.int .i64 y] hx rfl (one_cellN hg) (one_int y) (by unfold maxLen; omega) (by omega) hbase ?_
  intro v' w' ho' hg' _
  have ho2 : OwnN w' base v' (l ++ [y]) := by
    show w'.ownsRow _ _ _ _ (l ++ [y]).length (ivs (l ++ [y]))
    rw [List.length_append]
    have e : ivs (l ++ [y]) = ivs l ++ [.int .i64 y] := by simp [ivs]
    rw [e]; exact ho'
  obtain ⟨va, vc, rfl⟩ := ho2.shape
  refine h va vc _ w' rfl ho2 ⟨hg'.os, hg'.tape, hg'.output, hg'.size, fun k hk => hg'.block k (by omega) fun e => ?_⟩
  have := (World.ownsRow.lt hown k e.symm).1
  omega
/-- What in has laid of a beginning of the row. -/
structure InsI (p : List Int) (n : Int) (laid : Bool) (q : List Int) : Prop where
  out : n ∉ p
  yes : laid = true → (∃ y ∈ p, n < y) ∧ q = insE p n
  no : laid = false → (∀ y ∈ p, y < n) ∧ q = p
theorem InsI.start (n : Int) : InsI [] n false [] := ⟨by simp, (fun h => by cases h), (fun _ => ⟨(fun y hy => by cases hy), rfl⟩)⟩
theorem InsI.len {p : List Int} {n : Int} {laid : Bool} {q : List Int} (h : InsI p n laid q) : q.length ≤ p.length + 1 := by
  cases laid with
  | false => rw [(h.no rfl).2]; omega
  | true =>
    rw [(h.yes rfl).2]
    have : ∀ p : List Int, (insE p n).length ≤ p.length + 1 := by
      intro p
      induction p with
      | nil => simp [insE]
      | cons z p ih =>
        unfold insE
        split
        · simp
        · split
          · simp
          · simp; exact ih
    exact this p
theorem InsI.end {p : List Int} {n : Int} {laid : Bool} {q : List Int} (h : InsI p n laid q) : (laid = true → q = insE p n) ∧ (laid = false → q ++ [n] = insE p n) :=
  ⟨fun e => (h.yes e).2, fun e => by rw [(h.no e).2, insE_behind p n (h.no e).1]⟩
theorem InsI.put {p : List Int} {n x : Int} {q : List Int} (h : InsI p n false q) (hx : n < x) : InsI (p ++ [x]) n true (q ++ [n] ++ [x]) := by
  obtain ⟨h1, h2⟩ := h.no rfl
  subst h2
  exact ⟨by simp; exact ⟨h.out, by omega⟩, fun _ => ⟨⟨x, by simp, hx⟩, (insE_ahead q n x h1 hx).symm⟩, fun e => by cases e⟩
theorem InsI.on {p : List Int} {n x : Int} {laid : Bool} {q : List Int} (h : InsI p n laid q) (hx : x ≠ n) (hl : laid = false → ¬ n < x) : InsI (p ++ [x]) n laid (q ++ [x]) := by
  refine ⟨by simp; exact ⟨h.out, fun e => hx e.symm⟩, fun e => ?_, fun e => ?_⟩
  · obtain ⟨⟨y, hy, hn⟩, h2⟩ := h.yes e
    exact ⟨⟨y, by simp [hy], hn⟩, by rw [h2, insE_within p n x h.out ⟨y, hy, hn⟩]⟩
  · obtain ⟨h1, h2⟩ := h.no e
    have := hl e
    refine ⟨fun y hy => ?_, by rw [h2]⟩
    rcases List.mem_append.1 hy with hy | hy
    · exact h1 y hy
    · rw [List.mem_singleton.1 hy]; omega
theorem take_next (l : List Int) (i : Nat) (h : i < l.length) : l.take (i + 1) = l.take i ++ [l[i]] := List.take_succ_eq_append_getElem h
theorem new_cellN (w : World) (x : Int) : (w.alloc (.cells #[.int .i64 x] 3)).cell? ⟨w.heap.size, 0, none⟩ = some (.int .i64 x) := by rw [cell_of_row _ _ _ _ _ _ (heap_alloc_new _ _)]; rfl
set_option maxRecDepth 100000 in
set_option maxHeartbeats 3200000 in
theorem rin_any (B : Nat) (v : Value) (l : List Int) (n : Int) (w : World) (hv : OwnN w B v l) (hB : B ≤ w.heap.size) (hl : l.length ≤ 1000000000) (hs : l.Pairwise fun x y => x < y) :
    Calls Try.prog 35 #[v, .int .i64 n] w fun e w' => ∃ va vc, e = .returned (.slice va (insE l n).length vc) ∧ OwnN w' B (.slice va (insE l n).length vc) (insE l n) ∧ Below w.heap.size w w' := by
  have HV := hid hv
  obtain ⟨ao, cap, rfl⟩ := hv.shape
  clear hv
  have HS := hid hs
  have HBB := hid hB
  clear hs
  obtain ⟨r, hr⟩ : ∃ r, r = insE l n := ⟨_, rfl⟩
  rw [← hr]
  have HR := hid hr
  clear hr
  go_enter Try.func35, Try.ntmps35
  go_wp2_with fail
  go_loopw [5, 6, 8, 11] (fun ov lv _ iv wr => ∃ (i : Nat) (va : Option Addr) (vc : Nat) (laid : Bool) (q : List Int), iv = .int .i64 i ∧ lv = .bool laid ∧ ov = .slice va q.length vc ∧ i ≤ l.length ∧ InsI (l.take i) n laid q ∧ OwnN wr w.heap.size (.slice va q.length vc) q ∧ Below w.heap.size w wr) (fun _ _ _ iv _ => l.length - (intOf iv).toNat)
  case atStart => exact ⟨0, none, 0, false, [], rfl, rfl, rfl, Nat.zero_le _, by simpa using InsI.start n, OwnN.nil _ _, Below.refl _ _⟩
  case round =>
    obtain ⟨i, va, vc, laid, q, rfl, rfl, rfl, hi, hin, ho, hb⟩ := hrel
    have HI := hid hin
    have OA := hid ho
    have BA := hid hb
    have hq := hin.len
    have LA : Hid (q.length ≤ 1000000001) := hid (by simp at hq; omega)
    clear hin ho hb
    by_cases hlt : i < l.length
    · obtain ⟨g, rfl, c0⟩ := (HV.out.below (BA.out.mono (Nat.le_refl _))).at_lit i hlt
      obtain ⟨x, hx⟩ : ∃ x, x = l[i] := ⟨_, rfl⟩
      rw [← hx] at c0
      have HX := hid hx
      have HTN : Hid (l.take (i + 1) = l.take i ++ [x]) := hid (by rw [take_next l i hlt, ← hx])
      clear hx
      by_cases hxn : x = n
      · have hxn' : (x == n) = true := by simpa using hxn
        have HE : Hid (r = l) := hid (by rw [HR.out]; exact insE_there l n HS.out (by rw [← hxn, HX.out]; exact List.getElem_mem hlt))
        clear hxn
        go_wp2
        go_ret
        refine ⟨some ⟨g, 0, none⟩, cap, by rw [HE.out]; rfl, ?_, BA.out⟩
        rw [HE.out]
        exact HV.out.below BA.out
      · have hxn' : (x == n) = false := by simpa using hxn
        have HXN := hid hxn
        clear hxn
        cases laid with
        | true =>
          have HN : Hid (InsI (l.take (i + 1)) n true (q ++ [x])) := hid (by rw [HTN.out]; exact HI.out.on HXN.out (fun e => by cases e))
          by_cases hnx : n < x
          all_goals
            go_wp2_with (at_builtin; refine wpl_appendN rfl _ _ rfl w.heap.size _ _ rfl (OA.out.below ((Below.refl _ _).alloc (Nat.le_refl _) _)) _ x rfl (new_cellN _ _) LA.out (Nat.le_trans BA.out.size (by simp)) ?_; intro va1 vc1 m1 w1 hm1 ho1 hb1; have HM1 := hid hm1; have OB := hid ho1; have BB := hid ((BA.out.alloc BA.out.size (.cells #[.int .i64 x] 3)).trans hb1); clear hm1 ho1 hb1)
            go_wp2
            go_roundw
            case rel => exact ⟨i + 1, va1, vc1, true, m1, by go_num, rfl, rfl, by omega, by rw [HM1.out]; exact HN.out, OB.out, BB.out⟩
            case measure => simp [intOf]; omega
        | false =>
          by_cases hnx : n < x
          · have HN : Hid (InsI (l.take (i + 1)) n true (q ++ [n] ++ [x])) := hid (by rw [HTN.out]; exact HI.out.put hnx)
            have LB0 : Hid ((q ++ [n]).length ≤ 1000000001) := hid (by simp at hq ⊢; have := HI.out.no rfl; rw [this.2]; simp; omega)
            go_wp2_with (first | (at_builtin; refine wpl_appendN rfl _ _ rfl w.heap.size _ _ rfl (OA.out.below ((Below.refl _ _).alloc (Nat.le_refl _) _)) _ n rfl (new_cellN _ _) LA.out (Nat.le_trans BA.out.size (by simp)) ?_; intro va1 vc1 m1 w1 hm1 ho1 hb1; have HM1 := hid hm1; have OB := hid ho1; have BB := hid ((BA.out.alloc BA.out.size (.cells #[.int .i64 n] 3)).trans hb1); clear hm1 ho1 hb1) | (at_builtin; refine wpl_appendN rfl _ _ rfl w.heap.size _ m1 rfl (OB.out.below ((Below.refl _ _).alloc (Nat.le_refl _) _)) _ x rfl (new_cellN _ _) (by rw [HM1.out]; exact LB0.out) (Nat.le_trans BB.out.size (by simp)) ?_; intro va2 vc2 m2 w2 hm2 ho2 hb2; have HM2 := hid hm2; have OC := hid ho2; have BC := hid ((BB.out.alloc BB.out.size (.cells #[.int .i64 x] 3)).trans hb2); clear hm2 ho2 hb2))
            go_wp2
            go_roundw
            case rel => exact ⟨i + 1, va2, vc2, true, m2, by go_num, rfl, rfl, by omega, by rw [HM2.out, HM1.out]; exact HN.out, OC.out, BC.out⟩
            case measure => simp [intOf]; omega
          · have HN : Hid (InsI (l.take (i + 1)) n false (q ++ [x])) := hid (by rw [HTN.out]; exact HI.out.on HXN.out (fun _ => hnx))
            go_wp2_with (at_builtin; refine wpl_appendN rfl _ _ rfl w.heap.size _ _ rfl (OA.out.below ((Below.refl _ _).alloc (Nat.le_refl _) _)) _ x rfl (new_cellN _ _) LA.out (Nat.le_trans BA.out.size (by simp)) ?_; intro va1 vc1 m1 w1 hm1 ho1 hb1; have HM1 := hid hm1; have OB := hid ho1; have BB := hid ((BA.out.alloc BA.out.size (.cells #[.int .i64 x] 3)).trans hb1); clear hm1 ho1 hb1)
            go_wp2
            go_roundw
            case rel => exact ⟨i + 1, va1, vc1, false, m1, by go_num, rfl, rfl, by omega, by rw [HM1.out]; exact HN.out, OB.out, BB.out⟩
            case measure => simp [intOf]; omega
    · have htk : l.take i = l := List.take_of_length_le (by omega)
      have hend := HI.out.end
      rw [htk, ← HR.out] at hend
      clear htk
      cases laid with
      | true =>
        have HQ := hid (hend.1 rfl)
        clear hend
        go_wp2
        go_ret
        refine ⟨va, vc, by rw [← HQ.out]; rfl, ?_, BA.out⟩
        rw [← HQ.out]
        exact OA.out.lower HBB.out
      | false =>
        have HQ := hid (hend.2 rfl)
        clear hend
        go_wp2_with (at_builtin; refine wpl_appendN rfl _ _ rfl w.heap.size _ _ rfl (OA.out.below ((Below.refl _ _).alloc (Nat.le_refl _) _)) _ n rfl (new_cellN _ _) LA.out (Nat.le_trans BA.out.size (by simp)) ?_; intro va1 vc1 m1 w1 hm1 ho1 hb1; have HM1 := hid hm1; have OB := hid ho1; have BB := hid ((BA.out.alloc BA.out.size (.cells #[.int .i64 n] 3)).trans hb1); clear hm1 ho1 hb1)
        have HQ2 : Hid (m1 = r) := hid (HM1.out.trans HQ.out)
        go_wp2
        go_ret
        refine ⟨va1, vc1, by rw [← HQ2.out]; rfl, ?_, BB.out⟩
        rw [← HQ2.out]
        exact OB.out.lower HBB.out
end Go.Proofs.Ytbfmanhbbancmaa
