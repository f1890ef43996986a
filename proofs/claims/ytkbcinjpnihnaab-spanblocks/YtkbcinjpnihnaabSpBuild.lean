/- What the document's Build answers. Conditions: the rows lie in memory, one truth for each end, at most ten million ends. -/
import Derived.Test.YtkbcinjpnihnaabSpBuildS
import Derived.Test.YtkbcinjpnihnaabSpLay
import Derived.Deep.RegionHeld3
namespace Go.Proofs.Ytkbcinjpnihnaab
open Go.RowKit

/-- 'append(s, x)' of one span within a statement that draws its order. -/
theorem step_appendS {ops : Array Oper} {o : Oper} {a : Act} {w : World} {K : Act → World → Prop} {Q : Exit → Act → World → Prop} {E : Prop} (hgd : o.guard = none) (s x : Operand)
    (ho : o.op = .call { callee := .builtin .append, args := #[s, x], argTypes := #[22, 22] })
    (base : Nat) (v : Value) (l : List Sp) (hs : a.eval s = v) (hown : OwnS w base v l) (g : Nat) (y : Sp) (hx : a.eval x = .slice (some ⟨g, 0, none⟩) 1 1) (hg : w.heap[g]? = some (.cells #[.int .i64 y.1, .int .i64 y.2] 29 (0, 0)))
    (hl : l.length ≤ 1000000001) (hbase : base ≤ w.heap.size)
    (h : ∀ va vc m w', m = l ++ [y] → OwnS w' base (.slice va m.length vc) m → w.grownBy w' v.ownBlock → K (a.put o.dst (.slice va m.length vc)) w') :
    if Region.wanted o (yielded ops a.tmps) = true then Oper.wp Try.prog o a w K Q else E := by
  have hw : Region.wanted o (yielded ops a.tmps) = true := by simp [Region.wanted, hgd]
  rw [if_pos hw]
  obtain ⟨i, hi, hz0, hz1, hz2⟩ := info_parts Try.infoSp
  refine wp_append_own w s x 22 ho base 29 i (.agg #[.int .i64 0, .int .i64 0]) 2 16 Try.underlyingSs hi hz0 hz1 hz2 rfl (by decide) v l.length (flat l) hs hown ⟨g, 0, none⟩ 1 1 [.int .i64 y.1, .int .i64 y.2] hx rfl ?_ (flat_one [y]) (by unfold maxLen; omega) (by omega) hbase ?_
  · intro j u hj
    match j with
    | 0 => simp at hj; subst hj; rw [Addr.add_lit, cell_of_row w g _ _ _ _ hg]; rfl
    | 1 => simp at hj; subst hj; rw [Addr.add_lit, cell_of_row w g _ _ _ _ hg]; rfl
    | j + 2 => simp at hj
  · intro v' w' ho' hg' _
    have ho2 : OwnS w' base v' (l ++ [y]) := by
      show w'.ownsRow _ _ _ _ (l ++ [y]).length (flat (l ++ [y]))
      rw [List.length_append, flat_append]; exact ho'
    obtain ⟨va, vc, rfl⟩ := ho2.shape
    exact h va vc _ w' rfl ho2 hg'
def bvs (l : List Bool) : List Value := l.map fun x => .bool x
/-- The value v is a row of truths. -/
def OwnB (w : World) (base : Nat) (v : Value) (l : List Bool) : Prop := w.ownsRow base 4 1 v l.length (bvs l)
theorem OwnB.shape {w : World} {base : Nat} {v : Value} {l : List Bool} (h : OwnB w base v l) : ∃ va vc, v = .slice va l.length vc := by
  obtain ⟨h1, h2⟩ := h
  rcases h2 with ⟨rfl, h0⟩ | ⟨g, cap, cur, rfl, -⟩
  · exact ⟨none, 0, by rw [h0]⟩
  · exact ⟨_, _, rfl⟩
theorem OwnB.below {w w' : World} {base : Nat} {v : Value} {l : List Bool} (h : OwnB w base v l) (hb : Below w.heap.size w w') : OwnB w' base v l := by
  obtain ⟨h1, h2⟩ := h
  refine ⟨h1, ?_⟩
  rcases h2 with h2 | ⟨g, cap, cur, hv, hg, hh, r⟩
  · exact Or.inl h2
  · exact Or.inr ⟨g, cap, cur, hv, hg, by rw [hb.block g (lt_of_block hh)]; exact hh, r⟩
theorem OwnB.at_lit {w : World} {base : Nat} {va : Option Addr} {vc : Nat} {l : List Bool} (h : OwnB w base (.slice va l.length vc) l) (j : Nat) (hj : j < l.length) : ∃ g, va = some ⟨g, 0, none⟩ ∧ w.cell? ⟨g, j, none⟩ = some (.bool l[j]) := by
  have h' : w.ownsRow base 4 1 (.slice va l.length vc) l.length (bvs l) := h
  obtain ⟨h1, h2⟩ := h
  rcases h2 with ⟨_, h0⟩ | ⟨g, cap, cur, e, -⟩
  · omega
  · cases e
    refine ⟨g, rfl, ?_⟩
    have := h'.cells (g := g) rfl j (.bool l[j]) (by simp [bvs, hj])
    rw [Addr.add_lit] at this
    simpa using this
theorem buildN_len (E : List Int) (ks : List Bool) (i : Nat) : (buildN E ks i).length ≤ i := by
  induction i with
  | zero => simp [buildN, parts2]
  | succ i ih =>
    rw [buildN_next]
    split
    · have : ∀ (p : List Sp) (x : Sp), (putL p x).length ≤ p.length + 1 := by
        intro p x
        rcases List.eq_nil_or_concat p with rfl | ⟨q, y, rfl⟩
        · simp [putL]
        · rw [List.concat_eq_append, putL_snoc]; split <;> simp
      have := this (buildN E ks i) (E.getD i 0, E.getD (i + 1) 0)
      omega
    · omega
set_option maxRecDepth 100000 in
set_option maxHeartbeats 4000000 in
theorem rbuild_any (ev kv : Value) (E : List Int) (ks : List Bool) (B1 B2 : Nat) (w : World) (he : OwnN w B1 ev E) (hk : OwnB w B2 kv ks) (hlen : ks.length = E.length) (hl : E.length ≤ 10000000) :
    Calls Try.prog 37 #[ev, kv] w fun e w' => ∃ va vc, e = .returned (.slice va (buildN E ks (E.length - 1)).length vc) ∧ OwnS w' w.heap.size (.slice va (buildN E ks (E.length - 1)).length vc) (buildN E ks (E.length - 1)) ∧ Below w.heap.size w w' := by
  have HE := hid he
  have HK := hid hk
  obtain ⟨ea, ec, rfl⟩ := he.shape
  obtain ⟨ka, kc, rfl⟩ := hk.shape
  clear he hk
  rw [hlen] at HK ⊢
  have HLEN := hid hlen
  clear hlen
  go_enter Try.func37, Try.ntmps37
  go_wp2_with fail
  go_loopw [5, 6] (fun ov iv wr => ∃ (i : Nat) (va : Option Addr) (vc : Nat) (p : List Sp), iv = .int .i64 i ∧ ov = .slice va p.length vc ∧ i ≤ E.length - 1 ∧ p = buildN E ks i ∧ OwnS wr w.heap.size (.slice va p.length vc) p ∧ Below w.heap.size w wr) (fun _ iv _ => E.length - (intOf iv).toNat)
  case atStart => exact ⟨0, none, 0, [], rfl, rfl, Nat.zero_le _, rfl, OwnS.nil _ _, Below.refl _ _⟩
  case round =>
    obtain ⟨i, va, vc, p, rfl, rfl, hi, hp, ho, hb⟩ := hrel
    have HP := hid hp
    have HO := hid ho
    have HB := hid hb
    have LP : Hid (p.length ≤ 10000000) := hid (by rw [hp]; have := buildN_len E ks i; omega)
    clear hp ho hb
    by_cases hlt : i + 1 < E.length
    · have hltI : (i : Int) + 1 < (E.length : Int) := by omega
      obtain ⟨ge, rfl, ce0⟩ := HE.out.at_lit i (by omega)
      obtain ⟨ge', hge, ce1⟩ := HE.out.at_lit (i + 1) hlt
      cases hge
      have hki : i < ks.length := by rw [HLEN.out]; omega
      have hk' : OwnB w B2 (.slice ka ks.length kc) ks := by rw [HLEN.out]; exact HK.out
      obtain ⟨gk, rfl, ck0⟩ := hk'.at_lit i hki
      have HNX := hid (buildN_next E ks i)
      have g0 : E.getD i 0 = E[i]'(by omega) := by simp [List.getD, List.getElem?_eq_getElem (show i < E.length by omega)]
      have g1 : E.getD (i + 1) 0 = E[i + 1]'hlt := by simp [List.getD, List.getElem?_eq_getElem hlt]
      have gk : ks.getD i false = ks[i]'hki := by simp [List.getD, List.getElem?_eq_getElem hki]
      rw [g0, g1, gk, ← HP.out] at HNX
      clear g0 g1 gk hk'
      generalize E[i]'(by omega) = x at ce0 HNX
      generalize E[i + 1]'hlt = y at ce1 HNX
      generalize ks[i]'hki = kb at ck0 HNX
      have c0 := cell_later HB.out ce0
      have c1 := cell_later HB.out ce1
      have ck := cell_later HB.out ck0
      have hi0 : (0 : Int) ≤ (i : Int) := by omega
      have hi1 : (i : Int) < (E.length : Int) := by omega
      have hi2 : (0 : Int) ≤ (i : Int) + 1 := by omega
      have hwr : IntKind.i64.wrap ((i : Int) + 1) = (i : Int) + 1 := IntWalk.i64_in _ ⟨by omega, by omega⟩
      have hin : 0 ≤ (i : Int) + 1 ∧ (i : Int) + 1 < (E.length : Int) := ⟨hi2, hltI⟩
      have hge : ge < w.heap.size := World.block_lt_of_cell? _ _ ce0
      clear ce0 ce1 ck0
      cases kb with
      | false =>
        go_wp2_with fail
        go_roundw
        case rel => exact ⟨i + 1, va, vc, p, by go_num, rfl, by omega, by have := HNX.out; simp at this; exact this.symm, HO.out, HB.out⟩
        case measure => simp [intOf]; omega
      | true =>
        have HN2 : Hid (buildN E ks (i + 1) = putL p (x, y)) := hid (by have := HNX.out; simpa using this)
        clear HNX
        rcases List.eq_nil_or_concat p with rfl | ⟨q, z, rfl⟩
        · simp only [List.length_nil] at HO LP ⊢
          have hd : decide ((0 : Int) ≤ -1) = false := by decide
          have hlp : ([] : List Sp).length ≤ 1000000001 := by simp
          go_wp2_with fail
          go_quiet (fail)
          obtain ⟨W, hW⟩ : ∃ W, W = wr.drewN nq := ⟨_, rfl⟩
          rw [← hW]
          have BW : Hid (Below wr.heap.size wr W) := hid (by rw [hW]; exact ⟨rfl, rfl, rfl, Nat.le_refl _, fun _ _ => rfl⟩)
          have OW := hid (HO.out.below BW.out)
          have SW : Hid (∀ X, Below W.heap.size W X → X.cell? ⟨ge, i, none⟩ = some (.int .i64 x) ∧ X.cell? ⟨ge, i + 1, none⟩ = some (.int .i64 y)) := hid fun X hX => ⟨cell_later hX (cell_later BW.out c0), cell_later hX (cell_later BW.out c1)⟩
          have hsW : w.heap.size ≤ W.heap.size := Nat.le_trans HB.out.size BW.out.size
          have OX := hid (OW.out.below (((Below.refl W.heap.size W).drew).alloc (Nat.le_refl _) (.cells #[.int .i64 x, .int .i64 y] 29)))
          have hsX : w.heap.size ≤ (W.drew.alloc (.cells #[.int .i64 x, .int .i64 y] 29)).heap.size := Nat.le_trans hsW (by simp)
          have SWW := hid (SW.out W (Below.refl _ _))
          clear hW c0 c1 ck
          go_wp2_with fail
          go_region_held3 (fun X => X.cell? ⟨ge, i, none⟩ = some (.int .i64 x) ∧ X.cell? ⟨ge, i + 1, none⟩ = some (.int .i64 y)) (first | exact SW.out _ ((Below.refl _ _).drew) | exact SW.out _ (((Below.refl _ _).drew).alloc (Nat.le_refl _) _) | exact SW9.out) (first | (refine step_appendS rfl (.tmp 46) (.tmp 57) rfl w.heap.size _ _ rfl OX.out W.heap.size (x, y) rfl (heap_alloc_new _ _) hlp hsX ?_; intro va9 vc9 m9 w9 hm9 ho9 hg9; have O9 := hid ho9; have M9 := hid hm9; have B9 : Hid (Below w.heap.size W w9) := hid (((((Below.refl w.heap.size W).drew).alloc hsW _)).trans (belowS_grown OX.out hg9 hsX)); have SW9 : Hid (w9.cell? ⟨ge, i, none⟩ = some (.int .i64 x) ∧ w9.cell? ⟨ge, i + 1, none⟩ = some (.int .i64 y)) := hid ⟨(B9.out.cell (p := ⟨ge, i, none⟩) hge).trans SWW.out.1, (B9.out.cell (p := ⟨ge, i + 1, none⟩) hge).trans SWW.out.2⟩; clear ho9 hm9 hg9))
          go_wp2_with fail
          go_roundw
          case rel => exact ⟨i + 1, va9, vc9, m9, by go_num, rfl, by omega, by rw [HN2.out, M9.out]; rfl, O9.out, (HB.out.trans (BW.out.mono HB.out.size)).trans B9.out⟩
          case measure => simp [intOf]; omega
        · rw [List.concat_eq_append] at *
          have hnl : (q ++ [z]).length = q.length + 1 := by simp
          have hva : ∃ g, va = some ⟨g, 0, none⟩ := by
            obtain ⟨h1, h2⟩ := HO.out
            rcases h2 with ⟨_, h0⟩ | ⟨g, cap, cur, e, -⟩
            · omega
            · cases e; exact ⟨g, rfl⟩
          obtain ⟨g, rfl⟩ := hva
          have hpl := LP.out
          rw [hnl] at HO hpl ⊢
          obtain ⟨n, hn⟩ : ∃ n, n = q.length := ⟨_, rfl⟩
          rw [← hn] at HO hpl ⊢
          obtain ⟨a, c⟩ := z
          have hA : (⟨g, 0, none⟩ : Addr).add (n * 2 + 1) = ⟨g, n * 2 + 1, none⟩ := by rw [Addr.add_lit]; simp
          have HOn : Hid (wr.ownsRow w.heap.size 29 2 (.slice (some ⟨g, 0, none⟩) (n + 1) vc) (n + 1) (flat (q ++ [(a, c)]))) := hid (by have := HO.out; unfold OwnS at this; rwa [hnl, ← hn] at this)
          have hc : wr.cell? ⟨g, n * 2 + 1, none⟩ = some (.int .i64 c) := by
            have := World.ownsRow.cells HOn.out (g := g) rfl (n * 2 + 1) (.int .i64 c) (by
              have := (flat_at (q ++ [(a, c)]) n (by simp [hn])).2
              rw [this]; simp [hn])
            rwa [hA] at this
          have hfz : wr.frozen? ⟨g, n * 2 + 1, none⟩ = false := World.ownsRow.frozenAt HOn.out _
          have HN := hid hn
          have HGB := hid (World.ownsRow.lt HO.out g rfl)
          have hn0 : (0 : Int) ≤ (n : Int) := by omega
          have hn0' : decide ((0 : Int) ≤ (n : Int)) = true := decide_eq_true hn0
          have hn1 : (n : Int) < (n : Int) + 1 := by omega
          have hn2 : (n : Int) ≤ 10000000 := by omega
          clear hn hA hnl hpl
          by_cases hcx : c = x
          · have HE2 : Hid (putL (q ++ [(a, c)]) (x, y) = q ++ [(a, y)]) := hid (by rw [putL_snoc, if_pos hcx])
            have hbe : (c == x) = true := by simpa using hcx
            clear hcx LP
            go_wp2_with fail
            go_quiet (fail)
            go_wp2_with fail
            have hse : (q ++ [(a, c)]).set n (a, y) = q ++ [(a, y)] := by have := HN.out; subst this; simp
            have hnl : (q ++ [(a, c)]).length = n + 1 := by have := HN.out; simp [this]
            have hlq : (q ++ [(a, y)]).length = n + 1 := by have := HN.out; simp [this]
            have hgt : (q ++ [(a, c)])[n]'(by rw [hnl]; omega) = (a, c) := by have := HN.out; subst this; simp
            have hfs := flat_set (q ++ [(a, c)]) n (by rw [hnl]; omega) y
            rw [hgt, hse] at hfs
            have h' : (wr.drewN nq).ownsRow w.heap.size 29 2 (.slice (some ⟨g, 0, none⟩) (n + 1) vc) (n + 1) (flat (q ++ [(a, c)])) := by
              have := HO.out.below (show Below wr.heap.size wr (wr.drewN nq) from ⟨rfl, rfl, rfl, Nat.le_refl _, fun _ _ => rfl⟩); unfold OwnS at this; rwa [hnl] at this
            have hst := (World.ownsRow.stored h' (n * 2 + 1) (.int .i64 y)).1
            rw [hfs] at hst
            go_roundw
            case rel =>
              refine ⟨i + 1, some ⟨g, 0, none⟩, vc, q ++ [(a, y)], by go_num, by rw [hlq], by omega, by rw [HN2.out, HE2.out], ?_, ?_⟩
              · rw [hlq]; unfold OwnS; rw [hlq]; exact hst
              · exact (HB.out.trans (show Below w.heap.size wr (wr.drewN nq) from ⟨rfl, rfl, rfl, Nat.le_refl _, fun _ _ => rfl⟩)).setCell (p := ⟨g, n * 2 + 1, none⟩) HGB.out.1 _
            case measure => simp [intOf]; omega
          · have HE2 : Hid (putL (q ++ [(a, c)]) (x, y) = (q ++ [(a, c)]) ++ [(x, y)]) := hid (by rw [putL_snoc, if_neg hcx])
            have hbe : (c == x) = false := by simpa using hcx
            have hlp : (q ++ [(a, c)]).length ≤ 1000000001 := by have := LP.out; omega
            clear hcx
            go_wp2_with fail
            go_quiet (fail)
            obtain ⟨W, hW⟩ : ∃ W, W = wr.drewN nq := ⟨_, rfl⟩
            rw [← hW]
            have BW : Hid (Below wr.heap.size wr W) := hid (by rw [hW]; exact ⟨rfl, rfl, rfl, Nat.le_refl _, fun _ _ => rfl⟩)
            have OW := hid (HO.out.below BW.out)
            have SW : Hid (∀ X, Below W.heap.size W X → X.cell? ⟨ge, i, none⟩ = some (.int .i64 x) ∧ X.cell? ⟨ge, i + 1, none⟩ = some (.int .i64 y)) := hid fun X hX => ⟨cell_later hX (cell_later BW.out c0), cell_later hX (cell_later BW.out c1)⟩
            have hsW : w.heap.size ≤ W.heap.size := Nat.le_trans HB.out.size BW.out.size
            have OX := hid (OW.out.below (((Below.refl W.heap.size W).drew).alloc (Nat.le_refl _) (.cells #[.int .i64 x, .int .i64 y] 29)))
            have hsX : w.heap.size ≤ (W.drew.alloc (.cells #[.int .i64 x, .int .i64 y] 29)).heap.size := Nat.le_trans hsW (by simp)
            have SWW := hid (SW.out W (Below.refl _ _))
            clear hW c0 c1 ck
            go_wp2_with fail
            go_region_held3 (fun X => X.cell? ⟨ge, i, none⟩ = some (.int .i64 x) ∧ X.cell? ⟨ge, i + 1, none⟩ = some (.int .i64 y)) (first | exact SW.out _ ((Below.refl _ _).drew) | exact SW.out _ (((Below.refl _ _).drew).alloc (Nat.le_refl _) _) | exact SW9.out) (first | (refine step_appendS rfl (.tmp 46) (.tmp 57) rfl w.heap.size _ _ rfl OX.out W.heap.size (x, y) rfl (heap_alloc_new _ _) hlp hsX ?_; intro va9 vc9 m9 w9 hm9 ho9 hg9; have O9 := hid ho9; have M9 := hid hm9; have B9 : Hid (Below w.heap.size W w9) := hid (((((Below.refl w.heap.size W).drew).alloc hsW _)).trans (belowS_grown OX.out hg9 hsX)); have SW9 : Hid (w9.cell? ⟨ge, i, none⟩ = some (.int .i64 x) ∧ w9.cell? ⟨ge, i + 1, none⟩ = some (.int .i64 y)) := hid ⟨(B9.out.cell (p := ⟨ge, i, none⟩) hge).trans SWW.out.1, (B9.out.cell (p := ⟨ge, i + 1, none⟩) hge).trans SWW.out.2⟩; clear ho9 hm9 hg9))
            go_wp2_with fail
            go_roundw
            case rel => exact ⟨i + 1, va9, vc9, m9, by go_num, rfl, by omega, by rw [HN2.out, M9.out, HE2.out], O9.out, (HB.out.trans (BW.out.mono HB.out.size)).trans B9.out⟩
            case measure => simp [intOf]; omega
    · have hltI : ¬ (i : Int) + 1 < (E.length : Int) := by omega
      have hie : i = E.length - 1 := by omega
      have HPE : Hid (p = buildN E ks (E.length - 1)) := hid (by rw [← hie]; exact HP.out)
      clear HP hie
      go_wp2_with fail
      go_ret
      rw [← HPE.out]
      exact ⟨va, vc, rfl, HO.out, HB.out⟩
end Go.Proofs.Ytkbcinjpnihnaab
