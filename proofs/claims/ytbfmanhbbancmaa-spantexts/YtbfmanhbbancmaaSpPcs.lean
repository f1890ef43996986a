/- What the document's Pieces answers. Conditions: at most a million things were done. -/
import Derived.Test.YtbfmanhbbancmaaSpPcsS
import Derived.Test.YtbfmanhbbancmaaSpBuild
import Derived.BigQuiet
namespace Go.Proofs.Ytbfmanhbbancmaa
open Go.RowKit

/-- A piece's span. -/
def pcS (x : Pc) : Sp := (x.1, x.2.1)
/-- A piece's value. -/
def pcV (x : Pc) : Int := x.2.2
theorem RefM.below {w w' : World} {base b : Nat} {D : List Dn} (h : RefM w base b D) (hb : Below w.heap.size w w') : RefM w' base b D := by
  obtain ⟨lv, vv, ov, h1, h2, h3, h4⟩ := h.at'
  exact ⟨lv, vv, ov, (hb.block b (lt_of_block h1)).trans h1, h2.below hb, h3.below hb, h4.below hb⟩
theorem pcs_next (D : List Dn) (E : List Int) (i : Nat) : pcsD D E (i + 1) = if (rgetF (E.getD i 0) D).2 then layL (pcsD D E i) (E.getD i 0, E.getD (i + 1) 0, (rgetF (E.getD i 0) D).1) else pcsD D E i := rfl
theorem pcs_len (D : List Dn) (E : List Int) (i : Nat) : (pcsD D E i).length ≤ i := by
  induction i with
  | zero => simp [pcsD]
  | succ i ih =>
    rw [pcs_next]
    split
    · have := layL_len (pcsD D E i) (E.getD i 0, E.getD (i + 1) 0, (rgetF (E.getD i 0) D).1); omega
    · omega
theorem belowN_grown {B : Nat} {w w1 : World} {v : Value} {l : List Int} (ho : OwnN w B v l) (hg : w.grownBy w1 v.ownBlock) (hB : B ≤ w.heap.size) : Below B w w1 :=
  (Below.refl _ _).grown hg hB fun k hk => (World.ownsRow.lt ho k hk).1
theorem OwnN.turnedS {w w' : World} {base : Nat} {v u : Value} {l : List Int} {m : List Sp} (h : OwnN w base v l) (g : OwnS w base u m) (hg : w.grownBy w' u.ownBlock) : OwnN w' base v l := ownsRow_turned (t := 3) (t' := 33) h g hg (by decide)
theorem OwnS.turnedN {w w' : World} {base : Nat} {v u : Value} {l : List Sp} {m : List Int} (h : OwnS w base v l) (g : OwnN w base u m) (hg : w.grownBy w' u.ownBlock) : OwnS w' base v l := ownsRow_turned (t := 33) (t' := 3) h g hg (by decide)
theorem OwnN.low {w : World} {base base' : Nat} {v : Value} {l : List Int} (h : OwnN w base v l) (hb : base' ≤ base) : OwnN w base' v l := by
  obtain ⟨h1, h2⟩ := h
  refine ⟨h1, ?_⟩
  rcases h2 with h2 | ⟨g, cap, cur, hv, hg, r⟩
  · exact Or.inl h2
  · exact Or.inr ⟨g, cap, cur, hv, by omega, r⟩
/-- What Pieces leaves: the pieces' spans and values in rows of their own. -/
def RPcs (D : List Dn) (w : World) (e : Ending) (w' : World) : Prop :=
  ∃ va vc na nc l, l = pcsD D (ends2 (D.map (·.1)) [] 1) ((ends2 (D.map (·.1)) [] 1).length - 1) ∧ e = .returned (.tuple #[.slice va (l.map pcS).length vc, .slice na (l.map pcV).length nc]) ∧ OwnS w' w.heap.size (.slice va (l.map pcS).length vc) (l.map pcS) ∧ OwnN w' w.heap.size (.slice na (l.map pcV).length nc) (l.map pcV) ∧ Below w.heap.size w w'
set_option maxRecDepth 100000 in
set_option maxHeartbeats 4000000 in
theorem rpieces_any (base b : Nat) (D : List Dn) (w : World) (hm : RefM w base b D) (hl : D.length ≤ 1000000) :
    Calls Try.prog 11 #[.pointer (some ⟨b, 0, none⟩)] w (RPcs D w) := by
  have HM := hid hm
  obtain ⟨lv, vv, ov, hb, hL, -, -⟩ := hm.at'
  obtain ⟨la, lc, rfl⟩ := hL.shape
  have HL := hid hL
  have cb0 : w.cell? ⟨b, 0, none⟩ = some (.slice la (D.map (·.1)).length lc) := by rw [cell_of_row _ _ _ _ _ _ hb]; simp
  obtain ⟨Dl, eDl⟩ : ∃ Dl, Dl = D.map (·.1) := ⟨_, rfl⟩
  rw [← eDl] at HL cb0
  have hl1 : Dl.length ≤ 1000000 := by rw [eDl]; simpa using hl
  have EL := hid eDl
  clear hm hb hL eDl
  go_enter Try.func11, Try.ntmps11
  go_wp2_with fail
  have BA : Hid (Below w.heap.size w (w.alloc (.cells #[.slice la Dl.length lc] 28))) := hid ((Below.refl _ _).alloc (Nat.le_refl _) _)
  refine (rends1_any w.heap.size (.slice la Dl.length lc) Dl _ (HL.out.sps.below BA.out) (heap_alloc_new _ _) hl1).mono ?_
  rintro e w1 ⟨ea, ec, rfl, hE, hB1⟩
  have E1 := hid hE
  have BW1 : Hid (Below w.heap.size w w1) := hid (BA.out.trans (hB1.mono BA.out.size))
  have hel : (ends2 Dl [] 1).length ≤ 2000000 := by
    have := endsL_len Dl []
    simp only [ends2] at this ⊢
    simp at this
    omega
  obtain ⟨E, eE⟩ : ∃ E, E = ends2 Dl [] 1 := ⟨_, rfl⟩
  rw [← eE] at E1 hel
  rw [← eE]
  have EE := hid eE
  clear hE hB1 eE
  have RM1 := hid (HM.out.below BW1.out)
  clear BA cb0 HL
  go_wp2_with fail
  go_loopw [5, 6, 7] (fun lv vv iv wr => ∃ (i : Nat) (va : Option Addr) (vc : Nat) (na : Option Addr) (nc : Nat) (p : List Pc) (L : List Sp) (V : List Int), iv = .int .i64 i ∧ lv = .slice va L.length vc ∧ vv = .slice na V.length nc ∧ i ≤ E.length - 1 ∧ p = pcsD D E i ∧ L = p.map pcS ∧ V = p.map pcV ∧ OwnS wr w1.heap.size (.slice va L.length vc) L ∧ OwnN wr w1.heap.size (.slice na V.length nc) V ∧ Below w1.heap.size w1 wr) (fun _ _ iv _ => E.length - (intOf iv).toNat)
  case atStart => exact ⟨0, none, 0, none, 0, [], [], [], rfl, rfl, rfl, Nat.zero_le _, rfl, rfl, rfl, OwnS.nil _ _, OwnN.nil _ _, Below.refl _ _⟩
  case round =>
    obtain ⟨i, va, vc, na, nc, p, L, V, rfl, rfl, rfl, hi, hp, hLp, hVp, ho, hv, hb⟩ := hrel
    have HP := hid hp
    have HO := hid ho
    have HV := hid hv
    have HB := hid hb
    have LP : Hid (p.length ≤ 2000000) := hid (by rw [hp]; have := pcs_len D E i; omega)
    have HLP := hid hLp
    have HVP := hid hVp
    clear hp ho hv hb hLp hVp
    by_cases hlt : i + 1 < E.length
    · have hltI : (i : Int) + 1 < (E.length : Int) := by omega
      obtain ⟨ge, rfl, ce0⟩ := E1.out.at_lit i (by omega)
      obtain ⟨ge', hge, ce1⟩ := E1.out.at_lit (i + 1) hlt
      cases hge
      have HNX := hid (pcs_next D E i)
      have g0 : E.getD i 0 = E[i]'(by omega) := by simp [List.getD, List.getElem?_eq_getElem (show i < E.length by omega)]
      have g1 : E.getD (i + 1) 0 = E[i + 1]'hlt := by simp [List.getD, List.getElem?_eq_getElem hlt]
      rw [g0, g1, ← HP.out] at HNX
      clear g0 g1
      generalize E[i]'(by omega) = x at ce0 HNX
      generalize E[i + 1]'hlt = y at ce1 HNX
      have c0 := cell_later HB.out ce0
      have c1 := cell_later HB.out ce1
      have hi0 : (0 : Int) ≤ (i : Int) := by omega
      have hi1 : (i : Int) < (E.length : Int) := by omega
      have hi2 : (0 : Int) ≤ (i : Int) + 1 := by omega
      have hwr : IntKind.i64.wrap ((i : Int) + 1) = (i : Int) + 1 := IntWalk.i64_in _ ⟨by omega, by omega⟩
      have hin : 0 ≤ (i : Int) + 1 ∧ (i : Int) + 1 < (E.length : Int) := ⟨hi2, hltI⟩
      have hge : ge < w1.heap.size := World.block_lt_of_cell? _ _ ce0
      clear ce0 ce1
      go_wp2_with fail
      refine (rget_any base b D x wr (RM1.out.below HB.out) hl).mono ?_
      rintro e w2 ⟨u, ok, hR, rfl, hw2⟩
      rw [hw2]
      clear hw2
      rw [(rgetF_iff x u ok D).1 hR] at HNX
      clear hR
      cases ok with
      | false =>
        go_wp2_with fail
        go_roundw
        case rel => exact ⟨i + 1, va, vc, na, nc, p, L, V, by go_num, rfl, rfl, by omega, by have := HNX.out; simp at this; exact this.symm, HLP.out, HVP.out, HO.out, HV.out, HB.out⟩
        case measure => simp [intOf]; omega
      | true =>
        have HN2 : Hid (pcsD D E (i + 1) = layL p (x, y, u)) := hid (by have := HNX.out; simpa using this)
        clear HNX
        rcases List.eq_nil_or_concat p with rfl | ⟨q, z, rfl⟩
        · obtain rfl : L = [] := HLP.out
          obtain rfl : V = [] := HVP.out
          have hd : decide ((0 : Int) ≤ -1) = false := by decide
          have hlp : ([] : List Sp).length ≤ 1000000001 := by simp
          have hvp : ([] : List Int).length ≤ 1000000001 := by simp
          have HS : Hid (([] : List Sp) ++ [(x, y)] = (layL [] (x, y, u)).map pcS) := hid rfl
          have HT : Hid (([] : List Int) ++ [u] = (layL [] (x, y, u)).map pcV) := hid rfl
          simp only [List.length_nil]
          go_wp2_with fail
          go_quiet (fail)
          obtain ⟨W, hW⟩ : ∃ W, W = wr.drewN nq := ⟨_, rfl⟩
          rw [← hW]
          have BW : Hid (Below wr.heap.size wr W) := hid (by rw [hW]; exact ⟨rfl, rfl, rfl, Nat.le_refl _, fun _ _ => rfl⟩)
          have OW := hid (HO.out.below BW.out)
          have VW := hid (HV.out.below BW.out)
          have SW : Hid (∀ X, Below W.heap.size W X → X.cell? ⟨ge, i, none⟩ = some (.int .i64 x) ∧ X.cell? ⟨ge, i + 1, none⟩ = some (.int .i64 y)) := hid fun X hX => ⟨cell_later hX (cell_later BW.out c0), cell_later hX (cell_later BW.out c1)⟩
          have hsW : w1.heap.size ≤ W.heap.size := Nat.le_trans HB.out.size BW.out.size
          have OX := hid (OW.out.below (((Below.refl W.heap.size W).drew).alloc (Nat.le_refl _) (.cells #[.int .i64 x, .int .i64 y] 33)))
          have VX := hid (VW.out.below (((Below.refl W.heap.size W).drew).alloc (Nat.le_refl _) (.cells #[.int .i64 x, .int .i64 y] 33)))
          have hsX : w1.heap.size ≤ (W.drew.alloc (.cells #[.int .i64 x, .int .i64 y] 33)).heap.size := Nat.le_trans hsW (by simp)
          have SWW := hid (SW.out W (Below.refl _ _))
          clear hW c0 c1
          go_wp2_with fail
          go_region_held3 (fun X => X.cell? ⟨ge, i, none⟩ = some (.int .i64 x) ∧ X.cell? ⟨ge, i + 1, none⟩ = some (.int .i64 y)) (first | exact SW.out _ ((Below.refl _ _).drew) | exact SW.out _ (((Below.refl _ _).drew).alloc (Nat.le_refl _) _) | exact SW9.out) (first | (refine step_appendS rfl (.tmp 69) (.tmp 80) rfl w1.heap.size _ _ rfl OX.out W.heap.size (x, y) rfl (heap_alloc_new _ _) hlp hsX ?_; intro va9 vc9 m9 w9 hm9 ho9 hg9; have O9 := hid ho9; have M9 := hid hm9; have G9 := hid hg9; have B9 : Hid (Below w1.heap.size W w9) := hid (((((Below.refl w1.heap.size W).drew).alloc hsW _)).trans (belowS_grown OX.out hg9 hsX)); have SW9 : Hid (w9.cell? ⟨ge, i, none⟩ = some (.int .i64 x) ∧ w9.cell? ⟨ge, i + 1, none⟩ = some (.int .i64 y)) := hid ⟨(B9.out.cell (p := ⟨ge, i, none⟩) hge).trans SWW.out.1, (B9.out.cell (p := ⟨ge, i + 1, none⟩) hge).trans SWW.out.2⟩; clear ho9 hm9 hg9))
          have V9 := hid (OwnN.turnedS VX.out OX.out G9.out)
          have B10 : Hid (Below w9.heap.size w9 (w9.alloc (.cells #[.int .i64 u] 3))) := hid ((Below.refl _ _).alloc (Nat.le_refl _) _)
          have O10 := hid (O9.out.below B10.out)
          have V10 := hid (V9.out.below B10.out)
          have C10 : Hid ((w9.alloc (.cells #[.int .i64 u] 3)).cell? ⟨w9.heap.size, 0, none⟩ = some (.int .i64 u)) := hid (by rw [World.cell?_alloc_at _ _ _ _ rfl]; rfl)
          have hs9 : w1.heap.size ≤ w9.heap.size := Nat.le_trans hsW B9.out.size
          have hs10 : w1.heap.size ≤ (w9.alloc (.cells #[.int .i64 u] 3)).heap.size := Nat.le_trans hs9 B10.out.size
          go_wp2_with (at_builtin; refine wpl_appendG rfl _ _ rfl w1.heap.size (.slice na 0 nc) [] rfl V10.out w9.heap.size u rfl C10.out hvp hs10 ?_; intro va7 vc7 L7 w7 hL7 ho7 hg7; have HL7 := hid hL7; have O7 := hid ho7; have G7 := hid hg7; clear hL7 ho7 hg7)
          go_roundw
          case rel =>
            refine ⟨i + 1, va9, vc9, va7, vc7, _, m9, L7, by go_num, rfl, rfl, by omega, HN2.out.symm, by rw [M9.out]; exact HS.out, by rw [HL7.out]; exact HT.out, ?_, O7.out, ?_⟩
            · exact O10.out.turnedN V10.out G7.out
            · exact (((HB.out.trans (BW.out.mono HB.out.size)).trans B9.out).trans (B10.out.mono hs9)).trans (belowN_grown V10.out G7.out hs10)
          case measure => simp [intOf]; omega
        · rw [List.concat_eq_append] at *
          obtain ⟨za, zc, zv⟩ := z
          have hL : L = q.map pcS ++ [(za, zc)] := by have := HLP.out; simpa [pcS] using this
          have hV : V = q.map pcV ++ [zv] := by have := HVP.out; simpa [pcV] using this
          have hLl : L.length = q.length + 1 := by rw [hL]; simp
          have hVl : V.length = q.length + 1 := by rw [hV]; simp
          have hva : ∃ g, va = some ⟨g, 0, none⟩ := by
            obtain ⟨h1, h2⟩ := HO.out
            rcases h2 with ⟨_, h0⟩ | ⟨g, cap, cur, e, -⟩
            · omega
            · cases e; exact ⟨g, rfl⟩
          obtain ⟨g, rfl⟩ := hva
          obtain ⟨g2, rfl, hcv0⟩ := HV.out.at_lit q.length (by omega)
          have hcv : wr.cell? ⟨g2, q.length, none⟩ = some (.int .i64 zv) := by rw [hcv0]; simp [hV]
          have hpl := LP.out
          have hlp : L.length ≤ 1000000001 := by simp at hpl; omega
          have hvp : V.length ≤ 1000000001 := by simp at hpl; omega
          have hnq : q.length ≤ 2000000 := by simp at hpl; omega
          have HLL := hid hLl
          have HVL := hid hVl
          have HLE := hid hL
          have HVE := hid hV
          have hA : (⟨g, 0, none⟩ : Addr).add (q.length * 2 + 1) = ⟨g, q.length * 2 + 1, none⟩ := by rw [Addr.add_lit]; simp
          have hc : wr.cell? ⟨g, q.length * 2 + 1, none⟩ = some (.int .i64 zc) := by
            have := World.ownsRow.cells HO.out (g := g) rfl (q.length * 2 + 1) (.int .i64 zc) (by
              have := (flat_at L q.length (by omega)).2
              rw [this]; simp [hL])
            rwa [hA] at this
          have hfz : wr.frozen? ⟨g, q.length * 2 + 1, none⟩ = false := World.ownsRow.frozenAt HO.out _
          have HGB := hid (World.ownsRow.lt HO.out g rfl)
          rw [hLl, hVl]
          obtain ⟨n, hn⟩ : ∃ n, n = q.length := ⟨_, rfl⟩
          rw [← hn] at hcv hc hfz hnq ⊢
          have HNN := hid hn
          have hn0 : (0 : Int) ≤ (n : Int) := by omega
          have hn0' : decide ((0 : Int) ≤ (n : Int)) = true := decide_eq_true hn0
          have hn1 : (n : Int) < (n : Int) + 1 := by omega
          have hn2 : (n : Int) ≤ 2000000 := by omega
          clear hn hA hpl hcv0 hLl hVl hL hV
          by_cases hcx : zc = x
          · by_cases hvu : zv = u
            · have HE2 : Hid (layL (q ++ [(za, zc, zv)]) (x, y, u) = q ++ [(za, y, zv)]) := hid (by rw [layL_snoc, if_pos ⟨hcx, hvu⟩])
              have hbe : (zc == x) = true := by simpa using hcx
              have hbv : (zv == u) = true := by simpa using hvu
              clear hcx hvu LP
              go_wp2_with fail
              go_quiet (fail)
              go_wp2_with fail
              rw [← HNN.out] at HLL HVL
              have hse : L.set n (za, y) = q.map pcS ++ [(za, y)] := by rw [HLE.out, HNN.out]; simp
              have hgt : L[n]'(by rw [HLL.out]; omega) = (za, zc) := by
                have := HLE.out; have e := HNN.out; subst e; subst this; simp
              have hfs := flat_set L n (by rw [HLL.out]; omega) y
              rw [hgt] at hfs
              simp only at hfs
              rw [hse] at hfs
              have hlq : (q.map pcS ++ [(za, y)]).length = n + 1 := by rw [HNN.out]; simp
              have h' : (wr.drewN nq).ownsRow w1.heap.size 33 2 (.slice (some ⟨g, 0, none⟩) (n + 1) vc) (n + 1) (flat L) := by
                have := HO.out.below (show Below wr.heap.size wr (wr.drewN nq) from ⟨rfl, rfl, rfl, Nat.le_refl _, fun _ _ => rfl⟩); unfold OwnS at this; rwa [HLL.out] at this
              have hV' : (wr.drewN nq).ownsRow w1.heap.size 3 1 (.slice (some ⟨g2, 0, none⟩) V.length nc) V.length (ivs V) := HV.out.below (show Below wr.heap.size wr (wr.drewN nq) from ⟨rfl, rfl, rfl, Nat.le_refl _, fun _ _ => rfl⟩)
              have hst := (World.ownsRow.stored h' (n * 2 + 1) (.int .i64 y)).1
              rw [hfs] at hst
              obtain ⟨cs, fr, hbk⟩ : ∃ cs fr, (wr.drewN nq).heap[g]? = some (.cells cs 33 fr) := by
                obtain ⟨_, h2⟩ := h'
                rcases h2 with ⟨e, _⟩ | ⟨k, cap, cur, e, _, hh, -⟩
                · cases e
                · cases e; exact ⟨_, _, hh⟩
              have hsv := ownsRow_set hV' hbk (by decide) (n * 2 + 1) (.int .i64 y)
              go_roundw
              case rel =>
                refine ⟨i + 1, some ⟨g, 0, none⟩, vc, some ⟨g2, 0, none⟩, nc, q ++ [(za, y, zv)], q.map pcS ++ [(za, y)], V, by go_num, by rw [hlq], by rw [HVL.out], by omega, by rw [HN2.out, HE2.out], by simp [pcS], by rw [HVP.out]; simp [pcV], ?_, hsv, ?_⟩
                · unfold OwnS; rw [hlq]; exact hst
                · exact (HB.out.trans (show Below w1.heap.size wr (wr.drewN nq) from ⟨rfl, rfl, rfl, Nat.le_refl _, fun _ _ => rfl⟩)).setCell (p := ⟨g, n * 2 + 1, none⟩) HGB.out.1 _
              case measure => simp [intOf]; omega
            · have HE2 : Hid (layL (q ++ [(za, zc, zv)]) (x, y, u) = (q ++ [(za, zc, zv)]) ++ [(x, y, u)]) := hid (by rw [layL_snoc, if_neg fun h => hvu h.2])
              have hbe : (zc == x) = true := by simpa using hcx
              have hbv : (zv == u) = false := by simpa using hvu
              have HS : Hid (L ++ [(x, y)] = (layL (q ++ [(za, zc, zv)]) (x, y, u)).map pcS) := hid (by rw [HE2.out, HLP.out]; simp [pcS])
              have HT : Hid (V ++ [u] = (layL (q ++ [(za, zc, zv)]) (x, y, u)).map pcV) := hid (by rw [HE2.out, HVP.out]; simp [pcV])
              clear hcx hvu
              go_wp2_with fail
              go_quiet (fail)
              rw [← HNN.out] at HLL HVL
              rw [← HLL.out]
              obtain ⟨W, hW⟩ : ∃ W, W = wr.drewN nq := ⟨_, rfl⟩
              rw [← hW]
              have BW : Hid (Below wr.heap.size wr W) := hid (by rw [hW]; exact ⟨rfl, rfl, rfl, Nat.le_refl _, fun _ _ => rfl⟩)
              have OW := hid (HO.out.below BW.out)
              have VW := hid (HV.out.below BW.out)
              have SW : Hid (∀ X, Below W.heap.size W X → X.cell? ⟨ge, i, none⟩ = some (.int .i64 x) ∧ X.cell? ⟨ge, i + 1, none⟩ = some (.int .i64 y)) := hid fun X hX => ⟨cell_later hX (cell_later BW.out c0), cell_later hX (cell_later BW.out c1)⟩
              have hsW : w1.heap.size ≤ W.heap.size := Nat.le_trans HB.out.size BW.out.size
              have OX := hid (OW.out.below (((Below.refl W.heap.size W).drew).alloc (Nat.le_refl _) (.cells #[.int .i64 x, .int .i64 y] 33)))
              have VX := hid (VW.out.below (((Below.refl W.heap.size W).drew).alloc (Nat.le_refl _) (.cells #[.int .i64 x, .int .i64 y] 33)))
              have hsX : w1.heap.size ≤ (W.drew.alloc (.cells #[.int .i64 x, .int .i64 y] 33)).heap.size := Nat.le_trans hsW (by simp)
              have SWW := hid (SW.out W (Below.refl _ _))
              clear hW c0 c1
              go_wp2_with fail
              go_region_held3 (fun X => X.cell? ⟨ge, i, none⟩ = some (.int .i64 x) ∧ X.cell? ⟨ge, i + 1, none⟩ = some (.int .i64 y)) (first | exact SW.out _ ((Below.refl _ _).drew) | exact SW.out _ (((Below.refl _ _).drew).alloc (Nat.le_refl _) _) | exact SW9.out) (first | (refine step_appendS rfl (.tmp 69) (.tmp 80) rfl w1.heap.size _ _ rfl OX.out W.heap.size (x, y) rfl (heap_alloc_new _ _) hlp hsX ?_; intro va9 vc9 m9 w9 hm9 ho9 hg9; have O9 := hid ho9; have M9 := hid hm9; have G9 := hid hg9; have B9 : Hid (Below w1.heap.size W w9) := hid (((((Below.refl w1.heap.size W).drew).alloc hsW _)).trans (belowS_grown OX.out hg9 hsX)); have SW9 : Hid (w9.cell? ⟨ge, i, none⟩ = some (.int .i64 x) ∧ w9.cell? ⟨ge, i + 1, none⟩ = some (.int .i64 y)) := hid ⟨(B9.out.cell (p := ⟨ge, i, none⟩) hge).trans SWW.out.1, (B9.out.cell (p := ⟨ge, i + 1, none⟩) hge).trans SWW.out.2⟩; clear ho9 hm9 hg9))
              have V9 := hid (OwnN.turnedS VX.out OX.out G9.out)
              have B10 : Hid (Below w9.heap.size w9 (w9.alloc (.cells #[.int .i64 u] 3))) := hid ((Below.refl _ _).alloc (Nat.le_refl _) _)
              have O10 := hid (O9.out.below B10.out)
              have V10 := hid (V9.out.below B10.out)
              have C10 : Hid ((w9.alloc (.cells #[.int .i64 u] 3)).cell? ⟨w9.heap.size, 0, none⟩ = some (.int .i64 u)) := hid (by rw [World.cell?_alloc_at _ _ _ _ rfl]; rfl)
              have hs9 : w1.heap.size ≤ w9.heap.size := Nat.le_trans hsW B9.out.size
              have hs10 : w1.heap.size ≤ (w9.alloc (.cells #[.int .i64 u] 3)).heap.size := Nat.le_trans hs9 B10.out.size
              rw [HLL.out, ← HVL.out]
              go_wp2_with (at_builtin; refine wpl_appendG rfl _ _ rfl w1.heap.size (.slice (some ⟨g2, 0, none⟩) V.length nc) V rfl V10.out w9.heap.size u rfl C10.out hvp hs10 ?_; intro va7 vc7 L7 w7 hL7 ho7 hg7; have HL7 := hid hL7; have O7 := hid ho7; have G7 := hid hg7; clear hL7 ho7 hg7)
              go_roundw
              case rel =>
                refine ⟨i + 1, va9, vc9, va7, vc7, _, m9, L7, by go_num, rfl, rfl, by omega, HN2.out.symm, by rw [M9.out]; exact HS.out, by rw [HL7.out]; exact HT.out, ?_, O7.out, ?_⟩
                · exact O10.out.turnedN V10.out G7.out
                · exact (((HB.out.trans (BW.out.mono HB.out.size)).trans B9.out).trans (B10.out.mono hs9)).trans (belowN_grown V10.out G7.out hs10)
              case measure => simp [intOf]; omega
          · have HE2 : Hid (layL (q ++ [(za, zc, zv)]) (x, y, u) = (q ++ [(za, zc, zv)]) ++ [(x, y, u)]) := hid (by rw [layL_snoc, if_neg fun h => hcx h.1])
            have hbe : (zc == x) = false := by simpa using hcx
            have HS : Hid (L ++ [(x, y)] = (layL (q ++ [(za, zc, zv)]) (x, y, u)).map pcS) := hid (by rw [HE2.out, HLP.out]; simp [pcS])
            have HT : Hid (V ++ [u] = (layL (q ++ [(za, zc, zv)]) (x, y, u)).map pcV) := hid (by rw [HE2.out, HVP.out]; simp [pcV])
            clear hcx
            go_wp2_with fail
            go_quiet (fail)
            rw [← HNN.out] at HLL HVL
            rw [← HLL.out]
            obtain ⟨W, hW⟩ : ∃ W, W = wr.drewN nq := ⟨_, rfl⟩
            rw [← hW]
            have BW : Hid (Below wr.heap.size wr W) := hid (by rw [hW]; exact ⟨rfl, rfl, rfl, Nat.le_refl _, fun _ _ => rfl⟩)
            have OW := hid (HO.out.below BW.out)
            have VW := hid (HV.out.below BW.out)
            have SW : Hid (∀ X, Below W.heap.size W X → X.cell? ⟨ge, i, none⟩ = some (.int .i64 x) ∧ X.cell? ⟨ge, i + 1, none⟩ = some (.int .i64 y)) := hid fun X hX => ⟨cell_later hX (cell_later BW.out c0), cell_later hX (cell_later BW.out c1)⟩
            have hsW : w1.heap.size ≤ W.heap.size := Nat.le_trans HB.out.size BW.out.size
            have OX := hid (OW.out.below (((Below.refl W.heap.size W).drew).alloc (Nat.le_refl _) (.cells #[.int .i64 x, .int .i64 y] 33)))
            have VX := hid (VW.out.below (((Below.refl W.heap.size W).drew).alloc (Nat.le_refl _) (.cells #[.int .i64 x, .int .i64 y] 33)))
            have hsX : w1.heap.size ≤ (W.drew.alloc (.cells #[.int .i64 x, .int .i64 y] 33)).heap.size := Nat.le_trans hsW (by simp)
            have SWW := hid (SW.out W (Below.refl _ _))
            clear hW c0 c1
            go_wp2_with fail
            go_region_held3 (fun X => X.cell? ⟨ge, i, none⟩ = some (.int .i64 x) ∧ X.cell? ⟨ge, i + 1, none⟩ = some (.int .i64 y)) (first | exact SW.out _ ((Below.refl _ _).drew) | exact SW.out _ (((Below.refl _ _).drew).alloc (Nat.le_refl _) _) | exact SW9.out) (first | (refine step_appendS rfl (.tmp 69) (.tmp 80) rfl w1.heap.size _ _ rfl OX.out W.heap.size (x, y) rfl (heap_alloc_new _ _) hlp hsX ?_; intro va9 vc9 m9 w9 hm9 ho9 hg9; have O9 := hid ho9; have M9 := hid hm9; have G9 := hid hg9; have B9 : Hid (Below w1.heap.size W w9) := hid (((((Below.refl w1.heap.size W).drew).alloc hsW _)).trans (belowS_grown OX.out hg9 hsX)); have SW9 : Hid (w9.cell? ⟨ge, i, none⟩ = some (.int .i64 x) ∧ w9.cell? ⟨ge, i + 1, none⟩ = some (.int .i64 y)) := hid ⟨(B9.out.cell (p := ⟨ge, i, none⟩) hge).trans SWW.out.1, (B9.out.cell (p := ⟨ge, i + 1, none⟩) hge).trans SWW.out.2⟩; clear ho9 hm9 hg9))
            have V9 := hid (OwnN.turnedS VX.out OX.out G9.out)
            have B10 : Hid (Below w9.heap.size w9 (w9.alloc (.cells #[.int .i64 u] 3))) := hid ((Below.refl _ _).alloc (Nat.le_refl _) _)
            have O10 := hid (O9.out.below B10.out)
            have V10 := hid (V9.out.below B10.out)
            have C10 : Hid ((w9.alloc (.cells #[.int .i64 u] 3)).cell? ⟨w9.heap.size, 0, none⟩ = some (.int .i64 u)) := hid (by rw [World.cell?_alloc_at _ _ _ _ rfl]; rfl)
            have hs9 : w1.heap.size ≤ w9.heap.size := Nat.le_trans hsW B9.out.size
            have hs10 : w1.heap.size ≤ (w9.alloc (.cells #[.int .i64 u] 3)).heap.size := Nat.le_trans hs9 B10.out.size
            rw [HLL.out, ← HVL.out]
            go_wp2_with (at_builtin; refine wpl_appendG rfl _ _ rfl w1.heap.size (.slice (some ⟨g2, 0, none⟩) V.length nc) V rfl V10.out w9.heap.size u rfl C10.out hvp hs10 ?_; intro va7 vc7 L7 w7 hL7 ho7 hg7; have HL7 := hid hL7; have O7 := hid ho7; have G7 := hid hg7; clear hL7 ho7 hg7)
            go_roundw
            case rel =>
              refine ⟨i + 1, va9, vc9, va7, vc7, _, m9, L7, by go_num, rfl, rfl, by omega, HN2.out.symm, by rw [M9.out]; exact HS.out, by rw [HL7.out]; exact HT.out, ?_, O7.out, ?_⟩
              · exact O10.out.turnedN V10.out G7.out
              · exact (((HB.out.trans (BW.out.mono HB.out.size)).trans B9.out).trans (B10.out.mono hs9)).trans (belowN_grown V10.out G7.out hs10)
            case measure => simp [intOf]; omega
    · have hltI : ¬ (i : Int) + 1 < (E.length : Int) := by omega
      have hie : i = E.length - 1 := by omega
      have HPE : Hid (p = pcsD D E (E.length - 1)) := hid (by rw [← hie]; exact HP.out)
      clear HP hie
      go_wp2_with fail
      go_ret2
      refine ⟨va, vc, na, nc, p, by rw [← EL.out, ← EE.out]; exact HPE.out, ?_, ?_, ?_, BW1.out.trans (HB.out.mono BW1.out.size)⟩
      · rw [← HLP.out, ← HVP.out]; rfl
      · rw [← HLP.out]; exact HO.out.lower BW1.out.size
      · rw [← HVP.out]; exact HV.out.low BW1.out.size
end Go.Proofs.Ytbfmanhbbancmaa
