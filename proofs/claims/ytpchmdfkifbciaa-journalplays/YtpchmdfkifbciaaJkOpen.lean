/- open of the laws: a journal anew on both disks, and they agree. Conditions: the disks and the document's journal lie in memory and have the same; their power is on; the log has whole frames, and a beginning of one more, or nothing, behind them. -/
import Derived.Test.YtpchmdfkifbciaaJkAlike
import Derived.Test.YtpchmdfkifbciaaJnFind
import Derived.Test.YtpchmdfkifbciaaJnCalm
namespace Go.Proofs.Ytpchmdfkifbciaa
open Go.RowKit

/-- The document's journal has another image, other records, and is up. -/
theorem XDV.opened {B : Nat} {w : World} {xb xd : Nat} {Q X Y : Nat → Prop} {S : DS} {J : JS} {dv rv : Value} {im : List UInt8} {ls : List (List UInt8)} {us : List Value} (h : XDV B w xb xd X Y S J) (e : ∀ k, Q k ↔ X k ∨ Y k)
    (hd : Bts w dv im) (hdo : InB B Y w dv im) (ro : w.ownsRow 0 34 1 rv ls.length us) (ra : ∀ k, rv.ownBlock = some k → Y k) (rows : ∀ i (_ : i < ls.length), ∃ u, us[i]? = some u ∧ Bts w u ls[i] ∧ InB B Y w u ls[i]) :
    XStep B w xb xd Q (((w.setCell ⟨xb, 1, none⟩ dv).setCell ⟨xb, 2, none⟩ rv).setCell ⟨xb, 3, none⟩ (.bool false)) S ⟨im, ls, false⟩ := by
  obtain ⟨iv, rv0, us0, hj⟩ := h.j
  exact h.turn e ((((But.refl _ _).set (.inl hj.yb)).set (.inl hj.yb)).set (.inl hj.yb)) ⟨dv, rv, us, hj.headed ((((But.refl (fun k => k = xb) _).set (.inl rfl)).set (.inl rfl)).set (.inl rfl)) (h.ay _ hj.yb) h.bl (heap_setCell_same _ xb 3 _ _ _ (heap_setCell_same _ xb 2 _ _ _ (heap_setCell_same w xb 1 _ _ _ hj.head))) hd hdo ro ra rows⟩ (fun _ h => .inl h)
/-- New blocks are counted to the journal's. -/
theorem XDV.more {B : Nat} {w w' : World} {xb xd : Nat} {X Y : Nat → Prop} {S : DS} {J : JS} (h : XDV B w xb xd X Y S J) (hb : Below w.heap.size w w') : XDV B w' xb xd X (fun k => Y k ∨ New w w' k) S J := by
  obtain ⟨iv, rv, us, hj⟩ := h.j
  have hs := hb.size
  have hlt : ∀ k, k < B ∨ Y k → k < w.heap.size := by
    intro k hk
    rcases hk with hk | hk
    · have := h.bl; omega
    · exact hj.ylt k hk
  have hj' := hj.same hs fun k hk => hb.block k (hlt k hk)
  refine ⟨⟨iv, rv, us, .inl hj'.yb, ?_, hj'.head, hj'.im, hj'.imo.stays (fun _ h => .inl h) (fun _ _ _ _ _ => rfl), hj'.ro, fun k hk => .inl (hj'.ra k hk), fun i hi => ?_⟩, h.d.below hb, ?_, h.ax, ?_, Nat.le_trans h.bl hs⟩
  · intro k hk
    rcases hk with hk | hk
    · have := hj.ylt k hk; omega
    · exact hk.2
  · obtain ⟨u, g1, g2, g3⟩ := hj'.rows i hi
    exact ⟨u, g1, g2, g3.stays (fun _ h => .inl h) (fun _ _ _ _ _ => rfl)⟩
  · intro k hk hx
    rcases hk with hk | hk
    · exact h.dis k hk hx
    · have := h.d.rlt k hx; have := hk.1; omega
  · intro k hk
    rcases hk with hk | hk
    · exact h.ay k hk
    · have := h.bl; have := hk.1; omega
theorem Rk.cells {w : World} {b : Nat} {R : Nat → Prop} {S : DS} (h : Rk w b R S) : ∃ iv lv, w.cell? ⟨b, 1, none⟩ = some iv ∧ w.cell? ⟨b, 4, none⟩ = some lv ∧ Bts w iv S.image ∧ Bts w lv S.log := by
  obtain ⟨iv, sv, lv, h⟩ := h
  obtain ⟨c0, c1, c2, c3, c4, c5, c6, c7, cf⟩ := cell_eight h.head
  exact ⟨iv, lv, c1, c4, h.oi.bts, h.ol.bts⟩
theorem XDV.cut {B : Nat} {w w' : World} {xb xd : Nat} {X Y : Nat → Prop} {S S1 : DS} {J : JS} (h : XDV B w xb xd X Y S J) (hs : RStep w xd X w' S1) : ∃ X', XDV B w' xb xd X' Y S1 J ∧ But X w w' ∧ ∀ k, X' k → X k ∨ w.heap.size ≤ k := by
  obtain ⟨X', d', t', r'⟩ := hs
  have hbl := h.bl
  refine ⟨X', ⟨h.j.but t' h.dis h.ax h.bl, d', ?_, ?_, h.ay, Nat.le_trans h.bl t'.size⟩, t', r'⟩
  · intro k hk hk'
    rcases r' k hk' with h' | h'
    · exact h.dis k hk h'
    · have := h.j.ylt k hk; omega
  · intro k hk
    rcases r' k hk with h' | h'
    · exact h.ax k h'
    · omega
theorem own_typed {w : World} {base : Nat} {v : Value} {l : List UInt8} (h : Own w base v l) : ∀ k, v.ownBlock = some k → ∃ cs fr, w.heap[k]? = some (.cells cs 5 fr) := by
  obtain ⟨-, h2 | ⟨g, cap, cur, rfl, -, hh, -⟩⟩ := h
  · intro k hk; rw [h2.1] at hk; cases hk
  · intro k hk; cases hk; exact ⟨cur, (0, 0), hh⟩
/-- The journals, on both disks, have the same. -/
structure PW (B : Nat) (w0 w : World) (jb db xb xd : Nat) (R Q : Nat → Prop) (S : DS) (J : JS) (Sx : DS) (Jx : JS) : Prop where
  j : Jd w jb db R S J
  x : Xd B w xb xd Q Sx Jx
  dis : ∀ k, R k → ¬ Q k
  above : ∀ k, R k → B ≤ k
  below : Below B w0 w
theorem PW.later {B : Nat} {w0 w w' : World} {jb db xb xd : Nat} {R Q : Nat → Prop} {S : DS} {J : JS} {Sx : DS} {Jx : JS} (h : PW B w0 w jb db xb xd R Q S J Sx Jx) (hB : B ≤ w0.heap.size) (hb : Below w.heap.size w w') : PW B w0 w' jb db xb xd R Q S J Sx Jx :=
  ⟨h.j.below hb, h.x.below hb, h.dis, h.above, h.below.trans (hb.mono (Nat.le_trans hB h.below.size))⟩
/-- A call on the journal, or on its device. -/
theorem PW.stepJ {B : Nat} {w0 w w' : World} {jb db xb xd : Nat} {R Q : Nat → Prop} {S S' : DS} {J J' : JS} {Sx : DS} {Jx : JS} (h : PW B w0 w jb db xb xd R Q S J Sx Jx) (hB : B ≤ w0.heap.size) (hs : JStep w jb db R w' S' J') : ∃ R', PW B w0 w' jb db xb xd R' Q S' J' Sx Jx := by
  obtain ⟨R1, a1, a2, a3⟩ := hs.at h.below hB h.above
  obtain ⟨R', d', t', r'⟩ := hs
  have hsz := h.below.size
  refine ⟨R', d', h.x.but t' (fun k hk hr => h.dis k hr hk) h.above, fun k hk hq => ?_, fun k hk => ?_, a3⟩
  · rcases r' k hk with h' | h'
    · exact h.dis k h' hq
    · have := (h.x.lt k hq).2; omega
  · rcases r' k hk with h' | h'
    · exact h.above k h'
    · omega
/-- A call on the document's journal, or on its device. -/
theorem PW.stepX {B : Nat} {w0 w w' : World} {jb db xb xd : Nat} {R Q : Nat → Prop} {S : DS} {J : JS} {Sx Sx' : DS} {Jx Jx' : JS} (h : PW B w0 w jb db xb xd R Q S J Sx Jx) (hB : B ≤ w0.heap.size) (hs : XStep B w xb xd Q w' Sx' Jx') : ∃ Q', PW B w0 w' jb db xb xd R Q' S J Sx' Jx' := by
  obtain ⟨Q', d', t', r'⟩ := hs
  have hsz := h.below.size
  refine ⟨Q', h.j.but t' (fun k hk hq => h.dis k hk hq), d', fun k hk hq => ?_, h.above, h.below.trans (t'.below (by omega) fun k hk => (h.x.lt k hk).1)⟩
  rcases r' k hq with h' | h'
  · exact h.dis k hk h'
  · have := h.j.rlt k hk; omega
set_option linter.unusedSimpArgs false in
set_option maxRecDepth 100000 in
set_option maxHeartbeats 6400000 in
theorem lopen_any (B jb0 db xb xd : Nat) (R Q : Nat → Prop) (S : DS) (J Jx : JS) (w0 w : World) (hp : PW B w0 w jb0 db xb xd R Q S J S Jx) (hB : B ≤ w0.heap.size) (hon : S.off = false) (hleft : S.left = -1) (hi : imgOk S.image) (ls : List (List UInt8)) (t : List UInt8) (hl : S.log = framesB ls ++ t) (hs : ∀ r ∈ ls, r.length ≤ 1048576) (ht : unfE t = 8 ∨ unfE t = 4) :
    Calls Try.prog 23 #[.pointer (some ⟨db, 0, none⟩), .pointer (some ⟨xb, 0, none⟩)] w fun e w' => ∃ jb R' Q' S', e = .returned (.tuple #[.pointer (some ⟨jb, 0, none⟩), .bool true]) ∧ PW B w0 w' jb db xb xd R' Q' S' ⟨unfD S.image, ls, false⟩ S' ⟨unfD S.image, ls, false⟩ ∧ S'.log = framesB ls ∧ S'.image = S.image ∧ S'.off = false ∧ S'.left = -1 := by
  obtain ⟨RD, hdk, hrd⟩ := hp.j.dk
  have DK := hid hdk
  have HRD := hid hrd
  have HP := hid hp
  have HON := hid hon
  have HLF := hid hleft
  have HOK := hid hi
  have HLG := hid hl
  have HSM := hid hs
  have HT := hid ht
  have hokI := hdk.ok.image
  have hokL := hdk.ok.log
  have HIL : Hid (S.image.length ≤ 1000000000) := hid (by omega)
  have HLL : Hid (S.log.length ≤ 1000000000) := hid (by omega)
  clear hp hdk hrd hon hleft hi hl hs ht
  go_enter Try.func23, Try.ntmps23
  go_wp2_with fail
  refine (open_any db RD S _ DK.out HON.out HOK.out).mono ?_
  rintro e w1 ⟨rs, p, hfr, hne, h1, -⟩
  have htn : unfE t ≠ 0 := by rcases HT.out with h | h <;> rw [h] <;> decide
  obtain ⟨hrs, hpe, hdr⟩ := hfr.all ls t HLG.out HSM.out htn hne
  subst hrs
  have HPE := hid hpe
  have HFR := hid hfr
  have HNE := hid hne
  have hq : unfE (S.log.drop p) = 8 ∨ unfE (S.log.drop p) = 4 := by rw [hdr]; exact HT.out
  have HQ := hid hq
  have hpl := hfr.le
  have hcut : ¬ ((p : Int) < 0 ∨ (S.log.length : Int) < (p : Int)) := by omega
  have hwe : writeE S (cutE S (p : Nat)) = 0 := by
    unfold writeE cutE
    rw [HON.out, if_neg hcut]; simp [HLF.out]
  have hE : openE S (unfE (S.log.drop p)) p = 0 := by
    unfold openE
    rcases hq with h | h
    · rw [if_pos h]
    · rw [if_neg (by rw [h]; decide), if_pos h]; exact hwe
  obtain ⟨jb, R1, rfl, j1, t1, r1⟩ := h1 hE
  have hw0 := HP.out.below.size
  have x1 : Xd B w1 xb xd Q S Jx := HP.out.x.but t1 (fun k hk h => HP.out.dis k (HRD.out k h) hk) (fun k hk => HP.out.above k (HRD.out k hk))
  have d1 : ∀ k, R1 k → ¬ Q k := fun k hk hq => by
    rcases r1 k hk with h | h
    · exact HP.out.dis k (HRD.out k h) hq
    · have := (HP.out.x.lt k hq).2; omega
  have a1 : ∀ k, R1 k → B ≤ k := fun k hk => by
    rcases r1 k hk with h | h
    · exact HP.out.above k (HRD.out k h)
    · omega
  have b1 : Below B w0 w1 := HP.out.below.trans (t1.below (by omega) fun k hk => HP.out.above k (HRD.out k hk))
  obtain ⟨X, Y, xdv, eQ⟩ := x1
  obtain ⟨iv, rv0, us0, xjv⟩ := xdv.j
  obtain ⟨c0, -, -, -, cf0⟩ := cell_four xjv.head
  obtain ⟨div, dlv, e1, e4, bi, bl⟩ := xdv.d.cells
  have HFI : Hid (∀ W, Below w1.heap.size w1 W → Bts W div S.image) := hid fun W hb => bi.below hb
  have HFL : Hid (∀ W, Below w1.heap.size w1 W → Bts W dlv S.log) := hid fun W hb => bl.below hb
  obtain ⟨da, dc, rfl⟩ := bi.shape
  obtain ⟨ea, ec, rfl⟩ := bl.shape
  have HSS : Hid (∀ W, Below w1.heap.size w1 W → W.cell? ⟨xb, 0, none⟩ = some (.pointer (some ⟨xd, 0, none⟩)) ∧ W.cell? ⟨xd, 1, none⟩ = some (.slice da S.image.length dc) ∧ W.cell? ⟨xd, 4, none⟩ = some (.slice ea S.log.length ec)) := hid fun W hb => ⟨cell_later hb c0, cell_later hb e1, cell_later hb e4⟩
  have J1 := hid j1
  have D1 := hid d1
  have A1 := hid a1
  have B1 := hid b1
  have XV := hid xdv
  have EQ := hid eQ
  have HWE := hid hwe
  have HHD := hid xjv.head
  clear j1 t1 r1 d1 a1 b1 xdv eQ xjv c0 cf0 e1 e4 bi bl hE h1 hfr hne hq hwe htn hdr DK HRD HP hcut hpe
  go_wp2_with fail
  refine wp_region_held_drew (S := fun W => W.cell? ⟨xb, 0, none⟩ = some (.pointer (some ⟨xd, 0, none⟩)) ∧ W.cell? ⟨xd, 1, none⟩ = some (.slice da S.image.length dc) ∧ W.cell? ⟨xd, 4, none⟩ = some (.slice ea S.log.length ec)) (by kernel_rfl) (HSS.out _ ((Below.refl _ _).drew)) (fun hHeld => ?_)
  refine wpAnyH_take (i := 0) (v := ?ov0) rfl (by kernel_rfl) (by kernel_rfl) (by kernel_rfl) (fun _ _ _ h => h) (Or.inl ⟨by rfl, ?oy0⟩) (by assumption) ?or0
  case oy0 => (intro w hSw; (try dsimp only at hSw); go_simp; try with_reducible rfl)
  (try simp only [Act.put, List.setIfInBounds_toArray, List.set_cons_zero, List.set_cons_succ, List.getElem_toArray, List.getElem_cons_succ, List.getElem_cons_zero])
  refine wpAnyH_take (i := 1) (v := ?ov1) rfl (by kernel_rfl) (by kernel_rfl) (by kernel_rfl) (fun _ _ _ h => h) (Or.inl ⟨by rfl, ?oy1⟩) (by assumption) ?or1
  case oy1 => (intro w hSw; (try dsimp only at hSw); go_simp; try with_reducible rfl)
  (try simp only [Act.put, List.setIfInBounds_toArray, List.set_cons_zero, List.set_cons_succ, List.getElem_toArray, List.getElem_cons_succ, List.getElem_cons_zero])
  refine wpAnyH_take (i := 2) (v := ?ov2) rfl (by kernel_rfl) (by kernel_rfl) (by kernel_rfl) (fun _ _ _ h => h) (Or.inl ⟨by rfl, ?oy2⟩) (by assumption) ?or2
  case oy2 => (intro w hSw; (try dsimp only at hSw); go_simp; try with_reducible rfl)
  (try simp only [Act.put, List.setIfInBounds_toArray, List.set_cons_zero, List.set_cons_succ, List.getElem_toArray, List.getElem_cons_succ, List.getElem_cons_zero])
  refine wpAnyH_take (i := 3) (v := ?ov3) rfl (by kernel_rfl) (by kernel_rfl) (by kernel_rfl) (fun _ _ _ h => h) (Or.inl ⟨by rfl, ?oy3⟩) (by assumption) ?or3
  case oy3 => (intro w hSw; (try dsimp only at hSw); go_simp; try with_reducible rfl)
  (try simp only [Act.put, List.setIfInBounds_toArray, List.set_cons_zero, List.set_cons_succ, List.getElem_toArray, List.getElem_cons_succ, List.getElem_cons_zero])
  refine wpAnyH_take (i := 4) (v := ?ov4) rfl (by kernel_rfl) (by kernel_rfl) (by kernel_rfl) (fun _ _ _ h => h) (Or.inl ⟨by rfl, ?oy4⟩) (by assumption) ?or4
  case oy4 => (intro w hSw; (try dsimp only at hSw); go_simp; try with_reducible rfl)
  (try simp only [Act.put, List.setIfInBounds_toArray, List.set_cons_zero, List.set_cons_succ, List.getElem_toArray, List.getElem_cons_succ, List.getElem_cons_zero])
  refine wpAnyH_take (i := 5) (v := ?ov5) rfl (by kernel_rfl) (by kernel_rfl) (by kernel_rfl) (fun _ _ _ h => h) (Or.inl ⟨by rfl, ?oy5⟩) (by assumption) ?or5
  case oy5 => (intro w hSw; (try dsimp only at hSw); go_simp; try with_reducible rfl)
  (try simp only [Act.put, List.setIfInBounds_toArray, List.set_cons_zero, List.set_cons_succ, List.getElem_toArray, List.getElem_cons_succ, List.getElem_cons_zero])
  refine wpAnyH_take (i := 6) (v := ?ov6) rfl (by kernel_rfl) (by kernel_rfl) (by kernel_rfl) (fun _ _ _ h => h) (Or.inl ⟨by rfl, ?oy6⟩) (by assumption) ?or6
  case oy6 => (intro w hSw; (try dsimp only at hSw); go_simp; try with_reducible rfl)
  (try simp only [Act.put, List.setIfInBounds_toArray, List.set_cons_zero, List.set_cons_succ, List.getElem_toArray, List.getElem_cons_succ, List.getElem_cons_zero])
  refine wpAnyH_take (i := 7) (v := ?ov7) rfl (by kernel_rfl) (by kernel_rfl) (by kernel_rfl) (fun _ _ _ h => h) (Or.inl ⟨by rfl, ?oy7⟩) (by assumption) ?or7
  case oy7 => (intro w hSw; (try dsimp only at hSw); go_simp; try with_reducible rfl)
  (try simp only [Act.put, List.setIfInBounds_toArray, List.set_cons_zero, List.set_cons_succ, List.getElem_toArray, List.getElem_cons_succ, List.getElem_cons_zero])
  refine wpAnyH_take (i := 8) (v := ?ov8) rfl (by kernel_rfl) (by kernel_rfl) (by kernel_rfl) (fun _ _ _ h => h) (Or.inl ⟨by rfl, ?oy8⟩) (by assumption) ?or8
  case oy8 => (intro w hSw; (try dsimp only at hSw); go_simp; try with_reducible rfl)
  (try simp only [Act.put, List.setIfInBounds_toArray, List.set_cons_zero, List.set_cons_succ, List.getElem_toArray, List.getElem_cons_succ, List.getElem_cons_zero])
  refine wpAnyH_take (i := 9) (v := ?ov9) rfl (by kernel_rfl) (by kernel_rfl) (by kernel_rfl) (fun _ _ _ h => h) (Or.inl ⟨by rfl, ?oy9⟩) (by assumption) ?or9
  case oy9 => (intro w hSw; (try dsimp only at hSw); go_simp; try with_reducible rfl)
  (try simp only [Act.put, List.setIfInBounds_toArray, List.set_cons_zero, List.set_cons_succ, List.getElem_toArray, List.getElem_cons_succ, List.getElem_cons_zero])
  refine wpAnyH_take (i := 10) (v := ?ov10) rfl (by kernel_rfl) (by kernel_rfl) (by kernel_rfl) (fun _ _ _ h => h) (Or.inl ⟨by rfl, ?oy10⟩) (by assumption) ?or10
  case oy10 => (intro w hSw; (try dsimp only at hSw); go_simp; try with_reducible rfl)
  (try simp only [Act.put, List.setIfInBounds_toArray, List.set_cons_zero, List.set_cons_succ, List.getElem_toArray, List.getElem_cons_succ, List.getElem_cons_zero])
  refine wpAnyH_take (i := 11) (v := ?ov11) rfl (by kernel_rfl) (by kernel_rfl) (by kernel_rfl) (fun _ _ _ h => h) (Or.inl ⟨by rfl, ?oy11⟩) (by assumption) ?or11
  case oy11 => (intro w hSw; (try dsimp only at hSw); go_simp; try with_reducible rfl)
  (try simp only [Act.put, List.setIfInBounds_toArray, List.set_cons_zero, List.set_cons_succ, List.getElem_toArray, List.getElem_cons_succ, List.getElem_cons_zero])
  refine wpAnyH_take (i := 12) (v := ?ov12) rfl (by kernel_rfl) (by kernel_rfl) (by kernel_rfl) (fun _ _ _ h => h) (Or.inl ⟨by rfl, ?oy12⟩) (by assumption) ?or12
  case oy12 => (intro w hSw; (try dsimp only at hSw); go_simp; try with_reducible rfl)
  (try simp only [Act.put, List.setIfInBounds_toArray, List.set_cons_zero, List.set_cons_succ, List.getElem_toArray, List.getElem_cons_succ, List.getElem_cons_zero])
  refine wpAnyH_take (i := 13) (v := ?ov13) rfl (by kernel_rfl) (by kernel_rfl) (by kernel_rfl) (fun _ _ _ h => h) (Or.inl ⟨by rfl, ?oy13⟩) (by assumption) ?or13
  case oy13 => (intro w hSw; (try dsimp only at hSw); go_simp; try with_reducible rfl)
  (try simp only [Act.put, List.setIfInBounds_toArray, List.set_cons_zero, List.set_cons_succ, List.getElem_toArray, List.getElem_cons_succ, List.getElem_cons_zero])
  refine wpAnyH_ready (rs := [14]) (by kernel_rfl) (by simp) ?_
  refine AllReadyH.cons rfl (fun K hK => ?_) AllReadyH.nil
  rw [if_pos (by rfl)]
  go_wp2_with fail
  refine (find_ok _ _ S.image S.log _ (HFI.out _ ((Below.refl _ _).drew)) (HFL.out _ ((Below.refl _ _).drew)) HIL.out HLL.out HOK.out).mono ?_
  rintro e w2 ⟨rs', p', hfr', hne', hb2, -, hfind⟩
  obtain ⟨rfl, rfl⟩ := HFR.out.unique HNE.out hfr' hne'
  have hfind := hfind (by rcases HQ.out with h | h <;> rw [h] <;> decide)
  obtain ⟨cv, hcv⟩ : ∃ cv : Int, cv = (if unfE (S.log.drop p) = 4 then (p : Int) else -1) := ⟨_, rfl⟩
  rw [← hcv] at hfind
  have HCV := hid hcv
  obtain ⟨va, vc, ra, rc, vs, rfl, ho2, hr2⟩ := hfind
  have HO2 := hid ho2
  have HR2 := hid hr2
  have HB2 : Hid (Below w1.heap.size w1 w2) := hid (((Below.refl w1.heap.size w1).drew).trans hb2)
  clear hfr' hne' hb2 ho2 hr2 hcv
  go_wp2_with fail
  refine hK.out _ _ (HSS.out _ HB2.out) (fun hHeld => ?_)
  try clear hK K
  (try simp only [Act.put, List.setIfInBounds_toArray, List.set_cons_zero, List.set_cons_succ, List.getElem_toArray, List.getElem_cons_succ, List.getElem_cons_zero])
  refine wpAnyH_take (i := 15) (v := ?ov15) rfl (by kernel_rfl) (by kernel_rfl) (by kernel_rfl) (fun _ _ _ h => h) (Or.inl ⟨by rfl, ?oy15⟩) (by assumption) ?or15
  case oy15 => (intro w hSw; (try dsimp only at hSw); go_simp; try with_reducible rfl)
  (try simp only [Act.put, List.setIfInBounds_toArray, List.set_cons_zero, List.set_cons_succ, List.getElem_toArray, List.getElem_cons_succ, List.getElem_cons_zero])
  refine wpAnyH_take (i := 16) (v := ?ov16) rfl (by kernel_rfl) (by kernel_rfl) (by kernel_rfl) (fun _ _ _ h => h) (Or.inl ⟨by rfl, ?oy16⟩) (by assumption) ?or16
  case oy16 => (intro w hSw; (try dsimp only at hSw); go_simp; try with_reducible rfl)
  (try simp only [Act.put, List.setIfInBounds_toArray, List.set_cons_zero, List.set_cons_succ, List.getElem_toArray, List.getElem_cons_succ, List.getElem_cons_zero])
  refine wpAnyH_take (i := 17) (v := ?ov17) rfl (by kernel_rfl) (by kernel_rfl) (by kernel_rfl) (fun _ _ _ h => h) (Or.inl ⟨by rfl, ?oy17⟩) (by assumption) ?or17
  case oy17 => (intro w hSw; (try dsimp only at hSw); go_simp; try with_reducible rfl)
  (try simp only [Act.put, List.setIfInBounds_toArray, List.set_cons_zero, List.set_cons_succ, List.getElem_toArray, List.getElem_cons_succ, List.getElem_cons_zero])
  refine wpAnyH_take (i := 18) (v := ?ov18) rfl (by kernel_rfl) (by kernel_rfl) (by kernel_rfl) (fun _ _ _ h => h) (Or.inl ⟨by rfl, ?oy18⟩) (by assumption) ?or18
  case oy18 => (intro w hSw; (try dsimp only at hSw); go_simp; try with_reducible rfl)
  (try simp only [Act.put, List.setIfInBounds_toArray, List.set_cons_zero, List.set_cons_succ, List.getElem_toArray, List.getElem_cons_succ, List.getElem_cons_zero])
  refine wpAnyH_take (i := 19) (v := ?ov19) rfl (by kernel_rfl) (by kernel_rfl) (by kernel_rfl) (fun _ _ _ h => h) (Or.inl ⟨by rfl, ?oy19⟩) (by assumption) ?or19
  case oy19 => (intro w hSw; (try dsimp only at hSw); go_simp; try with_reducible rfl)
  (try simp only [Act.put, List.setIfInBounds_toArray, List.set_cons_zero, List.set_cons_succ, List.getElem_toArray, List.getElem_cons_succ, List.getElem_cons_zero])
  refine wpAnyH_take (i := 20) (v := ?ov20) rfl (by kernel_rfl) (by kernel_rfl) (by kernel_rfl) (fun _ _ _ h => h) (Or.inl ⟨by rfl, ?oy20⟩) (by assumption) ?or20
  case oy20 => (intro w hSw; (try dsimp only at hSw); go_simp; try with_reducible rfl)
  (try simp only [Act.put, List.setIfInBounds_toArray, List.set_cons_zero, List.set_cons_succ, List.getElem_toArray, List.getElem_cons_succ, List.getElem_cons_zero])
  refine wpAnyH_take (i := 21) (v := ?ov21) rfl (by kernel_rfl) (by kernel_rfl) (by kernel_rfl) (fun _ _ _ h => h) (Or.inl ⟨by rfl, ?oy21⟩) (by assumption) ?or21
  case oy21 => (intro w hSw; (try dsimp only at hSw); go_simp; try with_reducible rfl)
  (try simp only [Act.put, List.setIfInBounds_toArray, List.set_cons_zero, List.set_cons_succ, List.getElem_toArray, List.getElem_cons_succ, List.getElem_cons_zero])
  refine wpAnyH_take (i := 22) (v := ?ov22) rfl (by kernel_rfl) (by kernel_rfl) (by kernel_rfl) (fun _ _ _ h => h) (Or.inl ⟨by rfl, ?oy22⟩) (by assumption) ?or22
  case oy22 => (intro w hSw; (try dsimp only at hSw); go_simp; try with_reducible rfl)
  (try simp only [Act.put, List.setIfInBounds_toArray, List.set_cons_zero, List.set_cons_succ, List.getElem_toArray, List.getElem_cons_succ, List.getElem_cons_zero])
  refine wpAnyH_take (i := 23) (v := ?ov23) rfl (by kernel_rfl) (by kernel_rfl) (by kernel_rfl) (fun _ _ _ h => h) (Or.inl ⟨by rfl, ?oy23⟩) (by assumption) ?or23
  case oy23 => (intro w hSw; (try dsimp only at hSw); go_simp; try with_reducible rfl)
  (try simp only [Act.put, List.setIfInBounds_toArray, List.set_cons_zero, List.set_cons_succ, List.getElem_toArray, List.getElem_cons_succ, List.getElem_cons_zero])
  refine wpAnyH_done (by kernel_rfl) ?_ _
  clear hHeld
  have hs12 := HB2.out.size
  have xm : XDV B w2 xb xd X (fun k => Y k ∨ New w1 w2 k) S Jx := XV.out.more HB2.out
  have HO2' : Own w2 w1.heap.size (.slice va (unfD S.image).length vc) (unfD S.image) := HO2.out
  have HR2' : Rws w2 (New w1 w2) (.slice ra rs.length rc) rs vs := HR2.out
  obtain ⟨F, hF⟩ : ∃ F, F = New w1 w2 := ⟨_, rfl⟩
  have HF : Hid (∀ k, F k → w1.heap.size ≤ k ∧ k < w2.heap.size) := hid (by rw [hF]; exact fun k hk => hk)
  have HAF : Hid (∀ k, (Value.slice va (unfD S.image).length vc).ownBlock = some k → F k) := hid (by rw [hF]; exact HO2'.lt)
  rw [← hF] at xm HR2'
  have XM := hid xm
  have HA := hid HO2'
  have HR := hid HR2'
  clear xm HO2' HR2' HO2 HR2 hF
  have hk0 := (HSS.out _ HB2.out).1
  have hj2 := J1.out.below HB2.out
  have J2 := hid hj2
  have B2 := hid (B1.out.trans (HB2.out.mono (Nat.le_trans hB B1.out.size)))
  clear hj2
  have hjlt : ∀ k, R1 k → k < w1.heap.size := J1.out.rlt
  rcases HQ.out with hq8 | hq4
  · have hS8 : openS S (unfE (S.log.drop p)) p = S := by rw [hq8]; rfl
    have hif : cv = -1 := by rw [HCV.out, hq8]; rfl
    subst hif
    rw [hS8] at J2
    have XZ := XM
    have JZ := J2
    have BZ := B2
    obtain ⟨wz, hwz⟩ : ∃ wz, wz = w2 := ⟨_, rfl⟩
    have KZ : Hid (∀ k, (F k ∨ k < B) → wz.heap[k]? = w2.heap[k]?) := hid (by rw [hwz]; intro k _; rfl)
    have SZ : Hid (w2.heap.size ≤ wz.heap.size) := hid (by rw [hwz]; exact Nat.le_refl _)
    rw [← hwz] at XZ JZ BZ ⊢
    have hxlt : xb < wz.heap.size := by rw [hwz]; have := lt_of_block HHD.out; omega
    have DZ : Hid (∀ k, R1 k → ¬ (X k ∨ (Y k ∨ F k))) := hid fun k hk h => by
      rcases h with h | h | h
      · exact D1.out k hk ((EQ.out k).2 (.inl h))
      · exact D1.out k hk ((EQ.out k).2 (.inr h))
      · have := hjlt k hk; have := (HF.out k h).1; omega
    have LG : Hid (S.log = framesB rs) := hid (by
      have h0 : t = [] := by
        have h8 : unfE t = 8 := by
          have := HFR.out.all rs t HLG.out HSM.out (by rcases HT.out with h | h <;> rw [h] <;> decide) HNE.out
          rw [← this.2.2]; exact hq8
        unfold unfE at h8
        by_cases h0 : t = []
        · exact h0
        · exfalso
          rw [if_neg h0] at h8
          split at h8 <;> try omega
          split at h8 <;> try omega
          split at h8 <;> try omega
          split at h8 <;> omega
      rw [HLG.out, h0, List.append_nil])
    clear hwz hk0 hq8 hS8
    obtain ⟨Xz, hXz⟩ : ∃ Xz, Xz = X := ⟨_, rfl⟩
    rw [← hXz] at XZ DZ
    clear hXz
    have hdz : Bts wz (.slice va (unfD S.image).length vc) (unfD S.image) := (HA.out.blk fun k hk => KZ.out k (.inl (HAF.out k hk))).bts
    have hdo : InB B (fun k => Y k ∨ F k) wz (.slice va (unfD S.image).length vc) (unfD S.image) := fun _ k hk => .inr ⟨.inr (HAF.out k hk), by
      obtain ⟨cs, fr, h⟩ := own_typed HA.out k hk
      exact ⟨cs, fr, (KZ.out k (.inl (HAF.out k hk))).trans h⟩⟩
    have hro : wz.ownsRow 0 34 1 (.slice ra rs.length rc) rs.length vs := ownsRow_blk HR.out.own fun k hk => KZ.out k (.inl (HR.out.at' k hk))
    have hrows : ∀ i (_ : i < rs.length), ∃ u, vs[i]? = some u ∧ Bts wz u rs[i] ∧ InB B (fun k => Y k ∨ F k) wz u rs[i] := fun i hi => by
      obtain ⟨u, g1, g2, g3⟩ := HR.out.rows i hi
      refine ⟨u, g1, (g2.blk fun k hk => KZ.out k (.inl (g3 k hk))).bts, fun _ k hk => .inr ⟨.inr (g3 k hk), ?_⟩⟩
      obtain ⟨cs, fr, h⟩ := own_typed g2 k hk
      exact ⟨cs, fr, (KZ.out k (.inl (g3 k hk))).trans h⟩
    have xs := XZ.out.opened (Q := fun k => Xz k ∨ (Y k ∨ F k)) (fun _ => Iff.rfl) hdz hdo hro (fun k hk => .inr (HR.out.at' k hk)) hrows
    obtain ⟨Q4, pw4⟩ := PW.stepX (R := R1) (Q := fun k => Xz k ∨ (Y k ∨ F k)) (B := B) (w0 := w0) ⟨JZ.out, ⟨Xz, _, XZ.out, fun _ => Iff.rfl⟩, DZ.out, A1.out, BZ.out⟩ hB xs
    obtain ⟨jiv, jrv, jus, jx⟩ := XZ.out.j
    obtain ⟨c0, c1, c2, c3, cf⟩ := cell_four jx.head
    have PW4 := hid pw4
    obtain ⟨RJ4, RD4, jdv4, -⟩ := pw4.j
    obtain ⟨X4, Y4, xdv4, -⟩ := pw4.x
    have JN4 := hid jdv4.j
    have XJ4 := hid xdv4.j
    have HIM4 : Hid ((unfD S.image).length ≤ 100000000000) := hid (by have := (unfE_zero HOK.out.1).2; omega)
    have HSZ4 : Hid (sizeJ ⟨unfD S.image, rs, false⟩ ≤ 1000000000) := hid (by show (framesB rs).length ≤ _; have := HPE.out; omega)
    clear hdz hdo hro hrows xs pw4 jdv4 xdv4 jx
    go_wp2_with fail
    refine (alike_any B jb db xb xd RJ4 Y4 _ _ JN4.out XJ4.out HIM4.out HSZ4.out).mono ?_
    rintro e w5 ⟨rfl, hb5⟩
    have PW5 := hid (PW4.out.later hB hb5)
    clear hb5
    go_wp2
    go_ret2
    exact ⟨jb, R1, Q4, S, rfl, PW5.out, LG.out, rfl, HON.out, HLF.out⟩
  · have hS4 : openS S (unfE (S.log.drop p)) p = writeS S (cutS S (p : Nat)) S := by rw [hq4]; rfl
    have hif : cv = (p : Int) := by rw [HCV.out, hq4]; rfl
    subst hif
    rw [hS4] at J2
    have hp0 : (0 : Int) ≤ (p : Int) := by omega
    have hcut : ¬ ((p : Int) < 0 ∨ (S.log.length : Int) < (p : Int)) := by omega
    have hSz : writeS S (cutS S (p : Nat)) S = ⟨S.room, S.image, S.stage, S.staged, S.log.take p, min S.sure p, false, -1⟩ := by
      unfold writeS cutS
      rw [HON.out, if_neg hcut]
      simp [HLF.out, HON.out]
      decide
    have HSz := hid hSz
    clear hS4 hcut hSz
    go_wp2_with fail
    refine (rcut_any xd X S (p : Nat) _ XM.out.d).mono ?_
    rw [HWE.out]
    rintro e wz ⟨rfl, hs3⟩
    obtain ⟨Xz, xz, tz, rz⟩ := XM.out.cut hs3
    obtain ⟨Sz, hSz⟩ : ∃ Sz, Sz = writeS S (cutS S (p : Nat)) S := ⟨_, rfl⟩
    rw [← hSz] at xz J2 HSz
    have XZ := hid xz
    have JZ := hid (J2.out.but tz fun k hk h => D1.out k hk ((EQ.out k).2 (.inl h)))
    have hxl : ∀ k, X k → k < w1.heap.size := XV.out.d.rlt
    have hxB : ∀ k, X k → B ≤ k := XV.out.ax
    have BZ := hid (B2.out.trans (tz.below (Nat.le_trans hB B2.out.size) hxB))
    have hb2 := B2.out.size
    have KZ : Hid (∀ k, (F k ∨ k < B) → wz.heap[k]? = w2.heap[k]?) := hid (by
      intro k hk
      rcases hk with hk | hk
      · exact tz.block k (HF.out k hk).2 fun h => by have := hxl k h; have := (HF.out k hk).1; omega
      · exact tz.block k (by omega) fun h => by have := hxB k h; omega)
    have hxlt : xb < wz.heap.size := by have := lt_of_block HHD.out; have := tz.size; omega
    have DZ : Hid (∀ k, R1 k → ¬ (Xz k ∨ (Y k ∨ F k))) := hid fun k hk h => by
      have h1 := hjlt k hk
      rcases h with h | h | h
      · rcases rz k h with h' | h'
        · exact D1.out k hk ((EQ.out k).2 (.inl h'))
        · omega
      · exact D1.out k hk ((EQ.out k).2 (.inr h))
      · have := (HF.out k h).1; omega
    have LG : Hid (Sz.log = framesB rs) := hid (by
      rw [HSz.out]
      show S.log.take p = _
      rw [HLG.out, HPE.out, List.take_left])
    clear hSz hs3 xz tz rz hxl hxB hb2 hk0 hq4
    have hdz : Bts wz (.slice va (unfD S.image).length vc) (unfD S.image) := (HA.out.blk fun k hk => KZ.out k (.inl (HAF.out k hk))).bts
    have hdo : InB B (fun k => Y k ∨ F k) wz (.slice va (unfD S.image).length vc) (unfD S.image) := fun _ k hk => .inr ⟨.inr (HAF.out k hk), by
      obtain ⟨cs, fr, h⟩ := own_typed HA.out k hk
      exact ⟨cs, fr, (KZ.out k (.inl (HAF.out k hk))).trans h⟩⟩
    have hro : wz.ownsRow 0 34 1 (.slice ra rs.length rc) rs.length vs := ownsRow_blk HR.out.own fun k hk => KZ.out k (.inl (HR.out.at' k hk))
    have hrows : ∀ i (_ : i < rs.length), ∃ u, vs[i]? = some u ∧ Bts wz u rs[i] ∧ InB B (fun k => Y k ∨ F k) wz u rs[i] := fun i hi => by
      obtain ⟨u, g1, g2, g3⟩ := HR.out.rows i hi
      refine ⟨u, g1, (g2.blk fun k hk => KZ.out k (.inl (g3 k hk))).bts, fun _ k hk => .inr ⟨.inr (g3 k hk), ?_⟩⟩
      obtain ⟨cs, fr, h⟩ := own_typed g2 k hk
      exact ⟨cs, fr, (KZ.out k (.inl (g3 k hk))).trans h⟩
    have xs := XZ.out.opened (Q := fun k => Xz k ∨ (Y k ∨ F k)) (fun _ => Iff.rfl) hdz hdo hro (fun k hk => .inr (HR.out.at' k hk)) hrows
    obtain ⟨Q4, pw4⟩ := PW.stepX (R := R1) (Q := fun k => Xz k ∨ (Y k ∨ F k)) (B := B) (w0 := w0) ⟨JZ.out, ⟨Xz, _, XZ.out, fun _ => Iff.rfl⟩, DZ.out, A1.out, BZ.out⟩ hB xs
    obtain ⟨jiv, jrv, jus, jx⟩ := XZ.out.j
    obtain ⟨c0, c1, c2, c3, cf⟩ := cell_four jx.head
    have PW4 := hid pw4
    obtain ⟨RJ4, RD4, jdv4, -⟩ := pw4.j
    obtain ⟨X4, Y4, xdv4, -⟩ := pw4.x
    have JN4 := hid jdv4.j
    have XJ4 := hid xdv4.j
    have HIM4 : Hid ((unfD S.image).length ≤ 100000000000) := hid (by have := (unfE_zero HOK.out.1).2; omega)
    have HSZ4 : Hid (sizeJ ⟨unfD S.image, rs, false⟩ ≤ 1000000000) := hid (by show (framesB rs).length ≤ _; have := HPE.out; omega)
    clear hdz hdo hro hrows xs pw4 jdv4 xdv4 jx
    go_wp2_with fail
    refine (alike_any B jb db xb xd RJ4 Y4 _ _ JN4.out XJ4.out HIM4.out HSZ4.out).mono ?_
    rintro e w5 ⟨rfl, hb5⟩
    have PW5 := hid (PW4.out.later hB hb5)
    clear hb5
    go_wp2
    go_ret2
    exact ⟨jb, R1, Q4, Sz, rfl, PW5.out, LG.out, by rw [HSz.out], by rw [HSz.out], by rw [HSz.out]⟩
end Go.Proofs.Ytpchmdfkifbciaa
