/- What Sync, Add and Save of the document's journal answer and leave. Conditions: it and its device lie in memory; what is laid has at most MaxText bytes and was there ahead of all. -/
import Derived.Test.YtpchmdfkifbciaaJkJn
namespace Go.Proofs.Ytpchmdfkifbciaa
open Go.RowKit

set_option maxHeartbeats 800000 in
theorem xsync_any (B xb xd : Nat) (Q : Nat → Prop) (S : DS) (J : JS) (w : World) (hd : Xd B w xb xd Q S J) :
    Calls Try.prog 17 #[.pointer (some ⟨xb, 0, none⟩)] w fun e w' => e = .returned (.int .i64 (syncE S J)) ∧ XStep B w xb xd Q w' (syncD S J) (syncJ S J) := by
  have HD := hid hd
  obtain ⟨iv, rv, us, c0, c1, c2, c3, cf, -, -, hlt⟩ := hd.cells
  clear hd
  unfold syncE syncD syncJ
  cases hu : J.down with
  | true =>
    rw [hu] at c3
    simp only [if_true]
    clear hu
    go_enter Try.func17, Try.ntmps17
    go_wp2
    go_ret
    exact ⟨rfl, XStep.refl HD.out⟩
  | false =>
    rw [hu] at c3
    simp only [Bool.false_eq_true, if_false]
    have HG := hid (HD.out.disk fun X _ d => rsync_any xd X S w d)
    obtain ⟨er, her⟩ : ∃ er, er = writeE S 0 := ⟨_, rfl⟩
    rw [← her] at HG ⊢
    clear her hu
    go_enter Try.func17, Try.ntmps17
    go_wp2_with fail
    refine HG.out.mono ?_
    rintro e w1 ⟨rfl, hs1⟩
    have HS := hid hs1
    clear hs1 HG c0 c1 c2 c3 cf
    by_cases h6 : er = 6
    · subst h6
      obtain ⟨Q2, d2, t2, r2⟩ := HS.out
      obtain ⟨iv2, rv2, us2, k0, k1, k2, k3, kf, -, -, hlt2⟩ := d2.cells
      have D2 := hid d2
      have T2 := hid t2
      have R2 := hid r2
      clear d2 t2 r2
      go_wp2
      go_ret
      exact ⟨rfl, xstep_trans T2.out R2.out D2.out.downed⟩
    · have h6' : (er == 6) = false := by simpa using h6
      go_wp2
      go_ret
      unfold dn
      rw [if_neg h6]
      exact ⟨rfl, HS.out⟩
/-- A record more, of the law's own. -/
theorem XDV.added {B : Nat} {w w1 w2 : World} {xb xd : Nat} {Q X Y : Nat → Prop} {S : DS} {J : JS} {iv rv u v' : Value} {us : List Value} {r : List UInt8} (h : XDV B w xb xd X Y S J) (e : ∀ k, Q k ↔ X k ∨ Y k) (hj : XjV B w xb xd Y J iv rv us)
    (hb : Below w.heap.size w w1) (hu : Bts w u r) (hold : Old B u r) (hg : w1.grownBy w2 rv.ownBlock) (ho : w2.ownsRow 0 34 1 v' (J.recs.length + 1) (us ++ [u])) (hat : v'.ownBlock = rv.ownBlock ∨ v'.ownBlock = some w1.heap.size) :
    XStep B w xb xd Q (w2.setCell ⟨xb, 2, none⟩ v') S { J with recs := J.recs ++ [r] } := by
  have hs1 := hb.size
  have hs2 := hg.size
  have hbl := h.bl
  have hxlt : xb < w.heap.size := lt_of_block hj.head
  have hxB := h.ay _ hj.yb
  have hxr : rv.ownBlock ≠ some xb := fun e => ownsRow_ne hj.ro hj.head typeX xb e rfl
  have keep : ∀ k, k < w.heap.size → rv.ownBlock ≠ some k → w2.heap[k]? = w.heap[k]? := fun k hk hn => (hg.block k (by omega) (fun e => hn e.symm)).trans (hb.block k hk)
  have h2 : w2.heap[xb]? = some (.cells #[.pointer (some ⟨xd, 0, none⟩), iv, rv, .bool J.down] 37 (0, 0)) := (keep xb hxlt hxr).trans hj.head
  have hw3 : ∀ k, k ≠ xb → (w2.setCell ⟨xb, 2, none⟩ v').heap[k]? = w2.heap[k]? := fun k hk => Below.heap_setCell _ _ _ _ (by simpa using hk)
  have hs3 : (w2.setCell ⟨xb, 2, none⟩ v').heap.size = w2.heap.size := by simp [World.setCell]
  -- what lies below B, or is a block of bytes of Y, is as it was
  have kb : ∀ k, k < B → (w2.setCell ⟨xb, 2, none⟩ v').heap[k]? = w.heap[k]? := fun k hk => by
    rw [hw3 k (by omega)]
    exact keep k (by omega) fun e => by have := h.ay k (hj.ra k e); omega
  have ky : ∀ k cs fr, Y k → w.heap[k]? = some (.cells cs 5 fr) → (w2.setCell ⟨xb, 2, none⟩ v').heap[k]? = w.heap[k]? := fun k cs fr hy hh => by
    have hne : k ≠ xb := by
      intro e; subst e
      rw [hj.head] at hh
      simp at hh
    rw [hw3 k hne]
    refine keep k (hj.ylt k hy) fun e => ?_
    obtain ⟨-, h' | ⟨g, cap, cur, e1, -, e2, -⟩⟩ := hj.ro
    · rw [h'.1] at e; cases e
    · rw [e1] at e
      cases e
      rw [e2] at hh
      simp at hh
  have kp : ∀ {v : Value} {l : List UInt8}, Bts w v l → InB B Y w v l → Bts (w2.setCell ⟨xb, 2, none⟩ v') v l := by
    intro v l hbv hk
    by_cases hl : l = []
    · subst hl; exact hbv.nil_any
    · refine hbv.blk fun k hv => ?_
      rcases hk hl k hv with h1 | ⟨h1, cs, fr, h2⟩
      · exact kb k h1
      · exact ky k cs fr h1 h2
  have ki : ∀ {v : Value} {l : List UInt8}, InB B Y w v l → InB B (fun k => Y k ∨ v'.ownBlock = some k) (w2.setCell ⟨xb, 2, none⟩ v') v l := fun hk => hk.stays (fun _ h => .inl h) ky
  refine h.turn (Y' := fun k => Y k ∨ v'.ownBlock = some k) e ?_ ⟨iv, v', us ++ [u], .inl hj.yb, ?_, ?_, kp hj.im hj.imo, ki hj.imo, ?_, fun k hk => .inr hk, ?_⟩ ?_
  · exact ((But.of_below hb).trans (R1 := Y) (But.grown hg hj.ra) (fun _ h => .inl h)).set (.inl hj.yb)
  · intro k hk
    rw [hs3]
    rcases hk with hk | hk
    · have := hj.ylt k hk; omega
    · exact (ownsRow_lt ho k hk).2
  · exact heap_setCell_same w2 xb 2 _ _ _ h2
  · rw [List.length_append]
    exact ownsRow_blk ho fun k hk => hw3 k (ownsRow_ne ho h2 typeX k hk)
  · intro i hi
    have hvl : us.length = J.recs.length := by have := hj.ro.1; omega
    by_cases hlt : i < J.recs.length
    · obtain ⟨x, g1, g2, g3⟩ := hj.rows i hlt
      have er : (J.recs ++ [r])[i] = J.recs[i] := List.getElem_append_left hlt
      refine ⟨x, by rw [List.getElem?_append_left (by omega)]; exact g1, ?_, ?_⟩
      · rw [er]; exact kp g2 g3
      · rw [er]; exact ki g3
    · obtain rfl : i = J.recs.length := by simp at hi; omega
      have er : (J.recs ++ [r])[J.recs.length] = r := by simp
      have hin : InB B Y w u r := fun hl k hk => .inl (hold hl k hk)
      refine ⟨u, by rw [List.getElem?_append_right (by omega), hvl]; simp, ?_, ?_⟩
      · rw [er]; exact kp hu hin
      · rw [er]; exact ki hin
  · intro k hk
    rcases hk with hk | hk
    · exact .inl hk
    · rcases hat with e' | e'
      · rw [e'] at hk; exact .inl (hj.ra k hk)
      · rw [e'] at hk; cases hk; exact .inr hs1
theorem one_cellX {w : World} {g : Nat} {u : Value} (h : w.cell? ⟨g, 0, none⟩ = some u) : ∀ j x, [u][j]? = some x → w.cell? ((⟨g, 0, none⟩ : Addr).add j) = some x := by
  intro j x hj
  match j with
  | 0 => simp at hj; subst hj; exact h
  | j + 1 => simp at hj
theorem one_oneX (va : Option Addr) (n c : Nat) : ∀ u ∈ [Value.slice va n c], u.oneCell' = true := by intro u hu; simp at hu; subst hu; rfl
set_option maxHeartbeats 1600000 in
theorem xadd_any (B xb xd : Nat) (Q : Nat → Prop) (S : DS) (J : JS) (v : Value) (r : List UInt8) (w : World) (hd : Xd B w xb xd Q S J) (hv : Bts w v r) (hold : Old B v r) (hr : r.length ≤ 3000) (hrl : J.recs.length ≤ 1000000000) :
    Calls Try.prog 15 #[.pointer (some ⟨xb, 0, none⟩), v] w fun e w' => e = .returned (.int .i64 (addE S J r)) ∧ XStep B w xb xd Q w' (addS S J r) (addJ S J r) := by
  have HD := hid hd
  have HV := hid hv
  have HOLD := hid hold
  obtain ⟨va, vc, rfl⟩ := hv.shape
  obtain ⟨iv, rv, us, c0, c1, c2, c3, cf, -, -, hlt⟩ := hd.cells
  have hlts := hid hd.lt
  have hbl := hid (show B ≤ w.heap.size by obtain ⟨X, Y, h, -⟩ := hd; exact h.bl)
  clear hd hv hold
  unfold addE addS addJ
  cases hu : J.down with
  | true =>
    rw [hu] at c3
    simp only [if_true]
    clear hu
    go_enter Try.func15, Try.ntmps15
    go_wp2
    go_ret
    exact ⟨rfl, XStep.refl HD.out⟩
  | false =>
    rw [hu] at c3
    simp only [Bool.false_eq_true, if_false, if_neg (show ¬ 1048576 < r.length by omega)]
    have HU := hid hu
    obtain ⟨er, her⟩ : ∃ er, er = writeE S (layE S (frameB r)) := ⟨_, rfl⟩
    obtain ⟨S1, hS1⟩ : ∃ S1, S1 = writeS S (layS S (frameB r)) (layS S (frameB r)) := ⟨_, rfl⟩
    have HG : Hid (∀ w1 fa fc, Below w.heap.size w w1 → Own w1 w.heap.size (.slice fa (r.length + 8) fc) (frameB r) → Calls Try.prog 46 #[.pointer (some ⟨xd, 0, none⟩), .slice fa (r.length + 8) fc] w1 fun e w' => e = .returned (.int .i64 er) ∧ XStep B w1 xb xd Q w' S1 J) :=
      hid fun w1 fa fc hb ho => by
        rw [her, hS1]
        exact (HD.out.below hb).disk fun X hX d => rappend_any xd X S _ (frameB r) w1 d ho.bts (fun k hk h => by have := (ho.lt k hk).1; have := (hlts.out k (hX k h)).2; omega) (by rw [frameB_len]; omega)
    rw [← her, ← hS1]
    clear her hS1 hu
    go_enter Try.func15, Try.ntmps15
    go_wp2_with fail
    go_region_with (first
      | (go_at_call 39; refine (refFrame_any _ r _ (show Bts w.drew _ _ from HV.out) (by omega)).mono ?_; rintro e w1 ⟨fa, fc, rfl, hf1, hb1⟩; have m0 : w1.cell? ⟨xb, 0, none⟩ = some (.pointer (some ⟨xd, 0, none⟩)) := cell_later hb1 c0; have HF1 := hid hf1; have HB1 := hid hb1; clear hf1 hb1)
      | (go_at_call 46; refine (HG.out w1 fa fc ⟨HB1.out.os, HB1.out.tape, HB1.out.output, HB1.out.size, HB1.out.block⟩ HF1.out).mono ?_; rintro e w2 ⟨rfl, hs2⟩; have HS : Hid (XStep B w xb xd Q w2 S1 J) := hid (xstep_below (w1 := w1) ⟨HB1.out.os, HB1.out.tape, HB1.out.output, HB1.out.size, HB1.out.block⟩ hs2); clear hs2))
    all_goals
      clear c0 c1 c2 c3 cf m0 HF1 HG
      by_cases h6 : er = 6
      · subst h6
        obtain ⟨Q2, d2, t2, r2⟩ := HS.out
        obtain ⟨iv2, rv2, us2, k0, k1, k2, k3, kf, -, -, hlt2⟩ := d2.cells
        have D2 := hid d2
        have T2 := hid t2
        have R2 := hid r2
        clear d2 t2 r2
        go_wp2
        go_ret
        exact ⟨rfl, xstep_trans T2.out R2.out D2.out.downed⟩
      · have h6' : (er == 6) = false := by simpa using h6
        by_cases h0 : er = 0
        · subst h0
          obtain ⟨Q2, ⟨X2, Y2, xd2, e2⟩, t2, r2⟩ := HS.out
          obtain ⟨iv2, rv2, us2, xj2⟩ := xd2.j
          obtain ⟨k0, k1, k2, k3, kf⟩ := cell_four xj2.head
          have hlt2 := lt_of_block xj2.head
          obtain ⟨ra, rc, rfl⟩ := ownsRow_shape xj2.ro
          have XD2 := hid xd2
          have E2 := hid e2
          have T2 := hid t2
          have R2 := hid r2
          have XJ := hid xj2
          have HV2 : Hid (Bts w2 (.slice va r.length vc) r) := hid (stay HV.out (fun hr k hk h => by have h1 := HOLD.out hr k hk; have h2 := (hlts.out k h).1; omega) w2 t2)
          have HOW : Hid ((w2.alloc (.cells #[.slice va r.length vc] 34)).ownsRow 0 34 1 (.slice ra J.recs.length rc) J.recs.length us2) := hid (ownsRow_blk xj2.ro fun k hk => Below.heap_alloc _ _ _ (ownsRow_lt xj2.ro k hk).2)
          have HCW : Hid ((w2.alloc (.cells #[.slice va r.length vc] 34)).cell? ⟨w2.heap.size, 0, none⟩ = some (.slice va r.length vc)) := hid (by rw [cell_of_row _ _ _ _ _ _ (heap_alloc_new _ _)]; rfl)
          have HXR := hid (ownsRow_ne xj2.ro xj2.head typeX)
          clear xd2 e2 t2 r2 xj2 HS
          go_wp2_with (at_builtin; obtain ⟨i0, hi0, hz0, hz1, hz2⟩ := info_parts Try.infoBB; refine wpList_append_own_at _ rfl _ _ 35 rfl 0 34 i0 (.slice none 0 0) 1 24 Try.underlyingBB hi0 hz0 hz1 hz2 rfl (by decide) (.slice ra J.recs.length rc) J.recs.length us2 rfl HOW.out ⟨w2.heap.size, 0, none⟩ 1 1 [.slice va r.length vc] rfl rfl (one_cellX HCW.out) (one_oneX _ _ _) (by unfold maxLen; omega) (by omega) (Nat.zero_le _) ?_; clear hi0 hz0 hz1 hz2; intro v5 w5 ho5 hg5 _ hat5; obtain ⟨va5, vc5, rfl⟩ := ownsRow_shape ho5; have HO5 := hid ho5; have HG5 := hid hg5; have HA5 := hid hat5; have hb5 : w5.heap[xb]? = w2.heap[xb]? := (hg5.block xb (by simp; omega) (fun e => HXR.out xb e.symm rfl)).trans (Below.heap_alloc _ _ _ hlt2); have q2 : w5.cell? ⟨xb, 2, none⟩ = some (.slice ra J.recs.length rc) := (World.cell?_of_block hb5).trans k2; have qf : ∀ i, w5.frozen? ⟨xb, i, none⟩ = false := (fun i => (World.frozen?_of_block hb5).trans (kf i)); clear ho5 hg5 hat5 hb5)
          go_ret
          have hx := xstep_trans T2.out R2.out (XD2.out.added E2.out XJ.out ((Below.refl _ _).alloc (Nat.le_refl _) _) HV2.out HOLD.out HG5.out HO5.out HA5.out)
          rw [HU.out] at hx
          exact ⟨rfl, hx⟩
        · have h0' : (er == 0) = false := by simpa using h0
          go_wp2
          go_ret
          unfold dn
          rw [if_neg h6]
          exact ⟨rfl, HS.out⟩
end Go.Proofs.Ytpchmdfkifbciaa
