/- The document's Apply where it makes new shards: a Renew. Conditions: its map of shards lies in memory. -/
import Derived.Test.YtnkjkaofgninnaaAtAt
namespace Go.Proofs.Ytnkjkaofgninnaa
open Go.RowKit Go.Maps Go.Shelf
set_option linter.unusedVariables false
set_option linter.unusedSimpArgs false

/-- Where a shard is, told by what stands ahead of it. -/
theorem rat_at (xb : Nat) (N : AtN) (ov sv : Value) (Z P Q : List SX) (z : SX) (i : Int) (w : World) (h : RB w xb N ov sv Z) (hl : Z.length ≤ 1000000) (hZ : Z = P ++ z :: Q) (hi : z.s.id = i) (hd : Z.Pairwise fun x y => x.s.id ≠ y.s.id) :
    Calls Try.prog 42 #[.pointer (some ⟨xb, 0, none⟩), .int .i64 i] w fun e w' => e = .returned (.int .i64 P.length) ∧ Below w.heap.size w w' := by
  refine (rat_any xb N ov sv Z i w h hl).mono ?_
  rintro e w' ⟨hb, ⟨k, hk, hki, rfl⟩ | ⟨hn, -⟩⟩
  · refine ⟨?_, hb⟩
    have hpl : P.length < Z.length := by rw [hZ]; simp
    have hz : Z[P.length] = z := by subst hZ; simp
    by_cases e : k = P.length
    · rw [e]
    · exfalso
      rcases Nat.lt_or_ge k P.length with h1 | h1
      · exact List.pairwise_iff_getElem.1 hd k P.length hk hpl h1 (by rw [hki, hz, hi])
      · exact List.pairwise_iff_getElem.1 hd P.length k hpl hk (by omega) (by rw [hki, hz, hi])
  · exact absurd hi (hn z (by rw [hZ]; simp))
theorem rat_no (xb : Nat) (N : AtN) (ov sv : Value) (Z : List SX) (i : Int) (w : World) (h : RB w xb N ov sv Z) (hl : Z.length ≤ 1000000) (hn : ∀ z ∈ Z, z.s.id ≠ i) :
    Calls Try.prog 42 #[.pointer (some ⟨xb, 0, none⟩), .int .i64 i] w fun e w' => e = .returned (.int .i64 (-1)) ∧ Below w.heap.size w w' := by
  refine (rat_any xb N ov sv Z i w h hl).mono ?_
  rintro e w' ⟨hb, ⟨k, hk, hki, rfl⟩ | ⟨-, he⟩⟩
  · exact absurd hki (hn _ (List.getElem_mem hk))
  · exact ⟨he, hb⟩
theorem shvs_one {w : World} {Z : List SX} (h : ∀ x ∈ Z, ShM w x.s x.mv x.pv) : ∀ u ∈ shvs Z, u.oneCell' = true := fun u hu => by
  obtain ⟨x, hx, hux⟩ := List.mem_flatMap.1 hu
  obtain ⟨⟨ma, mc, e1⟩, ⟨pa, pc, e2⟩⟩ := (h x hx).shape
  unfold SX.c at hux
  rw [e1, e2] at hux
  simp at hux
  rcases hux with rfl | rfl | rfl | rfl | rfl <;> rfl
theorem nwX_len (ml : List Int) (ps : List OrD) (mv pv : Value) : ∀ (l : List Sp) (nx : Int), (nwX nx ml ps mv pv l).length = l.length
  | [], nx => rfl
  | t :: l, nx => by rw [nwX, List.length_cons, List.length_cons, nwX_len ml ps mv pv l (nx + 1)]
theorem own_gr {w w' : World} {B B2 sz sz2 n n2 : Nat} {E E2 : TypeId} {v v2 : Value} {xs xs2 : List Value} (h1 : w.ownsRow B E sz v n xs) (h2 : w.ownsRow B2 E2 sz2 v2 n2 xs2) (hg : w.grownBy w' v.ownBlock) (hE : E2 ≠ E) : w'.ownsRow B2 E2 sz2 v2 n2 xs2 :=
  own_kept h2 fun q cs _ hh => hg.block q (lt_of_block hh) fun e => own_ne h1 hh hE (by first | exact e | exact e.symm)
/-- What the document's Apply leaves where it makes new shards. -/
def RaK (xb : Nat) (N : AtN) (P G Q : List SX) (sp : List Sp) (ml : List Int) (w : World) (e : Ending) (w' : World) : Prop :=
  ∃ ov' sv' mv pv, e = .returned (.int .i64 0) ∧ RB w' xb ⟨N.bl, N.ep + 1, N.nx + sp.length, opD N.nx sp.length⟩ ov' sv' (P ++ nwX N.nx ml (G.map fun x => x.or.o) mv pv sp ++ Q) ∧ Tr (fun q => q = xb) w w'
set_option maxRecDepth 100000 in
set_option maxHeartbeats 8000000 in
theorem rapp_renew (xb : Nat) (N : AtN) (ov sv : Value) (Z P Q : List SX) (z : SX) (sh : Int) (w : World) (h : RB w xb N ov sv Z) (hZ : Z = P ++ z :: Q) (hi : z.s.id = sh) (hd : Z.Pairwise fun x y => x.s.id ≠ y.s.id) (hop : N.op = []) (hnx : 0 ≤ N.nx ∧ N.nx ≤ 1073741824) (hep : 0 ≤ N.ep ∧ N.ep ≤ 1073741824) (hl : Z.length ≤ 100000) :
    Calls Try.prog 20 #[.pointer (some ⟨xb, 0, none⟩), chV ⟨4, sh, 0, 0, 0, 0⟩] w (RaK xb N P [z] Q [(z.s.fr, z.s.to)] z.s.mem w) := by
  obtain ⟨k, hk⟩ : ∃ k : Int, k = 4 := ⟨_, rfl⟩
  obtain ⟨ot, hot⟩ : ∃ k : Int, k = 0 := ⟨_, rfl⟩
  obtain ⟨at', hat⟩ : ∃ k : Int, k = 0 := ⟨_, rfl⟩
  obtain ⟨out, hout⟩ : ∃ k : Int, k = 0 := ⟨_, rfl⟩
  obtain ⟨in', hin⟩ : ∃ k : Int, k = 0 := ⟨_, rfl⟩
  obtain ⟨w1, hw1⟩ : ∃ w1, w1 = w.alloc (.cells #[.int .i64 k, .int .i64 sh, .int .i64 ot, .int .i64 at', .int .i64 out, .int .i64 in'] 24) := ⟨_, rfl⟩
  have HB1 : Hid (Below w.heap.size w w1) := hid (by rw [hw1]; exact (Below.refl _ _).alloc (Nat.le_refl _) _)
  have HC1 : Hid (w1.heap[w.heap.size]? = some (.cells #[.int .i64 k, .int .i64 sh, .int .i64 ot, .int .i64 at', .int .i64 out, .int .i64 in'] 24 (0, 0))) := hid (by rw [hw1]; exact heap_alloc_new _ _)
  have HW1 := hid hw1
  clear hw1
  subst hk hot hat hout hin
  have HZ := hid hZ
  have HI := hid hi
  have HD := hid hd
  have HOP := hid hop
  have HNX := hid hnx
  have HEP := hid hep
  have HL := hid hl
  obtain ⟨-, sva, svc, rfl⟩ := h.shapes
  obtain rfl := h.nil hop
  have hzl : 0 < Z.length := by rw [hZ]; simp; omega
  obtain ⟨g, rfl⟩ : ∃ g, sva = some ⟨g, 0, none⟩ := own_some h.row hzl
  obtain ⟨⟨sma, smc, hmv⟩, ⟨pa, pc, hpv⟩⟩ := (h.mem z (by rw [hZ]; simp)).shape
  have HMV := hid hmv
  have HPV := hid hpv
  have H1 := hid (h.below HB1.out)
  have b3 : w1.cell? ⟨xb, 3, none⟩ = some (.slice none 0 0) := H1.out.cell 3
  have b4 : w1.cell? ⟨xb, 4, none⟩ = some (.slice (some ⟨g, 0, none⟩) Z.length svc) := H1.out.cell 4
  clear hZ hi hd hop hnx hep hl hmv hpv hzl h
  unfold chV
  go_enter Try.func20, Try.ntmps20
  go_upto_region 1 with fail
  rw [← HW1.out]
  clear HW1
  obtain ⟨C, hCe⟩ : ∃ C, C = w.heap.size := ⟨_, rfl⟩
  rw [← hCe]
  rw [← hCe] at HC1
  have HCE : Hid (w.heap.size ≤ C) := hid (by omega)
  clear hCe
  have a0 : w1.cell? ⟨C, 0, none⟩ = some (.int .i64 _) := (cell_of_row _ _ _ _ _ _ HC1.out).trans rfl
  have a1 : w1.cell? ⟨C, 1, none⟩ = some (.int .i64 _) := (cell_of_row _ _ _ _ _ _ HC1.out).trans rfl
  have a2 : w1.cell? ⟨C, 2, none⟩ = some (.int .i64 _) := (cell_of_row _ _ _ _ _ _ HC1.out).trans rfl
  have a3 : w1.cell? ⟨C, 3, none⟩ = some (.int .i64 _) := (cell_of_row _ _ _ _ _ _ HC1.out).trans rfl
  have a4 : w1.cell? ⟨C, 4, none⟩ = some (.int .i64 _) := (cell_of_row _ _ _ _ _ _ HC1.out).trans rfl
  have a5 : w1.cell? ⟨C, 5, none⟩ = some (.int .i64 _) := (cell_of_row _ _ _ _ _ _ HC1.out).trans rfl
  go_upto_region 13 with (go_at_call 42; refine (rat_at xb N _ _ Z P Q z _ _ H1.out (by have := HL.out; omega) HZ.out HI.out HD.out).mono ?_; rintro e w2 ⟨rfl, hb2⟩; have B2 := hid hb2; clear hb2)
  clear a0 a1 a2 a3 a4 a5 b3 b4
  have H2 := hid (H1.out.below B2.out)
  have HC2 := hid ((B2.out.block C (lt_of_block HC1.out)).trans HC1.out)
  have HB2 := hid (HB1.out.trans (B2.out.mono HB1.out.size))
  clear H1 HC1 HB1 B2
  have b4 : w2.cell? ⟨xb, 4, none⟩ = some (.slice (some ⟨g, 0, none⟩) Z.length svc) := H2.out.cell 4
  have HPL : Hid (P.length < Z.length) := hid (by rw [HZ.out]; simp; try omega)
  have hpl : (P.length : Int) < (Z.length : Int) := by have := HPL.out; omega
  have hpn : ¬ (P.length : Int) < 0 := by omega
  have hRG : w2.rangeAt g (P.length * 5) [.int .i64 z.s.id, .int .i64 z.s.fr, .int .i64 z.s.to, .slice sma z.s.mem.length smc, .slice pa z.s.past.length pc] := own_range H2.out.row (P.length * 5) _ fun k v hv => by
    have := shvs_part Z P.length HPL.out k v (by
      have e : Z[P.length]'HPL.out = z := by have := HZ.out; subst this; simp
      rw [e]; unfold SX.c; rw [HMV.out, HPV.out]; exact hv)
    exact this
  obtain ⟨w3, hw3⟩ : ∃ w3, w3 = w2.alloc (.cells #[.int .i64 z.s.id, .int .i64 z.s.fr, .int .i64 z.s.to, .slice sma z.s.mem.length smc, .slice pa z.s.past.length pc] 46) := ⟨_, rfl⟩
  have HB3 : Hid (Below w2.heap.size w2 w3) := hid (by rw [hw3]; exact (Below.refl _ _).alloc (Nat.le_refl _) _)
  have HS3 : Hid (w3.heap[w2.heap.size]? = some (.cells #[.int .i64 z.s.id, .int .i64 z.s.fr, .int .i64 z.s.to, .slice sma z.s.mem.length smc, .slice pa z.s.past.length pc] 46 (0, 0))) := hid (by rw [hw3]; exact heap_alloc_new _ _)
  have HW3 := hid hw3
  clear hw3
  go_upto_region 16 with (refine wpl_loadM rfl _ rfl g (P.length * 5) (by go_simp) _ _ _ _ _ hRG ?_)
  rw [← HW3.out]
  clear HW3 hRG
  obtain ⟨S7, hS7⟩ : ∃ S7, S7 = w2.heap.size := ⟨_, rfl⟩
  rw [← hS7]
  rw [← hS7] at HS3
  have H3 := hid (H2.out.below HB3.out)
  have HC3 := hid ((HB3.out.block C (lt_of_block HC2.out)).trans HC2.out)
  have HBW3 := hid (HB2.out.trans (HB3.out.mono HB2.out.size))
  clear H2 HC2 HB2 HB3 hS7 b4
  have a0 : w3.cell? ⟨C, 0, none⟩ = some (.int .i64 _) := (cell_of_row _ _ _ _ _ _ HC3.out).trans rfl
  have s1 : w3.cell? ⟨S7, 1, none⟩ = some (.int .i64 z.s.fr) := (cell_of_row _ _ _ _ _ _ HS3.out).trans rfl
  have s2 : w3.cell? ⟨S7, 2, none⟩ = some (.int .i64 z.s.to) := (cell_of_row _ _ _ _ _ _ HS3.out).trans rfl
  obtain ⟨w4, hw4⟩ : ∃ w4, w4 = w3.alloc (.cells #[.int .i64 z.s.fr, .int .i64 z.s.to] 3) := ⟨_, rfl⟩
  have HB4 : Hid (Below w3.heap.size w3 w4) := hid (by rw [hw4]; exact (Below.refl _ _).alloc (Nat.le_refl _) _)
  have HE4 : Hid (w4.ownsRow w3.heap.size 3 1 (.slice (some ⟨w3.heap.size, 0, none⟩) 2 2) 2 (nvs [z.s.fr, z.s.to])) := hid (by rw [hw4]; exact own_many w3 3 #[.int .i64 z.s.fr, .int .i64 z.s.to] 1 2 (Nat.le_refl _) rfl (by omega))
  have HW4 := hid hw4
  clear hw4
  go_upto_region 18 with fail
  rw [← HW4.out]
  clear HW4 a0 s1 s2
  obtain ⟨E9, hE9⟩ : ∃ E9, E9 = w3.heap.size := ⟨_, rfl⟩
  rw [← hE9]
  rw [← hE9] at HE4
  have H4 := hid (H3.out.below HB4.out)
  have HC4 := hid ((HB4.out.block C (lt_of_block HC3.out)).trans HC3.out)
  have HS4 := hid ((HB4.out.block S7 (lt_of_block HS3.out)).trans HS3.out)
  have HBW4 := hid (HBW3.out.trans (HB4.out.mono HBW3.out.size))
  have HE9 : Hid (w.heap.size ≤ E9) := hid (by rw [hE9]; exact HBW3.out.size)
  clear H3 HC3 HS3 HBW3 HB4 hE9
  have a0 : w4.cell? ⟨C, 0, none⟩ = some (.int .i64 _) := (cell_of_row _ _ _ _ _ _ HC4.out).trans rfl
  have s3 : w4.cell? ⟨S7, 3, none⟩ = some (.slice sma z.s.mem.length smc) := (cell_of_row _ _ _ _ _ _ HS4.out).trans rfl
  go_upto_region 37 with fail
  obtain ⟨gn, hgn⟩ : ∃ gn : Nat, gn = 1 := ⟨_, rfl⟩
  have HPG : Hid (P.length + gn ≤ Z.length) := hid (by have := HPL.out; omega)
  rw [show (Value.int .i64 1) = .int .i64 (gn : Int) from by rw [hgn]; rfl]
  obtain ⟨G, hG⟩ : ∃ G, G = [z] := ⟨_, rfl⟩
  have HGN : Hid (G.length = gn) := hid (by rw [hG, hgn]; rfl)
  have HGN9 : Hid (gn ≤ 2) := hid (by omega)
  have HGZ : Hid (∀ x ∈ G, x ∈ Z) := hid (by rw [hG, HZ.out]; simp)
  have HPQ : Hid (∀ j (h : j < G.length), Z[P.length + j]? = some G[j]) := hid (by
    subst hG
    intro j h
    have : j = 0 := by simpa using h
    subst this
    rw [HZ.out]; simp)
  have HGE := hid hG
  have HZG : Hid (Z = (P ++ G) ++ Q) := hid (by rw [hG, HZ.out]; simp)
  have HEL : Hid (w4.ownsRow E9 3 1 (.slice (some ⟨E9, 0, none⟩) 2 2) 2 (nvs [z.s.fr, z.s.to])) := hid (own_below HE4.out (Below.refl _ _))
  have HML : Hid (w4.ownsRow 0 3 1 (.slice sma z.s.mem.length smc) z.s.mem.length (nvs z.s.mem)) := hid (by
    have := (H4.out.mem z (by rw [HZ.out]; simp)).m
    rw [HMV.out] at this
    exact this)
  have HON : Hid (∀ u ∈ shvs Z, u.oneCell' = true) := hid (shvs_one fun x hx => H4.out.mem x hx)
  clear hgn hG
  obtain ⟨el, hel⟩ : ∃ el, el = [z.s.fr, z.s.to] := ⟨_, rfl⟩
  obtain ⟨sp, hsp⟩ : ∃ sp : List Sp, sp = [(z.s.fr, z.s.to)] := ⟨_, rfl⟩
  have HSP : Hid (1 ≤ sp.length ∧ sp.length ≤ 2) := hid (by rw [hsp]; simp)
  have HES : Hid (el.length = sp.length + 1 ∧ ∀ j (h : j < sp.length), el[j]? = some sp[j].1 ∧ el[j + 1]? = some sp[j].2) := hid (by
    subst hel hsp
    refine ⟨rfl, fun j h => ?_⟩
    have : j = 0 := by simpa using h
    subst this
    exact ⟨rfl, rfl⟩)
  have hel2 : el.length = 2 := by rw [hel]; rfl
  rw [show (Value.slice (some ⟨E9, 0, none⟩) 2 2) = .slice (some ⟨E9, 0, none⟩) el.length el.length from by rw [hel2]]
  replace HEL : Hid (w4.ownsRow E9 3 1 (.slice (some ⟨E9, 0, none⟩) el.length el.length) el.length (nvs el)) := hid (by rw [hel2, hel]; exact HEL.out)
  obtain ⟨mla, rfl⟩ : ∃ mla, mla = sma := ⟨_, rfl⟩
  obtain ⟨mlc, rfl⟩ : ∃ mlc, mlc = smc := ⟨_, rfl⟩
  obtain ⟨ml, hml⟩ : ∃ ml, ml = z.s.mem := ⟨_, rfl⟩
  rw [← hml] at HML
  rw [← hml, ← hsp]
  have HSE := hid hsp
  have HME := hid hml
  clear hel hsp hel2 hml
  have c2 : w4.cell? ⟨xb, 2, none⟩ = some (.int .i64 N.nx) := H4.out.cell 2
  have c1 : w4.cell? ⟨xb, 1, none⟩ = some (.int .i64 N.ep) := H4.out.cell 1
  have c4 : w4.cell? ⟨xb, 4, none⟩ = some (.slice (some ⟨g, 0, none⟩) Z.length svc) := H4.out.cell 4
  have hn1 : ¬ 1073741824 < N.nx := by have := HNX.out; omega
  have hn2 : ¬ 1073741824 < N.ep := by have := HEP.out; omega
  have hcap : (Z.length : Int) ≤ (svc : Int) := by
    rcases H4.out.row.2 with ⟨hn, -⟩ | ⟨g', cap', cur, hv, hB, hg, hn, hcap, -⟩
    · cases hn
    · cases hv; omega
  have hpg : (P.length : Int) + (gn : Int) ≤ (Z.length : Int) := by have := HPG.out; omega
  have hwi : IntKind.i64.wrap ((P.length : Int) + (gn : Int)) = ((P.length + gn : Nat) : Int) := by rw [IntWalk.i64_in _ ⟨by omega, by have := HL.out; omega⟩]; omega
  go_upto_region 40 with fail
  clear hn1 hn2 c1 c2
  go_wp2_with fail
  go_loopw [14, 16, 201] (fun lv _ jv wr => ∃ j : Nat, jv = .int .i64 j ∧ j ≤ gn ∧ wr.ownsRow w4.heap.size 52 4 lv j (orvs ((G.take j).map SX.or)) ∧ Below w4.heap.size w4 wr) (fun _ _ jv _ => gn - (intOf jv).toNat)
  case atStart => exact ⟨0, rfl, Nat.zero_le _, World.ownsRow_nil _ _ _ _, Below.refl _ _⟩
  case round =>
    obtain ⟨j, rfl, hj, ho, hb⟩ := hrel
    obtain ⟨la, lc, rfl⟩ := own_shape ho
    have OO := hid ho
    have BB := hid hb
    clear ho hb
    by_cases hlt : (j : Int) < (gn : Int)
    · have hjg : j < G.length := by have := HGN.out; omega
      have HMG := hid ((H4.out.mem G[j] (HGZ.out _ (List.getElem_mem hjg))).below BB.out)
      obtain ⟨T, ta, tc, ua, uc, hxe⟩ : ∃ T ta tc ua uc, G[j] = ⟨T, .slice ta T.mem.length tc, .slice ua T.past.length uc⟩ := by
        obtain ⟨⟨ta, tc, e1⟩, ⟨ua, uc, e2⟩⟩ := HMG.out.shape
        exact ⟨_, ta, tc, ua, uc, by rw [← e1, ← e2]⟩
      have HTK : Hid (G.take (j + 1) = G.take j ++ [⟨T, .slice ta T.mem.length tc, .slice ua T.past.length uc⟩]) := hid (by rw [List.take_add_one, List.getElem?_eq_getElem hjg, hxe]; rfl)
      have hRG : wr.rangeAt g (P.length * 5 + j * 5) [.int .i64 T.id, .int .i64 T.fr, .int .i64 T.to, .slice ta T.mem.length tc, .slice ua T.past.length uc] := by
        have hz : Z[P.length + j]? = some ⟨T, .slice ta T.mem.length tc, .slice ua T.past.length uc⟩ := by rw [HPQ.out j hjg, hxe]
        have hzl : P.length + j < Z.length := (List.getElem?_eq_some_iff.1 hz).1
        have := own_range (own_below H4.out.row BB.out) ((P.length + j) * 5) (Z[P.length + j].c) fun k v hv => shvs_part Z (P.length + j) hzl k v hv
        rw [(List.getElem?_eq_some_iff.1 hz).2, show (P.length + j) * 5 = P.length * 5 + j * 5 by omega] at this
        exact this
      clear hxe HMG
      obtain ⟨w5, hw5⟩ : ∃ w5, w5 = wr.alloc (.cells #[.int .i64 T.id, .int .i64 T.fr, .int .i64 T.to, .slice ta T.mem.length tc, .slice ua T.past.length uc] 46) := ⟨_, rfl⟩
      have HB5 : Hid (Below wr.heap.size wr w5) := hid (by rw [hw5]; exact (Below.refl _ _).alloc (Nat.le_refl _) _)
      have hS5 : w5.heap[wr.heap.size]? = some (.cells #[.int .i64 T.id, .int .i64 T.fr, .int .i64 T.to, .slice ta T.mem.length tc, .slice ua T.past.length uc] 46 (0, 0)) := by rw [hw5]; exact heap_alloc_new _ _
      have HW5 := hid hw5
      clear hw5
      go_upto_region 43 with (refine wpl_loadM rfl _ rfl g (P.length * 5 + j * 5) (by go_simp) _ _ _ _ _ hRG ?_)
      rw [← HW5.out]
      clear HW5 hRG
      have q0 : w5.cell? ⟨wr.heap.size, 0, none⟩ = some (.int .i64 T.id) := (cell_of_row _ _ _ _ _ _ hS5).trans rfl
      have q3 : w5.cell? ⟨wr.heap.size, 3, none⟩ = some (.slice ta T.mem.length tc) := (cell_of_row _ _ _ _ _ _ hS5).trans rfl
      have q1 : w5.rangeAt wr.heap.size 1 [.int .i64 T.fr, .int .i64 T.to] := range_of_row hS5 1 _ fun k v hv => by
        match k, hv with
        | 0, hv => exact hv
        | 1, hv => exact hv
      have BB5 := hid (BB.out.trans (HB5.out.mono BB.out.size))
      have HZ9 : Hid (w4.heap.size ≤ wr.heap.size) := hid BB.out.size
      have OO5 := hid (own_below (own_below OO.out HB5.out) ((Below.refl w5.heap.size w5).alloc (Nat.le_refl _) (.cells #[.int .i64 T.id, .int .i64 T.fr, .int .i64 T.to, .slice ta T.mem.length tc] 52)))
      have B6 := hid (BB5.out.trans (((Below.refl w5.heap.size w5).alloc (Nat.le_refl _) (.cells #[.int .i64 T.id, .int .i64 T.fr, .int .i64 T.to, .slice ta T.mem.length tc] 52)).mono BB5.out.size))
      clear OO BB HB5 hS5 BB5
      generalize wr.heap.size = Sb at *
      have Y3 : Hid (∀ i u, (orC ⟨⟨T.id, T.fr, T.to, T.mem⟩, .slice ta T.mem.length tc⟩)[i]? = some u → (w5.alloc (.cells #[.int .i64 T.id, .int .i64 T.fr, .int .i64 T.to, .slice ta T.mem.length tc] 52)).cell? ⟨w5.heap.size, i, none⟩ = some u) := hid (fun i u hi => by rw [cell_of_row _ _ _ _ _ _ (heap_alloc_new _ _)]; unfold orC at hi; simpa using hi)
      obtain ⟨dP, hdP1, hdP2⟩ := Try.rowSp
      have HGN2 : Hid (gn ≤ 2) := hid HGN9.out
      have hgn2 : (gn : Int) ≤ 2 := by have := HGN2.out; omega
      go_wp2_with (first | (refine wpList_load_mid rfl _ _ rfl Sb 1 (by go_simp) [.int .i64 T.fr, .int .i64 T.to] dP q1 hdP1 hdP2 Try.sizeSp ?_) | (at_builtin; refine wpl_app rowOr rfl _ _ rfl w4.heap.size (.slice la j lc) j (orvs ((G.take j).map SX.or)) rfl OO5.out w5.heap.size 1 1 (orC ⟨⟨T.id, T.fr, T.to, T.mem⟩, .slice ta T.mem.length tc⟩) rfl rfl Y3.out (by intro u hu; simp [orC] at hu; rcases hu with rfl | rfl | rfl | rfl <;> rfl) (by have := HGN2.out; omega) B6.out.size ?_; intro va6 vc6 w6 ho6 hg6; have O6 := hid ho6; have B7 := hid (B6.out.trans (own_bel OO5.out hg6 B6.out.size)); clear ho6 hg6))
      go_roundw
      case rel => exact ⟨j + 1, by go_num, by omega, by rw [HTK.out, List.map_append, orvs_append]; exact O6.out, B7.out⟩
      case measure => simp [intOf]; omega
    · obtain rfl : gn = j := by omega
      have HTG : Hid (G.take gn = G) := hid (by rw [← HGN.out, List.take_length])
      rw [HTG.out] at OO
      have H5 := hid (H4.out.below BB.out)
      have HPA := hid (own_lower OO.out (Nat.zero_le _))
      have HEL5 := hid (own_below HEL.out BB.out)
      have HML5 := hid (own_below HML.out BB.out)
      have HBW5 := hid (HBW4.out.trans (BB.out.mono HBW4.out.size))
      clear H4 HEL HML HBW4 HC4 HS4 OO BB HTG c4 a0 s3 hlt hj
      obtain ⟨wB, hwB⟩ : ∃ wB, wB = wr := ⟨_, rfl⟩
      rw [← hwB] at H5 HPA HEL5 HML5 HBW5
      rw [← hwB]
      clear hwB
      have c4 : wB.cell? ⟨xb, 4, none⟩ = some (.slice (some ⟨g, 0, none⟩) Z.length svc) := H5.out.cell 4
      have hpc : (P.length : Int) ≤ (svc : Int) := by have := HPL.out; omega
      have HPY : Hid (∀ i u, (shvs P)[i]? = some u → wB.cell? (Addr.add ⟨g, 0, none⟩ i) = some u) := hid fun i u hi => by
        rw [Addr.add_lit, Nat.zero_add]
        refine own_cell H5.out.row ?_
        rw [HZ.out, shvs_append, List.getElem?_append_left (List.getElem?_eq_some_iff.1 hi).1]
        exact hi
      have HPO : Hid (∀ u ∈ shvs P, u.oneCell' = true) := hid fun u hu => HON.out u (by rw [HZ.out, shvs_append]; exact List.mem_append_left _ hu)
      have HPB : Hid (0 + P.length ≤ 1000000000) := hid (by have := HPL.out; have := HL.out; omega)
      have HPS : Hid ((shvs P).length = P.length * 5) := hid (shvs_len P)
      go_upto_region 47 with (at_builtin; refine wpl_appA rowSh rfl _ _ rfl wB.heap.size (.slice none 0 0) 0 [] rfl (World.ownsRow_nil _ _ _ _) ⟨g, 0, none⟩ P.length _ (shvs P) rfl HPS.out HPY.out HPO.out HPB.out (Nat.le_refl _) ?_; intro va7 vc7 w7 ho7 hg7; have O7 := hid ho7; have G7 := hid hg7; clear ho7 hg7)
      have hcap7 : Hid (w7.ownsRow wB.heap.size 46 5 (.slice va7 P.length vc7) P.length (shvs P)) := hid (by have := O7.out; simpa using this)
      have B7 : Hid (Below wB.heap.size wB w7) := hid ((Below.refl _ _).grown G7.out (Nat.le_refl _) (fun k hk => by cases hk))
      clear O7 G7 c4 hpc HPY HPO HPS
      go_upto_region 48 with fail
      go_loopw [17, 18] (fun nv jv wr => ∃ (j : Nat) (ov2 : Value), jv = .int .i64 j ∧ j ≤ sp.length ∧ wr.ownsRow wB.heap.size 46 5 nv (P.length + j) (shvs (P ++ nwX N.nx ml (G.map fun x => x.or.o) (.slice mla ml.length mlc) (.slice la gn lc) (sp.take j))) ∧ wr.heap[xb]? = some (.cells #[.int .i64 N.bl, .int .i64 N.ep, .int .i64 (N.nx + j), ov2, .slice (some ⟨g, 0, none⟩) Z.length svc] 69 (0, 0)) ∧ wr.ownsRow wB.heap.size 3 1 ov2 j (nvs (opD N.nx j)) ∧ Tr (fun q => q = xb) wB wr) (fun _ jv _ => sp.length - (intOf jv).toNat)
      case atStart =>
        refine ⟨0, .slice none 0 0, rfl, Nat.zero_le _, ?_, ?_, World.ownsRow_nil _ _ _ _, Tr.below B7.out⟩
        · rw [List.take_zero, nwX, List.append_nil, Nat.add_zero]; exact hcap7.out
        · rw [show N.nx + ((0 : Nat) : Int) = N.nx by omega]
          exact (B7.out.block xb (lt_of_block H5.out.box)).trans H5.out.box
      case round =>
        obtain ⟨j, ov2, rfl, hj, hn, hx, hv, ht⟩ := hrel
        obtain ⟨va, vc, rfl⟩ := own_shape hn
        obtain ⟨va2, vc2, rfl⟩ := own_shape hv
        have HN := hid hn
        have HXR := hid hx
        have HV2 := hid hv
        have HTB := hid ht
        clear hn hx hv ht
        have hsl : (sp.length : Int) ≤ 2 := by have := HSP.out; omega
        by_cases hlt : (j : Int) < (sp.length : Int)
        · have hjl : j < sp.length := by omega
          have HELR := hid (own_trx H5.out.box HTB.out HEL5.out (by decide))
          obtain ⟨e1, e2, hse⟩ : ∃ e1 e2, sp[j] = (e1, e2) := ⟨_, _, rfl⟩
          have HE1 : Hid ((nvs el)[j]? = some (.int .i64 e1)) := hid (by unfold nvs; rw [List.getElem?_map, (HES.out.2 j hjl).1, hse]; rfl)
          have HE2 : Hid ((nvs el)[j + 1]? = some (.int .i64 e2)) := hid (by unfold nvs; rw [List.getElem?_map, (HES.out.2 j hjl).2, hse]; rfl)
          have HTK : Hid (sp.take (j + 1) = sp.take j ++ [(e1, e2)]) := hid (by rw [List.take_add_one, List.getElem?_eq_getElem hjl, hse]; rfl)
          have HTL : Hid ((sp.take j).length = j) := hid (by rw [List.length_take]; omega)
          clear hse
          have c2 : wr.cell? ⟨xb, 2, none⟩ = some (.int .i64 (N.nx + j)) := (cell_of_row _ _ _ _ _ _ HXR.out).trans rfl
          have e1c : wr.cell? ⟨E9, j, none⟩ = some (.int .i64 e1) := own_cell HELR.out HE1.out
          have e2c : wr.cell? ⟨E9, j + 1, none⟩ = some (.int .i64 e2) := own_cell HELR.out HE2.out
          have hje : (j : Int) + 1 < (el.length : Int) := by have := HES.out.1; omega
          have hje2 : (j : Int) < (el.length : Int) := by have := HES.out.1; omega
          have hwj : IntKind.i64.wrap ((j : Int) + 1) = (j : Int) + 1 := IntWalk.i64_in _ ⟨by omega, by omega⟩
          have hj0 : (0 : Int) ≤ (j : Int) + 1 := by omega
          have HBA : Hid (Below wr.heap.size wr (wr.drew.alloc (.cells #[.int .i64 (N.nx + j), .int .i64 e1, .int .i64 e2, .slice mla ml.length mlc, .slice la gn lc] 46))) := hid (((Below.refl wr.heap.size wr).drew).alloc (Nat.le_refl _) _)
          have OVA := hid (own_below HN.out HBA.out)
          have HVA := hid (own_below HV2.out HBA.out)
          have HELA := hid (own_below HELR.out HBA.out)
          have HXA := hid ((HBA.out.block xb (lt_of_block HXR.out)).trans HXR.out)
          have HY : Hid (∀ i u, ([.int .i64 (N.nx + j), .int .i64 e1, .int .i64 e2, .slice mla ml.length mlc, .slice la gn lc] : List Value)[i]? = some u → (wr.drew.alloc (.cells #[.int .i64 (N.nx + j), .int .i64 e1, .int .i64 e2, .slice mla ml.length mlc, .slice la gn lc] 46)).cell? ⟨wr.heap.size, i, none⟩ = some u) := hid fun i u hi => by
            have hn : (wr.drew.alloc (.cells #[.int .i64 (N.nx + j), .int .i64 e1, .int .i64 e2, .slice mla ml.length mlc, .slice la gn lc] 46)).heap[wr.heap.size]? = _ := heap_alloc_new wr.drew _
            rw [cell_of_row _ _ _ _ _ _ hn]
            simpa using hi
          clear HN HXR HV2 HELR
          go_upto_region 50 with fail
          refine wp_region_held_drew (S := fun Y => Y.cell? ⟨xb, 2, none⟩ = some (.int .i64 (N.nx + j)) ∧ Y.cell? ⟨E9, j, none⟩ = some (.int .i64 e1) ∧ Y.cell? ⟨E9, j + 1, none⟩ = some (.int .i64 e2)) (by kernel_rfl) ⟨c2, e1c, e2c⟩ (fun hHeld => ?_)
          refine wpAnyH_take (i := 0) (v := ?pv0) rfl (by kernel_rfl) (by kernel_rfl) (by kernel_rfl) (fun _ _ _ h => h) (Or.inl ⟨by rfl, ?py0⟩) (by assumption) ?pr0
          case py0 => (intro w hSw; (try dsimp only at hSw); go_simp; try with_reducible rfl)
          (try simp only [Act.put, putS])
          refine wpAnyH_take (i := 1) (v := ?pv1) rfl (by kernel_rfl) (by kernel_rfl) (by kernel_rfl) (fun _ _ _ h => h) (Or.inl ⟨by rfl, ?py1⟩) (by assumption) ?pr1
          case py1 => (intro w hSw; (try dsimp only at hSw); go_simp; try with_reducible rfl)
          (try simp only [Act.put, putS])
          refine wpAnyH_take (i := 2) (v := ?pv2) rfl (by kernel_rfl) (by kernel_rfl) (by kernel_rfl) (fun _ _ _ h => h) (Or.inl ⟨by rfl, ?py2⟩) (by assumption) ?pr2
          case py2 => (intro w hSw; (try dsimp only at hSw); go_simp; try with_reducible rfl)
          (try simp only [Act.put, putS])
          refine wpAnyH_take (i := 3) (v := ?pv3) rfl (by kernel_rfl) (by kernel_rfl) (by kernel_rfl) (fun _ _ _ h => h) (Or.inl ⟨by rfl, ?py3⟩) (by assumption) ?pr3
          case py3 => (intro w hSw; (try dsimp only at hSw); go_simp; try with_reducible rfl)
          (try simp only [Act.put, putS])
          refine wpAnyH_take (i := 4) (v := ?pv4) rfl (by kernel_rfl) (by kernel_rfl) (by kernel_rfl) (fun _ _ _ h => h) (Or.inl ⟨by rfl, ?py4⟩) (by assumption) ?pr4
          case py4 => (intro w hSw; (try dsimp only at hSw); go_simp; try with_reducible rfl)
          (try simp only [Act.put, putS])
          refine wpAnyH_take (i := 5) (v := ?pv5) rfl (by kernel_rfl) (by kernel_rfl) (by kernel_rfl) (fun _ _ _ h => h) (Or.inl ⟨by rfl, ?py5⟩) (by assumption) ?pr5
          case py5 => (intro w hSw; (try dsimp only at hSw); go_simp; try with_reducible rfl)
          (try simp only [Act.put, putS])
          refine wpAnyH_take (i := 6) (v := ?pv6) rfl (by kernel_rfl) (by kernel_rfl) (by kernel_rfl) (fun _ _ _ h => h) (Or.inl ⟨by rfl, ?py6⟩) (by assumption) ?pr6
          case py6 => (intro w hSw; (try dsimp only at hSw); go_simp; try with_reducible rfl)
          (try simp only [Act.put, putS])
          refine wpAnyH_take (i := 7) (v := ?pv7) rfl (by kernel_rfl) (by kernel_rfl) (by kernel_rfl) (fun _ _ _ h => h) (Or.inl ⟨by rfl, ?py7⟩) (by assumption) ?pr7
          case py7 => (intro w hSw; (try dsimp only at hSw); go_simp; try with_reducible rfl)
          (try simp only [Act.put, putS])
          refine wpAnyH_take (i := 8) (v := ?pv8) rfl (by kernel_rfl) (by kernel_rfl) (by kernel_rfl) (fun _ _ _ h => h) (Or.inl ⟨by rfl, ?py8⟩) (by assumption) ?pr8
          case py8 => (intro w hSw; (try dsimp only at hSw); go_simp; try with_reducible rfl)
          (try simp only [Act.put, putS])
          refine wpAnyH_take (i := 9) (v := ?pv9) rfl (by kernel_rfl) (by kernel_rfl) (by kernel_rfl) (fun _ _ _ h => h) (Or.inl ⟨by rfl, ?py9⟩) (by assumption) ?pr9
          case py9 => (intro w hSw; (try dsimp only at hSw); go_simp; try with_reducible rfl)
          (try simp only [Act.put, putS])
          refine wpAnyH_take (i := 10) (v := ?pv10) rfl (by kernel_rfl) (by kernel_rfl) (by kernel_rfl) (fun _ _ _ h => h) (Or.inl ⟨by rfl, ?py10⟩) (by assumption) ?pr10
          case py10 => (intro w hSw; (try dsimp only at hSw); go_simp; try with_reducible rfl)
          (try simp only [Act.put, putS])
          refine wpAnyH_take (i := 11) (v := ?pv11) rfl (by kernel_rfl) (by kernel_rfl) (by kernel_rfl) (fun _ _ _ h => h) (Or.inl ⟨by rfl, ?py11⟩) (by assumption) ?pr11
          case py11 => (intro w hSw; (try dsimp only at hSw); go_simp; try with_reducible rfl)
          (try simp only [Act.put, putS])
          refine wpAnyH_take (i := 12) (v := ?pv12) rfl (by kernel_rfl) (by kernel_rfl) (by kernel_rfl) (fun _ _ _ h => h) (Or.inl ⟨by rfl, ?py12⟩) (by assumption) ?pr12
          case py12 => (intro w hSw; (try dsimp only at hSw); go_simp; try with_reducible rfl)
          (try simp only [Act.put, putS])
          refine wpAnyH_take (i := 13) (v := ?pv13) rfl (by kernel_rfl) (by kernel_rfl) (by kernel_rfl) (fun _ _ _ h => h) (Or.inl ⟨by rfl, ?py13⟩) (by assumption) ?pr13
          case py13 => (intro w hSw; (try dsimp only at hSw); go_simp; try with_reducible rfl)
          (try simp only [Act.put, putS])
          refine wpAnyH_take (i := 14) (v := ?pv14) rfl (by kernel_rfl) (by kernel_rfl) (by kernel_rfl) (fun _ _ _ h => h) (Or.inl ⟨by rfl, ?py14⟩) (by assumption) ?pr14
          case py14 => (intro w hSw; (try dsimp only at hSw); go_simp; try with_reducible rfl)
          (try simp only [Act.put, putS])
          refine wpAnyH_take (i := 15) (v := ?pv15) rfl (by kernel_rfl) (by kernel_rfl) (by kernel_rfl) (fun _ _ _ h => h) (Or.inl ⟨by rfl, ?py15⟩) (by assumption) ?pr15
          case py15 => (intro w hSw; (try dsimp only at hSw); go_simp; try with_reducible rfl)
          (try simp only [Act.put, putS])
          refine wpAnyH_take (i := 16) (v := ?pv16) rfl (by kernel_rfl) (by kernel_rfl) (by kernel_rfl) (fun _ _ _ h => h) (Or.inl ⟨by rfl, ?py16⟩) (by assumption) ?pr16
          case py16 => (intro w hSw; (try dsimp only at hSw); go_simp; try with_reducible rfl)
          (try simp only [Act.put, putS])
          refine wpAnyH_take (i := 17) (v := ?pv17) rfl (by kernel_rfl) (by kernel_rfl) (by kernel_rfl) (fun _ _ _ h => h) (Or.inl ⟨by rfl, ?py17⟩) (by assumption) ?pr17
          case py17 => (intro w hSw; (try dsimp only at hSw); go_simp; try with_reducible rfl)
          (try simp only [Act.put, putS])
          refine wpAnyH_ready (rs := [18]) (by kernel_rfl) (by simp) ?_
          refine AllReadyH.cons rfl (fun K hK => ?_) AllReadyH.nil
          rw [if_pos (by rfl)]
          go_simp
          refine hK.out _ _ ⟨cell_later (((Below.refl wr.heap.size wr).drew).alloc (Nat.le_refl _) _) c2, cell_later (((Below.refl wr.heap.size wr).drew).alloc (Nat.le_refl _) _) e1c, cell_later (((Below.refl wr.heap.size wr).drew).alloc (Nat.le_refl _) _) e2c⟩ (fun hHeld => ?_)
          try clear hK K
          (try simp only [Act.put, putS])
          refine wpAnyH_ready (rs := [19]) (by kernel_rfl) (by simp) ?_
          refine AllReadyH.cons rfl (fun K hK => ?_) AllReadyH.nil
          rw [if_pos (by rfl)]
          refine wp_app rowSh _ _ rfl wB.heap.size (.slice va (P.length + j) vc) (P.length + j) (shvs (P ++ nwX N.nx ml (G.map fun x => x.or.o) (.slice mla ml.length mlc) (.slice la gn lc) (sp.take j))) rfl OVA.out wr.heap.size 1 1 [.int .i64 (N.nx + j), .int .i64 e1, .int .i64 e2, .slice mla ml.length mlc, .slice la gn lc] rfl rfl HY.out (by simp [Value.oneCell']) (by have := HPL.out; have := HL.out; omega) (Nat.le_trans HTB.out.size HBA.out.size) ?_
          intro va5 vc5 w5 ho5 hg5
          have O5 := hid ho5
          have X5 : Hid (w5.heap[xb]? = some (.cells #[.int .i64 N.bl, .int .i64 N.ep, .int .i64 (N.nx + j), .slice va2 j vc2, .slice (some ⟨g, 0, none⟩) Z.length svc] 69 (0, 0))) := hid ((hg5.block xb (lt_of_block HXA.out) (fun e => own_ne OVA.out HXA.out (by decide) (by first | exact e | exact e.symm))).trans HXA.out)
          have V5 := hid (own_gr OVA.out HVA.out hg5 (by decide))
          have E5 := hid (own_gr OVA.out HELA.out hg5 (by decide))
          have T5 : Hid (Tr (fun q => q = xb) wB w5) := hid ((HTB.out.bel HBA.out).more hg5 fun k hk => .inl (World.ownsRow.lt OVA.out k hk).1)
          clear ho5 hg5
          refine hK.out _ _ ⟨(cell_of_row _ _ _ _ _ _ X5.out).trans rfl, own_cell E5.out HE1.out, own_cell E5.out HE2.out⟩ (fun hHeld => ?_)
          try clear hK K
          (try simp only [Act.put, putS])
          refine wpAnyH_take (i := 20) (v := ?pv20) rfl (by kernel_rfl) (by kernel_rfl) (by kernel_rfl) (fun _ _ _ h => h) (Or.inl ⟨by rfl, ?py20⟩) (by assumption) ?pr20
          case py20 => (intro w hSw; (try dsimp only at hSw); go_simp; try with_reducible rfl)
          (try simp only [Act.put, putS])
          refine wpAnyH_done (by kernel_rfl) ?_ _
          clear hHeld c2 e1c e2c
          have d2 : w5.cell? ⟨xb, 2, none⟩ = some (.int .i64 (N.nx + j)) := (cell_of_row _ _ _ _ _ _ X5.out).trans rfl
          have BA5 : Hid (Below w5.heap.size w5 (w5.drew.alloc (.cells #[.int .i64 (N.nx + j)] 3))) := hid (((Below.refl w5.heap.size w5).drew).alloc (Nat.le_refl _) _)
          have XA5 := hid ((BA5.out.block xb (lt_of_block X5.out)).trans X5.out)
          have VA5 := hid (own_below V5.out BA5.out)
          have OA5 := hid (own_below O5.out BA5.out)
          have HY5 : Hid (∀ i u, ([.int .i64 (N.nx + j)] : List Value)[i]? = some u → (w5.drew.alloc (.cells #[.int .i64 (N.nx + j)] 3)).cell? ⟨w5.heap.size, i, none⟩ = some u) := hid fun i u hi => by
            have hn : (w5.drew.alloc (.cells #[.int .i64 (N.nx + j)] 3)).heap[w5.heap.size]? = _ := heap_alloc_new w5.drew _
            rw [cell_of_row _ _ _ _ _ _ hn]
            simpa using hi
          have d3 : w5.drew.cell? ⟨xb, 3, none⟩ = some (.slice va2 j vc2) := (cell_of_row _ _ _ _ _ _ X5.out).trans rfl
          have d3b : (w5.drew.alloc (.cells #[.int .i64 (N.nx + j)] 3)).cell? ⟨xb, 3, none⟩ = some (.slice va2 j vc2) := (cell_of_row _ _ _ _ _ _ XA5.out).trans rfl
          have d3c : ((w5.alloc (.cells #[.int .i64 (N.nx + j)] 3)).drew).cell? ⟨xb, 3, none⟩ = some (.slice va2 j vc2) := d3b
          clear OVA HVA HELA HXA HY HBA
          go_upto_region 51 with fail
          refine wp_region_held_drew (S := fun Y => Y.cell? ⟨xb, 2, none⟩ = some (.int .i64 (N.nx + j))) (by kernel_rfl) d2 (fun hHeld => ?_)
          refine wpAnyH_take (i := 0) (v := ?cv0) rfl (by kernel_rfl) (by kernel_rfl) (by kernel_rfl) (fun _ _ _ h => h) (Or.inl ⟨by rfl, ?cy0⟩) (by assumption) ?cr0
          case cy0 => (intro w hSw; (try dsimp only at hSw); go_simp; try with_reducible rfl)
          (try simp only [Act.put, putS])
          refine wpAnyH_take (i := 1) (v := ?cv1) rfl (by kernel_rfl) (by kernel_rfl) (by kernel_rfl) (fun _ _ _ h => h) (Or.inl ⟨by rfl, ?cy1⟩) (by assumption) ?cr1
          case cy1 => (intro w hSw; (try dsimp only at hSw); go_simp; try with_reducible rfl)
          (try simp only [Act.put, putS])
          refine wpAnyH_take (i := 2) (v := ?cv2) rfl (by kernel_rfl) (by kernel_rfl) (by kernel_rfl) (fun _ _ _ h => h) (Or.inl ⟨by rfl, ?cy2⟩) (by assumption) ?cr2
          case cy2 => (intro w hSw; (try dsimp only at hSw); go_simp; try with_reducible rfl)
          (try simp only [Act.put, putS])
          refine wpAnyH_take (i := 3) (v := ?cv3) rfl (by kernel_rfl) (by kernel_rfl) (by kernel_rfl) (fun _ _ _ h => h) (Or.inl ⟨by rfl, ?cy3⟩) (by assumption) ?cr3
          case cy3 => (intro w hSw; (try dsimp only at hSw); go_simp; try with_reducible rfl)
          (try simp only [Act.put, putS])
          refine wpAnyH_take (i := 5) (v := ?cv5) rfl (by kernel_rfl) (by kernel_rfl) (by kernel_rfl) (fun _ _ _ h => h) (Or.inl ⟨by rfl, ?cy5⟩) (by assumption) ?cr5
          case cy5 => (intro w hSw; (try dsimp only at hSw); go_simp; try with_reducible rfl)
          (try simp only [Act.put, putS])
          refine wpAnyH_take (i := 6) (v := ?cv6) rfl (by kernel_rfl) (by kernel_rfl) (by kernel_rfl) (fun _ _ _ h => h) (Or.inl ⟨by rfl, ?cy6⟩) (by assumption) ?cr6
          case cy6 => (intro w hSw; (try dsimp only at hSw); go_simp; try with_reducible rfl)
          (try simp only [Act.put, putS])
          refine wpAnyH_take (i := 7) (v := ?cv7) rfl (by kernel_rfl) (by kernel_rfl) (by kernel_rfl) (fun _ _ _ h => h) (Or.inl ⟨by rfl, ?cy7⟩) (by assumption) ?cr7
          case cy7 => (intro w hSw; (try dsimp only at hSw); go_simp; try with_reducible rfl)
          (try simp only [Act.put, putS])
          refine wpAnyH_take (i := 8) (v := ?cv8) rfl (by kernel_rfl) (by kernel_rfl) (by kernel_rfl) (fun _ _ _ h => h) (Or.inl ⟨by rfl, ?cy8⟩) (by assumption) ?cr8
          case cy8 => (intro w hSw; (try dsimp only at hSw); go_simp; try with_reducible rfl)
          (try simp only [Act.put, putS])
          refine wpAnyH_ready (rs := [4, 9]) (by kernel_rfl) (by simp) ?_
          refine AllReadyH.cons rfl (fun K hK => ?_) (AllReadyH.cons rfl (fun K hK => ?_) AllReadyH.nil)
          · skip
            rw [if_pos (by rfl)]
            go_simp
            refine hK.out _ _ hHeld (fun hHeld => ?_)
            clear hK K
            (try simp only [Act.put, putS])
            refine wpAnyH_ready (rs := [9]) (by kernel_rfl) (by simp) ?_
            refine AllReadyH.cons rfl (fun K hK => ?_) AllReadyH.nil
            rw [if_pos (by rfl)]
            go_simp
            refine hK.out _ _ (cell_later (((Below.refl w5.heap.size w5).drew).alloc (Nat.le_refl _) _) d2) (fun hHeld => ?_)
            clear hK K
            (try simp only [Act.put, putS])
            clear d3 d3b d3c
            refine wpAnyH_ready (rs := [10]) (by kernel_rfl) (by simp) ?_
            refine AllReadyH.cons rfl (fun K hK => ?_) AllReadyH.nil
            rw [if_pos (by rfl)]
            refine wp_app rowNm _ _ rfl wB.heap.size (.slice va2 j vc2) j (nvs (opD N.nx j)) rfl VA5.out w5.heap.size 1 1 [.int .i64 (N.nx + j)] rfl rfl HY5.out (by simp [Value.oneCell']) (by omega) (Nat.le_trans T5.out.size BA5.out.size) ?_
            intro va8 vc8 w8 ho8 hg8
            have O8 := hid ho8
            have X8 : Hid (w8.heap[xb]? = some (.cells #[.int .i64 N.bl, .int .i64 N.ep, .int .i64 (N.nx + j), .slice va2 j vc2, .slice (some ⟨g, 0, none⟩) Z.length svc] 69 (0, 0))) := hid ((hg8.block xb (lt_of_block XA5.out) (fun e => own_ne VA5.out XA5.out (by decide) (by first | exact e | exact e.symm))).trans XA5.out)
            have N8 := hid (own_gr VA5.out OA5.out hg8 (by decide))
            have T8 : Hid (Tr (fun q => q = xb) wB w8) := hid ((T5.out.bel BA5.out).more hg8 fun k hk => .inl (World.ownsRow.lt VA5.out k hk).1)
            clear ho8 hg8
            refine hK.out _ _ ((cell_of_row _ _ _ _ _ _ X8.out).trans rfl) (fun hHeld => ?_)
            clear hK K
            (try simp only [Act.put, putS])
            refine wpAnyH_take (i := 11) (v := ?dv11) rfl (by kernel_rfl) (by kernel_rfl) (by kernel_rfl) (fun _ _ _ h => h) (Or.inl ⟨by rfl, ?dy11⟩) (by assumption) ?dr11
            case dy11 => (intro w hSw; (try dsimp only at hSw); go_simp; try with_reducible rfl)
            (try simp only [Act.put, putS])
            refine wpAnyH_take (i := 12) (v := ?dv12) rfl (by kernel_rfl) (by kernel_rfl) (by kernel_rfl) (fun _ _ _ h => h) (Or.inl ⟨by rfl, ?dy12⟩) (by assumption) ?dr12
            case dy12 => (intro w hSw; (try dsimp only at hSw); go_simp; try with_reducible rfl)
            (try simp only [Act.put, putS])
            have d35 : w8.cell? ⟨xb, 3, none⟩ = some (.slice va2 j vc2) := (cell_of_row _ _ _ _ _ _ X8.out).trans rfl
            have f35 : w8.frozen? ⟨xb, 3, none⟩ = false := frozen_of_row _ _ _ _ _ X8.out
            refine wpAnyH_ready (rs := [13]) (by kernel_rfl) (by simp) ?_
            refine AllReadyH.cons rfl (fun K hK => ?_) AllReadyH.nil
            rw [if_pos (by rfl)]
            go_simp
            have X9 : Hid ((w8.setCell ⟨xb, 3, none⟩ (.slice va8 (j + 1) vc8)).heap[xb]? = some (.cells #[.int .i64 N.bl, .int .i64 N.ep, .int .i64 (N.nx + j), .slice va8 (j + 1) vc8, .slice (some ⟨g, 0, none⟩) Z.length svc] 69 (0, 0))) := hid (heap_setCell_same _ _ _ _ _ _ X8.out)
            have T9 : Hid (Tr (fun q => q = xb) wB (w8.setCell ⟨xb, 3, none⟩ (.slice va8 (j + 1) vc8))) := hid (T8.out.trans (Tr.set rfl))
            have V9 := hid (own_set (i := 3) (u := .slice va8 (j + 1) vc8) O8.out X8.out (by decide))
            have N9 := hid (own_set (i := 3) (u := .slice va8 (j + 1) vc8) N8.out X8.out (by decide))
            refine hK.out _ _ ((cell_of_row _ _ _ _ _ _ X9.out).trans rfl) (fun hHeld => ?_)
            clear hK K
            (try simp only [Act.put, putS])
            refine wpAnyH_done (by kernel_rfl) ?_ _
            clear hHeld d35 f35 X8 T8 O8 N8
            generalize w8.setCell ⟨xb, 3, none⟩ (.slice va8 (j + 1) vc8) = w9 at X9 T9 V9 N9 ⊢
            have k2 : w9.cell? ⟨xb, 2, none⟩ = some (.int .i64 (N.nx + j)) := (cell_of_row _ _ _ _ _ _ X9.out).trans rfl
            have kf : w9.frozen? ⟨xb, 2, none⟩ = false := frozen_of_row _ _ _ _ _ X9.out
            have hwn : IntKind.i64.wrap (N.nx + j + 1) = N.nx + ((j + 1 : Nat) : Int) := by rw [IntWalk.i64_in _ ⟨by have := HNX.out; omega, by have := HNX.out; omega⟩]; omega
            have HREL : Hid ((w9.setCell ⟨xb, 2, none⟩ (.int .i64 (N.nx + ((j + 1 : Nat) : Int)))).ownsRow wB.heap.size 46 5 (.slice va5 (P.length + j + 1) vc5) (P.length + (j + 1)) (shvs (P ++ nwX N.nx ml (G.map fun x => x.or.o) (.slice mla ml.length mlc) (.slice la gn lc) (sp.take (j + 1)))) ∧ (w9.setCell ⟨xb, 2, none⟩ (.int .i64 (N.nx + ((j + 1 : Nat) : Int)))).heap[xb]? = some (.cells #[.int .i64 N.bl, .int .i64 N.ep, .int .i64 (N.nx + ((j + 1 : Nat) : Int)), .slice va8 (j + 1) vc8, .slice (some ⟨g, 0, none⟩) Z.length svc] 69 (0, 0)) ∧ (w9.setCell ⟨xb, 2, none⟩ (.int .i64 (N.nx + ((j + 1 : Nat) : Int)))).ownsRow wB.heap.size 3 1 (.slice va8 (j + 1) vc8) (j + 1) (nvs (opD N.nx (j + 1))) ∧ Tr (fun q => q = xb) wB (w9.setCell ⟨xb, 2, none⟩ (.int .i64 (N.nx + ((j + 1 : Nat) : Int))))) := hid (by
              refine ⟨?_, heap_setCell_same _ _ _ _ _ _ X9.out, ?_, T9.out.trans (Tr.set rfl)⟩
              · have := own_set (i := 2) (u := .int .i64 (N.nx + ((j + 1 : Nat) : Int))) N9.out X9.out (by decide)
                rw [HTK.out, nwX_snoc, HTL.out, ← List.append_assoc, shvs_append]
                exact this
              · have := own_set (i := 2) (u := .int .i64 (N.nx + ((j + 1 : Nat) : Int))) V9.out X9.out (by decide)
                rw [opD_succ]
                simpa [nvs] using this)
            go_wp2_with fail
            rw [show N.nx + ((j : Int) + 1) = N.nx + ((j + 1 : Nat) : Int) by omega]
            generalize w9.setCell ⟨xb, 2, none⟩ (.int .i64 (N.nx + ((j + 1 : Nat) : Int))) = w10 at *
            go_roundw
            case rel => exact ⟨j + 1, _, by go_num, by omega, HREL.out⟩
            case measure => simp [intOf]; omega
          · skip
            rw [if_pos (by rfl)]
            go_simp
            refine hK.out _ _ (cell_later (((Below.refl w5.heap.size w5).drew).alloc (Nat.le_refl _) _) d2) (fun hHeld => ?_)
            clear hK K
            (try simp only [Act.put, putS])
            refine wpAnyH_ready (rs := [4]) (by kernel_rfl) (by simp) ?_
            refine AllReadyH.cons rfl (fun K hK => ?_) AllReadyH.nil
            rw [if_pos (by rfl)]
            go_simp
            refine hK.out _ _ hHeld (fun hHeld => ?_)
            clear hK K
            (try simp only [Act.put, putS])
            clear d3 d3b d3c
            refine wpAnyH_ready (rs := [10]) (by kernel_rfl) (by simp) ?_
            refine AllReadyH.cons rfl (fun K hK => ?_) AllReadyH.nil
            rw [if_pos (by rfl)]
            refine wp_app rowNm _ _ rfl wB.heap.size (.slice va2 j vc2) j (nvs (opD N.nx j)) rfl VA5.out w5.heap.size 1 1 [.int .i64 (N.nx + j)] rfl rfl HY5.out (by simp [Value.oneCell']) (by omega) (Nat.le_trans T5.out.size BA5.out.size) ?_
            intro va8 vc8 w8 ho8 hg8
            have O8 := hid ho8
            have X8 : Hid (w8.heap[xb]? = some (.cells #[.int .i64 N.bl, .int .i64 N.ep, .int .i64 (N.nx + j), .slice va2 j vc2, .slice (some ⟨g, 0, none⟩) Z.length svc] 69 (0, 0))) := hid ((hg8.block xb (lt_of_block XA5.out) (fun e => own_ne VA5.out XA5.out (by decide) (by first | exact e | exact e.symm))).trans XA5.out)
            have N8 := hid (own_gr VA5.out OA5.out hg8 (by decide))
            have T8 : Hid (Tr (fun q => q = xb) wB w8) := hid ((T5.out.bel BA5.out).more hg8 fun k hk => .inl (World.ownsRow.lt VA5.out k hk).1)
            clear ho8 hg8
            refine hK.out _ _ ((cell_of_row _ _ _ _ _ _ X8.out).trans rfl) (fun hHeld => ?_)
            clear hK K
            (try simp only [Act.put, putS])
            refine wpAnyH_take (i := 11) (v := ?fv11) rfl (by kernel_rfl) (by kernel_rfl) (by kernel_rfl) (fun _ _ _ h => h) (Or.inl ⟨by rfl, ?fy11⟩) (by assumption) ?fr11
            case fy11 => (intro w hSw; (try dsimp only at hSw); go_simp; try with_reducible rfl)
            (try simp only [Act.put, putS])
            refine wpAnyH_take (i := 12) (v := ?fv12) rfl (by kernel_rfl) (by kernel_rfl) (by kernel_rfl) (fun _ _ _ h => h) (Or.inl ⟨by rfl, ?fy12⟩) (by assumption) ?fr12
            case fy12 => (intro w hSw; (try dsimp only at hSw); go_simp; try with_reducible rfl)
            (try simp only [Act.put, putS])
            have d35 : w8.cell? ⟨xb, 3, none⟩ = some (.slice va2 j vc2) := (cell_of_row _ _ _ _ _ _ X8.out).trans rfl
            have f35 : w8.frozen? ⟨xb, 3, none⟩ = false := frozen_of_row _ _ _ _ _ X8.out
            refine wpAnyH_ready (rs := [13]) (by kernel_rfl) (by simp) ?_
            refine AllReadyH.cons rfl (fun K hK => ?_) AllReadyH.nil
            rw [if_pos (by rfl)]
            go_simp
            have X9 : Hid ((w8.setCell ⟨xb, 3, none⟩ (.slice va8 (j + 1) vc8)).heap[xb]? = some (.cells #[.int .i64 N.bl, .int .i64 N.ep, .int .i64 (N.nx + j), .slice va8 (j + 1) vc8, .slice (some ⟨g, 0, none⟩) Z.length svc] 69 (0, 0))) := hid (heap_setCell_same _ _ _ _ _ _ X8.out)
            have T9 : Hid (Tr (fun q => q = xb) wB (w8.setCell ⟨xb, 3, none⟩ (.slice va8 (j + 1) vc8))) := hid (T8.out.trans (Tr.set rfl))
            have V9 := hid (own_set (i := 3) (u := .slice va8 (j + 1) vc8) O8.out X8.out (by decide))
            have N9 := hid (own_set (i := 3) (u := .slice va8 (j + 1) vc8) N8.out X8.out (by decide))
            refine hK.out _ _ ((cell_of_row _ _ _ _ _ _ X9.out).trans rfl) (fun hHeld => ?_)
            clear hK K
            (try simp only [Act.put, putS])
            refine wpAnyH_done (by kernel_rfl) ?_ _
            clear hHeld d35 f35 X8 T8 O8 N8
            generalize w8.setCell ⟨xb, 3, none⟩ (.slice va8 (j + 1) vc8) = w9 at X9 T9 V9 N9 ⊢
            have k2 : w9.cell? ⟨xb, 2, none⟩ = some (.int .i64 (N.nx + j)) := (cell_of_row _ _ _ _ _ _ X9.out).trans rfl
            have kf : w9.frozen? ⟨xb, 2, none⟩ = false := frozen_of_row _ _ _ _ _ X9.out
            have hwn : IntKind.i64.wrap (N.nx + j + 1) = N.nx + ((j + 1 : Nat) : Int) := by rw [IntWalk.i64_in _ ⟨by have := HNX.out; omega, by have := HNX.out; omega⟩]; omega
            have HREL : Hid ((w9.setCell ⟨xb, 2, none⟩ (.int .i64 (N.nx + ((j + 1 : Nat) : Int)))).ownsRow wB.heap.size 46 5 (.slice va5 (P.length + j + 1) vc5) (P.length + (j + 1)) (shvs (P ++ nwX N.nx ml (G.map fun x => x.or.o) (.slice mla ml.length mlc) (.slice la gn lc) (sp.take (j + 1)))) ∧ (w9.setCell ⟨xb, 2, none⟩ (.int .i64 (N.nx + ((j + 1 : Nat) : Int)))).heap[xb]? = some (.cells #[.int .i64 N.bl, .int .i64 N.ep, .int .i64 (N.nx + ((j + 1 : Nat) : Int)), .slice va8 (j + 1) vc8, .slice (some ⟨g, 0, none⟩) Z.length svc] 69 (0, 0)) ∧ (w9.setCell ⟨xb, 2, none⟩ (.int .i64 (N.nx + ((j + 1 : Nat) : Int)))).ownsRow wB.heap.size 3 1 (.slice va8 (j + 1) vc8) (j + 1) (nvs (opD N.nx (j + 1))) ∧ Tr (fun q => q = xb) wB (w9.setCell ⟨xb, 2, none⟩ (.int .i64 (N.nx + ((j + 1 : Nat) : Int))))) := hid (by
              refine ⟨?_, heap_setCell_same _ _ _ _ _ _ X9.out, ?_, T9.out.trans (Tr.set rfl)⟩
              · have := own_set (i := 2) (u := .int .i64 (N.nx + ((j + 1 : Nat) : Int))) N9.out X9.out (by decide)
                rw [HTK.out, nwX_snoc, HTL.out, ← List.append_assoc, shvs_append]
                exact this
              · have := own_set (i := 2) (u := .int .i64 (N.nx + ((j + 1 : Nat) : Int))) V9.out X9.out (by decide)
                rw [opD_succ]
                simpa [nvs] using this)
            go_wp2_with fail
            rw [show N.nx + ((j : Int) + 1) = N.nx + ((j + 1 : Nat) : Int) by omega]
            generalize w9.setCell ⟨xb, 2, none⟩ (.int .i64 (N.nx + ((j + 1 : Nat) : Int))) = w10 at *
            go_roundw
            case rel => exact ⟨j + 1, _, by go_num, by omega, HREL.out⟩
            case measure => simp [intOf]; omega
        · have hjE : j = sp.length := by omega
          have hje : ¬ (j : Int) + 1 < (el.length : Int) := by have := HES.out.1; omega
          have HJE := hid hjE
          clear hjE
          have c4 : wr.cell? ⟨xb, 4, none⟩ = some (.slice (some ⟨g, 0, none⟩) Z.length svc) := (cell_of_row _ _ _ _ _ _ HXR.out).trans rfl
          have HRZ := hid (own_trx H5.out.box HTB.out H5.out.row (by decide))
          have HQL : Hid (Z.length - (P.length + gn) = Q.length) := hid (by have := congrArg List.length HZG.out; simp at this; have := HGN.out; omega)
          have HQY : Hid (∀ i u, (shvs Q)[i]? = some u → wr.cell? (Addr.add ⟨g, (P.length + gn) * 5, none⟩ i) = some u) := hid fun i u hi => by
            rw [Addr.add_lit]
            refine own_cell HRZ.out ?_
            rw [HZG.out, shvs_append, List.getElem?_append_right (by rw [shvs_len, List.length_append, HGN.out]; omega), shvs_len, List.length_append, HGN.out, Nat.add_sub_cancel_left]
            exact hi
          have HQO : Hid (∀ u ∈ shvs Q, u.oneCell' = true) := hid fun u hu => HON.out u (by rw [HZG.out, shvs_append]; exact List.mem_append_right _ hu)
          have HQS : Hid ((shvs Q).length = (Z.length - (P.length + gn)) * 5) := hid (by rw [shvs_len, HQL.out])
          have HQB : Hid (P.length + j + (Z.length - (P.length + gn)) ≤ 1000000000) := hid (by have := HL.out; have := HPL.out; omega)
          have hpz : (P.length : Int) + (gn : Int) ≤ (svc : Int) := by omega
          have HQZ : Hid (svc = P.length + gn → ∀ i u, (shvs Q)[i]? = some u → wr.cell? (Addr.add ⟨g, 0, none⟩ i) = some u) := hid fun hz i u hi => by
            have h0 : Q.length = 0 := by have := HQL.out; omega
            have := (List.getElem?_eq_some_iff.1 hi).1
            rw [shvs_len] at this
            omega
          have x4c : ∀ Y : World, Y.heap[xb]? = some (.cells #[.int .i64 N.bl, .int .i64 N.ep, .int .i64 (N.nx + j), .slice va2 j vc2, .slice (some ⟨g, 0, none⟩) Z.length svc] 69 (0, 0)) → Y.cell? ⟨xb, 4, none⟩ = some (.slice (some ⟨g, 0, none⟩) Z.length svc) := fun Y hY => (cell_of_row _ _ _ _ _ _ hY).trans rfl
          have HX4 := hid x4c
          clear x4c
          by_cases hcz : svc = P.length + gn
          · have HCZ := hid (HQZ.out hcz)
            clear HQY HQZ
            go_upto_region 54 with (at_builtin; refine wpl_appA rowSh rfl _ _ rfl wB.heap.size (.slice va (P.length + j) vc) (P.length + j) _ rfl HN.out ⟨g, 0, none⟩ (Z.length - (P.length + gn)) _ (shvs Q) rfl HQS.out HCZ.out HQO.out HQB.out HTB.out.size ?_; intro va11 vc11 w11 ho11 hg11; have O11 := hid ho11; have X11 := hid ((hg11.block xb (lt_of_block HXR.out) (fun e => own_ne HN.out HXR.out (by decide) (by first | exact e | exact e.symm))).trans HXR.out); have V11 := hid (own_gr HN.out HV2.out hg11 (by decide)); have T11 : Hid (Tr (fun q => q = xb) wB w11) := hid (HTB.out.more hg11 fun k hk => .inl (World.ownsRow.lt HN.out k hk).1); have x4c := HX4.out _ X11.out; have x4f := frozen_of_row w11 xb 4 _ _ X11.out; clear ho11 hg11)
            clear x4c x4f c4
            obtain ⟨m9, hm9⟩ : ∃ m9, m9 = Z.length - (P.length + gn) := ⟨_, rfl⟩
            have HM9 : Hid (m9 = Q.length) := hid (by rw [hm9, HQL.out])
            rw [← hm9] at O11
            rw [← hm9]
            clear hm9
            have X12 : Hid ((w11.setCell ⟨xb, 4, none⟩ (.slice va11 (P.length + j + m9) vc11)).heap[xb]? = some (.cells #[.int .i64 N.bl, .int .i64 N.ep, .int .i64 (N.nx + j), .slice va2 j vc2, .slice va11 (P.length + j + m9) vc11] 69 (0, 0))) := hid (heap_setCell_same _ _ _ _ _ _ X11.out)
            have T12 : Hid (Tr (fun q => q = xb) wB (w11.setCell ⟨xb, 4, none⟩ (.slice va11 (P.length + j + m9) vc11))) := hid (T11.out.trans (Tr.set rfl))
            have V12 := hid (own_set (i := 4) (u := .slice va11 (P.length + j + m9) vc11) V11.out X11.out (by decide))
            have O12 := hid (own_set (i := 4) (u := .slice va11 (P.length + j + m9) vc11) O11.out X11.out (by decide))
            clear X11 T11 V11 O11
            generalize w11.setCell ⟨xb, 4, none⟩ (.slice va11 (P.length + j + m9) vc11) = w12 at *
            have c1 : w12.cell? ⟨xb, 1, none⟩ = some (.int .i64 N.ep) := (cell_of_row _ _ _ _ _ _ X12.out).trans rfl
            have f1 : w12.frozen? ⟨xb, 1, none⟩ = false := frozen_of_row _ _ _ _ _ X12.out
            have hwe : IntKind.i64.wrap (N.ep + 1) = N.ep + 1 := IntWalk.i64_in _ ⟨by have := HEP.out; omega, by have := HEP.out; omega⟩
            have HF : Hid (RaK xb N P G Q sp ml w (.returned (.int .i64 0)) (w12.setCell ⟨xb, 1, none⟩ (.int .i64 (N.ep + 1)))) := hid (by
              have hjj := HJE.out
              have hmm := HM9.out
              have hX := X12.out
              have hV := V12.out
              have hO := O12.out
              have hT := T12.out.trans (Tr.set (w := w12) (i := 1) (v := .int .i64 (N.ep + 1)) rfl)
              subst hjj hmm
              rw [List.take_length] at hO
              refine ⟨_, _, .slice mla ml.length mlc, .slice la gn lc, rfl, ⟨heap_setCell_same _ _ _ _ _ _ hX, ?_, ?_, ?_, ?_⟩, (Tr.below HBW5.out).trans hT⟩
              · show World.ownsRow _ 0 _ 1 _ (opD N.nx sp.length).length _
                rw [opD_len]
                exact own_lower (own_set (i := 1) (u := .int .i64 (N.ep + 1)) hV hX (by decide)) (Nat.zero_le _)
              · have h9 := own_lower (own_set (i := 1) (u := .int .i64 (N.ep + 1)) hO hX (by decide)) (Nat.zero_le _)
                rw [← shvs_append] at h9
                rw [show (P ++ nwX N.nx ml (G.map fun x => x.or.o) (.slice mla ml.length mlc) (.slice la gn lc) sp ++ Q).length = P.length + sp.length + Q.length by rw [List.length_append, List.length_append, nwX_len]]
                exact h9
              · intro x hx
                have hZm : ∀ y ∈ Z, ShM (w12.setCell ⟨xb, 1, none⟩ (.int .i64 (N.ep + 1))) y.s y.mv y.pv := fun y hy => ShM.trx H5.out.box hT (H5.out.mem y hy)
                rcases List.mem_append.1 hx with hx | hx
                · rcases List.mem_append.1 hx with hx | hx
                  · exact hZm x (by rw [HZG.out]; simp [hx])
                  · obtain ⟨e1, e2, e3, e4⟩ := nwX_mem _ _ _ _ _ _ x hx
                    refine ⟨by rw [e1, e3]; exact own_trx H5.out.box hT HML5.out (by decide), G.map SX.or, by rw [e2]; simp, ?_, fun y hy => ?_⟩
                    · rw [e4, List.length_map, HGN.out]; exact own_trx H5.out.box hT HPA.out (by decide)
                    · obtain ⟨u, hu, rfl⟩ := List.mem_map.1 hy
                      exact (hZm u (HGZ.out u hu)).m
                · exact hZm x (by rw [HZG.out]; simp [hx])
              · intro h0
                have : (opD N.nx sp.length).length = 0 := by rw [show opD N.nx sp.length = [] from h0]; rfl
                rw [opD_len] at this
                have := HSP.out
                omega)
            go_wp2_with fail
            go_ret
            have hf := HF.out
            rw [HGE.out, HSE.out, HME.out] at hf
            exact hf
          · have HCZ := hid HQY.out
            clear HQY HQZ
            go_upto_region 54 with (at_builtin; refine wpl_appA rowSh rfl _ _ rfl wB.heap.size (.slice va (P.length + j) vc) (P.length + j) _ rfl HN.out ⟨g, (P.length + gn) * 5, none⟩ (Z.length - (P.length + gn)) _ (shvs Q) rfl HQS.out HCZ.out HQO.out HQB.out HTB.out.size ?_; intro va11 vc11 w11 ho11 hg11; have O11 := hid ho11; have X11 := hid ((hg11.block xb (lt_of_block HXR.out) (fun e => own_ne HN.out HXR.out (by decide) (by first | exact e | exact e.symm))).trans HXR.out); have V11 := hid (own_gr HN.out HV2.out hg11 (by decide)); have T11 : Hid (Tr (fun q => q = xb) wB w11) := hid (HTB.out.more hg11 fun k hk => .inl (World.ownsRow.lt HN.out k hk).1); have x4c := HX4.out _ X11.out; have x4f := frozen_of_row w11 xb 4 _ _ X11.out; clear ho11 hg11)
            clear x4c x4f c4
            obtain ⟨m9, hm9⟩ : ∃ m9, m9 = Z.length - (P.length + gn) := ⟨_, rfl⟩
            have HM9 : Hid (m9 = Q.length) := hid (by rw [hm9, HQL.out])
            rw [← hm9] at O11
            rw [← hm9]
            clear hm9
            have X12 : Hid ((w11.setCell ⟨xb, 4, none⟩ (.slice va11 (P.length + j + m9) vc11)).heap[xb]? = some (.cells #[.int .i64 N.bl, .int .i64 N.ep, .int .i64 (N.nx + j), .slice va2 j vc2, .slice va11 (P.length + j + m9) vc11] 69 (0, 0))) := hid (heap_setCell_same _ _ _ _ _ _ X11.out)
            have T12 : Hid (Tr (fun q => q = xb) wB (w11.setCell ⟨xb, 4, none⟩ (.slice va11 (P.length + j + m9) vc11))) := hid (T11.out.trans (Tr.set rfl))
            have V12 := hid (own_set (i := 4) (u := .slice va11 (P.length + j + m9) vc11) V11.out X11.out (by decide))
            have O12 := hid (own_set (i := 4) (u := .slice va11 (P.length + j + m9) vc11) O11.out X11.out (by decide))
            clear X11 T11 V11 O11
            generalize w11.setCell ⟨xb, 4, none⟩ (.slice va11 (P.length + j + m9) vc11) = w12 at *
            have c1 : w12.cell? ⟨xb, 1, none⟩ = some (.int .i64 N.ep) := (cell_of_row _ _ _ _ _ _ X12.out).trans rfl
            have f1 : w12.frozen? ⟨xb, 1, none⟩ = false := frozen_of_row _ _ _ _ _ X12.out
            have hwe : IntKind.i64.wrap (N.ep + 1) = N.ep + 1 := IntWalk.i64_in _ ⟨by have := HEP.out; omega, by have := HEP.out; omega⟩
            have HF : Hid (RaK xb N P G Q sp ml w (.returned (.int .i64 0)) (w12.setCell ⟨xb, 1, none⟩ (.int .i64 (N.ep + 1)))) := hid (by
              have hjj := HJE.out
              have hmm := HM9.out
              have hX := X12.out
              have hV := V12.out
              have hO := O12.out
              have hT := T12.out.trans (Tr.set (w := w12) (i := 1) (v := .int .i64 (N.ep + 1)) rfl)
              subst hjj hmm
              rw [List.take_length] at hO
              refine ⟨_, _, .slice mla ml.length mlc, .slice la gn lc, rfl, ⟨heap_setCell_same _ _ _ _ _ _ hX, ?_, ?_, ?_, ?_⟩, (Tr.below HBW5.out).trans hT⟩
              · show World.ownsRow _ 0 _ 1 _ (opD N.nx sp.length).length _
                rw [opD_len]
                exact own_lower (own_set (i := 1) (u := .int .i64 (N.ep + 1)) hV hX (by decide)) (Nat.zero_le _)
              · have h9 := own_lower (own_set (i := 1) (u := .int .i64 (N.ep + 1)) hO hX (by decide)) (Nat.zero_le _)
                rw [← shvs_append] at h9
                rw [show (P ++ nwX N.nx ml (G.map fun x => x.or.o) (.slice mla ml.length mlc) (.slice la gn lc) sp ++ Q).length = P.length + sp.length + Q.length by rw [List.length_append, List.length_append, nwX_len]]
                exact h9
              · intro x hx
                have hZm : ∀ y ∈ Z, ShM (w12.setCell ⟨xb, 1, none⟩ (.int .i64 (N.ep + 1))) y.s y.mv y.pv := fun y hy => ShM.trx H5.out.box hT (H5.out.mem y hy)
                rcases List.mem_append.1 hx with hx | hx
                · rcases List.mem_append.1 hx with hx | hx
                  · exact hZm x (by rw [HZG.out]; simp [hx])
                  · obtain ⟨e1, e2, e3, e4⟩ := nwX_mem _ _ _ _ _ _ x hx
                    refine ⟨by rw [e1, e3]; exact own_trx H5.out.box hT HML5.out (by decide), G.map SX.or, by rw [e2]; simp, ?_, fun y hy => ?_⟩
                    · rw [e4, List.length_map, HGN.out]; exact own_trx H5.out.box hT HPA.out (by decide)
                    · obtain ⟨u, hu, rfl⟩ := List.mem_map.1 hy
                      exact (hZm u (HGZ.out u hu)).m
                · exact hZm x (by rw [HZG.out]; simp [hx])
              · intro h0
                have : (opD N.nx sp.length).length = 0 := by rw [show opD N.nx sp.length = [] from h0]; rfl
                rw [opD_len] at this
                have := HSP.out
                omega)
            go_wp2_with fail
            go_ret
            have hf := HF.out
            rw [HGE.out, HSE.out, HME.out] at hf
            exact hf
end Go.Proofs.Ytnkjkaofgninnaa
