/- For anything that is done to two Maps (the first 60), one of numbers and one of texts: they do the same. -/
import Derived.Test.YtbfmanhbbancmaaStMap
import Derived.Test.YtbfmanhbbancmaaStGet
import Derived.Test.YtbfmanhbbancmaaSpMaps
import Derived.Laws.BytesString
namespace Go.Proofs.Ytbfmanhbbancmaa
open Go.RowKit Go.Shelf
attribute [local go_sem] Oper.semAt_some

theorem Tx.RowP.not_type {w : World} {v : Value} {l : List Pc} (h : Tx.RowP w v l) {k : Nat} (hk : v.ownBlock = some k) : ∃ cs fr, w.heap[k]? = some (.cells cs 75 fr) := by
  obtain ⟨_, h2⟩ := h
  rcases h2 with ⟨rfl, _⟩ | ⟨g, cap, cur, rfl, _, hh, -⟩
  · cases hk
  · cases hk; exact ⟨_, _, hh⟩
/-- What is done to the one leaves the other. -/
theorem Tx.MapC.grown {W W' : World} {M T : Nat} {l : List Pc} (h : Tx.MapC W T l) (hg : W.grownBy W' (some M)) {cs : Array Value} {t : TypeId} {fr : Nat × Nat} (hM : W.heap[M]? = some (.cells cs t fr)) (h1 : t ≠ 55) (h2 : t ≠ 75) : Tx.MapC W' T l := by
  obtain ⟨⟨va, vc, g1, g2⟩, h3, h4⟩ := h
  have key : ∀ (k : Nat) (cs' : Array Value) (t' : TypeId) (fr' : Nat × Nat), W.heap[k]? = some (.cells cs' t' fr') → t ≠ t' → W'.heap[k]? = W.heap[k]? := by
    intro k cs' t' fr' hk ht
    refine hg.block k (lt_of_block hk) fun e => ?_
    cases e
    rw [hk] at hM; cases hM; exact ht rfl
  refine ⟨⟨va, vc, (key T _ _ _ g1 h1).trans g1, g2.kept fun k hk => ?_⟩, h3, h4⟩
  obtain ⟨cs', fr', hh⟩ := g2.not_type hk
  exact key k _ _ _ hh h2
theorem MapC.grown {W W' : World} {M T : Nat} {l : List Pc} (h : MapC W M l) (hg : W.grownBy W' (some T)) {cs : Array Value} {t : TypeId} {fr : Nat × Nat} (hT : W.heap[T]? = some (.cells cs t fr)) (h1 : t ≠ 26) (h2 : t ≠ 63) : MapC W' M l := by
  obtain ⟨⟨va, vc, g1, g2⟩, h3, h4⟩ := h
  have key : ∀ (k : Nat) (cs' : Array Value) (t' : TypeId) (fr' : Nat × Nat), W.heap[k]? = some (.cells cs' t' fr') → t ≠ t' → W'.heap[k]? = W.heap[k]? := by
    intro k cs' t' fr' hk ht
    refine hg.block k (lt_of_block hk) fun e => ?_
    cases e
    rw [hk] at hT; cases hT; exact ht rfl
  refine ⟨⟨va, vc, (key M _ _ _ g1 h1).trans g1, g2.kept fun k hk => ?_⟩, h3, h4⟩
  obtain ⟨cs', fr', hh⟩ := g2.not_type hk
  exact key k _ _ _ hh h2
/-- Both Maps in the law's memory: the result's cell at R, the Map of numbers at M, that of texts at T. -/
structure TS (w0 : World) (R M T : Nat) (lp : List Pc) (W : World) : Prop where
  map : MapC W M lp
  txt : Tx.MapC W T lp
  vals : ∀ x ∈ lp, 0 ≤ x.2.2 ∧ x.2.2 < 65536
  res : W.heap[R]? = some (.cells #[.bool false] 4 (0, 0))
  bel : Below R w0 W
theorem TS.kept {w0 W W' : World} {R M T : Nat} {lp : List Pc} (h : TS w0 R M T lp W) (hb : Below W.heap.size W W') : TS w0 R M T lp W' :=
  ⟨h.map.kept hb, h.txt.kept hb, h.vals, (hb.block R (lt_of_block h.res)).trans h.res, h.bel.trans (hb.mono (Nat.le_of_lt (lt_of_block h.res)))⟩
theorem TS.txtGrown {w0 W W' : World} {R M T : Nat} {lp : List Pc} (h : TS w0 R M T lp W) (hg : W.grownBy W' (some M)) : Tx.MapC W' T lp := by
  obtain ⟨_, _, h1, _⟩ := h.map.at'
  exact h.txt.grown hg h1 (by decide) (by decide)
/-- One more is done to both. -/
theorem TS.step {w0 W W2 W3 : World} {R M T : Nat} {lp l1 l2 : List Pc} {s : Sp} {put : List Pc} (h : TS w0 R M T lp W) (hm : MapC W2 M l1) (hc : ChP lp s put l1) (hg : W.grownBy W2 (some M)) (hm2 : Tx.MapC W3 T l2) (hc2 : ChP lp s put l2) (hg2 : W2.grownBy W3 (some T))
    (hp : ∀ x ∈ put, 0 ≤ x.2.2 ∧ x.2.2 < 65536) (h1 : R < M) (h2 : M < T) : TS w0 R M T l1 W3 := by
  have e : l2 = l1 := can_unique _ _ hm2.can hm.can fun k v => (hc2.2 k v).trans (hc.2 k v).symm
  rw [e] at hm2
  obtain ⟨_, _, hT, _⟩ := (h.txtGrown hg).at'
  refine ⟨hm.grown hg2 hT (by decide) (by decide), hm2, fun x hx => ?_, ?_, ?_⟩
  · have hx1 := hm.can.1 x hx
    have := (hc.2 x.1 x.2.2).1 ⟨x, hx, Int.le_refl _, hx1, rfl⟩
    split at this
    · obtain ⟨z, hz, _, _, e⟩ := this
      rw [← e]; exact hp z hz
    · obtain ⟨z, hz, _, _, e⟩ := this
      rw [← e]; exact h.vals z hz
  · exact (hg2.block R (Nat.lt_of_lt_of_le (lt_of_block h.res) hg.size) (fun e => by cases e; omega)).trans ((hg.block R (lt_of_block h.res) (fun e => by cases e; omega)).trans h.res)
  · exact (h.bel.trans ((Below.refl R W).grown hg (Nat.le_of_lt (lt_of_block h.res)) (fun k e => by cases e; omega))).trans ((Below.refl R W2).grown hg2 (Nat.le_trans (Nat.le_of_lt (lt_of_block h.res)) hg.size) (fun k e => by cases e; omega))
theorem Try.underlying8 : Try.prog.underlying 5 = some (.int .u8) := by kernel_rfl
theorem Try.underlying8s : Try.prog.underlying 56 = some (.slice 5) := by kernel_rfl
theorem Try.underlyingStr : Try.prog.underlying 9 = some .string := by kernel_rfl
/-- Two letters are put together. -/
theorem conv2 (W : World) (g : Nat) (a b : Int) (ha : 0 ≤ a ∧ a < 256) (hb : 0 ≤ b ∧ b < 256) (hg : W.heap[g]? = some (.cells #[.int .u8 a, .int .u8 b] 5 (0, 0))) :
    (convert 56 9 (.slice (some ⟨g, 0, none⟩) 2 2)).run Try.prog W = .ok (.string (Tx.tx (a + 256 * b))) W := by
  have hl := run_loadCells_list (P := Try.prog) W ⟨g, 0, none⟩ [.int .u8 a, .int .u8 b] (fun j v hv => by
    rw [Addr.add_lit, cell_of_row W g _ _ _ _ hg]
    simpa using hv)
  rw [run_convert_bytes_string W 56 9 5 _ _ _ Try.underlying8s Try.underlying8 Try.underlyingStr, run_bytesToString W ⟨g, 0, none⟩ 2 2 [a, b] hl]
  have : Tx.tx (a + 256 * b) = [a, b].foldl (fun r n => r.push (UInt8.ofNat n.toNat)) ByteArray.empty := by
    unfold Tx.tx
    rw [if_pos (by omega)]
    have e1 : (a + 256 * b) % 256 = a := by omega
    have e2 : (a + 256 * b) / 256 = b := by omega
    rw [e1, e2]; rfl
  rw [this]
theorem and16 (v : Int) : bits .and .i64 v 65535 = v % 65536 := by
  show IntKind.i64.wrap ((BitVec.ofInt 64 v &&& BitVec.ofInt 64 65535).toNat : Int) = _
  have e : (BitVec.ofInt 64 65535).toNat = 2 ^ 16 - 1 := by decide
  rw [BitVec.toNat_and, e, Nat.and_two_pow_sub_one_eq_mod, BitVec.toNat_ofInt]
  have h : (((v % ((2 ^ 64 : Nat) : Int)).toNat % 2 ^ 16 : Nat) : Int) = v % 65536 := by omega
  rw [h]
  exact IntWalk.i64_in _ ⟨by omega, by omega⟩
theorem has_one {l : List Pc} {k v u : Int} (hc : Can l) (h : HasP l k v) (g : HasP l k u) : v = u := by
  obtain ⟨x, hx, x1, x2, rfl⟩ := h
  obtain ⟨y, hy, y1, y2, rfl⟩ := g
  obtain ⟨i, hi, rfl⟩ := List.mem_iff_getElem.1 hx
  obtain ⟨j, hj, rfl⟩ := List.mem_iff_getElem.1 hy
  have hp := List.pairwise_iff_getElem.1 hc.rise
  rcases Nat.lt_trichotomy i j with h | h | h
  · have := hp i j hi hj h; omega
  · subst h; rfl
  · have := hp j i hj hi h; omega
theorem keeps_below {A B : World} (h : Below A.heap.size A B) : KeepsOthers A B := ⟨h.size, fun k _ hk _ => (h.block k (lt_of_block hk)).trans hk⟩
set_option maxRecDepth 100000 in
set_option maxHeartbeats 4000000 in
theorem spanTexts_any (v0 : Value) (l : List OpT) (w : World) (h0 : Ops w v0 l) (hI : ∀ x ∈ l, OpI x) :
    Calls Try.prog 5 #[v0] w fun e w' => e = .returned (.bool true) ∧ Below w.heap.size w w' := by
  have HI := hid hI
  have H0 := hid h0
  obtain ⟨a0, c0, rfl⟩ := h0.shape
  clear h0 hI
  refine (callsIn_wide (n := 3)).1 ?_
  refine callsIn_of_wp_marks Try.func5 rfl trivial ?_ rfl
  simp only [Try.ntmps5, List.size_toArray, List.length_cons, List.length_nil, Nat.reduceAdd, Nat.reduceSub, Array.replicate_succ, Array.replicate_zero, List.push_toArray, List.append_toArray, List.nil_append, List.cons_append]
  refine wpIn_wide.2 ?_
  go_upto_block 0 with fail
  obtain ⟨w0, hw0⟩ : ∃ w0, w0 = ((w.alloc (.cells #[.bool false] 4)).alloc (.cells #[.slice none 0 0] 26)).alloc (.cells #[.slice none 0 0] 55) := ⟨_, rfl⟩
  have hh := heap3 w (.cells #[.bool false] 4) (.cells #[.slice none 0 0] 26) (.cells #[.slice none 0 0] 55)
  have hs0 : w0.heap.size = w.heap.size + 1 + 1 + 1 := by rw [hw0]; simp
  have bw0 : Below w.heap.size w w0 := by rw [hw0]; exact (((Below.refl _ _).alloc (Nat.le_refl _) _).alloc (by simp) _).alloc (by simp; omega) _
  rw [← hw0] at hh ⊢
  clear hw0
  obtain ⟨R0, hR0⟩ : ∃ R0, R0 = w.heap.size := ⟨_, rfl⟩
  obtain ⟨M0, hM0⟩ : ∃ M0, M0 = w.heap.size + 1 := ⟨_, rfl⟩
  obtain ⟨T0, hT0⟩ : ∃ X0, X0 = w.heap.size + 1 + 1 := ⟨_, rfl⟩
  rw [← hT0, ← hM0, ← hR0] at hh ⊢
  rw [← hR0] at hs0 bw0 hM0 hT0
  have TS0 : Hid (TS w0 R0 M0 T0 [] w0) := hid ⟨⟨⟨none, 0, hh.2.1, World.ownsRow_nil _ _ _ _⟩, ⟨(fun x hx => by cases hx), List.Pairwise.nil⟩, fun x hx => by cases hx⟩, ⟨⟨none, 0, hh.2.2, World.ownsRow_nil _ _ _ _⟩, ⟨(fun x hx => by cases hx), List.Pairwise.nil⟩, fun x hx => by cases hx⟩, (fun x hx => by cases hx), hh.1, Below.refl _ _⟩
  have BW0 := hid bw0
  have hRM : R0 < M0 := by omega
  have hMT : M0 < T0 := by omega
  have hT0s : T0 < w0.heap.size := by omega
  have HR0 := hid hR0
  clear hh bw0 hs0 hM0 hT0 hR0
  go_cut [5, 6, 7, 15] from 16 to 49 (fun _ _ _ _ wc => ∃ lp, lp.length ≤ 180 ∧ TS w0 R0 M0 T0 lp wc)
  case first =>
    go_wp2_with fail
    go_loopw [5, 6, 7, 15] (fun _ _ _ iv wr => ∃ (i : Nat) (lp : List Pc), iv = .int .i64 i ∧ i ≤ l.length ∧ i ≤ 60 ∧ lp.length ≤ 3 * i ∧ TS w0 R0 M0 T0 lp wr) (fun _ _ _ iv _ => l.length - (intOf iv).toNat)
    case atStart => exact ⟨0, [], rfl, Nat.zero_le _, by omega, by simp, TS0.out⟩
    case round =>
      obtain ⟨i, lp, rfl, hi, hi60, hlp, hms⟩ := hrel
      have MSr := hid hms
      clear hms
      by_cases hlt : i < l.length
      · have hltI : (i : Int) < (l.length : Int) := by omega
        have BWr : Below w.heap.size w wr := by rw [← HR0.out]; exact BW0.out.trans MSr.out.bel
        obtain ⟨gb, go, rfl⟩ := H0.out.addr (by omega)
        obtain ⟨c0', c1', c2', c3'⟩ := (H0.out.below BWr).lit i hlt
        have HX := hid (HI.out l[i] (List.getElem_mem hlt))
        generalize l[i] = x at c0' c1' c2' c3' HX
        obtain ⟨⟨s1, s2⟩, v, d⟩ := x
        simp only at c0' c1' c2' c3'
        by_cases h60 : i < 60
        · have h60' : ¬ (60 : Int) ≤ (i : Int) := by omega
          have ba : Below wr.heap.size wr (wr.alloc (.cells #[.int .i64 s1, .int .i64 s2, .int .i64 v, .bool d] 35)) := (Below.refl _ _).alloc (Nat.le_refl _) _
          have hO := heap_alloc_new wr (.cells #[.int .i64 s1, .int .i64 s2, .int .i64 v, .bool d] 35)
          have hOM : wr.heap.size ≠ M0 ∧ wr.heap.size ≠ T0 := by have := MSr.out.bel.size; omega
          have MSa := hid (MSr.out.kept ba)
          obtain ⟨wa, hwa⟩ : ∃ wa, wa = wr.alloc (.cells #[.int .i64 s1, .int .i64 s2, .int .i64 v, .bool d] 35) := ⟨_, rfl⟩
          rw [← hwa] at hO MSa
          have hsp : -9223372036854775808 ≤ s1 ∧ s2 ≤ 9223372036854775807 := ⟨HX.out.1.1.1, HX.out.1.2.2⟩
          have HSP := hid hsp
          have hvI := HX.out.2
          have HO := hid hO
          have HWA := hid hwa
          clear ba hO hwa BWr hsp HX
          go_upto_region 7 with fail
          rw [← HWA.out]
          obtain ⟨O, hOe⟩ : ∃ O, O = wr.heap.size := ⟨_, rfl⟩
          rw [← hOe] at HO hOM ⊢
          have o0 : wa.cell? ⟨O, 0, none⟩ = some (.int .i64 s1) := by rw [cell_of_row _ _ _ _ _ _ HO.out]; rfl
          have o1 : wa.cell? ⟨O, 1, none⟩ = some (.int .i64 s2) := by rw [cell_of_row _ _ _ _ _ _ HO.out]; rfl
          have o2 : wa.cell? ⟨O, 2, none⟩ = some (.int .i64 v) := by rw [cell_of_row _ _ _ _ _ _ HO.out]; rfl
          have o3 : wa.cell? ⟨O, 3, none⟩ = some (.bool d) := by rw [cell_of_row _ _ _ _ _ _ HO.out]; rfl
          clear hOe HWA
          obtain ⟨c, hc⟩ : ∃ c, c = v % 65536 := ⟨_, rfl⟩
          have hcv : 0 ≤ c ∧ c < 65536 := by omega
          obtain ⟨wb, hwb⟩ : ∃ wb, wb = wa.alloc (.cells #[.int .u8 (v % 256), .int .u8 (v / 256 % 256)] 5) := ⟨_, rfl⟩
          have bb : Below wa.heap.size wa wb := by rw [hwb]; exact (Below.refl _ _).alloc (Nat.le_refl _) _
          have hcs := conv2 wb wa.heap.size (v % 256) (v / 256 % 256) (by omega) (by omega) (by rw [hwb]; exact heap_alloc_new _ _)
          rw [show v % 256 + 256 * (v / 256 % 256) = c by omega] at hcs
          have MSb := hid (MSa.out.kept bb)
          have HOb := hid ((bb.block O (lt_of_block HO.out)).trans HO.out)
          have BB := hid bb
          rw [hwb] at hcs
          have HWB := hid hwb
          have HC := hid hc
          clear bb hwb hc
          go_upto_region 8 with fail
          rw [← HWB.out]
          have q0 : wb.cell? ⟨O, 0, none⟩ = some (.int .i64 s1) := by rw [cell_of_row _ _ _ _ _ _ HOb.out]; rfl
          have q1 : wb.cell? ⟨O, 1, none⟩ = some (.int .i64 s2) := by rw [cell_of_row _ _ _ _ _ _ HOb.out]; rfl
          have q2 : wb.cell? ⟨O, 2, none⟩ = some (.int .i64 v) := by rw [cell_of_row _ _ _ _ _ _ HOb.out]; rfl
          have q3 : wb.cell? ⟨O, 3, none⟩ = some (.bool d) := by rw [cell_of_row _ _ _ _ _ _ HOb.out]; rfl
          clear o0 o1 o2 o3 hcs HWB
          have hOl := lt_of_block HOb.out
          cases d with
          | true =>
            go_wp2_with fail
            refine (dropM_any M0 lp (s1, s2) wb MSb.out.map (by omega) HSP.out).mono ?_
            rintro e w2 ⟨rfl, l', hm', hch, hg, -⟩
            have hb2 : w2.heap[O]? = _ := (hg.block O hOl (fun e => hOM.1 (Option.some.inj e))).trans HOb.out
            have r0 : w2.cell? ⟨O, 0, none⟩ = some (.int .i64 s1) := by rw [cell_of_row _ _ _ _ _ _ hb2]; rfl
            have r1 : w2.cell? ⟨O, 1, none⟩ = some (.int .i64 s2) := by rw [cell_of_row _ _ _ _ _ _ hb2]; rfl
            have hlen := hch.1
            have M2 := hid hm'
            have C2 := hid hch
            have G2 := hid hg
            clear q0 q1 q2 q3 hm' hch hg hb2
            go_wp2_with fail
            refine (Tx.dropM_any T0 lp (s1, s2) w2 (MSb.out.txtGrown G2.out) (by omega) HSP.out).mono ?_
            rintro e w3 ⟨rfl, l3, hm3, hch3, hg3, -⟩
            have MS3 := hid (MSb.out.step M2.out C2.out G2.out hm3 hch3 hg3 (fun x hx => by cases hx) hRM hMT)
            clear hm3 hch3 hg3 r0 r1
            go_wp2_with fail
            go_roundw
            case rel => exact ⟨i + 1, l', by go_num, by omega, by omega, by omega, MS3.out⟩
            case measure => simp [intOf]; omega
          | false =>
            have ha16 : bits .and .i64 v 65535 = c := by rw [and16]; exact HC.out.symm
            go_wp2_with fail
            refine (putM_any M0 lp (s1, s2) c wb MSb.out.map (by omega) HSP.out).mono ?_
            rintro e w2 ⟨rfl, l', hm', hch, hg, -⟩
            have hb2 : w2.heap[O]? = _ := (hg.block O hOl (fun e => hOM.1 (Option.some.inj e))).trans HOb.out
            have r0 : w2.cell? ⟨O, 0, none⟩ = some (.int .i64 s1) := by rw [cell_of_row _ _ _ _ _ _ hb2]; rfl
            have r1 : w2.cell? ⟨O, 1, none⟩ = some (.int .i64 s2) := by rw [cell_of_row _ _ _ _ _ _ hb2]; rfl
            have hlen := hch.1
            have M2 := hid hm'
            have C2 := hid hch
            have G2 := hid hg
            clear q0 q1 q2 q3 hm' hch hg hb2
            go_wp2_with fail
            refine (Tx.putM_any T0 lp (s1, s2) c w2 (MSb.out.txtGrown G2.out) (by omega) HSP.out).mono ?_
            rintro e w3 ⟨rfl, l3, hm3, hch3, hg3, -⟩
            have MS3 := hid (MSb.out.step M2.out C2.out G2.out hm3 hch3 hg3 (fun x hx => by obtain rfl : x = (s1, s2, c) := (by simpa using hx); exact hcv) hRM hMT)
            clear hm3 hch3 hg3 r0 r1
            go_wp2_with fail
            go_roundw
            case rel => exact ⟨i + 1, l', by go_num, by omega, by omega, by omega, MS3.out⟩
            case measure => simp [intOf]; omega
        · have h60' : (60 : Int) ≤ (i : Int) := by omega
          go_wp2_with fail
          go_meet
          case rel => exact ⟨lp, by omega, MSr.out.kept ((Below.refl _ _).alloc (Nat.le_refl _) _)⟩
      · obtain rfl : i = l.length := by omega
        go_wp2_with fail
        go_meet
        case rel => exact ⟨lp, by omega, MSr.out⟩
  case rest =>
    obtain ⟨lp, hlp, hms⟩ := hcut
    rename World => wq
    have MSc := hid hms
    clear hms TS0
    obtain ⟨mv, hmp⟩ := MSc.out.map.at'.mp
    have e0 : ((lp.length : Int) != (lp.length : Int)) = false := by simp
    go_wp2_with fail
    refine (len_any M0 mv lp _ hmp).mono ?_
    rintro e w2 ⟨rfl, q2, hw2⟩
    have b2 : Below wq.heap.size wq w2 := by rw [hw2]; exact ⟨rfl, rfl, rfl, Nat.le_refl _, fun _ _ => rfl⟩
    have MS2 := hid (MSc.out.kept b2)
    clear hw2 hmp b2
    obtain ⟨tv, htp⟩ := MS2.out.txt.at'.mp
    go_wp2_with fail
    refine (Tx.len_any T0 tv lp _ htp).mono ?_
    rintro e w3 ⟨rfl, q3, hw3⟩
    have b3 : Below w2.heap.size w2 w3 := by rw [hw3]; exact ⟨rfl, rfl, rfl, Nat.le_refl _, fun _ _ => rfl⟩
    have MS3 := hid (MS2.out.kept b3)
    clear hw3 htp b3
    have hnil : ∀ (B : Nat) (W : World), (binOp BinOp.eql 44 (.func (.func 24) #[] #[.pointer (some ⟨B, 0, none⟩)]) .nilFunc).run Try.prog W = .ok (.bool false) W := fun _ _ => by kernel_rfl
    go_wp2_with (go_at_call 12; refine (each_any M0 _).mono ?_; rintro e w5 ⟨rfl, hw5⟩; have W5 := hid hw5; clear hw5)
    have b5 : Below w3.heap.size w3 w5 := by rw [W5.out]; exact (Below.refl _ _).alloc (Nat.le_refl _) _
    have hE5 : w5.heap[w3.heap.size]? = some (.cells #[.pointer (some ⟨M0, 0, none⟩)] 50 (0, 0)) := by rw [W5.out]; exact heap_alloc_new _ _
    have MS5 := hid (MS3.out.kept b5)
    obtain ⟨E5, hE5e⟩ : ∃ A, A = w3.heap.size := ⟨_, rfl⟩
    rw [← hE5e]
    rw [← hE5e] at hE5
    clear hE5e b5 W5 MSc MS2 MS3
    obtain ⟨ra, rc, hMr5, hRow⟩ := MS5.out.map.at'
    have hheld := (hRow.held 0 lp.length (Nat.zero_le _) (Nat.le_refl _)).2
    simp only [List.take_length, List.drop_zero] at hheld
    have hsl : sliceP ra 0 lp.length rc = .slice ra lp.length rc := by cases ra <;> simp [sliceP, Addr.add]
    rw [hsl] at hheld
    have hrk : ∀ k, (Value.slice ra lp.length rc).ownBlock = some k → k < w5.heap.size := hRow.lt
    have HMR := hid hMr5
    clear hMr5 hRow hsl
    go_wp2_with fail
    refine (wpIn_wide (n := 3)).1 ?_
    refine wpIn_rangeFunc_ownH (F := Fence.wide) rfl (by omega) (gf := 24) (lb := #[.pointer (some ⟨E5, 0, none⟩)]) rfl trivial (enters_of Try.func24 (by kernel_rfl) rfl)
      (each_stops _ (by omega) E5 M0 (.slice ra lp.length rc) lp (by omega) w5 hE5 HMR.out hheld) KeptR.trans ?keptb (Below.refl _ _) (fun _ => rfl)
      (fun _ W => Below w5.heap.size w5 W)
      (fun c pre _ => c = Code.ret ∧ ¬ pre <+: lp) ?hI (fun _ _ _ _ _ h _ _ => h) (Below.refl _ _)
      (LaidS ?Fr)
      ?hAx ?assign ?body ?done ?stop
    case keptb =>
      intro W y o o' hy ho _ _ k hk
      have h1 := hrk k hk
      have h2 := lt_of_block ho
      refine (grownBy_putObj' W y o').block k (by omega) fun e => ?_
      have h3 : k = y := by simpa using e
      omega
    case hI =>
      intro s X Y row h hg hr
      exact h.grown hg h.size (fun k e => (hr k e).1)
    case assign =>
      intro y pre x W K h hK
      unfold eachV
      gi_wp2
      obtain ⟨Bx, hBx⟩ : ∃ Bx, Bx = W.heap.size := ⟨_, rfl⟩
      refine hK _ _ ((KeepsOthers.alloc _ _).from _) ?_ (h.alloc h.size _) ?ax
      case ax =>
        rw [← hBx]
        refine ⟨Bx, by rw [hBx]; exact heap_alloc_new _ _, ?fr⟩
        clear hK hBx
        case fr => with_reducible rfl
      intro k hk
      exact Below.heap_alloc _ _ _ (Nat.lt_of_lt_of_le (hrk k hk) h.size)
    case hAx =>
      rintro x a' s X Y row ⟨Bx, h1, h2⟩ hg hr
      exact ⟨Bx, cells_turnedP h1 hg fun r e => (hr r e).2, h2⟩
    case body =>
      rintro y pre x a' W hy _ hbW ⟨Bx, hX, rfl⟩ hlt'
      have x0 : W.cell? ⟨Bx, 0, none⟩ = some (.int .i64 x.1) := by rw [cell_of_row _ _ _ _ _ _ hX]; rfl
      have MSW := hid (MS5.out.kept hbW)
      have BW := hid hbW
      have hg := Tx.getM_any T0 lp x.1 W MSW.out.txt (by omega)
      have HG := hid hg
      clear hX hbW hg
      gi_wp2
      refine ⟨trivial, ?_⟩
      refine (CallsIn.inRound y (callsIn_wide.2 HG.out)).mono ?_
      rintro e W2 ⟨v, ok, hgo, rfl, hb2⟩
      have NP : Hid ((ok = false ∨ v ≠ x.2.2 % 65536) → ¬ pre ++ [x] <+: lp) := hid (by
        intro h hp
        have hx : x ∈ lp := hp.subset (by simp)
        have h1 := MS5.out.map.can.1 x hx
        have h2 : HasP lp x.1 x.2.2 := ⟨x, hx, Int.le_refl _, h1, rfl⟩
        have h3 := MS5.out.vals x hx
        rcases h with h | h
        · exact (hgo.2 h).2 _ h2
        · cases ok with
          | false => exact (hgo.2 rfl).2 _ h2
          | true =>
            have := has_one MS5.out.map.can (hgo.1 rfl) h2
            omega)
      have MS2 := hid (MSW.out.kept hb2)
      have B2 := hid hb2
      clear hgo hb2 x0 HG
      have c4 := MS2.out.res
      have k4 : W2.cell? ⟨R0, 0, none⟩ = some (.bool false) := by rw [cell_of_row _ _ _ _ _ _ c4]; rfl
      have f4 : W2.frozen? ⟨R0, 0, none⟩ = false := by simp [World.frozen?, c4]
      have C4 := hid c4
      clear c4
      cases ok with
      | false =>
        simp only [Tx.gotV]
        gi_wp2
        exact ⟨((keeps_below B2.out).trans (KeepsOthers.setCell _ _ _)).from _, rfl, NP.out (.inl (by first | rfl | trivial))⟩
      | true =>
        simp only [Tx.gotV]
        obtain ⟨x1, x2, x3⟩ := x
        simp only at NP ⊢
        obtain ⟨wb, hwb⟩ : ∃ wb, wb = W2.alloc (.cells #[.int .u8 (x3 % 256), .int .u8 (x3 / 256 % 256)] 5) := ⟨_, rfl⟩
        have hcs := conv2 wb W2.heap.size (x3 % 256) (x3 / 256 % 256) (by omega) (by omega) (by rw [hwb]; exact heap_alloc_new _ _)
        obtain ⟨c, hc⟩ : ∃ c, c = x3 % 65536 := ⟨_, rfl⟩
        rw [show x3 % 256 + 256 * (x3 / 256 % 256) = c by omega] at hcs
        rw [← hc] at NP
        have hbb : Below W2.heap.size W2 wb := by rw [hwb]; exact (Below.refl _ _).alloc (Nat.le_refl _) _
        have BB := hid hbb
        have cb := (hbb.block R0 (lt_of_block C4.out)).trans C4.out
        have k4b : wb.cell? ⟨R0, 0, none⟩ = some (.bool false) := by rw [cell_of_row _ _ _ _ _ _ cb]; rfl
        have f4b : wb.frozen? ⟨R0, 0, none⟩ = false := by simp [World.frozen?, cb]
        rw [hwb] at hcs k4b f4b
        have HWB := hid hwb
        clear hc hbb cb hwb
        by_cases hvc : v = c
        · have ht : ((Tx.tx v).toList == (Tx.tx c).toList) = true := by rw [Tx.tx_eq]; simpa using hvc
          clear hvc
          gi_wp2
          rw [← HWB.out]
          refine ⟨((keeps_below B2.out).trans (keeps_below BB.out)).from _, ?_, ?_⟩
          · intro k hk
            have h1 := hrk k hk
            have hsz := BW.out.size
            have hsz2 := B2.out.size
            rw [BB.out.block k (by omega), B2.out.block k (by omega)]
          · show Below w5.heap.size w5 wb
            exact (BW.out.trans (B2.out.mono BW.out.size)).trans (BB.out.mono (Nat.le_trans BW.out.size B2.out.size))
        · have ht : ((Tx.tx v).toList == (Tx.tx c).toList) = false := by rw [Tx.tx_eq]; simpa using hvc
          have HVC := hid hvc
          clear hvc
          gi_wp2
          rw [← HWB.out]
          exact ⟨(((keeps_below B2.out).trans (keeps_below BB.out)).trans (KeepsOthers.setCell _ _ _)).from _, rfl, NP.out (.inr HVC.out)⟩
    case stop =>
      rintro D c pre W _ hp ⟨_, hn⟩ _
      exact absurd hp hn
    intro D9 ys W hD _ hbW hK
    have MSW := hid (MS5.out.kept hbW)
    have KD := hid hK
    have BW := hid hbW
    clear hbW hK
    go_wp2_with (go_at_call 14; refine (lives_any _).mono ?_; rintro e w9 ⟨rfl, hb9⟩; have c9 := (MSW.out.kept hb9).res; have cc9 : w9.cell? ⟨R0, 0, none⟩ = some (.bool false) := (by rw [cell_of_row _ _ _ _ _ _ c9]; rfl); have cf9 : w9.frozen? ⟨R0, 0, none⟩ = false := (by simp [World.frozen?, c9]); have C9 := hid c9; have B9 := hid hb9; clear hb9 c9)
    have hDR : D9 ≠ R0 := by have := lt_of_block MS5.out.res; omega
    have hDw : w.heap.size ≤ D9 := by have := lt_of_block MS5.out.res; rw [← HR0.out]; omega
    have hK9 : (w9.setCell ⟨R0, 0, none⟩ (.bool true)).heap[D9]? = some (.deferred (some [])) := (Below.heap_setCell w9 ⟨R0, 0, none⟩ _ D9 hDR).trans ((B9.out.block D9 (lt_of_block KD.out)).trans KD.out)
    have hR9 : (w9.setCell ⟨R0, 0, none⟩ (.bool true)).heap[R0]? = some (.cells #[.bool true] 4 (0, 0)) := heap_setCell_same w9 R0 0 _ _ _ C9.out
    have bS : Below w.heap.size w (w9.setCell ⟨R0, 0, none⟩ (.bool true)) := by
      have h5 := (MSW.out.kept B9.out).bel
      rw [← HR0.out]
      exact (BW0.out.trans h5).setCell (p := ⟨R0, 0, none⟩) (Nat.le_refl _) _
    refine ⟨by simp, .inl ⟨_, _, rfl, run_takeDeferred hK9, ?_⟩⟩
    refine ⟨_, results_boolcell rfl _ _ R0 (.bool true) rfl ?_, rfl, ?_⟩
    · rw [cell_of_row _ _ _ _ _ _ (cells_turnedP hR9 (grownBy_putObj' _ D9 (.deferred none)) fun r e => by cases e; exact ⟨_, hK9, rfl⟩)]; rfl
    · exact bS.trans (belowK_b (w := w) (Nat.le_refl _) _ D9 _ _ hDw hK9 rfl rfl)
end Go.Proofs.Ytbfmanhbbancmaa
