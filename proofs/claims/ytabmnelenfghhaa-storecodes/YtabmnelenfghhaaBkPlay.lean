/- A store and the document's under some commands: they agree. -/
import Derived.Test.YtabmnelenfghhaaBkAll
import Derived.Test.YtabmnelenfghhaaBkOk
import Derived.Test.YtabmnelenfghhaaBkCmds
import Derived.Test.YtabmnelenfghhaaBkSameC
import Derived.Test.YtabmnelenfghhaaBkLight
namespace Go.Proofs.Ytabmnelenfghhaa
open Go.RowKit
set_option linter.unusedVariables false
set_option linter.unusedSimpArgs false

/-- Both stores in memory, from B on; all below is as it was. -/
structure PS (w : World) (b g base X : Nat) (vt vm : Value) (ks : List Nat) (S : StD) (W : World) : Prop where
  st : St W b g S
  rst : RSt W base X vt vm ks S
  bel : Below w.heap.size w W
  ok : SOk S
theorem PS.later {w W Y : World} {b g base X : Nat} {vt vm : Value} {ks : List Nat} {S : StD} (h : PS w b g base X vt vm ks S W) (hb : Below W.heap.size W Y) : PS w b g base X vt vm ks S Y :=
  ⟨h.st.below hb, h.rst.below hb, h.bel.trans (hb.mono h.bel.size), h.ok⟩
theorem ButR.below {R : Nat → Prop} {w w' : World} {B : Nat} (h : ButR R w w') (hB : B ≤ w.heap.size) (hr : ∀ k, R k → B ≤ k) : Below B w w' :=
  ⟨h.os, h.tape, h.output, h.size, fun k hk => h.block k (by omega) fun e => by have := hr k e; omega⟩
theorem RSt.low {w : World} {base X : Nat} {vt vm : Value} {ks : List Nat} {S : StD} (h : RSt w base X vt vm ks S) {B : Nat} (hX : B ≤ X) (hb : B ≤ base) : ∀ k, RB X vt ks k → B ≤ k := by
  rintro k (rfl | e | e)
  · exact hX
  · exact Nat.le_trans hb (h.texts.lt k e).1
  · obtain ⟨j, hj, rfl⟩ := List.mem_iff_getElem.1 e
    exact Nat.le_trans hb (h.marks j hj (by rw [← h.n]; exact hj)).1
theorem RSt.buts {w w' : World} {b g base X : Nat} {vt vm : Value} {ks : List Nat} {S S0 : StD} (h : RSt w base X vt vm ks S) (hs : St w b g S0) (hb : ButR (fun k => k = b ∨ k = g) w w') : RSt w' base X vt vm ks S := by
  obtain ⟨_, cap, e1, e2⟩ := hs
  obtain ⟨cur, e3⟩ := own_typed e2 (q := g) rfl
  have k : Kt [91, 100] w w' := fun q cs t fr hq hn => hb.block q (lt_of_block hq) (by
    rintro (rfl | rfl)
    · rw [e1] at hq; cases hq; exact hn (by simp)
    · rw [e3] at hq; cases hq; exact hn (by simp))
  exact h.kt k (by decide)
theorem St.buts {w w' : World} {b g base X : Nat} {vt vm : Value} {ks : List Nat} {S S0 : StD} (h : St w b g S0) (hr : RSt w base X vt vm ks S) (hb : ButR (RB X vt ks) w w') : St w' b g S0 := by
  obtain ⟨_, cap, e1, e2⟩ := id h
  obtain ⟨cur, e3⟩ := own_typed e2 (q := g) rfl
  have key : ∀ (q : Nat) (cs : Array Value) (t : TypeId) (fr : Nat × Nat), w.heap[q]? = some (.cells cs t fr) → (t = 91 ∨ t = 100) → w'.heap[q]? = w.heap[q]? := fun q cs t fr hq ht => hb.block q (lt_of_block hq) (by
    rintro (rfl | e | e)
    · rw [hr.head] at hq; cases hq; revert ht; decide
    · obtain ⟨c2, h2⟩ := own_typed hr.texts e
      rw [h2] at hq; cases hq; revert ht; decide
    · obtain ⟨j, hj, rfl⟩ := List.mem_iff_getElem.1 e
      have := (hr.marks j hj (by rw [← hr.n]; exact hj)).2
      rw [this] at hq; cases hq; revert ht; decide)
  exact h.kept (key b _ _ _ e1 (.inl rfl)) (key g _ _ _ e3 (.inr rfl))
theorem light_ok {w : World} {c : CmdD} {u : Value} (h : Strs w u c.data) (hl : LightB c.data) : CmdOk w c u := ⟨h, by have := hl.1; omega, fun s hs => by have := hl.2 s hs; omega⟩
theorem nextS_span (S : StD) (c : CmdD) : (nextS S c).from' = S.from' ∧ (nextS S c).to = S.to := by
  unfold nextS
  split
  · exact ⟨rfl, rfl⟩
  · split
    · exact ⟨rfl, rfl⟩
    · split <;> exact ⟨rfl, rfl⟩
theorem Strs.low {w : World} {a : Addr} {n cp : Nat} {l : List ByteArray} (h : Strs w (.slice (some a) n cp) l) (hn : 0 < n) : a.block < w.heap.size := by
  obtain ⟨ao, n', cap, e, h1, h2, h3, h4, h5⟩ := h
  cases e
  have h0 := h5 a rfl 0 (by omega)
  have := World.block_lt_of_cell? _ _ h0
  simpa [Addr.add] using this
/-- What play gives. -/
def PlayP (x : Sp) (w : World) (e : Ending) (w' : World) : Prop := ∃ b g base X vt vm ks S, e = .returned (.tuple #[.pointer (some ⟨b, 0, none⟩), .pointer (some ⟨X, 0, none⟩), .bool true]) ∧ w.heap.size ≤ b ∧ w.heap.size ≤ g ∧ w.heap.size ≤ X ∧ w.heap.size ≤ base ∧ S.from' = x.1 ∧ S.to = x.2 ∧ PS w b g base X vt vm ks S w'
set_option maxRecDepth 100000 in
set_option maxHeartbeats 8000000 in
theorem play_any (x : Sp) (v : Value) (l : List (CmdD × Value)) (most : Int) (w : World) (hm : mayBeB x = true) (hl : Cmds w v l) (hz : ∀ y ∈ l, CmdJ y.1) :
    Calls Try.prog 16 #[.agg #[.int .i64 x.1, .int .i64 x.2], v, .int .i64 most] w (PlayP x w) := by
  obtain ⟨va, vc, rfl⟩ := hl.shape
  obtain ⟨f, t⟩ := x
  have hLn := hl.len
  have HM := hid hm
  have HC := hid hl
  have HZ := hid hz
  clear hm hl hz
  obtain ⟨w1, hw1⟩ : ∃ w1, w1 = w.alloc (.cells #[.int .i64 f, .int .i64 t] 42) := ⟨_, rfl⟩
  have hb1 : Below w.heap.size w w1 := by rw [hw1]; exact (Below.refl _ _).alloc (Nat.le_refl _) _
  have hA : w1.heap[w.heap.size]? = some (.cells #[.int .i64 f, .int .i64 t] 42 (0, 0)) := by rw [hw1]; exact heap_alloc_new _ _
  have HW1 := hid hw1
  have B1 := hid hb1
  clear hw1 hb1
  go_enter Try.func16, Try.ntmps16
  go_upto_region 1 with fail
  rw [← HW1.out]
  obtain ⟨A, hAe⟩ : ∃ A, A = w.heap.size := ⟨_, rfl⟩
  rw [← hAe] at hA
  rw [← hAe]
  clear hAe HW1
  have x0 : w1.cell? ⟨A, 0, none⟩ = some (.int .i64 f) := by rw [cell_of_row _ _ _ _ _ _ hA]; rfl
  have x1 : w1.cell? ⟨A, 1, none⟩ = some (.int .i64 t) := by rw [cell_of_row _ _ _ _ _ _ hA]; rfl
  have HA := hid hA
  clear hA
  go_wp2_with fail
  refine (new_yes (f, t) _ HM.out).mono ?_
  rintro e w2 ⟨b, g, rfl, hb, hg, hst2, hb2⟩
  have B2 := hid (B1.out.trans (hb2.mono B1.out.size))
  have hA2 := (hb2.block A (lt_of_block HA.out)).trans HA.out
  have ST2 := hid hst2
  have HBG := hid (And.intro (Nat.le_trans B1.out.size hb) (Nat.le_trans B1.out.size hg))
  clear x0 x1 hb2 hst2 hb hg HA
  have x0 : w2.cell? ⟨A, 0, none⟩ = some (.int .i64 f) := by rw [cell_of_row _ _ _ _ _ _ hA2]; rfl
  have x1 : w2.cell? ⟨A, 1, none⟩ = some (.int .i64 t) := by rw [cell_of_row _ _ _ _ _ _ hA2]; rfl
  clear hA2
  go_wp2_with fail
  refine (rnew_any (f, t) w2 HM.out).mono ?_
  rintro e w3 ⟨X, vt, vm, ks, rfl, hX, hr3, hb3⟩
  have PS0 : Hid (PS w b g w2.heap.size X vt vm ks ⟨f, t, false, List.replicate (t - f).toNat zeroC⟩ w3) := hid ⟨ST2.out.below hb3, hr3, B2.out.trans (hb3.mono B2.out.size), rep_ok _ _ _ _⟩
  obtain ⟨base, hbase⟩ : ∃ base, base = w2.heap.size := ⟨_, rfl⟩
  rw [← hbase] at PS0
  have HL : Hid (w.heap.size ≤ b ∧ w.heap.size ≤ g ∧ w.heap.size ≤ X ∧ w.heap.size ≤ base) := hid ⟨HBG.out.1, HBG.out.2, Nat.le_trans B2.out.size hX, by rw [hbase]; exact B2.out.size⟩
  clear hb3 hr3 hX hbase x0 x1 HBG ST2
  go_wp2_with fail
  go_loopw [12, 13, 14, 15, 16, 17, 29] (fun _ _ _ _ _ _ iv wr => ∃ (i : Nat) (S : StD), iv = .int .i64 i ∧ i ≤ l.length ∧ S.from' = f ∧ S.to = t ∧ PS w b g base X vt vm ks S wr) (fun _ _ _ _ _ _ iv _ => l.length - (intOf iv).toNat)
  case atStart => exact ⟨0, _, rfl, Nat.zero_le _, rfl, rfl, PS0.out⟩
  case round =>
    obtain ⟨i, S, rfl, hi, hSf, hSt, hPS⟩ := hrel
    have HS := hid (And.intro hSf hSt)
    clear hSf hSt
    by_cases hlt : i < l.length
    · have hltI : (i : Int) < (l.length : Int) := by omega
      have hix : 0 ≤ (i : Int) ∧ (i : Int) < (l.length : Int) := by omega
      obtain ⟨gl, ol, rfl⟩ := HC.out.addr (by omega)
      obtain ⟨c0, c1, c2, c3, c4, c5, hs0⟩ := (HC.out.below hPS.bel).lit i hlt
      have hJ := HZ.out l[i] (List.getElem_mem hlt)
      have hsw := (HC.out.lit i hlt).2.2.2.2.2.2
      generalize l[i] = cu at c0 c1 c2 c3 c4 c5 hs0 hJ hsw
      obtain ⟨c, u⟩ := cu
      simp only at c0 c1 c2 c3 c4 c5 hs0 hJ hsw
      have HUG : Hid (∀ a n cp, u = .slice (some a) n cp → 0 < n → a.block < w.heap.size) := hid fun a n cp e hn => by
        subst e; exact hsw.low hn
      have HSW := hid hsw
      have HJJ := hid hJ.s
      have HPS := hid hPS
      obtain ⟨ua, uc, rfl⟩ := hs0.shape
      have HLI := hid (fun W (h : Strs W (.slice ua c.data.length uc) c.data) => light_any c _ W h HJJ.out)
      have HAP := hid (fun W (h1 : St W b g S) (h2 : CmdOk W c (.slice ua c.data.length uc)) => apply_any b g S c _ W h1 h2 (fun a n cp e hn => by have := HUG.out a n cp e hn; have := HL.out.2.1; omega))
      have HRA := hid (fun W (h1 : RSt W base X vt vm ks S) (hi : StI S) (h2 : CmdOk W c (.slice ua c.data.length uc)) => rapply_any base X vt vm ks S c _ W h1 hi h2 (fun a n cp e hn hR => by have := HUG.out a n cp e hn; have := h1.low HL.out.2.2.1 HL.out.2.2.2 _ hR; omega))
      have HOK := hid (fun W (hb : Below w.heap.size w W) (hl : LightB c.data) => light_ok (c := c) (HSW.out.below hb) hl)
      have HNI := hid (nextS_i HPS.out.st.i c)
      have HNS := hid (nextS_span S c)
      have HNO := hid (next_ok HPS.out.ok c)
      obtain ⟨ok, hok⟩ : ∃ ok, ok = okB S c := ⟨_, rfl⟩
      obtain ⟨er, her⟩ : ∃ er, er = errN S c := ⟨_, rfl⟩
      obtain ⟨dt, hdt⟩ : ∃ dt, dt = dataOf S c := ⟨_, rfl⟩
      obtain ⟨S', hS'⟩ : ∃ S', S' = nextS S c := ⟨_, rfl⟩
      unfold ApP at HAP
      rw [← hok, ← her, ← hdt, ← hS'] at HAP HRA
      rw [← hS'] at HNI HNS HNO
      clear hok her hdt hS' hsw hJ hPS HJJ
      obtain ⟨op, cl, seq, cf, ct, data⟩ := c
      unfold cmdV at HLI HAP HRA
      simp only at c0 c1 c2 c3 c4 c5 hs0 HLI HAP HRA HOK HSW
      obtain ⟨W1, hW1⟩ : ∃ W1, W1 = wr.alloc (.cells #[.int .i64 op, .int .i64 cl, .int .i64 seq, .int .i64 cf, .int .i64 ct, .slice ua data.length uc] 24) := ⟨_, rfl⟩
      have bW1 : Below wr.heap.size wr W1 := by rw [hW1]; exact (Below.refl _ _).alloc (Nat.le_refl _) _
      have hc1 : W1.heap[wr.heap.size]? = some (.cells #[.int .i64 op, .int .i64 cl, .int .i64 seq, .int .i64 cf, .int .i64 ct, .slice ua data.length uc] 24 (0, 0)) := by rw [hW1]; exact heap_alloc_new _ _
      have HW1 := hid hW1
      have PS1 := hid (HPS.out.later bW1)
      clear hW1 bW1 hs0
      go_upto_region 8 with fail
      rw [← HW1.out]
      obtain ⟨Bc, hBc⟩ : ∃ Bc, Bc = wr.heap.size := ⟨_, rfl⟩
      rw [← hBc] at hc1
      rw [← hBc]
      have HBc : Hid (b < Bc ∧ g < Bc) := hid (by rw [hBc]; exact ⟨HPS.out.st.lt.1, HPS.out.st.lt.2.1⟩)
      have HC1 := hid hc1
      clear hBc HW1 c0 c1 c2 c3 c4 c5 HPS hc1
      by_cases hmo : most ≤ (i : Int)
      · have hmd : decide (most ≤ (i : Int)) = true := decide_eq_true hmo
        clear HLI HAP HRA
        go_wp2_with fail
        (try simp only [Exit.inBlock, Exit.then])
        refine bodyPost_ret (results_tmp3 rfl _ _ _) rfl ?_
        exact ⟨b, g, base, X, vt, vm, ks, S, rfl, HL.out.1, HL.out.2.1, HL.out.2.2.1, HL.out.2.2.2, HS.out.1, HS.out.2, PS1.out⟩
      · have hmd : decide (most ≤ (i : Int)) = false := decide_eq_false hmo
        have z0 : W1.cell? ⟨Bc, 0, none⟩ = some (.int .i64 op) := by rw [cell_of_row _ _ _ _ _ _ HC1.out]; rfl
        have z1 : W1.cell? ⟨Bc, 1, none⟩ = some (.int .i64 cl) := by rw [cell_of_row _ _ _ _ _ _ HC1.out]; rfl
        have z2 : W1.cell? ⟨Bc, 2, none⟩ = some (.int .i64 seq) := by rw [cell_of_row _ _ _ _ _ _ HC1.out]; rfl
        have z3 : W1.cell? ⟨Bc, 3, none⟩ = some (.int .i64 cf) := by rw [cell_of_row _ _ _ _ _ _ HC1.out]; rfl
        have z4 : W1.cell? ⟨Bc, 4, none⟩ = some (.int .i64 ct) := by rw [cell_of_row _ _ _ _ _ _ HC1.out]; rfl
        have z5 : W1.cell? ⟨Bc, 5, none⟩ = some (.slice ua data.length uc) := by rw [cell_of_row _ _ _ _ _ _ HC1.out]; rfl
        go_wp2_with fail
        refine (HLI.out W1 (HSW.out.below PS1.out.bel)).mono ?_
        rintro e W2 ⟨r, rfl, hrl, hb2⟩
        have PS2 := hid (PS1.out.later hb2)
        have HC2 := hid ((hb2.block Bc (lt_of_block HC1.out)).trans HC1.out)
        have HRL := hid hrl
        clear hb2 hrl z0 z1 z2 z3 z4 z5 HC1 PS1 HLI
        cases r with
        | false =>
          have PS1 := PS2
          clear HAP HRA PS2
          go_wp2_with fail
          (try simp only [Exit.inBlock, Exit.then])
          refine bodyPost_ret (results_tmp3 rfl _ _ _) rfl ?_
          exact ⟨b, g, base, X, vt, vm, ks, S, rfl, HL.out.1, HL.out.2.1, HL.out.2.2.1, HL.out.2.2.2, HS.out.1, HS.out.2, PS1.out⟩
        | true =>
          have z0 : W2.cell? ⟨Bc, 0, none⟩ = some (.int .i64 op) := by rw [cell_of_row _ _ _ _ _ _ HC2.out]; rfl
          have z1 : W2.cell? ⟨Bc, 1, none⟩ = some (.int .i64 cl) := by rw [cell_of_row _ _ _ _ _ _ HC2.out]; rfl
          have z2 : W2.cell? ⟨Bc, 2, none⟩ = some (.int .i64 seq) := by rw [cell_of_row _ _ _ _ _ _ HC2.out]; rfl
          have z3 : W2.cell? ⟨Bc, 3, none⟩ = some (.int .i64 cf) := by rw [cell_of_row _ _ _ _ _ _ HC2.out]; rfl
          have z4 : W2.cell? ⟨Bc, 4, none⟩ = some (.int .i64 ct) := by rw [cell_of_row _ _ _ _ _ _ HC2.out]; rfl
          have z5 : W2.cell? ⟨Bc, 5, none⟩ = some (.slice ua data.length uc) := by rw [cell_of_row _ _ _ _ _ _ HC2.out]; rfl
          have HLB := hid (HRL.out rfl)
          clear HRL
          go_wp2_with fail
          refine (HAP.out W2 PS2.out.st (HOK.out W2 PS2.out.bel HLB.out)).mono ?_
          rintro e W3 ⟨va3, vc3, rfl, ho3, hst3, hbut3⟩
          have ST3 := hid hst3
          have R3 := hid (PS2.out.rst.buts PS2.out.st hbut3)
          have B3 := hid (PS2.out.bel.trans (hbut3.below PS2.out.bel.size (by rintro k (rfl | rfl); exact HL.out.1; exact HL.out.2.1)))
          have HC3 := hid ((hbut3.block Bc (lt_of_block HC2.out) (by have := HBc.out; omega)).trans HC2.out)
          have O3 := hid ho3
          have HS23 := hid hbut3.size
          clear hst3 hbut3 ho3 z0 z1 z2 z3 z4 z5 HC2 HAP
          obtain ⟨W4, hW4⟩ : ∃ W4, W4 = W3.alloc (.cells #[.bool ok, .slice va3 dt.length vc3] 60) := ⟨_, rfl⟩
          have bW4 : Below W3.heap.size W3 W4 := by rw [hW4]; exact (Below.refl _ _).alloc (Nat.le_refl _) _
          have h44 : W4.heap[W3.heap.size]? = some (.cells #[.bool ok, .slice va3 dt.length vc3] 60 (0, 0)) := by rw [hW4]; exact heap_alloc_new _ _
          have HW4 := hid hW4
          have R4 := hid (R3.out.below bW4)
          have ST4 := hid (ST3.out.below bW4)
          have B4 := hid (B3.out.trans (bW4.mono B3.out.size))
          have HC4 := hid ((bW4.block Bc (lt_of_block HC3.out)).trans HC3.out)
          have O4 := hid (own_below O3.out bW4)
          clear hW4 bW4 R3 ST3 B3 HC3 O3
          go_upto_region 10 with fail
          rw [← HW4.out]
          obtain ⟨Br, hBr⟩ : ∃ Br, Br = W3.heap.size := ⟨_, rfl⟩
          rw [← hBr] at h44
          rw [← hBr]
          have HBr := hid h44
          clear hBr h44 HW4
          have z0 : W4.cell? ⟨Bc, 0, none⟩ = some (.int .i64 op) := by rw [cell_of_row _ _ _ _ _ _ HC4.out]; rfl
          have z1 : W4.cell? ⟨Bc, 1, none⟩ = some (.int .i64 cl) := by rw [cell_of_row _ _ _ _ _ _ HC4.out]; rfl
          have z2 : W4.cell? ⟨Bc, 2, none⟩ = some (.int .i64 seq) := by rw [cell_of_row _ _ _ _ _ _ HC4.out]; rfl
          have z3 : W4.cell? ⟨Bc, 3, none⟩ = some (.int .i64 cf) := by rw [cell_of_row _ _ _ _ _ _ HC4.out]; rfl
          have z4 : W4.cell? ⟨Bc, 4, none⟩ = some (.int .i64 ct) := by rw [cell_of_row _ _ _ _ _ _ HC4.out]; rfl
          have z5 : W4.cell? ⟨Bc, 5, none⟩ = some (.slice ua data.length uc) := by rw [cell_of_row _ _ _ _ _ _ HC4.out]; rfl
          go_wp2_with fail
          refine (HRA.out W4 R4.out PS2.out.st.i (HOK.out W4 B4.out HLB.out)).mono ?_
          rintro e W5 ⟨va5, vc5, rfl, ho5, hr5, hbut5⟩
          have hlow := PS2.out.rst
          have ST5 := hid (ST4.out.buts R4.out hbut5)
          have R5 := hid hr5
          have B5 := hid (B4.out.trans (hbut5.below B4.out.size (R4.out.low HL.out.2.2.1 HL.out.2.2.2)))
          have HBr5 : Hid (W5.heap[Br]? = _) := hid ((hbut5.block Br (lt_of_block HBr.out) (by
            rintro (e | e | e)
            · have := R4.out.head; rw [← e, HBr.out] at this; cases this
            · obtain ⟨c2, h2⟩ := own_typed R4.out.texts e
              rw [HBr.out] at h2; cases h2
            · obtain ⟨q, hq, e2⟩ := List.mem_iff_getElem.1 e
              have := (R4.out.marks q hq (by rw [← R4.out.n]; exact hq)).2
              rw [e2, HBr.out] at this; cases this)).trans HBr.out)
          have O5 : Hid (W5.ownsRow W2.heap.size 9 1 (.slice va3 dt.length vc3) dt.length (tvs dt)) := hid (own_kept O4.out fun q cs hq hh => hbut5.block q (lt_of_block hh) (by
            have hq2 := (O4.out.lt q hq).1
            rintro (e | e | e)
            · have := lt_of_block hlow.head; omega
            · have := (hlow.texts.lt q e).2; omega
            · obtain ⟨j, hj, e2⟩ := List.mem_iff_getElem.1 e
              have := lt_of_block (hlow.marks j hj (by rw [← hlow.n]; exact hj)).2
              omega))
          have P5 := hid ho5
          clear hr5 hbut5 ho5 hlow z0 z1 z2 z3 z4 z5 HC4 HRA R4 ST4 B4 O4 HBr
          obtain ⟨W6, hW6⟩ : ∃ W6, W6 = W5.alloc (.cells #[.bool ok, .slice va5 dt.length vc5] 60) := ⟨_, rfl⟩
          have bW6 : Below W5.heap.size W5 W6 := by rw [hW6]; exact (Below.refl _ _).alloc (Nat.le_refl _) _
          have h66 : W6.heap[W5.heap.size]? = some (.cells #[.bool ok, .slice va5 dt.length vc5] 60 (0, 0)) := by rw [hW6]; exact heap_alloc_new _ _
          have HW6 := hid hW6
          have PS6 : Hid (PS w b g base X vt vm ks S' W6) := hid (PS.later ⟨ST5.out, R5.out, B5.out, HNO.out⟩ bW6)
          have hBr6 := (bW6.block Br (lt_of_block HBr5.out)).trans HBr5.out
          have T3 := hid (strs_own (own_below O5.out bW6))
          have T5 := hid (strs_own (own_below P5.out bW6))
          clear hW6 bW6 ST5 R5 B5 HBr5 O5 P5
          go_upto_region 11 with fail
          rw [← HW6.out]
          obtain ⟨Bq, hBq⟩ : ∃ Bq, Bq = W5.heap.size := ⟨_, rfl⟩
          rw [← hBq] at h66
          rw [← hBq]
          have y0 : W6.cell? ⟨Br, 0, none⟩ = some (.bool ok) := by rw [cell_of_row _ _ _ _ _ _ hBr6]; rfl
          have y1 : W6.cell? ⟨Br, 1, none⟩ = some (.slice va3 dt.length vc3) := by rw [cell_of_row _ _ _ _ _ _ hBr6]; rfl
          have y2 : W6.cell? ⟨Bq, 0, none⟩ = some (.bool ok) := by rw [cell_of_row _ _ _ _ _ _ h66]; rfl
          have y3 : W6.cell? ⟨Bq, 1, none⟩ = some (.slice va5 dt.length vc5) := by rw [cell_of_row _ _ _ _ _ _ h66]; rfl
          clear hBq h66 hBr6 HW6
          go_wp2_with fail
          refine (sameReply_any ok dt _ _ W6 T3.out T5.out).mono ?_
          rintro e W7 ⟨rfl, hb7⟩
          have PS7 := hid (PS6.out.later hb7)
          clear hb7 y0 y1 y2 y3
          go_wp2_with fail
          go_roundw
          case rel => exact ⟨i + 1, S', by go_num, by omega, HNS.out.1.trans HS.out.1, HNS.out.2.trans HS.out.2, PS7.out⟩
          case measure => simp [intOf]; omega
    · have hltI : ¬ (i : Int) < (l.length : Int) := by omega
      have PS1 := hid hPS
      clear hPS
      go_wp2_with fail
      (try simp only [Exit.inBlock, Exit.then])
      refine bodyPost_ret (results_tmp3 rfl _ _ _) rfl ?_
      exact ⟨b, g, base, X, vt, vm, ks, S, rfl, HL.out.1, HL.out.2.1, HL.out.2.2.1, HL.out.2.2.2, HS.out.1, HS.out.2, PS1.out⟩
end Go.Proofs.Ytabmnelenfghhaa
