/- DiskClones answers true for any three rows of Ops; nothing that was there has turned. -/
import Derived.Test.YtengonfilmhaoabDkTell
import Derived.Test.YtengonfilmhaoabDkClone
import Derived.Deep.DeepCutAuto
import Derived.Deep.RegionHeld3
namespace Go.Proofs.Ytengonfilmhaoab
open Go.RowKit

theorem dis_new {R R' X : Nat → Prop} {n : Nat} (hd : ∀ k, R k → ¬ X k) (r : ∀ k, R' k → R k ∨ n ≤ k) (hx : ∀ k, X k → k < n) : ∀ k, R' k → ¬ X k := fun k hk hX => by
  rcases r k hk with h | h
  · exact hd k h hX
  · have := hx k hX; omega
theorem dis_symm {R X : Nat → Prop} (h : ∀ k, R k → ¬ X k) : ∀ k, X k → ¬ R k := fun k hk hR => h k hR hk
theorem up_new {R R' : Nat → Prop} {n B : Nat} (ha : ∀ k, R k → B ≤ k) (r : ∀ k, R' k → R k ∨ n ≤ k) (hn : B ≤ n) : ∀ k, R' k → B ≤ k := fun k hk => by
  rcases r k hk with h | h
  · exact ha k h
  · omega
/-- A device and two of the document's, apart from each other. -/
structure TriI (w : World) (d x y : Nat) (wr : World) (R X Y : Nat → Prop) (S T U : DS) : Prop where
  dk : Dk wr d R S
  xk : Rk wr x X T
  yk : Rk wr y Y U
  rx : ∀ k, R k → ¬ X k
  ry : ∀ k, R k → ¬ Y k
  xy : ∀ k, X k → ¬ Y k
  ra : ∀ k, R k → w.heap.size ≤ k
  xa : ∀ k, X k → w.heap.size ≤ k
  ya : ∀ k, Y k → w.heap.size ≤ k
  be : Below w.heap.size w wr
theorem TriI.below {w wr wr' : World} {d x y : Nat} {R X Y : Nat → Prop} {S T U : DS} (h : TriI w d x y wr R X Y S T U) (hb : Below wr.heap.size wr wr') : TriI w d x y wr' R X Y S T U :=
  ⟨h.dk.below hb, h.xk.below hb, h.yk.below hb, h.rx, h.ry, h.xy, h.ra, h.xa, h.ya, h.be.trans (hb.mono h.be.size)⟩
theorem TriI.doD {w wr w1 : World} {d x y : Nat} {R X Y : Nat → Prop} {S S' T U : DS} (h : TriI w d x y wr R X Y S T U) (hs : Step wr d R w1 S') : ∃ R1, TriI w d x y w1 R1 X Y S' T U := by
  obtain ⟨R1, d1, t1, r1⟩ := hs
  have hz := h.be.size
  exact ⟨R1, d1, h.xk.but t1 (dis_symm h.rx), h.yk.but t1 (dis_symm h.ry), dis_new h.rx r1 h.xk.rlt, dis_new h.ry r1 h.yk.rlt, h.xy, up_new h.ra r1 hz, h.xa, h.ya, h.be.trans (t1.below hz h.ra)⟩
theorem TriI.tellX {w wr w1 : World} {d x y : Nat} {R X Y : Nat → Prop} {S T T' U : DS} (h : TriI w d x y wr R X Y S T U) (hs : RStep wr x X w1 T') : ∃ X1, TriI w d x y w1 R X1 Y S T' U := by
  obtain ⟨X1, d1, t1, r1⟩ := hs
  have hz := h.be.size
  exact ⟨X1, h.dk.but t1 h.rx, d1, h.yk.but t1 (dis_symm h.xy), dis_symm (dis_new (dis_symm h.rx) r1 h.dk.rlt), h.ry, dis_new h.xy r1 h.yk.rlt, h.ra, up_new h.xa r1 hz, h.ya, h.be.trans (t1.below hz h.xa)⟩
theorem TriI.tellY {w wr w1 : World} {d x y : Nat} {R X Y : Nat → Prop} {S T U U' : DS} (h : TriI w d x y wr R X Y S T U) (hs : RStep wr y Y w1 U') : ∃ Y1, TriI w d x y w1 R X Y1 S T U' := by
  obtain ⟨Y1, d1, t1, r1⟩ := hs
  have hz := h.be.size
  exact ⟨Y1, h.dk.but t1 h.ry, h.xk.but t1 h.xy, d1, h.rx, dis_symm (dis_new (dis_symm h.ry) r1 h.dk.rlt), dis_symm (dis_new (dis_symm h.xy) r1 h.xk.rlt), h.ra, h.xa, up_new h.ya r1 hz, h.be.trans (t1.below hz h.ya)⟩
/-- The clone besides. -/
structure FourI (w : World) (d x y c : Nat) (wr : World) (R X Y C : Nat → Prop) (S T : DS) : Prop where
  dk : Dk wr d R S
  xk : Rk wr x X S
  ck : Dk wr c C T
  yk : Rk wr y Y T
  rx : ∀ k, R k → ¬ X k
  ry : ∀ k, R k → ¬ Y k
  rc : ∀ k, R k → ¬ C k
  xy : ∀ k, X k → ¬ Y k
  xc : ∀ k, X k → ¬ C k
  yc : ∀ k, Y k → ¬ C k
  ra : ∀ k, R k → w.heap.size ≤ k
  xa : ∀ k, X k → w.heap.size ≤ k
  ya : ∀ k, Y k → w.heap.size ≤ k
  ca : ∀ k, C k → w.heap.size ≤ k
  be : Below w.heap.size w wr
theorem FourI.below {w wr wr' : World} {d x y c : Nat} {R X Y C : Nat → Prop} {S T : DS} (h : FourI w d x y c wr R X Y C S T) (hb : Below wr.heap.size wr wr') : FourI w d x y c wr' R X Y C S T :=
  ⟨h.dk.below hb, h.xk.below hb, h.ck.below hb, h.yk.below hb, h.rx, h.ry, h.rc, h.xy, h.xc, h.yc, h.ra, h.xa, h.ya, h.ca, h.be.trans (hb.mono h.be.size)⟩
/-- One call on the device and on the document's. -/
theorem FourI.doD {w wr w1 w2 : World} {d x y c : Nat} {R X Y C : Nat → Prop} {S S' T : DS} (h : FourI w d x y c wr R X Y C S T) (hs : Step wr d R w1 S') :
    Rk w1 x X S ∧ Below w.heap.size w w1 ∧ (RStep w1 x X w2 S' → ∃ R1 X1, FourI w d x y c w2 R1 X1 Y C S' T) := by
  obtain ⟨R1, d1, t1, r1⟩ := hs
  have hz := h.be.size
  have hs1 := t1.size
  have xk := h.xk.but t1 (dis_symm h.rx)
  have ck := h.ck.but t1 (dis_symm h.rc)
  have yk := h.yk.but t1 (dis_symm h.ry)
  have rx := dis_new h.rx r1 h.xk.rlt
  have ry := dis_new h.ry r1 h.yk.rlt
  have rc := dis_new h.rc r1 h.ck.rlt
  have ra := up_new h.ra r1 hz
  have be := h.be.trans (t1.below hz h.ra)
  refine ⟨xk, be, fun hx => ?_⟩
  obtain ⟨X1, d2, t2, r2⟩ := hx
  exact ⟨R1, X1, d1.but t2 rx, d2, ck.but t2 (dis_symm h.xc), yk.but t2 (dis_symm h.xy), dis_symm (dis_new (dis_symm rx) r2 d1.rlt), ry, rc, dis_new h.xy r2 yk.rlt, dis_new h.xc r2 ck.rlt, h.yc, ra, up_new h.xa r2 be.size, h.ya, h.ca, be.trans (t2.below be.size h.xa)⟩
/-- One call on the clone and on the document's other one. -/
theorem FourI.doC {w wr w1 w2 : World} {d x y c : Nat} {R X Y C : Nat → Prop} {S T T' : DS} (h : FourI w d x y c wr R X Y C S T) (hs : Step wr c C w1 T') :
    Rk w1 y Y T ∧ Below w.heap.size w w1 ∧ (RStep w1 y Y w2 T' → ∃ Y1 C1, FourI w d x y c w2 R X Y1 C1 S T') := by
  obtain ⟨C1, d1, t1, r1⟩ := hs
  have hz := h.be.size
  have xk := h.xk.but t1 h.xc
  have dk := h.dk.but t1 h.rc
  have yk := h.yk.but t1 h.yc
  have xc := dis_symm (dis_new (dis_symm h.xc) r1 h.xk.rlt)
  have yc := dis_symm (dis_new (dis_symm h.yc) r1 h.yk.rlt)
  have rc := dis_symm (dis_new (dis_symm h.rc) r1 h.dk.rlt)
  have ca := up_new h.ca r1 hz
  have be := h.be.trans (t1.below hz h.ca)
  refine ⟨yk, be, fun hx => ?_⟩
  obtain ⟨Y1, d2, t2, r2⟩ := hx
  exact ⟨Y1, C1, dk.but t2 h.ry, xk.but t2 h.xy, d1.but t2 (dis_symm yc), d2, h.rx, dis_symm (dis_new (dis_symm h.ry) r2 dk.rlt), rc, dis_symm (dis_new (dis_symm h.xy) r2 xk.rlt), xc, dis_new yc r2 d1.rlt, h.ra, h.xa, up_new h.ya r2 be.size, ca, be.trans (t2.below be.size h.ya)⟩
set_option linter.unusedSimpArgs false in
set_option maxRecDepth 100000 in
set_option maxHeartbeats 16000000 in
theorem clones_any (v0 v1 v2 : Value) (ls es bs : List OpD) (w : World) (h0 : Ops w v0 ls) (h1 : Ops w v1 es) (h2 : Ops w v2 bs) :
    Calls Try.prog 4 #[v0, v1, v2] w fun e w' => e = .returned (.bool true) ∧ Below w.heap.size w w' := by
  have H0 := hid h0
  have H1 := hid h1
  have H2 := hid h2
  obtain ⟨ao, len, cap, rfl, rfl, hc, hcap, hnone, hcell⟩ := h0
  obtain ⟨ao1, len1, cap1, rfl, rfl, hc1, hcap1, hnone1, hcell1⟩ := h1
  obtain ⟨ao2, len2, cap2, rfl, rfl, hc2, hcap2, hnone2, hcell2⟩ := h2
  clear hcell hcell1 hcell2
  have Z := Nat.le_refl w.heap.size
  by_cases q0 : 50 < (ls.length : Int)
  · go_enter Try.func4, Try.ntmps4
    go_wp2_with (go_at_call 6; refine (lives_any _).mono ?_; rintro e w8 ⟨rfl, hb8⟩; have HB := hid hb8; clear hb8)
    go_ret
    exact ⟨rfl, HB.out⟩
  have q0' : decide (50 < (ls.length : Int)) = false := by simp; omega
  by_cases q1 : 50 < (es.length : Int)
  · go_enter Try.func4, Try.ntmps4
    go_wp2_with (go_at_call 6; refine (lives_any _).mono ?_; rintro e w8 ⟨rfl, hb8⟩; have HB := hid hb8; clear hb8)
    go_ret
    exact ⟨rfl, HB.out⟩
  have q1' : decide (50 < (es.length : Int)) = false := by simp; omega
  by_cases q2 : 50 < (bs.length : Int)
  · go_enter Try.func4, Try.ntmps4
    go_wp2_with (go_at_call 6; refine (lives_any _).mono ?_; rintro e w8 ⟨rfl, hb8⟩; have HB := hid hb8; clear hb8)
    go_ret
    exact ⟨rfl, HB.out⟩
  have q2' : decide (50 < (bs.length : Int)) = false := by simp; omega
  go_enter Try.func4, Try.ntmps4
  go_wp2_with fail
  refine (new_ok 20 _ (by omega) (by omega)).mono ?_
  rintro e w1 ⟨d, R1, rfl, hd1, hr1, hb1⟩
  have D1 := hid hd1
  have Q1 := hid hr1
  have B1 := hid hb1
  clear hd1 hr1 hb1
  go_wp2_with fail
  refine (rnew_any 20 _ (by omega)).mono ?_
  rintro e w2 ⟨x, X1, rfl, hx2, hr2, hb2⟩
  have X2 := hid hx2
  have D2 := hid (D1.out.below hb2)
  have N2 := hid hr2
  have B2 := hid (B1.out.trans (hb2.mono B1.out.size))
  clear hx2 hr2 hb2
  go_wp2_with fail
  refine (rnew_any 20 _ (by omega)).mono ?_
  rintro e w3 ⟨y, Y1, rfl, hx3, hr3, hb3⟩
  have I3 : Hid (TriI w d x y w3 R1 X1 Y1 (newS 20) (newS 20) (newS 20)) := hid ⟨D2.out.below hb3, X2.out.below hb3, hx3, fun k hk hx => by have := N2.out k hx; have := D1.out.rlt k hk; omega, fun k hk hx => by have := hr3 k hx; have := D2.out.rlt k hk; omega, fun k hk hx => by have := hr3 k hx; have := X2.out.rlt k hk; omega,
    Q1.out, fun k hk => Nat.le_trans B1.out.size (N2.out k hk), fun k hk => Nat.le_trans B2.out.size (hr3 k hk), B2.out.trans (hb3.mono B2.out.size)⟩
  clear hx3 hr3 hb3 D1 D2 X2 N2 Q1 B1 B2
  go_wp2_with fail
  go_loopw [39] (fun iv wr => ∃ (i : Nat) (R X Y : Nat → Prop) (S : DS), iv = .int .i64 i ∧ i ≤ ls.length ∧ TriI w d x y wr R X Y S S S) (fun iv _ => ls.length - (intOf iv).toNat)
  case atStart => exact ⟨0, _, _, _, _, rfl, Nat.zero_le _, I3.out⟩
  case round =>
    obtain ⟨i, R, X, Y, S, rfl, hi, hp⟩ := hrel
    clear I3
    have P0 := hid hp
    clear hp
    by_cases hlt : (i : Int) < (ls.length : Int)
    · have hi' : i < ls.length := by omega
      have hao : ∃ ad, ao = some ad := by cases ao with | none => exact absurd (hnone rfl) (by omega) | some ad => exact ⟨ad, rfl⟩
      obtain ⟨ad, rfl⟩ := hao
      obtain ⟨ua, uc, g0, g1, g2, g3, g4⟩ := H0.out.get i hi'
      have HO := hid g4
      obtain ⟨o, ho⟩ : ∃ o, o = ls[i] := ⟨_, rfl⟩
      rw [← ho] at g0 g1 g2 g3 HO
      replace g0 := cell_later P0.out.be g0
      replace g1 := cell_later P0.out.be g1
      replace g2 := cell_later P0.out.be g2
      replace g3 := cell_later P0.out.be g3
      clear ho g4
      have hbx : Below wr.heap.size wr (wr.alloc (.cells #[.int .i64 o.kind, .int .i64 o.n, .slice ua o.m.length uc, .int .u64 (o.t : Int)] 40)) := (Below.refl _ _).alloc (Nat.le_refl _) _
      have P1 := hid (P0.out.below hbx)
      have X1 : Hid ((wr.alloc (.cells #[.int .i64 o.kind, .int .i64 o.n, .slice ua o.m.length uc, .int .u64 (o.t : Int)] 40)).heap[wr.heap.size]? = some (.cells #[.int .i64 o.kind, .int .i64 o.n, .slice ua o.m.length uc, .int .u64 (o.t : Int)] 40 (0, 0))) := hid (heap_alloc_new _ _)
      have RB : Hid (¬ R wr.heap.size) := hid fun h => by have := P0.out.dk.rlt _ h; omega
      have XB : Hid (¬ X wr.heap.size) := hid fun h => by have := P0.out.xk.rlt _ h; omega
      clear hbx
      go_wp2_with fail
      refine (do_any d R S o _ _ P1.out.dk (HO.out.below P1.out.be)).mono ?_
      rintro e w5 ⟨rfl, hs5⟩
      obtain ⟨R5, d5, t5, r5⟩ := hs5
      have X5 := hid ((t5.block _ (lt_of_block' X1.out) RB.out).trans X1.out)
      obtain ⟨R6, hI6⟩ := P1.out.doD ⟨R5, d5, t5, r5⟩
      have I6 := hid hI6
      obtain ⟨y0, y1, y2, y3⟩ := cell_four X5.out
      clear hI6 d5 t5 r5
      go_wp2_with fail
      refine (tell_any x X S o _ _ I6.out.xk (HO.out.below I6.out.be)).mono ?_
      rintro e w7 ⟨rfl, hs7⟩
      obtain ⟨X7, d7, t7, r7⟩ := hs7
      have Z7 := hid ((t7.block _ (lt_of_block' X5.out) XB.out).trans X5.out)
      obtain ⟨X8, hI7⟩ := I6.out.tellX ⟨X7, d7, t7, r7⟩
      have I7 := hid hI7
      clear y0 y1 y2 y3
      obtain ⟨y0, y1, y2, y3⟩ := cell_four Z7.out
      clear hI7 d7 t7 r7
      go_wp2_with fail
      refine (tell_any y Y S o _ _ I7.out.yk (HO.out.below I7.out.be)).mono ?_
      rintro e w9 ⟨rfl, hs9⟩
      obtain ⟨Y9, hI9⟩ := I7.out.tellY hs9
      have I9 := hid hI9
      clear hs9 hI9
      go_wp2_with fail
      go_roundw
      case rel => exact ⟨i + 1, R6, X8, Y9, doS S o, by go_num, by omega, I9.out⟩
      case measure => simp [intOf]; omega
    · go_wp2_with fail
      refine (copy_any d R S _ P0.out.dk).mono ?_
      rintro e w4 ⟨c, C4, rfl, hd4, hr4, hb4⟩
      have F4 : Hid (FourI w d x y c w4 R X Y C4 S S) := hid (by
        have h := P0.out.below hb4
        exact ⟨h.dk, h.xk, hd4, h.yk, h.rx, h.ry, fun k hk hx => by have := hr4 k hx; have := P0.out.dk.rlt k hk; omega, h.xy, fun k hk hx => by have := hr4 k hx; have := P0.out.xk.rlt k hk; omega, fun k hk hx => by have := hr4 k hx; have := P0.out.yk.rlt k hk; omega, h.ra, h.xa, h.ya, fun k hk => Nat.le_trans P0.out.be.size (hr4 k hk), h.be⟩)
      clear hd4 hr4 hb4 P0
      go_wp2_with fail
      clear hi hlt q0 q1 q2 q0' q1' q2'
      go_loopw [14] (fun iv wr => ∃ (i : Nat) (R X Y C : Nat → Prop) (S T : DS), iv = .int .i64 i ∧ i ≤ max es.length bs.length ∧ FourI w d x y c wr R X Y C S T) (fun iv _ => max es.length bs.length - (intOf iv).toNat)
      case atStart => exact ⟨0, _, _, _, _, _, _, rfl, Nat.zero_le _, F4.out⟩
      case round =>
        obtain ⟨i, R, X, Y, C, S, T, rfl, hi, hp⟩ := hrel
        clear F4
        have P4 := hid hp
        clear hp
        by_cases ha : (i : Int) < (es.length : Int)
        · by_cases hb : (i : Int) < (bs.length : Int)
          · have ha' : i < es.length := by omega
            have hao1 : ∃ ad, ao1 = some ad := by cases ao1 with | none => exact absurd (hnone1 rfl) (by omega) | some ad => exact ⟨ad, rfl⟩
            obtain ⟨ad1, rfl⟩ := hao1
            obtain ⟨ua, uc, g0, g1, g2, g3, g4⟩ := H1.out.get i ha'
            have HO := hid g4
            obtain ⟨o, ho⟩ : ∃ o, o = es[i] := ⟨_, rfl⟩
            rw [← ho] at g0 g1 g2 g3 HO
            have EA : Hid (∀ W, Below w.heap.size w W → W.cell? (ad1.add (i * 4)) = some (.int .i64 o.kind) ∧ W.cell? ⟨(ad1.add (i * 4)).block, (ad1.add (i * 4)).off + 1, none⟩ = some (.int .i64 o.n) ∧ W.cell? ⟨(ad1.add (i * 4)).block, (ad1.add (i * 4)).off + 2, none⟩ = some (.slice ua o.m.length uc) ∧ W.cell? ⟨(ad1.add (i * 4)).block, (ad1.add (i * 4)).off + 3, none⟩ = some (.int .u64 (o.t : Int))) := hid fun W hW => ⟨cell_later hW g0, cell_later hW g1, cell_later hW g2, cell_later hW g3⟩
            clear ho g0 g1 g2 g3 g4
            have hEE : (doE S o != doE S o) = false := by simp
            have ia : 0 ≤ (i : Int) ∧ (i : Int) < (es.length : Int) := by omega
            have hb' : i < bs.length := by omega
            have hao2 : ∃ ad, ao2 = some ad := by cases ao2 with | none => exact absurd (hnone2 rfl) (by omega) | some ad => exact ⟨ad, rfl⟩
            obtain ⟨ad2, rfl⟩ := hao2
            obtain ⟨ub, ud, g0, g1, g2, g3, g4⟩ := H2.out.get i hb'
            have HP := hid g4
            obtain ⟨p, ho⟩ : ∃ o, o = bs[i] := ⟨_, rfl⟩
            rw [← ho] at g0 g1 g2 g3 HP
            have EB : Hid (∀ W, Below w.heap.size w W → W.cell? (ad2.add (i * 4)) = some (.int .i64 p.kind) ∧ W.cell? ⟨(ad2.add (i * 4)).block, (ad2.add (i * 4)).off + 1, none⟩ = some (.int .i64 p.n) ∧ W.cell? ⟨(ad2.add (i * 4)).block, (ad2.add (i * 4)).off + 2, none⟩ = some (.slice ub p.m.length ud) ∧ W.cell? ⟨(ad2.add (i * 4)).block, (ad2.add (i * 4)).off + 3, none⟩ = some (.int .u64 (p.t : Int))) := hid fun W hW => ⟨cell_later hW g0, cell_later hW g1, cell_later hW g2, cell_later hW g3⟩
            clear ho g0 g1 g2 g3 g4
            have hPP : (doE T p != doE T p) = false := by simp
            have ib : 0 ≤ (i : Int) ∧ (i : Int) < (bs.length : Int) := by omega
            have FD := hid (P4.out.below ((Below.refl _ _).drew))
            have EE : Hid (∀ W, Below w.heap.size w W → (W.cell? (ad1.add (i * 4)) = some (.int .i64 o.kind) ∧ W.cell? ⟨(ad1.add (i * 4)).block, (ad1.add (i * 4)).off + 1, none⟩ = some (.int .i64 o.n) ∧ W.cell? ⟨(ad1.add (i * 4)).block, (ad1.add (i * 4)).off + 2, none⟩ = some (.slice ua o.m.length uc) ∧ W.cell? ⟨(ad1.add (i * 4)).block, (ad1.add (i * 4)).off + 3, none⟩ = some (.int .u64 (o.t : Int))) ∧ (W.cell? (ad2.add (i * 4)) = some (.int .i64 p.kind) ∧ W.cell? ⟨(ad2.add (i * 4)).block, (ad2.add (i * 4)).off + 1, none⟩ = some (.int .i64 p.n) ∧ W.cell? ⟨(ad2.add (i * 4)).block, (ad2.add (i * 4)).off + 2, none⟩ = some (.slice ub p.m.length ud) ∧ W.cell? ⟨(ad2.add (i * 4)).block, (ad2.add (i * 4)).off + 3, none⟩ = some (.int .u64 (p.t : Int)))) := hid fun W hW => ⟨EA.out W hW, EB.out W hW⟩
            go_wp2_with fail
            go_region_held3 (fun W => (W.cell? (ad1.add (i * 4)) = some (.int .i64 o.kind) ∧ W.cell? ⟨(ad1.add (i * 4)).block, (ad1.add (i * 4)).off + 1, none⟩ = some (.int .i64 o.n) ∧ W.cell? ⟨(ad1.add (i * 4)).block, (ad1.add (i * 4)).off + 2, none⟩ = some (.slice ua o.m.length uc) ∧ W.cell? ⟨(ad1.add (i * 4)).block, (ad1.add (i * 4)).off + 3, none⟩ = some (.int .u64 (o.t : Int))) ∧ (W.cell? (ad2.add (i * 4)) = some (.int .i64 p.kind) ∧ W.cell? ⟨(ad2.add (i * 4)).block, (ad2.add (i * 4)).off + 1, none⟩ = some (.int .i64 p.n) ∧ W.cell? ⟨(ad2.add (i * 4)).block, (ad2.add (i * 4)).off + 2, none⟩ = some (.slice ub p.m.length ud) ∧ W.cell? ⟨(ad2.add (i * 4)).block, (ad2.add (i * 4)).off + 3, none⟩ = some (.int .u64 (p.t : Int)))) (first | exact EE.out _ FD.out.be | exact EE.out _ B5.out | exact EE.out _ F7.out.be | exact EE.out _ B8.out | exact EE.out _ F9.out.be) (first | (go_at_call_of 17 (Value.pointer (some (Addr.mk d 0 none))); refine (do_any d R S o _ _ ?_ ?_).mono ?_; exact FD.out.dk; exact HO.out.below FD.out.be; rintro e w5 ⟨rfl, hs5⟩; obtain ⟨k5, b5, -⟩ := FD.out.doD (w2 := w5) hs5; have G5 := hid (fun W => (FD.out.doD (w2 := W) hs5).2.2); have K5 := hid k5; have B5 := hid b5; clear k5 b5 hs5) | (go_at_call_of 18 (Value.pointer (some (Addr.mk x 0 none))); refine (tell_any x X S o _ _ ?_ ?_).mono ?_; exact K5.out; exact HO.out.below B5.out; rintro e w7 ⟨rfl, hs7⟩; obtain ⟨R7, X7, f7⟩ := G5.out w7 hs7; have F7 := hid f7; have FC := hid f7; clear f7 hs7) | (go_at_call_of 17 (Value.pointer (some (Addr.mk c 0 none))); refine (do_any c C T p _ _ ?_ ?_).mono ?_; exact FC.out.ck; exact HP.out.below FC.out.be; rintro e w8 ⟨rfl, hs8⟩; obtain ⟨k8, b8, -⟩ := FC.out.doC (w2 := w8) hs8; have G8 := hid (fun W => (FC.out.doC (w2 := W) hs8).2.2); have K8 := hid k8; have B8 := hid b8; clear k8 b8 hs8) | (go_at_call_of 18 (Value.pointer (some (Addr.mk y 0 none))); refine (tell_any y Y T p _ _ ?_ ?_).mono ?_; exact K8.out; exact HP.out.below B8.out; rintro e w9 ⟨rfl, hs9⟩; obtain ⟨Y9, C9, f9⟩ := G8.out w9 hs9; have F9 := hid f9; clear f9 hs9))
            all_goals
              go_wp2_with fail
              go_roundw
              case rel => exact ⟨i + 1, R7, X7, Y9, C9, doS S o, doS T p, by go_num, by omega, F9.out⟩
              case measure => simp [intOf]; omega
          · have db : decide ((i : Int) < (bs.length : Int)) = false := by simp; omega
            have db2 : decide (i < bs.length) = false := by simp; omega
            have ha' : i < es.length := by omega
            have hao1 : ∃ ad, ao1 = some ad := by cases ao1 with | none => exact absurd (hnone1 rfl) (by omega) | some ad => exact ⟨ad, rfl⟩
            obtain ⟨ad1, rfl⟩ := hao1
            obtain ⟨ua, uc, g0, g1, g2, g3, g4⟩ := H1.out.get i ha'
            have HO := hid g4
            obtain ⟨o, ho⟩ : ∃ o, o = es[i] := ⟨_, rfl⟩
            rw [← ho] at g0 g1 g2 g3 HO
            have EA : Hid (∀ W, Below w.heap.size w W → W.cell? (ad1.add (i * 4)) = some (.int .i64 o.kind) ∧ W.cell? ⟨(ad1.add (i * 4)).block, (ad1.add (i * 4)).off + 1, none⟩ = some (.int .i64 o.n) ∧ W.cell? ⟨(ad1.add (i * 4)).block, (ad1.add (i * 4)).off + 2, none⟩ = some (.slice ua o.m.length uc) ∧ W.cell? ⟨(ad1.add (i * 4)).block, (ad1.add (i * 4)).off + 3, none⟩ = some (.int .u64 (o.t : Int))) := hid fun W hW => ⟨cell_later hW g0, cell_later hW g1, cell_later hW g2, cell_later hW g3⟩
            clear ho g0 g1 g2 g3 g4
            have hEE : (doE S o != doE S o) = false := by simp
            have ia : 0 ≤ (i : Int) ∧ (i : Int) < (es.length : Int) := by omega
            have FD := hid (P4.out.below ((Below.refl _ _).drew))
            clear hb
            go_wp2_with fail
            refine wp_region_held_drew (S := fun W => W.cell? (ad1.add (i * 4)) = some (.int .i64 o.kind) ∧ W.cell? ⟨(ad1.add (i * 4)).block, (ad1.add (i * 4)).off + 1, none⟩ = some (.int .i64 o.n) ∧ W.cell? ⟨(ad1.add (i * 4)).block, (ad1.add (i * 4)).off + 2, none⟩ = some (.slice ua o.m.length uc) ∧ W.cell? ⟨(ad1.add (i * 4)).block, (ad1.add (i * 4)).off + 3, none⟩ = some (.int .u64 (o.t : Int))) (by kernel_rfl) (EA.out _ FD.out.be) (fun hHeld => ?_)
            refine wpAnyH_take (i := 0) (v := ?av0) rfl (by kernel_rfl) (by kernel_rfl) (by kernel_rfl) (fun _ _ _ h => h) (Or.inl ⟨by rfl, ?ay0⟩) (by assumption) ?ar0
            case ay0 => (intro w hSw; (try dsimp only at hSw); go_simp; try with_reducible rfl)
            (try simp only [Act.put, List.setIfInBounds_toArray, List.set_cons_zero, List.set_cons_succ, List.getElem_toArray, List.getElem_cons_succ, List.getElem_cons_zero])
            refine wpAnyH_take (i := 1) (v := ?av1) rfl (by kernel_rfl) (by kernel_rfl) (by kernel_rfl) (fun _ _ _ h => h) (Or.inl ⟨by rfl, ?ay1⟩) (by assumption) ?ar1
            case ay1 => (intro w hSw; (try dsimp only at hSw); go_simp; try with_reducible rfl)
            (try simp only [Act.put, List.setIfInBounds_toArray, List.set_cons_zero, List.set_cons_succ, List.getElem_toArray, List.getElem_cons_succ, List.getElem_cons_zero])
            refine wpAnyH_take (i := 2) (v := ?av2) rfl (by kernel_rfl) (by kernel_rfl) (by kernel_rfl) (fun _ _ _ h => h) (Or.inl ⟨by rfl, ?ay2⟩) (by assumption) ?ar2
            case ay2 => (intro w hSw; (try dsimp only at hSw); go_simp; try with_reducible rfl)
            (try simp only [Act.put, List.setIfInBounds_toArray, List.set_cons_zero, List.set_cons_succ, List.getElem_toArray, List.getElem_cons_succ, List.getElem_cons_zero])
            refine wpAnyH_take (i := 3) (v := ?av3) rfl (by kernel_rfl) (by kernel_rfl) (by kernel_rfl) (fun _ _ _ h => h) (Or.inl ⟨by rfl, ?ay3⟩) (by assumption) ?ar3
            case ay3 => (intro w hSw; (try dsimp only at hSw); go_simp; try with_reducible rfl)
            (try simp only [Act.put, List.setIfInBounds_toArray, List.set_cons_zero, List.set_cons_succ, List.getElem_toArray, List.getElem_cons_succ, List.getElem_cons_zero])
            refine wpAnyH_take (i := 4) (v := ?av4) rfl (by kernel_rfl) (by kernel_rfl) (by kernel_rfl) (fun _ _ _ h => h) (Or.inl ⟨by rfl, ?ay4⟩) (by assumption) ?ar4
            case ay4 => (intro w hSw; (try dsimp only at hSw); go_simp; try with_reducible rfl)
            (try simp only [Act.put, List.setIfInBounds_toArray, List.set_cons_zero, List.set_cons_succ, List.getElem_toArray, List.getElem_cons_succ, List.getElem_cons_zero])
            refine wpAnyH_take (i := 5) (v := ?av5) rfl (by kernel_rfl) (by kernel_rfl) (by kernel_rfl) (fun _ _ _ h => h) (Or.inl ⟨by rfl, ?ay5⟩) (by assumption) ?ar5
            case ay5 => (intro w hSw; (try dsimp only at hSw); go_simp; try with_reducible rfl)
            (try simp only [Act.put, List.setIfInBounds_toArray, List.set_cons_zero, List.set_cons_succ, List.getElem_toArray, List.getElem_cons_succ, List.getElem_cons_zero])
            refine wpAnyH_take (i := 6) (v := ?av6) rfl (by kernel_rfl) (by kernel_rfl) (by kernel_rfl) (fun _ _ _ h => h) (Or.inl ⟨by rfl, ?ay6⟩) (by assumption) ?ar6
            case ay6 => (intro w hSw; (try dsimp only at hSw); go_simp; try with_reducible rfl)
            (try simp only [Act.put, List.setIfInBounds_toArray, List.set_cons_zero, List.set_cons_succ, List.getElem_toArray, List.getElem_cons_succ, List.getElem_cons_zero])
            refine wpAnyH_take (i := 7) (v := ?av7) rfl (by kernel_rfl) (by kernel_rfl) (by kernel_rfl) (fun _ _ _ h => h) (Or.inl ⟨by rfl, ?ay7⟩) (by assumption) ?ar7
            case ay7 => (intro w hSw; (try dsimp only at hSw); go_simp; try with_reducible rfl)
            (try simp only [Act.put, List.setIfInBounds_toArray, List.set_cons_zero, List.set_cons_succ, List.getElem_toArray, List.getElem_cons_succ, List.getElem_cons_zero])
            refine wpAnyH_take (i := 8) (v := ?av8) rfl (by kernel_rfl) (by kernel_rfl) (by kernel_rfl) (fun _ _ _ h => h) (Or.inl ⟨by rfl, ?ay8⟩) (by assumption) ?ar8
            case ay8 => (intro w hSw; (try dsimp only at hSw); go_simp; try with_reducible rfl)
            (try simp only [Act.put, List.setIfInBounds_toArray, List.set_cons_zero, List.set_cons_succ, List.getElem_toArray, List.getElem_cons_succ, List.getElem_cons_zero])
            refine wpAnyH_take (i := 9) (v := ?av9) rfl (by kernel_rfl) (by kernel_rfl) (by kernel_rfl) (fun _ _ _ h => h) (Or.inl ⟨by rfl, ?ay9⟩) (by assumption) ?ar9
            case ay9 => (intro w hSw; (try dsimp only at hSw); go_simp; try with_reducible rfl)
            (try simp only [Act.put, List.setIfInBounds_toArray, List.set_cons_zero, List.set_cons_succ, List.getElem_toArray, List.getElem_cons_succ, List.getElem_cons_zero])
            refine wpAnyH_take (i := 11) (v := ?av11) rfl (by kernel_rfl) (by kernel_rfl) (by kernel_rfl) (fun _ _ _ h => h) (Or.inl ⟨by rfl, ?ay11⟩) (by assumption) ?ar11
            case ay11 => (intro w hSw; (try dsimp only at hSw); go_simp; try with_reducible rfl)
            (try simp only [Act.put, List.setIfInBounds_toArray, List.set_cons_zero, List.set_cons_succ, List.getElem_toArray, List.getElem_cons_succ, List.getElem_cons_zero])
            refine wpAnyH_take (i := 12) (v := ?av12) rfl (by kernel_rfl) (by kernel_rfl) (by kernel_rfl) (fun _ _ _ h => h) (Or.inl ⟨by rfl, ?ay12⟩) (by assumption) ?ar12
            case ay12 => (intro w hSw; (try dsimp only at hSw); go_simp; try with_reducible rfl)
            (try simp only [Act.put, List.setIfInBounds_toArray, List.set_cons_zero, List.set_cons_succ, List.getElem_toArray, List.getElem_cons_succ, List.getElem_cons_zero])
            refine wpAnyH_take (i := 13) (v := ?av13) rfl (by kernel_rfl) (by kernel_rfl) (by kernel_rfl) (fun _ _ _ h => h) (Or.inl ⟨by rfl, ?ay13⟩) (by assumption) ?ar13
            case ay13 => (intro w hSw; (try dsimp only at hSw); go_simp; try with_reducible rfl)
            (try simp only [Act.put, List.setIfInBounds_toArray, List.set_cons_zero, List.set_cons_succ, List.getElem_toArray, List.getElem_cons_succ, List.getElem_cons_zero])
            refine wpAnyH_take (i := 14) (v := ?av14) rfl (by kernel_rfl) (by kernel_rfl) (by kernel_rfl) (fun _ _ _ h => h) (Or.inl ⟨by rfl, ?ay14⟩) (by assumption) ?ar14
            case ay14 => (intro w hSw; (try dsimp only at hSw); go_simp; try with_reducible rfl)
            (try simp only [Act.put, List.setIfInBounds_toArray, List.set_cons_zero, List.set_cons_succ, List.getElem_toArray, List.getElem_cons_succ, List.getElem_cons_zero])
            refine wpAnyH_take (i := 15) (v := ?av15) rfl (by kernel_rfl) (by kernel_rfl) (by kernel_rfl) (fun _ _ _ h => h) (Or.inl ⟨by rfl, ?ay15⟩) (by assumption) ?ar15
            case ay15 => (intro w hSw; (try dsimp only at hSw); go_simp; try with_reducible rfl)
            (try simp only [Act.put, List.setIfInBounds_toArray, List.set_cons_zero, List.set_cons_succ, List.getElem_toArray, List.getElem_cons_succ, List.getElem_cons_zero])
            refine wpAnyH_ready (rs := [10]) (by kernel_rfl) (by simp) ?_
            refine AllReadyH.cons rfl (fun K hK => ?_) AllReadyH.nil
            rw [if_pos (by rfl)]
            go_wp2_with (first | (go_at_call_of 17 (Value.pointer (some (Addr.mk d 0 none))); refine (do_any d R S o _ _ ?_ ?_).mono ?_; exact FD.out.dk; exact HO.out.below FD.out.be; rintro e w5 ⟨rfl, hs5⟩; obtain ⟨k5, b5, -⟩ := FD.out.doD (w2 := w5) hs5; have G5 := hid (fun W => (FD.out.doD (w2 := W) hs5).2.2); have K5 := hid k5; have B5 := hid b5; clear k5 b5 hs5))
            refine hK.out _ _ (EA.out _ B5.out) (fun hHeld => ?_)
            clear hK K
            (try simp only [Act.put, List.setIfInBounds_toArray, List.set_cons_zero, List.set_cons_succ, List.getElem_toArray, List.getElem_cons_succ, List.getElem_cons_zero])
            refine wpAnyH_ready (rs := [16]) (by kernel_rfl) (by simp) ?_
            refine AllReadyH.cons rfl (fun K hK => ?_) AllReadyH.nil
            rw [if_pos (by rfl)]
            go_wp2_with (first | (go_at_call_of 18 (Value.pointer (some (Addr.mk x 0 none))); refine (tell_any x X S o _ _ ?_ ?_).mono ?_; exact K5.out; exact HO.out.below B5.out; rintro e w7 ⟨rfl, hs7⟩; obtain ⟨R7, X7, f7⟩ := G5.out w7 hs7; have F7 := hid f7; clear f7 hs7))
            refine hK.out _ _ (EA.out _ F7.out.be) (fun hHeld => ?_)
            clear hK K
            (try simp only [Act.put, List.setIfInBounds_toArray, List.set_cons_zero, List.set_cons_succ, List.getElem_toArray, List.getElem_cons_succ, List.getElem_cons_zero])
            refine wpAnyH_take (i := 17) (v := ?av17) rfl (by kernel_rfl) (by kernel_rfl) (by kernel_rfl) (fun _ _ _ h => h) (Or.inl ⟨by rfl, ?ay17⟩) (by assumption) ?ar17
            case ay17 => (intro w hSw; (try dsimp only at hSw); go_simp; try with_reducible rfl)
            (try simp only [Act.put, List.setIfInBounds_toArray, List.set_cons_zero, List.set_cons_succ, List.getElem_toArray, List.getElem_cons_succ, List.getElem_cons_zero])
            refine wpAnyH_take (i := 18) (v := ?av18) rfl (by kernel_rfl) (by kernel_rfl) (by kernel_rfl) (fun _ _ _ h => h) (Or.inl ⟨by rfl, ?ay18⟩) (by assumption) ?ar18
            case ay18 => (intro w hSw; (try dsimp only at hSw); go_simp; try with_reducible rfl)
            (try simp only [Act.put, List.setIfInBounds_toArray, List.set_cons_zero, List.set_cons_succ, List.getElem_toArray, List.getElem_cons_succ, List.getElem_cons_zero])
            refine wpAnyH_take (i := 19) (v := ?av19) rfl (by kernel_rfl) (by kernel_rfl) (by kernel_rfl) (fun _ _ _ h => h) (Or.inl ⟨by rfl, ?ay19⟩) (by assumption) ?ar19
            case ay19 => (intro w hSw; (try dsimp only at hSw); go_simp; try with_reducible rfl)
            (try simp only [Act.put, List.setIfInBounds_toArray, List.set_cons_zero, List.set_cons_succ, List.getElem_toArray, List.getElem_cons_succ, List.getElem_cons_zero])
            refine wpAnyH_take (i := 20) (v := ?av20) rfl (by kernel_rfl) (by kernel_rfl) (by kernel_rfl) (fun _ _ _ h => h) (Or.inl ⟨by rfl, ?ay20⟩) (by assumption) ?ar20
            case ay20 => (intro w hSw; (try dsimp only at hSw); go_simp; try with_reducible rfl)
            (try simp only [Act.put, List.setIfInBounds_toArray, List.set_cons_zero, List.set_cons_succ, List.getElem_toArray, List.getElem_cons_succ, List.getElem_cons_zero])
            refine wpAnyH_take (i := 21) (v := ?av21) rfl (by kernel_rfl) (by kernel_rfl) (by kernel_rfl) (fun _ _ _ h => h) (Or.inl ⟨by rfl, ?ay21⟩) (by assumption) ?ar21
            case ay21 => (intro w hSw; (try dsimp only at hSw); go_simp; try with_reducible rfl)
            (try simp only [Act.put, List.setIfInBounds_toArray, List.set_cons_zero, List.set_cons_succ, List.getElem_toArray, List.getElem_cons_succ, List.getElem_cons_zero])
            refine wpAnyH_take (i := 22) (v := ?av22) rfl (by kernel_rfl) (by kernel_rfl) (by kernel_rfl) (fun _ _ _ h => h) (Or.inl ⟨by rfl, ?ay22⟩) (by assumption) ?ar22
            case ay22 => (intro w hSw; (try dsimp only at hSw); go_simp; try with_reducible rfl)
            (try simp only [Act.put, List.setIfInBounds_toArray, List.set_cons_zero, List.set_cons_succ, List.getElem_toArray, List.getElem_cons_succ, List.getElem_cons_zero])
            refine wpAnyH_take (i := 23) (v := ?av23) rfl (by kernel_rfl) (by kernel_rfl) (by kernel_rfl) (fun _ _ _ h => h) (Or.inl ⟨by rfl, ?ay23⟩) (by assumption) ?ar23
            case ay23 => (intro w hSw; (try dsimp only at hSw); go_simp; try with_reducible rfl)
            (try simp only [Act.put, List.setIfInBounds_toArray, List.set_cons_zero, List.set_cons_succ, List.getElem_toArray, List.getElem_cons_succ, List.getElem_cons_zero])
            refine wpAnyH_take (i := 24) (v := ?av24) rfl (by kernel_rfl) (by kernel_rfl) (by kernel_rfl) (fun _ _ _ h => h) (Or.inl ⟨by rfl, ?ay24⟩) (by assumption) ?ar24
            case ay24 => (intro w hSw; (try dsimp only at hSw); go_simp; try with_reducible rfl)
            (try simp only [Act.put, List.setIfInBounds_toArray, List.set_cons_zero, List.set_cons_succ, List.getElem_toArray, List.getElem_cons_succ, List.getElem_cons_zero])
            refine wpAnyH_take (i := 25) (v := undef) rfl (by kernel_rfl) (by kernel_rfl) (by kernel_rfl) (fun _ _ _ h => h) (Or.inr ⟨by rfl, rfl⟩) (by assumption) ?_
            (try simp only [Act.put, List.setIfInBounds_toArray, List.set_cons_zero, List.set_cons_succ, List.getElem_toArray, List.getElem_cons_succ, List.getElem_cons_zero])
            refine wpAnyH_take (i := 26) (v := undef) rfl (by kernel_rfl) (by kernel_rfl) (by kernel_rfl) (fun _ _ _ h => h) (Or.inr ⟨by rfl, rfl⟩) (by assumption) ?_
            (try simp only [Act.put, List.setIfInBounds_toArray, List.set_cons_zero, List.set_cons_succ, List.getElem_toArray, List.getElem_cons_succ, List.getElem_cons_zero])
            refine wpAnyH_take (i := 27) (v := undef) rfl (by kernel_rfl) (by kernel_rfl) (by kernel_rfl) (fun _ _ _ h => h) (Or.inr ⟨by rfl, rfl⟩) (by assumption) ?_
            (try simp only [Act.put, List.setIfInBounds_toArray, List.set_cons_zero, List.set_cons_succ, List.getElem_toArray, List.getElem_cons_succ, List.getElem_cons_zero])
            refine wpAnyH_take (i := 28) (v := undef) rfl (by kernel_rfl) (by kernel_rfl) (by kernel_rfl) (fun _ _ _ h => h) (Or.inr ⟨by rfl, rfl⟩) (by assumption) ?_
            (try simp only [Act.put, List.setIfInBounds_toArray, List.set_cons_zero, List.set_cons_succ, List.getElem_toArray, List.getElem_cons_succ, List.getElem_cons_zero])
            refine wpAnyH_take (i := 29) (v := undef) rfl (by kernel_rfl) (by kernel_rfl) (by kernel_rfl) (fun _ _ _ h => h) (Or.inr ⟨by rfl, rfl⟩) (by assumption) ?_
            (try simp only [Act.put, List.setIfInBounds_toArray, List.set_cons_zero, List.set_cons_succ, List.getElem_toArray, List.getElem_cons_succ, List.getElem_cons_zero])
            refine wpAnyH_take (i := 30) (v := undef) rfl (by kernel_rfl) (by kernel_rfl) (by kernel_rfl) (fun _ _ _ h => h) (Or.inr ⟨by rfl, rfl⟩) (by assumption) ?_
            (try simp only [Act.put, List.setIfInBounds_toArray, List.set_cons_zero, List.set_cons_succ, List.getElem_toArray, List.getElem_cons_succ, List.getElem_cons_zero])
            refine wpAnyH_take (i := 31) (v := undef) rfl (by kernel_rfl) (by kernel_rfl) (by kernel_rfl) (fun _ _ _ h => h) (Or.inr ⟨by rfl, rfl⟩) (by assumption) ?_
            (try simp only [Act.put, List.setIfInBounds_toArray, List.set_cons_zero, List.set_cons_succ, List.getElem_toArray, List.getElem_cons_succ, List.getElem_cons_zero])
            refine wpAnyH_take (i := 32) (v := undef) rfl (by kernel_rfl) (by kernel_rfl) (by kernel_rfl) (fun _ _ _ h => h) (Or.inr ⟨by rfl, rfl⟩) (by assumption) ?_
            (try simp only [Act.put, List.setIfInBounds_toArray, List.set_cons_zero, List.set_cons_succ, List.getElem_toArray, List.getElem_cons_succ, List.getElem_cons_zero])
            refine wpAnyH_take (i := 33) (v := undef) rfl (by kernel_rfl) (by kernel_rfl) (by kernel_rfl) (fun _ _ _ h => h) (Or.inr ⟨by rfl, rfl⟩) (by assumption) ?_
            (try simp only [Act.put, List.setIfInBounds_toArray, List.set_cons_zero, List.set_cons_succ, List.getElem_toArray, List.getElem_cons_succ, List.getElem_cons_zero])
            refine wpAnyH_take (i := 34) (v := undef) rfl (by kernel_rfl) (by kernel_rfl) (by kernel_rfl) (fun _ _ _ h => h) (Or.inr ⟨by rfl, rfl⟩) (by assumption) ?_
            (try simp only [Act.put, List.setIfInBounds_toArray, List.set_cons_zero, List.set_cons_succ, List.getElem_toArray, List.getElem_cons_succ, List.getElem_cons_zero])
            refine wpAnyH_take (i := 35) (v := undef) rfl (by kernel_rfl) (by kernel_rfl) (by kernel_rfl) (fun _ _ _ h => h) (Or.inr ⟨by rfl, rfl⟩) (by assumption) ?_
            (try simp only [Act.put, List.setIfInBounds_toArray, List.set_cons_zero, List.set_cons_succ, List.getElem_toArray, List.getElem_cons_succ, List.getElem_cons_zero])
            refine wpAnyH_take (i := 36) (v := undef) rfl (by kernel_rfl) (by kernel_rfl) (by kernel_rfl) (fun _ _ _ h => h) (Or.inr ⟨by rfl, rfl⟩) (by assumption) ?_
            (try simp only [Act.put, List.setIfInBounds_toArray, List.set_cons_zero, List.set_cons_succ, List.getElem_toArray, List.getElem_cons_succ, List.getElem_cons_zero])
            refine wpAnyH_take (i := 37) (v := undef) rfl (by kernel_rfl) (by kernel_rfl) (by kernel_rfl) (fun _ _ _ h => h) (Or.inr ⟨by rfl, rfl⟩) (by assumption) ?_
            (try simp only [Act.put, List.setIfInBounds_toArray, List.set_cons_zero, List.set_cons_succ, List.getElem_toArray, List.getElem_cons_succ, List.getElem_cons_zero])
            refine wpAnyH_take (i := 38) (v := ?av38) rfl (by kernel_rfl) (by kernel_rfl) (by kernel_rfl) (fun _ _ _ h => h) (Or.inl ⟨by rfl, ?ay38⟩) (by assumption) ?ar38
            case ay38 => (intro w hSw; (try dsimp only at hSw); go_simp; try with_reducible rfl)
            (try simp only [Act.put, List.setIfInBounds_toArray, List.set_cons_zero, List.set_cons_succ, List.getElem_toArray, List.getElem_cons_succ, List.getElem_cons_zero])
            refine wpAnyH_take (i := 39) (v := ?av39) rfl (by kernel_rfl) (by kernel_rfl) (by kernel_rfl) (fun _ _ _ h => h) (Or.inl ⟨by rfl, ?ay39⟩) (by assumption) ?ar39
            case ay39 => (intro w hSw; (try dsimp only at hSw); go_simp; try with_reducible rfl)
            (try simp only [Act.put, List.setIfInBounds_toArray, List.set_cons_zero, List.set_cons_succ, List.getElem_toArray, List.getElem_cons_succ, List.getElem_cons_zero])
            refine wpAnyH_done (by kernel_rfl) ?_ _
            go_wp2_with fail
            go_roundw
            case rel => exact ⟨i + 1, R7, X7, Y, C, doS S o, T, by go_num, by omega, F7.out⟩
            case measure => simp [intOf]; omega
        · by_cases hb : (i : Int) < (bs.length : Int)
          · have da : decide ((i : Int) < (es.length : Int)) = false := by simp; omega
            have da2 : decide (i < es.length) = false := by simp; omega
            have hb' : i < bs.length := by omega
            have hao2 : ∃ ad, ao2 = some ad := by cases ao2 with | none => exact absurd (hnone2 rfl) (by omega) | some ad => exact ⟨ad, rfl⟩
            obtain ⟨ad2, rfl⟩ := hao2
            obtain ⟨ub, ud, g0, g1, g2, g3, g4⟩ := H2.out.get i hb'
            have HP := hid g4
            obtain ⟨p, ho⟩ : ∃ o, o = bs[i] := ⟨_, rfl⟩
            rw [← ho] at g0 g1 g2 g3 HP
            have EB : Hid (∀ W, Below w.heap.size w W → W.cell? (ad2.add (i * 4)) = some (.int .i64 p.kind) ∧ W.cell? ⟨(ad2.add (i * 4)).block, (ad2.add (i * 4)).off + 1, none⟩ = some (.int .i64 p.n) ∧ W.cell? ⟨(ad2.add (i * 4)).block, (ad2.add (i * 4)).off + 2, none⟩ = some (.slice ub p.m.length ud) ∧ W.cell? ⟨(ad2.add (i * 4)).block, (ad2.add (i * 4)).off + 3, none⟩ = some (.int .u64 (p.t : Int))) := hid fun W hW => ⟨cell_later hW g0, cell_later hW g1, cell_later hW g2, cell_later hW g3⟩
            clear ho g0 g1 g2 g3 g4
            have hPP : (doE T p != doE T p) = false := by simp
            have ib : 0 ≤ (i : Int) ∧ (i : Int) < (bs.length : Int) := by omega
            have FC := hid (P4.out.below ((Below.refl _ _).drew))
            clear ha
            go_wp2_with fail
            refine wp_region_held_drew (S := fun W => W.cell? (ad2.add (i * 4)) = some (.int .i64 p.kind) ∧ W.cell? ⟨(ad2.add (i * 4)).block, (ad2.add (i * 4)).off + 1, none⟩ = some (.int .i64 p.n) ∧ W.cell? ⟨(ad2.add (i * 4)).block, (ad2.add (i * 4)).off + 2, none⟩ = some (.slice ub p.m.length ud) ∧ W.cell? ⟨(ad2.add (i * 4)).block, (ad2.add (i * 4)).off + 3, none⟩ = some (.int .u64 (p.t : Int))) (by kernel_rfl) (EB.out _ FC.out.be) (fun hHeld => ?_)
            refine wpAnyH_take (i := 0) (v := ?cv0) rfl (by kernel_rfl) (by kernel_rfl) (by kernel_rfl) (fun _ _ _ h => h) (Or.inl ⟨by rfl, ?cy0⟩) (by assumption) ?cr0
            case cy0 => (intro w hSw; (try dsimp only at hSw); go_simp; try with_reducible rfl)
            (try simp only [Act.put, List.setIfInBounds_toArray, List.set_cons_zero, List.set_cons_succ, List.getElem_toArray, List.getElem_cons_succ, List.getElem_cons_zero])
            refine wpAnyH_take (i := 1) (v := ?cv1) rfl (by kernel_rfl) (by kernel_rfl) (by kernel_rfl) (fun _ _ _ h => h) (Or.inl ⟨by rfl, ?cy1⟩) (by assumption) ?cr1
            case cy1 => (intro w hSw; (try dsimp only at hSw); go_simp; try with_reducible rfl)
            (try simp only [Act.put, List.setIfInBounds_toArray, List.set_cons_zero, List.set_cons_succ, List.getElem_toArray, List.getElem_cons_succ, List.getElem_cons_zero])
            refine wpAnyH_take (i := 2) (v := ?cv2) rfl (by kernel_rfl) (by kernel_rfl) (by kernel_rfl) (fun _ _ _ h => h) (Or.inl ⟨by rfl, ?cy2⟩) (by assumption) ?cr2
            case cy2 => (intro w hSw; (try dsimp only at hSw); go_simp; try with_reducible rfl)
            (try simp only [Act.put, List.setIfInBounds_toArray, List.set_cons_zero, List.set_cons_succ, List.getElem_toArray, List.getElem_cons_succ, List.getElem_cons_zero])
            refine wpAnyH_take (i := 3) (v := ?cv3) rfl (by kernel_rfl) (by kernel_rfl) (by kernel_rfl) (fun _ _ _ h => h) (Or.inl ⟨by rfl, ?cy3⟩) (by assumption) ?cr3
            case cy3 => (intro w hSw; (try dsimp only at hSw); go_simp; try with_reducible rfl)
            (try simp only [Act.put, List.setIfInBounds_toArray, List.set_cons_zero, List.set_cons_succ, List.getElem_toArray, List.getElem_cons_succ, List.getElem_cons_zero])
            refine wpAnyH_take (i := 4) (v := ?cv4) rfl (by kernel_rfl) (by kernel_rfl) (by kernel_rfl) (fun _ _ _ h => h) (Or.inl ⟨by rfl, ?cy4⟩) (by assumption) ?cr4
            case cy4 => (intro w hSw; (try dsimp only at hSw); go_simp; try with_reducible rfl)
            (try simp only [Act.put, List.setIfInBounds_toArray, List.set_cons_zero, List.set_cons_succ, List.getElem_toArray, List.getElem_cons_succ, List.getElem_cons_zero])
            refine wpAnyH_take (i := 5) (v := undef) rfl (by kernel_rfl) (by kernel_rfl) (by kernel_rfl) (fun _ _ _ h => h) (Or.inr ⟨by rfl, rfl⟩) (by assumption) ?_
            (try simp only [Act.put, List.setIfInBounds_toArray, List.set_cons_zero, List.set_cons_succ, List.getElem_toArray, List.getElem_cons_succ, List.getElem_cons_zero])
            refine wpAnyH_take (i := 6) (v := undef) rfl (by kernel_rfl) (by kernel_rfl) (by kernel_rfl) (fun _ _ _ h => h) (Or.inr ⟨by rfl, rfl⟩) (by assumption) ?_
            (try simp only [Act.put, List.setIfInBounds_toArray, List.set_cons_zero, List.set_cons_succ, List.getElem_toArray, List.getElem_cons_succ, List.getElem_cons_zero])
            refine wpAnyH_take (i := 7) (v := undef) rfl (by kernel_rfl) (by kernel_rfl) (by kernel_rfl) (fun _ _ _ h => h) (Or.inr ⟨by rfl, rfl⟩) (by assumption) ?_
            (try simp only [Act.put, List.setIfInBounds_toArray, List.set_cons_zero, List.set_cons_succ, List.getElem_toArray, List.getElem_cons_succ, List.getElem_cons_zero])
            refine wpAnyH_take (i := 8) (v := undef) rfl (by kernel_rfl) (by kernel_rfl) (by kernel_rfl) (fun _ _ _ h => h) (Or.inr ⟨by rfl, rfl⟩) (by assumption) ?_
            (try simp only [Act.put, List.setIfInBounds_toArray, List.set_cons_zero, List.set_cons_succ, List.getElem_toArray, List.getElem_cons_succ, List.getElem_cons_zero])
            refine wpAnyH_take (i := 9) (v := undef) rfl (by kernel_rfl) (by kernel_rfl) (by kernel_rfl) (fun _ _ _ h => h) (Or.inr ⟨by rfl, rfl⟩) (by assumption) ?_
            (try simp only [Act.put, List.setIfInBounds_toArray, List.set_cons_zero, List.set_cons_succ, List.getElem_toArray, List.getElem_cons_succ, List.getElem_cons_zero])
            refine wpAnyH_take (i := 10) (v := undef) rfl (by kernel_rfl) (by kernel_rfl) (by kernel_rfl) (fun _ _ _ h => h) (Or.inr ⟨by rfl, rfl⟩) (by assumption) ?_
            (try simp only [Act.put, List.setIfInBounds_toArray, List.set_cons_zero, List.set_cons_succ, List.getElem_toArray, List.getElem_cons_succ, List.getElem_cons_zero])
            refine wpAnyH_take (i := 11) (v := undef) rfl (by kernel_rfl) (by kernel_rfl) (by kernel_rfl) (fun _ _ _ h => h) (Or.inr ⟨by rfl, rfl⟩) (by assumption) ?_
            (try simp only [Act.put, List.setIfInBounds_toArray, List.set_cons_zero, List.set_cons_succ, List.getElem_toArray, List.getElem_cons_succ, List.getElem_cons_zero])
            refine wpAnyH_take (i := 12) (v := undef) rfl (by kernel_rfl) (by kernel_rfl) (by kernel_rfl) (fun _ _ _ h => h) (Or.inr ⟨by rfl, rfl⟩) (by assumption) ?_
            (try simp only [Act.put, List.setIfInBounds_toArray, List.set_cons_zero, List.set_cons_succ, List.getElem_toArray, List.getElem_cons_succ, List.getElem_cons_zero])
            refine wpAnyH_take (i := 13) (v := undef) rfl (by kernel_rfl) (by kernel_rfl) (by kernel_rfl) (fun _ _ _ h => h) (Or.inr ⟨by rfl, rfl⟩) (by assumption) ?_
            (try simp only [Act.put, List.setIfInBounds_toArray, List.set_cons_zero, List.set_cons_succ, List.getElem_toArray, List.getElem_cons_succ, List.getElem_cons_zero])
            refine wpAnyH_take (i := 14) (v := undef) rfl (by kernel_rfl) (by kernel_rfl) (by kernel_rfl) (fun _ _ _ h => h) (Or.inr ⟨by rfl, rfl⟩) (by assumption) ?_
            (try simp only [Act.put, List.setIfInBounds_toArray, List.set_cons_zero, List.set_cons_succ, List.getElem_toArray, List.getElem_cons_succ, List.getElem_cons_zero])
            refine wpAnyH_take (i := 15) (v := undef) rfl (by kernel_rfl) (by kernel_rfl) (by kernel_rfl) (fun _ _ _ h => h) (Or.inr ⟨by rfl, rfl⟩) (by assumption) ?_
            (try simp only [Act.put, List.setIfInBounds_toArray, List.set_cons_zero, List.set_cons_succ, List.getElem_toArray, List.getElem_cons_succ, List.getElem_cons_zero])
            refine wpAnyH_take (i := 16) (v := undef) rfl (by kernel_rfl) (by kernel_rfl) (by kernel_rfl) (fun _ _ _ h => h) (Or.inr ⟨by rfl, rfl⟩) (by assumption) ?_
            (try simp only [Act.put, List.setIfInBounds_toArray, List.set_cons_zero, List.set_cons_succ, List.getElem_toArray, List.getElem_cons_succ, List.getElem_cons_zero])
            refine wpAnyH_take (i := 17) (v := undef) rfl (by kernel_rfl) (by kernel_rfl) (by kernel_rfl) (fun _ _ _ h => h) (Or.inr ⟨by rfl, rfl⟩) (by assumption) ?_
            (try simp only [Act.put, List.setIfInBounds_toArray, List.set_cons_zero, List.set_cons_succ, List.getElem_toArray, List.getElem_cons_succ, List.getElem_cons_zero])
            refine wpAnyH_take (i := 18) (v := ?cv18) rfl (by kernel_rfl) (by kernel_rfl) (by kernel_rfl) (fun _ _ _ h => h) (Or.inl ⟨by rfl, ?cy18⟩) (by assumption) ?cr18
            case cy18 => (intro w hSw; (try dsimp only at hSw); go_simp; try with_reducible rfl)
            (try simp only [Act.put, List.setIfInBounds_toArray, List.set_cons_zero, List.set_cons_succ, List.getElem_toArray, List.getElem_cons_succ, List.getElem_cons_zero])
            refine wpAnyH_take (i := 19) (v := ?cv19) rfl (by kernel_rfl) (by kernel_rfl) (by kernel_rfl) (fun _ _ _ h => h) (Or.inl ⟨by rfl, ?cy19⟩) (by assumption) ?cr19
            case cy19 => (intro w hSw; (try dsimp only at hSw); go_simp; try with_reducible rfl)
            (try simp only [Act.put, List.setIfInBounds_toArray, List.set_cons_zero, List.set_cons_succ, List.getElem_toArray, List.getElem_cons_succ, List.getElem_cons_zero])
            refine wpAnyH_take (i := 20) (v := ?cv20) rfl (by kernel_rfl) (by kernel_rfl) (by kernel_rfl) (fun _ _ _ h => h) (Or.inl ⟨by rfl, ?cy20⟩) (by assumption) ?cr20
            case cy20 => (intro w hSw; (try dsimp only at hSw); go_simp; try with_reducible rfl)
            (try simp only [Act.put, List.setIfInBounds_toArray, List.set_cons_zero, List.set_cons_succ, List.getElem_toArray, List.getElem_cons_succ, List.getElem_cons_zero])
            refine wpAnyH_take (i := 21) (v := ?cv21) rfl (by kernel_rfl) (by kernel_rfl) (by kernel_rfl) (fun _ _ _ h => h) (Or.inl ⟨by rfl, ?cy21⟩) (by assumption) ?cr21
            case cy21 => (intro w hSw; (try dsimp only at hSw); go_simp; try with_reducible rfl)
            (try simp only [Act.put, List.setIfInBounds_toArray, List.set_cons_zero, List.set_cons_succ, List.getElem_toArray, List.getElem_cons_succ, List.getElem_cons_zero])
            refine wpAnyH_take (i := 22) (v := ?cv22) rfl (by kernel_rfl) (by kernel_rfl) (by kernel_rfl) (fun _ _ _ h => h) (Or.inl ⟨by rfl, ?cy22⟩) (by assumption) ?cr22
            case cy22 => (intro w hSw; (try dsimp only at hSw); go_simp; try with_reducible rfl)
            (try simp only [Act.put, List.setIfInBounds_toArray, List.set_cons_zero, List.set_cons_succ, List.getElem_toArray, List.getElem_cons_succ, List.getElem_cons_zero])
            refine wpAnyH_take (i := 23) (v := ?cv23) rfl (by kernel_rfl) (by kernel_rfl) (by kernel_rfl) (fun _ _ _ h => h) (Or.inl ⟨by rfl, ?cy23⟩) (by assumption) ?cr23
            case cy23 => (intro w hSw; (try dsimp only at hSw); go_simp; try with_reducible rfl)
            (try simp only [Act.put, List.setIfInBounds_toArray, List.set_cons_zero, List.set_cons_succ, List.getElem_toArray, List.getElem_cons_succ, List.getElem_cons_zero])
            refine wpAnyH_take (i := 24) (v := ?cv24) rfl (by kernel_rfl) (by kernel_rfl) (by kernel_rfl) (fun _ _ _ h => h) (Or.inl ⟨by rfl, ?cy24⟩) (by assumption) ?cr24
            case cy24 => (intro w hSw; (try dsimp only at hSw); go_simp; try with_reducible rfl)
            (try simp only [Act.put, List.setIfInBounds_toArray, List.set_cons_zero, List.set_cons_succ, List.getElem_toArray, List.getElem_cons_succ, List.getElem_cons_zero])
            refine wpAnyH_take (i := 25) (v := ?cv25) rfl (by kernel_rfl) (by kernel_rfl) (by kernel_rfl) (fun _ _ _ h => h) (Or.inl ⟨by rfl, ?cy25⟩) (by assumption) ?cr25
            case cy25 => (intro w hSw; (try dsimp only at hSw); go_simp; try with_reducible rfl)
            (try simp only [Act.put, List.setIfInBounds_toArray, List.set_cons_zero, List.set_cons_succ, List.getElem_toArray, List.getElem_cons_succ, List.getElem_cons_zero])
            refine wpAnyH_take (i := 26) (v := ?cv26) rfl (by kernel_rfl) (by kernel_rfl) (by kernel_rfl) (fun _ _ _ h => h) (Or.inl ⟨by rfl, ?cy26⟩) (by assumption) ?cr26
            case cy26 => (intro w hSw; (try dsimp only at hSw); go_simp; try with_reducible rfl)
            (try simp only [Act.put, List.setIfInBounds_toArray, List.set_cons_zero, List.set_cons_succ, List.getElem_toArray, List.getElem_cons_succ, List.getElem_cons_zero])
            refine wpAnyH_take (i := 27) (v := ?cv27) rfl (by kernel_rfl) (by kernel_rfl) (by kernel_rfl) (fun _ _ _ h => h) (Or.inl ⟨by rfl, ?cy27⟩) (by assumption) ?cr27
            case cy27 => (intro w hSw; (try dsimp only at hSw); go_simp; try with_reducible rfl)
            (try simp only [Act.put, List.setIfInBounds_toArray, List.set_cons_zero, List.set_cons_succ, List.getElem_toArray, List.getElem_cons_succ, List.getElem_cons_zero])
            refine wpAnyH_take (i := 28) (v := ?cv28) rfl (by kernel_rfl) (by kernel_rfl) (by kernel_rfl) (fun _ _ _ h => h) (Or.inl ⟨by rfl, ?cy28⟩) (by assumption) ?cr28
            case cy28 => (intro w hSw; (try dsimp only at hSw); go_simp; try with_reducible rfl)
            (try simp only [Act.put, List.setIfInBounds_toArray, List.set_cons_zero, List.set_cons_succ, List.getElem_toArray, List.getElem_cons_succ, List.getElem_cons_zero])
            refine wpAnyH_take (i := 29) (v := ?cv29) rfl (by kernel_rfl) (by kernel_rfl) (by kernel_rfl) (fun _ _ _ h => h) (Or.inl ⟨by rfl, ?cy29⟩) (by assumption) ?cr29
            case cy29 => (intro w hSw; (try dsimp only at hSw); go_simp; try with_reducible rfl)
            (try simp only [Act.put, List.setIfInBounds_toArray, List.set_cons_zero, List.set_cons_succ, List.getElem_toArray, List.getElem_cons_succ, List.getElem_cons_zero])
            refine wpAnyH_take (i := 31) (v := ?cv31) rfl (by kernel_rfl) (by kernel_rfl) (by kernel_rfl) (fun _ _ _ h => h) (Or.inl ⟨by rfl, ?cy31⟩) (by assumption) ?cr31
            case cy31 => (intro w hSw; (try dsimp only at hSw); go_simp; try with_reducible rfl)
            (try simp only [Act.put, List.setIfInBounds_toArray, List.set_cons_zero, List.set_cons_succ, List.getElem_toArray, List.getElem_cons_succ, List.getElem_cons_zero])
            refine wpAnyH_take (i := 32) (v := ?cv32) rfl (by kernel_rfl) (by kernel_rfl) (by kernel_rfl) (fun _ _ _ h => h) (Or.inl ⟨by rfl, ?cy32⟩) (by assumption) ?cr32
            case cy32 => (intro w hSw; (try dsimp only at hSw); go_simp; try with_reducible rfl)
            (try simp only [Act.put, List.setIfInBounds_toArray, List.set_cons_zero, List.set_cons_succ, List.getElem_toArray, List.getElem_cons_succ, List.getElem_cons_zero])
            refine wpAnyH_take (i := 33) (v := ?cv33) rfl (by kernel_rfl) (by kernel_rfl) (by kernel_rfl) (fun _ _ _ h => h) (Or.inl ⟨by rfl, ?cy33⟩) (by assumption) ?cr33
            case cy33 => (intro w hSw; (try dsimp only at hSw); go_simp; try with_reducible rfl)
            (try simp only [Act.put, List.setIfInBounds_toArray, List.set_cons_zero, List.set_cons_succ, List.getElem_toArray, List.getElem_cons_succ, List.getElem_cons_zero])
            refine wpAnyH_take (i := 34) (v := ?cv34) rfl (by kernel_rfl) (by kernel_rfl) (by kernel_rfl) (fun _ _ _ h => h) (Or.inl ⟨by rfl, ?cy34⟩) (by assumption) ?cr34
            case cy34 => (intro w hSw; (try dsimp only at hSw); go_simp; try with_reducible rfl)
            (try simp only [Act.put, List.setIfInBounds_toArray, List.set_cons_zero, List.set_cons_succ, List.getElem_toArray, List.getElem_cons_succ, List.getElem_cons_zero])
            refine wpAnyH_take (i := 35) (v := ?cv35) rfl (by kernel_rfl) (by kernel_rfl) (by kernel_rfl) (fun _ _ _ h => h) (Or.inl ⟨by rfl, ?cy35⟩) (by assumption) ?cr35
            case cy35 => (intro w hSw; (try dsimp only at hSw); go_simp; try with_reducible rfl)
            (try simp only [Act.put, List.setIfInBounds_toArray, List.set_cons_zero, List.set_cons_succ, List.getElem_toArray, List.getElem_cons_succ, List.getElem_cons_zero])
            refine wpAnyH_ready (rs := [30]) (by kernel_rfl) (by simp) ?_
            refine AllReadyH.cons rfl (fun K hK => ?_) AllReadyH.nil
            rw [if_pos (by rfl)]
            go_wp2_with (first | (go_at_call_of 17 (Value.pointer (some (Addr.mk c 0 none))); refine (do_any c C T p _ _ ?_ ?_).mono ?_; exact FC.out.ck; exact HP.out.below FC.out.be; rintro e w8 ⟨rfl, hs8⟩; obtain ⟨k8, b8, -⟩ := FC.out.doC (w2 := w8) hs8; have G8 := hid (fun W => (FC.out.doC (w2 := W) hs8).2.2); have K8 := hid k8; have B8 := hid b8; clear k8 b8 hs8))
            refine hK.out _ _ (EB.out _ B8.out) (fun hHeld => ?_)
            clear hK K
            (try simp only [Act.put, List.setIfInBounds_toArray, List.set_cons_zero, List.set_cons_succ, List.getElem_toArray, List.getElem_cons_succ, List.getElem_cons_zero])
            refine wpAnyH_ready (rs := [36]) (by kernel_rfl) (by simp) ?_
            refine AllReadyH.cons rfl (fun K hK => ?_) AllReadyH.nil
            rw [if_pos (by rfl)]
            go_wp2_with (first | (go_at_call_of 18 (Value.pointer (some (Addr.mk y 0 none))); refine (tell_any y Y T p _ _ ?_ ?_).mono ?_; exact K8.out; exact HP.out.below B8.out; rintro e w9 ⟨rfl, hs9⟩; obtain ⟨Y9, C9, f9⟩ := G8.out w9 hs9; have F9 := hid f9; clear f9 hs9))
            refine hK.out _ _ (EB.out _ F9.out.be) (fun hHeld => ?_)
            clear hK K
            (try simp only [Act.put, List.setIfInBounds_toArray, List.set_cons_zero, List.set_cons_succ, List.getElem_toArray, List.getElem_cons_succ, List.getElem_cons_zero])
            refine wpAnyH_take (i := 37) (v := ?cv37) rfl (by kernel_rfl) (by kernel_rfl) (by kernel_rfl) (fun _ _ _ h => h) (Or.inl ⟨by rfl, ?cy37⟩) (by assumption) ?cr37
            case cy37 => (intro w hSw; (try dsimp only at hSw); go_simp; try with_reducible rfl)
            (try simp only [Act.put, List.setIfInBounds_toArray, List.set_cons_zero, List.set_cons_succ, List.getElem_toArray, List.getElem_cons_succ, List.getElem_cons_zero])
            refine wpAnyH_take (i := 38) (v := ?cv38) rfl (by kernel_rfl) (by kernel_rfl) (by kernel_rfl) (fun _ _ _ h => h) (Or.inl ⟨by rfl, ?cy38⟩) (by assumption) ?cr38
            case cy38 => (intro w hSw; (try dsimp only at hSw); go_simp; try with_reducible rfl)
            (try simp only [Act.put, List.setIfInBounds_toArray, List.set_cons_zero, List.set_cons_succ, List.getElem_toArray, List.getElem_cons_succ, List.getElem_cons_zero])
            refine wpAnyH_take (i := 39) (v := ?cv39) rfl (by kernel_rfl) (by kernel_rfl) (by kernel_rfl) (fun _ _ _ h => h) (Or.inl ⟨by rfl, ?cy39⟩) (by assumption) ?cr39
            case cy39 => (intro w hSw; (try dsimp only at hSw); go_simp; try with_reducible rfl)
            (try simp only [Act.put, List.setIfInBounds_toArray, List.set_cons_zero, List.set_cons_succ, List.getElem_toArray, List.getElem_cons_succ, List.getElem_cons_zero])
            refine wpAnyH_done (by kernel_rfl) ?_ _
            go_wp2_with fail
            go_roundw
            case rel => exact ⟨i + 1, R, X, Y9, C9, S, doS T p, by go_num, by omega, F9.out⟩
            case measure => simp [intOf]; omega
          · have da : decide ((i : Int) < (es.length : Int)) = false := by simp; omega
            have db : decide ((i : Int) < (bs.length : Int)) = false := by simp; omega
            have da2 : decide (i < es.length) = false := by simp; omega
            have db2 : decide (i < bs.length) = false := by simp; omega
            go_wp2_with fail
            refine (same_any d x R X S _ P4.out.dk P4.out.xk).mono ?_
            rintro e w20 ⟨rfl, hb20⟩
            have P20 := hid (P4.out.below hb20)
            clear hb20
            go_wp2_with fail
            refine (same_any c y C Y T _ P20.out.ck P20.out.yk).mono ?_
            rintro e w21 ⟨rfl, hb21⟩
            have P21 := hid (P20.out.below hb21)
            clear hb21
            go_wp2_with (go_at_call 6; refine (lives_any _).mono ?_; rintro e w22 ⟨rfl, hb22⟩; have HB := hid hb22; clear hb22)
            go_ret
            exact ⟨rfl, P21.out.be.trans (HB.out.mono P21.out.be.size)⟩
end Go.Proofs.Ytengonfilmhaoab
