/- DiskPrefix answers true for any Ops and any numbers; nothing that was there has turned. -/
import Derived.Test.YtengonfilmhaoaaDkFull
namespace Go.Proofs.Ytengonfilmhaoaa
open Go.RowKit

/-- A row of the program's own, outside the device's blocks R. -/
structure Keeps (w : World) (R : Nat → Prop) (v : Value) (l : List UInt8) : Prop where
  own : Own w 0 v l
  out : Out R v
theorem Keeps.nil (w : World) (R : Nat → Prop) : Keeps w R (.slice none 0 0) [] := ⟨Own.nil _ _, fun k hk => by cases hk⟩
theorem Keeps.step {w w' : World} {R R' : Nat → Prop} {v : Value} {l : List UInt8} (h : Keeps w R v l) (t : But R w w') (r : ∀ k, R' k → R k ∨ w.heap.size ≤ k) : Keeps w' R' v l :=
  ⟨h.own.but t h.out, fun k hk hr => by rcases r k hr with h' | h' <;> first | exact h.out k hk h' | (have := (h.own.lt k hk).2; omega)⟩
theorem Keeps.below {w w' : World} {R : Nat → Prop} {v : Value} {l : List UInt8} (h : Keeps w R v l) (hb : Below w.heap.size w w') : Keeps w' R v l := ⟨h.own.below hb, h.out⟩
theorem Keeps.fresh {w : World} {n : Nat} {R : Nat → Prop} {v : Value} {l : List UInt8} (h : Own w n v l) (hr : ∀ k, R k → k < n) : Keeps w R v l :=
  ⟨h.lower (Nat.zero_le _), fun k hk hk' => by have := (h.lt k hk).1; have := hr k hk'; omega⟩
/-- Another row has grown. -/
theorem Keeps.other {w w' : World} {R : Nat → Prop} {v u : Value} {l : List UInt8} (h : Keeps w R v l) (hg : w.grownBy w' u.ownBlock) (hne : ∀ k, v.ownBlock = some k → u.ownBlock ≠ some k) : Keeps w' R v l :=
  ⟨h.own.blk fun k hk => hg.block k (h.own.lt k hk).2 (fun e => hne k hk e.symm), h.out⟩
theorem Dk.other {w w' : World} {b : Nat} {R : Nat → Prop} {S : DS} {u : Value} (h : Dk w b R S) (hg : w.grownBy w' u.ownBlock) (ho : Out R u) : Dk w' b R S := by
  obtain ⟨_, _, _, d⟩ := h
  exact (d.same (fun k hk => hg.block k (d.rlt k hk) (fun e => ho k e.symm hk)) (fun _ h => h) (fun k hk => Nat.lt_of_lt_of_le (d.rlt k hk) hg.size)).dk
/-- What holds at a round's head: the device, what was laid, the last image, what was staged, and how much is sure. -/
structure PreI (w : World) (d : Nat) (wr : World) (R : Nat → Prop) (S : DS) (va vi vg : Value) (A I G : List UInt8) (s : Nat) : Prop where
  dk : Dk wr d R S
  ab : ∀ k, R k → w.heap.size ≤ k
  be : Below w.heap.size w wr
  ka : Keeps wr R va A
  ki : Keeps wr R vi I
  kg : Keeps wr R vg G
  pre : S.log <+: A
  su : S.sure = s
  im : S.image = I
  on : S.off = false → S.log = A ∧ (S.staged = true → S.stage = G)
theorem PreI.below {w wr wr' : World} {d : Nat} {R : Nat → Prop} {S : DS} {va vi vg : Value} {A I G : List UInt8} {s : Nat} (h : PreI w d wr R S va vi vg A I G s) (hb : Below wr.heap.size wr wr') : PreI w d wr' R S va vi vg A I G s :=
  ⟨h.dk.below hb, h.ab, h.be.trans (hb.mono h.be.size), h.ka.below hb, h.ki.below hb, h.kg.below hb, h.pre, h.su, h.im, h.on⟩
/-- A write that is not refused. -/
theorem write_ok {S S1 S0 : DS} {er : Int} (ho : S.off = false) (h : writeE S er = 0) : er = 0 ∧ writeS S S1 S0 = { S1 with left := max (S1.left - 1) (-1) } := by
  unfold writeE at h
  unfold writeS
  by_cases hl : S.left = 0
  · simp [ho, hl] at h
  · simp only [ho, Bool.false_eq_true, if_false, if_neg hl] at h ⊢
    exact ⟨h, trivial⟩
theorem write_no {S S1 : DS} {er : Int} (ho : S.off = false) (hb : er ≠ 0 → S1 = S) (h : writeE S er ≠ 0) : (writeS S S1 S).log = S.log ∧ (writeS S S1 S).sure = S.sure ∧ (writeS S S1 S).image = S.image ∧ (writeS S S1 S).staged = S.staged ∧ (writeS S S1 S).stage = S.stage := by
  unfold writeE at h
  unfold writeS
  by_cases hl : S.left = 0
  · simp [ho, hl]
  · simp only [ho, Bool.false_eq_true, if_false, if_neg hl] at h ⊢
    rw [hb h]; exact ⟨rfl, rfl, rfl, rfl, rfl⟩
theorem kind_in (o : OpD) : o.kind = 1 ∨ o.kind = 2 ∨ o.kind = 3 ∨ o.kind = 4 ∨ o.kind = 5 ∨ (o.kind < 1 ∨ 5 < o.kind) := by omega
/-- A call that changes nothing of what is laid. -/
theorem quiet_keeps (S : DS) (o : OpD) (ho : S.off = false) (h7 : o.kind ≠ 7) (h1 : o.kind = 1 → doE S o ≠ 0 ∧ doE S o ≠ 6) (h2 : 2 ≤ o.kind → o.kind ≤ 5 → doE S o ≠ 0) :
    (doS S o).log = S.log ∧ (doS S o).sure = S.sure ∧ (doS S o).image = S.image ∧ (doS S o).staged = S.staged ∧ (doS S o).stage = S.stage := by
  rcases kind_in o with k | k | k | k | k | k
  · obtain ⟨h, h6⟩ := h1 k
    unfold doE at h h6; unfold doS
    rw [if_pos k] at h h6 ⊢
    have hl : S.left ≠ 0 := fun hl => h6 (by unfold writeE; simp [ho, hl])
    have he : layE S (opL o) ≠ 0 := fun he => h (by unfold writeE; simp [ho, hl, he])
    rw [lay_bad he]
    exact write_no ho (fun _ => rfl) h
  · have h := h2 (by omega) (by omega)
    unfold doE at h; unfold doS
    rw [if_neg (by omega), if_pos k] at h ⊢
    exact write_no ho (fun h => absurd rfl h) h
  · have h := h2 (by omega) (by omega)
    unfold doE at h; unfold doS
    rw [if_neg (by omega), if_neg (by omega), if_pos k] at h ⊢
    exact write_no ho cut_bad h
  · have h := h2 (by omega) (by omega)
    unfold doE at h; unfold doS
    rw [if_neg (by omega), if_neg (by omega), if_neg (by omega), if_pos k] at h ⊢
    exact write_no ho stage_bad h
  · have h := h2 (by omega) (by omega)
    unfold doE at h; unfold doS
    rw [if_neg (by omega), if_neg (by omega), if_neg (by omega), if_neg (by omega), if_pos k] at h ⊢
    exact write_no ho commit_bad h
  · unfold doS
    rw [if_neg (by omega), if_neg (by omega), if_neg (by omega), if_neg (by omega), if_neg (by omega)]
    by_cases k6 : o.kind = 6
    · rw [if_pos k6]; exact ⟨rfl, rfl, rfl, rfl, rfl⟩
    · rw [if_neg k6, if_neg h7]; exact ⟨rfl, rfl, rfl, rfl, rfl⟩
theorem act1 (S : DS) (o : OpD) (ho : S.off = false) (k : o.kind = 1) (h : doE S o = 0 ∨ doE S o = 6) :
    (doS S o).log <+: S.log ++ opL o ∧ (doS S o).sure = S.sure ∧ (doS S o).image = S.image ∧ ((doS S o).off = false → (doS S o).log = S.log ++ opL o ∧ (doS S o).staged = S.staged ∧ (doS S o).stage = S.stage) := by
  unfold doE at h; unfold doS
  rw [if_pos k] at h ⊢
  by_cases hl : S.left = 0
  · unfold writeS
    simp only [ho, Bool.false_eq_true, if_false, if_pos hl]
    unfold layS
    split
    · exact ⟨List.prefix_refl _, rfl, rfl, fun h => by cases h⟩
    · exact ⟨List.prefix_append _ _, rfl, rfl, fun h => by cases h⟩
  · have he : layE S (opL o) = 0 := by
      unfold writeE at h
      simp only [ho, Bool.false_eq_true, if_false, if_neg hl] at h
      rcases h with h | h
      · exact h
      · unfold layE at h; split at h <;> simp at h
    have hf : fitsA S (opL o).length := by
      unfold layE at he
      split at he
      · assumption
      · simp at he
    unfold writeS
    simp only [ho, Bool.false_eq_true, if_false, if_neg hl]
    unfold layS
    rw [if_pos hf]
    exact ⟨List.prefix_refl _, rfl, rfl, fun _ => ⟨rfl, rfl, rfl⟩⟩
theorem act2 (S : DS) (o : OpD) (ho : S.off = false) (k : o.kind = 2) (h : doE S o = 0) :
    (doS S o).log = S.log ∧ (doS S o).sure = S.log.length ∧ (doS S o).image = S.image ∧ (doS S o).staged = S.staged ∧ (doS S o).stage = S.stage := by
  unfold doE at h; unfold doS
  rw [if_neg (by omega), if_pos k] at h ⊢
  rw [(write_ok ho h).2]; exact ⟨rfl, rfl, rfl, rfl, rfl⟩
theorem act3 (S : DS) (o : OpD) (ho : S.off = false) (k : o.kind = 3) (h : doE S o = 0) :
    0 ≤ o.n ∧ o.n ≤ (S.log.length : Int) ∧ (doS S o).log = S.log.take o.n.toNat ∧ (doS S o).sure = min S.sure o.n.toNat ∧ (doS S o).image = S.image ∧ (doS S o).staged = S.staged ∧ (doS S o).stage = S.stage := by
  unfold doE at h; unfold doS
  rw [if_neg (by omega), if_neg (by omega), if_pos k] at h ⊢
  obtain ⟨e, q⟩ := write_ok (S1 := cutS S o.n) (S0 := S) ho h
  rw [q]
  unfold cutE at e
  by_cases hb : o.n < 0 ∨ (S.log.length : Int) < o.n
  · rw [if_pos hb] at e; cases e
  · unfold cutS
    rw [if_neg hb]
    exact ⟨by omega, by omega, rfl, rfl, rfl, rfl, rfl⟩
theorem act4 (S : DS) (o : OpD) (ho : S.off = false) (k : o.kind = 4) (h : doE S o = 0) :
    (doS S o).log = S.log ∧ (doS S o).sure = S.sure ∧ (doS S o).image = S.image ∧ (doS S o).stage = opL o := by
  unfold doE at h; unfold doS
  rw [if_neg (by omega), if_neg (by omega), if_neg (by omega), if_pos k] at h ⊢
  obtain ⟨e, q⟩ := write_ok (S1 := stageS S (opL o)) (S0 := S) ho h
  rw [q]
  unfold stageE at e
  split at e
  · rename_i hb
    unfold stageS
    rw [if_pos hb]
    exact ⟨rfl, rfl, rfl, rfl⟩
  · cases e
theorem act5 (S : DS) (o : OpD) (ho : S.off = false) (k : o.kind = 5) (h : doE S o = 0) :
    S.staged = true ∧ (doS S o).log = [] ∧ (doS S o).sure = 0 ∧ (doS S o).image = S.stage ∧ (doS S o).staged = false := by
  unfold doE at h; unfold doS
  rw [if_neg (by omega), if_neg (by omega), if_neg (by omega), if_neg (by omega), if_pos k] at h ⊢
  obtain ⟨e, q⟩ := write_ok (S1 := commitS S) (S0 := S) ho h
  rw [q]
  unfold commitE at e
  split at e
  · rename_i hb
    unfold commitS
    rw [if_pos hb]
    exact ⟨hb, rfl, rfl, rfl, rfl⟩
  · cases e
set_option maxRecDepth 100000 in
set_option maxHeartbeats 16000000 in
theorem prefix_any (v : Value) (os : List OpD) (n : Nat) (keep : Int) (w : World) (hv : Ops w v os) :
    Calls Try.prog 5 #[.int .u64 (n : Int), v, .int .i64 keep] w fun e w' => e = .returned (.bool true) ∧ Below w.heap.size w w' := by
  have HV := hid hv
  obtain ⟨ao, len, cap, rfl, rfl, hc, hcap, hnone, hcell⟩ := hv
  clear hcell
  have Z := Nat.le_refl w.heap.size
  obtain ⟨M, hM⟩ : ∃ M : Nat, M = n % 40 + 1 := ⟨_, rfl⟩
  have hM1 : 1 ≤ M := by omega
  have hM2 : M ≤ 40 := by omega
  have HR := hid (show ∀ w, Calls Try.prog 10 #[.int .u64 (n : Int)] w fun e w' => e = .returned (.int .i64 (M : Int)) ∧ w' = w from fun w => by rw [hM]; exact roomN_any n w)
  clear hM
  go_enter Try.func5, Try.ntmps5
  go_wp2_with fail
  refine (HR.out _).mono ?_
  rintro e w0 ⟨rfl, hw0⟩
  rw [hw0]
  clear hw0
  go_wp2_with fail
  refine (new_ok M _ hM1 (by omega)).mono ?_
  rintro e w1 ⟨d, R1, rfl, hd1, hr1, hb1⟩
  have D1 := hid hd1
  have Q1 := hid hr1
  have B1 := hid hb1
  clear hd1 hr1 hb1
  go_wp2_with fail
  go_loopw [9, 10, 11, 12, 32] (fun av iv gv sv xv wr => ∃ (i s : Nat) (R : Nat → Prop) (S : DS) (aa ia ga : Option Addr) (ac ic gc : Nat) (A I G : List UInt8), xv = .int .i64 i ∧ sv = .int .i64 s ∧ av = .slice aa A.length ac ∧ iv = .slice ia I.length ic ∧ gv = .slice ga G.length gc ∧ i ≤ os.length ∧
    PreI w d wr R S (.slice aa A.length ac) (.slice ia I.length ic) (.slice ga G.length gc) A I G s) (fun _ _ _ _ xv _ => os.length - (intOf xv).toNat)
  case atStart => exact ⟨0, 0, R1, _, none, none, none, 0, 0, 0, [], [], [], rfl, rfl, rfl, rfl, rfl, Nat.zero_le _, D1.out, Q1.out, B1.out, Keeps.nil _ _, Keeps.nil _ _, Keeps.nil _ _, List.prefix_refl _, rfl, rfl, fun _ => ⟨rfl, fun h => by cases h⟩⟩
  case round =>
    obtain ⟨i, s, R, S, aa, ia, ga, ac, ic, gc, A, I, G, rfl, rfl, rfl, rfl, rfl, hi, hp⟩ := hrel
    clear D1 Q1 B1
    have P0 := hid hp
    clear hp
    by_cases hlt : (i : Int) < (os.length : Int)
    · have hi' : i < os.length := by omega
      have hao : ∃ ad, ao = some ad := by cases ao with | none => exact absurd (hnone rfl) (by omega) | some ad => exact ⟨ad, rfl⟩
      obtain ⟨ad, rfl⟩ := hao
      obtain ⟨ua, uc, g0, g1, g2, g3, g4⟩ := HV.out.get i hi'
      have HO := hid g4
      obtain ⟨o, ho⟩ : ∃ o, o = os[i] := ⟨_, rfl⟩
      rw [← ho] at g0 g1 g2 g3 HO
      replace g0 := cell_later P0.out.be g0
      replace g1 := cell_later P0.out.be g1
      replace g2 := cell_later P0.out.be g2
      replace g3 := cell_later P0.out.be g3
      clear ho g4
      have hbx : Below wr.heap.size wr (wr.alloc (.cells #[.int .i64 o.kind, .int .i64 o.n, .slice ua o.m.length uc, .int .u64 (o.t : Int)] 33)) := (Below.refl _ _).alloc (Nat.le_refl _) _
      have P1 := hid (P0.out.below hbx)
      have X1 : Hid ((wr.alloc (.cells #[.int .i64 o.kind, .int .i64 o.n, .slice ua o.m.length uc, .int .u64 (o.t : Int)] 33)).heap[wr.heap.size]? = some (.cells #[.int .i64 o.kind, .int .i64 o.n, .slice ua o.m.length uc, .int .u64 (o.t : Int)] 33 (0, 0))) := hid (heap_alloc_new _ _)
      have RB : Hid (¬ R wr.heap.size) := hid fun h => by have := P0.out.dk.rlt _ h; omega
      have HW1 : Hid (w.heap.size ≤ (wr.alloc (.cells #[.int .i64 o.kind, .int .i64 o.n, .slice ua o.m.length uc, .int .u64 (o.t : Int)] 33)).heap.size) := hid P1.out.be.size
      clear hbx
      by_cases h100 : 100 ≤ (i : Int)
      · obtain ⟨pdk, pab, pbe, pka, pki, pkg, ppre, psu, pim, pon⟩ := P1.out
        have EB := hid pbe
        have EA := hid pab
        have EK := hid pka
        have EI := hid pki
        have EP := hid ppre
        have ES := hid psu
        have EM := hid pim
        have ED := hid pdk
        clear pdk pab pbe pka pki pkg ppre psu pim pon
        go_wp2_with fail
        refine (crash_any d R S keep _ ED.out).mono ?_
        rintro e w20 ⟨rfl, hs20⟩
        obtain ⟨R20, d20, t20, r20⟩ := hs20
        have D20 := hid d20
        have B20 := hid (EB.out.trans (t20.below EB.out.size EA.out))
        have K20 := hid (EK.out.step t20 r20)
        have I20 := hid (EI.out.step t20 r20)
        have Q20 : Hid (∀ k, R20 k → w.heap.size ≤ k) := hid fun k hk => by rcases r20 k hk with h | h <;> first | exact EA.out k h | exact Nat.le_trans EB.out.size h
        clear d20 t20 r20
        obtain ⟨N, hN⟩ : ∃ N, N = keepN S keep := ⟨_, rfl⟩
        have hNs : s ≤ N := by rw [hN, ← ES.out]; exact keepN_ge S keep
        have hNl : N ≤ S.log.length := by rw [hN]; exact keepN_le S keep ED.out.ok
        obtain ⟨L, hL⟩ : ∃ L, L = S.log.take N := ⟨_, rfl⟩
        have hLN : L.length = N := by rw [hL, List.length_take]; omega
        have hpl : S.log.length ≤ A.length := EP.out.length_le
        have EL : Hid (A.take N = L) := hid (by
          rw [hL]
          obtain ⟨t, ht⟩ := EP.out
          rw [← ht, List.take_append_of_le_length hNl])
        have T1 : Hid (toldL (crashS S keep) (crashS S keep).log = L) := hid (by rw [toldL_on rfl, hL, hN]; rfl)
        have T2 : Hid (toldL (crashS S keep) (crashS S keep).image = I) := hid (by rw [toldL_on rfl, ← EM.out]; rfl)
        have T3 : Hid (toldE (crashS S keep) = 0) := hid rfl
        have T4 : Hid (writeE (crashS S keep) (commitE (crashS S keep)) = 8) := hid rfl
        clear hN hL
        go_wp2_with fail
        refine (log_any d R20 _ _ D20.out).mono ?_
        rw [T1.out, T3.out]
        rintro e w21 ⟨xa, xc, rfl, ho21, hb21⟩
        have D21 := hid (D20.out.below hb21)
        have B21 := hid (B20.out.trans (hb21.mono B20.out.size))
        have K21 := hid (K20.out.own.below hb21)
        have I21 := hid (I20.out.own.below hb21)
        have X21 := hid ho21.bts
        clear ho21 hb21
        go_wp2_with fail
        refine (image_any d R20 _ _ D21.out).mono ?_
        rw [T2.out, T3.out]
        rintro e w22 ⟨ya, yc, rfl, ho22, hb22⟩
        have D22 := hid (D21.out.below hb22)
        have B22 := hid (B21.out.trans (hb22.mono B21.out.size))
        have K22 := hid (K21.out.below hb22)
        obtain ⟨-, c1, c2, c3⟩ := own_len K22.out
        have y1 := X21.out.below hb22
        have y2 : Bts w22 (.slice aa N ac) L := by rw [← EL.out]; exact (K22.out.take (by omega)).bts
        have y3 := ho22.bts
        have y4 := (I21.out.below hb22).bts
        rw [hLN] at y1
        have s1 := fun q => conv_string (w22.drewN q) _ _ (y1.below (drewN_below w22 q))
        have s2 := fun q => conv_string (w22.drewN q) _ _ (y2.below (drewN_below w22 q))
        have s3 := fun q => conv_string (w22.drewN q) _ _ (y3.below (drewN_below w22 q))
        have s4 := fun q => conv_string (w22.drewN q) _ _ (y4.below (drewN_below w22 q))
        clear y1 y2 y3 y4
        have q1 : decide (N < s) = false := by simp; omega
        have q2 : decide (A.length < N) = false := by simp; omega
        have q3 : ¬ ((ac : Int) < (N : Int)) := by omega
        have q4 : (N : Int) ≤ (ac : Int) := by omega
        clear ho22 hb22 D20 D21 B20 B21 K20 K21 I20 I21 X21 hNs hNl hLN hpl T1 T2 T3 c1 c2 c3 EK EI EP ES EM ED EB EA P1
        go_wp2_with fail
        go_quiet (fail)
        go_wp2_with fail
        refine (commit_any d R20 _ _ (D22.out.below (drewN_below w22 nq))).mono ?_
        rw [T4.out]
        rintro e w23 ⟨rfl, hs23⟩
        have B23 := hid (hs23.at (B22.out.trans ((drewN_below w22 nq).mono B22.out.size)) Z Q20.out).below
        clear hs23 D22 s1 s2 s3 s4
        go_wp2_with (go_at_call 15; refine (lives_any _).mono ?_; rintro e w24 ⟨rfl, hb24⟩; have HB := hid hb24; clear hb24)
        go_ret
        exact ⟨rfl, B23.out.trans (HB.out.mono B23.out.size)⟩
      have d100 : decide (100 ≤ (i : Int)) = false := by simp; omega
      cases hoff : S.off with
      | true =>
        have HOFF := hid hoff
        clear hoff
        go_wp2_with fail
        refine (off_any d R S _ P1.out.dk).mono ?_
        rw [HOFF.out]
        rintro e w2 ⟨rfl, rfl⟩
        obtain ⟨pdk, pab, pbe, pka, pki, pkg, ppre, psu, pim, pon⟩ := P1.out
        have EB := hid pbe
        have EA := hid pab
        have EK := hid pka
        have EI := hid pki
        have EP := hid ppre
        have ES := hid psu
        have EM := hid pim
        have ED := hid pdk
        clear pdk pab pbe pka pki pkg ppre psu pim pon
        go_wp2_with fail
        refine (crash_any d R S keep _ ED.out).mono ?_
        rintro e w20 ⟨rfl, hs20⟩
        obtain ⟨R20, d20, t20, r20⟩ := hs20
        have D20 := hid d20
        have B20 := hid (EB.out.trans (t20.below EB.out.size EA.out))
        have K20 := hid (EK.out.step t20 r20)
        have I20 := hid (EI.out.step t20 r20)
        have Q20 : Hid (∀ k, R20 k → w.heap.size ≤ k) := hid fun k hk => by rcases r20 k hk with h | h <;> first | exact EA.out k h | exact Nat.le_trans EB.out.size h
        clear d20 t20 r20
        obtain ⟨N, hN⟩ : ∃ N, N = keepN S keep := ⟨_, rfl⟩
        have hNs : s ≤ N := by rw [hN, ← ES.out]; exact keepN_ge S keep
        have hNl : N ≤ S.log.length := by rw [hN]; exact keepN_le S keep ED.out.ok
        obtain ⟨L, hL⟩ : ∃ L, L = S.log.take N := ⟨_, rfl⟩
        have hLN : L.length = N := by rw [hL, List.length_take]; omega
        have hpl : S.log.length ≤ A.length := EP.out.length_le
        have EL : Hid (A.take N = L) := hid (by
          rw [hL]
          obtain ⟨t, ht⟩ := EP.out
          rw [← ht, List.take_append_of_le_length hNl])
        have T1 : Hid (toldL (crashS S keep) (crashS S keep).log = L) := hid (by rw [toldL_on rfl, hL, hN]; rfl)
        have T2 : Hid (toldL (crashS S keep) (crashS S keep).image = I) := hid (by rw [toldL_on rfl, ← EM.out]; rfl)
        have T3 : Hid (toldE (crashS S keep) = 0) := hid rfl
        have T4 : Hid (writeE (crashS S keep) (commitE (crashS S keep)) = 8) := hid rfl
        clear hN hL
        go_wp2_with fail
        refine (log_any d R20 _ _ D20.out).mono ?_
        rw [T1.out, T3.out]
        rintro e w21 ⟨xa, xc, rfl, ho21, hb21⟩
        have D21 := hid (D20.out.below hb21)
        have B21 := hid (B20.out.trans (hb21.mono B20.out.size))
        have K21 := hid (K20.out.own.below hb21)
        have I21 := hid (I20.out.own.below hb21)
        have X21 := hid ho21.bts
        clear ho21 hb21
        go_wp2_with fail
        refine (image_any d R20 _ _ D21.out).mono ?_
        rw [T2.out, T3.out]
        rintro e w22 ⟨ya, yc, rfl, ho22, hb22⟩
        have D22 := hid (D21.out.below hb22)
        have B22 := hid (B21.out.trans (hb22.mono B21.out.size))
        have K22 := hid (K21.out.below hb22)
        obtain ⟨-, c1, c2, c3⟩ := own_len K22.out
        have y1 := X21.out.below hb22
        have y2 : Bts w22 (.slice aa N ac) L := by rw [← EL.out]; exact (K22.out.take (by omega)).bts
        have y3 := ho22.bts
        have y4 := (I21.out.below hb22).bts
        rw [hLN] at y1
        have s1 := fun q => conv_string (w22.drewN q) _ _ (y1.below (drewN_below w22 q))
        have s2 := fun q => conv_string (w22.drewN q) _ _ (y2.below (drewN_below w22 q))
        have s3 := fun q => conv_string (w22.drewN q) _ _ (y3.below (drewN_below w22 q))
        have s4 := fun q => conv_string (w22.drewN q) _ _ (y4.below (drewN_below w22 q))
        clear y1 y2 y3 y4
        have q1 : decide (N < s) = false := by simp; omega
        have q2 : decide (A.length < N) = false := by simp; omega
        have q3 : ¬ ((ac : Int) < (N : Int)) := by omega
        have q4 : (N : Int) ≤ (ac : Int) := by omega
        clear ho22 hb22 D20 D21 B20 B21 K20 K21 I20 I21 X21 hNs hNl hLN hpl T1 T2 T3 c1 c2 c3 EK EI EP ES EM ED EB EA P1
        go_wp2_with fail
        go_quiet (fail)
        go_wp2_with fail
        refine (commit_any d R20 _ _ (D22.out.below (drewN_below w22 nq))).mono ?_
        rw [T4.out]
        rintro e w23 ⟨rfl, hs23⟩
        have B23 := hid (hs23.at (B22.out.trans ((drewN_below w22 nq).mono B22.out.size)) Z Q20.out).below
        clear hs23 D22 s1 s2 s3 s4
        go_wp2_with (go_at_call 15; refine (lives_any _).mono ?_; rintro e w24 ⟨rfl, hb24⟩; have HB := hid hb24; clear hb24)
        go_ret
        exact ⟨rfl, B23.out.trans (HB.out.mono B23.out.size)⟩
      | false =>
        have HOFF := hid hoff
        clear hoff
        go_wp2_with fail
        refine (off_any d R S _ P1.out.dk).mono ?_
        rw [HOFF.out]
        rintro e w2 ⟨rfl, rfl⟩
        by_cases h7 : o.kind = 7
        · have n7 : (o.kind == 7) = true := by simp; omega
          clear h7
          go_wp2_with fail
          go_roundw
          case rel => exact ⟨i + 1, s, R, S, aa, ia, ga, ac, ic, gc, A, I, G, by go_num, rfl, rfl, rfl, rfl, by omega, P1.out⟩
          case measure => simp [intOf]; omega
        have n7 : (o.kind == 7) = false := by simpa using h7
        obtain ⟨hLA, hSG⟩ := P1.out.on HOFF.out
        have LA := hid hLA
        have SG := hid hSG
        clear hLA hSG
        have hAl : A.length ≤ 33554432 := by rw [← LA.out]; exact P1.out.dk.ok.log
        go_wp2_with fail
        refine (log_any d R S _ P1.out.dk).mono ?_
        rw [toldL_on HOFF.out, LA.out]
        rintro e w3 ⟨wa, wc, rfl, ho3, hb3⟩
        have P3 := hid (P1.out.below hb3)
        have K3 : Hid (Keeps w3 R (.slice wa A.length wc) A) := hid (Keeps.fresh ho3 P1.out.dk.rlt)
        have F3 : Hid (∀ k, (Value.slice wa A.length wc).ownBlock = some k → (wr.alloc (.cells #[.int .i64 o.kind, .int .i64 o.n, .slice ua o.m.length uc, .int .u64 (o.t : Int)] 33)).heap.size ≤ k) := hid fun k hk => (ho3.lt k hk).1
        have LI : Hid (∀ k, (Value.slice ia I.length ic).ownBlock = some k → k < (wr.alloc (.cells #[.int .i64 o.kind, .int .i64 o.n, .slice ua o.m.length uc, .int .u64 (o.t : Int)] 33)).heap.size) := hid fun k hk => (P1.out.ki.own.lt k hk).2
        have LG : Hid (∀ k, (Value.slice ga G.length gc).ownBlock = some k → k < (wr.alloc (.cells #[.int .i64 o.kind, .int .i64 o.n, .slice ua o.m.length uc, .int .u64 (o.t : Int)] 33)).heap.size) := hid fun k hk => (P1.out.kg.own.lt k hk).2
        have hs13 : (wr.alloc (.cells #[.int .i64 o.kind, .int .i64 o.n, .slice ua o.m.length uc, .int .u64 (o.t : Int)] 33)).heap.size ≤ w3.heap.size := hb3.size
        have X3 := hid (block_later hb3 X1.out)
        obtain ⟨x0, x1, x2, x3⟩ := cell_four X3.out
        clear ho3 hb3
        go_wp2_with fail
        refine (do_any d R S o _ _ P3.out.dk (HO.out.below P3.out.be)).mono ?_
        rintro e w7 ⟨rfl, hs7⟩
        obtain ⟨R7, d7, t7, r7⟩ := hs7
        have D7 := hid d7
        have KA := hid (P3.out.ka.step t7 r7)
        have KI := hid (P3.out.ki.step t7 r7)
        have KG := hid (P3.out.kg.step t7 r7)
        have KW := hid (K3.out.step t7 r7)
        have B7 := hid (P3.out.be.trans (t7.below P3.out.be.size P3.out.ab))
        have Q7 : Hid (∀ k, R7 k → w.heap.size ≤ k) := hid fun k hk => by rcases r7 k hk with h | h <;> first | exact P3.out.ab k h | exact Nat.le_trans P3.out.be.size h
        have X7 := hid ((t7.block _ (lt_of_block' X3.out) RB.out).trans X3.out)
        have O7 := hid (HO.out.below B7.out)
        have SU := hid P3.out.su
        have IM := hid P3.out.im
        have hs37 : w3.heap.size ≤ w7.heap.size := t7.size
        clear d7 t7 r7 P0 P1 P3 K3 X1 X3 x0 x1 x2 x3
        obtain ⟨x0, x1, x2, x3⟩ := cell_four X7.out
        obtain ⟨E, hE⟩ : ∃ E, E = doE S o := ⟨_, rfl⟩
        have HE := hid hE
        rw [← hE]
        clear hE
        have PQ0 : Hid ((o.kind = 1 → doE S o ≠ 0 ∧ doE S o ≠ 6) → (2 ≤ o.kind → o.kind ≤ 5 → doE S o ≠ 0) → PreI w d w7 R7 (doS S o) (.slice aa A.length ac) (.slice ia I.length ic) (.slice ga G.length gc) A I G s) := hid fun a1 a2 => by
          obtain ⟨z1, z2, z3, z4, z5⟩ := quiet_keeps S o HOFF.out h7 a1 a2
          exact ⟨D7.out, Q7.out, B7.out, KA.out, KI.out, KG.out, by rw [z1, LA.out]; exact List.prefix_refl _, by rw [z2]; exact SU.out, by rw [z3]; exact IM.out, fun _ => ⟨by rw [z1]; exact LA.out, fun h => by rw [z5]; exact SG.out (by rw [← z4]; exact h)⟩⟩
        rcases kind_in o with k | k | k | k | k | k
        · have n1 : (o.kind == 1) = true := by simp; omega
          have n2 : (o.kind == 2) = false := by simp; omega
          have n3 : (o.kind == 3) = false := by simp; omega
          have n4 : (o.kind == 4) = false := by simp; omega
          have n5 : (o.kind == 5) = false := by simp; omega
          by_cases e0 : E = 0 ∨ E = 6
          · obtain ⟨z1, z2, z3, z4⟩ := act1 S o HOFF.out k (by rw [← HE.out]; exact e0)
            rw [LA.out] at z1 z4
            have Z1 := hid z1
            have Z2 := hid z2
            have Z3 := hid z3
            have Z4 := hid z4
            clear z1 z2 z3 z4 PQ0
            have hti := O7.out.ti
            obtain ⟨u', hue, hub⟩ := O7.out.va
            have hue' : Value.slice ua o.m.length uc = u' := by
              have h := Value.agg.inj hue
              simp at h
              exact h
            subst hue'
            have UB := hid hub
            clear hub hue
            rcases e0 with rfl | rfl
            all_goals
              go_wp2_with fail
              refine (bytes_any _ _ _ o.t o.m _ UB.out hti).mono ?_
              rintro e w8 ⟨va8, vc8, rfl, ho8, hb8⟩
              have O8 : Hid (Own w8 w7.heap.size (.slice va8 (opL o).length vc8) (opL o)) := hid ho8
              have B8 := hid hb8
              have hl8 : (opL o).length ≤ 3000 := opB_len _ _
              rw [show opB o.m (o.t % 100 + 1) = opL o from rfl]
              have KW8 := hid (KW.out.below hb8)
              clear ho8 hb8
              go_wp2_with (at_builtin; refine wpl_append rfl _ _ rfl 0 (.slice wa A.length wc) A rfl KW8.out.own _ (opL o) rfl O8.out.bts (by omega) (Nat.zero_le _) ?_; intro va9 vc9 w9 ho9 hg9 hat9; have O9 := hid ho9; have G9 := hid hg9; have T9 := hid hat9; clear ho9 hg9 hat9)
              go_roundw
              case rel =>
                have hw9 : w.heap.size ≤ w8.heap.size := Nat.le_trans B7.out.size B8.out.size
                refine ⟨i + 1, s, R7, doS S o, va9, ia, ga, vc9, ic, gc, A ++ opL o, I, G, by go_num, rfl, by rw [List.length_append], rfl, rfl, by omega, ?_⟩
                rw [List.length_append]
                refine ⟨(D7.out.below B8.out).other G9.out KW8.out.out, Q7.out, ?_, ⟨O9.out, ?_⟩, ?_, ?_, Z1.out, Z2.out.trans SU.out, Z3.out.trans IM.out, fun h => ⟨(Z4.out h).1, fun h' => by rw [(Z4.out h).2.2]; exact SG.out (by rw [← (Z4.out h).2.1]; exact h')⟩⟩
                · exact (B7.out.trans (B8.out.mono B7.out.size)).grown G9.out hw9 fun k' hk => Nat.le_trans HW1.out (F3.out k' hk)
                · intro k' hk hr
                  rcases T9.out with h | h
                  · rw [h] at hk; exact KW8.out.out k' hk hr
                  · rw [h] at hk; cases hk; have := D7.out.rlt _ hr; have := B8.out.size; omega
                · exact (KI.out.below B8.out).other G9.out fun k' hk e => by have := LI.out k' hk; have := F3.out k' e; omega
                · exact (KG.out.below B8.out).other G9.out fun k' hk e => by have := LG.out k' hk; have := F3.out k' e; omega
              case measure => simp [intOf]; omega
          · have q1 : (E == 0) = false := by simp; omega
            have q2 : (E == 6) = false := by simp; omega
            have PQ := hid (PQ0.out (fun _ => by rw [← HE.out]; omega) (fun h => by omega))
            clear PQ0
            go_wp2_with fail
            go_roundw
            case rel => exact ⟨i + 1, s, R7, doS S o, aa, ia, ga, ac, ic, gc, A, I, G, by go_num, rfl, rfl, rfl, rfl, by omega, PQ.out⟩
            case measure => simp [intOf]; omega
        · have n1 : (o.kind == 1) = false := by simp; omega
          have n2 : (o.kind == 2) = true := by simp; omega
          have n3 : (o.kind == 3) = false := by simp; omega
          have n4 : (o.kind == 4) = false := by simp; omega
          have n5 : (o.kind == 5) = false := by simp; omega
          by_cases e0 : E = 0
          · obtain ⟨z1, z2, z3, z4, z5⟩ := act2 S o HOFF.out k (by rw [← HE.out]; exact e0)
            rw [LA.out] at z1 z2
            have PQ : Hid (PreI w d w7 R7 (doS S o) (.slice aa A.length ac) (.slice ia I.length ic) (.slice ga G.length gc) A I G A.length) := hid ⟨D7.out, Q7.out, B7.out, KA.out, KI.out, KG.out, by rw [z1]; exact List.prefix_refl _, z2, z3.trans IM.out, fun _ => ⟨z1, fun h => by rw [z5]; exact SG.out (by rw [← z4]; exact h)⟩⟩
            clear z1 z2 z3 z4 z5 PQ0
            subst e0
            go_wp2_with fail
            go_roundw
            case rel => exact ⟨i + 1, A.length, R7, doS S o, aa, ia, ga, ac, ic, gc, A, I, G, by go_num, rfl, rfl, rfl, rfl, by omega, PQ.out⟩
            case measure => simp [intOf]; omega
          · have q1 : (E == 0) = false := by simp; omega
            have PQ := hid (PQ0.out (fun h => by omega) (fun _ _ => by rw [← HE.out]; omega))
            clear PQ0
            go_wp2_with fail
            go_roundw
            case rel => exact ⟨i + 1, s, R7, doS S o, aa, ia, ga, ac, ic, gc, A, I, G, by go_num, rfl, rfl, rfl, rfl, by omega, PQ.out⟩
            case measure => simp [intOf]; omega
        · have n1 : (o.kind == 1) = false := by simp; omega
          have n2 : (o.kind == 2) = false := by simp; omega
          have n3 : (o.kind == 3) = true := by simp; omega
          have n4 : (o.kind == 4) = false := by simp; omega
          have n5 : (o.kind == 5) = false := by simp; omega
          by_cases e0 : E = 0
          · obtain ⟨y1, y2, z1, z2, z3, z4, z5⟩ := act3 S o HOFF.out k (by rw [← HE.out]; exact e0)
            rw [LA.out] at y2 z1
            obtain ⟨N, hN⟩ : ∃ N : Nat, o.n = N := ⟨o.n.toNat, by omega⟩
            rw [hN, Int.toNat_natCast] at z1 z2
            rw [hN] at x1 y1 y2
            obtain ⟨-, c1, c2, c3⟩ := own_len KW.out.own
            have hNA : N ≤ A.length := by omega
            have PQ : Hid (PreI w d w7 R7 (doS S o) (.slice wa N wc) (.slice ia I.length ic) (.slice ga G.length gc) (A.take N) I G (min s N)) := hid ⟨D7.out, Q7.out, B7.out, ⟨KW.out.own.take hNA, fun k' hk => KW.out.out k' ((ob wa _ N wc wc).trans hk)⟩, KI.out, KG.out, by rw [z1]; exact List.prefix_refl _, by rw [z2, SU.out], z3.trans IM.out, fun _ => ⟨z1, fun h => by rw [z5]; exact SG.out (by rw [← z4]; exact h)⟩⟩
            clear z1 z2 z3 z4 z5 PQ0
            subst e0
            have p1 : decide ((N : Int) < 0) = false := by simp
            have p2 : decide (A.length < N) = false := by simp; omega
            have p3 : ¬ ((wc : Int) < (N : Int)) := by omega
            have p4 : (N : Int) ≤ (wc : Int) := by omega
            have hTL : (A.take N).length = N := by rw [List.length_take]; omega
            have HTL := hid hTL
            clear hTL c1 c2 c3 hN y1 y2
            go_wp2_with fail
            go_roundw
            case rel =>
              refine ⟨i + 1, min s N, R7, doS S o, wa, ia, ga, wc, ic, gc, A.take N, I, G, by go_num, congrArg (Value.int .i64) (by split <;> omega), by rw [HTL.out], rfl, rfl, by omega, ?_⟩
              rw [HTL.out]
              exact PQ.out
            case measure => simp [intOf]; omega
          · have q1 : (E == 0) = false := by simp; omega
            have PQ := hid (PQ0.out (fun h => by omega) (fun _ _ => by rw [← HE.out]; omega))
            clear PQ0
            go_wp2_with fail
            go_roundw
            case rel => exact ⟨i + 1, s, R7, doS S o, aa, ia, ga, ac, ic, gc, A, I, G, by go_num, rfl, rfl, rfl, rfl, by omega, PQ.out⟩
            case measure => simp [intOf]; omega
        · have n1 : (o.kind == 1) = false := by simp; omega
          have n2 : (o.kind == 2) = false := by simp; omega
          have n3 : (o.kind == 3) = false := by simp; omega
          have n4 : (o.kind == 4) = true := by simp; omega
          have n5 : (o.kind == 5) = false := by simp; omega
          by_cases e0 : E = 0
          · obtain ⟨z1, z2, z3, z4⟩ := act4 S o HOFF.out k (by rw [← HE.out]; exact e0)
            rw [LA.out] at z1
            have Z1 := hid z1
            have Z2 := hid z2
            have Z3 := hid z3
            have Z4 := hid z4
            clear z1 z2 z3 z4 PQ0
            subst e0
            have hti := O7.out.ti
            obtain ⟨u', hue, hub⟩ := O7.out.va
            have hue' : Value.slice ua o.m.length uc = u' := by
              have h := Value.agg.inj hue
              simp at h
              exact h
            subst hue'
            have UB := hid hub
            clear hub hue
            go_wp2_with fail
            refine (bytes_any _ _ _ o.t o.m _ UB.out hti).mono ?_
            rintro e w8 ⟨va8, vc8, rfl, ho8, hb8⟩
            have O8 : Hid (Own w8 w7.heap.size (.slice va8 (opL o).length vc8) (opL o)) := hid ho8
            have B8 := hid hb8
            rw [show opB o.m (o.t % 100 + 1) = opL o from rfl]
            clear ho8 hb8
            go_wp2_with fail
            go_roundw
            case rel => exact ⟨i + 1, s, R7, doS S o, aa, ia, va8, ac, ic, vc8, A, I, opL o, by go_num, rfl, rfl, rfl, rfl, by omega, D7.out.below B8.out, Q7.out, B7.out.trans (B8.out.mono B7.out.size), KA.out.below B8.out, KI.out.below B8.out, Keeps.fresh O8.out D7.out.rlt, by rw [Z1.out]; exact List.prefix_refl _, Z2.out.trans SU.out, Z3.out.trans IM.out, fun _ => ⟨Z1.out, fun _ => Z4.out⟩⟩
            case measure => simp [intOf]; omega
          · have q1 : (E == 0) = false := by simp; omega
            have PQ := hid (PQ0.out (fun h => by omega) (fun _ _ => by rw [← HE.out]; omega))
            clear PQ0
            go_wp2_with fail
            go_roundw
            case rel => exact ⟨i + 1, s, R7, doS S o, aa, ia, ga, ac, ic, gc, A, I, G, by go_num, rfl, rfl, rfl, rfl, by omega, PQ.out⟩
            case measure => simp [intOf]; omega
        · have n1 : (o.kind == 1) = false := by simp; omega
          have n2 : (o.kind == 2) = false := by simp; omega
          have n3 : (o.kind == 3) = false := by simp; omega
          have n4 : (o.kind == 4) = false := by simp; omega
          have n5 : (o.kind == 5) = true := by simp; omega
          by_cases e0 : E = 0
          · obtain ⟨z0, z1, z2, z3, z4⟩ := act5 S o HOFF.out k (by rw [← HE.out]; exact e0)
            have PQ : Hid (PreI w d w7 R7 (doS S o) (.slice none 0 0) (.slice ga G.length gc) (.slice ga G.length gc) [] G G 0) := hid ⟨D7.out, Q7.out, B7.out, Keeps.nil _ _, KG.out, KG.out, by rw [z1]; exact List.prefix_refl _, z2, z3.trans (SG.out z0), fun _ => ⟨z1, fun h => by rw [z4] at h; cases h⟩⟩
            clear z0 z1 z2 z3 z4 PQ0
            subst e0
            go_wp2_with fail
            go_roundw
            case rel => exact ⟨i + 1, 0, R7, doS S o, none, ga, ga, 0, gc, gc, [], G, G, by go_num, rfl, rfl, rfl, rfl, by omega, PQ.out⟩
            case measure => simp [intOf]; omega
          · have q1 : (E == 0) = false := by simp; omega
            have PQ := hid (PQ0.out (fun h => by omega) (fun _ _ => by rw [← HE.out]; omega))
            clear PQ0
            go_wp2_with fail
            go_roundw
            case rel => exact ⟨i + 1, s, R7, doS S o, aa, ia, ga, ac, ic, gc, A, I, G, by go_num, rfl, rfl, rfl, rfl, by omega, PQ.out⟩
            case measure => simp [intOf]; omega
        · have n1 : (o.kind == 1) = false := by simp; omega
          have n2 : (o.kind == 2) = false := by simp; omega
          have n3 : (o.kind == 3) = false := by simp; omega
          have n4 : (o.kind == 4) = false := by simp; omega
          have n5 : (o.kind == 5) = false := by simp; omega
          have PQ := hid (PQ0.out (fun h => by omega) (fun h h' => by omega))
          clear PQ0
          go_wp2_with fail
          go_roundw
          case rel => exact ⟨i + 1, s, R7, doS S o, aa, ia, ga, ac, ic, gc, A, I, G, by go_num, rfl, rfl, rfl, rfl, by omega, PQ.out⟩
          case measure => simp [intOf]; omega
    · obtain ⟨pdk, pab, pbe, pka, pki, pkg, ppre, psu, pim, pon⟩ := P0.out
      have EB := hid pbe
      have EA := hid pab
      have EK := hid pka
      have EI := hid pki
      have EP := hid ppre
      have ES := hid psu
      have EM := hid pim
      have ED := hid pdk
      clear pdk pab pbe pka pki pkg ppre psu pim pon
      go_wp2_with fail
      refine (crash_any d R S keep _ ED.out).mono ?_
      rintro e w20 ⟨rfl, hs20⟩
      obtain ⟨R20, d20, t20, r20⟩ := hs20
      have D20 := hid d20
      have B20 := hid (EB.out.trans (t20.below EB.out.size EA.out))
      have K20 := hid (EK.out.step t20 r20)
      have I20 := hid (EI.out.step t20 r20)
      have Q20 : Hid (∀ k, R20 k → w.heap.size ≤ k) := hid fun k hk => by rcases r20 k hk with h | h <;> first | exact EA.out k h | exact Nat.le_trans EB.out.size h
      clear d20 t20 r20
      obtain ⟨N, hN⟩ : ∃ N, N = keepN S keep := ⟨_, rfl⟩
      have hNs : s ≤ N := by rw [hN, ← ES.out]; exact keepN_ge S keep
      have hNl : N ≤ S.log.length := by rw [hN]; exact keepN_le S keep ED.out.ok
      obtain ⟨L, hL⟩ : ∃ L, L = S.log.take N := ⟨_, rfl⟩
      have hLN : L.length = N := by rw [hL, List.length_take]; omega
      have hpl : S.log.length ≤ A.length := EP.out.length_le
      have EL : Hid (A.take N = L) := hid (by
        rw [hL]
        obtain ⟨t, ht⟩ := EP.out
        rw [← ht, List.take_append_of_le_length hNl])
      have T1 : Hid (toldL (crashS S keep) (crashS S keep).log = L) := hid (by rw [toldL_on rfl, hL, hN]; rfl)
      have T2 : Hid (toldL (crashS S keep) (crashS S keep).image = I) := hid (by rw [toldL_on rfl, ← EM.out]; rfl)
      have T3 : Hid (toldE (crashS S keep) = 0) := hid rfl
      have T4 : Hid (writeE (crashS S keep) (commitE (crashS S keep)) = 8) := hid rfl
      clear hN hL
      go_wp2_with fail
      refine (log_any d R20 _ _ D20.out).mono ?_
      rw [T1.out, T3.out]
      rintro e w21 ⟨xa, xc, rfl, ho21, hb21⟩
      have D21 := hid (D20.out.below hb21)
      have B21 := hid (B20.out.trans (hb21.mono B20.out.size))
      have K21 := hid (K20.out.own.below hb21)
      have I21 := hid (I20.out.own.below hb21)
      have X21 := hid ho21.bts
      clear ho21 hb21
      go_wp2_with fail
      refine (image_any d R20 _ _ D21.out).mono ?_
      rw [T2.out, T3.out]
      rintro e w22 ⟨ya, yc, rfl, ho22, hb22⟩
      have D22 := hid (D21.out.below hb22)
      have B22 := hid (B21.out.trans (hb22.mono B21.out.size))
      have K22 := hid (K21.out.below hb22)
      obtain ⟨-, c1, c2, c3⟩ := own_len K22.out
      have y1 := X21.out.below hb22
      have y2 : Bts w22 (.slice aa N ac) L := by rw [← EL.out]; exact (K22.out.take (by omega)).bts
      have y3 := ho22.bts
      have y4 := (I21.out.below hb22).bts
      rw [hLN] at y1
      have s1 := fun q => conv_string (w22.drewN q) _ _ (y1.below (drewN_below w22 q))
      have s2 := fun q => conv_string (w22.drewN q) _ _ (y2.below (drewN_below w22 q))
      have s3 := fun q => conv_string (w22.drewN q) _ _ (y3.below (drewN_below w22 q))
      have s4 := fun q => conv_string (w22.drewN q) _ _ (y4.below (drewN_below w22 q))
      clear y1 y2 y3 y4
      have q1 : decide (N < s) = false := by simp; omega
      have q2 : decide (A.length < N) = false := by simp; omega
      have q3 : ¬ ((ac : Int) < (N : Int)) := by omega
      have q4 : (N : Int) ≤ (ac : Int) := by omega
      clear ho22 hb22 D20 D21 B20 B21 K20 K21 I20 I21 X21 hNs hNl hLN hpl T1 T2 T3 c1 c2 c3 EK EI EP ES EM ED EB EA P0
      go_wp2_with fail
      go_quiet (fail)
      go_wp2_with fail
      refine (commit_any d R20 _ _ (D22.out.below (drewN_below w22 nq))).mono ?_
      rw [T4.out]
      rintro e w23 ⟨rfl, hs23⟩
      have B23 := hid (hs23.at (B22.out.trans ((drewN_below w22 nq).mono B22.out.size)) Z Q20.out).below
      clear hs23 D22 s1 s2 s3 s4
      go_wp2_with (go_at_call 15; refine (lives_any _).mono ?_; rintro e w24 ⟨rfl, hb24⟩; have HB := hid hb24; clear hb24)
      go_ret
      exact ⟨rfl, B23.out.trans (HB.out.mono B23.out.size)⟩
end Go.Proofs.Ytengonfilmhaoaa
