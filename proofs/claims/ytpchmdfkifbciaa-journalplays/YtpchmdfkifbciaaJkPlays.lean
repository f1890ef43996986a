/- JournalPlays answers true for any room and any calls; nothing that was there has turned. -/
import Derived.Test.YtpchmdfkifbciaaJkOpen
import Derived.Test.YtpchmdfkifbciaaJkPlaysS
import Derived.Test.YtpchmdfkifbciaaJkSave
import Derived.Test.YtpchmdfkifbciaaJkRefE
import Derived.Test.YtpchmdfkifbciaaJnLives
import Derived.Test.YtpchmdfkifbciaaJnParam
namespace Go.Proofs.Ytpchmdfkifbciaa
open Go.RowKit

theorem op_cells {w : World} {b : Nat} {c0 c1 c2 : Value} {t : TypeId} (h : w.heap[b]? = some (.cells #[c0, c1, c2] t (0, 0))) :
    w.cell? ⟨b, 0, none⟩ = some c0 ∧ w.cell? ⟨b, 1, none⟩ = some c1 ∧ w.cell? ⟨b, 2, none⟩ = some c2 := by
  refine ⟨?_, ?_, ?_⟩ <;> (rw [cell_of_row w b _ _ _ _ h]; rfl)
theorem box_lt {w : World} {b : Nat} {o : Obj} (h : w.heap[b]? = some o) : b < w.heap.size := by
  rcases Nat.lt_or_ge b w.heap.size with h' | h'
  · exact h'
  · rw [Array.getElem?_eq_none h'] at h; cases h
theorem box_j {w w' : World} {jb db g : Nat} {R : Nat → Prop} {S' : DS} {J' : JS} {ob : Obj} (hs : JStep w jb db R w' S' J') (hb : w.heap[g]? = some ob) (nr : ¬ R g) : w'.heap[g]? = some ob := by
  obtain ⟨_, _, t, _⟩ := hs
  exact (t.block g (box_lt hb) nr).trans hb
theorem box_x {B : Nat} {w w' : World} {xb xd g : Nat} {Q : Nat → Prop} {S' : DS} {J' : JS} {ob : Obj} (hs : XStep B w xb xd Q w' S' J') (hb : w.heap[g]? = some ob) (nq : ¬ Q g) : w'.heap[g]? = some ob := by
  obtain ⟨_, _, t, _⟩ := hs
  exact (t.block g (box_lt hb) nq).trans hb
theorem PW.dev {B : Nat} {w0 w : World} {jb db xb xd : Nat} {R Q : Nat → Prop} {S : DS} {J : JS} {Sx : DS} {Jx : JS} (h : PW B w0 w jb db xb xd R Q S J Sx Jx) : w.cell? ⟨xb, 0, none⟩ = some (.pointer (some ⟨xd, 0, none⟩)) := by
  obtain ⟨_, _, _, c0, _⟩ := h.x.cells
  exact c0
theorem ps_start {k : Nat} {S : DS} (h : Calm k S ⟨[], [], false⟩) : PS 0 S ∧ PJ 0 ⟨[], [], false⟩ :=
  ⟨⟨[], [], h.image, by simp, h.log, (fun r hr => by cases hr), Nat.le_refl _⟩, by simp, by simp, (fun r hr => by cases hr)⟩
/-- The document's journal, made anew. -/
theorem xnew {B : Nat} {w0 w3 w4 : World} {jb db xd : Nat} {X4 : Nat → Prop} {S3 : DS} {J3 : JS} {k : Nat} (hB : B ≤ w0.heap.size) (ha : JAt B w0 w3 jb db S3 J3) (hr : Rk w4 xd X4 (newS k)) (hn : ∀ k, X4 k → w3.heap.size ≤ k) (hb : Below w3.heap.size w3 w4) :
    ∃ R Q, PW B w0 (w4.alloc (.cells #[.pointer (some ⟨xd, 0, none⟩), .slice none 0 0, .slice none 0 0, .bool false] 37)) jb db w4.heap.size xd R Q S3 J3 (newS k) J0 := by
  obtain ⟨R, jd, hR, be⟩ := ha
  have hs := be.size
  have hs4 := hb.size
  have ha4 : Below w4.heap.size w4 (w4.alloc (.cells #[.pointer (some ⟨xd, 0, none⟩), .slice none 0 0, .slice none 0 0, .bool false] 37)) := (Below.refl _ _).alloc (Nat.le_refl _) _
  have hsz5 := ha4.size
  refine ⟨R, fun j => X4 j ∨ j = w4.heap.size, (jd.below hb).below ha4, ⟨X4, fun j => j = w4.heap.size, ⟨⟨.slice none 0 0, .slice none 0 0, [], rfl, ?_, heap_alloc_new _ _, ?_, (fun h => absurd rfl h), World.ownsRow_nil _ _ _ _, (fun j hj => by cases hj), (fun i hi => by simp [J0] at hi)⟩, hr.below ha4, ?_, ?_, ?_, by omega⟩, fun _ => Iff.rfl⟩, ?_, hR, (be.trans (hb.mono (by omega))).trans (ha4.mono (by omega))⟩
  · intro j hj; subst hj; simp
  · exact ⟨none, 0, 0, rfl, rfl, Nat.le_refl _, by omega, (fun _ => rfl), (fun ad h => by cases h)⟩
  · intro j hj hx; subst hj; exact absurd (hr.rlt _ hx) (Nat.lt_irrefl _)
  · intro j hj; have := hn j hj; omega
  · intro j hj; subst hj; omega
  · intro j hj hq
    have := jd.rlt j hj
    rcases hq with h | h
    · have := hn j h; omega
    · omega
set_option linter.unusedSimpArgs false in
set_option maxRecDepth 100000 in
set_option maxHeartbeats 6400000 in
theorem plays_law (x : Nat) (lv : Value) (os : List JOp) (w : World) (hx : x ≤ 18446744073709551615) (hl : JOps w lv os) :
    Calls Try.prog 3 #[.int .u64 (x : Int), lv] w fun e w' => e = .returned (.bool true) ∧ Below w.heap.size w w' := by
  have HLS := hid hl
  obtain ⟨ao, n, cap, rfl, rfl, hc, hcap, hnone, -⟩ := hl
  obtain ⟨k, hk⟩ : ∃ k : Nat, k = 3 + x % 30 := ⟨_, rfl⟩
  have hk3 : 3 ≤ k := by omega
  have hk32 : k ≤ 32 := by omega
  have ek : (3 : Int) + (x : Int) % 30 = (k : Int) := by omega
  have HX : Hid (IntKind.i64.wrap ((x : Int) % 30) = (x : Int) % 30) := hid (IntWalk.i64_in _ ⟨by omega, by omega⟩)
  obtain ⟨f1, f2, f3⟩ := calm_format k [] (by simp) (by simp [sec]; omega)
  have F1 := hid f1
  have F2 := hid f2
  have F3 := hid f3
  clear f1 f2 f3 hk
  go_enter Try.func3, Try.ntmps3
  go_wp2_with fail
  refine (new_ok k _ (by omega) (by omega)).mono ?_
  rintro e w2 ⟨db, RD, rfl, hd2, hr2, hb2⟩
  have HA2 := hid (At.new hd2 hr2 hb2)
  clear hd2 hr2 hb2
  go_wp2_with fail
  refine (At.format HA2.out (Nat.le_refl _) _ [] ⟨none, 0, 0, rfl, rfl, Nat.le_refl _, by omega, (fun _ => rfl), (fun ad h => by cases h)⟩ (fun h => absurd rfl h) F1.out).mono ?_
  rw [F2.out]
  rintro e w3 ⟨jb0, rfl, ha3⟩
  have HA3 := hid ha3
  clear ha3 HA2
  go_wp2_with fail
  refine (rnew_any k _ (by omega)).mono ?_
  rintro e w4 ⟨xd, X4, rfl, hx4, hr4, hb4⟩
  obtain ⟨R5, Q5, pw5⟩ := xnew (Nat.le_refl _) HA3.out hx4 hr4 hb4
  obtain ⟨xb, hxb⟩ : ∃ xb, xb = w4.heap.size := ⟨_, rfl⟩
  rw [← hxb] at pw5
  have PW5 := hid pw5
  clear pw5 hx4 hr4 hb4 HA3
  go_wp2_with fail
  rw [← hxb]
  refine (xsave_any w.heap.size xb xd Q5 (newS k) J0 _ [] _ PW5.out.x ⟨none, 0, 0, rfl, rfl, Nat.le_refl _, by omega, (fun _ => rfl), (fun ad h => by cases h)⟩ (fun h => absurd rfl h) (by simp)).mono ?_
  rw [F1.out, F2.out]
  rintro e w6 ⟨rfl, hs6⟩
  obtain ⟨Q6, pw6⟩ := PW5.out.stepX (Nat.le_refl _) hs6
  obtain ⟨S3, hS3⟩ : ∃ S3, S3 = (saveR (newS k) J0 []).2.1 := ⟨_, rfl⟩
  rw [← hS3] at pw6 F3
  have PW6 := hid pw6
  have PS6 := hid (ps_start F3.out)
  clear hS3 F1 F2 F3 hs6 pw6 PW5 hxb
  go_wp2_with fail
  go_loopw [8, 10, 11, 12, 13, 14, 15, 45] (fun jv _ _ _ _ _ _ xv wr => ∃ (i jb : Nat) (R Q : Nat → Prop) (S : DS) (J : JS), jv = .pointer (some ⟨jb, 0, none⟩) ∧ xv = .int .i64 i ∧ i ≤ os.length ∧ i ≤ 60 ∧ PS i S ∧ PJ i J ∧ PW w.heap.size w wr jb db xb xd R Q S J S J) (fun _ _ _ _ _ _ _ xv _ => os.length - (intOf xv).toNat)
  case atStart => exact ⟨0, jb0, _, _, S3, _, rfl, rfl, Nat.zero_le _, by omega, PS6.out.1, PS6.out.2, PW6.out⟩
  case round =>
    obtain ⟨i, jb, R, Q, S, J, rfl, rfl, hi, hi60, hps, hpj, hpw⟩ := hrel
    clear PW6 PS6
    have HPS := hid hps
    have HPJ := hid hpj
    have PW0 := hid hpw
    clear hps hpj hpw
    by_cases hlt : (i : Int) < (os.length : Int)
    · have hao : ∃ ad, ao = some ad := by cases ao with | none => exact absurd (hnone rfl) (by omega) | some ad => exact ⟨ad, rfl⟩
      obtain ⟨ad, rfl⟩ := hao
      obtain ⟨hon, ua, uc, g0, g1, g2, g3⟩ := HLS.out.get i (by omega)
      obtain ⟨o, ho⟩ : ∃ o, o = os[i] := ⟨_, rfl⟩
      rw [← ho] at hon g0 g1 g2 g3
      have k0 := cell_later PW0.out.below g0
      have k1 := cell_later PW0.out.below g1
      have k2 := cell_later PW0.out.below g2
      have HOB := hid g3
      have HON := hid hon
      clear ho hon g0 g1 g2 g3
      have PW1 := hid (PW0.out.later (Nat.le_refl _) ((Below.refl _ _).alloc (Nat.le_refl _) (.cells #[.int .i64 o.kind, .int .i64 o.n, .slice ua o.m.length uc] 40)))
      have BX1 : Hid ((wr.alloc (.cells #[.int .i64 o.kind, .int .i64 o.n, .slice ua o.m.length uc] 40)).heap[wr.heap.size]? = some (.cells #[.int .i64 o.kind, .int .i64 o.n, .slice ua o.m.length uc] 40 (0, 0))) := hid (heap_alloc_new _ _)
      have NR : Hid (¬ R wr.heap.size) := hid fun h => absurd (PW0.out.j.rlt _ h) (Nat.lt_irrefl _)
      have NQ : Hid (¬ Q wr.heap.size) := hid fun h => absurd (PW0.out.x.lt _ h).2 (Nat.lt_irrefl _)
      by_cases h60 : (60 : Int) ≤ (i : Int)
      · go_wp2_with fail
        refine (jlives_any _).mono ?_
        rintro e w8 ⟨rfl, hb8⟩
        have HB := hid (PW1.out.below.trans (hb8.mono PW1.out.below.size))
        clear hb8
        go_wp2
        go_ret
        exact ⟨rfl, HB.out⟩
      · have h60f : decide ((60 : Int) ≤ (i : Int)) = false := by simp; omega
        have hi59 : i < 60 := by omega
        clear h60 PW0
        obtain ⟨b, hb⟩ : ∃ b, b = o.m.take 3000 := ⟨_, rfl⟩
        have HB3 : Hid (b.length ≤ 3000) := hid (by rw [hb]; simp; omega)
        have HBE := hid hb
        clear hb
        have HSZ := hid (pj_size HPJ.out (by omega))
        have HRL : Hid (J.recs.length ≤ 1000000000) := hid (by have := HPJ.out.2.1; omega)
        by_cases k1' : o.kind = 1
        · have e1 : (o.kind == 1) = true := by simpa using k1'
          clear k1'
          obtain ⟨hps9, hpj9⟩ := ps_add HPS.out HPJ.out b HB3.out
          obtain ⟨er, her⟩ : ∃ er, er = addE S J b := ⟨_, rfl⟩
          have HE := hid her.symm
          clear her
          have PWD := hid (PW1.out.later (Nat.le_refl _) ((Below.refl _ _).drew))
          have BXD : Hid ((wr.alloc (.cells #[.int .i64 o.kind, .int .i64 o.n, .slice ua o.m.length uc] 40)).drew.heap[wr.heap.size]? = some (.cells #[.int .i64 o.kind, .int .i64 o.n, .slice ua o.m.length uc] 40 (0, 0))) := hid BX1.out
          have hEE : (er != er) = false := by simp
          go_wp2_with fail
          refine wp_region_held_drew (S := fun W => W.cell? ⟨wr.heap.size, 2, none⟩ = some (.slice ua o.m.length uc)) (by kernel_rfl) (op_cells BX1.out).2.2 (fun hHeld => ?_)
          refine wpAnyH_take (i := 0) (v := ?pav0) rfl (by kernel_rfl) (by kernel_rfl) (by kernel_rfl) (fun _ _ _ h => h) (Or.inl ⟨by rfl, ?pay0⟩) (by assumption) ?par0
          case pay0 => (intro w hSw; (try dsimp only at hSw); go_simp; try with_reducible rfl)
          (try simp only [Act.put, List.setIfInBounds_toArray, List.set_cons_zero, List.set_cons_succ, List.getElem_toArray, List.getElem_cons_succ, List.getElem_cons_zero])
          refine wpAnyH_take (i := 1) (v := ?pav1) rfl (by kernel_rfl) (by kernel_rfl) (by kernel_rfl) (fun _ _ _ h => h) (Or.inl ⟨by rfl, ?pay1⟩) (by assumption) ?par1
          case pay1 => (intro w hSw; (try dsimp only at hSw); go_simp; try with_reducible rfl)
          (try simp only [Act.put, List.setIfInBounds_toArray, List.set_cons_zero, List.set_cons_succ, List.getElem_toArray, List.getElem_cons_succ, List.getElem_cons_zero])
          refine wpAnyH_take (i := 2) (v := ?pav2) rfl (by kernel_rfl) (by kernel_rfl) (by kernel_rfl) (fun _ _ _ h => h) (Or.inl ⟨by rfl, ?pay2⟩) (by assumption) ?par2
          case pay2 => (intro w hSw; (try dsimp only at hSw); go_simp; try with_reducible rfl)
          (try simp only [Act.put, List.setIfInBounds_toArray, List.set_cons_zero, List.set_cons_succ, List.getElem_toArray, List.getElem_cons_succ, List.getElem_cons_zero])
          refine wpAnyH_take (i := 5) (v := ?pav5) rfl (by kernel_rfl) (by kernel_rfl) (by kernel_rfl) (fun _ _ _ h => h) (Or.inl ⟨by rfl, ?pay5⟩) (by assumption) ?par5
          case pay5 => (intro w hSw; (try dsimp only at hSw); go_simp; try with_reducible rfl)
          (try simp only [Act.put, List.setIfInBounds_toArray, List.set_cons_zero, List.set_cons_succ, List.getElem_toArray, List.getElem_cons_succ, List.getElem_cons_zero])
          refine wpAnyH_take (i := 6) (v := ?pav6) rfl (by kernel_rfl) (by kernel_rfl) (by kernel_rfl) (fun _ _ _ h => h) (Or.inl ⟨by rfl, ?pay6⟩) (by assumption) ?par6
          case pay6 => (intro w hSw; (try dsimp only at hSw); go_simp; try with_reducible rfl)
          (try simp only [Act.put, List.setIfInBounds_toArray, List.set_cons_zero, List.set_cons_succ, List.getElem_toArray, List.getElem_cons_succ, List.getElem_cons_zero])
          refine wpAnyH_take (i := 7) (v := ?pav7) rfl (by kernel_rfl) (by kernel_rfl) (by kernel_rfl) (fun _ _ _ h => h) (Or.inl ⟨by rfl, ?pay7⟩) (by assumption) ?par7
          case pay7 => (intro w hSw; (try dsimp only at hSw); go_simp; try with_reducible rfl)
          (try simp only [Act.put, List.setIfInBounds_toArray, List.set_cons_zero, List.set_cons_succ, List.getElem_toArray, List.getElem_cons_succ, List.getElem_cons_zero])
          refine wpAnyH_ready (rs := [3]) (by kernel_rfl) (by simp) ?_
          refine AllReadyH.cons rfl (fun K hK => ?_) AllReadyH.nil
          rw [if_pos (by rfl)]
          go_wp2_with fail
          refine (small_any _ o.m _ (HOB.out.below PWD.out.below)).mono ?_
          rintro e w5 ⟨sa, sn, sc, rfl, hs1, hs2, rfl⟩
          rw [← HBE.out] at hs1
          have HSB := hid hs1
          have HST : Hid (∀ w', But R (wr.alloc (.cells #[.int .i64 o.kind, .int .i64 o.n, .slice ua o.m.length uc] 40)).drew w' → Bts w' (.slice sa sn sc) b) := hid (stay hs1 fun hr k hk h => by have h1 := ownB_small hs2 (old_of HOB.out); rw [← HBE.out] at h1; have := h1 hr k hk; have := PWD.out.above k h; omega)
          clear hs1 hs2
          go_wp2_with fail
          refine hK.out _ _ (op_cells BXD.out).2.2 (fun hHeld => ?_)
          try clear hK K
          (try simp only [Act.put, List.setIfInBounds_toArray, List.set_cons_zero, List.set_cons_succ, List.getElem_toArray, List.getElem_cons_succ, List.getElem_cons_zero])
          refine wpAnyH_ready (rs := [4]) (by kernel_rfl) (by simp) ?_
          refine AllReadyH.cons rfl (fun K hK => ?_) AllReadyH.nil
          rw [if_pos (by rfl)]
          go_wp2_with fail
          refine (add_any jb db R S J _ b _ PWD.out.j HSB.out HST.out HSZ.out).mono ?_
          rw [HE.out]
          rintro e w6 ⟨rfl, hs6⟩
          have BX6 := hid (box_j hs6 BXD.out NR.out)
          obtain ⟨R6, pw6⟩ := PWD.out.stepJ (Nat.le_refl _) hs6
          have PW6 := hid pw6
          clear pw6 hs6
          go_wp2_with fail
          refine hK.out _ _ (op_cells BX6.out).2.2 (fun hHeld => ?_)
          try clear hK K
          (try simp only [Act.put, List.setIfInBounds_toArray, List.set_cons_zero, List.set_cons_succ, List.getElem_toArray, List.getElem_cons_succ, List.getElem_cons_zero])
          refine wpAnyH_ready (rs := [8]) (by kernel_rfl) (by simp) ?_
          refine AllReadyH.cons rfl (fun K hK => ?_) AllReadyH.nil
          rw [if_pos (by rfl)]
          go_wp2_with fail
          refine (small_any _ o.m _ (HOB.out.below PW6.out.below)).mono ?_
          rintro e w7 ⟨ta, tn, tc, rfl, ht1, ht2, rfl⟩
          rw [← HBE.out] at ht1
          have HTB := hid ht1
          have HTO : Hid (Old w.heap.size (.slice ta tn tc) b) := hid (by rw [HBE.out]; exact ownB_small ht2 (old_of HOB.out))
          clear ht1 ht2
          go_wp2_with fail
          refine hK.out _ _ (op_cells BX6.out).2.2 (fun hHeld => ?_)
          try clear hK K
          (try simp only [Act.put, List.setIfInBounds_toArray, List.set_cons_zero, List.set_cons_succ, List.getElem_toArray, List.getElem_cons_succ, List.getElem_cons_zero])
          refine wpAnyH_ready (rs := [9]) (by kernel_rfl) (by simp) ?_
          refine AllReadyH.cons rfl (fun K hK => ?_) AllReadyH.nil
          rw [if_pos (by rfl)]
          go_wp2_with fail
          refine (xadd_any w.heap.size xb xd Q S J _ b _ PW6.out.x HTB.out HTO.out HB3.out HRL.out).mono ?_
          rw [HE.out]
          rintro e w8 ⟨rfl, hs8⟩
          have c8 := (op_cells (box_x hs8 BX6.out NQ.out)).2.2
          obtain ⟨Q8, pw8⟩ := PW6.out.stepX (Nat.le_refl _) hs8
          have PW9 := hid pw8
          clear hs8 pw8
          go_wp2_with fail
          refine hK.out _ _ c8 (fun hHeld => ?_)
          clear c8
          try clear hK K
          (try simp only [Act.put, List.setIfInBounds_toArray, List.set_cons_zero, List.set_cons_succ, List.getElem_toArray, List.getElem_cons_succ, List.getElem_cons_zero])
          refine wpAnyH_take (i := 10) (v := ?pav10) rfl (by kernel_rfl) (by kernel_rfl) (by kernel_rfl) (fun _ _ _ h => h) (Or.inl ⟨by rfl, ?pay10⟩) (by assumption) ?par10
          case pay10 => (intro w hSw; (try dsimp only at hSw); go_simp; try with_reducible rfl)
          (try simp only [Act.put, List.setIfInBounds_toArray, List.set_cons_zero, List.set_cons_succ, List.getElem_toArray, List.getElem_cons_succ, List.getElem_cons_zero])
          refine wpAnyH_take (i := 11) (v := ?pav11) rfl (by kernel_rfl) (by kernel_rfl) (by kernel_rfl) (fun _ _ _ h => h) (Or.inl ⟨by rfl, ?pay11⟩) (by assumption) ?par11
          case pay11 => (intro w hSw; (try dsimp only at hSw); go_simp; try with_reducible rfl)
          (try simp only [Act.put, List.setIfInBounds_toArray, List.set_cons_zero, List.set_cons_succ, List.getElem_toArray, List.getElem_cons_succ, List.getElem_cons_zero])
          refine wpAnyH_done (by kernel_rfl) ?_ _
          have PS9 := hid hps9
          have PJ9 := hid hpj9
          clear hps9 hpj9
          obtain ⟨RJ9, RD9, jdv9, -⟩ := PW9.out.j
          obtain ⟨X9, Y9, xdv9, -⟩ := PW9.out.x
          have JN9 := hid jdv9.j
          have XJ9 := hid xdv9.j
          have HIM9 := hid (Nat.le_trans PJ9.out.1 (show 3000 ≤ 100000000000 by omega))
          have HSZ9 := hid (pj_size PJ9.out (by omega))
          clear jdv9 xdv9
          go_wp2_with fail
          refine (alike_any w.heap.size _ db xb xd RJ9 Y9 _ _ JN9.out XJ9.out HIM9.out HSZ9.out).mono ?_
          rintro e w10 ⟨rfl, hb10⟩
          have PW10 := hid (PW9.out.later (Nat.le_refl _) hb10)
          clear hb10
          go_wp2
          go_roundw
          case rel => exact ⟨i + 1, _, _, _, _, _, rfl, by go_num, by omega, by omega, PS9.out, PJ9.out, PW10.out⟩
          case measure => simp [intOf]; omega
        · have e1 : (o.kind == 1) = false := by simpa using k1'
          clear k1'
          by_cases k2' : o.kind = 2
          · have e2 : (o.kind == 2) = true := by simpa using k2'
            clear k2'
            obtain ⟨hps0, hpj0⟩ := ps_sync HPS.out HPJ.out
            have hps9 := hps0.mono
            have hpj9 := hpj0.mono
            clear hps0 hpj0
            obtain ⟨er, her⟩ : ∃ er, er = syncE S J := ⟨_, rfl⟩
            have HE := hid her.symm
            clear her
            have hEE : (er != er) = false := by simp
            go_wp2_with fail
            refine (jsync_any jb db R S J _ PW1.out.j).mono ?_
            rw [HE.out]
            rintro e w6 ⟨rfl, hs6⟩
            obtain ⟨R6, pw6⟩ := PW1.out.stepJ (Nat.le_refl _) hs6
            have PW6 := hid pw6
            clear hs6 pw6
            go_wp2_with fail
            refine (xsync_any w.heap.size xb xd Q S J _ PW6.out.x).mono ?_
            rw [HE.out]
            rintro e w8 ⟨rfl, hs8⟩
            obtain ⟨Q8, pw8⟩ := PW6.out.stepX (Nat.le_refl _) hs8
            have PW9 := hid pw8
            clear hs8 pw8
            have PS9 := hid hps9
            have PJ9 := hid hpj9
            clear hps9 hpj9
            obtain ⟨RJ9, RD9, jdv9, -⟩ := PW9.out.j
            obtain ⟨X9, Y9, xdv9, -⟩ := PW9.out.x
            have JN9 := hid jdv9.j
            have XJ9 := hid xdv9.j
            have HIM9 := hid (Nat.le_trans PJ9.out.1 (show 3000 ≤ 100000000000 by omega))
            have HSZ9 := hid (pj_size PJ9.out (by omega))
            clear jdv9 xdv9
            go_wp2_with fail
            refine (alike_any w.heap.size _ db xb xd RJ9 Y9 _ _ JN9.out XJ9.out HIM9.out HSZ9.out).mono ?_
            rintro e w10 ⟨rfl, hb10⟩
            have PW10 := hid (PW9.out.later (Nat.le_refl _) hb10)
            clear hb10
            go_wp2
            go_roundw
            case rel => exact ⟨i + 1, _, _, _, _, _, rfl, by go_num, by omega, by omega, PS9.out, PJ9.out, PW10.out⟩
            case measure => simp [intOf]; omega
          · have e2 : (o.kind == 2) = false := by simpa using k2'
            clear k2'
            by_cases k3' : o.kind = 3
            · have e3 : (o.kind == 3) = true := by simpa using k3'
              clear k3'
              obtain ⟨hps0, hpj0⟩ := ps_save HPS.out HPJ.out b HB3.out
              have hps9 := hps0.mono
              have hpj9 := hpj0.mono
              clear hps0 hpj0
              obtain ⟨er, her⟩ : ∃ er, er = (saveR S J b).1 := ⟨_, rfl⟩
              have HE := hid her.symm
              clear her
              have PWD := hid (PW1.out.later (Nat.le_refl _) ((Below.refl _ _).drew))
              have BXD : Hid ((wr.alloc (.cells #[.int .i64 o.kind, .int .i64 o.n, .slice ua o.m.length uc] 40)).drew.heap[wr.heap.size]? = some (.cells #[.int .i64 o.kind, .int .i64 o.n, .slice ua o.m.length uc] 40 (0, 0))) := hid BX1.out
              have hEE : (er != er) = false := by simp
              go_wp2_with fail
              refine wp_region_held_drew (S := fun W => W.cell? ⟨wr.heap.size, 2, none⟩ = some (.slice ua o.m.length uc)) (by kernel_rfl) (op_cells BX1.out).2.2 (fun hHeld => ?_)
              refine wpAnyH_take (i := 0) (v := ?pbv0) rfl (by kernel_rfl) (by kernel_rfl) (by kernel_rfl) (fun _ _ _ h => h) (Or.inl ⟨by rfl, ?pby0⟩) (by assumption) ?pbr0
              case pby0 => (intro w hSw; (try dsimp only at hSw); go_simp; try with_reducible rfl)
              (try simp only [Act.put, List.setIfInBounds_toArray, List.set_cons_zero, List.set_cons_succ, List.getElem_toArray, List.getElem_cons_succ, List.getElem_cons_zero])
              refine wpAnyH_take (i := 1) (v := ?pbv1) rfl (by kernel_rfl) (by kernel_rfl) (by kernel_rfl) (fun _ _ _ h => h) (Or.inl ⟨by rfl, ?pby1⟩) (by assumption) ?pbr1
              case pby1 => (intro w hSw; (try dsimp only at hSw); go_simp; try with_reducible rfl)
              (try simp only [Act.put, List.setIfInBounds_toArray, List.set_cons_zero, List.set_cons_succ, List.getElem_toArray, List.getElem_cons_succ, List.getElem_cons_zero])
              refine wpAnyH_take (i := 2) (v := ?pbv2) rfl (by kernel_rfl) (by kernel_rfl) (by kernel_rfl) (fun _ _ _ h => h) (Or.inl ⟨by rfl, ?pby2⟩) (by assumption) ?pbr2
              case pby2 => (intro w hSw; (try dsimp only at hSw); go_simp; try with_reducible rfl)
              (try simp only [Act.put, List.setIfInBounds_toArray, List.set_cons_zero, List.set_cons_succ, List.getElem_toArray, List.getElem_cons_succ, List.getElem_cons_zero])
              refine wpAnyH_take (i := 5) (v := ?pbv5) rfl (by kernel_rfl) (by kernel_rfl) (by kernel_rfl) (fun _ _ _ h => h) (Or.inl ⟨by rfl, ?pby5⟩) (by assumption) ?pbr5
              case pby5 => (intro w hSw; (try dsimp only at hSw); go_simp; try with_reducible rfl)
              (try simp only [Act.put, List.setIfInBounds_toArray, List.set_cons_zero, List.set_cons_succ, List.getElem_toArray, List.getElem_cons_succ, List.getElem_cons_zero])
              refine wpAnyH_take (i := 6) (v := ?pbv6) rfl (by kernel_rfl) (by kernel_rfl) (by kernel_rfl) (fun _ _ _ h => h) (Or.inl ⟨by rfl, ?pby6⟩) (by assumption) ?pbr6
              case pby6 => (intro w hSw; (try dsimp only at hSw); go_simp; try with_reducible rfl)
              (try simp only [Act.put, List.setIfInBounds_toArray, List.set_cons_zero, List.set_cons_succ, List.getElem_toArray, List.getElem_cons_succ, List.getElem_cons_zero])
              refine wpAnyH_take (i := 7) (v := ?pbv7) rfl (by kernel_rfl) (by kernel_rfl) (by kernel_rfl) (fun _ _ _ h => h) (Or.inl ⟨by rfl, ?pby7⟩) (by assumption) ?pbr7
              case pby7 => (intro w hSw; (try dsimp only at hSw); go_simp; try with_reducible rfl)
              (try simp only [Act.put, List.setIfInBounds_toArray, List.set_cons_zero, List.set_cons_succ, List.getElem_toArray, List.getElem_cons_succ, List.getElem_cons_zero])
              refine wpAnyH_ready (rs := [3]) (by kernel_rfl) (by simp) ?_
              refine AllReadyH.cons rfl (fun K hK => ?_) AllReadyH.nil
              rw [if_pos (by rfl)]
              go_wp2_with fail
              refine (small_any _ o.m _ (HOB.out.below PWD.out.below)).mono ?_
              rintro e w5 ⟨sa, sn, sc, rfl, hs1, hs2, rfl⟩
              rw [← HBE.out] at hs1
              have HSB := hid hs1
              have HST : Hid (∀ w', But R (wr.alloc (.cells #[.int .i64 o.kind, .int .i64 o.n, .slice ua o.m.length uc] 40)).drew w' → Bts w' (.slice sa sn sc) b) := hid (stay hs1 fun hr k hk h => by have h1 := ownB_small hs2 (old_of HOB.out); rw [← HBE.out] at h1; have := h1 hr k hk; have := PWD.out.above k h; omega)
              clear hs1 hs2
              go_wp2_with fail
              refine hK.out _ _ (op_cells BXD.out).2.2 (fun hHeld => ?_)
              try clear hK K
              (try simp only [Act.put, List.setIfInBounds_toArray, List.set_cons_zero, List.set_cons_succ, List.getElem_toArray, List.getElem_cons_succ, List.getElem_cons_zero])
              refine wpAnyH_ready (rs := [4]) (by kernel_rfl) (by simp) ?_
              refine AllReadyH.cons rfl (fun K hK => ?_) AllReadyH.nil
              rw [if_pos (by rfl)]
              go_wp2_with fail
              refine (save_any jb db R S J _ b _ PWD.out.j HSB.out HST.out).mono ?_
              rw [HE.out]
              rintro e w6 ⟨rfl, hs6⟩
              have BX6 := hid (box_j hs6 BXD.out NR.out)
              obtain ⟨R6, pw6⟩ := PWD.out.stepJ (Nat.le_refl _) hs6
              have PW6 := hid pw6
              clear pw6 hs6
              go_wp2_with fail
              refine hK.out _ _ (op_cells BX6.out).2.2 (fun hHeld => ?_)
              try clear hK K
              (try simp only [Act.put, List.setIfInBounds_toArray, List.set_cons_zero, List.set_cons_succ, List.getElem_toArray, List.getElem_cons_succ, List.getElem_cons_zero])
              refine wpAnyH_ready (rs := [8]) (by kernel_rfl) (by simp) ?_
              refine AllReadyH.cons rfl (fun K hK => ?_) AllReadyH.nil
              rw [if_pos (by rfl)]
              go_wp2_with fail
              refine (small_any _ o.m _ (HOB.out.below PW6.out.below)).mono ?_
              rintro e w7 ⟨ta, tn, tc, rfl, ht1, ht2, rfl⟩
              rw [← HBE.out] at ht1
              have HTB := hid ht1
              have HTO : Hid (Old w.heap.size (.slice ta tn tc) b) := hid (by rw [HBE.out]; exact ownB_small ht2 (old_of HOB.out))
              clear ht1 ht2
              go_wp2_with fail
              refine hK.out _ _ (op_cells BX6.out).2.2 (fun hHeld => ?_)
              try clear hK K
              (try simp only [Act.put, List.setIfInBounds_toArray, List.set_cons_zero, List.set_cons_succ, List.getElem_toArray, List.getElem_cons_succ, List.getElem_cons_zero])
              refine wpAnyH_ready (rs := [9]) (by kernel_rfl) (by simp) ?_
              refine AllReadyH.cons rfl (fun K hK => ?_) AllReadyH.nil
              rw [if_pos (by rfl)]
              go_wp2_with fail
              refine (xsave_any w.heap.size xb xd Q S J _ b _ PW6.out.x HTB.out HTO.out HB3.out).mono ?_
              rw [HE.out]
              rintro e w8 ⟨rfl, hs8⟩
              have c8 := (op_cells (box_x hs8 BX6.out NQ.out)).2.2
              obtain ⟨Q8, pw8⟩ := PW6.out.stepX (Nat.le_refl _) hs8
              have PW9 := hid pw8
              clear hs8 pw8
              go_wp2_with fail
              refine hK.out _ _ c8 (fun hHeld => ?_)
              clear c8
              try clear hK K
              (try simp only [Act.put, List.setIfInBounds_toArray, List.set_cons_zero, List.set_cons_succ, List.getElem_toArray, List.getElem_cons_succ, List.getElem_cons_zero])
              refine wpAnyH_take (i := 10) (v := ?pbv10) rfl (by kernel_rfl) (by kernel_rfl) (by kernel_rfl) (fun _ _ _ h => h) (Or.inl ⟨by rfl, ?pby10⟩) (by assumption) ?pbr10
              case pby10 => (intro w hSw; (try dsimp only at hSw); go_simp; try with_reducible rfl)
              (try simp only [Act.put, List.setIfInBounds_toArray, List.set_cons_zero, List.set_cons_succ, List.getElem_toArray, List.getElem_cons_succ, List.getElem_cons_zero])
              refine wpAnyH_take (i := 11) (v := ?pbv11) rfl (by kernel_rfl) (by kernel_rfl) (by kernel_rfl) (fun _ _ _ h => h) (Or.inl ⟨by rfl, ?pby11⟩) (by assumption) ?pbr11
              case pby11 => (intro w hSw; (try dsimp only at hSw); go_simp; try with_reducible rfl)
              (try simp only [Act.put, List.setIfInBounds_toArray, List.set_cons_zero, List.set_cons_succ, List.getElem_toArray, List.getElem_cons_succ, List.getElem_cons_zero])
              refine wpAnyH_done (by kernel_rfl) ?_ _
              have PS9 := hid hps9
              have PJ9 := hid hpj9
              clear hps9 hpj9
              obtain ⟨RJ9, RD9, jdv9, -⟩ := PW9.out.j
              obtain ⟨X9, Y9, xdv9, -⟩ := PW9.out.x
              have JN9 := hid jdv9.j
              have XJ9 := hid xdv9.j
              have HIM9 := hid (Nat.le_trans PJ9.out.1 (show 3000 ≤ 100000000000 by omega))
              have HSZ9 := hid (pj_size PJ9.out (by omega))
              clear jdv9 xdv9
              go_wp2_with fail
              refine (alike_any w.heap.size _ db xb xd RJ9 Y9 _ _ JN9.out XJ9.out HIM9.out HSZ9.out).mono ?_
              rintro e w10 ⟨rfl, hb10⟩
              have PW10 := hid (PW9.out.later (Nat.le_refl _) hb10)
              clear hb10
              go_wp2
              go_roundw
              case rel => exact ⟨i + 1, _, _, _, _, _, rfl, by go_num, by omega, by omega, PS9.out, PJ9.out, PW10.out⟩
              case measure => simp [intOf]; omega
            · have e3 : (o.kind == 3) = false := by simpa using k3'
              clear k3'
              by_cases k4' : o.kind = 4
              · have e4 : (o.kind == 4) = true := by simpa using k4'
                clear k4'
                have hps9 : PS (i + 1) (stopS S o.n) := HPS.out.mono.alike rfl rfl
                have hpj9 := HPJ.out.mono
                go_wp2_with fail
                refine (PW1.out.j.disk fun RD d => stop_any db RD S o.n _ d HON.out).mono ?_
                rintro e w6 ⟨rfl, hs6⟩
                have BX5 := hid (box_j hs6 BX1.out NR.out)
                obtain ⟨R6, pw6⟩ := PW1.out.stepJ (Nat.le_refl _) hs6
                have PW5 := hid pw6
                have PW6 := hid (pw6.later (Nat.le_refl _) ((Below.refl _ _).drew))
                have BX6 : Hid (w6.drew.heap[wr.heap.size]? = some (.cells #[.int .i64 o.kind, .int .i64 o.n, .slice ua o.m.length uc] 40 (0, 0))) := hid BX5.out
                clear hs6 pw6
                go_wp2_with fail
                refine wp_region_held_drew (S := fun W => W.cell? ⟨xb, 0, none⟩ = some (.pointer (some ⟨xd, 0, none⟩)) ∧ W.cell? ⟨wr.heap.size, 1, none⟩ = some (.int .i64 o.n)) (by kernel_rfl) ⟨PW5.out.dev, (op_cells BX5.out).2.1⟩ (fun hHeld => ?_)
                refine wpAnyH_take (i := 0) (v := ?pcv0) rfl (by kernel_rfl) (by kernel_rfl) (by kernel_rfl) (fun _ _ _ h => h) (Or.inl ⟨by rfl, ?pcy0⟩) (by assumption) ?pcr0
                case pcy0 => (intro w hSw; (try dsimp only at hSw); go_simp; try with_reducible rfl)
                (try simp only [Act.put, List.setIfInBounds_toArray, List.set_cons_zero, List.set_cons_succ, List.getElem_toArray, List.getElem_cons_succ, List.getElem_cons_zero])
                refine wpAnyH_take (i := 1) (v := ?pcv1) rfl (by kernel_rfl) (by kernel_rfl) (by kernel_rfl) (fun _ _ _ h => h) (Or.inl ⟨by rfl, ?pcy1⟩) (by assumption) ?pcr1
                case pcy1 => (intro w hSw; (try dsimp only at hSw); go_simp; try with_reducible rfl)
                (try simp only [Act.put, List.setIfInBounds_toArray, List.set_cons_zero, List.set_cons_succ, List.getElem_toArray, List.getElem_cons_succ, List.getElem_cons_zero])
                refine wpAnyH_take (i := 2) (v := ?pcv2) rfl (by kernel_rfl) (by kernel_rfl) (by kernel_rfl) (fun _ _ _ h => h) (Or.inl ⟨by rfl, ?pcy2⟩) (by assumption) ?pcr2
                case pcy2 => (intro w hSw; (try dsimp only at hSw); go_simp; try with_reducible rfl)
                (try simp only [Act.put, List.setIfInBounds_toArray, List.set_cons_zero, List.set_cons_succ, List.getElem_toArray, List.getElem_cons_succ, List.getElem_cons_zero])
                refine wpAnyH_take (i := 3) (v := ?pcv3) rfl (by kernel_rfl) (by kernel_rfl) (by kernel_rfl) (fun _ _ _ h => h) (Or.inl ⟨by rfl, ?pcy3⟩) (by assumption) ?pcr3
                case pcy3 => (intro w hSw; (try dsimp only at hSw); go_simp; try with_reducible rfl)
                (try simp only [Act.put, List.setIfInBounds_toArray, List.set_cons_zero, List.set_cons_succ, List.getElem_toArray, List.getElem_cons_succ, List.getElem_cons_zero])
                refine wpAnyH_take (i := 4) (v := ?pcv4) rfl (by kernel_rfl) (by kernel_rfl) (by kernel_rfl) (fun _ _ _ h => h) (Or.inl ⟨by rfl, ?pcy4⟩) (by assumption) ?pcr4
                case pcy4 => (intro w hSw; (try dsimp only at hSw); go_simp; try with_reducible rfl)
                (try simp only [Act.put, List.setIfInBounds_toArray, List.set_cons_zero, List.set_cons_succ, List.getElem_toArray, List.getElem_cons_succ, List.getElem_cons_zero])
                refine wpAnyH_take (i := 5) (v := ?pcv5) rfl (by kernel_rfl) (by kernel_rfl) (by kernel_rfl) (fun _ _ _ h => h) (Or.inl ⟨by rfl, ?pcy5⟩) (by assumption) ?pcr5
                case pcy5 => (intro w hSw; (try dsimp only at hSw); go_simp; try with_reducible rfl)
                (try simp only [Act.put, List.setIfInBounds_toArray, List.set_cons_zero, List.set_cons_succ, List.getElem_toArray, List.getElem_cons_succ, List.getElem_cons_zero])
                refine wpAnyH_ready (rs := [6]) (by kernel_rfl) (by simp) ?_
                refine AllReadyH.cons rfl (fun K hK => ?_) AllReadyH.nil
                rw [if_pos (by rfl)]
                go_wp2_with fail
                refine (PW6.out.x.disk fun X _ d => rstop_any xd X S o.n _ d HON.out).mono ?_
                rintro e w8 ⟨rfl, hs8⟩
                have BX8 := hid (box_x hs8 BX6.out NQ.out)
                obtain ⟨Q8, pw8⟩ := PW6.out.stepX (Nat.le_refl _) hs8
                have PW9 := hid pw8
                clear hs8 pw8
                go_wp2_with fail
                refine hK.out _ _ ⟨PW9.out.dev, (op_cells BX8.out).2.1⟩ (fun hHeld => ?_)
                try clear hK K
                (try simp only [Act.put, List.setIfInBounds_toArray, List.set_cons_zero, List.set_cons_succ, List.getElem_toArray, List.getElem_cons_succ, List.getElem_cons_zero])
                refine wpAnyH_done (by kernel_rfl) ?_ _
                have PS9 := hid hps9
                have PJ9 := hid hpj9
                clear hps9 hpj9
                obtain ⟨RJ9, RD9, jdv9, -⟩ := PW9.out.j
                obtain ⟨X9, Y9, xdv9, -⟩ := PW9.out.x
                have JN9 := hid jdv9.j
                have XJ9 := hid xdv9.j
                have HIM9 := hid (Nat.le_trans PJ9.out.1 (show 3000 ≤ 100000000000 by omega))
                have HSZ9 := hid (pj_size PJ9.out (by omega))
                clear jdv9 xdv9
                go_wp2_with fail
                refine (alike_any w.heap.size _ db xb xd RJ9 Y9 _ _ JN9.out XJ9.out HIM9.out HSZ9.out).mono ?_
                rintro e w10 ⟨rfl, hb10⟩
                have PW10 := hid (PW9.out.later (Nat.le_refl _) hb10)
                clear hb10
                go_wp2
                go_roundw
                case rel => exact ⟨i + 1, _, _, _, _, _, rfl, by go_num, by omega, by omega, PS9.out, PJ9.out, PW10.out⟩
                case measure => simp [intOf]; omega
              · have e4 : (o.kind == 4) = false := by simpa using k4'
                clear k4'
                by_cases k5' : o.kind = 5
                · have e5 : (o.kind == 5) = true := by simpa using k5'
                  clear k5'
                  obtain ⟨im, ls, t, x1, x2, x3, x4, x5, x6, x7, x8, x9⟩ := ps_crash HPS.out o.n
                  have Y1 := hid x1
                  have Y2 := hid x2
                  have Y3 := hid x3
                  have Y4 := hid x4
                  have Y5 := hid x5
                  have Y6 := hid x6
                  have Y7 := hid x7
                  have Y8 := hid x8
                  have Y9 := hid x9
                  clear x1 x2 x3 x4 x5 x6 x7 x8 x9
                  go_wp2_with fail
                  refine (PW1.out.j.disk fun RD d => crash_any db RD S o.n _ d).mono ?_
                  rintro e w6 ⟨rfl, hs6⟩
                  have BX5 := hid (box_j hs6 BX1.out NR.out)
                  obtain ⟨R6, pw6⟩ := PW1.out.stepJ (Nat.le_refl _) hs6
                  have PW5 := hid pw6
                  have PW6 := hid (pw6.later (Nat.le_refl _) ((Below.refl _ _).drew))
                  have BX6 : Hid (w6.drew.heap[wr.heap.size]? = some (.cells #[.int .i64 o.kind, .int .i64 o.n, .slice ua o.m.length uc] 40 (0, 0))) := hid BX5.out
                  clear hs6 pw6
                  go_wp2_with fail
                  refine wp_region_held_drew (S := fun W => W.cell? ⟨xb, 0, none⟩ = some (.pointer (some ⟨xd, 0, none⟩)) ∧ W.cell? ⟨wr.heap.size, 1, none⟩ = some (.int .i64 o.n)) (by kernel_rfl) ⟨PW5.out.dev, (op_cells BX5.out).2.1⟩ (fun hHeld => ?_)
                  refine wpAnyH_take (i := 0) (v := ?pdv0) rfl (by kernel_rfl) (by kernel_rfl) (by kernel_rfl) (fun _ _ _ h => h) (Or.inl ⟨by rfl, ?pdy0⟩) (by assumption) ?pdr0
                  case pdy0 => (intro w hSw; (try dsimp only at hSw); go_simp; try with_reducible rfl)
                  (try simp only [Act.put, List.setIfInBounds_toArray, List.set_cons_zero, List.set_cons_succ, List.getElem_toArray, List.getElem_cons_succ, List.getElem_cons_zero])
                  refine wpAnyH_take (i := 1) (v := ?pdv1) rfl (by kernel_rfl) (by kernel_rfl) (by kernel_rfl) (fun _ _ _ h => h) (Or.inl ⟨by rfl, ?pdy1⟩) (by assumption) ?pdr1
                  case pdy1 => (intro w hSw; (try dsimp only at hSw); go_simp; try with_reducible rfl)
                  (try simp only [Act.put, List.setIfInBounds_toArray, List.set_cons_zero, List.set_cons_succ, List.getElem_toArray, List.getElem_cons_succ, List.getElem_cons_zero])
                  refine wpAnyH_take (i := 2) (v := ?pdv2) rfl (by kernel_rfl) (by kernel_rfl) (by kernel_rfl) (fun _ _ _ h => h) (Or.inl ⟨by rfl, ?pdy2⟩) (by assumption) ?pdr2
                  case pdy2 => (intro w hSw; (try dsimp only at hSw); go_simp; try with_reducible rfl)
                  (try simp only [Act.put, List.setIfInBounds_toArray, List.set_cons_zero, List.set_cons_succ, List.getElem_toArray, List.getElem_cons_succ, List.getElem_cons_zero])
                  refine wpAnyH_take (i := 3) (v := ?pdv3) rfl (by kernel_rfl) (by kernel_rfl) (by kernel_rfl) (fun _ _ _ h => h) (Or.inl ⟨by rfl, ?pdy3⟩) (by assumption) ?pdr3
                  case pdy3 => (intro w hSw; (try dsimp only at hSw); go_simp; try with_reducible rfl)
                  (try simp only [Act.put, List.setIfInBounds_toArray, List.set_cons_zero, List.set_cons_succ, List.getElem_toArray, List.getElem_cons_succ, List.getElem_cons_zero])
                  refine wpAnyH_take (i := 4) (v := ?pdv4) rfl (by kernel_rfl) (by kernel_rfl) (by kernel_rfl) (fun _ _ _ h => h) (Or.inl ⟨by rfl, ?pdy4⟩) (by assumption) ?pdr4
                  case pdy4 => (intro w hSw; (try dsimp only at hSw); go_simp; try with_reducible rfl)
                  (try simp only [Act.put, List.setIfInBounds_toArray, List.set_cons_zero, List.set_cons_succ, List.getElem_toArray, List.getElem_cons_succ, List.getElem_cons_zero])
                  refine wpAnyH_take (i := 5) (v := ?pdv5) rfl (by kernel_rfl) (by kernel_rfl) (by kernel_rfl) (fun _ _ _ h => h) (Or.inl ⟨by rfl, ?pdy5⟩) (by assumption) ?pdr5
                  case pdy5 => (intro w hSw; (try dsimp only at hSw); go_simp; try with_reducible rfl)
                  (try simp only [Act.put, List.setIfInBounds_toArray, List.set_cons_zero, List.set_cons_succ, List.getElem_toArray, List.getElem_cons_succ, List.getElem_cons_zero])
                  refine wpAnyH_ready (rs := [6]) (by kernel_rfl) (by simp) ?_
                  refine AllReadyH.cons rfl (fun K hK => ?_) AllReadyH.nil
                  rw [if_pos (by rfl)]
                  go_wp2_with fail
                  refine (PW6.out.x.disk fun X _ d => rcrash_any xd X S o.n _ d).mono ?_
                  rintro e w8 ⟨rfl, hs8⟩
                  have BX8 := hid (box_x hs8 BX6.out NQ.out)
                  obtain ⟨Q8, pw8⟩ := PW6.out.stepX (Nat.le_refl _) hs8
                  have PW9 := hid pw8
                  clear hs8 pw8
                  go_wp2_with fail
                  refine hK.out _ _ ⟨PW9.out.dev, (op_cells BX8.out).2.1⟩ (fun hHeld => ?_)
                  try clear hK K
                  (try simp only [Act.put, List.setIfInBounds_toArray, List.set_cons_zero, List.set_cons_succ, List.getElem_toArray, List.getElem_cons_succ, List.getElem_cons_zero])
                  refine wpAnyH_done (by kernel_rfl) ?_ _
                  have PWC := PW9
                  clear PW9
                  go_wp2_with fail
                  refine (lopen_any w.heap.size jb db xb xd _ _ (crashS S o.n) J J w _ PWC.out (Nat.le_refl _) rfl rfl Y1.out ls t Y5.out Y6.out Y9.out).mono ?_
                  rw [Y2.out]
                  rintro e w9 ⟨jb9, R9, Q9, S9, rfl, pw9, z1, z2, -, -⟩
                  have PW9 := hid pw9
                  have hps9 : PS (i + 1) S9 := ⟨im, ls, by rw [z2]; exact Y4.out, Y3.out, z1, Y7.out, by have := Y8.out; omega⟩
                  have hpj9 : PJ (i + 1) ⟨im, ls, false⟩ := ⟨Y3.out, by have := Y8.out; show ls.length ≤ _; omega, Y7.out⟩
                  clear pw9 z1 z2 PWC
                  have PS9 := hid hps9
                  have PJ9 := hid hpj9
                  clear hps9 hpj9
                  obtain ⟨RJ9, RD9, jdv9, -⟩ := PW9.out.j
                  obtain ⟨X9, Y9, xdv9, -⟩ := PW9.out.x
                  have JN9 := hid jdv9.j
                  have XJ9 := hid xdv9.j
                  have HIM9 := hid (Nat.le_trans PJ9.out.1 (show 3000 ≤ 100000000000 by omega))
                  have HSZ9 := hid (pj_size PJ9.out (by omega))
                  clear jdv9 xdv9
                  go_wp2_with fail
                  refine (alike_any w.heap.size _ db xb xd RJ9 Y9 _ _ JN9.out XJ9.out HIM9.out HSZ9.out).mono ?_
                  rintro e w10 ⟨rfl, hb10⟩
                  have PW10 := hid (PW9.out.later (Nat.le_refl _) hb10)
                  clear hb10
                  go_wp2
                  go_roundw
                  case rel => exact ⟨i + 1, _, _, _, _, _, rfl, by go_num, by omega, by omega, PS9.out, PJ9.out, PW10.out⟩
                  case measure => simp [intOf]; omega
                · have e5 : (o.kind == 5) = false := by simpa using k5'
                  clear k5'
                  have hps9 := HPS.out.mono
                  have hpj9 := HPJ.out.mono
                  have PW9 := PW1
                  have PS9 := hid hps9
                  have PJ9 := hid hpj9
                  clear hps9 hpj9
                  obtain ⟨RJ9, RD9, jdv9, -⟩ := PW9.out.j
                  obtain ⟨X9, Y9, xdv9, -⟩ := PW9.out.x
                  have JN9 := hid jdv9.j
                  have XJ9 := hid xdv9.j
                  have HIM9 := hid (Nat.le_trans PJ9.out.1 (show 3000 ≤ 100000000000 by omega))
                  have HSZ9 := hid (pj_size PJ9.out (by omega))
                  clear jdv9 xdv9
                  go_wp2_with fail
                  refine (alike_any w.heap.size _ db xb xd RJ9 Y9 _ _ JN9.out XJ9.out HIM9.out HSZ9.out).mono ?_
                  rintro e w10 ⟨rfl, hb10⟩
                  have PW10 := hid (PW9.out.later (Nat.le_refl _) hb10)
                  clear hb10
                  go_wp2
                  go_roundw
                  case rel => exact ⟨i + 1, _, _, _, _, _, rfl, by go_num, by omega, by omega, PS9.out, PJ9.out, PW10.out⟩
                  case measure => simp [intOf]; omega
    · go_wp2_with fail
      refine (jlives_any _).mono ?_
      rintro e w8 ⟨rfl, hb8⟩
      have HB := hid (PW0.out.below.trans (hb8.mono PW0.out.below.size))
      clear hb8
      go_wp2
      go_ret
      exact ⟨rfl, HB.out⟩
end Go.Proofs.Ytpchmdfkifbciaa
