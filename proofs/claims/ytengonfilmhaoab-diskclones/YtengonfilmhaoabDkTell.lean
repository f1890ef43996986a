/- What Tell does with an Op on the document's device, and that Same answers true where the two devices have the same. Conditions: the devices and the Op's bytes lie in memory. -/
import Derived.Test.YtengonfilmhaoabDkRefE
namespace Go.Proofs.Ytengonfilmhaoab
open Go.RowKit

set_option maxHeartbeats 800000 in
theorem tell1 (b : Nat) (R : Nat → Prop) (S : DS) (o : OpD) (v : Value) (w : World) (hd : Rk w b R S) (ho : IsOp w v o) (hk : o.kind = 1) :
    Calls Try.prog 18 #[.pointer (some ⟨b, 0, none⟩), v] w fun e w' => e = .returned (.int .i64 (writeE S (layE S (opL o)))) ∧ RStep w b R w' (writeS S (layS S (opL o)) (layS S (opL o))) := by
  have HD := hid hd
  obtain ⟨u, rfl, hu⟩ := ho.va
  have hn := ho.lo
  have ht := ho.ti
  have HU := hid hu
  obtain ⟨ua, uc, rfl⟩ := hu.shape
  clear hu hd ho
  obtain ⟨kind, n, m, t⟩ := o
  simp only at hk hn ht HU ⊢
  subst hk
  have BW := hid ((Below.refl w.heap.size w).alloc (Nat.le_refl _) (.cells #[.int .i64 1, .int .i64 n, .slice ua m.length uc, .int .u64 (t : Int)] 40))
  have UW := hid (HU.out.below BW.out)
  have DW := hid (HD.out.below BW.out)
  go_enter Try.func18, Try.ntmps18
  go_wp2_with fail
  refine (bytes_any _ _ _ t m _ UW.out ht).mono ?_
  rintro e w1 ⟨va1, vc1, rfl, ho1, hb1⟩
  have O1 := hid ho1
  have B1 := hid (BW.out.trans (hb1.mono BW.out.size))
  have X1 : Hid (Out R (.slice va1 (opB m (t % 100 + 1)).length vc1)) := hid fun k hk hr => by have := (ho1.lt k hk).1; have := DW.out.rlt k hr; omega
  clear ho1 hb1
  go_wp2_with fail
  refine (rappend_any b R S _ _ _ (HD.out.below B1.out) O1.out.bts X1.out (by have := opB_len m (t % 100 + 1); omega)).mono ?_
  rintro e w2 ⟨rfl, hs2⟩
  have S2 := hid (rstep_below B1.out hs2)
  clear hs2
  go_wp2
  go_ret
  exact ⟨rfl, S2.out⟩
set_option maxHeartbeats 800000 in
theorem tell2 (b : Nat) (R : Nat → Prop) (S : DS) (o : OpD) (v : Value) (w : World) (hd : Rk w b R S) (ho : IsOp w v o) (hk : o.kind = 2) :
    Calls Try.prog 18 #[.pointer (some ⟨b, 0, none⟩), v] w fun e w' => e = .returned (.int .i64 (writeE S 0)) ∧ RStep w b R w' (writeS S (syncS S) S) := by
  have HD := hid hd
  obtain ⟨u, rfl, hu⟩ := ho.va
  have hn := ho.lo
  have ht := ho.ti
  have HU := hid hu
  obtain ⟨ua, uc, rfl⟩ := hu.shape
  clear hu hd ho
  obtain ⟨kind, n, m, t⟩ := o
  simp only at hk hn ht HU ⊢
  subst hk
  have BW := hid ((Below.refl w.heap.size w).alloc (Nat.le_refl _) (.cells #[.int .i64 2, .int .i64 n, .slice ua m.length uc, .int .u64 (t : Int)] 40))
  have UW := hid (HU.out.below BW.out)
  have DW := hid (HD.out.below BW.out)
  go_enter Try.func18, Try.ntmps18
  go_wp2_with fail
  refine (rsync_any b R S _ DW.out).mono ?_
  rintro e w2 ⟨rfl, hs2⟩
  have S2 := hid (rstep_below BW.out hs2)
  clear hs2
  go_wp2
  go_ret
  exact ⟨rfl, S2.out⟩
set_option maxHeartbeats 800000 in
theorem tell3 (b : Nat) (R : Nat → Prop) (S : DS) (o : OpD) (v : Value) (w : World) (hd : Rk w b R S) (ho : IsOp w v o) (hk : o.kind = 3) :
    Calls Try.prog 18 #[.pointer (some ⟨b, 0, none⟩), v] w fun e w' => e = .returned (.int .i64 (writeE S (cutE S o.n))) ∧ RStep w b R w' (writeS S (cutS S o.n) S) := by
  have HD := hid hd
  obtain ⟨u, rfl, hu⟩ := ho.va
  have hn := ho.lo
  have ht := ho.ti
  have HU := hid hu
  obtain ⟨ua, uc, rfl⟩ := hu.shape
  clear hu hd ho
  obtain ⟨kind, n, m, t⟩ := o
  simp only at hk hn ht HU ⊢
  subst hk
  have BW := hid ((Below.refl w.heap.size w).alloc (Nat.le_refl _) (.cells #[.int .i64 3, .int .i64 n, .slice ua m.length uc, .int .u64 (t : Int)] 40))
  have UW := hid (HU.out.below BW.out)
  have DW := hid (HD.out.below BW.out)
  go_enter Try.func18, Try.ntmps18
  go_wp2_with fail
  refine (rcut_any b R S n _ DW.out).mono ?_
  rintro e w2 ⟨rfl, hs2⟩
  have S2 := hid (rstep_below BW.out hs2)
  clear hs2
  go_wp2
  go_ret
  exact ⟨rfl, S2.out⟩
set_option maxHeartbeats 800000 in
theorem tell4 (b : Nat) (R : Nat → Prop) (S : DS) (o : OpD) (v : Value) (w : World) (hd : Rk w b R S) (ho : IsOp w v o) (hk : o.kind = 4) :
    Calls Try.prog 18 #[.pointer (some ⟨b, 0, none⟩), v] w fun e w' => e = .returned (.int .i64 (writeE S (stageE S (opL o)))) ∧ RStep w b R w' (writeS S (stageS S (opL o)) S) := by
  have HD := hid hd
  obtain ⟨u, rfl, hu⟩ := ho.va
  have hn := ho.lo
  have ht := ho.ti
  have HU := hid hu
  obtain ⟨ua, uc, rfl⟩ := hu.shape
  clear hu hd ho
  obtain ⟨kind, n, m, t⟩ := o
  simp only at hk hn ht HU ⊢
  subst hk
  have BW := hid ((Below.refl w.heap.size w).alloc (Nat.le_refl _) (.cells #[.int .i64 4, .int .i64 n, .slice ua m.length uc, .int .u64 (t : Int)] 40))
  have UW := hid (HU.out.below BW.out)
  have DW := hid (HD.out.below BW.out)
  go_enter Try.func18, Try.ntmps18
  go_wp2_with fail
  refine (bytes_any _ _ _ t m _ UW.out ht).mono ?_
  rintro e w1 ⟨va1, vc1, rfl, ho1, hb1⟩
  have O1 := hid ho1
  have B1 := hid (BW.out.trans (hb1.mono BW.out.size))
  have X1 : Hid (Out R (.slice va1 (opB m (t % 100 + 1)).length vc1)) := hid fun k hk hr => by have := (ho1.lt k hk).1; have := DW.out.rlt k hr; omega
  clear ho1 hb1
  go_wp2_with fail
  refine (rstage_any b R S _ _ _ (HD.out.below B1.out) O1.out.bts X1.out (by have := opB_len m (t % 100 + 1); omega)).mono ?_
  rintro e w2 ⟨rfl, hs2⟩
  have S2 := hid (rstep_below B1.out hs2)
  clear hs2
  go_wp2
  go_ret
  exact ⟨rfl, S2.out⟩
set_option maxHeartbeats 800000 in
theorem tell5 (b : Nat) (R : Nat → Prop) (S : DS) (o : OpD) (v : Value) (w : World) (hd : Rk w b R S) (ho : IsOp w v o) (hk : o.kind = 5) :
    Calls Try.prog 18 #[.pointer (some ⟨b, 0, none⟩), v] w fun e w' => e = .returned (.int .i64 (writeE S (commitE S))) ∧ RStep w b R w' (writeS S (commitS S) S) := by
  have HD := hid hd
  obtain ⟨u, rfl, hu⟩ := ho.va
  have hn := ho.lo
  have ht := ho.ti
  have HU := hid hu
  obtain ⟨ua, uc, rfl⟩ := hu.shape
  clear hu hd ho
  obtain ⟨kind, n, m, t⟩ := o
  simp only at hk hn ht HU ⊢
  subst hk
  have BW := hid ((Below.refl w.heap.size w).alloc (Nat.le_refl _) (.cells #[.int .i64 5, .int .i64 n, .slice ua m.length uc, .int .u64 (t : Int)] 40))
  have UW := hid (HU.out.below BW.out)
  have DW := hid (HD.out.below BW.out)
  go_enter Try.func18, Try.ntmps18
  go_wp2_with fail
  refine (rcommit_any b R S _ DW.out).mono ?_
  rintro e w2 ⟨rfl, hs2⟩
  have S2 := hid (rstep_below BW.out hs2)
  clear hs2
  go_wp2
  go_ret
  exact ⟨rfl, S2.out⟩
set_option maxHeartbeats 800000 in
theorem tell6 (b : Nat) (R : Nat → Prop) (S : DS) (o : OpD) (v : Value) (w : World) (hd : Rk w b R S) (ho : IsOp w v o) (hk : o.kind = 6) :
    Calls Try.prog 18 #[.pointer (some ⟨b, 0, none⟩), v] w fun e w' => e = .returned (.int .i64 (0)) ∧ RStep w b R w' (stopS S o.n) := by
  have HD := hid hd
  obtain ⟨u, rfl, hu⟩ := ho.va
  have hn := ho.lo
  have ht := ho.ti
  have HU := hid hu
  obtain ⟨ua, uc, rfl⟩ := hu.shape
  clear hu hd ho
  obtain ⟨kind, n, m, t⟩ := o
  simp only at hk hn ht HU ⊢
  subst hk
  have BW := hid ((Below.refl w.heap.size w).alloc (Nat.le_refl _) (.cells #[.int .i64 6, .int .i64 n, .slice ua m.length uc, .int .u64 (t : Int)] 40))
  have UW := hid (HU.out.below BW.out)
  have DW := hid (HD.out.below BW.out)
  go_enter Try.func18, Try.ntmps18
  go_wp2_with fail
  refine (rstop_any b R S n _ DW.out hn).mono ?_
  rintro e w2 ⟨rfl, hs2⟩
  have S2 := hid (rstep_below BW.out hs2)
  clear hs2
  go_wp2
  go_ret
  exact ⟨rfl, S2.out⟩
set_option maxHeartbeats 800000 in
theorem tell7 (b : Nat) (R : Nat → Prop) (S : DS) (o : OpD) (v : Value) (w : World) (hd : Rk w b R S) (ho : IsOp w v o) (hk : o.kind = 7) :
    Calls Try.prog 18 #[.pointer (some ⟨b, 0, none⟩), v] w fun e w' => e = .returned (.int .i64 (0)) ∧ RStep w b R w' (crashS S o.n) := by
  have HD := hid hd
  obtain ⟨u, rfl, hu⟩ := ho.va
  have hn := ho.lo
  have ht := ho.ti
  have HU := hid hu
  obtain ⟨ua, uc, rfl⟩ := hu.shape
  clear hu hd ho
  obtain ⟨kind, n, m, t⟩ := o
  simp only at hk hn ht HU ⊢
  subst hk
  have BW := hid ((Below.refl w.heap.size w).alloc (Nat.le_refl _) (.cells #[.int .i64 7, .int .i64 n, .slice ua m.length uc, .int .u64 (t : Int)] 40))
  have UW := hid (HU.out.below BW.out)
  have DW := hid (HD.out.below BW.out)
  go_enter Try.func18, Try.ntmps18
  go_wp2_with fail
  refine (rcrash_any b R S n _ DW.out).mono ?_
  rintro e w2 ⟨rfl, hs2⟩
  have S2 := hid (rstep_below BW.out hs2)
  clear hs2
  go_wp2
  go_ret
  exact ⟨rfl, S2.out⟩
set_option maxHeartbeats 800000 in
theorem tell0 (b : Nat) (R : Nat → Prop) (S : DS) (o : OpD) (v : Value) (w : World) (hd : Rk w b R S) (ho : IsOp w v o) (hk : o.kind < 1 ∨ 7 < o.kind) :
    Calls Try.prog 18 #[.pointer (some ⟨b, 0, none⟩), v] w fun e w' => e = .returned (.int .i64 0) ∧ RStep w b R w' S := by
  have HD := hid hd
  obtain ⟨u, rfl, hu⟩ := ho.va
  obtain ⟨ua, uc, rfl⟩ := hu.shape
  clear hu hd ho
  obtain ⟨kind, n, m, t⟩ := o
  simp only at hk ⊢
  have BW := hid ((Below.refl w.heap.size w).alloc (Nat.le_refl _) (.cells #[.int .i64 kind, .int .i64 n, .slice ua m.length uc, .int .u64 (t : Int)] 40))
  have k1 : (kind == 1) = false := by simp; omega
  have k2 : (kind == 2) = false := by simp; omega
  have k3 : (kind == 3) = false := by simp; omega
  have k4 : (kind == 4) = false := by simp; omega
  have k5 : (kind == 5) = false := by simp; omega
  have k6 : (kind == 6) = false := by simp; omega
  have k7 : (kind == 7) = false := by simp; omega
  clear hk
  go_enter Try.func18, Try.ntmps18
  go_wp2
  go_ret
  exact ⟨rfl, RStep.of_below HD.out BW.out⟩
theorem tell_any (b : Nat) (R : Nat → Prop) (S : DS) (o : OpD) (v : Value) (w : World) (hd : Rk w b R S) (ho : IsOp w v o) :
    Calls Try.prog 18 #[.pointer (some ⟨b, 0, none⟩), v] w fun e w' => e = .returned (.int .i64 (doE S o)) ∧ RStep w b R w' (doS S o) := by
  unfold doE doS
  by_cases h1 : o.kind = 1
  · rw [if_pos h1, if_pos h1]; exact tell1 b R S o v w hd ho h1
  rw [if_neg h1, if_neg h1]
  by_cases h2 : o.kind = 2
  · rw [if_pos h2, if_pos h2]; exact tell2 b R S o v w hd ho h2
  rw [if_neg h2, if_neg h2]
  by_cases h3 : o.kind = 3
  · rw [if_pos h3, if_pos h3]; exact tell3 b R S o v w hd ho h3
  rw [if_neg h3, if_neg h3]
  by_cases h4 : o.kind = 4
  · rw [if_pos h4, if_pos h4]; exact tell4 b R S o v w hd ho h4
  rw [if_neg h4, if_neg h4]
  by_cases h5 : o.kind = 5
  · rw [if_pos h5, if_pos h5]; exact tell5 b R S o v w hd ho h5
  rw [if_neg h5, if_neg h5]
  by_cases h6 : o.kind = 6
  · rw [if_pos h6]; exact tell6 b R S o v w hd ho h6
  rw [if_neg h6]
  by_cases h7 : o.kind = 7
  · rw [if_pos h7]; exact tell7 b R S o v w hd ho h7
  rw [if_neg h7]
  exact tell0 b R S o v w hd ho (by omega)
set_option maxHeartbeats 1600000 in
theorem same_any (d x : Nat) (R X : Nat → Prop) (S : DS) (w : World) (hd : Dk w d R S) (hx : Rk w x X S) :
    Calls Try.prog 19 #[.pointer (some ⟨d, 0, none⟩), .pointer (some ⟨x, 0, none⟩)] w fun e w' => e = .returned (.bool true) ∧ Below w.heap.size w w' := by
  have HD := hid hd
  have HX := hid hx
  obtain ⟨iv, sv, lv, hx⟩ := hx
  have RX := hid hx
  obtain ⟨va, vc, rfl⟩ := hx.ol.shape
  obtain ⟨vi, vj, rfl⟩ := hx.oi.shape
  obtain ⟨c0, c1, c2, c3, c4, c5, c6, c7, cf⟩ := cell_eight hx.head
  clear hd hx
  have hu : ((usedS S : Int) != (usedS S : Int)) = false := by simp
  have hr : ((S.room : Int) != (S.room : Int)) = false := by simp
  have F2 : Hid (∀ q, Calls Try.prog 21 #[.pointer (some ⟨d, 0, none⟩)] (w.drewN q) fun e w' => e = .returned (.int .i64 (usedS S)) ∧ ∃ n, w' = (w.drewN q).drewN n) := hid fun q => used_any d R S (w.drewN q) (HD.out.below (drewN_below w q))
  have F3 : Hid (∀ q, Calls Try.prog 47 #[.pointer (some ⟨x, 0, none⟩)] (w.drewN q) fun e w' => e = .returned (.int .i64 (usedS S)) ∧ ∃ n, w' = (w.drewN q).drewN n) := hid fun q => rused_any x X S (w.drewN q) (HX.out.below (drewN_below w q))
  have F4 : Hid (∀ q, Calls Try.prog 22 #[.pointer (some ⟨d, 0, none⟩)] (w.drewN q) fun e w' => e = .returned (.int .i64 S.room) ∧ w' = w.drewN q) := hid fun q => room_any d R S (w.drewN q) (HD.out.below (drewN_below w q))
  cases ho : S.off with
  | true =>
    have F1 : Hid (∀ q, Calls Try.prog 20 #[.pointer (some ⟨d, 0, none⟩)] (w.drewN q) fun e w' => e = .returned (.bool true) ∧ w' = w.drewN q) := hid fun q => by have h := off_any d R S (w.drewN q) (HD.out.below (drewN_below w q)); rw [ho] at h; exact h
    rw [ho] at c7
    have HO := hid ho
    clear ho
    go_enter Try.func19, Try.ntmps19
    go_wp2_with fail
    go_quiet (first | (go_at_call 20; exact Calls.quiet_of_same (F1.out _)) | (go_at_call 21; exact Calls.quiet_of (F2.out _)) | (go_at_call 47; exact Calls.quiet_of (F3.out _)) | (go_at_call 22; exact Calls.quiet_of_same (F4.out _)))
    go_wp2_with fail
    obtain ⟨W, hW⟩ : ∃ W, W = w.drewN nq := ⟨_, rfl⟩
    rw [← hW]
    have BW : Hid (Below w.heap.size w W) := hid (by rw [hW]; exact drewN_below w nq)
    clear hW
    refine (log_any d R S W (HD.out.below BW.out)).mono ?_
    rw [toldL_off HO.out, toldE_off HO.out]
    rintro e w2 ⟨xa, xc, rfl, ho2, hb2⟩
    have B2 := hid (BW.out.trans (hb2.mono BW.out.size))
    have X2 := hid ho2.bts
    clear ho2 hb2
    go_wp2_with fail
    refine (image_any d R S w2 (HD.out.below B2.out)).mono ?_
    rw [toldL_off HO.out, toldE_off HO.out]
    rintro e w3 ⟨ya, yc, rfl, ho3, hb3⟩
    have B3 := hid (B2.out.trans (hb3.mono B2.out.size))
    have X3 := hid (X2.out.below hb3)
    have Y3 := hid ho3.bts
    have k7 := cell_later B3.out c7
    have k4 := cell_later B3.out c4
    have k1 := cell_later B3.out c1
    clear ho3 hb3 F1 F2 F3 F4
    go_wp2
    go_ret
    exact ⟨rfl, B3.out⟩
  | false =>
    have F1 : Hid (∀ q, Calls Try.prog 20 #[.pointer (some ⟨d, 0, none⟩)] (w.drewN q) fun e w' => e = .returned (.bool false) ∧ w' = w.drewN q) := hid fun q => by have h := off_any d R S (w.drewN q) (HD.out.below (drewN_below w q)); rw [ho] at h; exact h
    rw [ho] at c7
    have HO := hid ho
    clear ho
    go_enter Try.func19, Try.ntmps19
    go_wp2_with fail
    go_quiet (first | (go_at_call 20; exact Calls.quiet_of_same (F1.out _)) | (go_at_call 21; exact Calls.quiet_of (F2.out _)) | (go_at_call 47; exact Calls.quiet_of (F3.out _)) | (go_at_call 22; exact Calls.quiet_of_same (F4.out _)))
    go_wp2_with fail
    obtain ⟨W, hW⟩ : ∃ W, W = w.drewN nq := ⟨_, rfl⟩
    rw [← hW]
    have BW : Hid (Below w.heap.size w W) := hid (by rw [hW]; exact drewN_below w nq)
    clear hW
    refine (log_any d R S W (HD.out.below BW.out)).mono ?_
    rw [toldL_on HO.out, toldE_on HO.out]
    rintro e w2 ⟨xa, xc, rfl, ho2, hb2⟩
    have B2 := hid (BW.out.trans (hb2.mono BW.out.size))
    have X2 := hid ho2.bts
    clear ho2 hb2
    go_wp2_with fail
    refine (image_any d R S w2 (HD.out.below B2.out)).mono ?_
    rw [toldL_on HO.out, toldE_on HO.out]
    rintro e w3 ⟨ya, yc, rfl, ho3, hb3⟩
    have B3 := hid (B2.out.trans (hb3.mono B2.out.size))
    have X3 := hid (X2.out.below hb3)
    have Y3 := hid ho3.bts
    have k7 := cell_later B3.out c7
    have k4 := cell_later B3.out c4
    have k1 := cell_later B3.out c1
    clear ho3 hb3 F1 F2 F3 F4
    have s1 := fun q => conv_string (w3.drewN q) _ _ (X3.out.below (drewN_below w3 q))
    have s2 := fun q => conv_string (w3.drewN q) _ _ (Y3.out.below (drewN_below w3 q))
    have s3 := fun q => conv_string (w3.drewN q) _ _ ((RX.out.ol.bts.below B3.out).below (drewN_below w3 q))
    have s4 := fun q => conv_string (w3.drewN q) _ _ ((RX.out.oi.bts.below B3.out).below (drewN_below w3 q))
    go_wp2_with fail
    go_quiet (fail)
    go_wp2
    go_ret
    exact ⟨rfl, B3.out.trans ((drewN_below w3 _).mono B3.out.size)⟩
end Go.Proofs.Ytengonfilmhaoab
