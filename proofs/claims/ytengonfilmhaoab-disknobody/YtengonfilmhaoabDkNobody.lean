/- DiskNobody answers true for any Op; nothing that was there has turned. -/
import Derived.Test.YtengonfilmhaoabDkNil
import Derived.Deep.RegionWith
namespace Go.Proofs.Ytengonfilmhaoab
open Go.RowKit

set_option maxHeartbeats 800000 in
theorem nil1 (o : OpD) (v : Value) (w : World) (ho : IsOp w v o) (hk : o.kind = 1) :
    Calls Try.prog 17 #[.pointer none, v] w fun e w' => e = .returned (.int .i64 8) ∧ Below w.heap.size w w' := by
  obtain ⟨u, rfl, hu⟩ := ho.va
  have ht := ho.ti
  have HU := hid hu
  obtain ⟨ua, uc, rfl⟩ := hu.shape
  clear hu ho
  obtain ⟨kind, n, m, t⟩ := o
  simp only at hk ht HU ⊢
  subst hk
  have BW := hid ((Below.refl w.heap.size w).alloc (Nat.le_refl _) (.cells #[.int .i64 1, .int .i64 n, .slice ua m.length uc, .int .u64 (t : Int)] 40))
  have UW := hid (HU.out.below BW.out)
  go_enter Try.func17, Try.ntmps17
  go_wp2_with fail
  refine (bytes_any _ _ _ t m _ UW.out ht).mono ?_
  rintro e w1 ⟨va1, vc1, rfl, ho1, hb1⟩
  have B1 := hid (BW.out.trans (hb1.mono BW.out.size))
  clear ho1 hb1
  go_wp2_with fail
  refine (append_nil _ _ _ _).mono ?_
  rintro e w2 ⟨rfl, hb2⟩
  have B2 := hid (B1.out.trans (hb2.mono B1.out.size))
  clear hb2
  go_wp2
  go_ret
  exact ⟨rfl, B2.out⟩
set_option maxHeartbeats 800000 in
theorem nil2 (o : OpD) (v : Value) (w : World) (ho : IsOp w v o) (hk : o.kind = 2) :
    Calls Try.prog 17 #[.pointer none, v] w fun e w' => e = .returned (.int .i64 8) ∧ Below w.heap.size w w' := by
  obtain ⟨u, rfl, hu⟩ := ho.va
  have ht := ho.ti
  have HU := hid hu
  obtain ⟨ua, uc, rfl⟩ := hu.shape
  clear hu ho
  obtain ⟨kind, n, m, t⟩ := o
  simp only at hk ht HU ⊢
  subst hk
  have BW := hid ((Below.refl w.heap.size w).alloc (Nat.le_refl _) (.cells #[.int .i64 2, .int .i64 n, .slice ua m.length uc, .int .u64 (t : Int)] 40))
  have UW := hid (HU.out.below BW.out)
  go_enter Try.func17, Try.ntmps17
  go_wp2_with fail
  refine (sync_nil _).mono ?_
  rintro e w2 ⟨rfl, hb2⟩
  have B2 := hid (BW.out.trans (hb2.mono BW.out.size))
  clear hb2
  go_wp2
  go_ret
  exact ⟨rfl, B2.out⟩
set_option maxHeartbeats 800000 in
theorem nil3 (o : OpD) (v : Value) (w : World) (ho : IsOp w v o) (hk : o.kind = 3) :
    Calls Try.prog 17 #[.pointer none, v] w fun e w' => e = .returned (.int .i64 8) ∧ Below w.heap.size w w' := by
  obtain ⟨u, rfl, hu⟩ := ho.va
  have ht := ho.ti
  have HU := hid hu
  obtain ⟨ua, uc, rfl⟩ := hu.shape
  clear hu ho
  obtain ⟨kind, n, m, t⟩ := o
  simp only at hk ht HU ⊢
  subst hk
  have BW := hid ((Below.refl w.heap.size w).alloc (Nat.le_refl _) (.cells #[.int .i64 3, .int .i64 n, .slice ua m.length uc, .int .u64 (t : Int)] 40))
  have UW := hid (HU.out.below BW.out)
  go_enter Try.func17, Try.ntmps17
  go_wp2_with fail
  refine (cut_nil _ _).mono ?_
  rintro e w2 ⟨rfl, hb2⟩
  have B2 := hid (BW.out.trans (hb2.mono BW.out.size))
  clear hb2
  go_wp2
  go_ret
  exact ⟨rfl, B2.out⟩
set_option maxHeartbeats 800000 in
theorem nil4 (o : OpD) (v : Value) (w : World) (ho : IsOp w v o) (hk : o.kind = 4) :
    Calls Try.prog 17 #[.pointer none, v] w fun e w' => e = .returned (.int .i64 8) ∧ Below w.heap.size w w' := by
  obtain ⟨u, rfl, hu⟩ := ho.va
  have ht := ho.ti
  have HU := hid hu
  obtain ⟨ua, uc, rfl⟩ := hu.shape
  clear hu ho
  obtain ⟨kind, n, m, t⟩ := o
  simp only at hk ht HU ⊢
  subst hk
  have BW := hid ((Below.refl w.heap.size w).alloc (Nat.le_refl _) (.cells #[.int .i64 4, .int .i64 n, .slice ua m.length uc, .int .u64 (t : Int)] 40))
  have UW := hid (HU.out.below BW.out)
  go_enter Try.func17, Try.ntmps17
  go_wp2_with fail
  refine (bytes_any _ _ _ t m _ UW.out ht).mono ?_
  rintro e w1 ⟨va1, vc1, rfl, ho1, hb1⟩
  have B1 := hid (BW.out.trans (hb1.mono BW.out.size))
  clear ho1 hb1
  go_wp2_with fail
  refine (stage_nil _ _ _ _).mono ?_
  rintro e w2 ⟨rfl, hb2⟩
  have B2 := hid (B1.out.trans (hb2.mono B1.out.size))
  clear hb2
  go_wp2
  go_ret
  exact ⟨rfl, B2.out⟩
set_option maxHeartbeats 800000 in
theorem nil5 (o : OpD) (v : Value) (w : World) (ho : IsOp w v o) (hk : o.kind = 5) :
    Calls Try.prog 17 #[.pointer none, v] w fun e w' => e = .returned (.int .i64 8) ∧ Below w.heap.size w w' := by
  obtain ⟨u, rfl, hu⟩ := ho.va
  have ht := ho.ti
  have HU := hid hu
  obtain ⟨ua, uc, rfl⟩ := hu.shape
  clear hu ho
  obtain ⟨kind, n, m, t⟩ := o
  simp only at hk ht HU ⊢
  subst hk
  have BW := hid ((Below.refl w.heap.size w).alloc (Nat.le_refl _) (.cells #[.int .i64 5, .int .i64 n, .slice ua m.length uc, .int .u64 (t : Int)] 40))
  have UW := hid (HU.out.below BW.out)
  go_enter Try.func17, Try.ntmps17
  go_wp2_with fail
  refine (commit_nil _).mono ?_
  rintro e w2 ⟨rfl, hb2⟩
  have B2 := hid (BW.out.trans (hb2.mono BW.out.size))
  clear hb2
  go_wp2
  go_ret
  exact ⟨rfl, B2.out⟩
set_option maxHeartbeats 800000 in
theorem nil6 (o : OpD) (v : Value) (w : World) (ho : IsOp w v o) (hk : o.kind = 6) :
    Calls Try.prog 17 #[.pointer none, v] w fun e w' => e = .returned (.int .i64 0) ∧ Below w.heap.size w w' := by
  obtain ⟨u, rfl, hu⟩ := ho.va
  have ht := ho.ti
  have HU := hid hu
  obtain ⟨ua, uc, rfl⟩ := hu.shape
  clear hu ho
  obtain ⟨kind, n, m, t⟩ := o
  simp only at hk ht HU ⊢
  subst hk
  have BW := hid ((Below.refl w.heap.size w).alloc (Nat.le_refl _) (.cells #[.int .i64 6, .int .i64 n, .slice ua m.length uc, .int .u64 (t : Int)] 40))
  have UW := hid (HU.out.below BW.out)
  go_enter Try.func17, Try.ntmps17
  go_wp2_with fail
  refine (stop_nil _ _).mono ?_
  rintro e w2 ⟨rfl, rfl⟩
  go_wp2
  go_ret
  exact ⟨rfl, BW.out⟩
set_option maxHeartbeats 800000 in
theorem nil7 (o : OpD) (v : Value) (w : World) (ho : IsOp w v o) (hk : o.kind = 7) :
    Calls Try.prog 17 #[.pointer none, v] w fun e w' => e = .returned (.int .i64 0) ∧ Below w.heap.size w w' := by
  obtain ⟨u, rfl, hu⟩ := ho.va
  have ht := ho.ti
  have HU := hid hu
  obtain ⟨ua, uc, rfl⟩ := hu.shape
  clear hu ho
  obtain ⟨kind, n, m, t⟩ := o
  simp only at hk ht HU ⊢
  subst hk
  have BW := hid ((Below.refl w.heap.size w).alloc (Nat.le_refl _) (.cells #[.int .i64 7, .int .i64 n, .slice ua m.length uc, .int .u64 (t : Int)] 40))
  have UW := hid (HU.out.below BW.out)
  go_enter Try.func17, Try.ntmps17
  go_wp2_with fail
  refine (crash_nil _ _).mono ?_
  rintro e w2 ⟨rfl, rfl⟩
  go_wp2
  go_ret
  exact ⟨rfl, BW.out⟩
set_option maxHeartbeats 800000 in
theorem nil0 (o : OpD) (v : Value) (w : World) (ho : IsOp w v o) (hk : o.kind < 1 ∨ 7 < o.kind) :
    Calls Try.prog 17 #[.pointer none, v] w fun e w' => e = .returned (.int .i64 0) ∧ Below w.heap.size w w' := by
  obtain ⟨u, rfl, hu⟩ := ho.va
  obtain ⟨ua, uc, rfl⟩ := hu.shape
  clear hu ho
  obtain ⟨kind, n, m, t⟩ := o
  simp only at hk ⊢
  have BW := hid ((Below.refl w.heap.size w).alloc (Nat.le_refl _) (.cells #[.int .i64 kind, .int .i64 n, .slice ua m.length uc, .int .u64 (t : Int)] 40))
  have k1 : (kind == 1) = false := by simp; omega
  have k2 : (kind == 2) = false := by simp; omega
  have k3 : (kind == 3) = false := by simp; omega
  have k4 : (kind == 4) = false := by simp; omega
  have k5 : (kind == 5) = false := by simp; omega
  have k6 : (kind == 6) = false := by simp; omega
  have k7 : (kind == 7) = false := by simp; omega
  clear hk
  go_enter Try.func17, Try.ntmps17
  go_wp2
  go_ret
  exact ⟨rfl, BW.out⟩
theorem do_nil (o : OpD) (v : Value) (w : World) (ho : IsOp w v o) :
    Calls Try.prog 17 #[.pointer none, v] w fun e w' => e = .returned (.int .i64 (if 1 ≤ o.kind ∧ o.kind ≤ 5 then 8 else 0)) ∧ Below w.heap.size w w' := by
  by_cases h : 1 ≤ o.kind ∧ o.kind ≤ 5
  · rw [if_pos h]
    by_cases h1 : o.kind = 1
    · exact nil1 o v w ho h1
    by_cases h2 : o.kind = 2
    · exact nil2 o v w ho h2
    by_cases h3 : o.kind = 3
    · exact nil3 o v w ho h3
    by_cases h4 : o.kind = 4
    · exact nil4 o v w ho h4
    exact nil5 o v w ho (by omega)
  · rw [if_neg h]
    by_cases h6 : o.kind = 6
    · exact nil6 o v w ho h6
    by_cases h7 : o.kind = 7
    · exact nil7 o v w ho h7
    exact nil0 o v w ho (by omega)
set_option maxHeartbeats 1600000 in
theorem nobody_any (o : OpD) (v : Value) (w : World) (ho : IsOp w v o) :
    Calls Try.prog 5 #[v] w fun e w' => e = .returned (.bool true) ∧ Below w.heap.size w w' := by
  have HO := hid ho
  obtain ⟨u, rfl, hu⟩ := ho.va
  obtain ⟨ua, uc, rfl⟩ := hu.shape
  clear hu ho
  have HB := hid ((Below.refl w.heap.size w).alloc (Nat.le_refl _) (.cells #[.int .i64 o.kind, .int .i64 o.n, .slice ua o.m.length uc, .int .u64 (o.t : Int)] 40))
  have HC : Hid ((w.alloc (.cells #[.int .i64 o.kind, .int .i64 o.n, .slice ua o.m.length uc, .int .u64 (o.t : Int)] 40)).cell? ⟨w.heap.size, 0, none⟩ = some (.int .i64 o.kind)) := hid (by rw [World.cell?_alloc_at _ _ _ _ rfl]; rfl)
  have hs : w.heap.size < (w.alloc (.cells #[.int .i64 o.kind, .int .i64 o.n, .slice ua o.m.length uc, .int .u64 (o.t : Int)] 40)).heap.size := by simp
  obtain ⟨W, hW⟩ : ∃ W, W = w.alloc (.cells #[.int .i64 o.kind, .int .i64 o.n, .slice ua o.m.length uc, .int .u64 (o.t : Int)] 40) := ⟨_, rfl⟩
  rw [← hW] at HB HC hs
  have HW := hid hW
  clear hW
  obtain ⟨E, hE⟩ : ∃ E : Int, E = (if 1 ≤ o.kind ∧ o.kind ≤ 5 then 8 else 0) := ⟨_, rfl⟩
  have HE := hid hE
  clear hE
  go_enter Try.func5, Try.ntmps5
  go_wp2_with fail
  rw [← HW.out]
  refine (do_nil o _ W (HO.out.below HB.out)).mono ?_
  rw [← HE.out]
  rintro e w1 ⟨rfl, hb1⟩
  have C1 := hid (cell_later hb1 HC.out)
  have B1 := hid (HB.out.trans (hb1.mono (Nat.le_of_lt hs)))
  have hs1 : w.heap.size < w1.heap.size := Nat.lt_of_lt_of_le hs hb1.size
  clear hb1 HW hs HB HC
  go_wp2_with fail
  refine (log_nil _).mono ?_
  rintro e w2 ⟨rfl, hb2⟩
  have C2 := hid (cell_later hb2 C1.out)
  have B2 := hid (B1.out.trans (hb2.mono B1.out.size))
  have hs2 : w.heap.size < w2.heap.size := Nat.lt_of_lt_of_le hs1 hb2.size
  clear hb2 hs1 B1 C1
  go_wp2_with fail
  refine (image_nil _).mono ?_
  rintro e w3 ⟨rfl, hb3⟩
  have c3 := cell_later hb3 C2.out
  have B3 := hid (B2.out.trans (hb3.mono B2.out.size))
  clear hb3 hs2 B2 C2
  by_cases k : 1 ≤ o.kind ∧ o.kind ≤ 5
  · obtain ⟨k1, k2⟩ := k
    have hE : E = 8 := by rw [HE.out, if_pos ⟨k1, k2⟩]
    subst hE
    clear HE
    go_wp2_with (first | (go_at_call 20; refine (off_nil _).mono ?_; rintro e w4 ⟨rfl, rfl⟩) | (go_at_call 21; refine (used_nil _).mono ?_; rintro e w5 ⟨rfl, rfl⟩) | (go_at_call 22; refine (room_nil _).mono ?_; rintro e w6 ⟨rfl, rfl⟩) | (go_at_call 12; refine (copy_nil _).mono ?_; rintro e w7 ⟨rfl, rfl⟩) | (go_at_call 6; refine (lives_any _).mono ?_; rintro e w8 ⟨rfl, hb8⟩; have HB := hid hb8; clear hb8))
    go_ret
    exact ⟨rfl, B3.out.trans (HB.out.mono B3.out.size)⟩
  · have hE : E = 0 := by rw [HE.out, if_neg k]
    subst hE
    clear HE
    by_cases k1 : 1 ≤ o.kind
    · have k2 : decide (o.kind ≤ 5) = false := by simp; omega
      clear k
      go_wp2_with (first | (go_at_call 20; refine (off_nil _).mono ?_; rintro e w4 ⟨rfl, rfl⟩) | (go_at_call 21; refine (used_nil _).mono ?_; rintro e w5 ⟨rfl, rfl⟩) | (go_at_call 22; refine (room_nil _).mono ?_; rintro e w6 ⟨rfl, rfl⟩) | (go_at_call 12; refine (copy_nil _).mono ?_; rintro e w7 ⟨rfl, rfl⟩) | (go_at_call 6; refine (lives_any _).mono ?_; rintro e w8 ⟨rfl, hb8⟩; have HB := hid hb8; clear hb8))
      go_ret
      exact ⟨rfl, B3.out.trans (HB.out.mono B3.out.size)⟩
    · have k2 : decide (1 ≤ o.kind) = false := by simp; omega
      clear k k1
      go_wp2_with (first | (go_at_call 20; refine (off_nil _).mono ?_; rintro e w4 ⟨rfl, rfl⟩) | (go_at_call 21; refine (used_nil _).mono ?_; rintro e w5 ⟨rfl, rfl⟩) | (go_at_call 22; refine (room_nil _).mono ?_; rintro e w6 ⟨rfl, rfl⟩) | (go_at_call 12; refine (copy_nil _).mono ?_; rintro e w7 ⟨rfl, rfl⟩) | (go_at_call 6; refine (lives_any _).mono ?_; rintro e w8 ⟨rfl, hb8⟩; have HB := hid hb8; clear hb8))
      go_ret
      exact ⟨rfl, B3.out.trans (HB.out.mono B3.out.size)⟩
end Go.Proofs.Ytengonfilmhaoab
