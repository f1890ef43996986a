/- What Do answers and leaves, for any Op, on a device. Conditions: the device and the Op's bytes lie in memory. -/
import Derived.Test.YtengonfilmhaoabDkOp
namespace Go.Proofs.Ytengonfilmhaoab
open Go.RowKit

/-- An Op. -/
structure OpD where
  kind : Int
  n : Int
  m : List UInt8
  t : Nat
def opL (o : OpD) : List UInt8 := opB o.m (o.t % 100 + 1)
def doE (S : DS) (o : OpD) : Int :=
  if o.kind = 1 then writeE S (layE S (opL o)) else if o.kind = 2 then writeE S 0 else if o.kind = 3 then writeE S (cutE S o.n) else if o.kind = 4 then writeE S (stageE S (opL o)) else if o.kind = 5 then writeE S (commitE S) else 0
def doS (S : DS) (o : OpD) : DS :=
  if o.kind = 1 then writeS S (layS S (opL o)) (layS S (opL o)) else if o.kind = 2 then writeS S (syncS S) S else if o.kind = 3 then writeS S (cutS S o.n) S else if o.kind = 4 then writeS S (stageS S (opL o)) S else if o.kind = 5 then writeS S (commitS S) S
  else if o.kind = 6 then stopS S o.n else if o.kind = 7 then crashS S o.n else S
/-- v is an Op's value, its bytes lie in memory. -/
structure IsOp (w : World) (v : Value) (o : OpD) : Prop where
  lo : o.n ≤ 9223372036854775807
  ti : o.t ≤ 18446744073709551615
  va : ∃ u, v = .agg #[.int .i64 o.kind, .int .i64 o.n, u, .int .u64 (o.t : Int)] ∧ Bts w u o.m
theorem IsOp.below {w w' : World} {v : Value} {o : OpD} (h : IsOp w v o) (hb : Below w.heap.size w w') : IsOp w' v o := by
  obtain ⟨a, b, u, e, hu⟩ := h
  exact ⟨a, b, u, e, hu.below hb⟩
set_option maxHeartbeats 800000 in
theorem do1 (b : Nat) (R : Nat → Prop) (S : DS) (o : OpD) (v : Value) (w : World) (hd : Dk w b R S) (ho : IsOp w v o) (hk : o.kind = 1) :
    Calls Try.prog 17 #[.pointer (some ⟨b, 0, none⟩), v] w fun e w' => e = .returned (.int .i64 (writeE S (layE S (opL o)))) ∧ Step w b R w' (writeS S (layS S (opL o)) (layS S (opL o))) := by
  have HD := hid hd
  obtain ⟨u, rfl, hu⟩ := ho.va
  have hn := ho.lo
  have ht := ho.ti
  have HU := hid hu
  obtain ⟨ua, uc, rfl⟩ := hu.shape
  clear hu hd ho
  obtain ⟨kind, n, m, t⟩ := o
  simp only at hk hn ht HU ⊢
  subst hk
  have BW := hid ((Below.refl w.heap.size w).alloc (Nat.le_refl _) (.cells #[.int .i64 1, .int .i64 n, .slice ua m.length uc, .int .u64 (t : Int)] 40))
  have UW := hid (HU.out.below BW.out)
  have DW := hid (HD.out.below BW.out)
  go_enter Try.func17, Try.ntmps17
  go_wp2_with fail
  refine (bytes_any _ _ _ t m _ UW.out ht).mono ?_
  rintro e w1 ⟨va1, vc1, rfl, ho1, hb1⟩
  have O1 := hid ho1
  have B1 := hid (BW.out.trans (hb1.mono BW.out.size))
  clear ho1 hb1
  go_wp2_with fail
  refine (append_any b R S _ _ _ (HD.out.below B1.out) O1.out.bts (by have := opB_len m (t % 100 + 1); omega)).mono ?_
  rintro e w2 ⟨rfl, hs2⟩
  have S2 := hid (step_below B1.out hs2)
  clear hs2
  go_wp2
  go_ret
  exact ⟨rfl, S2.out⟩
set_option maxHeartbeats 800000 in
theorem do2 (b : Nat) (R : Nat → Prop) (S : DS) (o : OpD) (v : Value) (w : World) (hd : Dk w b R S) (ho : IsOp w v o) (hk : o.kind = 2) :
    Calls Try.prog 17 #[.pointer (some ⟨b, 0, none⟩), v] w fun e w' => e = .returned (.int .i64 (writeE S 0)) ∧ Step w b R w' (writeS S (syncS S) S) := by
  have HD := hid hd
  obtain ⟨u, rfl, hu⟩ := ho.va
  have hn := ho.lo
  have ht := ho.ti
  have HU := hid hu
  obtain ⟨ua, uc, rfl⟩ := hu.shape
  clear hu hd ho
  obtain ⟨kind, n, m, t⟩ := o
  simp only at hk hn ht HU ⊢
  subst hk
  have BW := hid ((Below.refl w.heap.size w).alloc (Nat.le_refl _) (.cells #[.int .i64 2, .int .i64 n, .slice ua m.length uc, .int .u64 (t : Int)] 40))
  have UW := hid (HU.out.below BW.out)
  have DW := hid (HD.out.below BW.out)
  go_enter Try.func17, Try.ntmps17
  go_wp2_with fail
  refine (sync_any b R S _ DW.out).mono ?_
  rintro e w2 ⟨rfl, hs2⟩
  have S2 := hid (step_below BW.out hs2)
  clear hs2
  go_wp2
  go_ret
  exact ⟨rfl, S2.out⟩
set_option maxHeartbeats 800000 in
theorem do3 (b : Nat) (R : Nat → Prop) (S : DS) (o : OpD) (v : Value) (w : World) (hd : Dk w b R S) (ho : IsOp w v o) (hk : o.kind = 3) :
    Calls Try.prog 17 #[.pointer (some ⟨b, 0, none⟩), v] w fun e w' => e = .returned (.int .i64 (writeE S (cutE S o.n))) ∧ Step w b R w' (writeS S (cutS S o.n) S) := by
  have HD := hid hd
  obtain ⟨u, rfl, hu⟩ := ho.va
  have hn := ho.lo
  have ht := ho.ti
  have HU := hid hu
  obtain ⟨ua, uc, rfl⟩ := hu.shape
  clear hu hd ho
  obtain ⟨kind, n, m, t⟩ := o
  simp only at hk hn ht HU ⊢
  subst hk
  have BW := hid ((Below.refl w.heap.size w).alloc (Nat.le_refl _) (.cells #[.int .i64 3, .int .i64 n, .slice ua m.length uc, .int .u64 (t : Int)] 40))
  have UW := hid (HU.out.below BW.out)
  have DW := hid (HD.out.below BW.out)
  go_enter Try.func17, Try.ntmps17
  go_wp2_with fail
  refine (cut_any b R S n _ DW.out).mono ?_
  rintro e w2 ⟨rfl, hs2⟩
  have S2 := hid (step_below BW.out hs2)
  clear hs2
  go_wp2
  go_ret
  exact ⟨rfl, S2.out⟩
set_option maxHeartbeats 800000 in
theorem do4 (b : Nat) (R : Nat → Prop) (S : DS) (o : OpD) (v : Value) (w : World) (hd : Dk w b R S) (ho : IsOp w v o) (hk : o.kind = 4) :
    Calls Try.prog 17 #[.pointer (some ⟨b, 0, none⟩), v] w fun e w' => e = .returned (.int .i64 (writeE S (stageE S (opL o)))) ∧ Step w b R w' (writeS S (stageS S (opL o)) S) := by
  have HD := hid hd
  obtain ⟨u, rfl, hu⟩ := ho.va
  have hn := ho.lo
  have ht := ho.ti
  have HU := hid hu
  obtain ⟨ua, uc, rfl⟩ := hu.shape
  clear hu hd ho
  obtain ⟨kind, n, m, t⟩ := o
  simp only at hk hn ht HU ⊢
  subst hk
  have BW := hid ((Below.refl w.heap.size w).alloc (Nat.le_refl _) (.cells #[.int .i64 4, .int .i64 n, .slice ua m.length uc, .int .u64 (t : Int)] 40))
  have UW := hid (HU.out.below BW.out)
  have DW := hid (HD.out.below BW.out)
  go_enter Try.func17, Try.ntmps17
  go_wp2_with fail
  refine (bytes_any _ _ _ t m _ UW.out ht).mono ?_
  rintro e w1 ⟨va1, vc1, rfl, ho1, hb1⟩
  have O1 := hid ho1
  have B1 := hid (BW.out.trans (hb1.mono BW.out.size))
  clear ho1 hb1
  go_wp2_with fail
  refine (stage_any b R S _ _ _ (HD.out.below B1.out) O1.out.bts (by have := opB_len m (t % 100 + 1); omega)).mono ?_
  rintro e w2 ⟨rfl, hs2⟩
  have S2 := hid (step_below B1.out hs2)
  clear hs2
  go_wp2
  go_ret
  exact ⟨rfl, S2.out⟩
set_option maxHeartbeats 800000 in
theorem do5 (b : Nat) (R : Nat → Prop) (S : DS) (o : OpD) (v : Value) (w : World) (hd : Dk w b R S) (ho : IsOp w v o) (hk : o.kind = 5) :
    Calls Try.prog 17 #[.pointer (some ⟨b, 0, none⟩), v] w fun e w' => e = .returned (.int .i64 (writeE S (commitE S))) ∧ Step w b R w' (writeS S (commitS S) S) := by
  have HD := hid hd
  obtain ⟨u, rfl, hu⟩ := ho.va
  have hn := ho.lo
  have ht := ho.ti
  have HU := hid hu
  obtain ⟨ua, uc, rfl⟩ := hu.shape
  clear hu hd ho
  obtain ⟨kind, n, m, t⟩ := o
  simp only at hk hn ht HU ⊢
  subst hk
  have BW := hid ((Below.refl w.heap.size w).alloc (Nat.le_refl _) (.cells #[.int .i64 5, .int .i64 n, .slice ua m.length uc, .int .u64 (t : Int)] 40))
  have UW := hid (HU.out.below BW.out)
  have DW := hid (HD.out.below BW.out)
  go_enter Try.func17, Try.ntmps17
  go_wp2_with fail
  refine (commit_any b R S _ DW.out).mono ?_
  rintro e w2 ⟨rfl, hs2⟩
  have S2 := hid (step_below BW.out hs2)
  clear hs2
  go_wp2
  go_ret
  exact ⟨rfl, S2.out⟩
set_option maxHeartbeats 800000 in
theorem do6 (b : Nat) (R : Nat → Prop) (S : DS) (o : OpD) (v : Value) (w : World) (hd : Dk w b R S) (ho : IsOp w v o) (hk : o.kind = 6) :
    Calls Try.prog 17 #[.pointer (some ⟨b, 0, none⟩), v] w fun e w' => e = .returned (.int .i64 (0)) ∧ Step w b R w' (stopS S o.n) := by
  have HD := hid hd
  obtain ⟨u, rfl, hu⟩ := ho.va
  have hn := ho.lo
  have ht := ho.ti
  have HU := hid hu
  obtain ⟨ua, uc, rfl⟩ := hu.shape
  clear hu hd ho
  obtain ⟨kind, n, m, t⟩ := o
  simp only at hk hn ht HU ⊢
  subst hk
  have BW := hid ((Below.refl w.heap.size w).alloc (Nat.le_refl _) (.cells #[.int .i64 6, .int .i64 n, .slice ua m.length uc, .int .u64 (t : Int)] 40))
  have UW := hid (HU.out.below BW.out)
  have DW := hid (HD.out.below BW.out)
  go_enter Try.func17, Try.ntmps17
  go_wp2_with fail
  refine (stop_any b R S n _ DW.out hn).mono ?_
  rintro e w2 ⟨rfl, hs2⟩
  have S2 := hid (step_below BW.out hs2)
  clear hs2
  go_wp2
  go_ret
  exact ⟨rfl, S2.out⟩
set_option maxHeartbeats 800000 in
theorem do7 (b : Nat) (R : Nat → Prop) (S : DS) (o : OpD) (v : Value) (w : World) (hd : Dk w b R S) (ho : IsOp w v o) (hk : o.kind = 7) :
    Calls Try.prog 17 #[.pointer (some ⟨b, 0, none⟩), v] w fun e w' => e = .returned (.int .i64 (0)) ∧ Step w b R w' (crashS S o.n) := by
  have HD := hid hd
  obtain ⟨u, rfl, hu⟩ := ho.va
  have hn := ho.lo
  have ht := ho.ti
  have HU := hid hu
  obtain ⟨ua, uc, rfl⟩ := hu.shape
  clear hu hd ho
  obtain ⟨kind, n, m, t⟩ := o
  simp only at hk hn ht HU ⊢
  subst hk
  have BW := hid ((Below.refl w.heap.size w).alloc (Nat.le_refl _) (.cells #[.int .i64 7, .int .i64 n, .slice ua m.length uc, .int .u64 (t : Int)] 40))
  have UW := hid (HU.out.below BW.out)
  have DW := hid (HD.out.below BW.out)
  go_enter Try.func17, Try.ntmps17
  go_wp2_with fail
  refine (crash_any b R S n _ DW.out).mono ?_
  rintro e w2 ⟨rfl, hs2⟩
  have S2 := hid (step_below BW.out hs2)
  clear hs2
  go_wp2
  go_ret
  exact ⟨rfl, S2.out⟩
set_option maxHeartbeats 800000 in
theorem do0 (b : Nat) (R : Nat → Prop) (S : DS) (o : OpD) (v : Value) (w : World) (hd : Dk w b R S) (ho : IsOp w v o) (hk : o.kind < 1 ∨ 7 < o.kind) :
    Calls Try.prog 17 #[.pointer (some ⟨b, 0, none⟩), v] w fun e w' => e = .returned (.int .i64 0) ∧ Step w b R w' S := by
  have HD := hid hd
  obtain ⟨u, rfl, hu⟩ := ho.va
  obtain ⟨ua, uc, rfl⟩ := hu.shape
  clear hu hd ho
  obtain ⟨kind, n, m, t⟩ := o
  simp only at hk ⊢
  have BW := hid ((Below.refl w.heap.size w).alloc (Nat.le_refl _) (.cells #[.int .i64 kind, .int .i64 n, .slice ua m.length uc, .int .u64 (t : Int)] 40))
  have k1 : (kind == 1) = false := by simp; omega
  have k2 : (kind == 2) = false := by simp; omega
  have k3 : (kind == 3) = false := by simp; omega
  have k4 : (kind == 4) = false := by simp; omega
  have k5 : (kind == 5) = false := by simp; omega
  have k6 : (kind == 6) = false := by simp; omega
  have k7 : (kind == 7) = false := by simp; omega
  clear hk
  go_enter Try.func17, Try.ntmps17
  go_wp2
  go_ret
  exact ⟨rfl, Step.of_below HD.out BW.out⟩
theorem do_any (b : Nat) (R : Nat → Prop) (S : DS) (o : OpD) (v : Value) (w : World) (hd : Dk w b R S) (ho : IsOp w v o) :
    Calls Try.prog 17 #[.pointer (some ⟨b, 0, none⟩), v] w fun e w' => e = .returned (.int .i64 (doE S o)) ∧ Step w b R w' (doS S o) := by
  unfold doE doS
  by_cases h1 : o.kind = 1
  · rw [if_pos h1, if_pos h1]; exact do1 b R S o v w hd ho h1
  rw [if_neg h1, if_neg h1]
  by_cases h2 : o.kind = 2
  · rw [if_pos h2, if_pos h2]; exact do2 b R S o v w hd ho h2
  rw [if_neg h2, if_neg h2]
  by_cases h3 : o.kind = 3
  · rw [if_pos h3, if_pos h3]; exact do3 b R S o v w hd ho h3
  rw [if_neg h3, if_neg h3]
  by_cases h4 : o.kind = 4
  · rw [if_pos h4, if_pos h4]; exact do4 b R S o v w hd ho h4
  rw [if_neg h4, if_neg h4]
  by_cases h5 : o.kind = 5
  · rw [if_pos h5, if_pos h5]; exact do5 b R S o v w hd ho h5
  rw [if_neg h5, if_neg h5]
  by_cases h6 : o.kind = 6
  · rw [if_pos h6]; exact do6 b R S o v w hd ho h6
  rw [if_neg h6]
  by_cases h7 : o.kind = 7
  · rw [if_pos h7]; exact do7 b R S o v w hd ho h7
  rw [if_neg h7]
  exact do0 b R S o v w hd ho (by omega)
end Go.Proofs.Ytengonfilmhaoab
