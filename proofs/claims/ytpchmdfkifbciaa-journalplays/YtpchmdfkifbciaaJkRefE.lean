/- What the document's device does in a crash; what Tell does with an Op on it; and that Same answers true where the two devices have the same. Conditions: the devices lie in memory. -/
import Derived.Test.YtpchmdfkifbciaaJkRefD
namespace Go.Proofs.Ytpchmdfkifbciaa
open Go.RowKit

theorem join_take (u : Value) (l : List UInt8) (N : Nat) (w : World) (hu : Bts w u l) (hl : l.length = N) (hz : N ≤ 140737488355328) :
    Calls Try.prog 51 #[u, .slice none 0 0] w fun e w' => ∃ va vc, e = .returned (.slice va N vc) ∧ Own w' w.heap.size (.slice va N vc) l ∧ Below w.heap.size w w' := by
  have h := join_any u (.slice none 0 0) l [] w hu (Own.nil _ 0).bts (by simp; omega)
  rw [List.append_nil, List.length_nil, Nat.add_zero, hl] at h
  exact h
set_option maxRecDepth 100000 in
set_option maxHeartbeats 3200000 in
theorem rcrash_any (b : Nat) (R : Nat → Prop) (S : DS) (keep : Int) (w : World) (hd : Rk w b R S) :
    Calls Try.prog 22 #[.pointer (some ⟨b, 0, none⟩), .int .i64 keep] w fun e w' => e = .returned (.tuple #[]) ∧ RStep w b R w' (crashS S keep) := by
  obtain ⟨iv, sv, lv, hd⟩ := hd
  obtain ⟨va, vc, rfl⟩ := hd.ol.shape
  have HD := hid hd
  obtain ⟨c0, c1, c2, c3, c4, c5, c6, c7, cf⟩ := cell_eight hd.head
  have h1 := hd.ok.log
  have h2 := hd.ok.sure
  obtain ⟨-, g1, g2, g3⟩ := own_len hd.ol
  clear hd
  have e1 : IntKind.i64.wrap ((S.log.length : Int) - (S.sure : Int)) = (S.log.length : Int) - (S.sure : Int) := IntWalk.i64_in _ ⟨by omega, by omega⟩
  by_cases k0 : keep < 0
  · have p2 : ¬ ((S.log.length : Int) - (S.sure : Int) < 0) := by omega
    have e4 : IntKind.i64.wrap (S.sure : Int) = (S.sure : Int) := IntWalk.i64_in _ ⟨by omega, by omega⟩
    have p3 : ¬ ((vc : Int) < (S.sure : Int)) := by omega
    have p4 : (S.sure : Int) ≤ (vc : Int) := by omega
    have TB : Hid (Bts w (.slice va (S.sure) vc) (S.log.take (S.sure))) := hid (HD.out.ol.take (n := S.sure) (by omega)).bts
    have HTL : Hid ((S.log.take (S.sure)).length = S.sure) := hid (by rw [List.length_take]; omega)
    have HTZ : Hid (S.sure ≤ 140737488355328) := hid (by omega)
    have HC : Hid (crashS S keep = { room := S.room, image := S.image, stage := [], staged := false, log := S.log.take S.sure, sure := S.sure, off := false, left := -1 }) := hid (by unfold crashS; rw [show keepN S keep = S.sure from by unfold keepN; omega])
    have HOK : Hid (Ok { room := S.room, image := S.image, stage := [], staged := false, log := S.log.take S.sure, sure := S.sure, off := false, left := -1 }) := hid ((((HD.out.ok.surer S.sure (by omega)).short S.sure (by simp only; omega)).unstage).fresh |> fun h => by simpa only [Nat.min_self] using h)
    skip
    go_enter Try.func22, Try.ntmps22
    go_wp2_with fail
    try (go_quiet (fail); go_wp2_with fail)
    try (go_quiet (fail); go_wp2_with fail)
    go_region_with (first | (go_at_call 51; refine (join_take (.slice va (S.sure) vc) (S.log.take (S.sure)) (S.sure) _ ?_ HTL.out ?_).mono ?_; exact Bts.below TB.out (drewN_below _ _); exact HTZ.out; rintro e w2 ⟨va2, vc2, rfl, ho2, hb2'⟩; have hb2 : Below w.heap.size w w2 := ⟨hb2'.os, hb2'.tape, hb2'.output, hb2'.size, hb2'.block⟩; have hH2 := (hb2.block b HD.out.lt).trans HD.out.head; obtain ⟨k0, k1, k2, k3, k4, k5, k6, k7, kf⟩ := cell_eight hH2; have H2 := hid hH2; have B2 := hid hb2; have O2 : Hid (Own w2 w.heap.size (.slice va2 (S.sure) vc2) (S.log.take (S.sure))) := hid ho2; clear hH2 hb2 hb2' ho2))
    all_goals
      go_wp2
      try (go_region; go_wp2)
      go_end0
      rw [HC.out]
      refine ⟨rfl, HD.out.make B2.out (by first | exact ((((((But.refl (fun k => k = b) _).set (.inl rfl)).set (.inl rfl)).set (.inl rfl)).set (.inl rfl)).set (.inl rfl)).set (.inl rfl) | exact (((((((But.refl (fun k => k = b) _).set (.inl rfl)).set (.inl rfl)).set (.inl rfl)).set (.inl rfl)).set (.inl rfl)).set (.inl rfl)).drew) HOK.out ?_ (HD.out.oi.below B2.out) (Own.nil _ _) (O2.out.lower (Nat.zero_le _)) (old_in HD.out.ii) nil_in (new_in O2.out)⟩
      exact heap_setCell_same _ b 6 _ _ _ (heap_setCell_same _ b 7 _ _ _ (heap_setCell_same _ b 3 _ _ _ (heap_setCell_same _ b 2 _ _ _ (heap_setCell_same _ b 5 _ _ _ (heap_setCell_same w2 b 4 _ _ _ H2.out)))))
  · obtain ⟨q, rfl⟩ : ∃ q : Nat, keep = q := ⟨keep.toNat, by omega⟩
    by_cases k1 : (S.log.length : Int) - (S.sure : Int) < (q : Int)
    · have e2 : (S.sure : Int) + ((S.log.length : Int) - (S.sure : Int)) = (S.log.length : Int) := by omega
      have e4 : IntKind.i64.wrap (S.log.length : Int) = (S.log.length : Int) := IntWalk.i64_in _ ⟨by omega, by omega⟩
      have e3 : IntKind.i64.wrap ((S.sure : Int) + ((S.log.length : Int) - (S.sure : Int))) = (S.log.length : Int) := by rw [e2]; exact IntWalk.i64_in _ ⟨by omega, by omega⟩
      have p3 : ¬ ((vc : Int) < (S.log.length : Int)) := by omega
      have p4 : (S.log.length : Int) ≤ (vc : Int) := by omega
      have TB : Hid (Bts w (.slice va (S.log.length) vc) (S.log.take (S.log.length))) := hid (HD.out.ol.take (n := S.log.length) (by omega)).bts
      have HTL : Hid ((S.log.take (S.log.length)).length = S.log.length) := hid (by rw [List.length_take]; omega)
      have HTZ : Hid (S.log.length ≤ 140737488355328) := hid (by omega)
      have HC : Hid (crashS S q = { room := S.room, image := S.image, stage := [], staged := false, log := S.log.take S.log.length, sure := S.log.length, off := false, left := -1 }) := hid (by unfold crashS; rw [show keepN S q = S.log.length from by unfold keepN; omega])
      have HOK : Hid (Ok { room := S.room, image := S.image, stage := [], staged := false, log := S.log.take S.log.length, sure := S.log.length, off := false, left := -1 }) := hid ((((HD.out.ok.surer S.log.length (by omega)).short S.log.length (by simp only; omega)).unstage).fresh |> fun h => by simpa only [Nat.min_self] using h)
      skip
      go_enter Try.func22, Try.ntmps22
      go_wp2_with fail
      try (go_quiet (fail); go_wp2_with fail)
      try (go_quiet (fail); go_wp2_with fail)
      go_region_with (first | (go_at_call 51; refine (join_take (.slice va (S.log.length) vc) (S.log.take (S.log.length)) (S.log.length) _ ?_ HTL.out ?_).mono ?_; exact Bts.below TB.out (drewN_below _ _); exact HTZ.out; rintro e w2 ⟨va2, vc2, rfl, ho2, hb2'⟩; have hb2 : Below w.heap.size w w2 := ⟨hb2'.os, hb2'.tape, hb2'.output, hb2'.size, hb2'.block⟩; have hH2 := (hb2.block b HD.out.lt).trans HD.out.head; obtain ⟨k0, k1, k2, k3, k4, k5, k6, k7, kf⟩ := cell_eight hH2; have H2 := hid hH2; have B2 := hid hb2; have O2 : Hid (Own w2 w.heap.size (.slice va2 (S.log.length) vc2) (S.log.take (S.log.length))) := hid ho2; clear hH2 hb2 hb2' ho2))
      all_goals
        go_wp2
        try (go_region; go_wp2)
        go_end0
        rw [HC.out]
        refine ⟨rfl, HD.out.make B2.out (by first | exact ((((((But.refl (fun k => k = b) _).set (.inl rfl)).set (.inl rfl)).set (.inl rfl)).set (.inl rfl)).set (.inl rfl)).set (.inl rfl) | exact (((((((But.refl (fun k => k = b) _).set (.inl rfl)).set (.inl rfl)).set (.inl rfl)).set (.inl rfl)).set (.inl rfl)).set (.inl rfl)).drew) HOK.out ?_ (HD.out.oi.below B2.out) (Own.nil _ _) (O2.out.lower (Nat.zero_le _)) (old_in HD.out.ii) nil_in (new_in O2.out)⟩
        exact heap_setCell_same _ b 6 _ _ _ (heap_setCell_same _ b 7 _ _ _ (heap_setCell_same _ b 3 _ _ _ (heap_setCell_same _ b 2 _ _ _ (heap_setCell_same _ b 5 _ _ _ (heap_setCell_same w2 b 4 _ _ _ H2.out)))))
    · obtain ⟨N, hN⟩ : ∃ N : Nat, N = S.sure + q := ⟨_, rfl⟩
      have e2 : (S.sure : Int) + (q : Int) = (N : Int) := by omega
      have e4 : IntKind.i64.wrap (N : Int) = (N : Int) := IntWalk.i64_in _ ⟨by omega, by omega⟩
      have e3 : IntKind.i64.wrap ((S.sure : Int) + (q : Int)) = (N : Int) := by rw [e2]; exact IntWalk.i64_in _ ⟨by omega, by omega⟩
      have p3 : ¬ ((vc : Int) < (N : Int)) := by omega
      have p4 : (N : Int) ≤ (vc : Int) := by omega
      have hNl : N ≤ S.log.length := by omega
      have TB : Hid (Bts w (.slice va (N) vc) (S.log.take (N))) := hid (HD.out.ol.take (n := N) (by omega)).bts
      have HTL : Hid ((S.log.take (N)).length = N) := hid (by rw [List.length_take]; omega)
      have HTZ : Hid (N ≤ 140737488355328) := hid (by omega)
      have HC : Hid (crashS S q = { room := S.room, image := S.image, stage := [], staged := false, log := S.log.take N, sure := N, off := false, left := -1 }) := hid (by unfold crashS; rw [show keepN S q = N from by unfold keepN; omega])
      have HOK : Hid (Ok { room := S.room, image := S.image, stage := [], staged := false, log := S.log.take N, sure := N, off := false, left := -1 }) := hid ((((HD.out.ok.surer N (by omega)).short N (by simp only; omega)).unstage).fresh |> fun h => by simpa only [Nat.min_self] using h)
      clear hN
      go_enter Try.func22, Try.ntmps22
      go_wp2_with fail
      try (go_quiet (fail); go_wp2_with fail)
      try (go_quiet (fail); go_wp2_with fail)
      go_region_with (first | (go_at_call 51; refine (join_take (.slice va (N) vc) (S.log.take (N)) (N) _ ?_ HTL.out ?_).mono ?_; exact Bts.below TB.out (drewN_below _ _); exact HTZ.out; rintro e w2 ⟨va2, vc2, rfl, ho2, hb2'⟩; have hb2 : Below w.heap.size w w2 := ⟨hb2'.os, hb2'.tape, hb2'.output, hb2'.size, hb2'.block⟩; have hH2 := (hb2.block b HD.out.lt).trans HD.out.head; obtain ⟨k0, k1, k2, k3, k4, k5, k6, k7, kf⟩ := cell_eight hH2; have H2 := hid hH2; have B2 := hid hb2; have O2 : Hid (Own w2 w.heap.size (.slice va2 (N) vc2) (S.log.take (N))) := hid ho2; clear hH2 hb2 hb2' ho2))
      all_goals
        go_wp2
        try (go_region; go_wp2)
        go_end0
        rw [HC.out]
        refine ⟨rfl, HD.out.make B2.out (by first | exact ((((((But.refl (fun k => k = b) _).set (.inl rfl)).set (.inl rfl)).set (.inl rfl)).set (.inl rfl)).set (.inl rfl)).set (.inl rfl) | exact (((((((But.refl (fun k => k = b) _).set (.inl rfl)).set (.inl rfl)).set (.inl rfl)).set (.inl rfl)).set (.inl rfl)).set (.inl rfl)).drew) HOK.out ?_ (HD.out.oi.below B2.out) (Own.nil _ _) (O2.out.lower (Nat.zero_le _)) (old_in HD.out.ii) nil_in (new_in O2.out)⟩
        exact heap_setCell_same _ b 6 _ _ _ (heap_setCell_same _ b 7 _ _ _ (heap_setCell_same _ b 3 _ _ _ (heap_setCell_same _ b 2 _ _ _ (heap_setCell_same _ b 5 _ _ _ (heap_setCell_same w2 b 4 _ _ _ H2.out)))))
end Go.Proofs.Ytpchmdfkifbciaa
