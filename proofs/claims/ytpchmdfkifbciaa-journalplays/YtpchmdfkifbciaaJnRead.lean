/- What Image, Records, Count, Size and Down of a journal answer, and Format where all goes well. Conditions: the journal and its device lie in memory; the image has at most a hundred thousand million bytes. -/
import Derived.Test.YtpchmdfkifbciaaJnSave
namespace Go.Proofs.Ytpchmdfkifbciaa
open Go.RowKit

set_option maxHeartbeats 400000 in
theorem count_any (jb db : Nat) (R : Nat → Prop) (J : JS) (w : World) (hj : Jn w jb db R J) :
    Calls Try.prog 37 #[.pointer (some ⟨jb, 0, none⟩)] w fun e w' => e = .returned (.int .i64 (J.recs.length : Nat)) ∧ w' = w := by
  obtain ⟨iv, rv, vs, hj, c0, c1, c2, c3, c4, cf⟩ := hj.cells
  obtain ⟨va, vc, rfl⟩ := ownsRow_shape hj.rr.own
  clear hj
  go_enter Try.func37, Try.ntmps37
  go_wp2
  go_ret
  exact ⟨rfl, rfl⟩
set_option maxHeartbeats 400000 in
theorem size_any (jb db : Nat) (R : Nat → Prop) (J : JS) (w : World) (hj : Jn w jb db R J) :
    Calls Try.prog 38 #[.pointer (some ⟨jb, 0, none⟩)] w fun e w' => e = .returned (.int .i64 (sizeJ J : Nat)) ∧ w' = w := by
  obtain ⟨iv, rv, vs, hj, c0, c1, c2, c3, c4, cf⟩ := hj.cells
  clear hj
  go_enter Try.func38, Try.ntmps38
  go_wp2
  go_ret
  exact ⟨rfl, rfl⟩
set_option maxHeartbeats 400000 in
theorem down_any (jb db : Nat) (R : Nat → Prop) (J : JS) (w : World) (hj : Jn w jb db R J) :
    Calls Try.prog 26 #[.pointer (some ⟨jb, 0, none⟩)] w fun e w' => e = .returned (.bool J.down) ∧ w' = w := by
  obtain ⟨iv, rv, vs, hj, c0, c1, c2, c3, c4, cf⟩ := hj.cells
  clear hj
  go_enter Try.func26, Try.ntmps26
  go_wp2
  go_ret
  exact ⟨rfl, rfl⟩
set_option maxHeartbeats 400000 in
theorem jimage_any (jb db : Nat) (R : Nat → Prop) (J : JS) (w : World) (hj : Jn w jb db R J) (hm : J.image.length ≤ 100000000000) :
    Calls Try.prog 28 #[.pointer (some ⟨jb, 0, none⟩)] w fun e w' => ∃ va vc, e = .returned (.slice va J.image.length vc) ∧ Own w' w.heap.size (.slice va J.image.length vc) J.image ∧ Below w.heap.size w w' := by
  obtain ⟨iv, rv, vs, hj, c0, c1, c2, c3, c4, cf⟩ := hj.cells
  have HI := hid hj.oi.bts
  have HM := hid hm
  obtain ⟨va, vc, rfl⟩ := ownsRow_shape hj.oi
  clear hj hm
  go_enter Try.func28, Try.ntmps28
  go_wp2_with fail
  refine (clone_any _ J.image _ HI.out HM.out).mono ?_
  rintro e w1 ⟨va1, vc1, rfl, ho1, hb1⟩
  have HO := hid ho1
  have HB := hid hb1
  clear ho1 hb1
  go_wp2
  go_ret
  exact ⟨va1, vc1, rfl, HO.out, HB.out⟩
theorem Bts.nil_any {w w' : World} {v : Value} (h : Bts w v []) : Bts w' v [] := by
  obtain ⟨ao, n, cap, rfl, h1, h2, h3, h4, h5⟩ := h
  exact ⟨ao, n, cap, rfl, h1, h2, h3, h4, fun ad had j hj => by simp at hj⟩
def J0 : JS := ⟨[], [], false⟩
set_option maxHeartbeats 400000 in
theorem format_ok (db : Nat) (RD : Nat → Prop) (S : DS) (v : Value) (m : List UInt8) (w : World) (hd : Dk w db RD S) (hv : Bts w v m) (ho : m ≠ [] → Out RD v) (h0 : (saveR S J0 m).1 = 0) :
    Calls Try.prog 10 #[.pointer (some ⟨db, 0, none⟩), v] w fun e w' => ∃ jb R', e = .returned (.tuple #[.pointer (some ⟨jb, 0, none⟩), .int .i64 0]) ∧ Jd w' jb db R' (saveR S J0 m).2.1 (saveR S J0 m).2.2 ∧ But RD w w' ∧ ∀ k, R' k → RD k ∨ w.heap.size ≤ k := by
  have HV := hid hv
  obtain ⟨ua, uc, rfl⟩ := hv.shape
  have hdlt := hd.lt
  have HD := hid hd
  have HO := hid ho
  have H0 := hid h0
  clear hd hv ho h0
  obtain ⟨w1, hw1⟩ : ∃ w1, w1 = w.alloc (.cells #[.pointer (some ⟨db, 0, none⟩), .slice none 0 0, .slice none 0 0, .int .i64 0, .bool false] 69) := ⟨_, rfl⟩
  have hb1 : Below w.heap.size w w1 := by rw [hw1]; exact (Below.refl _ _).alloc (Nat.le_refl _) _
  have hs1 : w1.heap.size = w.heap.size + 1 := by rw [hw1]; simp
  have hj : Jd w1 w.heap.size db (fun k => k = w.heap.size ∨ RD k) S J0 := by
    refine ⟨fun k => k = w.heap.size, RD, ⟨⟨.slice none 0 0, .slice none 0 0, [], rfl, ?_, ?_, Own.nil _ _, (fun k hk => by cases hk), Rws.nil _ _⟩, HD.out.below hb1, ?_⟩, fun _ => Iff.rfl⟩
    · intro k hk; subst hk; omega
    · rw [hw1]; exact heap_alloc_new _ _
    · intro k hk h; subst hk; have := HD.out.rlt _ h; omega
  have HJ := hid hj
  have HB1 := hid hb1
  have HST : Hid (∀ w', But (fun k => k = w.heap.size ∨ RD k) w1 w' → Bts w' (.slice ua m.length uc) m) := hid (by
    intro w' t
    by_cases hl : m = []
    · subst hl
      exact HV.out.nil_any
    · exact (HV.out.below hb1).but t fun k hk h => by
        rcases h with h | h
        · have := HV.out.lt hl k hk; omega
        · exact HO.out hl k hk h)
  clear hj hb1
  go_enter Try.func10, Try.ntmps10
  go_wp2_with fail
  rw [← hw1]
  refine (save_any w.heap.size db _ S J0 _ m _ HJ.out (HV.out.below HB1.out) HST.out).mono ?_
  rw [H0.out]
  rintro e w2 ⟨rfl, hs2⟩
  have HS := hid hs2
  clear hs2 hw1
  go_wp2
  go_ret2
  obtain ⟨R2, d2, t2, r2⟩ := HS.out
  refine ⟨w.heap.size, R2, rfl, d2, ?_, ?_⟩
  · exact (But.of_below HB1.out).trans t2 fun k hk => by rcases hk with hk | hk <;> first | exact .inr (by omega) | exact .inl hk
  · intro k hk
    rcases r2 k hk with h | h
    · rcases h with h | h
      · exact .inr (by omega)
      · exact .inl h
    · exact .inr (by omega)
end Go.Proofs.Ytpchmdfkifbciaa
