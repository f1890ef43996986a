/- What Gaps answers; the law SpanGaps, walked. Conditions: the row lies in memory, the numbers are ints. -/
import Derived.Test.YtkbcinjpnihnaabSpCut
import Derived.Test.YtkbcinjpnihnaabSpNorms
import Derived.Deep.RegionHeld3
namespace Go.Proofs.Ytkbcinjpnihnaab
open Go.RowKit Go.Shelf

set_option maxHeartbeats 800000 in
theorem gaps_any (v : Value) (l : List Sp) (x : Sp) (w : World) (hv : Sps w v l) (hl : l.length ≤ 500000) (hI : ∀ z ∈ l, SpI z) (hx : SpI x) :
    Calls Try.prog 16 #[v, .agg #[.int .i64 x.1, .int .i64 x.2]] w fun e w' => ∃ r va vc, CutOf [x] l r ∧ e = .returned (.slice va r.length vc) ∧ OwnS w' w.heap.size (.slice va r.length vc) r ∧ Below w.heap.size w w' := by
  obtain ⟨s, t⟩ := x
  have bA : Below w.heap.size w ((w.alloc (.cells #[.int .i64 s, .int .i64 t] 29)).alloc (.cells #[.int .i64 s, .int .i64 t] 29)) := ((Below.refl _ _).alloc (Nat.le_refl _) _).alloc (by simp) _
  have HC := hid (cutS_any _ v [(s, t)] l _ (sps_one (heap_alloc2_new w (.cells #[.int .i64 s, .int .i64 t] 29) (.cells #[.int .i64 s, .int .i64 t] 29))) (hv.below bA) (by simp) hl (fun z hz => by simp at hz; subst hz; exact hx) hI)
  have BA := hid bA
  obtain ⟨a0, c0, rfl⟩ := hv.shape
  clear hv hI hx bA
  go_enter Try.func16, Try.ntmps16
  go_wp2_with fail
  refine HC.out.mono ?_
  rintro e w2 ⟨r, va2, vc2, hc, rfl, ho2, hb2⟩
  have C2 := hid hc
  have O2 := hid (ho2.lower BA.out.size)
  have B2 := hid (BA.out.trans (hb2.mono BA.out.size))
  clear hc ho2 hb2
  go_wp2_with fail
  go_ret
  exact ⟨r, va2, vc2, C2.out, rfl, O2.out, B2.out⟩
theorem ofcut {a b r : List Sp} (h : CutOf a b r) : ofL a b (keepF 2 a b) = r := by
  have h2 := of2_plain a b
  refine plain_unique h2.1 h.plain fun k => ?_
  rw [h2.2 k, h.mem k]
set_option maxHeartbeats 3200000 in
theorem gapss_any (v : Value) (l : List Sp) (x : Sp) (w : World) (hv : Sps w v l) (hI : ∀ z ∈ l, SpI z) (hx : SpI x) :
    Calls Try.prog 4 #[v, .agg #[.int .i64 x.1, .int .i64 x.2]] w fun e w' => e = .returned (.bool true) ∧ Below w.heap.size w w' := by
  obtain ⟨s, t⟩ := x
  have bA : Below w.heap.size w (w.alloc (.cells #[.int .i64 s, .int .i64 t] 29)) := (Below.refl _ _).alloc (Nat.le_refl _) _
  have HV := hid (hv.below bA)
  have BA := hid bA
  have HI : Hid (∀ z ∈ l.take 60, SpI z) := hid fun z hz => hI z (List.mem_of_mem_take hz)
  have HX := hid hx
  obtain ⟨a0, c0, rfl⟩ := hv.shape
  have HN := hid (heap_alloc_new w (.cells #[.int .i64 s, .int .i64 t] 29))
  clear hv bA hI hx
  go_enter Try.func4, Try.ntmps4
  go_wp2_with fail
  obtain ⟨w1, hw1⟩ : ∃ w1, w1 = w.alloc (.cells #[.int .i64 s, .int .i64 t] 29) := ⟨_, rfl⟩
  obtain ⟨g, hg⟩ : ∃ g, g = w.heap.size := ⟨_, rfl⟩
  rw [← hw1] at BA HV HN ⊢
  rw [← hg] at HN ⊢
  clear hw1 hg
  refine (cut_any _ l _ HV.out).mono ?_
  rintro e w0 ⟨va, vc, rfl, hs, rfl⟩
  have hml : (l.take 60).length ≤ 60 := by simp; omega
  generalize l.take 60 = m at hs hml HI ⊢
  have HS := hid hs
  have SW : Hid (∀ X, Below w0.heap.size w0 X → X.cell? ⟨g, 0, none⟩ = some (.int .i64 s) ∧ X.cell? ⟨g, 1, none⟩ = some (.int .i64 t)) := hid (by
    intro X hX
    have hk : X.heap[g]? = _ := (hX.block g (lt_of_block HN.out)).trans HN.out
    exact ⟨by rw [cell_of_row X g _ _ _ _ hk]; rfl, by rw [cell_of_row X g _ _ _ _ hk]; rfl⟩)
  clear hs HV HN
  have bD : Below w0.heap.size w0 w0.drew := (Below.refl _ _).drew
  have SD := hid (HS.out.below bD)
  have D0 := hid bD
  clear bD
  go_wp2_with fail
  have SDA : Hid (Sps (w0.alloc (.cells #[.int .i64 s, .int .i64 t] 29)).drew (.slice va m.length vc) m) := hid ((HS.out.alloc (.cells #[.int .i64 s, .int .i64 t] 29)).below ((Below.refl _ _).drew))
  have DA : Hid (Below w0.heap.size w0 (w0.alloc (.cells #[.int .i64 s, .int .i64 t] 29)).drew) := hid (((Below.refl _ _).alloc (Nat.le_refl _) _).drew)
  have PA : Hid (Sps (w0.alloc (.cells #[.int .i64 s, .int .i64 t] 29)).drew (.slice (some ⟨w0.heap.size, 0, none⟩) 1 1) [(s, t)]) := hid ((sps_one (heap_alloc_new w0 (.cells #[.int .i64 s, .int .i64 t] 29))).below ((Below.refl _ _).drew))
  have hml' : m.length ≤ 500000 := by omega
  go_region_held3 (fun X => X.cell? ⟨g, 0, none⟩ = some (.int .i64 s) ∧ X.cell? ⟨g, 1, none⟩ = some (.int .i64 t)) (first | with_reducible exact SW.out _ D0.out | with_reducible exact SW.out _ DA.out | with_reducible exact SW.out _ B5.out | with_reducible exact SW.out _ (B5.out.alloc B5.out.size _) | with_reducible exact SW.out _ B6.out | with_reducible exact SW.out _ B7.out | with_reducible exact SW.out _ B8.out) (first | (go_at_call 16; refine (gaps_any _ m (s, t) _ ?_ hml' HI.out HX.out).mono ?_; (first | with_reducible exact SD.out | with_reducible exact SDA.out); rintro e w5 ⟨r, va5, vc5, hc5, rfl, ho5, hb5⟩; have B5 : Hid (Below w0.heap.size w0 w5) := (by first | with_reducible exact hid (DA.out.trans (hb5.mono DA.out.size)) | exact hid (D0.out.trans hb5)); have C5 := hid hc5; have R5 := hid ho5.sps; have hrl : r.length ≤ 1000 := (by have h := hc5.len; simp at h; omega); have S5 : Hid (Sps w5 _ m) := (by first | with_reducible exact hid (SD.out.below hb5) | with_reducible exact hid (SDA.out.below hb5)); (first | (have P5 : Hid (Sps w5 _ [(s, t)]) := (by with_reducible exact hid (PA.out.below hb5))) | skip); clear hc5 ho5 hb5) | (go_at_call 17; refine (rof_2 _ _ [(s, t)] m _ ?_ ?_ (by simp) (by omega)).mono ?_; (first | with_reducible exact P5.out | exact sps_one (heap_alloc_new _ _)); (first | with_reducible exact S5.out | with_reducible exact S5.out.alloc _); rintro e w6 ⟨va6, vc6, rfl, ho6, hb6⟩; rw [ofcut C5.out] at ho6 ⊢; have F6 := hid ho6.sps; have R6 : Hid (Sps w6 _ r) := (by first | with_reducible exact hid (R5.out.below hb6) | with_reducible exact hid ((R5.out.alloc _).below hb6)); have B6 : Hid (Below w0.heap.size w0 w6) := (by first | with_reducible exact hid (B5.out.trans (hb6.mono B5.out.size)) | exact hid ((B5.out.alloc B5.out.size _).trans (hb6.mono (Nat.le_trans B5.out.size (by simp))))); clear ho6 hb6) | (go_at_call 13; refine (rsame_any _ _ r r _ ?_ ?_ (by omega)).mono ?_; with_reducible exact R6.out; with_reducible exact F6.out; rintro e w7 ⟨rfl, hb7⟩; have hdd : decide (r = r) = true := decide_eq_true rfl; rw [hdd]; clear hdd; have B7 : Hid (Below w0.heap.size w0 w7) := hid (B6.out.trans (hb7.mono B6.out.size)); clear hb7) | (go_at_call 15; refine (lives_any _).mono ?_; rintro e w8 ⟨rfl, hb8⟩; have B8 : Hid (Below w0.heap.size w0 w8) := (by with_reducible exact hid (B7.out.trans (hb8.mono B7.out.size))); clear hb8))
  all_goals
    go_wp2_with fail
    go_ret
    exact ⟨rfl, BA.out.trans (B8.out.mono BA.out.size)⟩
end Go.Proofs.Ytkbcinjpnihnaab
