/- What lay of a journal does. Conditions: the journal and its device lie in memory; what the device's call does. -/
import Derived.Test.YtpchmdfkifbciaaJnCalls
namespace Go.Proofs.Ytpchmdfkifbciaa
open Go.RowKit

set_option maxHeartbeats 800000 in
theorem jlay_big (jb db : Nat) (g : FuncId) (v : Value) (l : List UInt8) (w : World) (hv : Bts w v l) (hl : 1048576 < l.length) :
    Calls Try.prog 44 #[.pointer (some ⟨jb, 0, none⟩), v, .func (.func g) #[.pointer (some ⟨db, 0, none⟩)] #[]] w fun e w' => e = .returned (.tuple #[.int .i64 0, .int .i64 2]) ∧ Below w.heap.size w w' := by
  have HV := hid hv
  obtain ⟨ua, uc, rfl⟩ := hv.shape
  have HL := hid hl
  clear hv hl
  go_enter Try.func44, Try.ntmps44
  go_wp2_with fail
  refine (frame_big _ l _ (HV.out.alloc _) HL.out).mono ?_
  rintro e w1 ⟨rfl, rfl⟩
  go_wp2
  go_ret2
  exact ⟨rfl, ((Below.refl _ _).alloc (Nat.le_refl _) _).alloc (by simp) _⟩
set_option maxHeartbeats 1600000 in
theorem jlay_any (jb db : Nat) (R : Nat → Prop) (S S1 : DS) (J : JS) (er : Int) (g : FuncId) (v : Value) (l : List UInt8) (w : World) (hd : Jd w jb db R S J) (heg : Ent g) (hv : Bts w v l) (hl : l.length ≤ 1048576)
    (hg : ∀ w1 va vc, Below w.heap.size w w1 → Bts w1 (.slice va (l.length + 8) vc) (frameB l) → Calls Try.prog g #[.pointer (some ⟨db, 0, none⟩), .slice va (l.length + 8) vc] w1 fun e w' => e = .returned (.int .i64 er) ∧ JStep w1 jb db R w' S1 J) :
    Calls Try.prog 44 #[.pointer (some ⟨jb, 0, none⟩), v, .func (.func g) #[.pointer (some ⟨db, 0, none⟩)] #[]] w fun e w' => e = .returned (.tuple #[.int .i64 ((l.length : Int) + 8), .int .i64 er]) ∧ JStep w jb db R w' S1 (dn J er) := by
  have HV := hid hv
  obtain ⟨ua, uc, rfl⟩ := hv.shape
  have HL := hid hl
  have HD := hid hd
  have HG := hid hg
  have HE := hid heg
  clear hv hl hd hg heg
  have hmf : ∀ (fn : Fn) (first cap : Array Value) (w : World), (Instr.makeFunc fn first cap).run Try.prog w = .ok (.func fn first cap) w := fun _ _ _ _ => rfl
  go_enter Try.func44, Try.ntmps44
  go_wp2_with fail
  refine (frame_any _ l _ (HV.out.alloc _) HL.out).mono ?_
  rintro e w1 ⟨va, vc, rfl, ho1, hb1⟩
  have HO := hid ho1
  have HB := hid hb1
  clear ho1 hb1
  go_wp2_with fail
  obtain ⟨w2, hw2⟩ : ∃ w2, w2 = w1.alloc (.cells #[.slice va (l.length + 8) vc] 34) := ⟨_, rfl⟩
  have hs1 := HB.out.size
  have hbw : Below w.heap.size w w1 := ((Below.refl _ _).alloc (Nat.le_refl _) _).trans (HB.out.mono (by simp))
  have hb12 : Below w1.heap.size w1 w2 := by rw [hw2]; exact (Below.refl _ _).alloc (Nat.le_refl _) _
  have H3 := hid (hbw.trans (hb12.mono hbw.size))
  have hc2 : w2.cell? ⟨w1.heap.size, 0, none⟩ = some (.slice va (l.length + 8) vc) := by rw [hw2, cell_of_row _ _ _ _ _ _ (heap_alloc_new _ _)]; rfl
  have H1 : Hid (w2.cell? ⟨w.heap.size, 0, none⟩ = some (.func (.func g) #[.pointer (some ⟨db, 0, none⟩)] #[])) := hid (cell_later hb12 (cell_later HB.out (by rw [cell_of_row _ _ _ _ _ _ (heap_alloc_new _ _)]; rfl)))
  have H4 := hid (HO.out.bts.below hb12)
  have HN := hid (show ¬ R w1.heap.size from fun h => by have := HD.out.rlt _ h; simp at hs1; omega)
  have hsz2 : w2.heap.size = w1.heap.size + 1 := by rw [hw2]; simp
  rw [← hw2]
  clear hw2 hbw hb12 HO HB HV hs1
  go_region_with (first | (go_at_call 47; refine (call_clo jb db R S1 J er 72 _ _ ent_lay1 (lay1_any w.heap.size w1.heap.size g (.pointer (some ⟨db, 0, none⟩)) va (l.length + 8) vc _ er _ HE.out ?_ ?_ (HG.out _ va vc ?_ ?_))).mono ?_; exact H1.out; exact hc2; exact ⟨H3.out.os, H3.out.tape, H3.out.output, H3.out.size, H3.out.block⟩; exact H4.out; rintro e w3 ⟨rfl, hs3⟩; have hc3 : w3.cell? ⟨w1.heap.size, 0, none⟩ = some (.slice va (l.length + 8) vc) := (by obtain ⟨R3, d3, t3, r3⟩ := hs3; exact (World.cell?_of_block (t3.block w1.heap.size (by show _ < w2.heap.size; omega) HN.out)).trans hc2); have HS := hid hs3; clear hs3))
  all_goals
    go_wp2
    go_ret2
    exact ⟨rfl, jstep_below (w1 := w2.drew) ⟨H3.out.os, H3.out.tape, H3.out.output, H3.out.size, H3.out.block⟩ HS.out⟩
end Go.Proofs.Ytpchmdfkifbciaa
