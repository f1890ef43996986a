/- What the inner parts of a journal's writing calls do: ready, call, lay. Conditions: the journal and its device lie in memory; what the device's call does. -/
import Derived.Test.YtpchmdfkifbciaaJnBase
import Derived.Deep.RegionWith
import Derived.Deep.RegionLaw
import Derived.Deep.QuietTactic
import Derived.BigQuiet
namespace Go.Proofs.Ytpchmdfkifbciaa
open Go.RowKit

theorem Jn.cells {w : World} {jb db : Nat} {R : Nat → Prop} {J : JS} (h : Jn w jb db R J) : ∃ iv rv vs, JnV w jb db R J iv rv vs ∧ w.cell? ⟨jb, 0, none⟩ = some (.pointer (some ⟨db, 0, none⟩)) ∧ w.cell? ⟨jb, 1, none⟩ = some iv ∧ w.cell? ⟨jb, 2, none⟩ = some rv ∧ w.cell? ⟨jb, 3, none⟩ = some (.int .i64 (sizeJ J : Nat)) ∧ w.cell? ⟨jb, 4, none⟩ = some (.bool J.down) ∧ ∀ i, w.frozen? ⟨jb, i, none⟩ = false := by
  obtain ⟨iv, rv, vs, h⟩ := h
  exact ⟨iv, rv, vs, h, cell_five h.head⟩
theorem Jd.cells {w : World} {jb db : Nat} {R : Nat → Prop} {S : DS} {J : JS} (h : Jd w jb db R S J) : ∃ iv rv vs, w.cell? ⟨jb, 0, none⟩ = some (.pointer (some ⟨db, 0, none⟩)) ∧ w.cell? ⟨jb, 1, none⟩ = some iv ∧ w.cell? ⟨jb, 2, none⟩ = some rv ∧ w.cell? ⟨jb, 3, none⟩ = some (.int .i64 (sizeJ J : Nat)) ∧ w.cell? ⟨jb, 4, none⟩ = some (.bool J.down) ∧ (∀ i, w.frozen? ⟨jb, i, none⟩ = false) ∧ Own w 0 iv J.image ∧ w.ownsRow 0 34 1 rv J.recs.length vs := by
  obtain ⟨RJ, RD, h, e⟩ := h
  obtain ⟨iv, rv, vs, hj, c0, c1, c2, c3, c4, cf⟩ := h.j.cells
  exact ⟨iv, rv, vs, c0, c1, c2, c3, c4, cf, hj.oi, hj.rr.own⟩
set_option maxHeartbeats 400000 in
theorem ready_up (jb db : Nat) (R : Nat → Prop) (S : DS) (J : JS) (w : World) (hd : Jd w jb db R S J) (hu : J.down = false) :
    Calls Try.prog 43 #[.pointer (some ⟨jb, 0, none⟩)] w fun e w' => e = .returned (.int .i64 0) ∧ w' = w := by
  obtain ⟨iv, rv, vs, c0, c1, c2, c3, c4, cf, -, -⟩ := hd.cells
  rw [hu] at c4
  clear hd
  go_enter Try.func43, Try.ntmps43
  go_wp2
  go_ret
  exact ⟨rfl, rfl⟩
set_option maxHeartbeats 400000 in
theorem ready_down (jb db : Nat) (R : Nat → Prop) (S : DS) (J : JS) (w : World) (hd : Jd w jb db R S J) (hu : J.down = true) :
    Calls Try.prog 43 #[.pointer (some ⟨jb, 0, none⟩)] w fun e w' => e = .returned (.int .i64 7) ∧ w' = w := by
  obtain ⟨iv, rv, vs, c0, c1, c2, c3, c4, cf, -, -⟩ := hd.cells
  rw [hu] at c4
  clear hd
  go_enter Try.func43, Try.ntmps43
  go_wp2
  go_ret
  exact ⟨rfl, rfl⟩
/-- The power has gone at a call: the journal is down. -/
theorem Jd.downed {w : World} {jb db : Nat} {R : Nat → Prop} {S : DS} {J : JS} (h : Jd w jb db R S J) : JStep w jb db R (w.setCell ⟨jb, 4, none⟩ (.bool true)) S { J with down := true } := by
  obtain ⟨RJ, RD, h, e⟩ := h
  obtain ⟨iv, rv, vs, hj⟩ := h.j
  have hn : JnV (w.setCell ⟨jb, 4, none⟩ (.bool true)) jb db RJ { J with down := true } iv rv vs :=
    hj.head' ((But.refl (fun k => k = jb) _).set (.inl rfl)) rfl rfl (heap_setCell_same w jb 4 _ _ _ hj.head)
  exact h.turn e ((But.refl _ _).set (.inl hj.rb)) hn.jn (fun _ h => .inl h)
set_option maxHeartbeats 800000 in
theorem call_clo (jb db : Nat) (R : Nat → Prop) (S1 : DS) (J : JS) (er : Int) (f : FuncId) (fc : Array Value) (w : World) (hef : Ent f)
    (hf : Calls Try.prog f fc w fun e w' => e = .returned (.int .i64 er) ∧ JStep w jb db R w' S1 J) :
    Calls Try.prog 47 #[.pointer (some ⟨jb, 0, none⟩), .func (.func f) #[] fc] w fun e w' => e = .returned (.int .i64 er) ∧ JStep w jb db R w' S1 (dn J er) := by
  have HF := hid hf
  clear hf
  have hef' : ∀ (args : Array Value) (w : World), (callFunc f args).run Try.prog w = .ok (.enter f args) w := hef
  clear hef
  go_enter Try.func47, Try.ntmps47
  go_wp2_with fail
  refine HF.out.mono ?_
  rintro e w1 ⟨rfl, hs1⟩
  have HS := hid hs1
  clear hs1 HF
  by_cases h6 : er = 6
  · subst h6
    obtain ⟨R1, d1, t1, r1⟩ := HS.out
    obtain ⟨iv, rv, vs, c0, c1, c2, c3, c4, cf, -, -⟩ := d1.cells
    have D1 := hid d1
    have T1 := hid t1
    have RR := hid r1
    clear d1 t1 r1
    go_wp2
    go_ret
    refine ⟨rfl, ?_⟩
    unfold dn
    rw [if_pos rfl]
    exact jstep_trans T1.out RR.out D1.out.downed
  · have h6' : (er == 6) = false := by simpa using h6
    go_wp2
    go_ret
    refine ⟨rfl, ?_⟩
    unfold dn
    rw [if_neg h6]
    exact HS.out
set_option maxHeartbeats 800000 in
theorem call_met (jb db : Nat) (R : Nat → Prop) (S1 : DS) (J : JS) (er : Int) (f : FuncId) (a : Value) (w : World) (hef : Ent f)
    (hf : Calls Try.prog f #[a] w fun e w' => e = .returned (.int .i64 er) ∧ JStep w jb db R w' S1 J) :
    Calls Try.prog 47 #[.pointer (some ⟨jb, 0, none⟩), .func (.func f) #[a] #[]] w fun e w' => e = .returned (.int .i64 er) ∧ JStep w jb db R w' S1 (dn J er) := by
  have HF := hid hf
  clear hf
  have hef' : ∀ (args : Array Value) (w : World), (callFunc f args).run Try.prog w = .ok (.enter f args) w := hef
  clear hef
  go_enter Try.func47, Try.ntmps47
  go_wp2_with fail
  refine HF.out.mono ?_
  rintro e w1 ⟨rfl, hs1⟩
  have HS := hid hs1
  clear hs1 HF
  by_cases h6 : er = 6
  · subst h6
    obtain ⟨R1, d1, t1, r1⟩ := HS.out
    obtain ⟨iv, rv, vs, c0, c1, c2, c3, c4, cf, -, -⟩ := d1.cells
    have D1 := hid d1
    have T1 := hid t1
    have RR := hid r1
    clear d1 t1 r1
    go_wp2
    go_ret
    refine ⟨rfl, ?_⟩
    unfold dn
    rw [if_pos rfl]
    exact jstep_trans T1.out RR.out D1.out.downed
  · have h6' : (er == 6) = false := by simpa using h6
    go_wp2
    go_ret
    refine ⟨rfl, ?_⟩
    unfold dn
    rw [if_neg h6]
    exact HS.out
set_option maxHeartbeats 400000 in
theorem lay1_any (x y : Nat) (g : FuncId) (a : Value) (va : Option Addr) (n vc : Nat) (w : World) (er : Int) (Q : World → Prop) (heg : Ent g) (hx : w.cell? ⟨x, 0, none⟩ = some (.func (.func g) #[a] #[])) (hy : w.cell? ⟨y, 0, none⟩ = some (.slice va n vc))
    (hg : Calls Try.prog g #[a, .slice va n vc] w fun e w' => e = .returned (.int .i64 er) ∧ Q w') :
    Calls Try.prog 72 #[.pointer (some ⟨x, 0, none⟩), .pointer (some ⟨y, 0, none⟩)] w fun e w' => e = .returned (.int .i64 er) ∧ Q w' := by
  have HG := hid hg
  clear hg
  have heg' : ∀ (args : Array Value) (w : World), (callFunc g args).run Try.prog w = .ok (.enter g args) w := heg
  clear heg
  go_enter Try.func72, Try.ntmps72
  go_wp2_with fail
  refine HG.out.mono ?_
  rintro e w1 ⟨rfl, hs1⟩
  have HS := hid hs1
  clear hs1
  go_wp2
  go_ret
  exact ⟨rfl, HS.out⟩
theorem ent_lay1 : Ent 72 := fun args w => by simp [go_sem]
end Go.Proofs.Ytpchmdfkifbciaa
