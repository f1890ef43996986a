/- What Put and Len of a table answer, by the list of its entries. Conditions: table and instance lie in memory. -/
import Derived.Test.YthhcpoafnmhnhaaInList
namespace Go.Proofs.Ythhcpoafnmhnhaa
open Go.RowKit Go.Maps Go.Shelf
set_option linter.unusedVariables false
set_option linter.unusedSimpArgs false

noncomputable def putN (L : List EnI) (x : InD) : Int := if instB x = true then (if L.any (fun y => y.x.ref == x.ref) = true ∨ L.length < 4096 then 0 else 2) else 1
/-- Behind Put. -/
def PutL (w w' : World) (tb mb n : Nat) (D : DataW Value) (L : List EnI) (x : InD) : Prop :=
  (putN L x ≠ 0 ∧ Below w.heap.size w w') ∨ (putN L x = 0 ∧ ∃ (e : EnI) (D' : DataW Value), e.x = x ∧ e.un = x.cmd.data.length ∧ e.vn = x.deps.length ∧ Tb w' tb mb (n + 1) D' ∧ TL D' (putL L e) ∧ w'.ownsRow w.heap.size 9 1 e.u x.cmd.data.length (svs x.cmd.data) ∧ w'.ownsRow w.heap.size 24 2 e.r x.deps.length (rvs x.deps) ∧ w.grownBy w' (some mb))
theorem iputL_any (tb mb n : Nat) (D : DataW Value) (L : List EnI) (x : InD) (u v : Value) (w : World) (hT : Tb w tb mb n D) (hL : TL D L) (hn : n < maxLen) (hx : InM w x u v) (hc : CmdOk w x.cmd u) (hr1 : I64 x.ref.1) (hr2 : I64 x.ref.2) (hl2 : x.deps.length ≤ 1000000000) :
    Calls Try.prog 16 #[.pointer (some ⟨tb, 0, none⟩), instV x u v] w fun e w' => e = .returned (.int .i64 (putN L x)) ∧ PutL w w' tb mb n D L x := by
  have he : putE D x = putN L x := by
    unfold putE putN
    rw [hL.any ⟨hr1, hr2⟩, hL.size]
  refine (iput_any tb mb n D x u v w hT hn hx hc hr1 hr2 hc.l hl2).mono ?_
  rintro e w' ⟨h1, h2⟩
  unfold PutP at h2
  rw [he] at h1 h2
  refine ⟨h1, ?_⟩
  rcases h2 with ⟨h3, h4⟩ | ⟨h3, u', v', h4, h5, h6, h7⟩
  · exact .inl ⟨h3, h4⟩
  · obtain ⟨ua, uc, rfl⟩ := own_shape h5
    obtain ⟨va, vc, rfl⟩ := own_shape h6
    exact .inr ⟨h3, ⟨.bool true, x, ua, x.cmd.data.length, uc, va, x.deps.length, vc⟩, _, rfl, rfl, rfl, h4, hL.put ⟨.bool true, x, ua, x.cmd.data.length, uc, va, x.deps.length, vc⟩ ⟨hr1, hr2⟩, h5, h6, h7⟩
set_option maxHeartbeats 1600000 in
theorem ilen_any (tb mb n : Nat) (D : DataW Value) (L : List EnI) (w : World) (hT : Tb w tb mb n D) (hL : TL D L) :
    Calls Try.prog 13 #[.pointer (some ⟨tb, 0, none⟩)] w fun e w' => e = .returned (.int .i64 L.length) ∧ w' = w := by
  have hlen : ∀ ty, (Builtin.len_ #[60] ty #[.map (some mb)]).run Try.prog w = .ok (.int .i64 L.length) w := fun ty => by rw [← hL.size]; exact hT.own.len Try.underlyingTab ty
  have hbox : w.cell? ⟨tb, 0, none⟩ = some (.map (some mb)) := by rw [cell_of_row _ _ _ _ _ _ hT.box]; rfl
  clear hT hL
  go_enter Try.func13, Try.ntmps13
  go_wp2_with fail
  go_ret
  exact ⟨rfl, rfl⟩
end Go.Proofs.Ythhcpoafnmhnhaa
