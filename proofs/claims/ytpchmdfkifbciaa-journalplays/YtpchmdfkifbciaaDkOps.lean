/- What the inner parts of a device's calls do: New, shorten, unstage, the counting of writing calls. Conditions: the device lies in memory. -/
import Derived.Test.YtpchmdfkifbciaaDkBase
namespace Go.Proofs.Ytpchmdfkifbciaa
open Go.RowKit

def newS (n : Nat) : DS := ⟨n, [], [], false, [], 0, false, -1⟩
theorem newS_ok (n : Nat) (h : n ≤ 65536) : Ok (newS n) := ⟨h, by simp [newS, sec], by simp [newS], by simp [newS], by simp [newS]⟩
set_option maxHeartbeats 400000 in
theorem new_ok (n : Nat) (w : World) (h1 : 1 ≤ n) (h2 : n ≤ 65536) :
    Calls Try.prog 9 #[.int .i64 n] w fun e w' => ∃ b R, e = .returned (.tuple #[.pointer (some ⟨b, 0, none⟩), .int .i64 0]) ∧ Dk w' b R (newS n) ∧ (∀ k, R k → w.heap.size ≤ k) ∧ Below w.heap.size w w' := by
  have g1 : ¬ (n : Int) < 1 := by omega
  have g2 : ¬ (65536 : Int) < (n : Int) := by omega
  go_enter Try.func9, Try.ntmps9
  go_wp2
  go_ret2
  refine ⟨w.heap.size, rfl, fun k => k = w.heap.size, ⟨.slice none 0 0, .slice none 0 0, .slice none 0 0, ?_⟩, fun k hk => Nat.le_of_eq hk.symm, (Below.refl _ _).alloc (Nat.le_refl _) _⟩
  exact ⟨newS_ok n h2, rfl, fun k hk => by subst hk; simp, heap_alloc_new _ _, Own.nil _ _, Own.nil _ _, Own.nil _ _, InR.nil _ _, InR.nil _ _, InR.nil _ _, Apart.nil _, Apart.nil _⟩
/-- The device's own block has turned, no other. -/
theorem DkV.turn {w w' : World} {b : Nat} {R : Nat → Prop} {S S' : DS} {iv sv lv iv' sv' lv' : Value} (h : DkV w b R S iv sv lv) (t : But (fun k => k = b) w w') (ok' : Ok S')
    (head' : w'.heap[b]? = some (.cells #[.int .i64 S'.room, iv', sv', .bool S'.staged, lv', .int .i64 S'.sure, .bool S'.off, .int .i64 S'.left] 67 (0, 0)))
    (oi' : Own w 0 iv' S'.image) (os' : Own w 0 sv' S'.stage) (ol' : Own w 0 lv' S'.log) (ii' : InR R b iv') (is' : InR R b sv') (il' : InR R b lv') (ai' : Apart iv' lv') (as' : Apart sv' lv') : Step w b R w' S' := by
  refine ⟨R, ⟨iv', sv', lv', ok', h.rb, fun k hk => Nat.lt_of_lt_of_le (h.rlt k hk) t.size, head', ?_, ?_, ?_, ii', is', il', ai', as'⟩, ?_, fun _ h => .inl h⟩
  · exact oi'.but t fun k hk => (ii' k hk).2
  · exact os'.but t fun k hk => (is' k hk).2
  · exact ol'.but t fun k hk => (il' k hk).2
  · exact ⟨t.os, t.tape, t.output, t.size, fun k hk hn => t.block k hk fun e => hn (by rw [e]; exact h.rb)⟩
theorem sec_mono {a b : Nat} (h : a ≤ b) : sec a ≤ sec b := by unfold sec; omega
theorem sec_nil : sec ([] : List UInt8).length = 0 := rfl
theorem Ok.unstage {S : DS} (h : Ok S) : Ok { S with stage := [], staged := false } := ⟨h.room, by have := h.fits; simp only [sec_nil]; omega, h.sure, h.left, h.left2⟩
theorem Ok.short {S : DS} (h : Ok S) (n : Nat) (hn : n ≤ S.log.length) : Ok { S with log := S.log.take n, sure := min S.sure n } :=
  ⟨h.room, by have := h.fits; have := sec_mono hn; simp only [List.length_take, Nat.min_eq_left hn]; omega, by simp only [List.length_take, Nat.min_eq_left hn]; omega, h.left, h.left2⟩
theorem Ok.count {S : DS} (h : Ok S) : Ok { S with left := max (S.left - 1) (-1) } := ⟨h.room, h.fits, h.sure, by show -1 ≤ max _ _; omega, by have := h.left2; have := h.left; show max _ _ ≤ _; omega⟩
set_option maxHeartbeats 400000 in
theorem unstage_any (b : Nat) (R : Nat → Prop) (S : DS) (w : World) (hd : Dk w b R S) :
    Calls Try.prog 50 #[.pointer (some ⟨b, 0, none⟩)] w fun e w' => e = .returned (.tuple #[]) ∧ Step w b R w' { S with stage := [], staged := false } := by
  obtain ⟨iv, sv, lv, hd⟩ := hd
  have HD := hid hd
  obtain ⟨c0, c1, c2, c3, c4, c5, c6, c7, cf⟩ := cell_eight hd.head
  clear hd
  go_enter Try.func50, Try.ntmps50
  go_wp2
  go_end0
  refine ⟨rfl, HD.out.turn (((But.refl (fun k => k = b) _).set (.inl rfl)).set (.inl rfl)) HD.out.ok.unstage (heap_setCell_same _ b 3 _ _ _ (heap_setCell_same w b 2 _ _ _ HD.out.head)) HD.out.oi (Own.nil _ _) HD.out.ol HD.out.ii (InR.nil _ _) HD.out.il HD.out.ai (Apart.nil _)⟩
theorem ob (va : Option Addr) (n n' c c' : Nat) : (Value.slice va n c).ownBlock = (Value.slice va n' c').ownBlock := by cases va <;> rfl
theorem own_len {w : World} {base n c : Nat} {va : Option Addr} {l : List UInt8} (h : Own w base (.slice va n c) l) : n = l.length ∧ n ≤ c ∧ c ≤ 9223372036854775807 ∧ (va = none → c = 0) := by
  obtain ⟨ao, n', cap, e, h1, h2, h3, h4, -⟩ := h.bts
  cases e
  exact ⟨h1, h2, h3, h4⟩
set_option maxHeartbeats 800000 in
theorem shorten_any (b : Nat) (R : Nat → Prop) (S : DS) (n : Nat) (w : World) (hd : Dk w b R S) (hn : n ≤ S.log.length) :
    Calls Try.prog 49 #[.pointer (some ⟨b, 0, none⟩), .int .i64 n] w fun e w' => e = .returned (.tuple #[]) ∧ Step w b R w' { S with log := S.log.take n, sure := min S.sure n } := by
  obtain ⟨iv, sv, lv, hd⟩ := hd
  obtain ⟨va, vc, rfl⟩ := hd.ol.shape
  have HD := hid hd
  obtain ⟨-, g1, g2, g3⟩ := own_len hd.ol
  obtain ⟨c0, c1, c2, c3, c4, c5, c6, c7, cf⟩ := cell_eight hd.head
  have HN := hid hn
  have hlt := hd.ok.log
  have hsu := hd.ok.sure
  clear hd
  have k1 : ¬ ((vc : Int) < (n : Int)) := by omega
  have k2 : (n : Int) ≤ vc := by omega
  clear hn
  go_enter Try.func49, Try.ntmps49
  go_wp2
  all_goals
    go_end0
    refine ⟨rfl, HD.out.turn (((But.refl (fun k => k = b) _).set (.inl rfl)).set (.inl rfl)) (HD.out.ok.short n HN.out) ?_ HD.out.oi HD.out.os (HD.out.ol.take HN.out) HD.out.ii HD.out.is (fun k hk => HD.out.il k ((ob va _ n vc vc).trans hk)) (fun k hk h => HD.out.ai k hk ((ob va _ n vc vc).trans h)) (fun k hk h => HD.out.asl k hk ((ob va _ n vc vc).trans h))⟩
    have e : ∀ s : Nat, ((w.setCell ⟨b, 4, none⟩ (.slice va n vc)).setCell ⟨b, 5, none⟩ (.int .i64 s)).heap[b]? = some (.cells #[.int .i64 S.room, iv, sv, .bool S.staged, .slice va n vc, .int .i64 s, .bool S.off, .int .i64 S.left] 67 (0, 0)) :=
      fun s => heap_setCell_same _ b 5 _ _ _ (heap_setCell_same w b 4 _ _ _ HD.out.head)
    first
      | (have hm : min S.sure n = n := by omega
         simp only [hm]; exact e _)
      | (have hm : min S.sure n = S.sure := by omega
         simp only [hm]; exact e _)
set_option maxHeartbeats 400000 in
theorem count_deferred (x b : Nat) (R : Nat → Prop) (S : DS) (u : FrameMode) (w : World) (hd : Dk w b R S) (hx : w.cell? ⟨x, 0, none⟩ = some (.pointer (some ⟨b, 0, none⟩))) :
    CallsD Try.prog 76 #[.pointer (some ⟨x, 0, none⟩)] u w fun e u' w' => u' = u ∧ (e = .returned (.tuple #[]) ∧ Step w b R w' { S with left := max (S.left - 1) (-1) }) := by
  obtain ⟨iv, sv, lv, hd⟩ := hd
  have HD := hid hd
  obtain ⟨c0, c1, c2, c3, c4, c5, c6, c7, cf⟩ := cell_eight hd.head
  have h1 := hd.ok.left
  have h2 := hd.ok.left2
  clear hd
  have e1 : IntKind.i64.wrap (S.left - 1) = S.left - 1 := IntWalk.i64_in _ ⟨by omega, by omega⟩
  by_cases hlt : S.left - 1 < -1
  all_goals
    go_enter_d Try.func76, Try.ntmps76
    go_region
    go_wp2
    go_end0
    refine ⟨rfl, HD.out.turn ((But.refl (fun k => k = b) _).set (.inl rfl)).drew HD.out.ok.count ?_ HD.out.oi HD.out.os HD.out.ol HD.out.ii HD.out.is HD.out.il HD.out.ai HD.out.asl⟩
    have e : ∀ s : Int, (w.setCell ⟨b, 7, none⟩ (.int .i64 s)).drew.heap[b]? = some (.cells #[.int .i64 S.room, iv, sv, .bool S.staged, lv, .int .i64 S.sure, .bool S.off, .int .i64 s] 67 (0, 0)) :=
      fun s => heap_setCell_same w b 7 _ _ _ HD.out.head
    first
      | (have hm : max (S.left - 1) (-1) = -1 := by omega
         simp only [hm]; exact e _)
      | (have hm : max (S.left - 1) (-1) = S.left - 1 := by omega
         simp only [hm]; exact e _)
end Go.Proofs.Ytpchmdfkifbciaa
