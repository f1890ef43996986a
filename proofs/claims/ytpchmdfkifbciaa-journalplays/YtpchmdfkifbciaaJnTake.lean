/- What onlyFrame and take of a journal do: the frames of a log are taken one by one, what is torn is cut off. Conditions: the journal and its device lie in memory; the log is a copy elsewhere. -/
import Derived.Test.YtpchmdfkifbciaaJnSave
import Derived.Deep.RegionHeld3
namespace Go.Proofs.Ytpchmdfkifbciaa
open Go.RowKit

/-- The frames rs stand at the front of l; they take p bytes. -/
inductive Fr (l : List UInt8) : List (List UInt8) → Nat → Prop
  | nil : Fr l [] 0
  | snoc {rs : List (List UInt8)} {p : Nat} (h : Fr l rs p) (h0 : unfE (l.drop p) = 0) : Fr l (rs ++ [unfD (l.drop p)]) (p + wordV (l.drop p) + 8)
theorem unfE_zero {r : List UInt8} (h : unfE r = 0) : wordV r + 8 ≤ r.length ∧ wordV r ≤ 1048576 ∧ (unfD r).length = wordV r := by
  unfold unfE at h
  split at h <;> try omega
  split at h <;> try omega
  split at h <;> try omega
  split at h <;> try omega
  refine ⟨by omega, by omega, ?_⟩
  unfold unfD
  simp; omega
theorem Fr.le {l : List UInt8} {rs : List (List UInt8)} {p : Nat} (h : Fr l rs p) : p ≤ l.length := by
  induction h with
  | nil => exact Nat.zero_le _
  | @snoc rs p h h0 ih => have := (unfE_zero h0).1; simp at this; omega
theorem framesB_snoc (rs : List (List UInt8)) (x : List UInt8) : framesB (rs ++ [x]) = framesB rs ++ frameB x := by simp [framesB]
theorem Fr.size {l : List UInt8} {rs : List (List UInt8)} {p : Nat} (h : Fr l rs p) : (framesB rs).length = p := by
  induction h with
  | nil => rfl
  | @snoc rs p h h0 ih => rw [framesB_snoc, List.length_append, ih, frameB_len, (unfE_zero h0).2.2]; omega
theorem unfE_cases (r : List UInt8) : unfE r = 0 ∨ unfE r = 4 ∨ unfE r = 5 ∨ unfE r = 8 := by unfold unfE; (repeat' split) <;> omega
theorem unframe_zero (v : Value) (l : List UInt8) (w : World) (hv : Bts w v l) (hll : l.length ≤ 1000000000) :
    Calls Try.prog 73 #[v, .int .i64 0] w fun e w' => ∃ va m vc next code, e = .returned (.tuple #[.slice va m vc, .int .i64 next, .int .i64 code]) ∧ UnfV w' w.heap.size l 0 va m vc next code ∧ Below w.heap.size w w' := by
  have := unframe_any v l 0 w hv (Nat.zero_le _) hll
  simpa using this
set_option maxHeartbeats 800000 in
theorem only_ok (v : Value) (l : List UInt8) (w : World) (hv : Bts w v l) (hll : l.length ≤ 1000000000) (h0 : unfE l = 0) (h1 : l.length ≤ wordV l + 8) :
    Calls Try.prog 53 #[v] w fun e w' => ∃ va vc, e = .returned (.tuple #[.slice va (unfD l).length vc, .int .i64 0]) ∧ Own w' w.heap.size (.slice va (unfD l).length vc) (unfD l) ∧ Below w.heap.size w w' := by
  have HV := hid hv
  obtain ⟨ua, uc, rfl⟩ := hv.shape
  have H0 := hid h0
  have H1 := hid h1
  have HL := hid hll
  clear hv h0 h1
  go_enter Try.func53, Try.ntmps53
  go_wp2_with fail
  refine (unframe_zero _ l _ HV.out HL.out).mono ?_
  rintro e w1 ⟨va, m, vc, next, code, rfl, hu, hb1⟩
  unfold UnfV at hu
  rw [if_pos H0.out] at hu
  obtain ⟨ho1, rfl, rfl, rfl⟩ := hu
  have HO := hid ho1
  have HB := hid hb1
  clear ho1 hb1
  have hn : decide (((0 : Nat) : Int) + (wordV l : Int) + 8 < (l.length : Int)) = false := by have := H1.out; simp; omega
  have hn2 : decide ((wordV l : Int) + 8 < (l.length : Int)) = false := by have := H1.out; simp; omega
  go_wp2
  go_ret2
  exact ⟨va, vc, rfl, HO.out, HB.out⟩
set_option maxHeartbeats 800000 in
theorem only_bad (v : Value) (l : List UInt8) (w : World) (hv : Bts w v l) (hll : l.length ≤ 1000000000) (h0 : unfE l ≠ 0) :
    Calls Try.prog 53 #[v] w fun e w' => e = .returned (.tuple #[.slice none 0 0, .int .i64 (unfE l : Nat)]) ∧ Below w.heap.size w w' := by
  have HV := hid hv
  obtain ⟨ua, uc, rfl⟩ := hv.shape
  have H0 := hid h0
  have HL := hid hll
  clear hv h0
  go_enter Try.func53, Try.ntmps53
  go_wp2_with fail
  refine (unframe_zero _ l _ HV.out HL.out).mono ?_
  rintro e w1 ⟨va, m, vc, next, code, rfl, hu, hb1⟩
  unfold UnfV at hu
  rw [if_neg H0.out] at hu
  obtain ⟨rfl, rfl, rfl, rfl, rfl⟩ := hu
  have HB := hid hb1
  clear hb1
  have hn : ((unfE l : Int) == 0) = false := by have := H0.out; simp; omega
  go_wp2
  go_ret2
  exact ⟨rfl, HB.out⟩
set_option maxHeartbeats 800000 in
theorem only_more (v : Value) (l : List UInt8) (w : World) (hv : Bts w v l) (hll : l.length ≤ 1000000000) (h0 : unfE l = 0) (h1 : wordV l + 8 < l.length) :
    Calls Try.prog 53 #[v] w fun e w' => e = .returned (.tuple #[.slice none 0 0, .int .i64 4]) ∧ Below w.heap.size w w' := by
  have HV := hid hv
  obtain ⟨ua, uc, rfl⟩ := hv.shape
  have H0 := hid h0
  have H1 := hid h1
  have HL := hid hll
  clear hv h0 h1
  go_enter Try.func53, Try.ntmps53
  go_wp2_with fail
  refine (unframe_zero _ l _ HV.out HL.out).mono ?_
  rintro e w1 ⟨va, m, vc, next, code, rfl, hu, hb1⟩
  unfold UnfV at hu
  rw [if_pos H0.out] at hu
  obtain ⟨ho1, rfl, rfl, rfl⟩ := hu
  have HB := hid hb1
  clear ho1 hb1
  have hn : ((0 : Nat) : Int) + (wordV l : Int) + 8 < (l.length : Int) := by have := H1.out; omega
  have hn2 : (wordV l : Int) + 8 < (l.length : Int) := by have := H1.out; omega
  go_wp2
  go_ret2
  exact ⟨rfl, HB.out⟩
set_option maxHeartbeats 800000 in
theorem take1_any (x jb db : Nat) (R : Nat → Prop) (S : DS) (J : JS) (w : World) (hd : Jd w jb db R S J) (hx : w.cell? ⟨x, 0, none⟩ = some (.pointer (some ⟨jb, 0, none⟩))) :
    Calls Try.prog 74 #[.pointer (some ⟨x, 0, none⟩)] w fun e w' => e = .returned (.int .i64 (writeE S (cutE S (sizeJ J : Nat)))) ∧ JStep w jb db R w' (writeS S (cutS S (sizeJ J : Nat)) S) J := by
  have HD := hid hd
  obtain ⟨iv, rv, vs, c0, c1, c2, c3, c4, cf, -, -⟩ := hd.cells
  clear hd
  go_enter Try.func74, Try.ntmps74
  go_wp2_with fail
  go_region_with (first | (go_at_call 75; refine ((show Jd w.drew jb db R S J from HD.out.below ⟨rfl, rfl, rfl, Nat.le_refl _, fun _ _ => rfl⟩).disk fun RD d => cut_any db RD S (sizeJ J : Nat) w.drew d).mono ?_; rintro e w1 ⟨rfl, hs1⟩; have HS := hid hs1; clear hs1))
  all_goals
    go_wp2
    go_ret
    exact ⟨rfl, jstep_below (w1 := w.drew) ⟨rfl, rfl, rfl, Nat.le_refl _, fun _ _ => rfl⟩ HS.out⟩
theorem ent_take1 : Ent 74 := fun args w => by simp [go_sem]
/-- What the size cell of a journal says. -/
def sizeCell (w : World) (jb : Nat) : Nat := match w.cell? ⟨jb, 3, none⟩ with | some (.int _ z) => z.toNat | _ => 0
theorem sizeCell_of {w : World} {jb db : Nat} {R : Nat → Prop} {S : DS} {J : JS} (h : Jd w jb db R S J) : sizeCell w jb = sizeJ J := by
  obtain ⟨iv, rv, vs, c0, c1, c2, c3, c4, cf, -, -⟩ := h.cells
  unfold sizeCell
  rw [c3]
  simp
/-- What take answers, and what is there behind it. -/
def TakeV (w : World) (jb db : Nat) (R : Nat → Prop) (S : DS) (im l : List UInt8) (e : Ending) (w' : World) : Prop :=
  ∃ rs p, Fr l rs p ∧ unfE (l.drop p) ≠ 0 ∧
    (unfE (l.drop p) = 8 → e = .returned (.int .i64 0) ∧ JStep w jb db R w' S ⟨im, rs, false⟩) ∧
    (unfE (l.drop p) = 4 → e = .returned (.int .i64 (writeE S (cutE S (p : Nat)))) ∧ JStep w jb db R w' (writeS S (cutS S (p : Nat)) S) (dn ⟨im, rs, false⟩ (writeE S (cutE S (p : Nat))))) ∧
    (unfE (l.drop p) = 5 → e = .returned (.int .i64 5) ∧ JStep w jb db R w' S ⟨im, rs, false⟩)
set_option maxHeartbeats 3200000 in
theorem take_any (jb db : Nat) (R : Nat → Prop) (S : DS) (im l : List UInt8) (v : Value) (w : World) (hd : Jd w jb db R S ⟨im, [], false⟩) (hv : Bts w v l) (ho : Out R v) (hll : l.length ≤ 1000000000) :
    Calls Try.prog 54 #[.pointer (some ⟨jb, 0, none⟩), v] w (TakeV w jb db R S im l) := by
  have HV := hid hv
  obtain ⟨ua, uc, rfl⟩ := hv.shape
  have HD := hid hd
  have HO := hid ho
  have HL := hid hll
  have hjlt := hd.jlt
  clear hv hd ho hll
  have hmf : ∀ (fn : Fn) (first cap : Array Value) (w : World), (Instr.makeFunc fn first cap).run Try.prog w = .ok (.func fn first cap) w := fun _ _ _ _ => rfl
  obtain ⟨w0, hw0⟩ : ∃ w0, w0 = w.alloc (.cells #[.pointer (some ⟨jb, 0, none⟩)] 28) := ⟨_, rfl⟩
  have hb0 : Below w.heap.size w w0 := by rw [hw0]; exact (Below.refl _ _).alloc (Nat.le_refl _) _
  have hs0 : w0.heap.size = w.heap.size + 1 := by rw [hw0]; simp
  have HX0 : Hid (w0.cell? ⟨w.heap.size, 0, none⟩ = some (.pointer (some ⟨jb, 0, none⟩))) := hid (by rw [hw0, cell_of_row _ _ _ _ _ _ (heap_alloc_new _ _)]; rfl)
  have HB0 := hid hb0
  clear hb0
  go_enter Try.func54, Try.ntmps54
  go_wp2
  rw [← hw0]
  clear hw0
  go_loopw [5, 6, 7] (fun _ _ _ wr => ∃ rs p R1, Fr l rs p ∧ Jd wr jb db R1 S ⟨im, rs, false⟩ ∧ But R w0 wr ∧ ∀ k, R1 k → R k ∨ w0.heap.size ≤ k) (fun _ _ _ wr => l.length - sizeCell wr jb)
  case atStart => exact ⟨[], 0, R, Fr.nil, HD.out.below HB0.out, But.refl _ _, fun _ h => .inl h⟩
  case round =>
    obtain ⟨rs, p, R1, hfr, hd1, ht1, hr1⟩ := hrel
    obtain ⟨iv, rv, vs, c0, c1, c2, c3, c4, cf, -, -⟩ := hd1.cells
    have hsz : sizeJ ⟨im, rs, false⟩ = p := hfr.size
    rw [hsz] at c3
    have HSZ := hid hsz
    have HF := hid hfr
    have D1 := hid hd1
    have T1 := hid ht1
    have RR1 := hid hr1
    have hnx : ¬ R w.heap.size := fun h => by have := HD.out.rlt _ h; omega
    have hx1 : wr.heap[w.heap.size]? = w0.heap[w.heap.size]? := ht1.block _ (by omega) hnx
    have cx : wr.cell? ⟨w.heap.size, 0, none⟩ = some (.pointer (some ⟨jb, 0, none⟩)) := (World.cell?_of_block hx1).trans HX0.out
    have HV1 := hid ((HV.out.below HB0.out).but ht1 HO.out)
    have hjlt1 := hd1.jlt
    have hxlt : w.heap.size < wr.heap.size := by have := ht1.size; omega
    clear hsz hfr hd1 ht1 hr1 hx1 hnx
    go_wp2_with fail
    refine (unframe_any _ l p _ HV1.out HF.out.le HL.out).mono ?_
    rintro e w1 ⟨va, m, vc, next, code, rfl, hu, hb1⟩
    have HB1 := hid hb1
    have k0 := cell_later hb1 c0
    have k2 := cell_later hb1 c2
    have k3 := cell_later hb1 c3
    have kx := cell_later hb1 cx
    have kf : ∀ i, w1.frozen? ⟨jb, i, none⟩ = false := fun i => (World.frozen?_of_block (hb1.block jb hjlt1)).trans (cf i)
    clear hb1
    unfold UnfV at hu
    rcases unfE_cases (l.drop p) with h0 | h4 | h5 | h8
    · rw [if_pos h0] at hu
      obtain ⟨ho1, rfl, rfl, rfl⟩ := hu
      obtain ⟨RJ, RD, d1, e1⟩ := D1.out
      obtain ⟨iv', rv', vs', hj, -, -, c2', -, -, -⟩ := d1.j.cells
      obtain rfl : rv = rv' := by rw [c2] at c2'; exact Option.some.inj c2'
      obtain ⟨ra, rc, rfl⟩ := ownsRow_shape hj.rr.own
      obtain ⟨hz1, hz2, hz3⟩ := unfE_zero h0
      obtain ⟨r, hr⟩ : ∃ r, r = unfD (l.drop p) := ⟨_, rfl⟩
      rw [← hr] at ho1 hz3 ⊢
      have HR := hid hr
      have HO1 := hid ho1
      have H0 := hid h0
      have HZ3 := hid hz3
      have HZ2 := hid hz2
      have HJ := hid hj
      have DD := hid d1
      have EE := hid e1
      have HRL := hid (show rs.length ≤ 1000000000 by have h1 := recs_le rs; have h2 := HF.out.size; have h3 := HF.out.le; have := HL.out; omega)
      have hjlt2 : jb < w1.heap.size := by have := HB1.out.size; omega
      have hxlt2 : w.heap.size < w1.heap.size := by have := HB1.out.size; omega
      have HO4 : Hid ((w1.alloc (.cells #[.slice va r.length vc] 34)).ownsRow 0 34 1 (.slice ra rs.length rc) rs.length vs') := hid (ownsRow_blk hj.rr.own fun k hk => (Below.heap_alloc _ _ _ (by have h1 := hj.rlt k (hj.rr.at' k hk); have h2 := HB1.out.size; omega)).trans (HB1.out.block k (hj.rlt k (hj.rr.at' k hk))))
      have HC4 : Hid ((w1.alloc (.cells #[.slice va r.length vc] 34)).cell? ⟨w1.heap.size, 0, none⟩ = some (.slice va r.length vc)) := hid (by rw [cell_of_row _ _ _ _ _ _ (heap_alloc_new _ _)]; rfl)
      have HJB := hid (ownsRow_ne hj.rr.own hj.head typeJ.2)
      have HXR := hid (show ∀ k, (Value.slice ra rs.length rc).ownBlock = some k → k ≠ w.heap.size from fun k hk e => by
        have h1 := (e1 k).2 (.inl (hj.rr.at' k hk))
        rcases RR1.out k h1 with h | h
        · have := HD.out.rlt _ h; omega
        · omega)
      clear ho1 hr h0 hz1 hz2 hz3 hj d1 e1 c0 c1 c2 c3 c4 cx c2'
      go_wp2_with fail
      go_region_law (first
        | (refine step_append_row rfl (.tmp 26) (.tmp 28) rfl (.slice ra rs.length rc) rs.length vs' rfl HO4.out w1.heap.size 1 (.slice va r.length vc) rfl HC4.out (slice_one _ _ _) HRL.out ?_; intro va5 vc5 w5 ho5 hg5 hat5; have HO5 := hid ho5; have HG5 := hid hg5; have HA5 := hid hat5; have hb5 : w5.heap[jb]? = w1.heap[jb]? := (hg5.block jb (by simp [World.drew]; omega) (fun e => HJB.out jb e.symm rfl)).trans (Below.heap_alloc _ _ _ hjlt2); have hbx5 : w5.heap[w.heap.size]? = w1.heap[w.heap.size]? := (hg5.block w.heap.size (by simp [World.drew]; omega) (fun e => HXR.out _ e.symm rfl)).trans (Below.heap_alloc _ _ _ hxlt2); have q2 : w5.cell? ⟨jb, 2, none⟩ = some (.slice ra rs.length rc) := (World.cell?_of_block hb5).trans k2; have q3 : w5.cell? ⟨jb, 3, none⟩ = some (.int .i64 (p : Nat)) := (World.cell?_of_block hb5).trans k3; have qx : w5.cell? ⟨w.heap.size, 0, none⟩ = some (.pointer (some ⟨jb, 0, none⟩)) := (World.cell?_of_block hbx5).trans kx; have qf : ∀ i, w5.frozen? ⟨jb, i, none⟩ = false := (fun i => (World.frozen?_of_block hb5).trans (kf i)); clear ho5 hg5 hat5 hb5 hbx5))
      all_goals
        go_wp2
        have hB1 : Below wr.heap.size wr w1.drew := ⟨HB1.out.os, HB1.out.tape, HB1.out.output, HB1.out.size, HB1.out.block⟩
        have hO1 : Own w1.drew wr.heap.size (.slice va r.length vc) r := HO1.out
        have hx := DD.out.added EE.out HJ.out (hB1.alloc hB1.size _) (hO1.below ((Below.refl _ _).alloc (Nat.le_refl _) _)) HG5.out HO5.out HA5.out ((p : Int) + (wordV (l.drop p) : Int) + 8) (by have h1 := HSZ.out; have h2 := HZ3.out; rw [h1, h2]; omega)
        have HX := hid hx
        clear hx hB1 hO1
        go_roundw
        case rel =>
          obtain ⟨R2, d2, t2, r2⟩ := HX.out
          have hs1 := T1.out.size
          refine ⟨rs ++ [unfD (l.drop p)], p + wordV (l.drop p) + 8, R2, Fr.snoc HF.out H0.out, ?_, T1.out.trans t2 RR1.out, fun k hk => ?_⟩
          · rw [← HR.out]; exact d2
          · rcases r2 k hk with h | h
            · exact RR1.out k h
            · exact .inr (by omega)
        case measure =>
          obtain ⟨R2, d2, t2, r2⟩ := HX.out
          have h1 := sizeCell_of d2
          have h2 := sizeCell_of D1.out
          have h3 := (unfE_zero H0.out).1
          have h4 : sizeJ { image := im, recs := rs ++ [r], down := false } = p + wordV (l.drop p) + 8 := by rw [HR.out]; exact (Fr.snoc HF.out H0.out).size
          rw [HSZ.out] at h2
          simp only at h1
          rw [h4] at h1
          rw [h1, h2]
          simp at h3
          omega
    · rw [if_neg (by rw [h4]; decide), h4] at hu
      obtain ⟨rfl, rfl, rfl, rfl, rfl⟩ := hu
      have H4 := hid h4
      clear h4 c0 c1 c2 c3 c4 cf
      go_wp2_with fail
      refine (call_clo jb db R1 _ _ _ 74 _ _ ent_take1 (take1_any w.heap.size jb db R1 S ⟨im, rs, false⟩ _ (D1.out.below HB1.out) kx)).mono ?_
      rintro e w2 ⟨rfl, hs2⟩
      have HS := hid (jstep_below HB1.out hs2)
      clear hs2
      go_wp2
      go_ret
      have hs := HS.out
      rw [HSZ.out] at hs
      refine ⟨rs, p, HF.out, by rw [H4.out]; decide, (fun h => by rw [H4.out] at h; cases h), (fun _ => ⟨by rw [HSZ.out]; rfl, ?_⟩), (fun h => by rw [H4.out] at h; cases h)⟩
      exact jstep_trans ((But.of_below HB0.out).trans T1.out (fun _ h => .inl h)) (fun k hk => by rcases RR1.out k hk with h | h <;> first | exact .inl h | exact .inr (by omega)) hs
    · rw [if_neg (by rw [h5]; decide), h5] at hu
      obtain ⟨rfl, rfl, rfl, rfl, rfl⟩ := hu
      have H5 := hid h5
      clear h5 c0 c1 c2 c3 c4 cf
      go_wp2
      go_ret
      refine ⟨rs, p, HF.out, by rw [H5.out]; decide, (fun h => by rw [H5.out] at h; cases h), (fun h => by rw [H5.out] at h; cases h), (fun _ => ⟨rfl, ?_⟩)⟩
      exact jstep_trans ((But.of_below HB0.out).trans T1.out (fun _ h => .inl h)) (fun k hk => by rcases RR1.out k hk with h | h <;> first | exact .inl h | exact .inr (by omega)) (JStep.of_below D1.out HB1.out)
    · rw [if_neg (by rw [h8]; decide), h8] at hu
      obtain ⟨rfl, rfl, rfl, rfl, rfl⟩ := hu
      have H8 := hid h8
      clear h8 c0 c1 c2 c3 c4 cf
      go_wp2
      go_ret
      refine ⟨rs, p, HF.out, by rw [H8.out]; decide, (fun _ => ⟨rfl, ?_⟩), (fun h => by rw [H8.out] at h; cases h), (fun h => by rw [H8.out] at h; cases h)⟩
      exact jstep_trans ((But.of_below HB0.out).trans T1.out (fun _ h => .inl h)) (fun k hk => by rcases RR1.out k hk with h | h <;> first | exact .inl h | exact .inr (by omega)) (JStep.of_below D1.out HB1.out)
end Go.Proofs.Ytpchmdfkifbciaa
