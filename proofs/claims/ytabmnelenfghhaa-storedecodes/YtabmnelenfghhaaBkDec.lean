/- What Decode of any bytes gives: the store that is read, or ErrCode. Conditions: the bytes lie in memory. -/
import Derived.Test.YtabmnelenfghhaaBkDec1
import Derived.Test.YtabmnelenfghhaaBkRow
namespace Go.Proofs.Ytabmnelenfghhaa
open Go.RowKit
set_option linter.unusedVariables false
set_option linter.unusedSimpArgs false

/-- The Reader behind i cells. -/
def rdS (s : Option (List UInt8)) : Nat → Option (List UInt8)
  | 0 => s
  | i + 1 => tcS (rdS s i) 4
def rdL (s : Option (List UInt8)) (i : Nat) : List CellD := (List.range i).map fun j => tcC (rdS s j)
theorem rdL_succ (s : Option (List UInt8)) (i : Nat) : rdL s (i + 1) = rdL s i ++ [tcC (rdS s i)] := by simp [rdL, List.range_succ]
theorem rdL_len (s : Option (List UInt8)) (i : Nat) : (rdL s i).length = i := by simp [rdL]
def dcF (l : List UInt8) : Int := wrap64 (numV (some l) : Int)
def dcT (l : List UInt8) : Int := wrap64 (numV (numS (some l)) : Int)
def dcR (l : List UInt8) : Option (List UInt8) := numS (numS (some l))
def dcS (l : List UInt8) : Option (List UInt8) := boolS (dcR l)
def dcN (l : List UInt8) : Nat := (dcT l - dcF l).toNat
/-- The store that is read. -/
def dcD (l : List UInt8) : StD := ⟨dcF l, dcT l, boolV (dcR l), rdL (dcS l) (dcN l)⟩
/-- Is one read? -/
def dcOk (l : List UInt8) : Bool := mayBeB (dcF l, dcT l) && (endB (rdS (dcS l) (dcN l)) && !(rdL (dcS l) (dcN l)).any noBlockB)
/-- What Decode leaves. -/
def DecP (l : List UInt8) (w : World) (e : Ending) (w' : World) : Prop :=
  (dcOk l = false ∧ e = .returned (.tuple #[.pointer none, .int .i64 4]) ∧ Below w.heap.size w w') ∨
  (dcOk l = true ∧ ∃ b g, e = .returned (.tuple #[.pointer (some ⟨b, 0, none⟩), .int .i64 0]) ∧ w.heap.size ≤ b ∧ w.heap.size ≤ g ∧ St w' b g (dcD l) ∧ Below w.heap.size w w')
theorem text_size (s : Option (List UInt8)) : ((tcC s).text.size : Int) ≤ 1048576 := by
  show ((⟨(textV s).toArray⟩ : ByteArray).size : Int) ≤ _
  have : (textV s).length ≤ 1048576 := by
    have h := lenR_le 1048576 s
    unfold textV
    split
    · simp
    · rw [List.length_take]; omega
  simp only [ByteArray.size, List.size_toArray]
  omega
theorem rdL_text (s : Option (List UInt8)) (i : Nat) : ∀ c ∈ rdL s i, (c.text.size : Int) ≤ 9223372036854775807 := by
  intro c hc
  simp only [rdL, List.mem_map] at hc
  obtain ⟨j, -, rfl⟩ := hc
  have := text_size (rdS s j)
  omega
/-- In the loop: the Reader, the store's block with its row. -/
structure DI (w : World) (rb sb base : Nat) (f t : Int) (fr : Bool) (s : Option (List UInt8)) (i : Nat) (va : Option Addr) (vc : Nat) (W : World) : Prop where
  rd : Rd W rb (rdS s i)
  box : W.heap[sb]? = some (.cells #[.int .i64 f, .int .i64 t, .bool fr, .slice va i vc] 91 (0, 0))
  row : W.ownsRow base 100 5 (.slice va i vc) i (flat5 (rdL s i))
  bel : Below w.heap.size w W
  lim : base ≤ W.heap.size
theorem DI.next {w W w4 w5 w6 : World} {rb sb base : Nat} {f t : Int} {fr : Bool} {s : Option (List UInt8)} {i : Nat} {va va' : Option Addr} {vc vc' : Nat} (h : DI w rb sb base f t fr s i va vc W) (hrb : w.heap.size ≤ rb) (hrs : rb < sb) (hsb : sb < base)
    (hr4 : Rd w4 rb (tcS (rdS s i) 4)) (hg4 : W.drew.grownBy w4 (some rb)) (hb5 : Below w4.heap.size w4 w5) (hg6 : w5.grownBy w6 (Value.slice va i vc).ownBlock) (ho6 : w6.ownsRow base 100 5 (.slice va' (i + 1) vc') (i + 1) (flat5 (rdL s i) ++ c5 (tcC (rdS s i)))) :
    DI w rb sb base f t fr s (i + 1) va' vc' (w6.setCell ⟨sb, 3, none⟩ (.slice va' (i + 1) vc')) ∧ w6.heap[sb]? = some (.cells #[.int .i64 f, .int .i64 t, .bool fr, .slice va i vc] 91 (0, 0)) := by
  have hlo : ∀ k, k < base → some k ≠ (Value.slice va i vc).ownBlock := fun k hk e => by have := (h.row.lt k e.symm).1; omega
  have hbW : sb < W.heap.size := lt_of_block h.box
  have hW4 : W.heap.size ≤ w4.heap.size := hg4.size
  have k6 : ∀ k, k < base → k < W.heap.size → w6.heap[k]? = w4.heap[k]? := fun k hk hW => (hg6.block k (by have := hb5.size; omega) (hlo k hk)).trans (hb5.block k (by omega))
  have e6 : w6.heap[sb]? = some (.cells #[.int .i64 f, .int .i64 t, .bool fr, .slice va i vc] 91 (0, 0)) := by
    rw [k6 sb hsb hbW, hg4.block sb hbW (by simp; omega)]; exact h.box
  have hws : w.heap.size ≤ W.heap.size := h.bel.size
  have b6 : Below w.heap.size w w6 := by
    refine h.bel.trans (B := w.heap.size) ⟨?_, ?_, ?_, ?_, fun k hk => ?_⟩
    · exact hg6.os.trans (hb5.os.trans hg4.os)
    · exact hg6.tape.trans (hb5.tape.trans hg4.tape)
    · exact hg6.output.trans (hb5.output.trans hg4.output)
    · exact Nat.le_trans hW4 (Nat.le_trans hb5.size hg6.size)
    · rw [k6 k (by omega) (by omega)]; exact hg4.block k (by show k < W.heap.size; omega) (by simp; omega)
  refine ⟨⟨?_, ?_, ?_, b6.setCell (p := ⟨sb, 3, none⟩) (by show w.heap.size ≤ sb; omega) _, ?_⟩, e6⟩
  · have : Rd w6 rb (rdS s (i + 1)) := Rd.beyond hr4 fun k hk => k6 k (by omega) (by omega)
    exact this.set hrs
  · exact heap_setCell_same _ _ _ _ _ _ e6
  · rw [rdL_succ, flat5_append, show flat5 [tcC (rdS s i)] = c5 (tcC (rdS s i)) from by simp [flat5]]
    refine own_kept ho6 fun q cs hq hh => Below.heap_setCell _ _ _ _ ?_
    have := (ho6.lt q hq).1
    simp; omega
  · have := h.lim
    have := hb5.size
    have := hg6.size
    simp; omega
set_option maxRecDepth 100000 in
set_option maxHeartbeats 8000000 in
theorem decode_any (v : Value) (l : List UInt8) (w : World) (hv : Bts w v l) (hl : l.length ≤ 140737488355328) :
    Calls Try.prog 19 #[v] w (DecP l w) := by
  have HV := hid hv
  obtain ⟨va, vc, rfl⟩ := hv.shape
  clear hv
  go_enter Try.func19, Try.ntmps19
  go_wp2_with fail
  refine (newReader_any _ _ _ HV.out hl).mono ?_
  rintro e w1 ⟨rb, rfl, hrb, hr1, hb1⟩
  have D1 := hid hr1
  have B1 := hid hb1
  clear hr1 hb1 HV
  go_upto_region 3 with fail
  obtain ⟨w2, hw2⟩ : ∃ w2, w2 = w1.alloc (.cells #[.int .i64 0, .int .i64 0, .bool false, .slice none 0 0] 91) := ⟨_, rfl⟩
  have hb2 : Below w1.heap.size w1 w2 := by rw [hw2]; exact (Below.refl _ _).alloc (Nat.le_refl _) _
  have S2 : Hid (w2.heap[w1.heap.size]? = some (.cells #[.int .i64 0, .int .i64 0, .bool false, .slice none 0 0] 91 (0, 0))) := hid (by rw [hw2]; exact heap_alloc_new _ _)
  rw [← hw2]
  have D2 := hid (D1.out.kept hb2)
  have B2 := hid (B1.out.trans (hb2.mono B1.out.size))
  have hrs : rb < w1.heap.size := D1.out.lt
  have hsw : w.heap.size ≤ w1.heap.size := B1.out.size
  have hbs : w1.heap.size < w2.heap.size := by rw [hw2]; simp
  clear hw2 hb2 D1 B1
  obtain ⟨sb, hsb⟩ : ∃ sb, sb = w1.heap.size := ⟨_, rfl⟩
  rw [← hsb] at S2 hrs hsw hbs
  rw [← hsb]
  clear hsb
  go_wp2_with fail
  refine (rnum_any _ _ _ D2.out).mono ?_
  rintro e w3 ⟨rfl, hr3, hg3⟩
  have D3 : Hid (Rd w3 rb (numS (some l))) := hid hr3
  have S3 := hid ((hg3.block _ (lt_of_block S2.out) (by simp; omega)).trans S2.out)
  have B3 := hid (grown_below B2.out hg3 B2.out.size hrb)
  have HF : Hid (dcF l = wrap64 ((numR (some l)).1 : Int)) := hid (by unfold dcF numV; with_reducible rfl)
  clear hr3 hg3 D2 S2 B2
  have g0 : w3.cell? ⟨sb, 0, none⟩ = some (.int .i64 0) := by rw [cell_of_row _ _ _ _ _ _ S3.out]; rfl
  have z0 : w3.frozen? ⟨sb, 0, none⟩ = false := frozen_of_row _ _ _ _ _ S3.out
  go_upto_region 4 with fail
  rw [← HF.out]
  clear HF g0 z0
  generalize (numR (some l)).1 = n1
  obtain ⟨f, hf⟩ : ∃ f, f = dcF l := ⟨_, rfl⟩
  have HF := hid hf
  rw [← hf]
  clear hf
  obtain ⟨w4, hw4⟩ : ∃ w4, w4 = w3.setCell ⟨sb, 0, none⟩ (.int .i64 f) := ⟨_, rfl⟩
  have D4 : Hid (Rd w4 rb (numS (some l))) := hid (by rw [hw4]; exact D3.out.set hrs)
  have S4 : Hid (w4.heap[sb]? = some (.cells #[.int .i64 f, .int .i64 0, .bool false, .slice none 0 0] 91 (0, 0))) := hid (by rw [hw4]; exact heap_setCell_same _ _ _ _ _ _ S3.out)
  have B4 : Hid (Below w.heap.size w w4) := hid (by rw [hw4]; exact B3.out.setCell (p := ⟨sb, 0, none⟩) hsw _)
  have hs4 : w3.heap.size ≤ w4.heap.size := by rw [hw4]; simp
  rw [← hw4]
  have hS3l := lt_of_block S3.out
  clear hw4 D3 S3 B3
  go_wp2_with fail
  refine (rnum_any _ _ _ D4.out).mono ?_
  rintro e w5 ⟨rfl, hr5, hg5⟩
  have D5 : Hid (Rd w5 rb (dcR l)) := hid hr5
  have S5 := hid ((hg5.block _ (lt_of_block S4.out) (by simp; omega)).trans S4.out)
  have B5 := hid (grown_below B4.out hg5 B4.out.size hrb)
  have HT : Hid (dcT l = wrap64 ((numR (numS (some l))).1 : Int)) := hid (by unfold dcT numV; with_reducible rfl)
  clear hr5 hg5 D4 S4 B4
  have g1 : w5.cell? ⟨sb, 1, none⟩ = some (.int .i64 0) := by rw [cell_of_row _ _ _ _ _ _ S5.out]; rfl
  have z1 : w5.frozen? ⟨sb, 1, none⟩ = false := frozen_of_row _ _ _ _ _ S5.out
  go_upto_region 5 with fail
  rw [← HT.out]
  clear HT g1 z1
  generalize (numR (numS (some l))).1 = n2
  obtain ⟨t, ht⟩ : ∃ t, t = dcT l := ⟨_, rfl⟩
  have HT := hid ht
  rw [← ht]
  clear ht
  obtain ⟨w6, hw6⟩ : ∃ w6, w6 = w5.setCell ⟨sb, 1, none⟩ (.int .i64 t) := ⟨_, rfl⟩
  have D6 : Hid (Rd w6 rb (dcR l)) := hid (by rw [hw6]; exact D5.out.set hrs)
  have S6 : Hid (w6.heap[sb]? = some (.cells #[.int .i64 f, .int .i64 t, .bool false, .slice none 0 0] 91 (0, 0))) := hid (by rw [hw6]; exact heap_setCell_same _ _ _ _ _ _ S5.out)
  have B6 : Hid (Below w.heap.size w w6) := hid (by rw [hw6]; exact B5.out.setCell (p := ⟨sb, 1, none⟩) hsw _)
  rw [← hw6]
  clear hw6 D5 S5 B5
  go_wp2_with fail
  refine (rbool_any _ _ _ D6.out).mono ?_
  rintro e w7 ⟨rfl, hr7, hg7⟩
  have D7 : Hid (Rd w7 rb (dcS l)) := hid hr7
  have S7 := hid ((hg7.block _ (lt_of_block S6.out) (by simp; omega)).trans S6.out)
  have B7 := hid (grown_below B6.out hg7 B6.out.size hrb)
  clear hr7 hg7 D6 S6 B6
  obtain ⟨fr, hfr⟩ : ∃ fr, fr = boolV (dcR l) := ⟨_, rfl⟩
  have HFR := hid hfr
  rw [← hfr]
  clear hfr
  have g2 : w7.cell? ⟨sb, 2, none⟩ = some (.bool false) := by rw [cell_of_row _ _ _ _ _ _ S7.out]; rfl
  have z2 : w7.frozen? ⟨sb, 2, none⟩ = false := frozen_of_row _ _ _ _ _ S7.out
  go_upto_region 6 with fail
  clear g2 z2
  obtain ⟨w8, hw8⟩ : ∃ w8, w8 = w7.setCell ⟨sb, 2, none⟩ (.bool fr) := ⟨_, rfl⟩
  have D8 : Hid (Rd w8 rb (dcS l)) := hid (by rw [hw8]; exact D7.out.set hrs)
  have S8 : Hid (w8.heap[sb]? = some (.cells #[.int .i64 f, .int .i64 t, .bool fr, .slice none 0 0] 91 (0, 0))) := hid (by rw [hw8]; exact heap_setCell_same _ _ _ _ _ _ S7.out)
  have B8 : Hid (Below w.heap.size w w8) := hid (by rw [hw8]; exact B7.out.setCell (p := ⟨sb, 2, none⟩) hsw _)
  rw [← hw8]
  clear hw8 D7 S7 B7
  have s0 : w8.cell? ⟨sb, 0, none⟩ = some (.int .i64 f) := by rw [cell_of_row _ _ _ _ _ _ S8.out]; rfl
  have s1 : w8.cell? ⟨sb, 1, none⟩ = some (.int .i64 t) := by rw [cell_of_row _ _ _ _ _ _ S8.out]; rfl
  go_wp2_with fail
  refine (mayBe_any (f, t) _).mono ?_
  rintro e w9 ⟨rfl, hb9⟩
  have D9 := hid (D8.out.kept hb9)
  have S9 := hid ((hb9.block _ (lt_of_block S8.out)).trans S8.out)
  have B9 := hid (B8.out.trans (hb9.mono B8.out.size))
  clear hb9 D8 S8 B8 s0 s1
  cases hm : mayBeB (f, t) with
  | false =>
    have HO : Hid (dcOk l = false) := hid (by unfold dcOk; rw [← HF.out, ← HT.out, hm]; rfl)
    clear hm
    go_wp2_with fail
    go_ret2
    exact .inl ⟨HO.out, rfl, B9.out⟩
  | true =>
    have hft : 0 ≤ f ∧ t ≤ 256 ∧ f < t := by unfold mayBeB at hm; simp at hm; omega
    obtain ⟨hf0, ht0, hft⟩ := hft
    have HM := hid hm
    clear hm
    have s0 : w9.cell? ⟨sb, 0, none⟩ = some (.int .i64 f) := by rw [cell_of_row _ _ _ _ _ _ S9.out]; rfl
    have s1 : w9.cell? ⟨sb, 1, none⟩ = some (.int .i64 t) := by rw [cell_of_row _ _ _ _ _ _ S9.out]; rfl
    have hwtf : IntKind.i64.wrap (t - f) = t - f := IntWalk.i64_in _ ⟨by omega, by omega⟩
    go_upto_region 8 with fail
    go_quiet (fail)
    obtain ⟨wA, hwA⟩ : ∃ wA, wA = w9.drewN nq := ⟨_, rfl⟩
    have hbA : Below w9.heap.size w9 wA := by rw [hwA]; exact belowN _ _
    rw [← hwA]
    have DA := hid (D9.out.kept hbA)
    have SA := hid ((hbA.block _ (lt_of_block S9.out)).trans S9.out)
    have BA := hid (B9.out.trans (hbA.mono B9.out.size))
    clear hwA hbA D9 S9 B9 s0 s1 hwtf
    obtain ⟨cnt, hcnt⟩ : ∃ cnt : Nat, t - f = (cnt : Int) := ⟨(t - f).toNat, by omega⟩
    have HCN : Hid (dcN l = cnt) := hid (by unfold dcN; rw [← HF.out, ← HT.out, hcnt]; simp)
    have HCT := hid hcnt
    have hcl : cnt ≤ 256 := by omega
    rw [hcnt]
    clear hcnt
    obtain ⟨base, hbase⟩ : ∃ base, base = wA.heap.size := ⟨_, rfl⟩
    have hsbb : sb < base := by rw [hbase]; exact lt_of_block SA.out
    have DI0 : Hid (DI w rb sb base f t fr (dcS l) 0 none 0 wA) := hid ⟨DA.out, SA.out, World.ownsRow_nil _ _ _ _, BA.out, by omega⟩
    clear hbase DA SA BA
    go_wp2_with fail
    go_loopw [46] (fun iv wr => ∃ (i : Nat) (va' : Option Addr) (vc' : Nat), iv = .int .i64 i ∧ i ≤ cnt ∧ DI w rb sb base f t fr (dcS l) i va' vc' wr) (fun iv _ => cnt - (intOf iv).toNat)
    case atStart => exact ⟨0, none, 0, rfl, Nat.zero_le _, DI0.out⟩
    case round =>
      obtain ⟨i, va', vc', rfl, hi, hDI⟩ := hrel
      have HDI := hid hDI
      have hbW : sb < wr.heap.size := lt_of_block hDI.box
      have c0 : wr.cell? ⟨sb, 3, none⟩ = some (.slice va' i vc') := by rw [cell_of_row _ _ _ _ _ _ hDI.box]; rfl
      clear hDI DI0
      by_cases hlti : (i : Int) < (cnt : Int)
      · go_upto_region 10 with fail
        refine wp_region_held_drew (S := fun _ => True) (by kernel_rfl) trivial (fun hHeld => ?_)
        refine wpAnyH_take (i := 0) (v := ?lv0) rfl (by kernel_rfl) (by kernel_rfl) (by kernel_rfl) (fun _ _ _ h => h) (Or.inl ⟨by rfl, ?ly0⟩) (by assumption) ?lr0
        case ly0 => (intro w hSw; (try dsimp only at hSw); go_simp; try with_reducible rfl)
        (try simp only [Act.put, List.setIfInBounds_toArray, List.set_cons_zero, List.set_cons_succ, List.getElem_toArray, List.getElem_cons_succ, List.getElem_cons_zero])
        refine wpAnyH_take (i := 1) (v := ?lv1) rfl (by kernel_rfl) (by kernel_rfl) (by kernel_rfl) (fun _ _ _ h => h) (Or.inl ⟨by rfl, ?ly1⟩) (by assumption) ?lr1
        case ly1 => (intro w hSw; (try dsimp only at hSw); go_simp; try with_reducible rfl)
        (try simp only [Act.put, List.setIfInBounds_toArray, List.set_cons_zero, List.set_cons_succ, List.getElem_toArray, List.getElem_cons_succ, List.getElem_cons_zero])
        refine wpAnyH_take (i := 2) (v := ?lv2) rfl (by kernel_rfl) (by kernel_rfl) (by kernel_rfl) (fun _ _ _ h => h) (Or.inl ⟨by rfl, ?ly2⟩) (by assumption) ?lr2
        case ly2 => (intro w hSw; (try dsimp only at hSw); go_simp; try with_reducible rfl)
        (try simp only [Act.put, List.setIfInBounds_toArray, List.set_cons_zero, List.set_cons_succ, List.getElem_toArray, List.getElem_cons_succ, List.getElem_cons_zero])
        refine wpAnyH_take (i := 3) (v := ?lv3) rfl (by kernel_rfl) (by kernel_rfl) (by kernel_rfl) (fun _ _ _ h => h) (Or.inl ⟨by rfl, ?ly3⟩) (by assumption) ?lr3
        case ly3 => (intro w hSw; (try dsimp only at hSw); go_simp; try with_reducible rfl)
        (try simp only [Act.put, List.setIfInBounds_toArray, List.set_cons_zero, List.set_cons_succ, List.getElem_toArray, List.getElem_cons_succ, List.getElem_cons_zero])
        refine wpAnyH_take (i := 5) (v := ?lv5) rfl (by kernel_rfl) (by kernel_rfl) (by kernel_rfl) (fun _ _ _ h => h) (Or.inl ⟨by rfl, ?ly5⟩) (by assumption) ?lr5
        case ly5 => (intro w hSw; (try dsimp only at hSw); go_simp; try with_reducible rfl)
        (try simp only [Act.put, List.setIfInBounds_toArray, List.set_cons_zero, List.set_cons_succ, List.getElem_toArray, List.getElem_cons_succ, List.getElem_cons_zero])
        refine wpAnyH_ready (rs := [4, 6]) (by kernel_rfl) (by simp) ?_
        refine AllReadyH.cons rfl (fun K hK => ?_) (AllReadyH.cons rfl (fun K hK => ?_) AllReadyH.nil)
        · rw [if_pos (by rfl)]
          go_simp
          refine hK.out _ _ trivial (fun hHeld => ?_)
          clear hK K
          (try simp only [Act.put, List.setIfInBounds_toArray, List.set_cons_zero, List.set_cons_succ, List.getElem_toArray, List.getElem_cons_succ, List.getElem_cons_zero])
          refine wpAnyH_ready (rs := [6]) (by kernel_rfl) (by simp) ?_
          refine AllReadyH.cons rfl (fun K hK => ?_) AllReadyH.nil
          rw [if_pos (by rfl)]
          go_wp2_with fail
          refine (takeCell_any rb _ _ (HDI.out.rd.kept ((Below.refl _ _).drew))).mono ?_
          rintro e w4 ⟨rfl, hr4, hg4⟩
          have R4 := hid hr4
          have G4 := hid hg4
          have k4 := (hg4.block sb hbW (by simp; omega)).trans HDI.out.box
          have c4 : w4.cell? ⟨sb, 3, none⟩ = some (.slice va' i vc') := by rw [cell_of_row _ _ _ _ _ _ k4]; rfl
          clear hr4 hg4 k4
          refine hK.out _ _ trivial (fun hHeld => ?_)
          clear hK K
          unfold cellV
          (try simp only [Act.put, List.setIfInBounds_toArray, List.set_cons_zero, List.set_cons_succ, List.getElem_toArray, List.getElem_cons_succ, List.getElem_cons_zero])
          refine wpAnyH_ready (rs := [7]) (by kernel_rfl) (by simp) ?_
          refine AllReadyH.cons rfl (fun K hK => ?_) AllReadyH.nil
          rw [if_pos (by rfl)]
          go_simp
          refine hK.out _ _ trivial (fun hHeld => ?_)
          clear hK K
          (try simp only [Act.put, List.setIfInBounds_toArray, List.set_cons_zero, List.set_cons_succ, List.getElem_toArray, List.getElem_cons_succ, List.getElem_cons_zero])
          refine wpAnyH_ready (rs := [8]) (by kernel_rfl) (by simp) ?_
          refine AllReadyH.cons rfl (fun K hK => ?_) AllReadyH.nil
          rw [if_pos (by rfl)]
          have hb5 : Below w4.heap.size w4 (w4.alloc (.cells #[.string (tcC (rdS (dcS l) i)).text, .int .i64 ((tcC (rdS (dcS l) i)).m 0), .int .i64 ((tcC (rdS (dcS l) i)).m 1), .int .i64 ((tcC (rdS (dcS l) i)).m 2), .int .i64 ((tcC (rdS (dcS l) i)).m 3)] 100)) := (Below.refl _ _).alloc (Nat.le_refl _) _
          have hrow5 := own_below (own_kept HDI.out.row (w' := w4) fun q cs hq hh => G4.out.block q (lt_of_block hh) (by have := (HDI.out.row.lt q hq).1; simp; omega)) hb5
          have hlim := HDI.out.lim
          have hW4 : wr.heap.size ≤ w4.heap.size := G4.out.size
          refine wp_app rowCell _ _ rfl base (.slice va' i vc') i (flat5 (rdL (dcS l) i)) rfl hrow5 w4.heap.size 1 1 (c5 (tcC (rdS (dcS l) i))) rfl rfl ?ys (fun u hu => flat5_one [tcC (rdS (dcS l) i)] u (by simpa [flat5] using hu)) (by omega) (by simp; omega) ?_
          case ys =>
            intro j' u hj'
            have hn := heap_alloc_new w4 (.cells #[.string (tcC (rdS (dcS l) i)).text, .int .i64 ((tcC (rdS (dcS l) i)).m 0), .int .i64 ((tcC (rdS (dcS l) i)).m 1), .int .i64 ((tcC (rdS (dcS l) i)).m 2), .int .i64 ((tcC (rdS (dcS l) i)).m 3)] 100)
            match j' with
            | 0 => cases hj'; rw [cell_of_row _ _ _ _ _ _ hn]; rfl
            | 1 => cases hj'; rw [cell_of_row _ _ _ _ _ _ hn]; rfl
            | 2 => cases hj'; rw [cell_of_row _ _ _ _ _ _ hn]; rfl
            | 3 => cases hj'; rw [cell_of_row _ _ _ _ _ _ hn]; rfl
            | 4 => cases hj'; rw [cell_of_row _ _ _ _ _ _ hn]; rfl
            | j' + 5 => simp [c5] at hj'
          intro va6 vc6 w6 ho6 hg6
          obtain ⟨hDI6, e6⟩ := HDI.out.next hrb hrs hsbb R4.out G4.out hb5 hg6 ho6
          have HD6 := hid hDI6
          have c6 : w6.cell? ⟨sb, 3, none⟩ = some (.slice va' i vc') := by rw [cell_of_row _ _ _ _ _ _ e6]; rfl
          have f6 : w6.frozen? ⟨sb, 3, none⟩ = false := frozen_of_row _ _ _ _ _ e6
          clear hDI6 ho6 hg6 e6 hrow5 hb5
          refine hK.out _ _ trivial (fun hHeld => ?_)
          clear hK K
          (try simp only [Act.put, List.setIfInBounds_toArray, List.set_cons_zero, List.set_cons_succ, List.getElem_toArray, List.getElem_cons_succ, List.getElem_cons_zero])
          refine wpAnyH_take (i := 9) (v := .pointer (some ⟨sb, 0, none⟩)) rfl (by kernel_rfl) (by kernel_rfl) (by kernel_rfl) (fun _ _ _ h => h) (Or.inl ⟨by rfl, by intro w hSw; go_simp; try with_reducible rfl⟩) (by assumption) ?_
          (try simp only [Act.put, List.setIfInBounds_toArray, List.set_cons_zero, List.set_cons_succ, List.getElem_toArray, List.getElem_cons_succ, List.getElem_cons_zero])
          refine wpAnyH_take (i := 10) (v := .pointer (some ⟨sb, 3, none⟩)) rfl (by kernel_rfl) (by kernel_rfl) (by kernel_rfl) (fun _ _ _ h => h) (Or.inl ⟨by rfl, by intro w hSw; go_simp; try with_reducible rfl⟩) (by assumption) ?_
          (try simp only [Act.put, List.setIfInBounds_toArray, List.set_cons_zero, List.set_cons_succ, List.getElem_toArray, List.getElem_cons_succ, List.getElem_cons_zero])
          refine wpAnyH_ready (rs := [11]) (by kernel_rfl) (by simp) ?_
          refine AllReadyH.cons rfl (fun K hK => ?_) AllReadyH.nil
          rw [if_pos (by rfl)]
          go_simp
          refine hK.out _ _ trivial (fun hHeld => ?_)
          clear hK K
          (try simp only [Act.put, List.setIfInBounds_toArray, List.set_cons_zero, List.set_cons_succ, List.getElem_toArray, List.getElem_cons_succ, List.getElem_cons_zero])
          refine wpAnyH_done (by kernel_rfl) ?_ _
          clear c6 f6
          go_wp2_with fail
          go_roundw
          case rel => exact ⟨i + 1, va6, vc6, by go_num, by omega, HD6.out⟩
          case measure => simp [intOf]; omega
        · rw [if_pos (by rfl)]
          go_wp2_with fail
          refine (takeCell_any rb _ _ (HDI.out.rd.kept ((Below.refl _ _).drew))).mono ?_
          rintro e w4 ⟨rfl, hr4, hg4⟩
          have R4 := hid hr4
          have G4 := hid hg4
          have k4 := (hg4.block sb hbW (by simp; omega)).trans HDI.out.box
          have c4 : w4.cell? ⟨sb, 3, none⟩ = some (.slice va' i vc') := by rw [cell_of_row _ _ _ _ _ _ k4]; rfl
          clear hr4 hg4 k4
          refine hK.out _ _ trivial (fun hHeld => ?_)
          clear hK K
          unfold cellV
          (try simp only [Act.put, List.setIfInBounds_toArray, List.set_cons_zero, List.set_cons_succ, List.getElem_toArray, List.getElem_cons_succ, List.getElem_cons_zero])
          refine wpAnyH_ready (rs := [4, 7]) (by kernel_rfl) (by simp) ?_
          refine AllReadyH.cons rfl (fun K hK => ?_) (AllReadyH.cons rfl (fun K hK => ?_) AllReadyH.nil)
          · rw [if_pos (by rfl)]
            go_simp
            refine hK.out _ _ trivial (fun hHeld => ?_)
            clear hK K
            (try simp only [Act.put, List.setIfInBounds_toArray, List.set_cons_zero, List.set_cons_succ, List.getElem_toArray, List.getElem_cons_succ, List.getElem_cons_zero])
            refine wpAnyH_ready (rs := [7]) (by kernel_rfl) (by simp) ?_
            refine AllReadyH.cons rfl (fun K hK => ?_) AllReadyH.nil
            rw [if_pos (by rfl)]
            go_simp
            refine hK.out _ _ trivial (fun hHeld => ?_)
            clear hK K
            (try simp only [Act.put, List.setIfInBounds_toArray, List.set_cons_zero, List.set_cons_succ, List.getElem_toArray, List.getElem_cons_succ, List.getElem_cons_zero])
            refine wpAnyH_ready (rs := [8]) (by kernel_rfl) (by simp) ?_
            refine AllReadyH.cons rfl (fun K hK => ?_) AllReadyH.nil
            rw [if_pos (by rfl)]
            have hb5 : Below w4.heap.size w4 (w4.alloc (.cells #[.string (tcC (rdS (dcS l) i)).text, .int .i64 ((tcC (rdS (dcS l) i)).m 0), .int .i64 ((tcC (rdS (dcS l) i)).m 1), .int .i64 ((tcC (rdS (dcS l) i)).m 2), .int .i64 ((tcC (rdS (dcS l) i)).m 3)] 100)) := (Below.refl _ _).alloc (Nat.le_refl _) _
            have hrow5 := own_below (own_kept HDI.out.row (w' := w4) fun q cs hq hh => G4.out.block q (lt_of_block hh) (by have := (HDI.out.row.lt q hq).1; simp; omega)) hb5
            have hlim := HDI.out.lim
            have hW4 : wr.heap.size ≤ w4.heap.size := G4.out.size
            refine wp_app rowCell _ _ rfl base (.slice va' i vc') i (flat5 (rdL (dcS l) i)) rfl hrow5 w4.heap.size 1 1 (c5 (tcC (rdS (dcS l) i))) rfl rfl ?ys (fun u hu => flat5_one [tcC (rdS (dcS l) i)] u (by simpa [flat5] using hu)) (by omega) (by simp; omega) ?_
            case ys =>
              intro j' u hj'
              have hn := heap_alloc_new w4 (.cells #[.string (tcC (rdS (dcS l) i)).text, .int .i64 ((tcC (rdS (dcS l) i)).m 0), .int .i64 ((tcC (rdS (dcS l) i)).m 1), .int .i64 ((tcC (rdS (dcS l) i)).m 2), .int .i64 ((tcC (rdS (dcS l) i)).m 3)] 100)
              match j' with
              | 0 => cases hj'; rw [cell_of_row _ _ _ _ _ _ hn]; rfl
              | 1 => cases hj'; rw [cell_of_row _ _ _ _ _ _ hn]; rfl
              | 2 => cases hj'; rw [cell_of_row _ _ _ _ _ _ hn]; rfl
              | 3 => cases hj'; rw [cell_of_row _ _ _ _ _ _ hn]; rfl
              | 4 => cases hj'; rw [cell_of_row _ _ _ _ _ _ hn]; rfl
              | j' + 5 => simp [c5] at hj'
            intro va6 vc6 w6 ho6 hg6
            obtain ⟨hDI6, e6⟩ := HDI.out.next hrb hrs hsbb R4.out G4.out hb5 hg6 ho6
            have HD6 := hid hDI6
            have c6 : w6.cell? ⟨sb, 3, none⟩ = some (.slice va' i vc') := by rw [cell_of_row _ _ _ _ _ _ e6]; rfl
            have f6 : w6.frozen? ⟨sb, 3, none⟩ = false := frozen_of_row _ _ _ _ _ e6
            clear hDI6 ho6 hg6 e6 hrow5 hb5
            refine hK.out _ _ trivial (fun hHeld => ?_)
            clear hK K
            (try simp only [Act.put, List.setIfInBounds_toArray, List.set_cons_zero, List.set_cons_succ, List.getElem_toArray, List.getElem_cons_succ, List.getElem_cons_zero])
            refine wpAnyH_take (i := 9) (v := .pointer (some ⟨sb, 0, none⟩)) rfl (by kernel_rfl) (by kernel_rfl) (by kernel_rfl) (fun _ _ _ h => h) (Or.inl ⟨by rfl, by intro w hSw; go_simp; try with_reducible rfl⟩) (by assumption) ?_
            (try simp only [Act.put, List.setIfInBounds_toArray, List.set_cons_zero, List.set_cons_succ, List.getElem_toArray, List.getElem_cons_succ, List.getElem_cons_zero])
            refine wpAnyH_take (i := 10) (v := .pointer (some ⟨sb, 3, none⟩)) rfl (by kernel_rfl) (by kernel_rfl) (by kernel_rfl) (fun _ _ _ h => h) (Or.inl ⟨by rfl, by intro w hSw; go_simp; try with_reducible rfl⟩) (by assumption) ?_
            (try simp only [Act.put, List.setIfInBounds_toArray, List.set_cons_zero, List.set_cons_succ, List.getElem_toArray, List.getElem_cons_succ, List.getElem_cons_zero])
            refine wpAnyH_ready (rs := [11]) (by kernel_rfl) (by simp) ?_
            refine AllReadyH.cons rfl (fun K hK => ?_) AllReadyH.nil
            rw [if_pos (by rfl)]
            go_simp
            refine hK.out _ _ trivial (fun hHeld => ?_)
            clear hK K
            (try simp only [Act.put, List.setIfInBounds_toArray, List.set_cons_zero, List.set_cons_succ, List.getElem_toArray, List.getElem_cons_succ, List.getElem_cons_zero])
            refine wpAnyH_done (by kernel_rfl) ?_ _
            clear c6 f6
            go_wp2_with fail
            go_roundw
            case rel => exact ⟨i + 1, va6, vc6, by go_num, by omega, HD6.out⟩
            case measure => simp [intOf]; omega
          · rw [if_pos (by rfl)]
            go_simp
            refine hK.out _ _ trivial (fun hHeld => ?_)
            clear hK K
            (try simp only [Act.put, List.setIfInBounds_toArray, List.set_cons_zero, List.set_cons_succ, List.getElem_toArray, List.getElem_cons_succ, List.getElem_cons_zero])
            have c5' : (w4.alloc (.cells #[.string (tcC (rdS (dcS l) i)).text, .int .i64 ((tcC (rdS (dcS l) i)).m 0), .int .i64 ((tcC (rdS (dcS l) i)).m 1), .int .i64 ((tcC (rdS (dcS l) i)).m 2), .int .i64 ((tcC (rdS (dcS l) i)).m 3)] 100)).cell? ⟨sb, 3, none⟩ = some (.slice va' i vc') := cell_later ((Below.refl _ _).alloc (Nat.le_refl _) _) c4
            refine wpAnyH_ready (rs := [4]) (by kernel_rfl) (by simp) ?_
            refine AllReadyH.cons rfl (fun K hK => ?_) AllReadyH.nil
            rw [if_pos (by rfl)]
            go_simp
            refine hK.out _ _ trivial (fun hHeld => ?_)
            clear hK K
            (try simp only [Act.put, List.setIfInBounds_toArray, List.set_cons_zero, List.set_cons_succ, List.getElem_toArray, List.getElem_cons_succ, List.getElem_cons_zero])
            clear c5'
            refine wpAnyH_ready (rs := [8]) (by kernel_rfl) (by simp) ?_
            refine AllReadyH.cons rfl (fun K hK => ?_) AllReadyH.nil
            rw [if_pos (by rfl)]
            have hb5 : Below w4.heap.size w4 (w4.alloc (.cells #[.string (tcC (rdS (dcS l) i)).text, .int .i64 ((tcC (rdS (dcS l) i)).m 0), .int .i64 ((tcC (rdS (dcS l) i)).m 1), .int .i64 ((tcC (rdS (dcS l) i)).m 2), .int .i64 ((tcC (rdS (dcS l) i)).m 3)] 100)) := (Below.refl _ _).alloc (Nat.le_refl _) _
            have hrow5 := own_below (own_kept HDI.out.row (w' := w4) fun q cs hq hh => G4.out.block q (lt_of_block hh) (by have := (HDI.out.row.lt q hq).1; simp; omega)) hb5
            have hlim := HDI.out.lim
            have hW4 : wr.heap.size ≤ w4.heap.size := G4.out.size
            refine wp_app rowCell _ _ rfl base (.slice va' i vc') i (flat5 (rdL (dcS l) i)) rfl hrow5 w4.heap.size 1 1 (c5 (tcC (rdS (dcS l) i))) rfl rfl ?ys (fun u hu => flat5_one [tcC (rdS (dcS l) i)] u (by simpa [flat5] using hu)) (by omega) (by simp; omega) ?_
            case ys =>
              intro j' u hj'
              have hn := heap_alloc_new w4 (.cells #[.string (tcC (rdS (dcS l) i)).text, .int .i64 ((tcC (rdS (dcS l) i)).m 0), .int .i64 ((tcC (rdS (dcS l) i)).m 1), .int .i64 ((tcC (rdS (dcS l) i)).m 2), .int .i64 ((tcC (rdS (dcS l) i)).m 3)] 100)
              match j' with
              | 0 => cases hj'; rw [cell_of_row _ _ _ _ _ _ hn]; rfl
              | 1 => cases hj'; rw [cell_of_row _ _ _ _ _ _ hn]; rfl
              | 2 => cases hj'; rw [cell_of_row _ _ _ _ _ _ hn]; rfl
              | 3 => cases hj'; rw [cell_of_row _ _ _ _ _ _ hn]; rfl
              | 4 => cases hj'; rw [cell_of_row _ _ _ _ _ _ hn]; rfl
              | j' + 5 => simp [c5] at hj'
            intro va6 vc6 w6 ho6 hg6
            obtain ⟨hDI6, e6⟩ := HDI.out.next hrb hrs hsbb R4.out G4.out hb5 hg6 ho6
            have HD6 := hid hDI6
            have c6 : w6.cell? ⟨sb, 3, none⟩ = some (.slice va' i vc') := by rw [cell_of_row _ _ _ _ _ _ e6]; rfl
            have f6 : w6.frozen? ⟨sb, 3, none⟩ = false := frozen_of_row _ _ _ _ _ e6
            clear hDI6 ho6 hg6 e6 hrow5 hb5
            refine hK.out _ _ trivial (fun hHeld => ?_)
            clear hK K
            (try simp only [Act.put, List.setIfInBounds_toArray, List.set_cons_zero, List.set_cons_succ, List.getElem_toArray, List.getElem_cons_succ, List.getElem_cons_zero])
            refine wpAnyH_take (i := 9) (v := .pointer (some ⟨sb, 0, none⟩)) rfl (by kernel_rfl) (by kernel_rfl) (by kernel_rfl) (fun _ _ _ h => h) (Or.inl ⟨by rfl, by intro w hSw; go_simp; try with_reducible rfl⟩) (by assumption) ?_
            (try simp only [Act.put, List.setIfInBounds_toArray, List.set_cons_zero, List.set_cons_succ, List.getElem_toArray, List.getElem_cons_succ, List.getElem_cons_zero])
            refine wpAnyH_take (i := 10) (v := .pointer (some ⟨sb, 3, none⟩)) rfl (by kernel_rfl) (by kernel_rfl) (by kernel_rfl) (fun _ _ _ h => h) (Or.inl ⟨by rfl, by intro w hSw; go_simp; try with_reducible rfl⟩) (by assumption) ?_
            (try simp only [Act.put, List.setIfInBounds_toArray, List.set_cons_zero, List.set_cons_succ, List.getElem_toArray, List.getElem_cons_succ, List.getElem_cons_zero])
            refine wpAnyH_ready (rs := [11]) (by kernel_rfl) (by simp) ?_
            refine AllReadyH.cons rfl (fun K hK => ?_) AllReadyH.nil
            rw [if_pos (by rfl)]
            go_simp
            refine hK.out _ _ trivial (fun hHeld => ?_)
            clear hK K
            (try simp only [Act.put, List.setIfInBounds_toArray, List.set_cons_zero, List.set_cons_succ, List.getElem_toArray, List.getElem_cons_succ, List.getElem_cons_zero])
            refine wpAnyH_done (by kernel_rfl) ?_ _
            clear c6 f6
            go_wp2_with fail
            go_roundw
            case rel => exact ⟨i + 1, va6, vc6, by go_num, by omega, HD6.out⟩
            case measure => simp [intOf]; omega
      · obtain rfl : i = cnt := by omega
        have hip : 0 < i := by have := HCT.out; omega
        have hrow := HDI.out.row
        obtain ⟨_, h2⟩ := id hrow
        obtain ⟨g, hg⟩ : ∃ g, va' = some ⟨g, 0, none⟩ := by
          rcases h2 with ⟨e, h0⟩ | ⟨g, cap, cur, e, -⟩
          · omega
          · cases e; exact ⟨g, rfl⟩
        subst hg
        clear h2
        have hgb : base ≤ g := (hrow.lt g rfl).1
        have HRW : Hid (wr.ownsRow 0 100 5 (.slice (some ⟨g, 0, none⟩) i vc') i (flat5 (rdL (dcS l) i))) := hid (own_lower hrow (Nat.zero_le _))
        have HLL := hid (rdL_len (dcS l) i)
        clear hrow
        have HOE : Hid (dcOk l = (endB (rdS (dcS l) i) && !(rdL (dcS l) i).any noBlockB)) := hid (by unfold dcOk; rw [← HF.out, ← HT.out, HM.out, HCN.out]; rfl)
        have HDD : Hid (dcD l = ⟨f, t, fr, rdL (dcS l) i⟩) := hid (by unfold dcD; rw [← HF.out, ← HT.out, ← HFR.out, HCN.out])
        have HTX := hid (rdL_text (dcS l) i)
        generalize rdL (dcS l) i = L at *
        cases he : endB (rdS (dcS l) i) with
        | false =>
          have HO : Hid (dcOk l = false) := hid (by rw [HOE.out, he]; rfl)
          have HE := hid he
          clear he
          go_wp2_with fail
          refine (end_any _ _ _ HDI.out.rd).mono ?_
          rintro e wz ⟨rfl, rfl⟩
          rw [HE.out]
          go_wp2_with fail
          go_ret2
          exact .inl ⟨HO.out, rfl, HDI.out.bel⟩
        | true =>
          have HE := hid he
          clear he
          go_wp2_with fail
          refine (end_any _ _ _ HDI.out.rd).mono ?_
          rintro e wz ⟨rfl, rfl⟩
          rw [HE.out]
          go_wp2_with fail
          have hcc := containsC_any g vc' L wz (by rw [HLL.out]; exact HRW.out) (by rw [HLL.out]; omega) HTX.out
          rw [HLL.out] at hcc
          refine hcc.mono ?_
          clear hcc
          rintro e wy ⟨rfl, hby⟩
          have BY := hid (HDI.out.bel.trans (hby.mono HDI.out.bel.size))
          cases ha : L.any noBlockB with
          | true =>
            have HO : Hid (dcOk l = false) := hid (by rw [HOE.out, ha, HE.out]; rfl)
            clear ha
            go_wp2_with fail
            go_ret2
            exact .inl ⟨HO.out, rfl, BY.out⟩
          | false =>
            have HO : Hid (dcOk l = true) := hid (by rw [HOE.out, ha, HE.out]; rfl)
            have HST : Hid (St wy sb g (dcD l)) := hid (by
              rw [HDD.out]
              refine ⟨⟨hf0, ht0, hft, ?_⟩, vc', ?_, ?_⟩
              · show (L.length : Int) = t - f
                rw [HLL.out, HCT.out]
              · show wy.heap[sb]? = some (.cells #[.int .i64 f, .int .i64 t, .bool fr, .slice (some ⟨g, 0, none⟩) L.length vc'] 91 (0, 0))
                rw [HLL.out, hby.block sb (lt_of_block HDI.out.box)]; exact HDI.out.box
              · show wy.ownsRow 0 100 5 (.slice (some ⟨g, 0, none⟩) L.length vc') L.length (flat5 L)
                rw [HLL.out]; exact own_below HRW.out hby)
            clear ha hby
            go_wp2_with fail
            go_ret2
            exact .inr ⟨HO.out, sb, g, rfl, hsw, by omega, HST.out, BY.out⟩
end Go.Proofs.Ytabmnelenfghhaa
