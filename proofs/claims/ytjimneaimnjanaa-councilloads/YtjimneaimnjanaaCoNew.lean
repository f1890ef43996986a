/- New: which voters a council may begin with. -/
import Derived.Test.YtjimneaimnjanaaCoTell
import Derived.Test.YtjimneaimnjanaaOct
namespace Go.Proofs.Ytjimneaimnjanaa
open Go.RowKit
set_option linter.unusedVariables false
set_option linter.unusedSimpArgs false

/-- The text that names the voters. -/
def byL (l : List Int) : List UInt8 := l.map fun n => n.toNat.toUInt8
def byT (l : List Int) : ByteArray := ⟨(byL l).toArray⟩
theorem vot_at {l : List Int} (h : votB l = true) (j : Nat) (hj : j < l.length) : 0 ≤ l[j] ∧ l[j] < 7 := by
  unfold votB at h
  rw [Bool.and_eq_true] at h
  have := (List.all_eq_true.1 h.1) j (by simpa using hj)
  unfold votAt at this
  rw [show l.getD j 0 = l[j] from by simp [List.getD, List.getElem?_eq_getElem hj]] at this
  rw [Bool.and_eq_true] at this
  have h2 := this.1
  unfold nodeB at h2
  simpa using h2
set_option maxRecDepth 100000 in
set_option maxHeartbeats 4000000 in
theorem voterText_any (l : List Int) (v : Value) (w : World) (hv : Nums w v l) (hl9 : l.length ≤ 999999) :
    Calls Try.prog 61 #[v] w fun e w' => e = .returned (.tuple #[.string (if votB l then byT l else ⟨#[]⟩), .bool (votB l)]) ∧ Below w.heap.size w w' := by
  have HV := hid hv
  have hL := hv.len
  obtain ⟨va, vc, rfl⟩ := hv.shape
  clear hv
  cases hb : votB l with
  | false =>
    go_enter Try.func61, Try.ntmps61
    go_wp2_with (go_at_call 62; refine (mayVoters_any _ _ _ HV.out).mono ?_; rintro e w2 ⟨rfl, hw2⟩; replace hw2 := hw2.symm; subst hw2; rw [hb])
    go_ret2
    exact ⟨rfl, Below.refl _ _⟩
  | true =>
    have HVA := hid (fun j hj => vot_at hb j hj)
    go_enter Try.func61, Try.ntmps61
    go_wp2_with (go_at_call 62; refine (mayVoters_any _ _ _ HV.out).mono ?_; rintro e w2 ⟨rfl, hw2⟩; replace hw2 := hw2.symm; subst hw2; rw [hb])
    clear hb
    go_loopw [4, 6, 12] (fun bv' _ iv wr => ∃ i : Nat, iv = .int .i64 i ∧ i ≤ l.length ∧ Own wr w.heap.size bv' (byL (l.take i)) ∧ Below w.heap.size w wr) (fun _ _ iv _ => l.length - (intOf iv).toNat)
    case atStart => exact ⟨0, rfl, Nat.zero_le _, World.ownsRow_nil _ _ _ _, Below.refl _ _⟩
    case round =>
      obtain ⟨i, rfl, hi, ho, hbr⟩ := hrel
      obtain ⟨ua, uc, rfl⟩ := ho.shape
      have O := hid ho
      have B := hid hbr
      clear ho hbr
      by_cases hlt : (i : Int) < (l.length : Int)
      · have hil : i < l.length := by omega
        have HVR := hid (HV.out.below B.out)
        obtain ⟨gd, od, rfl⟩ := HVR.out.addr (by omega)
        have c0 := HVR.out.lit i hil
        have hx := HVA.out i hil
        have HF : Hid (byL (l.take (i + 1)) = byL (l.take i) ++ [l[i].toNat.toUInt8]) := hid (by unfold byL; rw [List.take_succ_eq_append_getElem hil, List.map_append]; rfl)
        obtain ⟨F, hF⟩ : ∃ F, F = byL (l.take i) := ⟨_, rfl⟩
        have hFl : F.length = i := by rw [hF]; simp [byL]; omega
        rw [← hF] at O HF
        rw [← hF]
        clear hF
        generalize l[i] = x at *
        have hwx : IntKind.u8.wrap x = x := by simp [IntKind.wrap, IntKind.bits, IntKind.signed]; omega
        have hbx : (.int .u8 x : Value) = bv x.toNat.toUInt8 := by
          have : x.toNat.toUInt8.toNat = x.toNat := by show x.toNat % 256 = x.toNat; omega
          unfold bv; rw [this]; congr 1; omega
        have BA := hid (B.out.trans (((Below.refl wr.heap.size wr).alloc (Nat.le_refl _) (.cells #[.int .u8 x] 5)).mono B.out.size))
        have OA : Hid (Own (wr.alloc (.cells #[.int .u8 x] 5)) w.heap.size (.slice ua F.length uc) F) := hid (own_below O.out ((Below.refl wr.heap.size wr).alloc (Nat.le_refl _) (.cells #[.int .u8 x] 5)))
        have HX : Hid (Bts (wr.alloc (.cells #[.int .u8 x] 5)) (.slice (some ⟨wr.heap.size, 0, none⟩) 1 1) [x.toNat.toUInt8]) := hid (by
          refine ⟨_, _, _, rfl, rfl, Nat.le_refl _, by omega, (fun h => by cases h), ?_⟩
          intro ad had j hj
          cases had
          obtain rfl : j = 0 := by simpa using hj
          rw [Addr.add_lit, cell_of_row _ _ _ _ _ _ (heap_alloc_new _ _)]
          show some (Value.int .u8 x) = _
          rw [hbx]; rfl)
        clear hbx
        go_wp2_with (at_builtin; refine wpl_append rfl _ _ rfl w.heap.size (.slice ua F.length uc) F rfl OA.out _ [x.toNat.toUInt8] rfl HX.out (by simp; omega) BA.out.size ?_; intro va2 vc2 w2 ho2 hg2; have O2 := hid ho2; have B2 := hid (BA.out.trans (below_grown OA.out hg2 BA.out.size)); clear ho2 hg2)
        go_roundw
        case rel => exact ⟨i + 1, by go_num, by omega, by have := O2.out; rw [hFl] at this; rw [HF.out]; exact this, B2.out⟩
        case measure => simp [intOf]; omega
      · obtain rfl : i = l.length := by omega
        have hcv := conv_string wr _ _ O.out.bts
        rw [List.take_length] at hcv
        rw [List.take_length]
        go_wp2_with fail
        go_ret2
        exact ⟨rfl, B.out⟩
def newD (self : Int) (l : List Int) : CoD := { freshD self with bv := byT l }
/-- May the council begin so? -/
def newB (self : Int) (l : List Int) : Bool := nodeB self && votB l
set_option maxRecDepth 100000 in
set_option maxHeartbeats 4000000 in
theorem new_no (self : Int) (l : List Int) (v : Value) (w : World) (hv : Nums w v l) (hl9 : l.length ≤ 999999) (hn : newB self l = false) :
    Calls Try.prog 25 #[.int .i64 self, v] w fun e w' => e = .returned (.tuple #[.pointer none, .int .i64 1]) ∧ Below w.heap.size w w' := by
  have HVT := hid (voterText_any l v w hv hl9)
  clear hv
  unfold newB at hn
  cases hb : nodeB self
  all_goals
    cases hc : votB l
    all_goals rw [hb, hc] at hn
    all_goals try (cases hn)
  all_goals
    rw [hc] at HVT
    go_enter Try.func25, Try.ntmps25
    go_wp2_with (first | (go_at_call 61; refine HVT.out.mono ?_; rintro e w2 ⟨rfl, hb2⟩; have B2 := hid hb2; clear hb2) | (go_at_call 31; refine (isNode_any _ _).mono ?_; rintro e w3 ⟨rfl, hw3⟩; replace hw3 := hw3.symm; subst hw3; rw [hb]))
    go_ret2
    exact ⟨rfl, B2.out⟩
set_option maxRecDepth 100000 in
set_option maxHeartbeats 4000000 in
theorem new_yes (self : Int) (l : List Int) (v : Value) (w : World) (hv : Nums w v l) (hl9 : l.length ≤ 999999) (hn : newB self l = true) :
    Calls Try.prog 25 #[.int .i64 self, v] w fun e w' => ∃ b, e = .returned (.tuple #[.pointer (some ⟨b, 0, none⟩), .int .i64 0]) ∧ w.heap.size ≤ b ∧ Co w' 0 b (.slice none 0 0) (newD self l) ∧ Below w.heap.size w w' := by
  have HVT := hid (voterText_any l v w hv hl9)
  clear hv
  unfold newB at hn
  rw [Bool.and_eq_true] at hn
  obtain ⟨hb, hc⟩ := hn
  rw [hc, if_pos rfl] at HVT
  generalize hT : byT l = T at HVT
  go_enter Try.func25, Try.ntmps25
  go_wp2_with (first | (go_at_call 61; refine HVT.out.mono ?_; rintro e w2 ⟨rfl, hb2⟩; have B2 := hid hb2; clear hb2) | (go_at_call 31; refine (isNode_any _ _).mono ?_; rintro e w3 ⟨rfl, hw3⟩; replace hw3 := hw3.symm; subst hw3; rw [hb]) | (go_at_call 32; refine (fresh_any _ _).mono ?_; rintro e w4 ⟨rfl, hw4⟩; have h4 : w4.heap[w2.heap.size]? = some (.cells (coC (freshD self) (.slice none 0 0)) 92 (0, 0)) := (by rw [hw4]; exact heap_alloc_new _ _); have H4 := hid h4; have c5 : w4.cell? ⟨w2.heap.size, 5, none⟩ = some (.string ⟨#[]⟩) := (by rw [cell_of_row _ _ _ _ _ _ h4]; rfl); have f5 : w4.frozen? ⟨w2.heap.size, 5, none⟩ = false := (by simp [World.frozen?, h4]); have B4 : Hid (Below w2.heap.size w2 w4) := hid (by rw [hw4]; exact (Below.refl _ _).alloc (Nat.le_refl _) _); clear h4 hw4))
  go_ret2
  refine ⟨_, rfl, B2.out.size, ⟨?_, World.ownsRow_nil _ _ _ _⟩, ?_⟩
  · have : (w4.setCell ⟨w2.heap.size, 5, none⟩ (.string T)).heap[w2.heap.size]? = _ := heap_setCell_same _ _ _ _ _ _ H4.out
    rw [← hT] at this ⊢
    exact this
  · refine ⟨B4.out.os.trans B2.out.os, B4.out.tape.trans B2.out.tape, B4.out.output.trans B2.out.output, ?_, fun q hq => ?_⟩
    · have := B4.out.size; have := B2.out.size; simp; omega
    · have := B2.out.size
      exact (Below.heap_setCell w4 ⟨w2.heap.size, 5, none⟩ _ q (show q ≠ w2.heap.size by omega)).trans ((B4.out.block q (by omega)).trans (B2.out.block q hq))
end Go.Proofs.Ytjimneaimnjanaa
