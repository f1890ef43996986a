/- What Lay of an instance lays. Conditions: the Writer lies in memory, the instance's lists ahead of it; the numbers are ints, Op a byte. -/
import Derived.Test.YthhcpoafnmhnhaaGreatInPutR
import Derived.Test.YthhcpoafnmhnhaaGreatInHeads
import Derived.Test.YthhcpoafnmhnhaaGreatInCloneI
namespace Go.Proofs.YthhcpoafnmhnhaaGreat
open Go.RowKit
set_option linter.unusedVariables false
set_option linter.unusedSimpArgs false

def headN (x : InD) : List Int := [x.ref.1, x.ref.2, x.bal.1, x.bal.2, x.vote.1, x.vote.2, x.st]
/-- An instance's bytes behind its heads. -/
def restB (x : InD) : List UInt8 := [if x.same then 1 else 0] ++ (cmdB x.cmd ++ (intB x.seq ++ listB refB' x.deps))
/-- An instance's bytes. -/
def instBy (x : InD) : List UInt8 := (headN x).flatMap intB ++ restB x
/-- An instance that may be laid. -/
structure LayX (x : InD) : Prop where
  h : ∀ n ∈ headN x, I64 n
  c : LayI x.cmd
  s : I64 x.seq
  d : ∀ r ∈ x.deps, I64 r.1 ∧ I64 r.2
  l : x.deps.length ≤ 4096
theorem cmdB_len {c : CmdD} (h : LayI c) : (cmdB c).length ≤ 5000000000 := by
  unfold cmdB listB cmdN
  have h1 := flat_lenM textB c.data 1048586 fun x hx => textB_lenM x (h.d x hx)
  have h2 := numB_len c.data.length (by have := h.l; omega)
  have h3 := flat_lenM intB [c.client, c.seq, c.from', c.to] 11 fun x hx => intB_lenM x (h.n x hx)
  have := h.l
  simp only [List.length_cons, List.length_append, List.length_nil] at h3 ⊢
  omega
set_option maxRecDepth 100000 in
set_option maxHeartbeats 4000000 in
theorem layInst_any (b : Nat) (x : InD) (u v : Value) (w : World) (hw : Wr w b []) (hu : RowB tv b w u x.cmd.data) (hv : RfB b w v x.deps) (hI : LayX x) :
    Calls Tryz.prog 6 #[.pointer (some ⟨b, 0, none⟩), instV x u v] w fun e w' => e = .returned (.tuple #[]) ∧ Wr w' b (instBy x) ∧ Wb b w w' := by
  obtain ⟨ua, uc, rfl⟩ := hu.shape
  obtain ⟨va, vc, rfl⟩ := hv.1.shape
  have hlt := hw.lt
  have HU := hid hu
  have HV := hid hv
  have HI := hid hI
  clear hu hv hI
  obtain ⟨w1, hw1⟩ : ∃ w1, w1 = w.alloc (.cells (instC x (.slice ua x.cmd.data.length uc) (.slice va x.deps.length vc)) 31) := ⟨_, rfl⟩
  have b1 : Below w.heap.size w w1 := by rw [hw1]; exact (Below.refl _ _).alloc (Nat.le_refl _) _
  have hA : w1.heap[w.heap.size]? = some (.cells (instC x (.slice ua x.cmd.data.length uc) (.slice va x.deps.length vc)) 31 (0, 0)) := by rw [hw1]; exact heap_alloc_new _ _
  have W1 := hid (hw.below b1)
  have B1 := hid (Wb.new (b := b) b1 (Nat.le_of_lt hlt))
  have HW1 := hid hw1
  clear hw hw1 b1
  unfold instC at HW1
  unfold instV instC
  go_enter Tryz.func6, Tryz.ntmps6
  go_upto_region 1 with fail
  rw [← HW1.out]
  obtain ⟨A, hAe⟩ : ∃ A, A = w.heap.size := ⟨_, rfl⟩
  rw [← hAe] at hA
  rw [← hAe]
  have HA := hid hA
  clear hAe HW1 hA
  go_wp2_with fail
  refine (heads_any A w1).mono ?_
  rintro e w2 ⟨rfl, hH, hb2⟩
  have HH := hid hH
  have W2 := hid (W1.out.below hb2)
  have A2 := hid ((hb2.block A (lt_of_block HA.out)).trans HA.out)
  have B2 := hid (B1.out.trans (.new hb2 (Nat.le_of_lt W1.out.lt)))
  obtain ⟨H, hHe⟩ : ∃ H, H = w1.heap.size := ⟨_, rfl⟩
  rw [← hHe] at HH
  rw [← hHe]
  clear hH hb2 hHe W1 HA B1
  have HNL : Hid ((headN x).length = 7) := hid rfl
  have HCK : Hid (∀ W i (h : i < (headN x).length), Wb b w2 W → W.cell? ⟨H, i, none⟩ = some (.pointer (some ⟨A, i, none⟩)) ∧ W.cell? ⟨A, i, none⟩ = some (.int .i64 (headN x)[i])) := hid fun W i h hW => by
    have h1 := (hW.kt _ _ _ _ HH.out (by decide)).trans HH.out
    have h2 := (hW.kt _ _ _ _ A2.out (by decide)).trans A2.out
    rw [cell_of_row _ _ _ _ _ _ h1, cell_of_row _ _ _ _ _ _ h2]
    have : i < 7 := h
    match i, this with
    | 0, _ => exact ⟨rfl, rfl⟩
    | 1, _ => exact ⟨rfl, rfl⟩
    | 2, _ => exact ⟨rfl, rfl⟩
    | 3, _ => exact ⟨rfl, rfl⟩
    | 4, _ => exact ⟨rfl, rfl⟩
    | 5, _ => exact ⟨rfl, rfl⟩
    | 6, _ => exact ⟨rfl, rfl⟩
  have HNI : Hid (∀ n ∈ headN x, I64 n) := hid HI.out.h
  have HIB : Hid (instBy x = (headN x).flatMap intB ++ restB x) := hid rfl
  generalize headN x = ns at HNL HCK HNI HIB
  go_wp2_with fail
  go_loopw [5, 8] (fun _ iv wr => ∃ i : Nat, iv = .int .i64 i ∧ i ≤ 7 ∧ Wr wr b ((ns.take i).flatMap intB) ∧ Wb b w2 wr) (fun _ iv _ => 7 - (intOf iv).toNat)
  case atStart => exact ⟨0, rfl, Nat.zero_le _, by simpa using W2.out, Wb.refl _ _⟩
  case round =>
    obtain ⟨i, rfl, hi, hwr, hbr⟩ := hrel
    have HWR := hid hwr
    have HBR := hid hbr
    clear hwr hbr
    have hfl := flat_take_lenM intB ns i 11 fun x hx => intB_lenM x (HNI.out x hx)
    have hlen : ((ns.take i).flatMap intB).length ≤ 77 := by rw [HNL.out] at hfl; omega
    clear hfl
    by_cases hlt7 : (i : Int) < 7
    · have hil : i < ns.length := by rw [HNL.out]; omega
      obtain ⟨ck0, ck1⟩ := HCK.out wr i hil HBR.out
      have hx := HNI.out ns[i] (List.getElem_mem hil)
      have HFT := hid (flat_take intB ns i hil)
      generalize ns[i] = y at ck1 hx HFT
      obtain ⟨hx0, hx1⟩ := hx
      have HLEN := hid hlen
      clear hlen
      go_wp2_with fail
      refine (int_kt _ _ y _ hx0 (by omega) HWR.out (by have := HLEN.out; omega)).mono ?_
      rintro e w4 ⟨rfl, hw4, hb4⟩
      have W4 := hid hw4
      have B4 := hid (HBR.out.trans hb4)
      clear hw4 hb4
      go_wp2_with fail
      go_roundw
      case rel =>
        refine ⟨i + 1, by go_num, by omega, ?_, B4.out⟩
        rw [HFT.out]; exact W4.out
      case measure => simp [intOf]; omega
    · obtain rfl : i = 7 := by omega
      have A5 := hid ((HBR.out.kt _ _ _ _ A2.out (by decide)).trans A2.out)
      have B5 := hid (B2.out.trans HBR.out)
      have HLEN := hid hlen
      have HTK : Hid (ns.take 7 = ns) := hid (List.take_of_length_le (by rw [HNL.out]; exact Nat.le_refl _))
      have c7 : wr.cell? ⟨A, 7, none⟩ = some (.bool x.same) := by rw [cell_of_row _ _ _ _ _ _ A5.out]; rfl
      clear hlen HCK A2 B2 W2 HH HBR
      go_wp2_with fail
      refine (bool_kt b _ x.same wr HWR.out (by have := HLEN.out; omega)).mono ?_
      rintro e w6 ⟨rfl, hw6, hb6⟩
      have W6 := hid hw6
      have A6 := hid ((hb6.kt _ _ _ _ A5.out (by decide)).trans A5.out)
      have B6 := hid (B5.out.trans hb6)
      clear hw6 hb6 c7 A5 B5 HWR
      have d8 : w6.cell? ⟨A, 8, none⟩ = some (.int .i64 x.cmd.op) := by rw [cell_of_row _ _ _ _ _ _ A6.out]; rfl
      have d9 : w6.cell? ⟨A, 9, none⟩ = some (.int .i64 x.cmd.client) := by rw [cell_of_row _ _ _ _ _ _ A6.out]; rfl
      have d10 : w6.cell? ⟨A, 10, none⟩ = some (.int .i64 x.cmd.seq) := by rw [cell_of_row _ _ _ _ _ _ A6.out]; rfl
      have d11 : w6.cell? ⟨A, 11, none⟩ = some (.int .i64 x.cmd.from') := by rw [cell_of_row _ _ _ _ _ _ A6.out]; rfl
      have d12 : w6.cell? ⟨A, 12, none⟩ = some (.int .i64 x.cmd.to) := by rw [cell_of_row _ _ _ _ _ _ A6.out]; rfl
      have d13 : w6.cell? ⟨A, 13, none⟩ = some (.slice ua x.cmd.data.length uc) := by rw [cell_of_row _ _ _ _ _ _ A6.out]; rfl
      have HCM := hid (layCmd_any b _ x.cmd _ w6 W6.out (HU.out.below B6.out.bel (Nat.le_refl _)) HI.out.c (by have := HLEN.out; simp only [List.length_append, List.length_cons, List.length_nil]; omega))
      have HCL := hid (cmdB_len HI.out.c)
      unfold cmdV at HCM
      go_wp2_with fail
      refine HCM.out.mono ?_
      rintro e w7 ⟨rfl, hw7, hb7⟩
      have W7 := hid hw7
      have A7 := hid ((hb7.kt _ _ _ _ A6.out (by decide)).trans A6.out)
      have B7 := hid (B6.out.trans hb7)
      clear hw7 hb7 d8 d9 d10 d11 d12 d13 A6 B6 W6 HCM
      have c14 : w7.cell? ⟨A, 14, none⟩ = some (.int .i64 x.seq) := by rw [cell_of_row _ _ _ _ _ _ A7.out]; rfl
      have hq := HI.out.s
      have HSL := hid (intB_lenM x.seq hq)
      obtain ⟨hq0, hq1⟩ := hq
      go_wp2_with fail
      refine (int_kt b _ x.seq w7 hq0 (by omega) W7.out (by have := HLEN.out; have := HCL.out; simp only [List.length_append, List.length_cons, List.length_nil]; omega)).mono ?_
      rintro e w8 ⟨rfl, hw8, hb8⟩
      have W8 := hid hw8
      have A8 := hid ((hb8.kt _ _ _ _ A7.out (by decide)).trans A7.out)
      have B8 := hid (B7.out.trans hb8)
      clear hw8 hb8 c14 A7 B7 W7 hq0 hq1
      have c15 : w8.cell? ⟨A, 15, none⟩ = some (.slice va x.deps.length vc) := by rw [cell_of_row _ _ _ _ _ _ A8.out]; rfl
      have hdl := HI.out.l
      go_wp2_with fail
      refine (putR_kt b _ _ x.deps w8 W8.out (HV.out.below B8.out.bel) HI.out.d (by have := HLEN.out; have := HCL.out; have := HSL.out; simp only [List.length_append, List.length_cons, List.length_nil]; omega) (by omega)).mono ?_
      rintro e w9 ⟨rfl, hw9, hb9⟩
      have W9 := hid hw9
      have B9 := hid (B8.out.trans hb9)
      clear hw9 hb9 c15
      go_wp2
      go_end0
      refine ⟨rfl, ?_, B9.out⟩
      have := W9.out
      rw [HTK.out] at this
      rw [HIB.out]
      unfold restB
      simpa using this
end Go.Proofs.YthhcpoafnmhnhaaGreat
