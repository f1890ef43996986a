/- The document's IsMembers and New; Find of any block. Conditions: they lie in memory. -/
import Derived.Test.YtplpbnglcfdaaaaAtSameS
namespace Go.Proofs.Ytplpbnglcfdaaaa
open Go.RowKit Go.Maps Go.Shelf
set_option linter.unusedVariables false
set_option linter.unusedSimpArgs false

set_option maxRecDepth 100000 in
set_option maxHeartbeats 4000000 in
theorem rmembers_any (l : List Int) (v : Value) (w : World) (hv : Nums w v l) :
    Calls Try.prog 11 #[v] w fun e w' => e = .returned (.bool (memB l)) ∧ w' = w := by
  have HV := hid hv
  have hL := hv.len
  obtain ⟨va, vc, rfl⟩ := hv.shape
  clear hv
  go_enter Try.func11, Try.ntmps11
  go_wp2_with fail
  go_loopw [3, 4, 7] (fun _ _ iv wr => ∃ i : Nat, iv = .int .i64 i ∧ i ≤ l.length ∧ (∀ j, j < i → votAt l j = true) ∧ wr = w) (fun _ _ iv _ => l.length - (intOf iv).toNat)
  case atStart => exact ⟨0, rfl, Nat.zero_le _, (fun j hj => by omega), rfl⟩
  case round =>
    obtain ⟨i, rfl, hi, hall, rfl⟩ := hrel
    have HALL := hid hall
    clear hall
    by_cases hlt : (i : Int) < (l.length : Int)
    · have hil : i < l.length := by omega
      obtain ⟨gd, od, rfl⟩ := HV.out.addr (by omega)
      have c0 := HV.out.lit i hil
      have HDB : Hid (votAt l i = (nodeB l[i] && (i == 0 || decide (l.getD (i - 1) 0 < l[i])))) := hid (by unfold votAt; rw [show l.getD i 0 = l[i] from by simp [List.getD, List.getElem?_eq_getElem hil]])
      obtain ⟨r, hr⟩ : ∃ r, r = l[i] := ⟨_, rfl⟩
      rw [← hr] at c0 HDB
      clear hr
      obtain ⟨p, hp⟩ : ∃ p, p = l.getD (i - 1) 0 := ⟨_, rfl⟩
      rw [← hp] at HDB
      have HP : Hid (0 < i → wr.cell? ⟨gd, od + (i - 1), none⟩ = some (.int .i64 p)) := hid fun h0 => by
        have := HV.out.lit (i - 1) (by omega)
        rw [hp, show l.getD (i - 1) 0 = l[i - 1] from by simp [List.getD, List.getElem?_eq_getElem (show i - 1 < l.length by omega)]]
        exact this
      clear hp
      have HNX : Hid (votAt l i = true → ∀ j, j < i + 1 → votAt l j = true) := hid fun h j hj => by
        rcases Nat.lt_or_ge j i with h1 | h1
        · exact HALL.out j h1
        · have e : j = i := by omega
          rw [e]; exact h
      have HNB : Hid (votAt l i = false → memB l = false) := hid fun h => mem_no hil h
      by_cases hr0 : r < 0
      · have HNO := hid (HNB.out (by rw [HDB.out]; unfold nodeB; rw [decide_eq_false (show ¬ 0 ≤ r by omega)]; rfl))
        go_wp2_with fail
        go_ret
        exact ⟨by rw [HNO.out]; rfl, rfl⟩
      by_cases hr6 : 6 < r
      · have HNO := hid (HNB.out (by rw [HDB.out]; unfold nodeB; rw [decide_eq_false (show ¬ r < 7 by omega), Bool.and_false]; rfl))
        go_wp2_with fail
        go_ret
        exact ⟨by rw [HNO.out]; rfl, rfl⟩
      have hnb : nodeB r = true := by unfold nodeB; rw [decide_eq_true (show 0 ≤ r by omega), decide_eq_true (show r < 7 by omega)]; rfl
      rw [hnb] at HDB
      clear hnb
      by_cases hi0 : i = 0
      · subst hi0
        have HOK := hid (HNX.out (by rw [HDB.out]; rfl))
        rw [Nat.add_zero] at c0
        go_wp2_with fail
        go_roundw
        case rel => exact ⟨0 + 1, by go_num, by omega, HOK.out, by first | rfl | trivial⟩
        case measure => simp [intOf]; omega
      · have h0g : decide ((0 : Int) < (i : Int)) = true := by apply decide_eq_true; omega
        have hip : 0 < i := by omega
        have hwi : IntKind.i64.wrap ((i : Int) - 1) = ((i - 1 : Nat) : Int) := by rw [IntWalk.i64_in _ ⟨by omega, by omega⟩]; omega
        have hix : ((i - 1 : Nat) : Int) < (l.length : Int) := by omega
        have c1 := HP.out hip
        have hbe : (i == 0) = false := beq_eq_false_iff_ne.2 hi0
        by_cases hls : p < r
        · have HOK := hid (HNX.out (by rw [HDB.out, hbe]; simpa using hls))
          clear hi0 hbe
          go_wp2_with fail
          go_roundw
          case rel => exact ⟨i + 1, by go_num, by omega, HOK.out, by first | rfl | trivial⟩
          case measure => simp [intOf]; omega
        · have HNO := hid (HNB.out (by rw [HDB.out, hbe]; simpa using hls))
          clear hi0 hbe
          go_wp2_with fail
          go_ret
          exact ⟨by rw [HNO.out]; rfl, rfl⟩
    · have HE := hid (mem_yes (l := l) fun j hj => HALL.out j (by omega))
      have HBB : Hid (((l.length : Int) % 2 == 1) = decide (l.length % 2 = 1)) := hid (by rw [Bool.eq_iff_iff]; simp; omega)
      go_wp2_with fail
      go_ret
      exact ⟨by rw [HE.out, ← HBB.out]; rfl, rfl⟩
/-- The document's map of shards: the row of its shards is X. -/
structure RA (w : World) (b : Nat) (N : AtN) (ov sv : Value) (X : List SX) : Prop where
  box : w.heap[b]? = some (.cells #[.int .i64 N.bl, .int .i64 N.ep, .int .i64 N.nx, ov, sv] 60 (0, 0))
  opn : Nums w ov N.op
  row : w.ownsRow 0 43 5 sv X.length (shvs X)
  mem : ∀ x ∈ X, ShN w x.s x.mv x.pv
theorem RA.below {w w' : World} {b : Nat} {N : AtN} {ov sv : Value} {X : List SX} (h : RA w b N ov sv X) (hb : Below w.heap.size w w') : RA w' b N ov sv X :=
  ⟨(hb.block b (lt_of_block h.box)).trans h.box, h.opn.below hb, own_below h.row hb, fun x hx => (h.mem x hx).below hb⟩
/-- What the document's New leaves. -/
def RNw (bl : Int) (l : List Int) (v : Value) (w : World) (e : Ending) (w' : World) : Prop := ∃ b sv, e = .returned (.pointer (some ⟨b, 0, none⟩)) ∧ RA w' b ⟨bl, 1, 2, []⟩ (.slice none 0 0) sv [⟨⟨1, 0, bl, l, []⟩, v, .slice none 0 0⟩] ∧ Below w.heap.size w w'
set_option maxRecDepth 100000 in
set_option maxHeartbeats 4000000 in
theorem rnewA_any (bl : Int) (l : List Int) (v : Value) (w : World) (hv : Nums w v l) :
    Calls Try.prog 13 #[.int .i64 bl, v] w (RNw bl l v w) := by
  obtain ⟨va, vc, rfl⟩ := hv.shape
  have HV := hid hv
  clear hv
  obtain ⟨h1, h2⟩ := heap_two w (.cells #[.int .i64 1, .int .i64 0, .int .i64 bl, .slice va l.length vc, .slice none 0 0] 43) (.cells #[.int .i64 bl, .int .i64 1, .int .i64 2, .slice none 0 0, .slice (some ⟨w.heap.size, 0, none⟩) 1 1] 60)
  have hb : Below w.heap.size w ((w.alloc (.cells #[.int .i64 1, .int .i64 0, .int .i64 bl, .slice va l.length vc, .slice none 0 0] 43)).alloc (.cells #[.int .i64 bl, .int .i64 1, .int .i64 2, .slice none 0 0, .slice (some ⟨w.heap.size, 0, none⟩) 1 1] 60)) := ((Below.refl _ _).alloc (Nat.le_refl _) _).alloc (by simp) _
  have HF : Hid (RNw bl l (.slice va l.length vc) w (.returned (.pointer (some ⟨w.heap.size + 1, 0, none⟩))) ((w.alloc (.cells #[.int .i64 1, .int .i64 0, .int .i64 bl, .slice va l.length vc, .slice none 0 0] 43)).alloc (.cells #[.int .i64 bl, .int .i64 1, .int .i64 2, .slice none 0 0, .slice (some ⟨w.heap.size, 0, none⟩) 1 1] 60))) := hid (by
    refine ⟨w.heap.size + 1, .slice (some ⟨w.heap.size, 0, none⟩) 1 1, rfl, ⟨h2, Nums.nil _, ?_, ?_⟩, hb⟩
    · exact ⟨rfl, .inr ⟨w.heap.size, 1, _, rfl, Nat.zero_le _, h1, Nat.le_refl _, by unfold maxLen; omega, rfl, rfl⟩⟩
    · intro x hx
      rw [List.mem_singleton.1 hx]
      exact ⟨HV.out.below hb, [], rfl, World.ownsRow_nil _ _ _ _, fun x hx => by cases hx⟩)
  clear h1 h2 hb
  go_enter Try.func13, Try.ntmps13
  go_wp2_with fail
  go_ret
  simpa using HF.out
/-- Find, of any block. -/
def FdP (X : List SX) (k : Int) (w : World) (e : Ending) (w' : World) : Prop := (∃ x ∈ X, x.s.fr ≤ k ∧ k < x.s.to ∧ GtS x.s true w e w') ∨ ((∀ x ∈ X, ¬ (x.s.fr ≤ k ∧ k < x.s.to)) ∧ GtS zS false w e w')
end Go.Proofs.Ytplpbnglcfdaaaa
