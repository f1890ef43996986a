/- What the iterator of within gives for a store's cells. -/
import Derived.Test.YtabmnelenfghhaaBkStore
import Derived.RangeFuncNested
import Derived.RangeFuncBound
import Derived.RangeFuncCalls
import Derived.RangeFuncLeaves
import Derived.Shelf.Abstract
import Derived.Shelf.RegionOpen
import Derived.OwnWalkIn
import Derived.TacticsInMore
import Derived.LoopNIn
import Derived.LoopIn
import Derived.Stop.RegionWithIn
import Derived.Maps.AppendAt
namespace Go.Proofs.Ytabmnelenfghhaa
open Go.RowKit Go.Shelf
attribute [local go_sem] Oper.semAt_some

/-- The cell number i of those that are gone over, which begin at the cell d of the row g. -/
def cellAt (g d i : Nat) : Value := .pointer (some ⟨g, (d + i) * 5, none⟩)
/-- A statement has come to its end, with a truth. -/
def RegDone (R : Bool → World → Prop) (Fr : Bool → Act) : Exit → Act → World → Prop
  | .normal, a, w => ∃ bo, a = Fr bo ∧ R bo w
  | _, _, _ => False
set_option maxRecDepth 100000 in
set_option maxHeartbeats 40000000 in
theorem bwithin1_in (n : Nat) (hn : 1 ≤ n) (y Bo Bs b g d cnt N cap : Nat) (f t f0 t0 : Int) (fr : Bool) (hf : f = f0 + d) (ht : t = f + cnt) (hf0 : 0 ≤ f0) (ht0 : t ≤ 256) (hN : d + cnt ≤ N) (J Jx : List (Fin cnt) → World → Prop) (hJ : ∀ pre W W', J pre W → Below W.heap.size W W' → J pre W')
    (hY : ∀ pre (x : Fin cnt) W, J pre W → pre.length < cnt → YieldAt Fence.wide (n - 1) Try.prog y #[.int .i64 (x.val : Nat), cellAt g d x.val] W fun e W' =>
      (e = .returned (.bool true) ∧ J (pre ++ [x]) W' ∧ (∀ k ∈ [Bo, Bs, b], W'.heap[k]? = W.heap[k]?)) ∨ (e = .returned (.bool false) ∧ Jx (pre ++ [x]) W'))
    (W : World) (hBo : W.heap[Bo]? = some (.cells #[.int .i64 f, .int .i64 t] 42 (0, 0))) (hBs : W.heap[Bs]? = some (.cells #[.pointer (some ⟨b, 0, none⟩)] 44 (0, 0)))
    (hb : W.heap[b]? = some (.cells #[.int .i64 f0, .int .i64 t0, .bool fr, .slice (some ⟨g, 0, none⟩) N cap] 91 (0, 0))) (h0 : J [] W) :
    CallsIn Fence.wide n Try.prog 70 #[.func (.yield y) #[] #[], .pointer (some ⟨Bo, 0, none⟩), .pointer (some ⟨Bs, 0, none⟩)] W fun e W' => (∃ v, e = .returned v) ∧
      (J (List.finRange cnt) W' ∨ ∃ pre, pre <+: List.finRange cnt ∧ Jx pre W') := by
  have HBO := hid hBo
  have HBS := hid hBs
  have HBB := hid hb
  have co0 : W.cell? ⟨Bo, 0, none⟩ = some (.int .i64 f) := by rw [cell_of_row _ _ _ _ _ _ hBo]; rfl
  have co1 : W.cell? ⟨Bo, 1, none⟩ = some (.int .i64 t) := by rw [cell_of_row _ _ _ _ _ _ hBo]; rfl
  have wtf : IntKind.i64.wrap (t - f) = (cnt : Int) := by rw [IntWalk.i64_in _ ⟨by omega, by omega⟩]; omega
  have wff : IntKind.i64.wrap (f - f0) = (d : Int) := by rw [IntWalk.i64_in _ ⟨by omega, by omega⟩]; omega
  have hcd : (d : Int) + (cnt : Int) ≤ 256 := by omega
  clear hBo hBs hb hf ht
  refine callsIn_of_wp Try.func70 rfl trivial ?_ rfl
  simp only [Try.ntmps70, List.size_toArray, List.length_cons, List.length_nil, Nat.reduceAdd, Nat.reduceSub, Array.replicate_succ, Array.replicate_zero, List.push_toArray, List.append_toArray, List.nil_append, List.cons_append]
  gi_wp2
  gi_loopw [4, 10] (fun _ i wr => ∃ k : Nat, k ≤ cnt ∧ i = .int .i64 k ∧ J ((List.finRange cnt).take k) wr ∧ ∀ k ∈ [Bo, Bs, b], wr.heap[k]? = W.heap[k]?) (fun _ i _ => cnt - (intOf i).toNat)
  case atStart => exact ⟨0, Nat.zero_le _, rfl, h0, fun _ _ => rfl⟩
  case round =>
    obtain ⟨k, hk, rfl, hJs, hnx⟩ := hrel
    by_cases hlt : k < cnt
    · have hltI : (k : Int) < (cnt : Int) := by omega
      have ho := (hnx Bo (by simp)).trans HBO.out
      have hs := (hnx Bs (by simp)).trans HBS.out
      have hbb := (hnx b (by simp)).trans HBB.out
      have z0 : wr.cell? ⟨Bo, 0, none⟩ = some (.int .i64 f) := by rw [cell_of_row _ _ _ _ _ _ ho]; rfl
      have z1 : wr.cell? ⟨Bs, 0, none⟩ = some (.pointer (some ⟨b, 0, none⟩)) := by rw [cell_of_row _ _ _ _ _ _ hs]; rfl
      have z2 : wr.cell? ⟨b, 0, none⟩ = some (.int .i64 f0) := by rw [cell_of_row _ _ _ _ _ _ hbb]; rfl
      have z3 : wr.cell? ⟨b, 3, none⟩ = some (.slice (some ⟨g, 0, none⟩) N cap) := by rw [cell_of_row _ _ _ _ _ _ hbb]; rfl
      have wdk : IntKind.i64.wrap ((d : Int) + (k : Int)) = (d : Int) + (k : Int) := IntWalk.i64_in _ ⟨by omega, by omega⟩
      have hix : 0 ≤ (d : Int) + (k : Int) ∧ (d : Int) + (k : Int) < (N : Int) := by omega
      have HNX := hid hnx
      have HJS := hid hJs
      have HT := hid (show (List.finRange cnt).take (k + 1) = (List.finRange cnt).take k ++ [⟨k, hlt⟩] by rw [List.take_add_one, List.getElem?_eq_getElem (by simpa using hlt)]; simp)
      clear ho hs hbb hnx hJs co0 co1
      obtain ⟨fn, tmps, assign, body, hy, hR0⟩ := hY ((List.finRange cnt).take k) ⟨k, hlt⟩ wr.drew (hJ _ _ _ HJS.out ((Below.refl _ _).drew)) (by simp; omega)
      have HR := hid (hR0.mono (R' := fun e W' => ∃ bo : Bool, e = .returned (.bool bo) ∧ (bo = true → J ((List.finRange cnt).take k ++ [⟨k, hlt⟩]) W' ∧ ∀ j ∈ [Bo, Bs, b], W'.heap[j]? = wr.heap[j]?) ∧ (bo = false → Jx ((List.finRange cnt).take k ++ [⟨k, hlt⟩]) W')) (by
        rintro e W' (⟨rfl, h1, h2⟩ | ⟨rfl, h1⟩)
        · exact ⟨true, rfl, (fun _ => ⟨h1, h2⟩), (fun h => by cases h)⟩
        · exact ⟨false, rfl, (fun h => by cases h), (fun _ => h1)⟩))
      unfold cellAt at hy
      have htn : ((d : Int) + (k : Int)).toNat = d + k := by omega
      clear hR0 HJS
      gi_wp2
      refine Code.wpIn_mono (Q := RegDone (fun bo W' => (bo = true → J ((List.finRange cnt).take k ++ [⟨k, hlt⟩]) W' ∧ ∀ j ∈ [Bo, Bs, b], W'.heap[j]? = wr.heap[j]?) ∧ (bo = false → Jx ((List.finRange cnt).take k ++ [⟨k, hlt⟩]) W')) ?Fr) ?imp ?reg
      case reg =>
        gi_region_with (refine HR.out.mono ?_; rintro e W3 ⟨bo, rfl, h3⟩; have H3 := hid h3; clear h3)
        all_goals
          (try simp only [Act.put, List.setIfInBounds_toArray, List.set_cons_zero, List.set_cons_succ, List.getElem_toArray, List.getElem_cons_succ, List.getElem_cons_zero])
          refine ⟨bo, ?_, H3.out⟩
          with_reducible rfl
      intro e a' W3 hq
      cases e <;> first | exact (hq : False).elim | skip
      obtain ⟨bo, rfl, h3⟩ := hq
      have H3 := hid h3
      clear h3 HR
      cases bo with
      | true =>
        have h3 := (H3.out.1 rfl)
        have HJ3 := hid h3.1
        have HK3 := hid h3.2
        clear h3 H3
        gi_wp2
        go_roundw
        case rel => exact ⟨k + 1, by omega, by go_num, by rw [HT.out]; exact HJ3.out, fun j hj => (HK3.out j hj).trans (HNX.out j hj)⟩
        case measure => simp [intOf]; omega
      | false =>
        have HX3 := hid (H3.out.2 rfl)
        clear H3
        gi_wp2
        refine bodyPost_ret (results_none rfl _ _ _) rfl ?_
        refine ⟨⟨_, rfl⟩, .inr ⟨_, ?_, HX3.out⟩⟩
        rw [← HT.out]
        exact List.take_prefix _ _
    · have hltI : ¬ (k : Int) < (cnt : Int) := by omega
      have : k = cnt := by omega
      subst this
      gi_wp2
      go_end0
      rw [List.take_of_length_le (by simp)] at hJs
      exact ⟨⟨_, rfl⟩, .inl hJs⟩
end Go.Proofs.Ytabmnelenfghhaa
