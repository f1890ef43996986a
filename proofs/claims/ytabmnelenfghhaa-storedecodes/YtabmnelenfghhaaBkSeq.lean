/- The loop over a store's cells. -/
import Derived.Test.YtabmnelenfghhaaBkWithin
import Derived.Test.YtabmnelenfghhaaRnd2
namespace Go.Proofs.Ytabmnelenfghhaa
open Go.RowKit Go.Shelf
attribute [local go_sem] Oper.semAt_some

set_option maxHeartbeats 1000000 in
theorem within_any (b : Nat) (x : Sp) (w : World) :
    Calls Try.prog 43 #[.pointer (some ⟨b, 0, none⟩), .agg #[.int .i64 x.1, .int .i64 x.2]] w fun e w' => e = .returned (.func (.func 70) #[] #[.pointer (some ⟨w.heap.size + 1, 0, none⟩), .pointer (some ⟨w.heap.size, 0, none⟩)]) ∧
      w' = (w.alloc (.cells #[.pointer (some ⟨b, 0, none⟩)] 44 (0, 0))).alloc (.cells #[.int .i64 x.1, .int .i64 x.2] 42 (0, 0)) := by
  have hmf : ∀ (fn : Fn) (first cap : Array Value) (w : World), (Instr.makeFunc fn first cap).run Try.prog w = .ok (.func fn first cap) w := fun _ _ _ _ => rfl
  obtain ⟨p, q⟩ := x
  go_enter Try.func43, Try.ntmps43
  go_wp2_with fail
  go_ret
  exact ⟨rfl, rfl⟩
/-- The two boxes and the store's block lie as they lay. -/
def KeptW (Bo Bs b : Nat) (A B : World) : Prop := ∀ k ∈ [Bo, Bs, b], B.heap[k]? = A.heap[k]?
theorem KeptW.trans {Bo Bs b : Nat} {A B C : World} (h : KeptW Bo Bs b A B) (k : KeptW Bo Bs b B C) : KeptW Bo Bs b A C := fun i hi => (k i hi).trans (h i hi)
/-- What the loop hands out: the place, and where the cell lies. -/
def encW (g d cnt : Nat) (x : Fin cnt) : Array Value := #[.int .i64 (x.val : Nat), cellAt g d x.val]
theorem within_stops (n : Nat) (hn : 1 ≤ n) (Bo Bs b g d cnt N cap : Nat) (f t f0 t0 : Int) (fr : Bool) (hf : f = f0 + d) (ht : t = f + cnt) (hf0 : 0 ≤ f0) (ht0 : t ≤ 256) (hN : d + cnt ≤ N) (w : World)
    (hBo : w.heap[Bo]? = some (.cells #[.int .i64 f, .int .i64 t] 42 (0, 0))) (hBs : w.heap[Bs]? = some (.cells #[.pointer (some ⟨b, 0, none⟩)] 44 (0, 0)))
    (hb : w.heap[b]? = some (.cells #[.int .i64 f0, .int .i64 t0, .bool fr, .slice (some ⟨g, 0, none⟩) N cap] 91 (0, 0))) :
    SeqStopsK Fence.wide n Try.prog 70 #[.pointer (some ⟨Bo, 0, none⟩), .pointer (some ⟨Bs, 0, none⟩)] (encW g d cnt) (KeptW Bo Bs b) (fun ys => ys = List.finRange cnt) (fun pre => pre <+: List.finRange cnt) cnt w := fun y J Jx W hW hJ _ hY h0 => by
  refine (bwithin1_in n hn y Bo Bs b g d cnt N cap f t f0 t0 fr hf ht hf0 ht0 hN J Jx (fun pre X Y hs hb => hJ pre X Y none hs ⟨hb.os, hb.tape, hb.output, hb.size, fun k hk _ => hb.block k hk⟩ (fun r e => by cases e)) hY W
    ((hW.block Bo (lt_of_block hBo)).trans hBo) ((hW.block Bs (lt_of_block hBs)).trans hBs) ((hW.block b (lt_of_block hb)).trans hb) h0).mono ?_
  rintro e W' ⟨he, hj | ⟨pre, hp, hj⟩⟩
  · exact ⟨he, .inl ⟨_, rfl, hj⟩⟩
  · exact ⟨he, .inr ⟨_, hp, hj⟩⟩
end Go.Proofs.Ytabmnelenfghhaa
