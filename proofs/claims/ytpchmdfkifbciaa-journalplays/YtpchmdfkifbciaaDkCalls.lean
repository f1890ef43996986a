/- What the writing calls of a device answer and leave: Append, Sync, Cut, Stage, Commit. Conditions: the device lies in memory; at most a million million bytes are laid. -/
import Derived.Test.YtpchmdfkifbciaaDkWrite
import Derived.Deep.QuietTactic
import Derived.BigQuiet
import Derived.Deep.RegionLaw
namespace Go.Proofs.Ytpchmdfkifbciaa
open Go.RowKit

def writeE (S : DS) (er : Int) : Int := if S.off then 6 else if S.left = 0 then 6 else er
def writeS (S S1 S0 : DS) : DS := if S.off then S else if S.left = 0 then { S0 with off := true, left := max (S0.left - 1) (-1) } else { S1 with left := max (S1.left - 1) (-1) }
theorem write_any (b : Nat) (R : Nat → Prop) (S S1 S0 : DS) (er : Int) (f g : FuncId) (fc gc : Array Value) (w : World) (hd : Dk w b R S) (hef : Ent f) (heg : Ent g)
    (hf : Calls Try.prog f fc (boxW w b) fun e w' => e = .returned (.int .i64 er) ∧ Step (boxW w b) b R w' S1)
    (hg : Calls Try.prog g gc (boxW w b) fun e w' => e = .returned (.tuple #[]) ∧ Step (boxW w b) b R w' S0) :
    Calls Try.prog 55 #[.pointer (some ⟨b, 0, none⟩), .func (.func f) #[] fc, .func (.func g) #[] gc] w fun e w' => e = .returned (.int .i64 (writeE S er)) ∧ Step w b R w' (writeS S S1 S0) := by
  unfold writeE writeS
  cases ho : S.off with
  | true => simp only [if_pos]; exact write_off b R S f g fc gc w hd ho
  | false =>
    by_cases hl : S.left = 0
    · simp only [Bool.false_eq_true, if_false, if_pos hl]; exact write_goes b R S S0 f g fc gc w hd ho hl heg hg
    · simp only [Bool.false_eq_true, if_false, if_neg hl]; exact write_on b R S S1 er f g fc gc w hd ho hl hef hf
theorem run_append_bts (w : World) (ty : TypeId) (base : Nat) (v : Value) (l : List UInt8) (hown : Own w base v l) (u : Value) (m : List UInt8) (hu : Bts w u m) (hsz : l.length + m.length ≤ 140737488355328) (hbase : base ≤ w.heap.size) :
    ∃ va vc w', (Builtin.append_ #[34, 34] ty #[v, u]).run Try.prog w = .ok (.slice va (l.length + m.length) vc) w' ∧ Own w' base (.slice va (l.length + m.length) vc) (l ++ m) ∧ w.grownBy w' v.ownBlock ∧ ((Value.slice va (l.length + m.length) vc).ownBlock = v.ownBlock ∨ (Value.slice va (l.length + m.length) vc).ownBlock = some w.heap.size) := by
  obtain ⟨i, hi, hz0, hz1, hz2⟩ := info_parts Try.infoB
  obtain ⟨ao, n, cap, rfl, rfl, hc, hm, hnone, hcell⟩ := hu
  cases ao with
  | none =>
    have h0 := hnone rfl
    subst h0
    have hm0 : m = [] := List.eq_nil_of_length_eq_zero (by omega)
    subst hm0
    obtain ⟨va, vc, rfl⟩ := hown.shape
    exact ⟨va, vc, w, run_append_owned_none (P := Try.prog) (w := w) base 34 ty 5 i 1 Try.underlyingB hi _ _ _ hown, by simpa using hown, World.grownBy.refl _ _, .inl (by simp [Value.ownBlock])⟩
  | some ad =>
    obtain ⟨v', w', hr, h2, h3, h4, h5⟩ := run_append_own_at (P := Try.prog) w base 34 ty 5 i (.int .u8 0) 1 1 Try.underlyingB hi hz0 hz1 hz2 rfl (by decide) v l.length (l.map bv) hown ad m.length cap (m.map bv) (by simp) (by
      intro j u hj
      have hlt : j < m.length := by
        rcases Nat.lt_or_ge j m.length with h | h
        · exact h
        · simp [List.getElem?_eq_none (l := m.map bv) (by simpa using h)] at hj
      have e := hcell ad rfl j hlt
      have : u = bv m[j] := by simpa [hlt] using hj.symm
      rw [this]; exact e) (bv_one m) (by unfold maxLen; omega) (by omega) hbase
    have ho2 : Own w' base v' (l ++ m) := by
      show w'.ownsRow _ _ _ _ (l ++ m).length ((l ++ m).map bv)
      rw [List.length_append, List.map_append]; exact h2
    obtain ⟨va, vc, rfl⟩ := ho2.shape
    have e : (l ++ m).length = l.length + m.length := List.length_append
    rw [e] at ho2 hr h5
    exact ⟨va, vc, w', hr, ho2, h3, h5⟩
/-- An append within a statement that draws its order. -/
theorem step_append {ops : Array Oper} {o : Oper} {a : Act} {w : World} {K : Act → World → Prop} {Q : Exit → Act → World → Prop} {E : Prop} (hg : o.guard = none) (s x : Operand)
    (hop : o.op = Op.call { callee := Callee.builtin Builtin.append, args := #[s, x], argTypes := #[34, 34] })
    (base : Nat) (v : Value) (l : List UInt8) (hs : a.eval s = v) (hown : Own w base v l) (u : Value) (m : List UInt8) (hx : a.eval x = u) (hu : Bts w u m) (hsz : l.length + m.length ≤ 140737488355328) (hbase : base ≤ w.heap.size)
    (hK : ∀ va vc w', Own w' base (.slice va (l.length + m.length) vc) (l ++ m) → w.grownBy w' v.ownBlock → ((Value.slice va (l.length + m.length) vc).ownBlock = v.ownBlock ∨ (Value.slice va (l.length + m.length) vc).ownBlock = some w.heap.size) → K (a.put o.dst (.slice va (l.length + m.length) vc)) w') :
    if Region.wanted o (yielded ops a.tmps) = true then Oper.wp Try.prog o a w K Q else E := by
  have hw : Region.wanted o (yielded ops a.tmps) = true := by simp [Region.wanted, hg]
  rw [if_pos hw]
  obtain ⟨va, vc, w', hr, h2, h3, h4⟩ := run_append_bts w o.type base v l hown u m hu hsz hbase
  unfold Oper.wp
  simp [execOp, hop, resolve, invoke, builtin, hs, hx, hr, Result.andThen]
  exact hK va vc w' h2 h3 h4
theorem lt_of_cell {w : World} {x i : Nat} {v : Value} (h : w.cell? ⟨x, i, none⟩ = some v) : x < w.heap.size := by
  rcases Nat.lt_or_ge x w.heap.size with h' | h'
  · exact h'
  · simp [World.cell?, Array.getElem?_eq_none h'] at h
theorem ent_nothing : Ent 58 := fun args w => by simp [go_sem]
set_option maxHeartbeats 400000 in
theorem nothing_any (w : World) : Calls Try.prog 58 #[] w fun e w' => e = .returned (.tuple #[]) ∧ w' = w := by
  go_enter Try.func58, Try.ntmps58
  go_wp2
  go_end0
  exact ⟨rfl, rfl⟩
theorem box_at (w : World) (b : Nat) : (boxW w b).cell? ⟨w.heap.size, 0, none⟩ = some (.pointer (some ⟨b, 0, none⟩)) := by rw [cell_of_row _ _ _ _ _ _ (box_head w b)]; rfl
def syncS (S : DS) : DS := { S with sure := S.log.length }
theorem Ok.sync {S : DS} (h : Ok S) : Ok (syncS S) := ⟨h.room, h.fits, Nat.le_refl _, h.left, h.left2⟩
set_option maxHeartbeats 400000 in
theorem sync1_any (x b : Nat) (R : Nat → Prop) (S : DS) (w : World) (hd : Dk w b R S) (hx : w.cell? ⟨x, 0, none⟩ = some (.pointer (some ⟨b, 0, none⟩))) :
    Calls Try.prog 62 #[.pointer (some ⟨x, 0, none⟩)] w fun e w' => e = .returned (.int .i64 0) ∧ Step w b R w' (syncS S) := by
  obtain ⟨iv, sv, lv, hd⟩ := hd
  obtain ⟨va, vc, rfl⟩ := hd.ol.shape
  have HD := hid hd
  obtain ⟨c0, c1, c2, c3, c4, c5, c6, c7, cf⟩ := cell_eight hd.head
  have hlt := hd.ok.log
  clear hd
  go_enter Try.func62, Try.ntmps62
  go_wp2
  go_region
  go_wp2
  go_ret
  exact ⟨rfl, HD.out.turn (((But.refl (fun k => k = b) _).set (.inl rfl)).drew) HD.out.ok.sync (heap_setCell_same w b 5 _ _ _ HD.out.head) HD.out.oi HD.out.os HD.out.ol HD.out.ii HD.out.is HD.out.il HD.out.ai HD.out.asl⟩
theorem ent_sync1 : Ent 62 := fun args w => by simp [go_sem]
set_option maxHeartbeats 400000 in
theorem sync_any (b : Nat) (R : Nat → Prop) (S : DS) (w : World) (hd : Dk w b R S) :
    Calls Try.prog 34 #[.pointer (some ⟨b, 0, none⟩)] w fun e w' => e = .returned (.int .i64 (writeE S 0)) ∧ Step w b R w' (writeS S (syncS S) S) := by
  have HD := hid hd
  have hlt := hd.lt
  clear hd
  have hmf : ∀ (fn : Fn) (first cap : Array Value) (w : World), (Instr.makeFunc fn first cap).run Try.prog w = .ok (.func fn first cap) w := fun _ _ _ _ => rfl
  go_enter Try.func34, Try.ntmps34
  go_wp2_with fail
  have hb1 := box_below w b
  have hd1 := HD.out.below hb1
  refine (write_any b R S (syncS S) S 0 _ _ _ _ _ hd1 ent_sync1 ent_nothing ((sync1_any _ b R S _ (hd1.below (box_below _ b)) ?_).mono fun _ _ h => h) ((nothing_any _).mono fun _ _ h => ⟨h.1, by rw [h.2]; exact Step.refl (hd1.below (box_below _ b))⟩)).mono ?_
  · exact cell_later (box_below _ b) (box_at w b)
  rintro e w2 ⟨rfl, hs2⟩
  have HS := hid (step_below hb1 hs2)
  clear hs2 hb1 hd1
  go_wp2
  go_ret
  exact ⟨rfl, HS.out⟩
def fitsA (S : DS) (n : Nat) : Prop := sec (S.log.length + n) + sec S.image.length + sec S.stage.length ≤ S.room
instance (S : DS) (n : Nat) : Decidable (fitsA S n) := by unfold fitsA; infer_instance
def layE (S : DS) (m : List UInt8) : Int := if fitsA S m.length then 0 else 3
def layS (S : DS) (m : List UInt8) : DS := if fitsA S m.length then { S with log := S.log ++ m } else S
/-- What an append to the log leaves. -/
theorem DkV.laid {w w1 : World} {b : Nat} {R : Nat → Prop} {S : DS} {iv sv lv v1 : Value} {m : List UInt8} (h : DkV w b R S iv sv lv) (ho : Own w1 0 v1 (S.log ++ m)) (hg : w.grownBy w1 lv.ownBlock) (hat : v1.ownBlock = lv.ownBlock ∨ v1.ownBlock = some w.heap.size) (hok : Ok { S with log := S.log ++ m }) :
    Step w b R (w1.setCell ⟨b, 4, none⟩ v1) { S with log := S.log ++ m } := by
  have hblt := h.lt
  have hbl : ∀ k, lv.ownBlock = some k → R k := fun k hk => (h.il k hk).1
  have hb1 : w1.heap[b]? = w.heap[b]? := hg.block b hblt fun e => (h.il b e.symm).2 rfl
  have hb2 : ∀ v : Value, InR R b v → Apart v lv → ∀ k, v.ownBlock = some k → (w1.setCell ⟨b, 4, none⟩ v1).heap[k]? = w.heap[k]? := by
    intro v hi ha k hk
    rw [Below.heap_setCell w1 ⟨b, 4, none⟩ v1 k (fun e => (hi k hk).2 e)]
    exact hg.block k (h.rlt k (hi k hk).1) fun e => ha k hk e.symm
  have h1 : ∀ k, v1.ownBlock = some k → (R k ∨ k = w.heap.size) ∧ k ≠ b := by
    intro k hk
    rcases hat with e | e
    · rw [e] at hk; exact ⟨.inl (h.il k hk).1, (h.il k hk).2⟩
    · rw [e] at hk; cases hk; exact ⟨.inr rfl, by omega⟩
  have h2 : ∀ v : Value, InR R b v → Apart v lv → Apart v v1 := by
    intro v hi ha k hk e
    rcases hat with e1 | e1
    · rw [e1] at e; exact ha k hk e
    · rw [e1] at e; cases e; have := h.rlt _ (hi _ hk).1; omega
  have hs := hg.size
  refine ⟨fun k => R k ∨ v1.ownBlock = some k, ⟨iv, sv, v1, hok, .inl h.rb, ?_, ?_, ?_, ?_, ?_, ?_, ?_, ?_, h2 iv h.ii h.ai, h2 sv h.is h.asl⟩, ?_, ?_⟩
  · intro k hk
    have : k < w1.heap.size := by
      rcases hk with hk | hk
      · have := h.rlt k hk; omega
      · exact (ho.lt k hk).2
    simpa [World.setCell] using this
  · exact heap_setCell_same w1 b 4 _ _ _ (hb1.trans h.head)
  · exact h.oi.blk (hb2 iv h.ii h.ai)
  · exact h.os.blk (hb2 sv h.is h.asl)
  · exact ho.blk fun k hk => Below.heap_setCell w1 ⟨b, 4, none⟩ v1 k fun e => (h1 k hk).2 e
  · exact fun k hk => ⟨.inl (h.ii k hk).1, (h.ii k hk).2⟩
  · exact fun k hk => ⟨.inl (h.is k hk).1, (h.is k hk).2⟩
  · exact fun k hk => ⟨.inr hk, (h1 k hk).2⟩
  · exact (But.grown hg hbl).set (.inl h.rb)
  · intro k hk
    rcases hk with hk | hk
    · exact .inl hk
    · rcases (h1 k hk).1 with h' | h'
      · exact .inl h'
      · exact .inr (by omega)
theorem Ok.lay {S : DS} (h : Ok S) (m : List UInt8) (hf : fitsA S m.length) : Ok { S with log := S.log ++ m } := by
  unfold fitsA at hf
  exact ⟨h.room, by simp only [List.length_append]; omega, by have := h.sure; simp only [List.length_append]; omega, h.left, h.left2⟩
set_option maxHeartbeats 1600000 in
theorem lay_any (x y b : Nat) (R : Nat → Prop) (S : DS) (v : Value) (m : List UInt8) (w : World) (hd : Dk w b R S) (hv : Bts w v m) (hm : m.length ≤ 100000000000) (hx : w.cell? ⟨x, 0, none⟩ = some (.pointer (some ⟨b, 0, none⟩))) (hy : w.cell? ⟨y, 0, none⟩ = some v) (hxr : ¬ R x) (hyr : ¬ R y) :
    Calls Try.prog 60 #[.pointer (some ⟨x, 0, none⟩), .pointer (some ⟨y, 0, none⟩)] w fun e w' => e = .returned (.int .i64 (layE S m)) ∧ Step w b R w' (layS S m) := by
  have HV := hid hv
  obtain ⟨ua, uc, rfl⟩ := hv.shape
  have HD0 := hid hd
  obtain ⟨iv, sv, lv, hd⟩ := hd
  obtain ⟨va, vc, rfl⟩ := hd.ol.shape
  obtain ⟨vi, vj, rfl⟩ := hd.oi.shape
  obtain ⟨vs, vt, rfl⟩ := hd.os.shape
  have HD := hid hd
  have hblt := hd.lt
  obtain ⟨c0, c1, c2, c3, c4, c5, c6, c7, cf⟩ := cell_eight hd.head
  have hlt := hd.ok.log
  clear hd hv
  have hli := HD.out.ok.image
  have hls := HD.out.ok.stage
  have hro := HD.out.ok.room
  obtain ⟨L, hL⟩ : ∃ L : Nat, L = S.log.length + m.length := ⟨_, rfl⟩
  have HL := hid hL
  have HSZ := hid (show S.log.length + m.length ≤ 140737488355328 by omega)
  have e1 : IntKind.i64.wrap ((S.log.length : Int) + (m.length : Int)) = (L : Int) := by rw [hL]; rw [IntWalk.i64_in _ ⟨by omega, by omega⟩]; omega
  have hL2 : L ≤ 1000000000000 := by omega
  have hi2 : sec S.image.length ≤ 65536 := by unfold sec; omega
  have hs2 : sec S.stage.length ≤ 65536 := by unfold sec; omega
  have e2 : IntKind.i64.wrap ((S.room : Int) - (sec S.image.length : Int)) = (S.room : Int) - (sec S.image.length : Int) := IntWalk.i64_in _ ⟨by omega, by omega⟩
  have e3 : IntKind.i64.wrap ((S.room : Int) - (sec S.image.length : Int) - (sec S.stage.length : Int)) = (S.room : Int) - (sec S.image.length : Int) - (sec S.stage.length : Int) := IntWalk.i64_in _ ⟨by omega, by omega⟩
  have HXR := hid hxr
  have HYR := hid hyr
  clear hL hxr hyr
  by_cases hfit : (S.room : Int) - (sec S.image.length : Int) - (sec S.stage.length : Int) < (sec L : Int)
  · have HF := hid (show ¬ fitsA S m.length by unfold fitsA; rw [← HL.out]; omega)
    go_enter Try.func60, Try.ntmps60
    go_wp2_with fail
    go_quiet (first | (go_at_call 57; refine Calls.quiet_of_same (sectors_any _ _ ?_); omega))
    go_wp2
    go_ret
    unfold layE layS
    rw [if_neg HF.out, if_neg HF.out]
    exact ⟨rfl, Step.of_below HD0.out ⟨rfl, rfl, rfl, Nat.le_refl _, fun _ _ => rfl⟩⟩
  · have HF := hid (show fitsA S m.length by unfold fitsA; rw [← HL.out]; omega)
    go_enter Try.func60, Try.ntmps60
    go_wp2_with fail
    go_quiet (first | (go_at_call 57; refine Calls.quiet_of_same (sectors_any _ _ ?_); omega))
    go_wp2_with fail
    clear e1 e2 e3 hfit
    go_region_law (first | (refine step_append rfl (.tmp 35) (.tmp 36) rfl 0 (.slice va S.log.length vc) S.log rfl HD.out.ol (.slice ua m.length uc) m rfl HV.out HSZ.out (Nat.zero_le _) ?_; intro va1 vc1 w1 ho1 hg1 hat1; have HO1 := hid ho1; have HG1 := hid hg1; have HA1 := hid hat1; have hb1 : w1.heap[b]? = w.heap[b]? := hg1.block b hblt (fun e => (HD.out.il b e.symm).2 rfl); have k4 : w1.cell? ⟨b, 4, none⟩ = some (.slice va S.log.length vc) := (World.cell?_of_block hb1).trans c4; have kf : w1.frozen? ⟨b, 4, none⟩ = false := (World.frozen?_of_block hb1).trans (cf 4); have hbx : w1.heap[x]? = w.heap[x]? := hg1.block x (lt_of_cell hx) (fun e => HXR.out (HD.out.il x e.symm).1); have kx : w1.cell? ⟨x, 0, none⟩ = some (.pointer (some ⟨b, 0, none⟩)) := (World.cell?_of_block hbx).trans hx; clear ho1 hg1 hat1 hb1 hbx))
    all_goals
      go_wp2
      go_ret
      unfold layE layS
      rw [if_pos HF.out, if_pos HF.out]
      exact ⟨rfl, HD.out.laid HO1.out ⟨HG1.out.os, HG1.out.tape, HG1.out.output, HG1.out.size, HG1.out.block⟩ HA1.out (HD.out.ok.lay m HF.out)⟩
theorem ent_lay : Ent 60 := fun args w => by simp [go_sem]
end Go.Proofs.Ytpchmdfkifbciaa
