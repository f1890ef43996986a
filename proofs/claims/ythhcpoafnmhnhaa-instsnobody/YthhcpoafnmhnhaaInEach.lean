/- What the loop over a table goes through: its instances, by their Refs, each with lists of its own. Conditions: the table and its instances lie in memory, and are light. -/
import Derived.Test.YthhcpoafnmhnhaaInRising
import Derived.Test.YthhcpoafnmhnhaaInPlay
import Derived.Test.YthhcpoafnmhnhaaTell
namespace Go.Proofs.Ythhcpoafnmhnhaa
open Go.RowKit Go.Maps Go.Shelf
attribute [local go_sem] Oper.semAt_some
set_option linter.unusedVariables false
set_option linter.unusedSimpArgs false

/-- An entry that is handed out: its lists are new. -/
structure OutE where
  e : EnI
  ua : Option Addr
  uc : Nat
  va : Option Addr
  vc : Nat
def OutE.x (o : OutE) : InD := o.e.x
def OutE.u (o : OutE) : Value := .slice o.ua o.e.x.cmd.data.length o.uc
def OutE.r (o : OutE) : Value := .slice o.va o.e.x.deps.length o.vc
def OutE.c (o : OutE) : Array Value := instC o.e.x (.slice o.ua o.e.x.cmd.data.length o.uc) (.slice o.va o.e.x.deps.length o.vc)
def OutE.v (o : OutE) : Value := .agg o.c
/-- It is one of the table's, and its lists lie in memory. -/
def OutM (L : List EnI) (o : OutE) (W : World) : Prop := o.e ∈ L ∧ InM W o.e.x (.slice o.ua o.e.x.cmd.data.length o.uc) (.slice o.va o.e.x.deps.length o.vc)
/-- All cells but those of some blocks are as they were. -/
def KCZ (lo hi : Nat) (w w' : World) : Prop := w.heap.size ≤ w'.heap.size ∧ ∀ (q : Nat) (cs : Array Value) (t : TypeId) (fr : Nat × Nat), q < lo ∨ hi ≤ q → w.heap[q]? = some (.cells cs t fr) → w'.heap[q]? = some (.cells cs t fr)
theorem KCZ.trans {lo hi : Nat} {a b c : World} (h : KCZ lo hi a b) (k : KCZ lo hi b c) : KCZ lo hi a c := ⟨Nat.le_trans h.1 k.1, fun q cs t fr hz hq => k.2 q cs t fr hz (h.2 q cs t fr hz hq)⟩
theorem KCZ.below {lo hi : Nat} {w w' : World} (h : Below w.heap.size w w') : KCZ lo hi w w' := ⟨h.size, fun q _ _ _ _ hq => (h.block q (lt_of_block hq)).trans hq⟩
theorem KCZ.put {lo hi : Nat} (W : World) (l : Nat) (o o' : Obj) (h : W.heap[l]? = some o) (hc : o.isCells = false) : KCZ lo hi W (W.putObj l o') := by
  refine ⟨(grownBy_putObj' W l o').size, fun q cs t fr _ hq => ((grownBy_putObj' W l o').block q (lt_of_block hq) ?_).trans hq⟩
  intro e
  cases e
  rw [hq] at h; cases h; cases hc
theorem KCZ.cell {lo hi : Nat} (W : World) (q o : Nat) (v : Value) (h1 : lo ≤ q) (h2 : q < hi) : KCZ lo hi W (W.setCell ⟨q, o, none⟩ v) :=
  ⟨by simp, fun k _ _ _ hz hk => (Below.heap_setCell _ _ _ _ (by show k ≠ q; omega)).trans hk⟩
theorem KC.kcz {lo hi : Nat} {w0 a b : World} (h : KC w0 a) (hz : w0.heap.size ≤ lo) (k : KCZ lo hi a b) : KC w0 b := fun q cs t fr hq => k.2 q cs t fr (.inl (by have := lt_of_block hq; omega)) (h q cs t fr hq)
/-- What the loop asks of what a round keeps (Kp), and of what it must find (Mem). -/
structure KpMem (L : List EnI) (hi : Nat) (Kp : World → World → Prop) (Mem : World → Prop) : Prop where
  tr : ∀ {A B C : World}, Kp A B → Kp B C → Kp A C
  bel : ∀ {A B : World}, Below A.heap.size A B → Kp A B
  put : ∀ (W : World) (l : Nat) (o o' : Obj), W.heap[l]? = some o → o.isCells = false → Kp W (W.putObj l o')
  row : ∀ {A B : World}, Kp A B → ∀ (q : Nat) (cs : Array Value) (t : TypeId) (fr : Nat × Nat), hi ≤ q → A.heap[q]? = some (.cells cs t fr) → B.heap[q]? = some (.cells cs t fr)
  mem : ∀ {A B : World}, Mem A → Kp A B → Mem B
  ins : ∀ {A : World}, Mem A → ∀ e ∈ L, InM A e.x e.u e.r
theorem own_kpm {L : List EnI} {hi B : Nat} {Kp : World → World → Prop} {Mem : World → Prop} (hK : KpMem L hi Kp Mem) {e : TypeId} {k n : Nat} {v : Value} {xs : List Value} {w w' : World} (h : w.ownsRow B e k v n xs) (hz : hi ≤ B) (hk : Kp w w') : w'.ownsRow B e k v n xs :=
  own_kept h fun q cs hq hh => (hK.row hk q cs _ _ (by have := (World.ownsRow.lt h q hq).1; omega) hh).trans hh.symm
theorem kcz_mem {L : List EnI} {w0 : World} (hi : Nat) (hM : ∀ e ∈ L, InM w0 e.x e.u e.r) : KpMem L hi (KCZ w0.heap.size hi) (KC w0) :=
  ⟨KCZ.trans, KCZ.below, KCZ.put, fun h q cs t fr hq hh => h.2 q cs t fr (.inr hq) hh, fun h k => h.kcz (Nat.le_refl _) k, fun h e he => (hM e he).kc h⟩
theorem wplI_loadE {F : Fence} {n : Nat} {ops : Array Oper} {rest : List Oper} {o : Oper} {a : Act} {w : World} {Q : Exit → Act → World → Prop} (hgd : o.guard = none) (x : Operand) (ho : o.op = .load 38 x)
    (b f : Nat) (hx : a.eval x = .pointer (some ⟨b, f, none⟩)) (cs : Array Value) (hs : cs.size = 16) (hg : w.rangeAt b f cs.toList)
    (h : wpListIn F n Try.prog ops Q rest (a.put o.dst (.agg cs)) w) : wpListIn F n Try.prog ops Q (o :: rest) a w := by
  obtain ⟨d, hd1, hd2⟩ := Try.rowInst
  have hr := run_loadAt_mid (P := Try.prog) w b f 38 cs.toList d hg hd1 hd2 (by rw [Array.length_toList, hs]; exact Try.sizeInst)
  refine wpListIn_plain hgd fun K' hK' => ?_
  unfold Oper.wpIn
  refine ⟨by simp [Oper.about, ho], ?_⟩
  rw [Oper.semAt_plain F _ _ (by rw [ho]; intro c hc'; cases hc')]
  unfold execOp
  simp only [ho, hx, hr, Sem.run_bind, Sem.run_pure, Result.andThen_ok]
  exact hK' _ _ h
theorem RisE.len {D : DataW Value} {L R : List EnI} (h : RisE L R) (hT : TL D L) : R.length = L.length := by
  have h1 : R.Nodup := by
    refine h.rise.imp ?_
    intro a b hab e
    subst e
    rw [refLt_irrefl] at hab
    cases hab
  have h2 : L.Nodup := hT.once.imp fun hab e => hab (by rw [e])
  exact Nat.le_antisymm (List.Nodup.length_le_of_subset h1 h.sub) (List.Nodup.length_le_of_subset h2 h.all)
set_option maxRecDepth 100000 in
set_option maxHeartbeats 1600000 in
theorem ieach_any (b : Value) (w : World) (hb : ∃ q, b = .pointer q) :
    Calls Try.prog 6 #[b] w fun e w' => e = .returned (.func (.func 21) #[] #[.pointer (some ⟨w.heap.size, 0, none⟩)]) ∧
      w' = w.alloc (.cells #[b] 25 (0, 0)) := by
  have hmf : ∀ (fn : Fn) (first cap : Array Value) (w : World), (Instr.makeFunc fn first cap).run Try.prog w = .ok (.func fn first cap) w := fun _ _ _ _ => rfl
  obtain ⟨q, rfl⟩ := hb
  go_enter Try.func6, Try.ntmps6
  go_wp2_with fail
  go_ret
  exact ⟨rfl, rfl⟩
set_option maxRecDepth 100000 in
set_option maxHeartbeats 4000000 in
theorem each1_in (n : Nat) (hn : 1 ≤ n) (y B tb mb nn hi : Nat) (D : DataW Value) (L : List EnI) (hTL : TL D L) (hLt : ∀ e ∈ L, LightI e.x) (hlen : L.length ≤ 5000) (Kp : World → World → Prop) (Mem : World → Prop) (hK : KpMem L hi Kp Mem)
    (J Jx : List OutE → World → Prop)
    (hY : ∀ pre x V, J pre V → OutM L x V → pre.length < L.length → YieldAt Fence.wide (n - 1) Try.prog y #[x.v] V fun e V' =>
      (e = .returned (.bool true) ∧ J (pre ++ [x]) V' ∧ Kp V V') ∨ (e = .returned (.bool false) ∧ Jx (pre ++ [x]) V'))
    (W : World) (hzW : hi ≤ W.heap.size) (hJ : ∀ pre X Y, J pre X → Below X.heap.size X Y → J pre Y) (hB : W.cell? ⟨B, 0, none⟩ = some (.pointer (some ⟨tb, 0, none⟩))) (hT : Tb W tb mb nn D) (hk0 : Mem W) (h0 : J [] W) :
    CallsIn Fence.wide n Try.prog 21 #[.func (.yield y) #[] #[], .pointer (some ⟨B, 0, none⟩)] W fun e W' => (∃ v, e = .returned v) ∧
      ((∃ ss, RisE L (ss.map (·.e)) ∧ J ss W') ∨ (∃ pre, ((pre.map (·.e)).Pairwise fun a b => refLt a.x.ref b.x.ref = true) ∧ Jx pre W')) := by
  have HT := hid hT
  have HTL := hid hTL
  have HKM := hid hK
  have HLT := hid hLt
  have HK0 := hid hk0
  have H0 := hid h0
  have HJ := hid hJ
  have HY := hid hY
  clear hT hTL hK hLt hk0 h0 hJ hY
  refine callsIn_of_wp Try.func21 rfl trivial ?_ rfl
  simp only [Try.ntmps21, List.size_toArray, List.length_cons, List.length_nil, Nat.reduceAdd, Nat.reduceSub, Array.replicate_succ, Array.replicate_zero, List.push_toArray, List.append_toArray, List.nil_append, List.cons_append]
  gi_wp2_with (refine ⟨trivial, ?_⟩; gi_at_call 22; refine (callsIn_wide.2 (irising_any tb mb nn D L _ HT.out HTL.out hlen)).mono ?_; rintro e w1 ⟨R, va, vc, hR, rfl, ho1, hb1⟩)
  have HR := hid hR
  have O1 := hid ho1
  have J1 := hid (HJ.out [] W w1 H0.out (hb1.mono (Nat.le_refl _)))
  have K1 := hid (HKM.out.mem HK0.out (HKM.out.bel hb1))
  have hzs : Hid (hi ≤ W.heap.size) := hid hzW
  have hRl : R.length ≤ 5000 := by rw [hR.len HTL.out]; exact hlen
  have hRL : R.length = L.length := hR.len HTL.out
  have HRL := hid hRL
  clear hR ho1 hRL H0 HK0 hB HT
  have hS1 := hb1.size
  clear hb1
  gi_wp2
  gi_loopw [8] (fun i wr => ∃ (k : Nat) (ss : List OutE), k ≤ R.length ∧ i = .int .i64 k ∧ ss.map (·.e) = R.take k ∧ J ss wr ∧ Mem wr ∧ wr.ownsRow W.heap.size 38 16 (.slice va R.length vc) R.length (ics R)) (fun i _ => R.length - (intOf i).toNat)
  case atStart => exact ⟨0, [], Nat.zero_le _, rfl, rfl, J1.out, K1.out, O1.out⟩
  case round =>
    obtain ⟨k, ss, hk, rfl, hss, hJs, hkc, hor⟩ := hrel
    have HSS := hid hss
    have HJs := hid hJs
    have HKC := hid hkc
    have HOR := hid hor
    clear hss hJs hkc hor
    by_cases hlt : k < R.length
    · have hMr : ∀ e ∈ R, InM wr e.x e.u e.r := fun e he => HKM.out.ins HKC.out e (HR.out.sub e he)
      have HI := ins_own HOR.out hMr
      obtain ⟨gb, go', rfl⟩ := HI.addr (by omega)
      have HRG := hid (HI.range k hlt)
      have HMY := hid (hMr R[k] (List.getElem_mem hlt))
      have HIN := hid (HR.out.sub R[k] (List.getElem_mem hlt))
      have HTK := hid (show R.take (k + 1) = R.take k ++ [R[k]] by rw [List.take_add_one, List.getElem?_eq_getElem hlt]; rfl)
      clear HI hMr
      generalize R[k] = x at HRG HMY HIN HTK
      have hcx : x.c.size = 16 := rfl
      have hxo := x.one
      gi_upto_region 3 with (first | (refine wplI_loadE rfl _ rfl gb (go' + k * 16) rfl x.c hcx HRG.out ?_) | (refine wplI_storeC rfl _ _ rfl wr.heap.size x.c rfl rfl hcx hxo _ zeroI (.slice none 0 0) (.slice none 0 0) (heap_alloc_new _ _) ?_) | gi_in)
      obtain ⟨w2, hw2⟩ : ∃ w2, w2 = (wr.alloc (.cells (instC zeroI (.slice none 0 0) (.slice none 0 0)) 38)).setRow wr.heap.size x.c := ⟨_, rfl⟩
      have b2 : Below wr.heap.size wr w2 := by rw [hw2]; exact below_row ((Below.refl _ _).alloc (Nat.le_refl _) _) (Nat.le_refl _) _
      have hX : w2.heap[wr.heap.size]? = some (.cells x.c 38 (0, 0)) := by rw [hw2]; exact setRow_heap _ _ _ _ _ _ (heap_alloc_new _ _)
      have HW2 := hid hw2
      clear hw2
      unfold instC zeroI at HW2
      simp only at HW2
      rw [← HW2.out]
      obtain ⟨Y, hYe⟩ : ∃ Y, Y = wr.heap.size := ⟨_, rfl⟩
      rw [← hYe] at hX
      rw [← hYe]
      clear hYe HW2
      have B2 := hid b2
      clear b2
      have hcv : x.c = instC x.x (.slice x.ua x.un x.uc) (.slice x.va x.vn x.vc) := rfl
      have LX := HLT.out x HIN.out
      have HCL := hid (iclone_any x.x x.u x.r w2 (HMY.out.below B2.out) (by have := LX.1; omega) (by have := LX.2.2; omega))
      have HCV : Hid (Value.agg x.c = instV x.x x.u x.r) := hid rfl
      rw [← HCV.out] at HCL
      clear hcv LX
      gi_wp2_with (first | (refine wplI_loadC rfl _ rfl Y rfl x.c hcx _ _ hX ?_) | (refine ⟨trivial, ?_⟩; gi_at_call 23; refine (callsIn_wide.2 HCL.out).mono ?_; rintro e w3 ⟨u3, v3, rfl, hu3, hv3, hb3⟩) | gi_in)
      obtain ⟨ua3, uc3, rfl⟩ := own_shape hu3
      obtain ⟨va3, vc3, rfl⟩ := own_shape hv3
      obtain ⟨o, ho⟩ : ∃ o : OutE, o = ⟨x, ua3, uc3, va3, vc3⟩ := ⟨_, rfl⟩
      have hov : instV x.x (.slice ua3 x.x.cmd.data.length uc3) (.slice va3 x.x.deps.length vc3) = o.v := by rw [ho]; rfl
      have hoe : o.e = x := by rw [ho]
      have B23 := hid (B2.out.trans (hb3.mono B2.out.size))
      have hOM : OutM L o w3 := by rw [ho]; exact ⟨HIN.out, strs_svs hu3, rfs_rvs hv3⟩
      obtain ⟨fn, tmps, assign, body, hy, hR⟩ := HY.out ss o w3 (HJ.out _ _ _ HJs.out B23.out) hOM (by have h1 := congrArg List.length HSS.out; have h2 := HRL.out; simp at h1; omega)
      have HSO := hid hoe
      rw [hov]
      clear ho hov hoe hOM hu3 hv3 hb3 HCL HCV
      generalize o.v = ov at *
      rw [hy]
      gi_wp2
      refine hR.mono ?_
      rintro e W3 (⟨rfl, hJ3, hk3⟩ | ⟨rfl, hJx3⟩)
      · have HK3 := hid hk3
        have hJ3' := hid hJ3
        have HB3 := hid (HKM.out.tr (HKM.out.bel B23.out) HK3.out)
        clear hk3 hJ3 hR hy
        gi_wp2
        go_roundw
        case rel => exact ⟨k + 1, ss ++ [o], by omega, by simp, by rw [HTK.out, List.map_append, HSS.out]; simp [HSO.out], hJ3'.out, HKM.out.mem HKC.out HB3.out, own_kpm HKM.out HOR.out hzs.out HB3.out⟩
        case measure => simp [intOf]; omega
      · clear hR hy
        gi_wp2
        refine bodyPost_ret (results_none rfl _ _ _) rfl ?_
        refine ⟨⟨_, rfl⟩, .inr ⟨ss ++ [o], ?_, hJx3⟩⟩
        have e : (ss ++ [o]).map (·.e) = R.take (k + 1) := by rw [HTK.out, List.map_append, HSS.out]; simp [HSO.out]
        rw [e]
        exact HR.out.rise.sublist (List.take_sublist _ _)
    · gi_wp2
      go_end0
      have : k = R.length := by omega
      subst this
      rw [List.take_length] at HSS
      exact ⟨⟨_, rfl⟩, .inl ⟨ss, by rw [HSS.out]; exact HR.out, HJs.out⟩⟩
/-- The loop's contract. -/
theorem each_tells (n : Nat) (hn : 1 ≤ n) (B tb mb nn hi : Nat) (D : DataW Value) (L : List EnI) (hTL : TL D L) (hLt : ∀ e ∈ L, LightI e.x) (hlen : L.length ≤ 5000) (Kp : World → World → Prop) (Mem : World → Prop) (hK : KpMem L hi Kp Mem) (w : World) (hzw : hi ≤ w.heap.size) (hB : w.heap[B]? = some (.cells #[.pointer (some ⟨tb, 0, none⟩)] 25 (0, 0))) (hT : Tb w tb mb nn D) (hk0 : Mem w) :
    SeqTells Fence.wide n Try.prog 21 #[.pointer (some ⟨B, 0, none⟩)] (fun x : OutE => #[x.v]) (OutM L) Kp (fun ss => RisE L (ss.map (·.e))) (fun pre => (pre.map (·.e)).Pairwise fun a b => refLt a.x.ref b.x.ref = true) L.length w := fun y J Jx W hW hJ _ hY h0 => by
  have hp := (hW.block B (lt_of_block hB)).trans hB
  have hcB : W.cell? ⟨B, 0, none⟩ = some (.pointer (some ⟨tb, 0, none⟩)) := by rw [cell_of_row _ _ _ _ _ _ hp]; rfl
  exact each1_in n hn y B tb mb nn hi D L hTL hLt hlen Kp Mem hK J Jx hY W (Nat.le_trans hzw hW.size) (fun pre X Y hs hb => hJ pre X Y none hs ⟨hb.os, hb.tape, hb.output, hb.size, fun k hk _ => hb.block k hk⟩ (fun r e => by cases e)) hcB (hT.below hW) (hK.mem hk0 (hK.bel (hW.mono (Nat.le_refl _)))) h0
end Go.Proofs.Ythhcpoafnmhnhaa
