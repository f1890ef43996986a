/- What May of package blocks answers. Conditions: the command's texts lie in memory, its numbers are ints. -/
import Derived.Test.YthhcpoafnmhnhaaGreatBkBase
namespace Go.Proofs.YthhcpoafnmhnhaaGreat
open Go.RowKit

/-- Does a text end with a nought? -/
def endsNul (s : ByteArray) : Bool := decide (1 ≤ s.size) && ((s.extract (s.size - 1) s.size).toList == [0])
set_option maxHeartbeats 800000 in
theorem lsuffix_any (s : ByteArray) (w : World) (hs : (s.size : Int) ≤ 9223372036854775807) :
    Calls Tryz.prog 107 #[.string s, .string ⟨#[0]⟩] w fun e w' => e = .returned (.bool (endsNul s)) ∧ w' = w := by
  unfold endsNul
  by_cases h : 1 ≤ s.size
  · obtain ⟨n, hn⟩ : ∃ n, s.size = n + 1 := ⟨s.size - 1, by omega⟩
    have hd : decide (1 ≤ s.size) = true := decide_eq_true h
    go_enter Tryz.func107, Tryz.ntmps107
    go_wp2
    go_ret
    exact ⟨by simp [hn], rfl⟩
  · have hn : s.size = 0 := by omega
    go_enter Tryz.func107, Tryz.ntmps107
    go_wp2
    go_ret
    exact ⟨by simp [hn], rfl⟩
set_option maxHeartbeats 800000 in
theorem suffix_any (s : ByteArray) (w : World) (hs : (s.size : Int) ≤ 9223372036854775807) :
    Calls Tryz.prog 99 #[.string s, .string ⟨#[0]⟩] w fun e w' => e = .returned (.bool (endsNul s)) ∧ w' = w := by
  go_enter Tryz.func99, Tryz.ntmps99
  go_wp2_with (first | (go_at_call 107; refine (lsuffix_any s _ hs).mono ?_; rintro e w1 ⟨rfl, rfl⟩))
  go_ret
  exact ⟨rfl, rfl⟩
/-- May it be a block's text? -/
def isTextB (s : ByteArray) : Bool := decide (s.size ≤ 4096) && !endsNul s
set_option maxHeartbeats 800000 in
theorem isText_any (s : ByteArray) (w : World) (hs : (s.size : Int) ≤ 9223372036854775807) :
    Calls Tryz.prog 83 #[.string s] w fun e w' => e = .returned (.bool (isTextB s)) ∧ w' = w := by
  unfold isTextB
  by_cases h : s.size ≤ 4096
  · have hd : decide (s.size ≤ 4096) = true := decide_eq_true h
    have hI : (s.size : Int) ≤ 4096 := by omega
    rw [hd]
    go_enter Tryz.func83, Tryz.ntmps83
    go_wp2_with (first | (go_at_call 99; refine (suffix_any s _ hs).mono ?_; rintro e w1 ⟨rfl, rfl⟩))
    go_ret
    exact ⟨by simp, rfl⟩
  · have hd : decide (s.size ≤ 4096) = false := decide_eq_false h
    have hI : ¬ (s.size : Int) ≤ 4096 := by omega
    rw [hd]
    go_enter Tryz.func83, Tryz.ntmps83
    go_wp2_with fail
    go_ret
    exact ⟨by simp, rfl⟩
set_option maxHeartbeats 800000 in
theorem noText_any (s : ByteArray) (w : World) (hs : (s.size : Int) ≤ 9223372036854775807) :
    Calls Tryz.prog 82 #[.string s] w fun e w' => e = .returned (.bool (!isTextB s)) ∧ w' = w := by
  go_enter Tryz.func82, Tryz.ntmps82
  go_wp2_with (first | (go_at_call 83; refine (isText_any s _ hs).mono ?_; rintro e w1 ⟨rfl, rfl⟩))
  go_ret
  exact ⟨rfl, rfl⟩
theorem ent_noText : Ent 82 := fun args w => by simp [go_sem]
set_option maxHeartbeats 1600000 in
theorem indexT_any (F : FuncId) (caps : Array Value) (p : ByteArray → Bool) (v : Value) (l : List ByteArray) (w : World) (hef : Ent F) (hv : Strs w v l) (hl : l.length ≤ 1000000000)
    (hf : ∀ x ∈ l, Calls Tryz.prog F (#[.string x] ++ caps) w fun e w' => e = .returned (.bool (p x)) ∧ w' = w) :
    Calls Tryz.prog 100 #[v, .func (.func F) #[] caps] w fun e w' => ∃ r : Int, e = .returned (.int .i64 r) ∧ decide (0 ≤ r) = l.any p ∧ w' = w := by
  have HV := hid hv
  have HF := hid hf
  have hef' : ∀ (args : Array Value) (w : World), (callFunc F args).run Tryz.prog w = .ok (.enter F args) w := hef
  obtain ⟨ao, cap, rfl⟩ := hv.shape
  clear hv hf hef
  have hlI : (l.length : Int) ≤ 1000000000 := by omega
  go_enter Tryz.func100, Tryz.ntmps100
  go_wp2_with fail
  go_loopw [8] (fun iv wr => ∃ k : Nat, iv = .int .i64 k ∧ k ≤ l.length ∧ (l.take k).any p = false ∧ w = wr) (fun iv _ => l.length - (intOf iv).toNat)
  case atStart => exact ⟨0, rfl, Nat.zero_le _, by simp, rfl⟩
  case round =>
    obtain ⟨k, rfl, hk, hall, hwr⟩ := hrel
    subst hwr
    have HALL := hid hall
    clear hall
    by_cases hlt : k < l.length
    · obtain ⟨b, o, rfl⟩ := HV.out.addr (by omega)
      have hc0 := HV.out.lit k hlt
      have HC := hid (HF.out l[k] (List.getElem_mem hlt))
      have HNX : Hid ((l.take (k + 1)).any p = p l[k]) := hid (by rw [List.take_succ_eq_append_getElem hlt, List.any_append, HALL.out]; simp)
      have HAN : Hid (p l[k] = true → l.any p = true) := hid fun h => List.any_eq_true.2 ⟨l[k], List.getElem_mem hlt, h⟩
      obtain ⟨x, hx⟩ : ∃ x, x = l[k] := ⟨_, rfl⟩
      rw [← hx] at hc0 HC HNX HAN
      clear hx
      go_wp2_with fail
      refine HC.out.mono ?_
      rintro e w2 ⟨rfl, hw2⟩
      subst hw2
      cases hp : p x with
      | true =>
        have HA := hid (HAN.out hp)
        clear hp
        go_wp2_with fail
        go_ret
        exact ⟨(k : Int), rfl, by rw [HA.out]; simp, rfl⟩
      | false =>
        have HN : Hid ((l.take (k + 1)).any p = false) := hid (by rw [HNX.out]; exact hp)
        clear hp
        go_wp2_with fail
        go_roundw
        case rel => exact ⟨k + 1, by go_num, by omega, HN.out, trivial⟩
        case measure => simp [intOf]; omega
    · obtain rfl : k = l.length := by omega
      rw [List.take_length] at HALL
      go_wp2
      go_ret
      exact ⟨-1, rfl, by rw [HALL.out]; decide, rfl⟩
set_option maxHeartbeats 800000 in
theorem containsT_any (F : FuncId) (caps : Array Value) (p : ByteArray → Bool) (v : Value) (l : List ByteArray) (w : World) (hef : Ent F) (hv : Strs w v l) (hl : l.length ≤ 1000000000)
    (hf : ∀ x ∈ l, Calls Tryz.prog F (#[.string x] ++ caps) w fun e w' => e = .returned (.bool (p x)) ∧ w' = w) :
    Calls Tryz.prog 84 #[v, .func (.func F) #[] caps] w fun e w' => e = .returned (.bool (l.any p)) ∧ w' = w := by
  have HI := hid (indexT_any F caps p v l w hef hv hl hf)
  obtain ⟨ao, cap, rfl⟩ := hv.shape
  clear hv hf hef
  go_enter Tryz.func84, Tryz.ntmps84
  go_wp2_with fail
  refine HI.out.mono ?_
  rintro e w2 ⟨r, rfl, hr, rfl⟩
  have HR := hid hr
  clear hr
  go_wp2_with fail
  go_ret
  exact ⟨by rw [← HR.out]; rfl, rfl⟩
/-- Are the client, its number and the blocks such as may be? -/
def mayAskB (c : CmdD) : Bool := decide (0 ≤ c.client) && decide (c.client < 4) && decide (1 ≤ c.seq) && decide (c.seq ≤ 1099511627776) && mayBeB (c.from', c.to) && decide (c.to - c.from' ≤ 16)
set_option maxRecDepth 100000 in
set_option maxHeartbeats 1600000 in
theorem mayAsk_any (c : CmdD) (ua : Option Addr) (un uc : Nat) (w : World) :
    Calls Tryz.prog 71 #[cmdV c (.slice ua un uc)] w fun e w' => e = .returned (.bool (mayAskB c)) ∧ Below w.heap.size w w' := by
  have B0 := hid ((Below.refl w.heap.size w).alloc (Nat.le_refl _) (cmdO c (.slice ua un uc)))
  have HN := hid (heap_alloc_new w (cmdO c (.slice ua un uc)))
  obtain ⟨r, hr⟩ : ∃ r, r = mayAskB c := ⟨_, rfl⟩
  rw [← hr]
  obtain ⟨o, cl, s, f, t, d⟩ := c
  unfold mayAskB at hr
  unfold cmdO at B0 HN
  unfold cmdV
  simp only at hr B0 HN ⊢
  have HSP := hid (fun W => spanOf_any ⟨o, cl, s, f, t, d⟩ ua un uc W)
  unfold cmdV at HSP
  simp only at HSP
  cases h1 : decide (0 ≤ cl)
  case' true => cases h2 : decide (cl < 4)
  case' true.true => cases h3 : decide (1 ≤ s)
  case' true.true.true => cases h4 : decide (s ≤ 1099511627776)
  case' true.true.true.true => cases h5 : mayBeB (f, t)
  all_goals
    simp only [*, Bool.true_and, Bool.false_and, Bool.and_true] at hr
  case true.true.true.true.true =>
    have hfb : 0 ≤ f ∧ t ≤ 256 ∧ f < t := by unfold mayBeB at h5; simp at h5; omega
    have hwr : IntKind.i64.wrap (t - f) = t - f := IntWalk.i64_in _ ⟨by omega, by omega⟩
    have HR := hid hr
    have hI1 : 0 ≤ cl := of_decide_eq_true h1
    clear hr hfb
    go_enter Tryz.func71, Tryz.ntmps71
    go_wp2_with (first | (go_at_call 60; refine (HSP.out _).mono ?_; rintro e w1 ⟨rfl, hb1⟩; have hk := (hb1.block w.heap.size (by simp)).trans HN.out; have c3 : w1.cell? ⟨w.heap.size, 3, none⟩ = some (.int .i64 f) := (by rw [cell_of_row _ _ _ _ _ _ hk]; rfl); have c4 : w1.cell? ⟨w.heap.size, 4, none⟩ = some (.int .i64 t) := (by rw [cell_of_row _ _ _ _ _ _ hk]; rfl); have B1 := hid (B0.out.trans (hb1.mono B0.out.size)); have K1 := hid hk; clear hb1 hk) | (go_at_call 81; refine (mayBe_any (f, t) _).mono ?_; rintro e w2 ⟨rfl, hb2⟩; rw [h5]; have hk2 := (hb2.block w.heap.size (lt_of_block K1.out)).trans K1.out; have d3 : w2.cell? ⟨w.heap.size, 3, none⟩ = some (.int .i64 f) := (by rw [cell_of_row _ _ _ _ _ _ hk2]; rfl); have d4 : w2.cell? ⟨w.heap.size, 4, none⟩ = some (.int .i64 t) := (by rw [cell_of_row _ _ _ _ _ _ hk2]; rfl); have B2 := hid (B1.out.trans (hb2.mono B1.out.size)); clear hb2 hk2 c3 c4))
    go_ret
    exact ⟨by rw [HR.out]; rfl, B2.out⟩
  case true.true.true.true.false =>
    have HR := hid hr
    clear hr
    go_enter Tryz.func71, Tryz.ntmps71
    go_wp2_with (first | (go_at_call 60; refine (HSP.out _).mono ?_; rintro e w1 ⟨rfl, hb1⟩; have hk := (hb1.block w.heap.size (by simp)).trans HN.out; have c3 : w1.cell? ⟨w.heap.size, 3, none⟩ = some (.int .i64 f) := (by rw [cell_of_row _ _ _ _ _ _ hk]; rfl); have c4 : w1.cell? ⟨w.heap.size, 4, none⟩ = some (.int .i64 t) := (by rw [cell_of_row _ _ _ _ _ _ hk]; rfl); have B1 := hid (B0.out.trans (hb1.mono B0.out.size)); have K1 := hid hk; clear hb1 hk) | (go_at_call 81; refine (mayBe_any (f, t) _).mono ?_; rintro e w2 ⟨rfl, hb2⟩; rw [h5]; have hk2 := (hb2.block w.heap.size (lt_of_block K1.out)).trans K1.out; have d3 : w2.cell? ⟨w.heap.size, 3, none⟩ = some (.int .i64 f) := (by rw [cell_of_row _ _ _ _ _ _ hk2]; rfl); have d4 : w2.cell? ⟨w.heap.size, 4, none⟩ = some (.int .i64 t) := (by rw [cell_of_row _ _ _ _ _ _ hk2]; rfl); have B2 := hid (B1.out.trans (hb2.mono B1.out.size)); clear hb2 hk2 c3 c4))
    go_ret
    exact ⟨by rw [HR.out]; rfl, B2.out⟩
  all_goals
    have HR := hid hr
    clear hr HSP
    go_enter Tryz.func71, Tryz.ntmps71
    go_wp2_with fail
    go_ret
    exact ⟨by rw [HR.out]; rfl, B0.out⟩
/-- Has it the texts that it must have? -/
def mayCarryB (c : CmdD) : Bool := if c.op = 2 then decide ((c.data.length : Int) = c.to - c.from') && !c.data.any (fun s => !isTextB s) else c.data.length == 0
set_option maxRecDepth 100000 in
set_option maxHeartbeats 1600000 in
theorem mayCarry_any (c : CmdD) (u : Value) (w : World) (hu : Strs w u c.data) (hl : c.data.length ≤ 1000000000) (hs : ∀ s ∈ c.data, (s.size : Int) ≤ 9223372036854775807) (hf : 0 ≤ c.from') (ht : c.to ≤ 256) (hft : c.from' < c.to) :
    Calls Tryz.prog 72 #[cmdV c u] w fun e w' => e = .returned (.bool (mayCarryB c)) ∧ Below w.heap.size w w' := by
  have bA : Below w.heap.size w (w.alloc (cmdO c u)) := (Below.refl _ _).alloc (Nat.le_refl _) _
  have B0 := hid bA
  have HU := hid (hu.below bA)
  have HS := hid hs
  obtain ⟨ua, uc, rfl⟩ := hu.shape
  obtain ⟨r, hr⟩ : ∃ r, r = mayCarryB c := ⟨_, rfl⟩
  rw [← hr]
  obtain ⟨o, cl, s, f, t, d⟩ := c
  unfold mayCarryB at hr
  unfold cmdO at B0 HU
  unfold cmdV
  simp only at hr B0 HU HS hf ht hft hl ⊢
  have hlI : (d.length : Int) ≤ 1000000000 := by omega
  have hwr : IntKind.i64.wrap (t - f) = t - f := IntWalk.i64_in _ ⟨by omega, by omega⟩
  clear hu hs bA
  by_cases h2 : o = 2
  · rw [if_pos h2] at hr
    have ho : (o != 2) = false := by simp [h2]
    by_cases h3 : (d.length : Int) = t - f
    · have h3' : ((d.length : Int) == t - f) = true := by simpa using h3
      rw [decide_eq_true h3, Bool.true_and] at hr
      have HR := hid hr
      clear hr h2 h3
      go_enter Tryz.func72, Tryz.ntmps72
      go_wp2_with (first | (go_at_call 84; refine (containsT_any 82 #[] (fun s => !isTextB s) _ d _ ent_noText HU.out hl (fun x hx => noText_any x _ (HS.out x hx))).mono ?_; rintro e w1 ⟨rfl, rfl⟩))
      go_ret
      exact ⟨by rw [HR.out]; rfl, B0.out⟩
    · have h3' : ((d.length : Int) == t - f) = false := by simpa using h3
      rw [decide_eq_false h3, Bool.false_and] at hr
      have HR := hid hr
      clear hr h2 h3
      go_enter Tryz.func72, Tryz.ntmps72
      go_wp2_with fail
      go_ret
      exact ⟨by rw [HR.out]; rfl, B0.out⟩
  · rw [if_neg h2] at hr
    have ho : (o != 2) = true := by simpa using h2
    have HR := hid hr
    clear hr h2
    go_enter Tryz.func72, Tryz.ntmps72
    go_wp2_with fail
    go_ret
    refine ⟨?_, B0.out⟩
    rw [HR.out]
    have e : ((d.length : Int) == 0) = (d.length == 0) := by
      cases hd : d.length == 0
      · simp at hd ⊢; exact hd
      · simp at hd ⊢; exact hd
    first | rfl | (rw [← e]; rfl) | simp
/-- May it be a command? -/
def mayB (c : CmdD) : Bool := if c.op = 0 ∨ c.op = 5 then c.client == 0 && c.seq == 0 && c.from' == 0 && c.to == 0 && c.data.length == 0 else if isClB c.op = true then mayAskB c && mayCarryB c else false
theorem mayAsk_span {c : CmdD} (h : mayAskB c = true) : 0 ≤ c.from' ∧ c.to ≤ 256 ∧ c.from' < c.to := by
  unfold mayAskB mayBeB at h
  simp at h
  omega
/-- What is asked of a command, all of it. -/
structure CmdOk (w : World) (c : CmdD) (u : Value) : Prop where
  u : Strs w u c.data
  l : c.data.length ≤ 1000000000
  s : ∀ s ∈ c.data, (s.size : Int) ≤ 9223372036854775807
theorem CmdOk.below {w w' : World} {c : CmdD} {u : Value} (h : CmdOk w c u) (hb : Below w.heap.size w w') : CmdOk w' c u := ⟨h.u.below hb, h.l, h.s⟩
set_option maxRecDepth 100000 in
set_option maxHeartbeats 3200000 in
theorem may_any (c : CmdD) (u : Value) (w : World) (hu : CmdOk w c u) :
    Calls Tryz.prog 53 #[cmdV c u] w fun e w' => e = .returned (.bool (mayB c)) ∧ Below w.heap.size w w' := by
  have bA : Below w.heap.size w (w.alloc (cmdO c u)) := (Below.refl _ _).alloc (Nat.le_refl _) _
  have B0 := hid bA
  have HU := hid (hu.below bA)
  have HN := hid (heap_alloc_new w (cmdO c u))
  obtain ⟨ua, uc, rfl⟩ := hu.u.shape
  obtain ⟨r, hr⟩ : ∃ r, r = mayB c := ⟨_, rfl⟩
  rw [← hr]
  have HA := hid (fun W => mayAsk_any c ua c.data.length uc W)
  have HCY : Hid (∀ W, Below (w.alloc (cmdO c (.slice ua c.data.length uc))).heap.size (w.alloc (cmdO c (.slice ua c.data.length uc))) W → mayAskB c = true → Calls Tryz.prog 72 #[cmdV c (.slice ua c.data.length uc)] W fun e w' => e = .returned (.bool (mayCarryB c)) ∧ Below W.heap.size W w') := hid fun W hW ha => by
    obtain ⟨h1, h2, h3⟩ := mayAsk_span ha
    exact mayCarry_any c _ W (HU.out.below hW).u hu.l hu.s h1 h2 h3
  unfold mayB at hr
  generalize hma : mayAskB c = ma at *
  generalize hmc : mayCarryB c = mc at *
  clear hma hmc
  have hl := hu.l
  obtain ⟨o, cl, s, f, t, d⟩ := c
  unfold cmdO cmdV at *
  simp only at hr B0 HU HN HA HCY hl ⊢
  have hlI : (d.length : Int) ≤ 1000000000 := by omega
  have e5 : ((d.length : Int) == 0) = (d.length == 0) := by
    cases hd : d.length == 0
    · simp at hd ⊢; exact hd
    · simp at hd ⊢; exact hd
  clear hu bA
  by_cases h0 : o = 0 ∨ o = 5
  · rw [if_pos h0] at hr
    have HR := hid hr
    have hoo : ((o == 0) = true) ∨ ((o == 0) = false ∧ (o == 5) = true) := by
      by_cases h : o = 0
      · exact .inl (by simpa using h)
      · exact .inr ⟨by simpa using h, by simp; omega⟩
    clear hr h0
    generalize hdl : (d.length == 0) = dl at *
    cases k1 : (cl == 0)
    case' true => cases k2 : (s == 0)
    case' true.true => cases k3 : (f == 0)
    case' true.true.true => cases k4 : (t == 0)
    all_goals
      simp only [*, Bool.true_and, Bool.false_and, Bool.and_true] at HR
      rcases hoo with hoo | ⟨hoo, hoo2⟩
      all_goals
        go_enter Tryz.func53, Tryz.ntmps53
        go_wp2_with fail
        go_ret
        refine ⟨?_, B0.out⟩
        have h := HR.out
        simp_all
  · rw [if_neg h0] at hr
    have g0 : (o == 0) = false := by simp; omega
    have g5 : (o == 5) = false := by simp; omega
    clear h0
    cases hcl : isClB o with
    | false =>
      rw [hcl] at hr
      have HR := hid hr
      clear hr
      go_enter Tryz.func53, Tryz.ntmps53
      go_wp2_with (first | (go_at_call 70; refine (isClients_any o _).mono ?_; rintro e w1 ⟨rfl, rfl⟩; rw [hcl]))
      go_ret
      exact ⟨by rw [HR.out]; rfl, B0.out⟩
    | true =>
      rw [hcl] at hr
      simp only [if_true] at hr
      have HR := hid hr
      clear hr
      cases ma with
      | false =>
        go_enter Tryz.func53, Tryz.ntmps53
        go_wp2_with (first | (go_at_call 70; refine (isClients_any o _).mono ?_; rintro e w1 ⟨rfl, rfl⟩; rw [hcl]) | (go_at_call 71; refine (HA.out _).mono ?_; rintro e w2 ⟨rfl, hb2⟩; have B2 := hid (B0.out.trans (hb2.mono B0.out.size)); clear hb2))
        go_ret
        exact ⟨by rw [HR.out]; rfl, B2.out⟩
      | true =>
        go_enter Tryz.func53, Tryz.ntmps53
        go_wp2_with (first | (go_at_call 70; refine (isClients_any o _).mono ?_; rintro e w1 ⟨rfl, rfl⟩; rw [hcl]) | (go_at_call 71; refine (HA.out _).mono ?_; rintro e w2 ⟨rfl, hb2⟩; have hk := (hb2.block w.heap.size (by simp)).trans HN.out; have c0 : w2.cell? ⟨w.heap.size, 0, none⟩ = some (.int .i64 o) := (by rw [cell_of_row _ _ _ _ _ _ hk]; rfl); have c1 : w2.cell? ⟨w.heap.size, 1, none⟩ = some (.int .i64 cl) := (by rw [cell_of_row _ _ _ _ _ _ hk]; rfl); have c2 : w2.cell? ⟨w.heap.size, 2, none⟩ = some (.int .i64 s) := (by rw [cell_of_row _ _ _ _ _ _ hk]; rfl); have c3 : w2.cell? ⟨w.heap.size, 3, none⟩ = some (.int .i64 f) := (by rw [cell_of_row _ _ _ _ _ _ hk]; rfl); have c4 : w2.cell? ⟨w.heap.size, 4, none⟩ = some (.int .i64 t) := (by rw [cell_of_row _ _ _ _ _ _ hk]; rfl); have c5 : w2.cell? ⟨w.heap.size, 5, none⟩ = some (.slice ua d.length uc) := (by rw [cell_of_row _ _ _ _ _ _ hk]; rfl); have B2 := hid hb2; clear hb2 hk) | (go_at_call 72; refine (HCY.out _ B2.out (by trivial)).mono ?_; rintro e w3 ⟨rfl, hb3⟩; have B3 := hid (B0.out.trans ((B2.out.trans (hb3.mono B2.out.size)).mono B0.out.size)); clear hb3 c0 c1 c2 c3 c4 c5))
        go_ret
        exact ⟨by rw [HR.out]; rfl, B3.out⟩
end Go.Proofs.YthhcpoafnmhnhaaGreat
