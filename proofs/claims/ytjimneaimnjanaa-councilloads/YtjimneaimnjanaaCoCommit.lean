/- commit: what a majority has is told. Conditions: no node's log is known to go further than its own. -/
import Derived.Test.YtjimneaimnjanaaCoAlone
import Derived.Deep.DeepCutAuto
namespace Go.Proofs.Ytjimneaimnjanaa
open Go.RowKit
set_option linter.unusedVariables false
set_option linter.unusedSimpArgs false

theorem vRow_node {s : ByteArray} {x : Int} (h : x ∈ vRow s) : 0 ≤ x ∧ x < 7 := by
  unfold vRow at h
  split at h
  · rename_i hv
    obtain ⟨j, hj, rfl⟩ := List.getElem_of_mem h
    exact vot_at hv j hj
  · cases h
/-- Is i further than m, of its own term, and do more than half go so far? -/
def comB (D : CoD) (m i : Int) : Bool := decide (m < i) && decide (tUp D (i - D.bi).toNat = D.term) && majB (vRow (vNow D)) (fun v => decide (i ≤ reachN D v.toNat))
def comS (D : CoD) (m : Int) (x : Int) : Int := if comB D m (reachN D x.toNat) then reachN D x.toNat else m
/-- Up to where a majority has it, by the first n voters' logs; by all. -/
def comT (D : CoD) (n : Nat) : Int := ((vRow (vNow D)).take n).foldl (comS D) D.told
def comN (D : CoD) : Int := comT D (vRow (vNow D)).length
theorem comT_succ (D : CoD) (n : Nat) (h : n < (vRow (vNow D)).length) : comT D (n + 1) = comS D (comT D n) (vRow (vNow D))[n] := by
  unfold comT; rw [List.take_succ_eq_append_getElem h, List.foldl_append]; rfl
/-- Numbers that may be committed. -/
structure ComI (D : CoD) : Prop where
  i : CoI D
  lo : D.bi ≤ D.told
  hi : D.told ≤ D.bi + D.log.length
  mt : ∀ n, n < 7 → D.mt n ≤ D.bi + D.log.length
theorem ComI.reach {D : CoD} (h : ComI D) (n : Nat) (hn : n < 7) : reachN D n ≤ D.bi + D.log.length := by
  unfold reachN; split
  · exact Int.le_refl _
  · exact h.mt n hn
theorem ComI.com {D : CoD} (h : ComI D) (n : Nat) (hn : n ≤ (vRow (vNow D)).length) : D.told ≤ comT D n ∧ comT D n ≤ D.bi + D.log.length := by
  induction n with
  | zero => exact ⟨Int.le_refl _, h.hi⟩
  | succ n ih =>
    have := ih (by omega)
    rw [comT_succ D n (by omega)]
    unfold comS
    split
    · rename_i hb
      have hx := vRow_node (List.getElem_mem (l := vRow (vNow D)) (show n < _ by omega))
      unfold comB at hb
      simp only [Bool.and_eq_true, decide_eq_true_eq] at hb
      exact ⟨by omega, h.reach _ (by omega)⟩
    · exact this
theorem vUp_eq {D D' : CoD} (h1 : D'.bv = D.bv) (h2 : D'.log = D.log) (n : Nat) : vUp D' n = vUp D n := by
  induction n with
  | zero => exact h1
  | succ n ih => simp only [vUp, h2, ih]
/-- What commit leaves. -/
def comD (D : CoD) : CoD := if namesB (vUp D (comN D - D.bi).toNat) D.self then tlD D (comN D - D.told).toNat else unseatD (tlD D (comN D - D.told).toNat)
def comE (D : CoD) : CoD := if comN D = D.told then D else comD D
def comW (D : CoD) (W : WdD) : WdD := tlW D W (comN D - D.told).toNat
theorem CStep.pre {w w1 w2 : World} {b wb : Nat} {lv ms ns : Value} {D : CoD} {W : WdD} (hb : Below w.heap.size w w1) (k : CStep w1 b wb lv ms ns w2 D W) : CStep w b wb lv ms ns w2 D W := by
  obtain ⟨lv2, ms2, ns2, hc2, hw2, hb2, m1, m2, m3⟩ := k
  exact ⟨lv2, ms2, ns2, hc2, hw2, (Bt.of_below hb).trans hb2 (fun q hq => .inl hq), (Nw.refl w lv).trans m1 hb.size, (Nw.refl w ms).trans m2 hb.size, (Nw.refl w ns).trans m3 hb.size⟩
theorem CStep.post {w w1 w2 : World} {b wb : Nat} {lv ms ns : Value} {D : CoD} {W : WdD} (k : CStep w b wb lv ms ns w1 D W) (hb : Below w1.heap.size w1 w2) : CStep w b wb lv ms ns w2 D W :=
  k.trans fun _ _ _ h1 h2 => CStep.of_below h1 h2 hb
/-- A call that turns nothing but the council's block. -/
theorem CStep.own {w w1 : World} {b wb : Nat} {lv ms ns : Value} {D D' : CoD} {W : WdD} (k : Wd w wb ms ns W) (h1 : Co w1 0 b lv D') (h2 : Bt (fun q => q = b) w w1) (h3 : ∀ wb ms ns W, Wd w wb ms ns W → Wd w1 wb ms ns W) : CStep w b wb lv ms ns w1 D' W :=
  ⟨lv, ms, ns, h1, h3 _ _ _ _ k, ⟨h2.os, h2.tape, h2.output, h2.size, fun q hq hn => h2.block q hq fun e => hn (.inl e)⟩, .refl _ _, .refl _ _, .refl _ _⟩
set_option maxRecDepth 100000 in
set_option maxHeartbeats 8000000 in
theorem commit_any (b wb : Nat) (lv ms ns : Value) (D : CoD) (W : WdD) (w : World) (h : Co w 0 b lv D) (k : Wd w wb ms ns W) (hi : ComI D) (hs : (vNow D).size ≤ 999999) (h0 : 0 ≤ D.self) (h1 : D.self ≤ 255) (hnw : W.news.length + D.log.length ≤ 999999) :
    Calls Try.prog 68 #[.pointer (some ⟨b, 0, none⟩), .pointer (some ⟨wb, 0, none⟩)] w fun e w' => e = .returned (.tuple #[]) ∧ CStep w b wb lv ms ns w' (comE D) (comW D W) := by
  have H := hid h
  have K0 := hid k
  have HI := hid hi
  have HSZ := hid hs
  have hl9 : (vRow (vNow D)).length ≤ 999999 := by rw [vRow_len]; split <;> omega
  have hlo := hi.i.lo
  have hhi := hi.i.hi
  have hll := hi.i.len
  have htl := hi.lo
  have hth := hi.hi
  clear h k hi hs
  obtain ⟨L, hL⟩ : ∃ L, L = vRow (vNow D) := ⟨_, rfl⟩
  have HC := hid (fun W (hW : Co W 0 b lv D) => cvoters_any 0 b lv D W hW HI.out.i HSZ.out)
  have HLV := hid hL
  rw [← hL] at HC hl9
  clear hL
  have b1 : Below w.heap.size w (w.alloc (.cells #[.pointer (some ⟨b, 0, none⟩)] 23)) := (Below.refl _ _).alloc (Nat.le_refl _) _
  have c10 : (w.alloc (.cells #[.pointer (some ⟨b, 0, none⟩)] 23)).cell? ⟨b, 10, none⟩ = some (.int .i64 D.told) := (H.out.below b1).cell 10
  have B1 := hid b1
  have hhA : (w.alloc (.cells #[.pointer (some ⟨b, 0, none⟩)] 23)).heap[w.heap.size]? = some (.cells #[.pointer (some ⟨b, 0, none⟩)] 23 (0, 0)) := heap_alloc_new _ _
  have HHA := hid hhA
  have hA : (w.alloc (.cells #[.pointer (some ⟨b, 0, none⟩)] 23)).cell? ⟨w.heap.size, 0, none⟩ = some (.pointer (some ⟨b, 0, none⟩)) := by rw [cell_of_row _ _ _ _ _ _ hhA]; rfl
  clear hhA
  clear b1
  obtain ⟨w1, hw1⟩ : ∃ w1, w1 = w.alloc (.cells #[.pointer (some ⟨b, 0, none⟩)] 23) := ⟨_, rfl⟩
  go_enter Try.func68, Try.ntmps68
  go_upto_region 1 with fail
  rw [← hw1] at c10 B1 hA HHA
  rw [← hw1]
  obtain ⟨A, hAe⟩ : ∃ A, A = w.heap.size := ⟨_, rfl⟩
  rw [← hAe] at hA HHA
  rw [← hAe]
  have HAE := hid hAe
  clear hw1 hAe
  have HA1 := hid hA
  go_wp2_with (go_at_call 19; refine (HC.out _ (H.out.below B1.out)).mono ?_; rintro e w5 ⟨v5, rfl, hb5, ho5⟩; obtain ⟨va5, vc5, rfl⟩ := own_shape ho5; have B5 := hid (B1.out.trans (hb5.mono B1.out.size)); have N5 := hid (nums_own ho5 rfl); have HA5 := hid (cell_later hb5 HA1.out); have HHA5 := hid ((hb5.block A (lt_of_block HHA.out)).trans HHA.out); clear hb5 ho5)
  clear c10 hA
  go_loopw [4, 6, 7, 15] (fun mv _ _ iv wr => ∃ i : Nat, iv = .int .i64 i ∧ i ≤ L.length ∧ mv = .int .i64 (comT D i) ∧ Below w5.heap.size w5 wr) (fun _ _ _ iv _ => L.length - (intOf iv).toNat)
  case atStart => exact ⟨0, rfl, Nat.zero_le _, rfl, Below.refl _ _⟩
  case round =>
    obtain ⟨i, rfl, hi, rfl, hb⟩ := hrel
    have B := hid hb
    clear hb
    have hcm := HI.out.com i (by rw [← HLV.out]; exact hi)
    by_cases hlt : (i : Int) < (L.length : Int)
    · have hil : i < L.length := by omega
      have hx : 0 ≤ L[i] ∧ L[i] < 7 := vRow_node (s := vNow D) (by rw [← HLV.out]; exact List.getElem_mem hil)
      have HNR := hid (N5.out.below B.out)
      obtain ⟨gd, od, rfl⟩ := HNR.out.addr (by omega)
      have c0 := HNR.out.lit i hil
      have hnx : comT D (i + 1) = comS D (comT D i) L[i] := by
        have := comT_succ D i (by rw [← HLV.out]; exact hil)
        rw [this]; congr 1; simp only [HLV.out]
      generalize L[i] = x at *
      obtain ⟨n, rfl⟩ : ∃ n : Nat, x = (n : Int) := ⟨x.toNat, by omega⟩
      have hr := HI.out.reach n (by omega)
      have HRE := hid (fun Y (hY : Co Y 0 b lv D) => reach_any 0 b lv D n Y hY HI.out.i (by omega))
      obtain ⟨r, hre⟩ : ∃ r, r = reachN D n := ⟨_, rfl⟩
      unfold comS at hnx
      rw [Int.toNat_natCast, ← hre] at hnx
      rw [← hre] at HRE hr
      clear hre
      have HNX := hid hnx
      clear hnx
      generalize comT D i = m at *
      have HBR := hid (B5.out.trans (B.out.mono B5.out.size))
      have HR := hid (H.out.below HBR.out)
      have cA : wr.cell? ⟨A, 0, none⟩ = some (.pointer (some ⟨b, 0, none⟩)) := cell_later B.out HA5.out
      go_upto_region 6 with (go_at_call 105; refine (HRE.out _ HR.out).mono ?_; rintro e w6 ⟨rfl, m6, rfl⟩; have hI : ((wr.drewN m6).alloc (.cells #[.int .i64 0] 3)).heap[wr.heap.size]? = some (.cells #[.int .i64 0] 3 (0, 0)) := heap_alloc_new (wr.drewN m6) _; have ci : ((wr.drewN m6).alloc (.cells #[.int .i64 0] 3)).cell? ⟨wr.heap.size, 0, none⟩ = some (.int .i64 0) := (by rw [cell_of_row _ _ _ _ _ _ hI]; rfl); have fi : ((wr.drewN m6).alloc (.cells #[.int .i64 0] 3)).frozen? ⟨wr.heap.size, 0, none⟩ = false := (by simp only [World.frozen?]; rw [hI]; rfl); have HII := hid hI; clear hI)
      obtain ⟨w2, hw2⟩ : ∃ w2, w2 = ((wr.drewN m6).alloc (.cells #[.int .i64 0] 3)).setCell ⟨wr.heap.size, 0, none⟩ (.int .i64 r) := ⟨_, rfl⟩
      have hb2 : Below wr.heap.size wr w2 := by
        rw [hw2]
        have h1 : Below wr.heap.size wr ((wr.drewN m6).alloc (.cells #[.int .i64 0] 3)) := (belowN wr m6).trans ((Below.refl wr.heap.size (wr.drewN m6)).alloc (Nat.le_refl _) _)
        exact ⟨h1.os, h1.tape, h1.output, by simp, fun q hq => (Below.heap_setCell _ ⟨wr.heap.size, 0, none⟩ _ q (show q ≠ wr.heap.size by omega)).trans (h1.block q hq)⟩
      have hI2 : w2.heap[wr.heap.size]? = some (.cells #[.int .i64 r] 3 (0, 0)) := by rw [hw2]; exact heap_setCell_same _ _ _ _ _ _ HII.out
      rw [← hw2]
      clear hw2 ci fi HII
      obtain ⟨I, hIe⟩ : ∃ I, I = wr.heap.size := ⟨_, rfl⟩
      rw [← hIe] at hI2
      rw [← hIe]
      clear hIe
      have B2 := hid (B.out.trans (hb2.mono B.out.size))
      have H2 := hid (HR.out.below hb2)
      have hc2 := cell_later hb2 cA
      have hi2 : w2.cell? ⟨I, 0, none⟩ = some (.int .i64 r) := by rw [cell_of_row _ _ _ _ _ _ hI2]; rfl
      have ht2 : w2.cell? ⟨b, 1, none⟩ = some (.int .i64 D.term) := H2.out.cell 1
      have HI2 := hid hI2
      clear hI2 hb2 cA c0
      by_cases hA : m < r
      · obtain ⟨k, rfl⟩ : ∃ k : Nat, r = D.bi + (k : Int) := ⟨(r - D.bi).toNat, by omega⟩
        have hkl : k ≤ D.log.length := by omega
        by_cases hT : tUp D k = D.term
        · have HF : Hid (∀ W, Below w2.heap.size w2 W → ∀ x ∈ vRow (vNow D), Calls Try.prog 107 (#[.int .i64 x] ++ #[.pointer (some ⟨A, 0, none⟩), .pointer (some ⟨I, 0, none⟩)]) W fun e w' => e = .returned (.bool (decide (D.bi + (k : Int) ≤ reachN D x.toNat))) ∧ ∃ m, w' = W.drewN m) := hid fun W hW x hx => by
            obtain ⟨hx0, hx7⟩ := vRow_node hx
            have := commit1_any 0 b A I (D.bi + (k : Int)) lv D x.toNat W (H2.out.below hW) HI.out.i (cell_later hW hc2) (cell_later hW hi2) (by omega)
            rw [Int.toNat_of_nonneg hx0] at this
            exact this
          have hcb : comB D m (D.bi + (k : Int)) = majB (vRow (vNow D)) (fun v => decide (D.bi + (k : Int) ≤ reachN D v.toNat)) := by
            unfold comB
            rw [decide_eq_true hA, show (D.bi + (k : Int) - D.bi).toNat = k by omega, decide_eq_true hT]; rfl
          obtain ⟨mj, hmj⟩ : ∃ mj, majB (vRow (vNow D)) (fun v => decide (D.bi + (k : Int) ≤ reachN D v.toNat)) = mj := ⟨_, rfl⟩
          have HM := hid hmj
          have HN : Hid (comT D (i + 1) = if mj then D.bi + (k : Int) else m) := hid (by rw [HNX.out, hcb, hmj])
          clear hcb hmj
          refine wp_region_held_drew (S := fun Y => Y.cell? ⟨A, 0, none⟩ = some (.pointer (some ⟨b, 0, none⟩)) ∧ Y.cell? ⟨I, 0, none⟩ = some (.int .i64 (D.bi + (k : Int))) ∧ Y.cell? ⟨b, 1, none⟩ = some (.int .i64 D.term)) (by kernel_rfl) ⟨hc2, hi2, ht2⟩ (fun hHeld => ?_)
          refine wpAnyH_take (i := 0) (v := ?av0) rfl (by kernel_rfl) (by kernel_rfl) (by kernel_rfl) (fun _ _ _ h => h) (Or.inl ⟨by rfl, ?ay0⟩) (by assumption) ?ar0
          case ay0 => (intro w hSw; (try dsimp only at hSw); go_simp; try with_reducible rfl)
          (try simp only [Act.put, List.setIfInBounds_toArray, List.set_cons_zero, List.set_cons_succ, List.getElem_toArray, List.getElem_cons_succ, List.getElem_cons_zero])
          refine wpAnyH_take (i := 1) (v := ?av1) rfl (by kernel_rfl) (by kernel_rfl) (by kernel_rfl) (fun _ _ _ h => h) (Or.inl ⟨by rfl, ?ay1⟩) (by assumption) ?ar1
          case ay1 => (intro w hSw; (try dsimp only at hSw); go_simp; try with_reducible rfl)
          (try simp only [Act.put, List.setIfInBounds_toArray, List.set_cons_zero, List.set_cons_succ, List.getElem_toArray, List.getElem_cons_succ, List.getElem_cons_zero])
          refine wpAnyH_take (i := 2) (v := ?av2) rfl (by kernel_rfl) (by kernel_rfl) (by kernel_rfl) (fun _ _ _ h => h) (Or.inl ⟨by rfl, ?ay2⟩) (by assumption) ?ar2
          case ay2 => (intro w hSw; (try dsimp only at hSw); go_simp; try with_reducible rfl)
          (try simp only [Act.put, List.setIfInBounds_toArray, List.set_cons_zero, List.set_cons_succ, List.getElem_toArray, List.getElem_cons_succ, List.getElem_cons_zero])
          refine wpAnyH_take (i := 3) (v := ?av3) rfl (by kernel_rfl) (by kernel_rfl) (by kernel_rfl) (fun _ _ _ h => h) (Or.inl ⟨by rfl, ?ay3⟩) (by assumption) ?ar3
          case ay3 => (intro w hSw; (try dsimp only at hSw); go_simp; try with_reducible rfl)
          (try simp only [Act.put, List.setIfInBounds_toArray, List.set_cons_zero, List.set_cons_succ, List.getElem_toArray, List.getElem_cons_succ, List.getElem_cons_zero])
          refine wpAnyH_take (i := 4) (v := ?av4) rfl (by kernel_rfl) (by kernel_rfl) (by kernel_rfl) (fun _ _ _ h => h) (Or.inl ⟨by rfl, ?ay4⟩) (by assumption) ?ar4
          case ay4 => (intro w hSw; (try dsimp only at hSw); go_simp; try with_reducible rfl)
          (try simp only [Act.put, List.setIfInBounds_toArray, List.set_cons_zero, List.set_cons_succ, List.getElem_toArray, List.getElem_cons_succ, List.getElem_cons_zero])
          refine wpAnyH_take (i := 5) (v := ?av5) rfl (by kernel_rfl) (by kernel_rfl) (by kernel_rfl) (fun _ _ _ h => h) (Or.inl ⟨by rfl, ?ay5⟩) (by assumption) ?ar5
          case ay5 => (intro w hSw; (try dsimp only at hSw); go_simp; try with_reducible rfl)
          (try simp only [Act.put, List.setIfInBounds_toArray, List.set_cons_zero, List.set_cons_succ, List.getElem_toArray, List.getElem_cons_succ, List.getElem_cons_zero])
          refine wpAnyH_take (i := 7) (v := ?av7) rfl (by kernel_rfl) (by kernel_rfl) (by kernel_rfl) (fun _ _ _ h => h) (Or.inl ⟨by rfl, ?ay7⟩) (by assumption) ?ar7
          case ay7 => (intro w hSw; (try dsimp only at hSw); go_simp; try with_reducible rfl)
          (try simp only [Act.put, List.setIfInBounds_toArray, List.set_cons_zero, List.set_cons_succ, List.getElem_toArray, List.getElem_cons_succ, List.getElem_cons_zero])
          refine wpAnyH_take (i := 8) (v := ?av8) rfl (by kernel_rfl) (by kernel_rfl) (by kernel_rfl) (fun _ _ _ h => h) (Or.inl ⟨by rfl, ?ay8⟩) (by assumption) ?ar8
          case ay8 => (intro w hSw; (try dsimp only at hSw); go_simp; try with_reducible rfl)
          (try simp only [Act.put, List.setIfInBounds_toArray, List.set_cons_zero, List.set_cons_succ, List.getElem_toArray, List.getElem_cons_succ, List.getElem_cons_zero])
          refine wpAnyH_take (i := 9) (v := ?av9) rfl (by kernel_rfl) (by kernel_rfl) (by kernel_rfl) (fun _ _ _ h => h) (Or.inl ⟨by rfl, ?ay9⟩) (by assumption) ?ar9
          case ay9 => (intro w hSw; (try dsimp only at hSw); go_simp; try with_reducible rfl)
          (try simp only [Act.put, List.setIfInBounds_toArray, List.set_cons_zero, List.set_cons_succ, List.getElem_toArray, List.getElem_cons_succ, List.getElem_cons_zero])
          refine wpAnyH_take (i := 10) (v := ?av10) rfl (by kernel_rfl) (by kernel_rfl) (by kernel_rfl) (fun _ _ _ h => h) (Or.inl ⟨by rfl, ?ay10⟩) (by assumption) ?ar10
          case ay10 => (intro w hSw; (try dsimp only at hSw); go_simp; try with_reducible rfl)
          (try simp only [Act.put, List.setIfInBounds_toArray, List.set_cons_zero, List.set_cons_succ, List.getElem_toArray, List.getElem_cons_succ, List.getElem_cons_zero])
          refine wpAnyH_ready (rs := [6]) (by kernel_rfl) (by simp) ?_
          refine AllReadyH.cons rfl (fun K hK => ?_) AllReadyH.nil
          rw [if_pos (by rfl)]
          go_simp
          refine (termAt_any 0 b lv D k _ (H2.out.below ((Below.refl _ _).drew)) HI.out.i hkl).mono ?_
          rintro e w3 ⟨rfl, m3, hw3⟩
          have B3 : Hid (Below w2.heap.size w2 w3) := hid (by rw [hw3]; exact ((Below.refl _ _).drew).trans (belowN w2.drew m3))
          clear hw3
          refine hK.out _ _ ⟨cell_later B3.out hc2, cell_later B3.out hi2, cell_later B3.out ht2⟩ (fun hHeld => ?_)
          try clear hK K
          (try simp only [Act.put, List.setIfInBounds_toArray, List.set_cons_zero, List.set_cons_succ, List.getElem_toArray, List.getElem_cons_succ, List.getElem_cons_zero])
          refine wpAnyH_take (i := 11) (v := ?av11) rfl (by kernel_rfl) (by kernel_rfl) (by kernel_rfl) (fun _ _ _ h => h) (Or.inl ⟨by rfl, ?ay11⟩) (by assumption) ?ar11
          case ay11 => (intro w hSw; (try dsimp only at hSw); go_simp; try with_reducible rfl)
          (try simp only [Act.put, List.setIfInBounds_toArray, List.set_cons_zero, List.set_cons_succ, List.getElem_toArray, List.getElem_cons_succ, List.getElem_cons_zero])
          refine wpAnyH_take (i := 12) (v := ?av12) rfl (by kernel_rfl) (by kernel_rfl) (by kernel_rfl) (fun _ _ _ h => h) (Or.inl ⟨by rfl, ?ay12⟩) (by assumption) ?ar12
          case ay12 => (intro w hSw; (try dsimp only at hSw); go_simp; try with_reducible rfl)
          (try simp only [Act.put, List.setIfInBounds_toArray, List.set_cons_zero, List.set_cons_succ, List.getElem_toArray, List.getElem_cons_succ, List.getElem_cons_zero])
          refine wpAnyH_take (i := 13) (v := ?av13) rfl (by kernel_rfl) (by kernel_rfl) (by kernel_rfl) (fun _ _ _ h => h) (Or.inl ⟨by rfl, ?ay13⟩) (by assumption) ?ar13
          case ay13 => (intro w hSw; (try dsimp only at hSw); go_simp; try with_reducible rfl)
          (try simp only [Act.put, List.setIfInBounds_toArray, List.set_cons_zero, List.set_cons_succ, List.getElem_toArray, List.getElem_cons_succ, List.getElem_cons_zero])
          refine wpAnyH_take (i := 14) (v := ?av14) rfl (by kernel_rfl) (by kernel_rfl) (by kernel_rfl) (fun _ _ _ h => h) (Or.inl ⟨by rfl, ?ay14⟩) (by assumption) ?ar14
          case ay14 => (intro w hSw; (try dsimp only at hSw); go_simp; try with_reducible rfl)
          (try simp only [Act.put, List.setIfInBounds_toArray, List.set_cons_zero, List.set_cons_succ, List.getElem_toArray, List.getElem_cons_succ, List.getElem_cons_zero])
          refine wpAnyH_take (i := 15) (v := ?av15) rfl (by kernel_rfl) (by kernel_rfl) (by kernel_rfl) (fun _ _ _ h => h) (Or.inl ⟨by rfl, ?ay15⟩) (by assumption) ?ar15
          case ay15 => (intro w hSw; (try dsimp only at hSw); go_simp; try with_reducible rfl)
          (try simp only [Act.put, List.setIfInBounds_toArray, List.set_cons_zero, List.set_cons_succ, List.getElem_toArray, List.getElem_cons_succ, List.getElem_cons_zero])
          refine wpAnyH_ready (rs := [16]) (by kernel_rfl) (by simp) ?_
          refine AllReadyH.cons rfl (fun K hK => ?_) AllReadyH.nil
          rw [if_pos (by rfl)]
          go_simp
          refine (majority_any 0 b lv D 107 _ (fun v => decide (D.bi + (k : Int) ≤ reachN D v.toNat)) w3 (H2.out.below B3.out) HI.out.i HSZ.out ent_commit (fun W hW x hx => HF.out W (B3.out.trans (hW.mono B3.out.size)) x hx)).mono ?_
          rintro e w4 ⟨rfl, hb4⟩
          have B4 : Hid (Below w2.heap.size w2 w4) := hid (B3.out.trans (hb4.mono B3.out.size))
          clear hb4
          rw [HM.out]
          refine hK.out _ _ ⟨cell_later B4.out hc2, cell_later B4.out hi2, cell_later B4.out ht2⟩ (fun hHeld => ?_)
          try clear hK K
          (try simp only [Act.put, List.setIfInBounds_toArray, List.set_cons_zero, List.set_cons_succ, List.getElem_toArray, List.getElem_cons_succ, List.getElem_cons_zero])
          refine wpAnyH_take (i := 17) (v := ?av17) rfl (by kernel_rfl) (by kernel_rfl) (by kernel_rfl) (fun _ _ _ h => h) (Or.inl ⟨by rfl, ?ay17⟩) (by assumption) ?ar17
          case ay17 => (intro w hSw; (try dsimp only at hSw); go_simp; try with_reducible rfl)
          (try simp only [Act.put, List.setIfInBounds_toArray, List.set_cons_zero, List.set_cons_succ, List.getElem_toArray, List.getElem_cons_succ, List.getElem_cons_zero])
          refine wpAnyH_done (by kernel_rfl) ?_ _
          have B24 := hid (B2.out.trans (B4.out.mono B2.out.size))
          clear hc2 hi2 ht2
          obtain ⟨hc2, hi2, ht2⟩ := hHeld
          cases mj with
          | true =>
            go_wp2_with fail
            go_roundw
            case rel => exact ⟨i + 1, by go_num, by omega, by rw [HN.out]; rfl, B24.out⟩
            case measure => simp [intOf]; omega
          | false =>
            go_wp2_with fail
            go_roundw
            case rel => exact ⟨i + 1, by go_num, by omega, by rw [HN.out]; rfl, B24.out⟩
            case measure => simp [intOf]; omega
        · have HN : Hid (comT D (i + 1) = m) := hid (by
            have hcb : comB D m (D.bi + (k : Int)) = false := by
              unfold comB
              rw [show (D.bi + (k : Int) - D.bi).toNat = k by omega, decide_eq_false hT]; simp
            rw [HNX.out, hcb]; rfl)
          refine wp_region_held_drew (S := fun Y => Y.cell? ⟨A, 0, none⟩ = some (.pointer (some ⟨b, 0, none⟩)) ∧ Y.cell? ⟨I, 0, none⟩ = some (.int .i64 (D.bi + (k : Int))) ∧ Y.cell? ⟨b, 1, none⟩ = some (.int .i64 D.term)) (by kernel_rfl) ⟨hc2, hi2, ht2⟩ (fun hHeld => ?_)
          have hTd : (tUp D k == D.term) = false := by simpa using hT
          refine wpAnyH_take (i := 0) (v := ?bv0) rfl (by kernel_rfl) (by kernel_rfl) (by kernel_rfl) (fun _ _ _ h => h) (Or.inl ⟨by rfl, ?by0⟩) (by assumption) ?br0
          case by0 => (intro w hSw; (try dsimp only at hSw); go_simp; try with_reducible rfl)
          (try simp only [Act.put, List.setIfInBounds_toArray, List.set_cons_zero, List.set_cons_succ, List.getElem_toArray, List.getElem_cons_succ, List.getElem_cons_zero])
          refine wpAnyH_take (i := 1) (v := ?bv1) rfl (by kernel_rfl) (by kernel_rfl) (by kernel_rfl) (fun _ _ _ h => h) (Or.inl ⟨by rfl, ?by1⟩) (by assumption) ?br1
          case by1 => (intro w hSw; (try dsimp only at hSw); go_simp; try with_reducible rfl)
          (try simp only [Act.put, List.setIfInBounds_toArray, List.set_cons_zero, List.set_cons_succ, List.getElem_toArray, List.getElem_cons_succ, List.getElem_cons_zero])
          refine wpAnyH_take (i := 2) (v := ?bv2) rfl (by kernel_rfl) (by kernel_rfl) (by kernel_rfl) (fun _ _ _ h => h) (Or.inl ⟨by rfl, ?by2⟩) (by assumption) ?br2
          case by2 => (intro w hSw; (try dsimp only at hSw); go_simp; try with_reducible rfl)
          (try simp only [Act.put, List.setIfInBounds_toArray, List.set_cons_zero, List.set_cons_succ, List.getElem_toArray, List.getElem_cons_succ, List.getElem_cons_zero])
          refine wpAnyH_take (i := 3) (v := ?bv3) rfl (by kernel_rfl) (by kernel_rfl) (by kernel_rfl) (fun _ _ _ h => h) (Or.inl ⟨by rfl, ?by3⟩) (by assumption) ?br3
          case by3 => (intro w hSw; (try dsimp only at hSw); go_simp; try with_reducible rfl)
          (try simp only [Act.put, List.setIfInBounds_toArray, List.set_cons_zero, List.set_cons_succ, List.getElem_toArray, List.getElem_cons_succ, List.getElem_cons_zero])
          refine wpAnyH_take (i := 4) (v := ?bv4) rfl (by kernel_rfl) (by kernel_rfl) (by kernel_rfl) (fun _ _ _ h => h) (Or.inl ⟨by rfl, ?by4⟩) (by assumption) ?br4
          case by4 => (intro w hSw; (try dsimp only at hSw); go_simp; try with_reducible rfl)
          (try simp only [Act.put, List.setIfInBounds_toArray, List.set_cons_zero, List.set_cons_succ, List.getElem_toArray, List.getElem_cons_succ, List.getElem_cons_zero])
          refine wpAnyH_take (i := 5) (v := ?bv5) rfl (by kernel_rfl) (by kernel_rfl) (by kernel_rfl) (fun _ _ _ h => h) (Or.inl ⟨by rfl, ?by5⟩) (by assumption) ?br5
          case by5 => (intro w hSw; (try dsimp only at hSw); go_simp; try with_reducible rfl)
          (try simp only [Act.put, List.setIfInBounds_toArray, List.set_cons_zero, List.set_cons_succ, List.getElem_toArray, List.getElem_cons_succ, List.getElem_cons_zero])
          refine wpAnyH_take (i := 7) (v := ?bv7) rfl (by kernel_rfl) (by kernel_rfl) (by kernel_rfl) (fun _ _ _ h => h) (Or.inl ⟨by rfl, ?by7⟩) (by assumption) ?br7
          case by7 => (intro w hSw; (try dsimp only at hSw); go_simp; try with_reducible rfl)
          (try simp only [Act.put, List.setIfInBounds_toArray, List.set_cons_zero, List.set_cons_succ, List.getElem_toArray, List.getElem_cons_succ, List.getElem_cons_zero])
          refine wpAnyH_take (i := 8) (v := ?bv8) rfl (by kernel_rfl) (by kernel_rfl) (by kernel_rfl) (fun _ _ _ h => h) (Or.inl ⟨by rfl, ?by8⟩) (by assumption) ?br8
          case by8 => (intro w hSw; (try dsimp only at hSw); go_simp; try with_reducible rfl)
          (try simp only [Act.put, List.setIfInBounds_toArray, List.set_cons_zero, List.set_cons_succ, List.getElem_toArray, List.getElem_cons_succ, List.getElem_cons_zero])
          refine wpAnyH_take (i := 9) (v := ?bv9) rfl (by kernel_rfl) (by kernel_rfl) (by kernel_rfl) (fun _ _ _ h => h) (Or.inl ⟨by rfl, ?by9⟩) (by assumption) ?br9
          case by9 => (intro w hSw; (try dsimp only at hSw); go_simp; try with_reducible rfl)
          (try simp only [Act.put, List.setIfInBounds_toArray, List.set_cons_zero, List.set_cons_succ, List.getElem_toArray, List.getElem_cons_succ, List.getElem_cons_zero])
          refine wpAnyH_take (i := 10) (v := ?bv10) rfl (by kernel_rfl) (by kernel_rfl) (by kernel_rfl) (fun _ _ _ h => h) (Or.inl ⟨by rfl, ?by10⟩) (by assumption) ?br10
          case by10 => (intro w hSw; (try dsimp only at hSw); go_simp; try with_reducible rfl)
          (try simp only [Act.put, List.setIfInBounds_toArray, List.set_cons_zero, List.set_cons_succ, List.getElem_toArray, List.getElem_cons_succ, List.getElem_cons_zero])
          refine wpAnyH_ready (rs := [6]) (by kernel_rfl) (by simp) ?_
          refine AllReadyH.cons rfl (fun K hK => ?_) AllReadyH.nil
          rw [if_pos (by rfl)]
          go_simp
          refine (termAt_any 0 b lv D k _ (H2.out.below ((Below.refl _ _).drew)) HI.out.i hkl).mono ?_
          rintro e w3 ⟨rfl, m3, hw3⟩
          have B3 : Hid (Below w2.heap.size w2 w3) := hid (by rw [hw3]; exact ((Below.refl _ _).drew).trans (belowN w2.drew m3))
          clear hw3
          refine hK.out _ _ ⟨cell_later B3.out hc2, cell_later B3.out hi2, cell_later B3.out ht2⟩ (fun hHeld => ?_)
          try clear hK K
          (try simp only [Act.put, List.setIfInBounds_toArray, List.set_cons_zero, List.set_cons_succ, List.getElem_toArray, List.getElem_cons_succ, List.getElem_cons_zero])
          refine wpAnyH_take (i := 11) (v := ?bv11) rfl (by kernel_rfl) (by kernel_rfl) (by kernel_rfl) (fun _ _ _ h => h) (Or.inl ⟨by rfl, ?by11⟩) (by assumption) ?br11
          case by11 => (intro w hSw; (try dsimp only at hSw); go_simp; try with_reducible rfl)
          (try simp only [Act.put, List.setIfInBounds_toArray, List.set_cons_zero, List.set_cons_succ, List.getElem_toArray, List.getElem_cons_succ, List.getElem_cons_zero])
          refine wpAnyH_take (i := 12) (v := ?bv12) rfl (by kernel_rfl) (by kernel_rfl) (by kernel_rfl) (fun _ _ _ h => h) (Or.inl ⟨by rfl, ?by12⟩) (by assumption) ?br12
          case by12 => (intro w hSw; (try dsimp only at hSw); go_simp; try with_reducible rfl)
          (try simp only [Act.put, List.setIfInBounds_toArray, List.set_cons_zero, List.set_cons_succ, List.getElem_toArray, List.getElem_cons_succ, List.getElem_cons_zero])
          refine wpAnyH_take (i := 13) (v := ?bv13) rfl (by kernel_rfl) (by kernel_rfl) (by kernel_rfl) (fun _ _ _ h => h) (Or.inl ⟨by rfl, ?by13⟩) (by assumption) ?br13
          case by13 => (intro w hSw; (try dsimp only at hSw); go_simp; try with_reducible rfl)
          (try simp only [Act.put, List.setIfInBounds_toArray, List.set_cons_zero, List.set_cons_succ, List.getElem_toArray, List.getElem_cons_succ, List.getElem_cons_zero])
          refine wpAnyH_take (i := 14) (v := undef) rfl (by kernel_rfl) (by kernel_rfl) (by kernel_rfl) (fun _ _ _ h => h) (Or.inr ⟨by rfl, rfl⟩) (by assumption) ?_
          (try simp only [Act.put, List.setIfInBounds_toArray, List.set_cons_zero, List.set_cons_succ, List.getElem_toArray, List.getElem_cons_succ, List.getElem_cons_zero])
          refine wpAnyH_take (i := 15) (v := undef) rfl (by kernel_rfl) (by kernel_rfl) (by kernel_rfl) (fun _ _ _ h => h) (Or.inr ⟨by rfl, rfl⟩) (by assumption) ?_
          (try simp only [Act.put, List.setIfInBounds_toArray, List.set_cons_zero, List.set_cons_succ, List.getElem_toArray, List.getElem_cons_succ, List.getElem_cons_zero])
          refine wpAnyH_take (i := 16) (v := undef) rfl (by kernel_rfl) (by kernel_rfl) (by kernel_rfl) (fun _ _ _ h => h) (Or.inr ⟨by rfl, rfl⟩) (by assumption) ?_
          (try simp only [Act.put, List.setIfInBounds_toArray, List.set_cons_zero, List.set_cons_succ, List.getElem_toArray, List.getElem_cons_succ, List.getElem_cons_zero])
          refine wpAnyH_take (i := 17) (v := ?bv17) rfl (by kernel_rfl) (by kernel_rfl) (by kernel_rfl) (fun _ _ _ h => h) (Or.inl ⟨by rfl, ?by17⟩) (by assumption) ?br17
          case by17 => (intro w hSw; (try dsimp only at hSw); go_simp; try with_reducible rfl)
          (try simp only [Act.put, List.setIfInBounds_toArray, List.set_cons_zero, List.set_cons_succ, List.getElem_toArray, List.getElem_cons_succ, List.getElem_cons_zero])
          refine wpAnyH_done (by kernel_rfl) ?_ _
          have B24 := hid (B2.out.trans (B3.out.mono B2.out.size))
          go_wp2_with fail
          go_roundw
          case rel => exact ⟨i + 1, by go_num, by omega, by rw [HN.out], B24.out⟩
          case measure => simp [intOf]; omega
      · have HN : Hid (comT D (i + 1) = m) := hid (by
          have hcb : comB D m r = false := by
            unfold comB
            rw [decide_eq_false hA]; rfl
          rw [HNX.out, hcb]; rfl)
        refine wp_region_held_drew (S := fun Y => Y.cell? ⟨A, 0, none⟩ = some (.pointer (some ⟨b, 0, none⟩)) ∧ Y.cell? ⟨I, 0, none⟩ = some (.int .i64 r) ∧ Y.cell? ⟨b, 1, none⟩ = some (.int .i64 D.term)) (by kernel_rfl) ⟨hc2, hi2, ht2⟩ (fun hHeld => ?_)
        have hAd : decide (m < r) = false := decide_eq_false hA
        refine wpAnyH_take (i := 0) (v := ?cv0) rfl (by kernel_rfl) (by kernel_rfl) (by kernel_rfl) (fun _ _ _ h => h) (Or.inl ⟨by rfl, ?cy0⟩) (by assumption) ?cr0
        case cy0 => (intro w hSw; (try dsimp only at hSw); go_simp; try with_reducible rfl)
        (try simp only [Act.put, List.setIfInBounds_toArray, List.set_cons_zero, List.set_cons_succ, List.getElem_toArray, List.getElem_cons_succ, List.getElem_cons_zero])
        refine wpAnyH_take (i := 1) (v := ?cv1) rfl (by kernel_rfl) (by kernel_rfl) (by kernel_rfl) (fun _ _ _ h => h) (Or.inl ⟨by rfl, ?cy1⟩) (by assumption) ?cr1
        case cy1 => (intro w hSw; (try dsimp only at hSw); go_simp; try with_reducible rfl)
        (try simp only [Act.put, List.setIfInBounds_toArray, List.set_cons_zero, List.set_cons_succ, List.getElem_toArray, List.getElem_cons_succ, List.getElem_cons_zero])
        refine wpAnyH_take (i := 2) (v := ?cv2) rfl (by kernel_rfl) (by kernel_rfl) (by kernel_rfl) (fun _ _ _ h => h) (Or.inl ⟨by rfl, ?cy2⟩) (by assumption) ?cr2
        case cy2 => (intro w hSw; (try dsimp only at hSw); go_simp; try with_reducible rfl)
        (try simp only [Act.put, List.setIfInBounds_toArray, List.set_cons_zero, List.set_cons_succ, List.getElem_toArray, List.getElem_cons_succ, List.getElem_cons_zero])
        refine wpAnyH_take (i := 3) (v := ?cv3) rfl (by kernel_rfl) (by kernel_rfl) (by kernel_rfl) (fun _ _ _ h => h) (Or.inl ⟨by rfl, ?cy3⟩) (by assumption) ?cr3
        case cy3 => (intro w hSw; (try dsimp only at hSw); go_simp; try with_reducible rfl)
        (try simp only [Act.put, List.setIfInBounds_toArray, List.set_cons_zero, List.set_cons_succ, List.getElem_toArray, List.getElem_cons_succ, List.getElem_cons_zero])
        refine wpAnyH_take (i := 4) (v := undef) rfl (by kernel_rfl) (by kernel_rfl) (by kernel_rfl) (fun _ _ _ h => h) (Or.inr ⟨by rfl, rfl⟩) (by assumption) ?_
        (try simp only [Act.put, List.setIfInBounds_toArray, List.set_cons_zero, List.set_cons_succ, List.getElem_toArray, List.getElem_cons_succ, List.getElem_cons_zero])
        refine wpAnyH_take (i := 5) (v := undef) rfl (by kernel_rfl) (by kernel_rfl) (by kernel_rfl) (fun _ _ _ h => h) (Or.inr ⟨by rfl, rfl⟩) (by assumption) ?_
        (try simp only [Act.put, List.setIfInBounds_toArray, List.set_cons_zero, List.set_cons_succ, List.getElem_toArray, List.getElem_cons_succ, List.getElem_cons_zero])
        refine wpAnyH_take (i := 6) (v := undef) rfl (by kernel_rfl) (by kernel_rfl) (by kernel_rfl) (fun _ _ _ h => h) (Or.inr ⟨by rfl, rfl⟩) (by assumption) ?_
        (try simp only [Act.put, List.setIfInBounds_toArray, List.set_cons_zero, List.set_cons_succ, List.getElem_toArray, List.getElem_cons_succ, List.getElem_cons_zero])
        refine wpAnyH_take (i := 7) (v := undef) rfl (by kernel_rfl) (by kernel_rfl) (by kernel_rfl) (fun _ _ _ h => h) (Or.inr ⟨by rfl, rfl⟩) (by assumption) ?_
        (try simp only [Act.put, List.setIfInBounds_toArray, List.set_cons_zero, List.set_cons_succ, List.getElem_toArray, List.getElem_cons_succ, List.getElem_cons_zero])
        refine wpAnyH_take (i := 8) (v := undef) rfl (by kernel_rfl) (by kernel_rfl) (by kernel_rfl) (fun _ _ _ h => h) (Or.inr ⟨by rfl, rfl⟩) (by assumption) ?_
        (try simp only [Act.put, List.setIfInBounds_toArray, List.set_cons_zero, List.set_cons_succ, List.getElem_toArray, List.getElem_cons_succ, List.getElem_cons_zero])
        refine wpAnyH_take (i := 9) (v := undef) rfl (by kernel_rfl) (by kernel_rfl) (by kernel_rfl) (fun _ _ _ h => h) (Or.inr ⟨by rfl, rfl⟩) (by assumption) ?_
        (try simp only [Act.put, List.setIfInBounds_toArray, List.set_cons_zero, List.set_cons_succ, List.getElem_toArray, List.getElem_cons_succ, List.getElem_cons_zero])
        refine wpAnyH_take (i := 10) (v := undef) rfl (by kernel_rfl) (by kernel_rfl) (by kernel_rfl) (fun _ _ _ h => h) (Or.inr ⟨by rfl, rfl⟩) (by assumption) ?_
        (try simp only [Act.put, List.setIfInBounds_toArray, List.set_cons_zero, List.set_cons_succ, List.getElem_toArray, List.getElem_cons_succ, List.getElem_cons_zero])
        refine wpAnyH_take (i := 11) (v := undef) rfl (by kernel_rfl) (by kernel_rfl) (by kernel_rfl) (fun _ _ _ h => h) (Or.inr ⟨by rfl, rfl⟩) (by assumption) ?_
        (try simp only [Act.put, List.setIfInBounds_toArray, List.set_cons_zero, List.set_cons_succ, List.getElem_toArray, List.getElem_cons_succ, List.getElem_cons_zero])
        refine wpAnyH_take (i := 12) (v := ?cv12) rfl (by kernel_rfl) (by kernel_rfl) (by kernel_rfl) (fun _ _ _ h => h) (Or.inl ⟨by rfl, ?cy12⟩) (by assumption) ?cr12
        case cy12 => (intro w hSw; (try dsimp only at hSw); go_simp; try with_reducible rfl)
        (try simp only [Act.put, List.setIfInBounds_toArray, List.set_cons_zero, List.set_cons_succ, List.getElem_toArray, List.getElem_cons_succ, List.getElem_cons_zero])
        refine wpAnyH_take (i := 13) (v := ?cv13) rfl (by kernel_rfl) (by kernel_rfl) (by kernel_rfl) (fun _ _ _ h => h) (Or.inl ⟨by rfl, ?cy13⟩) (by assumption) ?cr13
        case cy13 => (intro w hSw; (try dsimp only at hSw); go_simp; try with_reducible rfl)
        (try simp only [Act.put, List.setIfInBounds_toArray, List.set_cons_zero, List.set_cons_succ, List.getElem_toArray, List.getElem_cons_succ, List.getElem_cons_zero])
        refine wpAnyH_take (i := 14) (v := undef) rfl (by kernel_rfl) (by kernel_rfl) (by kernel_rfl) (fun _ _ _ h => h) (Or.inr ⟨by rfl, rfl⟩) (by assumption) ?_
        (try simp only [Act.put, List.setIfInBounds_toArray, List.set_cons_zero, List.set_cons_succ, List.getElem_toArray, List.getElem_cons_succ, List.getElem_cons_zero])
        refine wpAnyH_take (i := 15) (v := undef) rfl (by kernel_rfl) (by kernel_rfl) (by kernel_rfl) (fun _ _ _ h => h) (Or.inr ⟨by rfl, rfl⟩) (by assumption) ?_
        (try simp only [Act.put, List.setIfInBounds_toArray, List.set_cons_zero, List.set_cons_succ, List.getElem_toArray, List.getElem_cons_succ, List.getElem_cons_zero])
        refine wpAnyH_take (i := 16) (v := undef) rfl (by kernel_rfl) (by kernel_rfl) (by kernel_rfl) (fun _ _ _ h => h) (Or.inr ⟨by rfl, rfl⟩) (by assumption) ?_
        (try simp only [Act.put, List.setIfInBounds_toArray, List.set_cons_zero, List.set_cons_succ, List.getElem_toArray, List.getElem_cons_succ, List.getElem_cons_zero])
        refine wpAnyH_take (i := 17) (v := ?cv17) rfl (by kernel_rfl) (by kernel_rfl) (by kernel_rfl) (fun _ _ _ h => h) (Or.inl ⟨by rfl, ?cy17⟩) (by assumption) ?cr17
        case cy17 => (intro w hSw; (try dsimp only at hSw); go_simp; try with_reducible rfl)
        (try simp only [Act.put, List.setIfInBounds_toArray, List.set_cons_zero, List.set_cons_succ, List.getElem_toArray, List.getElem_cons_succ, List.getElem_cons_zero])
        refine wpAnyH_done (by kernel_rfl) ?_ _
        have B24 := hid (B2.out.trans (((Below.refl w2.heap.size w2).drew).mono B2.out.size))
        go_wp2_with fail
        go_roundw
        case rel => exact ⟨i + 1, by go_num, by omega, by rw [HN.out], B24.out⟩
        case measure => simp [intOf]; omega
    · obtain rfl : i = L.length := by omega
      have HCN : Hid (comT D L.length = comN D) := hid (by rw [HLV.out]; rfl)
      rw [HCN.out] at hcm ⊢
      have HBR := hid (B5.out.trans (B.out.mono B5.out.size))
      have HR := hid (H.out.below HBR.out)
      have HWR := hid (K0.out.below HBR.out)
      have HAR := hid ((B.out.block A (lt_of_block HHA5.out)).trans HHA5.out)
      have cA : wr.cell? ⟨A, 0, none⟩ = some (.pointer (some ⟨b, 0, none⟩)) := cell_later B.out HA5.out
      have c10 : wr.cell? ⟨b, 10, none⟩ = some (.int .i64 D.told) := HR.out.cell 10
      by_cases he : comN D = D.told
      · have HFE : Hid (comE D = D ∧ comW D W = W) := hid ⟨if_pos he, by unfold comW tlW newsN; rw [he, Int.sub_self]; simp⟩
        go_wp2_with fail
        first | go_end0 | refine bodyPost_ret (results_none rfl _ _ _) rfl ?_
        exact ⟨rfl, by rw [HFE.out.1, HFE.out.2]; exact CStep.of_below H.out K0.out HBR.out⟩
      · obtain ⟨n, hn⟩ : ∃ n : Nat, n = (comN D - D.told).toNat := ⟨_, rfl⟩
        obtain ⟨p, hp⟩ : ∃ p : Nat, p = (comN D - D.bi).toNat := ⟨_, rfl⟩
        have e1 : comN D = D.told + (n : Int) := by omega
        have e2 : D.told + (n : Int) = D.bi + (p : Int) := by omega
        have HFW : Hid (comW D W = tlW D W n) := hid (by unfold comW; rw [← hn])
        have HFE : Hid (comE D = if namesB (vUp D p) D.self then tlD D n else unseatD (tlD D n)) := hid (by unfold comE comD; rw [if_neg he, ← hn, ← hp])
        have hne : ¬ D.told + (n : Int) = D.told := by omega
        rw [e1]
        have HTE := hid (tell_any b wb lv ms ns D W n wr HR.out HWR.out HI.out.i htl (by omega) (by omega))
        have hpl : p ≤ D.log.length := by omega
        clear hn hp e1 he hcm HCN
        have E2 := hid e2
        clear e2
        go_wp2_with (go_at_call 96; refine HTE.out.mono ?_; rintro e w7 ⟨rfl, hst⟩; have ST := hid hst; clear hst)
        clear cA c10
        obtain ⟨lv7, ms7, ns7, hC7, hW7, bt7, nw1, nw2, nw3⟩ := ST.out
        have hA7 := (bt7.block A (lt_of_block HAR.out) (by
          rintro (h | h | h | h | h)
          · have := HAR.out; rw [h, HR.out.head] at this; cases this
          · have := HAR.out; rw [h, HWR.out.head] at this; cases this
          · exact own_ne HR.out.log HAR.out (by decide) h
          · exact own_ne HWR.out.mails HAR.out (by decide) h
          · exact own_ne HWR.out.news HAR.out (by decide) h)).trans HAR.out
        have cA : w7.cell? ⟨A, 0, none⟩ = some (.pointer (some ⟨b, 0, none⟩)) := by rw [cell_of_row _ _ _ _ _ _ hA7]; rfl
        have c0 : w7.cell? ⟨b, 0, none⟩ = some (.int .i64 D.self) := hC7.cell 0
        have HC7 := hid hC7
        have HW7 := hid hW7
        have ST7 := hid (CStep.pre HBR.out ST.out)
        have HI7 : Hid (CoI (tlD D n)) := hid ⟨hlo, hhi, hll⟩
        have HVA : Hid (∀ k, Calls Try.prog 49 #[.pointer (some ⟨b, 0, none⟩), .int .i64 (D.told + (n : Int))] (w7.drewN k) fun e w' => e = .returned (.string (vUp D p)) ∧ w' = w7.drewN k) := hid fun k => by
          have := votersAt_any 0 b lv7 (tlD D n) p (w7.drewN k) (HC7.out.below (belowN _ _)) HI7.out hpl
          rw [vUp_eq (D := D) (D' := tlD D n) rfl rfl p] at this
          rw [E2.out]; exact this
        obtain ⟨nb, hnb⟩ : ∃ nb, namesB (vUp D p) D.self = nb := ⟨_, rfl⟩
        have HNM : Hid (∀ Y, Calls Try.prog 66 #[.string (vUp D p), .int .i64 D.self] Y fun e w' => e = .returned (.bool nb) ∧ w' = Y) := hid fun Y => by
          have := names_any (vUp D p) D.self Y h0 h1
          rwa [hnb] at this
        rw [hnb] at HFE
        have BT7 := hid bt7
        have NS := hid (And.intro nw1 (And.intro nw2 nw3))
        clear hnb hC7 hW7 bt7 nw1 nw2 nw3 hA7
        go_quiet (first | (go_at_call 49; exact Calls.quiet_of_same (HVA.out _)) | (go_at_call 66; exact Calls.quiet_of_same (HNM.out _)))
        have ST8 := hid (ST7.out.post (belowN w7 nq))
        have cA8 : (w7.drewN nq).cell? ⟨A, 0, none⟩ = some (.pointer (some ⟨b, 0, none⟩)) := cA
        cases nb with
        | true =>
          go_wp2_with fail
          first | go_end0 | refine bodyPost_ret (results_none rfl _ _ _) rfl ?_
          exact ⟨rfl, by rw [HFE.out, HFW.out]; exact ST8.out⟩
        | false =>
          have HC8 := hid (HC7.out.below (belowN w7 nq))
          have HW8 := hid (HW7.out.below (belowN w7 nq))
          go_wp2_with (go_at_call 89; refine (unseat_any b lv7 _ _ HC8.out).mono ?_; rintro e w9 ⟨rfl, hc9, hb9, hk9⟩; have C9 := hid hc9; have B9 := hid hb9; have K9 := hid hk9; clear hc9 hb9 hk9)
          first | go_end0 | refine bodyPost_ret (results_none rfl _ _ _) rfl ?_
          exact ⟨rfl, by rw [HFE.out, HFW.out]; exact CStep.pre HBR.out ⟨lv7, ms7, ns7, C9.out, K9.out _ _ _ _ HW8.out, BT7.out.trans ((Bt.of_below (R := fun q => q = b) (belowN w7 nq)).trans B9.out (fun q hq => .inl hq)) (fun q hq => .inl (.inl hq)), NS.out.1, NS.out.2.1, NS.out.2.2⟩⟩
end Go.Proofs.Ytjimneaimnjanaa
