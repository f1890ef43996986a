/- The document's Voters and Text. Conditions: a text of at most 999999 bytes; numbers from 0 to 255. -/
import Derived.Test.YtjimneaimnjanaaCoNew
namespace Go.Proofs.Ytjimneaimnjanaa
open Go.RowKit
set_option linter.unusedVariables false
set_option linter.unusedSimpArgs false

theorem vtx_getD (s : ByteArray) (j : Nat) (h : j < s.size) : (vtx s).getD j 0 = tb s j := by
  have : (List.range s.size)[j]? = some j := by simp [h]
  simp [List.getD, vtx, tbs, this]
theorem votAt_vtx (s : ByteArray) (j : Nat) (h : j < s.size) : votAt (vtx s) j = (decide (tb s j < 7) && (j == 0 || decide (tb s (j - 1) < tb s j))) := by
  unfold votAt nodeB
  rw [vtx_getD s j h, decide_eq_true (tb_lo s j), Bool.true_and]
  cases j with
  | zero => simp
  | succ j => rw [vtx_getD s (j + 1 - 1) (by omega)]
theorem rise_lo (s : ByteArray) (i : Nat) (hi : i ≤ s.size) (h : ∀ j, j < i → votAt (vtx s) j = true) : ∀ j, j < i → (j : Int) ≤ tb s j := by
  intro j
  induction j with
  | zero => intro _; exact tb_lo s 0
  | succ j ih =>
    intro hj
    have h1 := ih (by omega)
    have h2 := h (j + 1) hj
    rw [votAt_vtx s (j + 1) (by omega), Bool.and_eq_true, show j + 1 - 1 = j from rfl] at h2
    have h3 := h2.2
    simp at h3
    omega
/-- Nodes that rise are seven at most. -/
theorem rise_le (s : ByteArray) (i : Nat) (hi : i ≤ s.size) (h : ∀ j, j < i → votAt (vtx s) j = true) : i ≤ 7 := by
  cases i with
  | zero => omega
  | succ i =>
    have h1 := rise_lo s (i + 1) hi h i (by omega)
    have h2 := h i (by omega)
    rw [votAt_vtx s i (by omega), Bool.and_eq_true, decide_eq_true_eq] at h2
    omega
set_option maxRecDepth 100000 in
set_option maxHeartbeats 4000000 in
theorem rvoters_any (s : ByteArray) (w : World) (hs : s.size ≤ 9223372036854775807) :
    Calls Try.prog 12 #[.string s] w (VotP s w) := by
  have hu : Try.prog.underlying 9 = some .string := by kernel_rfl
  go_enter Try.func12, Try.ntmps12
  go_wp2_with fail
  go_loopw [4, 5, 6] (fun lv iv _ wr => ∃ i : Nat, iv = .int .i64 i ∧ i ≤ s.size ∧ (∀ j, j < i → votAt (vtx s) j = true) ∧ wr.ownsRow w.heap.size 3 1 lv i (nvs (tbs s i)) ∧ Below w.heap.size w wr) (fun _ iv _ _ => s.size - (intOf iv).toNat)
  case atStart => exact ⟨0, rfl, Nat.zero_le _, (fun j hj => by omega), World.ownsRow_nil _ _ _ _, Below.refl _ _⟩
  case round =>
    obtain ⟨i, rfl, hi, hall, ho, hb⟩ := hrel
    obtain ⟨va, vc, rfl⟩ := own_shape ho
    have HO := hid ho
    have HB := hid hb
    have HALL := hid hall
    have h7 := rise_le s i hi hall
    clear ho hb hall
    by_cases hlt : (i : Int) < (s.size : Int)
    · have hil : i < s.size := by omega
      have hb0 := tb_get s
      have hlo := tb_lo s i
      have hhi := tb_hi s i
      have HDB := hid (votAt_vtx s i hil)
      have HNO : Hid (votAt (vtx s) i = false → votB (vtx s) = false) := hid (fun h => vot_no (by rw [vtx_len]; exact hil) h)
      have HNI : Hid ((vtx s).length = s.size) := hid (vtx_len s)
      by_cases h6 : (6 : Int) < tb s i
      · have HV : Hid (votB (vtx s) = false) := hid (HNO.out (by rw [HDB.out, decide_eq_false (by omega)]; rfl))
        go_wp2_with fail
        go_ret2
        exact ⟨_, by rw [HV.out]; rfl, HB.out, by rw [HV.out]; exact World.ownsRow_nil _ _ _ _⟩
      · have HY : Hid (∀ j u, ([Value.int .i64 (tb s i)] : List Value)[j]? = some u → (wr.alloc (.cells #[.int .i64 (tb s i)] 3)).cell? ⟨wr.heap.size, j, none⟩ = some u) := hid fun j u hj => by
          rw [cell_of_row _ _ _ _ _ _ (heap_alloc_new _ _)]
          cases j with
          | zero => simpa using hj
          | succ j => simp at hj
        have OA := hid (own_below HO.out ((Below.refl wr.heap.size wr).alloc (Nat.le_refl _) (.cells #[.int .i64 (tb s i)] 3)))
        have BA := hid (HB.out.trans (((Below.refl wr.heap.size wr).alloc (Nat.le_refl _) (.cells #[.int .i64 (tb s i)] 3)).mono HB.out.size))
        have HON := hid (nums_own HO.out (tbs_len s i).symm)
        cases i with
        | zero =>
          have HAL : Hid (∀ j, j < 0 + 1 → votAt (vtx s) j = true) := hid fun j hj => by
            obtain rfl : j = 0 := by omega
            rw [HDB.out, decide_eq_true (by omega)]; rfl
          go_wp2_with (at_builtin; refine wpl_app rowNm rfl _ _ rfl w.heap.size (.slice va 0 vc) 0 (nvs (tbs s 0)) rfl OA.out wr.heap.size 1 1 [.int .i64 (tb s 0)] rfl rfl HY.out (by simp [Value.oneCell']) (by omega) BA.out.size ?_; intro va2 vc2 w2 ho2 hg2; have O2 := hid ho2; have B2 := hid (BA.out.trans (own_lo OA.out hg2 BA.out.size)); clear ho2 hg2)
          go_roundw
          case rel => exact ⟨0 + 1, by go_num, by omega, HAL.out, by rw [tbs_snoc]; simpa [nvs] using O2.out, B2.out⟩
          case measure => simp [intOf]; omega
        | succ i =>
          have hq : ((i + 1 : Nat) : Int) - 1 = (i : Int) := by omega
          have hpos : (0 : Int) < ((i + 1 : Nat) : Int) := by omega
          have HNL := HON.out
          obtain ⟨gd, od, hva⟩ : ∃ gd od, va = some ⟨gd, od, none⟩ := by
            have := HON.out
            rw [show (Value.slice va (i + 1) vc) = Value.slice va (tbs s (i + 1)).length vc by rw [tbs_len]] at this
            exact this.addr (by rw [tbs_len]; omega)
          subst hva
          have c0 : wr.cell? ⟨gd, od + i, none⟩ = some (.int .i64 (tb s i)) := by
            have := HON.out
            rw [show (Value.slice (some ⟨gd, od, none⟩) (i + 1) vc) = Value.slice (some ⟨gd, od, none⟩) (tbs s (i + 1)).length vc by rw [tbs_len]] at this
            rw [this.lit i (by rw [tbs_len]; omega)]
            simp [tbs]
          clear HNL
          by_cases hg : tb s (i + 1) ≤ tb s i
          · have HV : Hid (votB (vtx s) = false) := hid (HNO.out (by
              rw [HDB.out, show i + 1 - 1 = i from rfl, decide_eq_false (show ¬ tb s i < tb s (i + 1) by omega)]
              simp))
            go_wp2_with fail
            go_ret2
            exact ⟨_, by rw [HV.out]; rfl, HB.out, by rw [HV.out]; exact World.ownsRow_nil _ _ _ _⟩
          · have HAL : Hid (∀ j, j < i + 1 + 1 → votAt (vtx s) j = true) := hid fun j hj => by
              by_cases hj2 : j < i + 1
              · exact HALL.out j hj2
              · obtain rfl : j = i + 1 := by omega
                rw [HDB.out, decide_eq_true (show tb s (i + 1) < 7 by omega), show i + 1 - 1 = i from rfl, decide_eq_true (show tb s i < tb s (i + 1) by omega)]
                simp
            go_wp2_with (at_builtin; refine wpl_app rowNm rfl _ _ rfl w.heap.size (.slice (some ⟨gd, od, none⟩) (i + 1) vc) (i + 1) (nvs (tbs s (i + 1))) rfl OA.out wr.heap.size 1 1 [.int .i64 (tb s (i + 1))] rfl rfl HY.out (by simp [Value.oneCell']) (by omega) BA.out.size ?_; intro va2 vc2 w2 ho2 hg2; have O2 := hid ho2; have B2 := hid (BA.out.trans (own_lo OA.out hg2 BA.out.size)); clear ho2 hg2)
            go_roundw
            case rel => exact ⟨i + 1 + 1, by go_num, by omega, HAL.out, by rw [tbs_snoc]; simpa [nvs] using O2.out, B2.out⟩
            case measure => simp [intOf]; omega
    · obtain rfl : i = s.size := by omega
      clear hlt
      have HV : Hid (votB (vtx s) = decide (0 < s.size)) := hid (by rw [vot_yes (by rw [vtx_len]; exact HALL.out), vtx_len])
      by_cases h0 : s.size = 0
      · have hz : decide ((0 : Int) < (s.size : Int)) = false := decide_eq_false (by omega)
        go_wp2_with fail
        go_ret2
        have e : votB (vtx s) = false := by rw [HV.out, decide_eq_false (by omega)]
        refine ⟨.slice va s.size vc, by rw [e]; first | rfl | simp, HB.out, ?_⟩
        rw [e]
        have := HO.out
        rw [h0] at this
        show wr.ownsRow w.heap.size 3 1 (.slice va s.size vc) 0 (nvs [])
        rw [h0]
        exact this
      · have hz : decide ((0 : Int) < (s.size : Int)) = true := decide_eq_true (by omega)
        go_wp2_with fail
        go_ret2
        have e : votB (vtx s) = true := by rw [HV.out, decide_eq_true (by omega)]
        exact ⟨.slice va s.size vc, by rw [e]; simp; omega, HB.out, by rw [e]; exact HO.out⟩
set_option maxRecDepth 100000 in
set_option maxHeartbeats 4000000 in
theorem rtextv_any (l : List Int) (v : Value) (w : World) (hv : Nums w v l) (hl9 : l.length ≤ 999999) (hx0 : ∀ x ∈ l, 0 ≤ x ∧ x ≤ 255) :
    Calls Try.prog 18 #[v] w fun e w' => e = .returned (.string (byT l)) ∧ Below w.heap.size w w' := by
  have HV := hid hv
  have hL := hv.len
  obtain ⟨va, vc, rfl⟩ := hv.shape
  have HVA := hid hx0
  clear hv hx0
  go_enter Try.func18, Try.ntmps18
  go_wp2_with fail
  go_loopw [3, 5, 8] (fun bv' _ iv wr => ∃ i : Nat, iv = .int .i64 i ∧ i ≤ l.length ∧ Own wr w.heap.size bv' (byL (l.take i)) ∧ Below w.heap.size w wr) (fun _ _ iv _ => l.length - (intOf iv).toNat)
  case atStart => exact ⟨0, rfl, Nat.zero_le _, World.ownsRow_nil _ _ _ _, Below.refl _ _⟩
  case round =>
    obtain ⟨i, rfl, hi, ho, hbr⟩ := hrel
    obtain ⟨ua, uc, rfl⟩ := ho.shape
    have O := hid ho
    have B := hid hbr
    clear ho hbr
    by_cases hlt : (i : Int) < (l.length : Int)
    · have hil : i < l.length := by omega
      have HVR := hid (HV.out.below B.out)
      obtain ⟨gd, od, rfl⟩ := HVR.out.addr (by omega)
      have c0 := HVR.out.lit i hil
      have hx := HVA.out l[i] (List.getElem_mem hil)
      have HF : Hid (byL (l.take (i + 1)) = byL (l.take i) ++ [l[i].toNat.toUInt8]) := hid (by unfold byL; rw [List.take_succ_eq_append_getElem hil, List.map_append]; rfl)
      obtain ⟨F, hF⟩ : ∃ F, F = byL (l.take i) := ⟨_, rfl⟩
      have hFl : F.length = i := by rw [hF]; simp [byL]; omega
      rw [← hF] at O HF
      rw [← hF]
      clear hF
      generalize l[i] = x at *
      have hwx : IntKind.u8.wrap x = x := by simp [IntKind.wrap, IntKind.bits, IntKind.signed]; omega
      have hbx : (.int .u8 x : Value) = bv x.toNat.toUInt8 := by
        have : x.toNat.toUInt8.toNat = x.toNat := by show x.toNat % 256 = x.toNat; omega
        unfold bv; rw [this]; congr 1; omega
      have BA := hid (B.out.trans (((Below.refl wr.heap.size wr).alloc (Nat.le_refl _) (.cells #[.int .u8 x] 5)).mono B.out.size))
      have OA : Hid (Own (wr.alloc (.cells #[.int .u8 x] 5)) w.heap.size (.slice ua F.length uc) F) := hid (own_below O.out ((Below.refl wr.heap.size wr).alloc (Nat.le_refl _) (.cells #[.int .u8 x] 5)))
      have HX : Hid (Bts (wr.alloc (.cells #[.int .u8 x] 5)) (.slice (some ⟨wr.heap.size, 0, none⟩) 1 1) [x.toNat.toUInt8]) := hid (by
        refine ⟨_, _, _, rfl, rfl, Nat.le_refl _, by omega, (fun h => by cases h), ?_⟩
        intro ad had j hj
        cases had
        obtain rfl : j = 0 := by simpa using hj
        rw [Addr.add_lit, cell_of_row _ _ _ _ _ _ (heap_alloc_new _ _)]
        show some (Value.int .u8 x) = _
        rw [hbx]; rfl)
      clear hbx
      go_wp2_with (at_builtin; refine wpl_append rfl _ _ rfl w.heap.size (.slice ua F.length uc) F rfl OA.out _ [x.toNat.toUInt8] rfl HX.out (by simp; omega) BA.out.size ?_; intro va2 vc2 w2 ho2 hg2; have O2 := hid ho2; have B2 := hid (BA.out.trans (below_grown OA.out hg2 BA.out.size)); clear ho2 hg2)
      go_roundw
      case rel => exact ⟨i + 1, by go_num, by omega, by have := O2.out; rw [hFl] at this; rw [HF.out]; exact this, B2.out⟩
      case measure => simp [intOf]; omega
    · obtain rfl : i = l.length := by omega
      have hcv := conv_string wr _ _ O.out.bts
      rw [List.take_length] at hcv
      rw [List.take_length]
      go_wp2_with fail
      go_ret
      exact ⟨rfl, B.out⟩
end Go.Proofs.Ytjimneaimnjanaa
