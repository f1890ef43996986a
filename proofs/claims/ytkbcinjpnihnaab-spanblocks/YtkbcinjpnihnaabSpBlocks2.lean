/- For any row of spans (its first 60) and any number: the loop over the row's blocks goes as the law says. -/
import Derived.Test.YtkbcinjpnihnaabSpNorms
import Derived.Test.YtkbcinjpnihnaabSpFirst
import Derived.BigQuiet
namespace Go.Proofs.Ytkbcinjpnihnaab
open Go.RowKit

theorem plain_I {l r : List Sp} (hp : PlainL r) (hm : ∀ k, InL r k ↔ InL l k) (hI : ∀ x ∈ l, SpI x) : ∀ x ∈ r, SpI x := by
  intro x hx
  have h1 := hp.1 x hx
  obtain ⟨y, hy, y1, y2⟩ := (hm x.1).1 ⟨x, hx, by omega, h1⟩
  obtain ⟨z, hz, z1, z2⟩ := (hm (x.2 - 1)).1 ⟨x, hx, by omega, by omega⟩
  have := (hI y hy).1.1
  have := (hI y hy).2.2
  have := (hI z hz).2.2
  have := (hI z hz).1.1
  exact ⟨⟨by omega, by omega⟩, ⟨by omega, by omega⟩⟩
theorem take_full {a c : List Int} {M : Nat} (h : a <+: c) (hl : M ≤ (a.take M).length) : c.take M = a.take M := by
  obtain ⟨t, rfl⟩ := h
  have : M ≤ a.length := by simp at hl; omega
  rw [List.take_append_of_le_length this]
theorem take_part {a : List Int} {M : Nat} (hl : (a.take M).length < M) : a.take M = a ∧ a.length < M := by
  have : a.length < M := by simp at hl; omega
  exact ⟨List.take_of_length_le (by omega), this⟩
/-- A number more behind a row of the call's own: only that row's block turns. -/
theorem wpl_appendG {w : World} {ops : Array Oper} {rest : List Oper} {o : Oper} {a : Act} {Q : Exit → Act → World → Prop} (hgd : o.guard = none) (s x : Operand)
    (ho : o.op = .call { callee := .builtin .append, args := #[s, x], argTypes := #[33, 33] })
    (base : Nat) (v : Value) (l : List Int) (hs : a.eval s = v) (hown : OwnN w base v l) (g : Nat) (y : Int) (hx : a.eval x = .slice (some ⟨g, 0, none⟩) 1 1) (hg : w.cell? ⟨g, 0, none⟩ = some (.int .i64 y))
    (hl : l.length ≤ 1000000001) (hbase : base ≤ w.heap.size)
    (h : ∀ va vc m w', m = l ++ [y] → OwnN w' base (.slice va m.length vc) m → w.grownBy w' v.ownBlock → wpList Try.prog ops Q rest (a.put o.dst (.slice va m.length vc)) w') :
    wpList Try.prog ops Q (o :: rest) a w := by
  obtain ⟨i, hi, hz0, hz1, hz2⟩ := info_parts Try.infoI
  refine wpList_append_own w hgd s x 33 ho base 3 i (.int .i64 0) 1 8 Try.underlyingIs hi hz0 hz1 hz2 rfl (by decide) v l.length (ivs l) hs hown ⟨g, 0, none⟩ 1 1 [.int .i64 y] hx rfl (one_cellN hg) (one_int y) (by unfold maxLen; omega) (by omega) hbase ?_
  intro v' w' ho' hg' _
  have ho2 : OwnN w' base v' (l ++ [y]) := by
    show w'.ownsRow _ _ _ _ (l ++ [y]).length (ivs (l ++ [y]))
    rw [List.length_append]
    have e : ivs (l ++ [y]) = ivs l ++ [.int .i64 y] := by simp [ivs]
    rw [e]; exact ho'
  obtain ⟨va, vc, rfl⟩ := ho2.shape
  exact h va vc _ w' rfl ho2 hg'
set_option maxRecDepth 100000 in
set_option maxHeartbeats 3200000 in
theorem blockss_any (v : Value) (l : List Sp) (x : Int) (w : World) (hv : Sps w v l) (hI : ∀ z ∈ l, SpI z) :
    Calls Try.prog 5 #[v, .int .i64 x] w fun e w' => e = .returned (.bool true) ∧ Below w.heap.size w w' := by
  have HV := hid hv
  have HI : Hid (∀ z ∈ l.take 60, SpI z) := hid fun z hz => hI z (List.mem_of_mem_take hz)
  obtain ⟨a0, c0, rfl⟩ := hv.shape
  clear hv hI
  go_enter Try.func5, Try.ntmps5
  go_wp2_with fail
  refine (cut_any _ l _ HV.out).mono ?_
  rintro e w0 ⟨va, vc, rfl, hs, rfl⟩
  have hml : (l.take 60).length ≤ 60 := by simp; omega
  generalize l.take 60 = m at hs hml HI ⊢
  have HS := hid hs
  clear hs HV
  go_wp2_with fail
  obtain ⟨M, hM, hM3⟩ : ∃ M : Nat, (max 0 (min x 300) : Int) = M ∧ M ≤ 300 := ⟨(max 0 (min x 300)).toNat, by omega, by omega⟩
  rw [hM]
  clear hM
  refine (rof_0 _ _ m [] _ HS.out (Sps.nil _) (by omega) (by simp)).mono ?_
  rintro e w4 ⟨va4, vc4, rfl, ho4, hb4⟩
  have hof := of0_plain m []
  generalize ofL m [] (keepF 0 m []) = r at ho4 hof ⊢
  have HPL := hid hof.1
  have HIN : Hid (∀ k, InL r k ↔ InL m k) := hid fun k => by rw [hof.2 k]; simp [InL_nil]
  have HRI := hid (plain_I HPL.out HIN.out HI.out)
  have hR := ho4.sps
  have H4 := hid ho4.held
  have hrl : r.length ≤ 9223372036854775807 := by obtain ⟨_, _, _, _, h1, h2, h3, _⟩ := hR; omega
  have S4 := hid (HS.out.below hb4)
  have R4 := hid hR
  have B4 := hid hb4
  clear hof ho4 hb4 hR HS
  go_wp2_with fail
  go_loopw [5, 20] (fun u i wr => ∃ k va vc, k ≤ r.length ∧ i = .int .i64 (k : Nat) ∧ u = .slice va ((blkL (r.take k)).take M).length vc ∧ OwnN wr w4.heap.size u ((blkL (r.take k)).take M) ∧ Below w4.heap.size w4 wr) (fun _ i _ => r.length - (intOf i).toNat)
  case atStart => exact ⟨0, none, 0, Nat.zero_le _, rfl, by simp [blkL], by simp only [List.take_zero, blkL_nil, List.take_nil]; exact World.ownsRow_nil _ _ _ _, Below.refl _ _⟩
  case round =>
    obtain ⟨k, va1, vc1, hk, rfl, rfl, ho, hb⟩ := hrel
    rename World => wa
    have OA := hid ho
    have BA := hid hb
    clear ho hb
    by_cases hlt : k < r.length
    · have hkI : (k : Int) < (r.length : Int) := by omega
      obtain ⟨rb, rfl, hc0, hc1⟩ : ∃ rb, va4 = some ⟨rb, 0, none⟩ ∧ wa.cell? ⟨rb, k * 2, none⟩ = some (.int .i64 r[k].1) ∧ wa.cell? ⟨rb, k * 2 + 1, none⟩ = some (.int .i64 r[k].2) := by
        rcases H4.out.below BA.out with ⟨e, h⟩ | ⟨b, cap, ob, e, _, h⟩
        · rw [h] at hlt; simp at hlt
        · cases e; exact ⟨b, rfl, h k hlt⟩
      have hne := HPL.out.1 r[k] (List.getElem_mem hlt)
      have hni := HRI.out r[k] (List.getElem_mem hlt)
      have HTE := hid (show blkL (r.take (k + 1)) = blkL (r.take k) ++ blkR r[k].1 r[k].2 by rw [List.take_succ_eq_append_getElem hlt, blkL_append, blkL_one])
      obtain ⟨z, hz⟩ : ∃ z, z = r[k] := ⟨_, rfl⟩
      rw [← hz] at hc0 hc1 hne hni HTE
      clear hz
      obtain ⟨p, q⟩ := z
      obtain ⟨⟨hp1, hp2⟩, ⟨hq1, hq2⟩⟩ := hni
      simp only at hne hp1 hp2 hq1 hq2
      obtain ⟨P, hP⟩ : ∃ P, P = blkL (r.take k) := ⟨_, rfl⟩
      rw [← hP] at HTE OA ⊢
      clear hP
      obtain ⟨T, hT⟩ : ∃ T, T = P.take M := ⟨_, rfl⟩
      rw [← hT] at OA ⊢
      have HT := hid hT
      clear hT
      have bx : Below wa.heap.size wa (wa.alloc (.cells #[.int .i64 p, .int .i64 q] 29)) := (Below.refl _ _).alloc (Nat.le_refl _) _
      have OX := hid (OA.out.below bx)
      have BX := hid (BA.out.trans (bx.mono BA.out.size))
      have hX := heap_alloc_new wa (.cells #[.int .i64 p, .int .i64 q] 29)
      obtain ⟨w5, hw5⟩ : ∃ w5, w5 = wa.alloc (.cells #[.int .i64 p, .int .i64 q] 29) := ⟨_, rfl⟩
      have HX := hid hX
      clear bx hX
      go_wp2_with fail
      rw [← hw5] at HX BX OX ⊢
      obtain ⟨X, hXe⟩ : ∃ X, X = wa.heap.size := ⟨_, rfl⟩
      rw [← hXe] at HX ⊢
      clear hw5 hXe OA BA hc0 hc1
      have x0 : w5.cell? ⟨X, 0, none⟩ = some (.int .i64 p) := by rw [cell_of_row _ _ _ _ _ _ HX.out]; rfl
      go_wp2_with fail
      go_loopw [5, 8] (fun u i wr => ∃ m va vc L, p ≤ m ∧ m ≤ q ∧ i = .int .i64 m ∧ L = (P ++ blkR p m).take M ∧ u = .slice va L.length vc ∧ OwnN wr w4.heap.size u L ∧ Below w4.heap.size w5 wr ∧ wr.heap[X]? = some (.cells #[.int .i64 p, .int .i64 q] 29 (0, 0))) (fun _ i _ => (q - intOf i).toNat)
      case atStart => exact ⟨p, va1, vc1, T, by omega, by omega, rfl, by rw [blkR_none (by omega), List.append_nil]; exact HT.out, rfl, OX.out, Below.refl _ _, HX.out⟩
      case round =>
        rename_i K0 hK0
        obtain ⟨m, va6, vc6, L, hpm, hmq, rfl, hL, rfl, ho6, hb6, hX6⟩ := hrel
        have x1 : wr.cell? ⟨X, 1, none⟩ = some (.int .i64 q) := by rw [cell_of_row _ _ _ _ _ _ hX6]; rfl
        have O6 := hid ho6
        have B6 := hid hb6
        have X6 := hid hX6
        have HL := hid hL
        have hLM : L.length ≤ M := by rw [hL]; simp; omega
        clear x0 ho6 hb6 hX6 hL OX
        by_cases hm : m < q
        · by_cases hl : L.length < M
          · have hlI : (L.length : Int) < (M : Int) := by omega
            have wm : IntKind.i64.wrap (m + 1) = m + 1 := IntWalk.i64_in _ ⟨by omega, by omega⟩
            have by' : Below wr.heap.size wr (wr.alloc (.cells #[.int .i64 m] 3)) := (Below.refl _ _).alloc (Nat.le_refl _) _
            have OY := hid (O6.out.below by')
            have CY : Hid ((wr.alloc (.cells #[.int .i64 m] 3)).cell? ⟨wr.heap.size, 0, none⟩ = some (.int .i64 m)) := hid (by rw [World.cell?_alloc_at _ _ _ _ rfl]; rfl)
            have hsz6 : w4.heap.size ≤ wr.heap.size := Nat.le_trans BX.out.size B6.out.size
            have BY := hid by'
            clear by'
            go_wp2_with (at_builtin; refine wpl_appendG rfl _ _ rfl w4.heap.size (.slice va6 L.length vc6) L rfl OY.out wr.heap.size m rfl CY.out (by omega) (by simp; omega) ?_; intro va7 vc7 L7 w7 hL7 ho7 hg7; have HL7 := hid hL7; have O7 := hid ho7; have G7 := hid hg7; clear hL7 ho7 hg7)
            go_roundw
            case rel =>
              have hT := take_part (a := P ++ blkR p m) (M := M) (by rw [← HL.out]; exact hl)
              refine ⟨m + 1, va7, vc7, L7, by omega, by omega, rfl, ?_, rfl, O7.out, (B6.out.trans (BY.out.mono hsz6)).grown G7.out (by simp; omega) (fun k hk => (World.ownsRow.lt OY.out k hk).1), ?_⟩
              · rw [HL7.out, HL.out, hT.1, blkR_next hpm, ← List.append_assoc, List.take_of_length_le]
                have := hT.2
                simp only [List.length_append, List.length_singleton] at this ⊢
                omega
              · have h1 := (BY.out.block X (lt_of_block X6.out)).trans X6.out
                exact (G7.out.block X (lt_of_block h1) (OY.out.not_block h1 (by decide))).trans h1
            case measure => simp [intOf]; omega
          · have hlI : ¬ (L.length : Int) < (M : Int) := by omega
            go_wp2_with fail
            go_roundw
            case rel =>
              have hLL : (blkL (r.take (k + 1))).take M = L := by
                rw [HTE.out, HL.out]
                exact take_full (by rw [List.prefix_append_right_inj]; exact blkR_prefix (by omega)) (by rw [← HL.out]; omega)
              exact ⟨k + 1, va6, vc6, by omega, by go_num, by rw [hLL], by rw [hLL]; exact O6.out, BX.out.trans B6.out⟩
            case measure => simp [intOf]; omega
        · obtain rfl : m = q := by omega
          go_wp2_with fail
          go_roundw
          case rel =>
            have hLL : (blkL (r.take (k + 1))).take M = L := by rw [HTE.out, HL.out]
            exact ⟨k + 1, va6, vc6, by omega, by go_num, by rw [hLL], by rw [hLL]; exact O6.out, BX.out.trans B6.out⟩
          case measure => simp [intOf]; omega
    · obtain rfl : k = r.length := by omega
      rw [List.take_length] at OA ⊢
      obtain ⟨T, hT⟩ : ∃ T, T = (blkL r).take M := ⟨_, rfl⟩
      rw [← hT] at OA ⊢
      have HT := hid hT
      have hTl : T.length ≤ 300 := by rw [hT]; simp; omega
      clear hT
      have SA := hid (S4.out.below BA.out)
      go_wp2_with fail
      refine (first_any _ m M _ SA.out (by omega) HI.out hM3).mono ?_
      rintro e w5 ⟨T5, va5, vc5, h5, rfl, ho5, hb5⟩
      obtain rfl : T5 = T := by rw [h5 r HPL.out HIN.out, HT.out]
      have O5 := hid ho5
      have OA5 := hid (OA.out.below hb5)
      have S5 := hid (SA.out.below hb5)
      have B5 := hid (BA.out.trans (hb5.mono BA.out.size))
      clear ho5 hb5 h5
      go_wp2_with fail
      refine (first_any _ m M _ S5.out (by omega) HI.out hM3).mono ?_
      rintro e w6 ⟨T6, va6, vc6, h6, rfl, ho6, hb6⟩
      obtain rfl : T6 = T5 := by rw [h6 r HPL.out HIN.out, HT.out]
      have O6 := hid ho6
      have O56 := hid (O5.out.below hb6)
      have OA6 := hid (OA5.out.below hb6)
      have B6 := hid (B5.out.trans (hb6.mono B5.out.size))
      clear ho6 hb6 h6
      go_wp2_with fail
      go_loopw [63] (fun i wr => ∃ k : Nat, k ≤ T6.length ∧ i = .int .i64 k ∧ Below w6.heap.size w6 wr) (fun i _ => T6.length - (intOf i).toNat)
      case atStart => exact ⟨0, Nat.zero_le _, rfl, Below.refl _ _⟩
      case round =>
        obtain ⟨j, hj, rfl, hb7⟩ := hrel
        have B7 := hid hb7
        clear hb7
        by_cases hjl : j < T6.length
        · have hjI : (j : Int) < (T6.length : Int) := by omega
          obtain ⟨g1, rfl, c1⟩ := (OA6.out.below B7.out).at_lit j hjl
          obtain ⟨g2, rfl, c2⟩ := (O56.out.below B7.out).at_lit j hjl
          obtain ⟨g3, rfl, c3⟩ := (O6.out.below B7.out).at_lit j hjl
          generalize T6[j] = a at c1 c2 c3
          have g0 : (a != a) = false := by simp
          go_wp2_with fail
          go_quiet (fail)
          go_wp2_with fail
          go_roundw
          case rel => exact ⟨j + 1, by omega, by go_num, B7.out.trans (Below.mono ⟨rfl, rfl, rfl, Nat.le_refl _, fun _ _ => rfl⟩ B7.out.size)⟩
          case measure => simp [intOf]; omega
        · obtain rfl : j = T6.length := by omega
          go_wp2_with (first | (go_at_call 15; refine (lives_any _).mono ?_; rintro e w9 ⟨rfl, hb9⟩; have B9 := hid (B4.out.trans ((B6.out.trans ((B7.out.trans (hb9.mono B7.out.size)).mono B6.out.size)).mono B4.out.size)); clear hb9))
          go_ret
          exact ⟨rfl, B9.out⟩
end Go.Proofs.Ytkbcinjpnihnaab
