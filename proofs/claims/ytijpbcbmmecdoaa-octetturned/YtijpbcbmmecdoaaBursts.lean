/- OctetBursts answers true for any bytes, any place and any pattern; nothing that was there has turned. -/
import Derived.Test.YtijpbcbmmecdoaaBurst
import Derived.Test.YtijpbcbmmecdoaaCut
namespace Go.Proofs.Ytijpbcbmmecdoaa
open Go.RowKit

/-- Behind i rounds: the bits below i of the pattern are turned. -/
def Turn (w : World) (base : Nat) (va : Option Addr) (vc : Nat) (l : List UInt8) (p f i : Nat) : Prop := ∃ c, Own w base (.slice va l.length vc) c ∧ c.length = l.length ∧ numL c = numL l ^^^ ((p % 2 ^ i) <<< f)

theorem Own.some_block {w : World} {base : Nat} {va : Option Addr} {vc n : Nat} {c : List UInt8} (h : Own w base (.slice va n vc) c) (hn : 0 < n) : ∃ g, va = some ⟨g, 0, none⟩ := by
  obtain ⟨h1, h2⟩ := h
  rcases h2 with ⟨h, h0⟩ | ⟨g, cap, cur, hv, -⟩
  · cases h; omega
  · cases hv; exact ⟨g, rfl⟩
/-- A byte of such a row, as a number. -/
theorem Own.byte_at {w : World} {base g vc n : Nat} {c : List UInt8} (h : Own w base (.slice (some ⟨g, 0, none⟩) n vc) c) {j : Nat} (hj : j < c.length) : ∃ x : Nat, x = c[j].toNat ∧ w.cell? ⟨g, j, none⟩ = some (.int .u8 x) ∧ (x : Int) ≤ 255 ∧ w.frozen? ⟨g, j, none⟩ = false := by
  have hn : n = c.length := by obtain ⟨_, _, e⟩ := h.shape; cases e; rfl
  subst hn
  refine ⟨c[j].toNat, rfl, ?_, ?_, World.ownsRow.frozenAt h j⟩
  · have e := World.ownsRow.cells h rfl j (bv c[j]) (by simp [hj])
    rw [show (⟨g, 0, none⟩ : Addr).add j = ⟨g, j, none⟩ from by simp only [Addr.add, Nat.zero_add]; split <;> simp_all] at e
    exact e
  · have := c[j].toNat_lt; omega
theorem bit_and (p i : Nat) (hp : p ≤ 4294967295) : bits .and .u32 ((p : Int) / 2 ^ i) 1 = ((p / 2 ^ i % 2 : Nat) : Int) := by
  have e : (p : Int) / 2 ^ i = ((p / 2 ^ i : Nat) : Int) := by simp
  have : p / 2 ^ i ≤ p := Nat.div_le_self _ _
  rw [e, and_one _ (Int.natCast_nonneg _) (by omega)]; rfl

theorem Own.block_le {w : World} {base g vc n : Nat} {c : List UInt8} (h : Own w base (.slice (some ⟨g, 0, none⟩) n vc) c) : base ≤ g := (World.ownsRow.lt h g rfl).1
theorem Turn.step' {w : World} {base g vc : Nat} {l c : List UInt8} {p f i j tb x : Nat} (ho : Own w base (.slice (some ⟨g, 0, none⟩) l.length vc) c) (hcl : c.length = l.length) (hn : numL c = numL l ^^^ ((p % 2 ^ i) <<< f))
    (hb : p / 2 ^ i % 2 = 1) {hj : j < c.length} (hx : x = c[j].toNat) (he : f + i = 8 * j + tb) (htb : tb < 8) :
    ∃ c', Own (w.setCell ⟨g, j, none⟩ (.int .u8 (bits .xor .u8 (x : Int) (2 ^ tb % 256)))) base (.slice (some ⟨g, 0, none⟩) l.length vc) c' ∧ c'.length = l.length ∧ numL c' = numL l ^^^ ((p % 2 ^ (i + 1)) <<< f) ∧ ∃ v, c' = c.set j v := by
  have ht : 2 ^ tb < 256 := by
    have := Nat.pow_le_pow_right (n := 2) (by omega) (show tb ≤ 7 by omega)
    omega
  have hxl : x < 256 := by have := c[j].toNat_lt; omega
  have e1 : bits .xor .u8 (x : Int) (2 ^ tb % 256) = ((x ^^^ 2 ^ tb : Nat) : Int) := by
    rw [← u8_xor_nat x (2 ^ tb) hxl ht]
    congr 1
    have e : ((2 : Int) ^ tb) = ((2 ^ tb : Nat) : Int) := by simp
    rw [e]; exact Int.emod_eq_of_lt (Int.natCast_nonneg _) (Int.ofNat_lt.2 ht)
  have hlt : x ^^^ 2 ^ tb < 256 := Nat.xor_lt_two_pow (n := 8) hxl ht
  have e2 : (Value.int .u8 ((x ^^^ 2 ^ tb : Nat) : Int)) = bv (UInt8.ofNat (x ^^^ 2 ^ tb)) := by
    show _ = Value.int .u8 ((UInt8.ofNat (x ^^^ 2 ^ tb)).toNat : Int)
    rw [UInt8.toNat_ofNat', Nat.mod_eq_of_lt (by simpa using hlt)]
  rw [e1, e2]
  refine ⟨c.set j (UInt8.ofNat (x ^^^ 2 ^ tb)), ?_, by simp [hcl], ?_, _, rfl⟩
  · have h1 : w.ownsRow base 5 1 (.slice (some ⟨g, 0, none⟩) l.length vc) l.length (c.map bv) := by
      have : w.ownsRow base 5 1 (.slice (some ⟨g, 0, none⟩) l.length vc) c.length (c.map bv) := ho
      rw [hcl] at this; exact this
    have h2 := (h1.stored j (bv (UInt8.ofNat (x ^^^ 2 ^ tb)))).1
    show World.ownsRow _ _ _ _ _ (c.set j _).length ((c.set j _).map bv)
    rw [List.length_set, hcl, List.map_set]; exact h2
  · rw [numL_set c j tb hj _ (by rw [UInt8.toNat_ofNat', Nat.mod_eq_of_lt (by simpa using hlt), hx]), hn, mod_next p i f hb, Nat.xor_assoc, he]

theorem Turn.step {w : World} {base g vc : Nat} {l c : List UInt8} {p f i j tb x : Nat} (ho : Own w base (.slice (some ⟨g, 0, none⟩) l.length vc) c) (hcl : c.length = l.length) (hn : numL c = numL l ^^^ ((p % 2 ^ i) <<< f))
    (hb : p / 2 ^ i % 2 = 1) {hj : j < c.length} (hx : x = c[j].toNat) (he : f + i = 8 * j + tb) (htb : tb < 8) :
    Turn (w.setCell ⟨g, j, none⟩ (.int .u8 (bits .xor .u8 (x : Int) (2 ^ tb % 256)))) base (some ⟨g, 0, none⟩) vc l p f (i + 1) := by
  obtain ⟨c', h1, h2, h3, -⟩ := Turn.step' ho hcl hn hb hx he htb
  exact ⟨c', h1, h2, h3⟩


set_option maxRecDepth 100000 in
set_option maxHeartbeats 3200000 in
theorem bursts_law (v : Value) (l0 : List UInt8) (t p : Int) (w : World) (hv : Bts w v l0) (ht0 : 0 ≤ t) (ht1 : t ≤ 18446744073709551615) (hp0 : 0 ≤ p) (hp1 : p ≤ 4294967295) :
    Calls Try.prog 6 #[v, .int .u64 t, .int .u32 p] w fun e w' => e = .returned (.bool true) ∧ Below w.heap.size w w' := by
  have HV0 := hid hv
  obtain ⟨a0, c0, rfl⟩ := hv.shape
  clear hv
  obtain ⟨p0, rfl⟩ := Int.eq_ofNat_of_zero_le hp0
  go_enter Try.func6, Try.ntmps6
  go_wp2_with fail
  refine (cut_any _ _ _ HV0.out).mono ?_
  rintro e w1 ⟨va, na, ca, rfl, hA, rfl⟩
  have hll : (l0.take 3000).length ≤ 3000 := List.length_take_le _ _
  clear HV0
  generalize l0.take 3000 = l at *
  obtain rfl : na = l.length := by obtain ⟨_, _, _, e, h, -⟩ := hA; cases e; exact h
  have HV := hid hA
  clear hA
  by_cases hl0 : l.length = 0
  · have hz : ((l.length : Int) == 0) = true := beq_iff_eq.2 (by omega)
    clear hl0
    go_wp2_with (go_at_call 12; refine (lives_any _).mono ?_; rintro e w10 ⟨rfl, hb10⟩; have HB10 := hid hb10; clear hb10)
    go_ret
    exact ⟨rfl, HB10.out⟩
  · have hz : ((l.length : Int) == 0) = false := beq_eq_false_iff_ne.2 (by omega)
    have HO := hid (Own.empty w1)
    have hba : Below w1.heap.size w1 (w1.alloc (.cells #[] 5)) := (Below.refl _ _).alloc (Nat.le_refl _) _
    have HA1 := hid (HV.out.below hba)
    have hlI : (l.length : Int) ≤ 3000 := by omega
    have hlp : (0 : Int) < (l.length : Int) := by omega
    obtain ⟨f, hf⟩ : ∃ f : Nat, t % (8 * (l.length : Int)) = (f : Int) := ⟨(t % (8 * (l.length : Int))).toNat, by have := Int.emod_nonneg t (show 8 * (l.length : Int) ≠ 0 by omega); omega⟩
    have hf2 : (f : Int) < 8 * (l.length : Int) := by have := Int.emod_lt_of_pos t (show (0 : Int) < 8 * (l.length : Int) by omega); omega
    have hnz : ¬ 8 * (l.length : Int) = 0 := by omega
    go_wp2_with (at_builtin; refine wpl_append rfl (.tmp 18) (.tmp 19) rfl w1.heap.size (.slice (some ⟨w1.heap.size, 0, none⟩) 0 0) [] rfl HO.out _ l rfl HA1.out (by simp; omega) (by simp) ?_; intro va1 vc1 w2 ho1 hg1; simp only [List.length_nil, Nat.zero_add, List.nil_append] at ho1; have HB2 := hid (hba.trans (below_grown HO.out hg1 (by simp))); have HO1 := hid ho1; clear ho1 hg1)
    simp only [hf]
    clear hf hnz hz ht0 ht1
    have hfl : (f : Int) < 24000 := by omega
    go_loopw [10, 11] (fun tv iv wr => ∃ i : Nat, iv = .int .u64 i ∧ tv = .bool (decide (p0 % 2 ^ i ≠ 0)) ∧ i ≤ 32 ∧ f + i ≤ 8 * l.length ∧ Turn wr w1.heap.size va1 vc1 l p0 f i ∧ Below w1.heap.size w1 wr) (fun _ iv _ => 32 - (intOf iv).toNat)
    case atStart => exact ⟨0, rfl, by simp [Nat.mod_one], by omega, by omega, ⟨l, HO1.out, rfl, by simp [Nat.mod_one]⟩, HB2.out⟩
    case round =>
      obtain ⟨i, rfl, rfl, hi32, hfi, ⟨c, hoc, hcl, hnum⟩, hbr⟩ := hrel
      have HOC := hid hoc
      have HNUM := hid hnum
      have HBR := hid hbr
      have HCL := hid hcl
      have hsr := hbr.size
      clear hoc hnum hbr hcl HO1 HB2
      have hi0 : (i : Int) ≤ 32 := by omega
      by_cases hin : (i : Int) < 32
      · by_cases hfit : (f : Int) + (i : Int) < 8 * (l.length : Int)
        · obtain ⟨g, hg⟩ := HOC.out.some_block (by omega)
          obtain rfl := hg
          obtain ⟨j, hj⟩ : ∃ j : Nat, ((f : Int) + (i : Int)) / 8 = (j : Int) := ⟨(f + i) / 8, by omega⟩
          obtain ⟨tb, htb⟩ : ∃ tb : Nat, ((f : Int) + (i : Int)) % 8 = (tb : Int) := ⟨(f + i) % 8, by omega⟩
          have hj1 : (j : Int) < (l.length : Int) := by omega
          have htb1 : (tb : Int) < 8 := by omega
          have hje : f + i = 8 * j + tb := by omega
          have HJE := hid hje
          clear hje
          obtain ⟨x, hx1, hx2, hx3, hx4⟩ := HOC.out.byte_at (by have := HCL.out; omega) (j := j)
          by_cases hbit : p0 / 2 ^ i % 2 = 1
          · have hbe : bits .and .u32 ((p0 : Int) / 2 ^ i) 1 = 1 := by rw [bit_and _ _ (by omega), hbit]; rfl
            have HX1 := hid hx1
            have HBIT := hid hbit
            clear hx1 hbit
            go_wp2
            go_roundw
            case rel =>
              refine ⟨i + 1, by go_num, ?_, by omega, by omega, ?_, HBR.out.setCell (HOC.out.block_le) _⟩
              · rw [decide_eq_true (mod_pos _ _ HBIT.out)]
              · exact Turn.step HOC.out HCL.out HNUM.out HBIT.out HX1.out HJE.out (by omega)
            case measure => simp [intOf]; omega
          · have hbe : bits .and .u32 ((p0 : Int) / 2 ^ i) 1 = 0 := by rw [bit_and _ _ (by omega)]; omega
            have HBIT := hid (show p0 / 2 ^ i % 2 = 0 by omega)
            clear hbit hx1 hx2 hx4
            go_wp2
            go_roundw
            case rel =>
              refine ⟨i + 1, by go_num, by rw [mod_same _ _ HBIT.out], by omega, by omega, ⟨c, HOC.out, HCL.out, by rw [mod_same _ _ HBIT.out]; exact HNUM.out⟩, HBR.out⟩
            case measure => simp [intOf]; omega
        all_goals
          have HBURST := hid (burst l c (p0 % 2 ^ i) f HCL.out (by omega) (by have := Nat.mod_le p0 (2 ^ i); omega) HNUM.out)
          clear hfi
          go_wp2_with fail
          refine (sum_any _ _ _ (btss_one (heap_alloc_new _ _) ((HV.out.below HBR.out).alloc _))).mono ?_
          rintro e w5 ⟨rfl, rfl⟩
          rw [show [l].flatten = l from by simp]
          generalize crcAll l = q1 at HBURST ⊢
          go_wp2_with fail
          refine (sum_any _ _ _ (btss_one (heap_alloc2_new _ _ _) ((HOC.out.bts.alloc _).alloc _))).mono ?_
          rintro e w6 ⟨rfl, rfl⟩
          rw [show [c].flatten = c from by simp]
          generalize crcAll c = q2 at HBURST ⊢
          have HB9 := hid ((HBR.out.alloc (by omega) (.cells #[.slice va l.length ca] 22)).alloc (by simp; omega) (.cells #[.slice va1 l.length vc1] 22))
          have hq : ((q1 : Int) == (q2 : Int)) = decide (p0 % 2 ^ i = 0) := by
            have h := HBURST.out
            by_cases hd : p0 % 2 ^ i = 0
            · rw [decide_eq_true hd, h.2 hd]; simp
            · rw [decide_eq_false hd]
              refine beq_eq_false_iff_ne.2 fun h2 => hd (h.1 (by omega))
          generalize decide (p0 % 2 ^ i = 0) = dd at hq ⊢
          clear hsr hi0 hlI hlp hf2
          go_wp2_with (go_at_call 12; refine (lives_any _).mono ?_; rintro e w10 ⟨rfl, hb10⟩; have HB10 := hid hb10; clear hb10)
          go_ret
          exact ⟨rfl, HB9.out.trans (HB10.out.mono HB9.out.size)⟩
      all_goals
        have HBURST := hid (burst l c (p0 % 2 ^ i) f HCL.out (by omega) (by have := Nat.mod_le p0 (2 ^ i); omega) HNUM.out)
        clear hfi
        go_wp2_with fail
        refine (sum_any _ _ _ (btss_one (heap_alloc_new _ _) ((HV.out.below HBR.out).alloc _))).mono ?_
        rintro e w5 ⟨rfl, rfl⟩
        rw [show [l].flatten = l from by simp]
        generalize crcAll l = q1 at HBURST ⊢
        go_wp2_with fail
        refine (sum_any _ _ _ (btss_one (heap_alloc2_new _ _ _) ((HOC.out.bts.alloc _).alloc _))).mono ?_
        rintro e w6 ⟨rfl, rfl⟩
        rw [show [c].flatten = c from by simp]
        generalize crcAll c = q2 at HBURST ⊢
        have HB9 := hid ((HBR.out.alloc (by omega) (.cells #[.slice va l.length ca] 22)).alloc (by simp; omega) (.cells #[.slice va1 l.length vc1] 22))
        have hq : ((q1 : Int) == (q2 : Int)) = decide (p0 % 2 ^ i = 0) := by
          have h := HBURST.out
          by_cases hd : p0 % 2 ^ i = 0
          · rw [decide_eq_true hd, h.2 hd]; simp
          · rw [decide_eq_false hd]
            refine beq_eq_false_iff_ne.2 fun h2 => hd (h.1 (by omega))
        generalize decide (p0 % 2 ^ i = 0) = dd at hq ⊢
        clear hsr hi0 hlI hlp hf2
        go_wp2_with (go_at_call 12; refine (lives_any _).mono ?_; rintro e w10 ⟨rfl, hb10⟩; have HB10 := hid hb10; clear hb10)
        go_ret
        exact ⟨rfl, HB9.out.trans (HB10.out.mono HB9.out.size)⟩
end Go.Proofs.Ytijpbcbmmecdoaa
