/- The document's examples of devices are as it says: lives answers true, whatever lies in memory; nothing that was there has turned. -/
import Derived.Test.YtengonfilmhaoabDkLog
import Derived.Lib.SlBytesConst
namespace Go.Proofs.Ytengonfilmhaoab
open Go.RowKit

/-- The device at b lies above B; since w0 only what lies above B has turned. -/
def At (B : Nat) (w0 w : World) (b : Nat) (S : DS) : Prop := ∃ R, Dk w b R S ∧ (∀ k, R k → B ≤ k) ∧ Below B w0 w
theorem Step.at {B : Nat} {w0 w w' : World} {b : Nat} {R : Nat → Prop} {S' : DS} (h : Step w b R w' S') (hB : Below B w0 w) (hBs : B ≤ w0.heap.size) (hr : ∀ k, R k → B ≤ k) : At B w0 w' b S' := by
  obtain ⟨R', d, t, r⟩ := h
  have hs := hB.size
  refine ⟨R', d, fun k hk => ?_, hB.trans (t.below (by omega) hr)⟩
  rcases r k hk with h | h
  · exact hr k h
  · omega
theorem At.do {B : Nat} {w0 w : World} {b : Nat} {S S' : DS} {f : FuncId} {args : Array Value} {v : Value} (h : At B w0 w b S) (hB : B ≤ w0.heap.size) (hc : ∀ R, Dk w b R S → Calls Try.prog f args w fun e w' => e = .returned v ∧ Step w b R w' S') :
    Calls Try.prog f args w fun e w' => e = .returned v ∧ At B w0 w' b S' := by
  obtain ⟨R, d, r, hb⟩ := h
  exact (hc R d).mono fun e w' h => ⟨h.1, h.2.at hb hB r⟩
theorem At.later {B : Nat} {w0 w w' : World} {b : Nat} {S : DS} (h : At B w0 w b S) (hB : B ≤ w0.heap.size) (hb : Below w.heap.size w w') : At B w0 w' b S := by
  obtain ⟨R, d, r, h0⟩ := h
  exact ⟨R, d.below hb, r, h0.trans (hb.mono (Nat.le_trans hB h0.size))⟩
theorem At.below {B : Nat} {w0 w : World} {b : Nat} {S : DS} (h : At B w0 w b S) : Below B w0 w := by obtain ⟨_, _, _, h⟩ := h; exact h
theorem At.new {w w' : World} {b : Nat} {R : Nat → Prop} {S : DS} (h : Dk w' b R S) (hr : ∀ k, R k → w.heap.size ≤ k) (hb : Below w.heap.size w w') : At w.heap.size w w' b S := ⟨R, h, hr, hb⟩
/-- A block of bytes, as a slice. -/
theorem bts_block {W : World} {k : Nat} {cs : Array Value} {t : TypeId} {fr : Nat × Nat} (l : List UInt8) (h : W.heap[k]? = some (.cells cs t fr)) (hc : cs = (l.map bv).toArray) (n : Nat) (hn : n = l.length) (hl : n ≤ 9223372036854775807) :
    Bts W (.slice (some ⟨k, 0, none⟩) n n) l := by
  subst hc
  refine ⟨_, _, _, rfl, hn, Nat.le_refl _, hl, (fun h => by cases h), ?_⟩
  intro ad had j hj
  obtain rfl := Option.some.inj had
  rw [Addr.add_lit, cell_of_row W k _ _ _ _ h]
  simp [bv, hj]
def zeros : List UInt8 := List.replicate 600 0
theorem zeros_len : zeros.length = 600 := List.length_replicate
theorem zeros_made : (madeCells (Value.int .u8 0).cells (600 * 1)).toList = zeros.map bv := by kernel_rfl
/-- A Bts as a string. -/
theorem Try.underlyingStr : Try.prog.underlying 9 = some .string := by kernel_rfl
theorem conv_string (w : World) (v : Value) (l : List UInt8) (hv : Bts w v l) : (convert 22 9 v).run Try.prog w = .ok (.string ⟨l.toArray⟩) w := by
  obtain ⟨ao, n, cap, rfl, rfl, hc, hm, hnone, hcell⟩ := hv
  cases ao with
  | some ad => exact run_convert_bytes_back w _ _ _ ad cap l Try.underlyingB Try.underlyingU Try.underlyingStr (hcell ad rfl)
  | none =>
    have h0 := hnone rfl
    subst h0
    have hl : l = [] := List.eq_nil_of_length_eq_zero (by omega)
    subst hl
    rw [run_convert_bytes_string w _ _ _ none _ 0 Try.underlyingB Try.underlyingU Try.underlyingStr]
    simp [Conv.bytesToString]
    rfl
def ex1 : DS := writeS (newS 2) (layS (newS 2) zeros) (layS (newS 2) zeros)
def ex2 : DS := writeS (newS 2) (layS (newS 2) [97, 98]) (layS (newS 2) [97, 98])
def ex3 : DS := writeS ex2 (syncS ex2) ex2
def ex4 : DS := writeS ex3 (layS ex3 [99, 100]) (layS ex3 [99, 100])
def ex5 : DS := crashS ex4 1
theorem ex_all : writeE (newS 2) (layE (newS 2) zeros) = 0 ∧ writeE ex1 (stageE ex1 [1]) = 3 ∧ toldL ex5 ex5.log = [97, 98, 99] ∧ toldE ex5 = 0 ∧ usedS ex5 = 1 ∧ ex5.room = 2 := by decide +kernel
set_option maxHeartbeats 1600000 in
theorem lives_any (w : World) : Calls Try.prog 6 #[] w fun e w' => e = .returned (.bool true) ∧ Below w.heap.size w w' := by
  have kc := fun (w : World) (C : Array Value) (n c : Nat) => Lib.run_convert_bytes_const (P := Try.prog) w 22 5 C n c Try.underlyingB Try.underlyingU
  obtain ⟨x1, x2, x3, x4, x5, x6⟩ := ex_all
  have X := hid ex_all
  have HE1 := hid x1
  have HE2 := hid x2
  have HE3 := hid x3
  have HE4 := hid x4
  have HE5 := hid x5
  have HE6 := hid x6
  clear x1 x2 x3 x4 x5 x6 X
  obtain ⟨i0, hi, hz0, hz1, hz2⟩ := info_parts Try.infoB
  have HI := hid hi
  have HZ0 := hid hz0
  have HZ1 := hid hz1
  have HZ2 := hid hz2
  clear hi hz0 hz1 hz2
  go_enter Try.func6, Try.ntmps6
  go_wp2_with fail
  refine (new_ok 2 _ (by omega) (by omega)).mono ?_
  rintro e w1 ⟨b, R, rfl, hd1, hr1, hb1⟩
  have HA1 := hid (At.new hd1 hr1 hb1)
  clear hd1 hr1 hb1
  go_wp2_with (at_make; refine wpList_make_full _ rfl _ _ 22 rfl 0 5 i0 (.int .u8 0) 1 Try.underlyingB HI.out HZ0.out HZ1.out .i64 .i64 _ _ 600 rfl rfl rfl rfl (by rw [HZ2.out]; omega) (by unfold maxLen; omega) (Nat.zero_le _) ?_; intro w2 ho2 hg2; have HO2 : Hid (Own w2 0 (.slice (some ⟨w1.heap.size, 0, none⟩) 600 600) zeros) := hid (by rw [zeros_made] at ho2; show w2.ownsRow _ _ _ _ zeros.length _; rw [zeros_len]; exact ho2); have HA2 := hid (HA1.out.later (Nat.le_refl _) ⟨hg2.os, hg2.tape, hg2.output, hg2.size, fun k hk => hg2.block k hk (by simp)⟩); clear ho2 hg2)
  refine (HA2.out.do (Nat.le_refl _) fun R d => append_any b R _ _ zeros _ d HO2.out.bts (by rw [zeros_len]; omega)).mono ?_
  rintro e w3 ⟨rfl, ha3⟩
  have HA3 : Hid (At w.heap.size w w3 b ex1) := hid ha3
  clear ha3
  rw [HE1.out]
  go_wp2_with fail
  have HB3 := hid (bts_block (W := w3.alloc (.cells #[.int .u8 1] 5)) [1] (heap_alloc_new w3 _) rfl 1 rfl (by omega))
  have HA3' := hid (HA3.out.later (Nat.le_refl _) ((Below.refl _ _).alloc (Nat.le_refl _) (.cells #[.int .u8 1] 5)))
  refine (HA3'.out.do (Nat.le_refl _) fun R d => stage_any b R _ _ [1] _ d HB3.out (by simp)).mono ?_
  rintro e w4 ⟨rfl, ha4⟩
  have HB4 := hid ha4.below
  clear ha4 HA3 HA3' HB3 HA1 HA2 HO2
  rw [HE2.out]
  go_wp2_with fail
  refine (new_ok 2 _ (by omega) (by omega)).mono ?_
  rintro e w5 ⟨b5, R5, rfl, hd5, hr5, hb5⟩
  have HA5 : Hid (At w.heap.size w w5 b5 (newS 2)) := hid ⟨R5, hd5, fun k hk => Nat.le_trans HB4.out.size (hr5 k hk), HB4.out.trans (hb5.mono HB4.out.size)⟩
  clear hd5 hr5 hb5 HB4
  go_wp2_with fail
  have HB6 := hid (bts_block (W := w5.alloc (.cells #[.int .u8 97, .int .u8 98] 5 (2, 3))) [97, 98] (heap_alloc_new w5 _) rfl 2 rfl (by omega))
  have HA6 := hid (HA5.out.later (Nat.le_refl _) ((Below.refl _ _).alloc (Nat.le_refl _) (.cells #[.int .u8 97, .int .u8 98] 5 (2, 3))))
  refine (HA6.out.do (Nat.le_refl _) fun R d => append_any b5 R _ _ [97, 98] _ d HB6.out (by simp)).mono ?_
  rintro e w7 ⟨rfl, ha7⟩
  have HA7 : Hid (At w.heap.size w w7 b5 ex2) := hid ha7
  clear ha7 HA6 HB6 HA5
  go_wp2_with fail
  refine (HA7.out.do (Nat.le_refl _) fun R d => sync_any b5 R _ _ d).mono ?_
  rintro e w8 ⟨rfl, ha8⟩
  have HA8 : Hid (At w.heap.size w w8 b5 ex3) := hid ha8
  clear ha8 HA7
  go_wp2_with fail
  have HB9 := hid (bts_block (W := w8.alloc (.cells #[.int .u8 99, .int .u8 100] 5 (2, 3))) [99, 100] (heap_alloc_new w8 _) rfl 2 rfl (by omega))
  have HA9 := hid (HA8.out.later (Nat.le_refl _) ((Below.refl _ _).alloc (Nat.le_refl _) (.cells #[.int .u8 99, .int .u8 100] 5 (2, 3))))
  refine (HA9.out.do (Nat.le_refl _) fun R d => append_any b5 R _ _ [99, 100] _ d HB9.out (by simp)).mono ?_
  rintro e w10 ⟨rfl, ha10⟩
  have HA10 : Hid (At w.heap.size w w10 b5 ex4) := hid ha10
  clear ha10 HA9 HB9 HA8
  go_wp2_with fail
  refine (HA10.out.do (Nat.le_refl _) fun R d => crash_any b5 R _ 1 _ d).mono ?_
  rintro e w11 ⟨rfl, ha11⟩
  have HA11 : Hid (At w.heap.size w w11 b5 ex5) := hid ha11
  clear ha11 HA10
  go_wp2_with fail
  obtain ⟨R11, d11, r11, hb11⟩ := HA11.out
  have D11 := hid d11
  have HB11 := hid hb11
  clear d11 r11 hb11 HA11
  refine (log_any b5 R11 _ _ D11.out).mono ?_
  rintro e w12 ⟨va, vc, rfl, ho12, hb12⟩
  have D12 := hid (D11.out.below hb12)
  have HB12 := hid (HB11.out.trans (hb12.mono HB11.out.size))
  have hcs := conv_string _ _ _ ho12.bts
  rw [HE3.out] at hcs
  rw [HE3.out, HE4.out]
  have hcs' : (convert 22 9 (.slice va 3 vc)).run Try.prog w12 = .ok (.string ⟨#[97, 98, 99]⟩) w12 := hcs
  clear ho12 hb12 hcs D11 HB11
  show _
  go_wp2_with (first | (go_at_call 21; refine (used_any _ _ _ _ D12.out).mono ?_; rw [HE5.out]; rintro e w13 ⟨rfl, n13, rfl⟩) | (go_at_call 22; refine (room_any _ R11 ex5 _ (D12.out.below (drewN_below _ _))).mono ?_; rw [HE6.out]; rintro e w14 ⟨rfl, rfl⟩))
  go_ret
  exact ⟨rfl, HB12.out.trans ((drewN_below _ _).mono HB12.out.size)⟩
end Go.Proofs.Ytengonfilmhaoab
