/- The document's example of a journal is as it says: lives answers true, whatever lies in memory; nothing that was there has turned. -/
import Derived.Test.YtpchmdfkifbciaaJnAt
namespace Go.Proofs.Ytpchmdfkifbciaa
open Go.RowKit

def jx1 : Int × DS × JS := saveR (newS 10) J0 [115]
def jS1 : DS := jx1.2.1
def jJ1 : JS := jx1.2.2
def jS2 : DS := addS jS1 jJ1 [97]
def jJ2 : JS := addJ jS1 jJ1 [97]
def jS3 : DS := syncD jS2 jJ2
def jJ3 : JS := syncJ jS2 jJ2
def jS4 : DS := addS jS3 jJ3 [98, 98]
def jJ4 : JS := addJ jS3 jJ3 [98, 98]
def jS5 : DS := crashS jS4 3
theorem jx_all : jx1.1 = 0 ∧ addE jS1 jJ1 [97] = 0 ∧ syncE jS2 jJ2 = 0 ∧ addE jS3 jJ3 [98, 98] = 0 ∧ jS5.off = false ∧ jS5.left = -1 ∧ (unfE jS5.image = 0 ∧ jS5.image.length ≤ wordV jS5.image + 8) ∧ jS5.log = framesB [[97]] ++ [2, 0, 0] ∧ unfD jS5.image = [115] ∧ sizeJ jJ1 ≤ 1000000000 ∧ sizeJ jJ3 ≤ 1000000000 ∧ sizeJ ⟨[115], [[97]], false⟩ = 9 := by decide +kernel
theorem new_block {w : World} {k n c : Nat} (h : (Value.slice (some ⟨w.heap.size, 0, none⟩) n c).ownBlock = some k) : w.heap.size ≤ k := by cases h; exact Nat.le_refl _
set_option maxHeartbeats 1600000 in
theorem jlives_any (w : World) : Calls Try.prog 25 #[] w fun e w' => e = .returned (.bool true) ∧ Below w.heap.size w w' := by
  have kc := fun (w : World) (C : Array Value) (n c : Nat) => Lib.run_convert_bytes_const (P := Try.prog) w 34 5 C n c Try.underlyingB Try.underlyingU
  obtain ⟨x1, x2, x3, x4, x5, x6, x7, x8, x9, x10, x11, x12⟩ := jx_all
  have X1 := hid x1
  have X2 := hid x2
  have X3 := hid x3
  have X4 := hid x4
  have X5 := hid x5
  have X6 := hid x6
  have X7 := hid x7
  have X8 := hid x8
  have X9 := hid x9
  have X10 := hid x10
  have X11 := hid x11
  have X12 := hid x12
  clear x1 x2 x3 x4 x5 x6 x7 x8 x9 x10 x11 x12
  go_enter Try.func25, Try.ntmps25
  go_wp2_with fail
  refine (new_ok 10 _ (by omega) (by omega)).mono ?_
  rintro e w1 ⟨db, RD, rfl, hd1, hr1, hb1⟩
  have HA1 := hid (At.new hd1 hr1 hb1)
  clear hd1 hr1 hb1
  go_wp2_with fail
  refine (At.format_new HA1.out (Nat.le_refl _) ((Below.refl _ _).alloc (Nat.le_refl _) _) _ [115] (bts_block [115] (heap_alloc_new w1 _) rfl 1 rfl (by omega)) (fun k hk => new_block hk) X1.out).mono ?_
  rintro e w2 ⟨jb, rfl, ha2⟩
  have HA2 : Hid (JAt w.heap.size w w2 jb db jS1 jJ1) := hid ha2
  clear ha2 HA1
  go_wp2_with fail
  refine (JAt.add_new HA2.out (Nat.le_refl _) ((Below.refl _ _).alloc (Nat.le_refl _) _) _ [97] (bts_block [97] (heap_alloc_new w2 _) rfl 1 rfl (by omega)) (fun k hk => new_block hk) X10.out).mono ?_
  rw [X2.out]
  rintro e w3 ⟨rfl, ha3⟩
  have HA3 : Hid (JAt w.heap.size w w3 jb db jS2 jJ2) := hid ha3
  clear ha3 HA2
  go_wp2_with fail
  refine (HA3.out.sync (Nat.le_refl _)).mono ?_
  rw [X3.out]
  rintro e w4 ⟨rfl, ha4⟩
  have HA4 : Hid (JAt w.heap.size w w4 jb db jS3 jJ3) := hid ha4
  clear ha4 HA3
  go_wp2_with fail
  refine (JAt.add_new HA4.out (Nat.le_refl _) ((Below.refl _ _).alloc (Nat.le_refl _) _) _ [98, 98] (bts_block [98, 98] (heap_alloc_new w4 _) rfl 2 rfl (by omega)) (fun k hk => new_block hk) X11.out).mono ?_
  rw [X4.out]
  rintro e w5 ⟨rfl, ha5⟩
  have HA5 : Hid (JAt w.heap.size w w5 jb db jS4 jJ4) := hid ha5
  clear ha5 HA4
  go_wp2_with fail
  refine (HA5.out.crash (Nat.le_refl _) 3).mono ?_
  rintro e w6 ⟨rfl, ha6⟩
  have HA6 : Hid (At w.heap.size w w6 db jS5) := hid ha6.at
  clear ha6 HA5
  go_wp2_with fail
  refine (At.open_ok HA6.out (Nat.le_refl _) X5.out X6.out X7.out [[97]] [2, 0, 0] X8.out (by simp) (.inr (by decide))).mono ?_
  rw [X9.out]
  rintro e w7 ⟨jb7, S7, rfl, ha7, -⟩
  have HA7 := hid ha7
  clear ha7 HA6
  go_wp2_with fail
  obtain ⟨R7, hj7⟩ := HA7.out.jn
  have HJ7 := hid hj7
  have HB7 := hid HA7.out.below
  clear hj7 HA7
  refine (records_any jb7 db R7 _ _ HJ7.out (by simp) (by simp)).mono ?_
  rintro e w8 ⟨va8, vc8, rfl, ⟨vs8, hr8⟩, hb8⟩
  have HR8 := hid hr8
  have HJ8 := hid (HJ7.out.but (But.of_below (R := fun _ => False) hb8) fun _ _ h => h)
  have HB8 := hid (HB7.out.trans (hb8.mono HB7.out.size))
  clear hr8 hb8 HJ7 HB7
  go_wp2_with fail
  refine (jimage_any jb7 db R7 _ _ HJ8.out (by simp)).mono ?_
  rintro e w9 ⟨va9, vc9, rfl, ho9, hb9⟩
  have HJ9 := hid (HJ8.out.but (But.of_below (R := fun _ => False) hb9) fun _ _ h => h)
  have HB9 := hid (HB8.out.trans (hb9.mono HB8.out.size))
  have hcs : (convert 34 9 (.slice va9 1 vc9)).run Try.prog w9 = .ok (.string ⟨#[115]⟩) w9 := conv_string _ _ _ ho9.bts
  have HR9 := hid (HR8.out.btss.below hb9)
  clear ho9 hb9 HR8 HB8 HJ8
  obtain ⟨ao, n0, cap0, e0, -, hc0, -, hn0, hcell⟩ := HR9.out
  simp at e0
  obtain ⟨rfl, rfl, rfl⟩ := e0
  have hao : ∃ ad, va8 = some ad := by cases va8 with | none => exact absurd (hn0 rfl) (by omega) | some ad => exact ⟨ad, rfl⟩
  obtain ⟨ad, rfl⟩ := hao
  obtain ⟨u, ku, hu⟩ := hcell ad rfl 0 (by simp)
  rw [Addr.add_zero'] at ku
  have hu1 : Bts w9 u [97] := hu
  obtain ⟨ua, uc, rfl⟩ := hu1.shape
  have hcu : (convert 34 9 (.slice ua 1 uc)).run Try.prog w9 = .ok (.string ⟨#[97]⟩) w9 := conv_string _ _ _ hu1
  have ku' : w9.cell? ad = some (.slice ua 1 uc) := ku
  clear hu hu1 ku hcell HR9 hn0
  go_wp2_with (go_at_call 38; refine (size_any jb7 db R7 _ _ HJ9.out).mono ?_; rw [X12.out]; rintro e w10 ⟨rfl, rfl⟩)
  go_ret
  exact ⟨rfl, HB9.out⟩
end Go.Proofs.Ytpchmdfkifbciaa
