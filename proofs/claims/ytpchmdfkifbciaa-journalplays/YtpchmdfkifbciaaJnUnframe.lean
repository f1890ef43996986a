/- What Unframe of package octet answers. Conditions: the bytes lie in memory. -/
import Derived.Test.YtpchmdfkifbciaaJnFrame
import Derived.Deep.RegionWith
import Derived.Deep.DrawnRows
namespace Go.Proofs.Ytpchmdfkifbciaa
open Go.RowKit
attribute [local go_sem ↓] Go.wp_at_zero Go.wp_at_succ

/-- The number of the answer at the front of bytes. -/
def unfE (r : List UInt8) : Nat :=
  if r = [] then 8 else if r.length < 4 then 4 else if 1048576 < wordV r then 4 else if r.length < 4 + wordV r + 4 then 4
  else if wordV (r.drop (4 + wordV r)) = crcAll (r.take (4 + wordV r)) then 0 else 5
def unfD (r : List UInt8) : List UInt8 := (r.drop 4).take (wordV r)
/-- What Unframe's answer is. -/
def UnfV (w' : World) (base : Nat) (r : List UInt8) (p : Nat) (va : Option Addr) (m vc : Nat) (next code : Int) : Prop :=
  if unfE r = 0 then Own w' base (.slice va m vc) (unfD r) ∧ m = (unfD r).length ∧ next = p + wordV r + 8 ∧ code = 0 else va = none ∧ m = 0 ∧ vc = 0 ∧ next = 0 ∧ code = unfE r

set_option maxHeartbeats 800000 in
theorem unframe_arg (v : Value) (l : List UInt8) (t : Int) (w : World) (hv : Bts w v l) (ht : t < 0 ∨ (l.length : Int) < t) :
    Calls Try.prog 73 #[v, .int .i64 t] w fun e w' => e = .returned (.tuple #[.slice none 0 0, .int .i64 0, .int .i64 1]) ∧ w' = w := by
  obtain ⟨ao, n, cap, rfl, rfl, hc, hcap, hnone, hcell⟩ := hv
  clear hcell hnone
  by_cases h : t < 0
  · clear ht
    go_enter Try.func73, Try.ntmps73
    go_wp2
    go_ret3
    exact ⟨rfl, rfl⟩
  · have h2 : (l.length : Int) < t := by omega
    clear ht
    go_enter Try.func73, Try.ntmps73
    go_wp2
    go_ret3
    exact ⟨rfl, rfl⟩

set_option maxHeartbeats 3200000 in
theorem unframe_any (v : Value) (l : List UInt8) (p : Nat) (w : World) (hv : Bts w v l) (hp : p ≤ l.length) (hll : l.length ≤ 1000000000) :
    Calls Try.prog 73 #[v, .int .i64 (p : Int)] w fun e w' => ∃ va m vc next code, e = .returned (.tuple #[.slice va m vc, .int .i64 next, .int .i64 code]) ∧ UnfV w' w.heap.size (l.drop p) p va m vc next code ∧ Below w.heap.size w w' := by
  have HV := hid hv
  obtain ⟨ao, n, cap, rfl, rfl, hc, hcap, hnone, hcell⟩ := hv
  have hp0 : (0 : Int) ≤ (p : Int) := by omega
  have hpl : (p : Int) ≤ (l.length : Int) := by omega
  have hplI : ¬ (l.length : Int) < (p : Int) := by omega
  have hcI : (l.length : Int) ≤ (cap : Int) := by omega
  clear hcell
  by_cases hend : p = l.length
  · have HE : Hid (unfE (l.drop p) = 8) := hid (by rw [hend, List.drop_length]; rfl)
    have hm : l.length - p = 0 := by omega
    clear hend hnone
    by_cases hcp : cap = p
    all_goals
      go_enter Try.func73, Try.ntmps73
      go_wp2
      go_ret3
      exact ⟨none, 0, 0, 0, 8, rfl, by unfold UnfV; rw [HE.out]; exact ⟨rfl, rfl, rfl, rfl, rfl⟩, Below.refl _ _⟩
  · have hao : ∃ a, ao = some a := by cases ao with | none => exact absurd (hnone rfl) (by omega) | some a => exact ⟨a, rfl⟩
    obtain ⟨a, rfl⟩ := hao
    have hcp : ¬ cap = p := by omega
    obtain ⟨a1, ha1⟩ : ∃ a1, a1 = a.add p := ⟨_, rfl⟩
    obtain ⟨m, hm⟩ : ∃ m, m = l.length - p := ⟨_, rfl⟩
    obtain ⟨cp, hcpe⟩ : ∃ cp, cp = cap - p := ⟨_, rfl⟩
    have HR : Hid (Bts w (.slice (some a1) m cp) (l.drop p)) := hid (by
      have := HV.out.sub (k := p) (n := l.length - p) (ao' := some (a.add p)) (by omega) (fun _ => rfl) (fun h => absurd h hcp)
      rw [List.take_of_length_le (by simp)] at this
      rw [ha1, hm, hcpe]; exact this)
    have hml : m = (l.drop p).length := by rw [hm]; simp
    obtain ⟨r, hr⟩ : ∃ r, r = l.drop p := ⟨_, rfl⟩
    rw [← hr] at HR hml ⊢
    have hm1 : 1 ≤ m := by omega
    have hmc : m ≤ cp := by omega
    have hmb : m ≤ 1000000000 := by omega
    have ea : a.add p = a1 := ha1.symm
    have em : l.length - p = m := hm.symm
    have ec : cap - p = cp := hcpe.symm
    have hm0 : ((m : Int) == 0) = false := by simp; omega
    clear ha1 hm hcpe hr hend hnone HV hml
    have hrm : r.length = m := by obtain ⟨_, _, _, e, h, -⟩ := HR.out; cases e; exact h.symm
    have HRM := hid hrm
    have hrn : r ≠ [] := by intro h; rw [h] at hrm; simp at hrm; omega
    have HRN := hid hrn
    clear hrm hrn
    by_cases h4 : (m : Int) < 4
    · have HE : Hid (unfE r = 4) := hid (by unfold unfE; rw [if_neg HRN.out, if_pos (by rw [HRM.out]; omega)])
      go_enter Try.func73, Try.ntmps73
      go_wp2
      go_ret3
      exact ⟨none, 0, 0, 0, 4, rfl, by unfold UnfV; rw [HE.out]; exact ⟨rfl, rfl, rfl, rfl, rfl⟩, Below.refl _ _⟩
    · go_enter Try.func73, Try.ntmps73
      go_wp2_with fail
      refine (takeWord_any _ r _ HR.out (by rw [HRM.out]; omega)).mono ?_
      rintro e w1 ⟨rfl, rfl⟩
      have hwl := wordV_lt r
      obtain ⟨n, hn⟩ : ∃ n, n = wordV r := ⟨_, rfl⟩
      rw [← hn] at hwl ⊢
      have HN := hid hn
      clear hn
      have hn2 : (n : Int) ≤ 4294967295 := by omega
      clear hwl
      by_cases hbig : (1048576 : Int) < (n : Int)
      · have HE : Hid (unfE r = 4) := hid (by unfold unfE; rw [if_neg HRN.out, if_neg (by rw [HRM.out]; omega), if_pos (by rw [← HN.out]; omega)])
        go_wp2
        go_ret3
        exact ⟨none, 0, 0, 0, 4, rfl, by unfold UnfV; rw [HE.out]; exact ⟨rfl, rfl, rfl, rfl, rfl⟩, Below.refl _ _⟩
      · have hn3 : (n : Int) ≤ 1048576 := by omega
        by_cases hshort : (m : Int) < 4 + (n : Int) + 4
        · have HE : Hid (unfE r = 4) := hid (by unfold unfE; rw [if_neg HRN.out, if_neg (by rw [HRM.out]; omega), if_neg (by rw [← HN.out]; omega), if_pos (by rw [← HN.out, HRM.out]; omega)])
          go_wp2
          go_ret3
          exact ⟨none, 0, 0, 0, 4, rfl, by unfold UnfV; rw [HE.out]; exact ⟨rfl, rfl, rfl, rfl, rfl⟩, Below.refl _ _⟩
        · obtain ⟨k, hk⟩ : ∃ k, k = 4 + n := ⟨_, rfl⟩
          have hkI : (4 : Int) + (n : Int) = (k : Int) := by omega
          have hk0 : (0 : Int) ≤ (k : Int) := by omega
          have hk4 : (4 : Int) ≤ (k : Int) := by omega
          have hkm : (k : Int) + 4 ≤ (m : Int) := by omega
          have hkm' : (k : Int) ≤ (m : Int) := by omega
          have hmcI : (m : Int) ≤ (cp : Int) := by omega
          have hkc : (k : Int) ≤ (cp : Int) := by omega
          have hck : ¬ cp = k := by omega
          have hc4 : ¬ cp = 4 := by omega
          have hkn : k - 4 = n := by omega
          have hsh : ¬ (m : Int) < (k : Int) + 4 := by omega
          have hT := HR.out.sub (k := k) (n := m - k) (ao' := some (a1.add k)) (by rw [HRM.out]; omega) (fun _ => rfl) (fun h => absurd h hck)
          rw [List.take_of_length_le (by simp [HRM.out])] at hT
          have hH := HR.out.take (n := k) (by rw [HRM.out]; omega)
          have hD := HR.out.sub (k := 4) (n := n) (ao' := some (a1.add 4)) (by rw [HRM.out]; omega) (fun _ => rfl) (fun h => absurd h hc4)
          have hT0 : Bts w1.drew (.slice (some (a1.add k)) (m - k) (cp - k)) (r.drop k) := hT
          have hT1 : Bts (w1.alloc (.cells #[.slice (some a1) k cp] 34)).drew (.slice (some (a1.add k)) (m - k) (cp - k)) (r.drop k) := hT.alloc _
          have hS1 : Btss (w1.alloc (.cells #[.slice (some a1) k cp] 34)).drew (.slice (some ⟨w1.heap.size, 0, none⟩) 1 1) [r.take k] := btss_one (W := w1.alloc (.cells #[.slice (some a1) k cp] 34)) (heap_alloc_new _ _) (hH.alloc _)
          have HD : Hid (Bts (w1.alloc (.cells #[.slice (some a1) k cp] 34)).drew (.slice (some (a1.add 4)) n (cp - 4)) ((r.drop 4).take n)) := hid (hD.alloc _)
          have HT0 := hid hT0
          have HT1 := hid hT1
          have HS1 := hid hS1
          have h4k : 4 ≤ (r.drop k).length := by simp [HRM.out]; omega
          have H4K := hid h4k
          have HUE : Hid (unfE r = if wordV (r.drop k) = crcAll (r.take k) then 0 else 5) := hid (by
            unfold unfE
            rw [if_neg HRN.out, if_neg (by rw [HRM.out]; omega), if_neg (by rw [← HN.out]; omega), if_neg (by rw [← HN.out, HRM.out]; omega), ← HN.out, ← hk])
          have HUD : Hid (unfD r = (r.drop 4).take n) := hid (by unfold unfD; rw [← HN.out])
          have hdl : ((r.drop 4).take n).length = n := by simp [HRM.out]; omega
          have HDL := hid hdl
          clear hT hH hD hT0 hT1 hS1 hk hshort h4k hdl
          have hcl := crcAll_lt (r.take k)
          have hwl := wordV_lt (r.drop k)
          have HFL : Hid ([r.take k].flatten = r.take k) := hid (by simp)
          obtain ⟨x, hx⟩ : ∃ x, x = wordV (r.drop k) := ⟨_, rfl⟩
          obtain ⟨y, hy⟩ : ∃ y, y = crcAll (r.take k) := ⟨_, rfl⟩
          rw [← hx, ← hy] at HUE
          rw [← hx] at hwl
          rw [← hy] at hcl
          have HX := hid hx
          have HY := hid hy
          clear hx hy
          have hx2 : (x : Int) ≤ 4294967295 := by omega
          have hy2 : (y : Int) ≤ 4294967295 := by omega
          clear hcl hwl
          by_cases hxy : x = y
          · subst hxy
            rw [if_pos rfl] at HUE
            go_wp2
            go_region_with (first
              | (go_at_call 80; refine (takeWord_any _ (r.drop k) _ (by first | exact HT0.out | exact HT1.out) H4K.out).mono ?_; rintro e w2 ⟨rfl, rfl⟩; rw [← HX.out])
              | (go_at_call 79; refine (sum_any _ [r.take k] _ HS1.out).mono ?_; rintro e w2 ⟨rfl, rfl⟩; rw [HFL.out, ← HY.out]))
            all_goals
              go_wp2_with (at_builtin; refine wpl_appendO rfl _ (.tmp 51) rfl w1.heap.size (.slice none 0 0) [] rfl (Own.nil _ _) _ ((r.drop 4).take n) rfl HD.out (by simp; omega) (by simp [World.drew]) ?_; intro va9 vc9 w9 ho9 hg9; have HB9 := hid ((((Below.refl w1.heap.size w1).alloc (Nat.le_refl _) _).drew).trans (below_grown (Own.nil _ w1.heap.size) hg9 (by simp [World.drew]))); have HO9 := hid ho9; clear ho9 hg9)
              go_ret3
              refine ⟨va9, _, vc9, _, 0, rfl, ?_, HB9.out⟩
              have ho := HO9.out
              simp only [List.length_nil, Nat.zero_add, List.nil_append, HDL.out] at ho
              have hmin : min n (r.length - 4) = n := by rw [HRM.out]; omega
              unfold UnfV
              rw [HUE.out, HUD.out]
              refine ⟨?_, ?_, ?_, rfl⟩
              · rw [hmin]; exact ho
              · rw [hmin, HDL.out]
              · rw [← HN.out]; omega
          · rw [if_neg hxy] at HUE
            have hne : ((x : Int) == (y : Int)) = false := by simp; omega
            clear hxy
            go_wp2
            go_region_with (first
              | (go_at_call 80; refine (takeWord_any _ (r.drop k) _ (by first | exact HT0.out | exact HT1.out) H4K.out).mono ?_; rintro e w2 ⟨rfl, rfl⟩; rw [← HX.out])
              | (go_at_call 79; refine (sum_any _ [r.take k] _ HS1.out).mono ?_; rintro e w2 ⟨rfl, rfl⟩; rw [HFL.out, ← HY.out]))
            all_goals
              go_wp2
              go_ret3
              exact ⟨none, 0, 0, 0, 5, rfl, by unfold UnfV; rw [HUE.out]; exact ⟨rfl, rfl, rfl, rfl, rfl⟩, ((Below.refl _ _).alloc (Nat.le_refl _) _).drew⟩
end Go.Proofs.Ytpchmdfkifbciaa
