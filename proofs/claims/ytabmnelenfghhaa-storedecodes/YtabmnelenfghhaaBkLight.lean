/- What light of the laws answers, and Span of a store. -/
import Derived.Test.YtabmnelenfghhaaBkLives
namespace Go.Proofs.Ytabmnelenfghhaa
open Go.RowKit

/-- What light lets by. -/
def LightB (data : List ByteArray) : Prop := data.length ≤ 101 ∧ ∀ s ∈ data, s.size ≤ 10000
/-- What light leaves. -/
def LightP (data : List ByteArray) (w : World) (e : Ending) (w' : World) : Prop := ∃ r, e = .returned (.bool r) ∧ (r = true → LightB data) ∧ Below w.heap.size w w'
set_option maxRecDepth 100000 in
set_option maxHeartbeats 3200000 in
theorem light_any (c : CmdD) (u : Value) (w : World) (hu : Strs w u c.data) (hz : ∀ s ∈ c.data, s.size ≤ maxLen) :
    Calls Try.prog 6 #[cmdV c u] w (LightP c.data w) := by
  have bA : Below w.heap.size w (w.alloc (cmdO c u)) := (Below.refl _ _).alloc (Nat.le_refl _) _
  have HU := hid (hu.below bA)
  have HN := hid (heap_alloc_new w (cmdO c u))
  have hll : (c.data.length : Int) ≤ 9223372036854775807 := by obtain ⟨_, _, _, e, h1, h2, h3, _⟩ := hu; omega
  obtain ⟨ua, uc, rfl⟩ := hu.shape
  have HZ := hid hz
  clear hu hz
  obtain ⟨op, cl, seq, cf, ct, data⟩ := c
  unfold cmdO at HN HU bA
  unfold cmdV
  simp only at HN HU bA HZ hll ⊢
  obtain ⟨w1, hw1⟩ : ∃ w1, w1 = w.alloc (.cells #[.int .i64 op, .int .i64 cl, .int .i64 seq, .int .i64 cf, .int .i64 ct, .slice ua data.length uc] 24) := ⟨_, rfl⟩
  rw [← hw1] at HN HU bA
  have HW1 := hid hw1
  have B1 := hid bA
  clear hw1 bA
  go_enter Try.func6, Try.ntmps6
  go_upto_region 2 with fail
  rw [← HW1.out]
  obtain ⟨A, hAe⟩ : ∃ A, A = w.heap.size := ⟨_, rfl⟩
  rw [← hAe] at HN
  rw [← hAe]
  clear hAe HW1
  have x5 : w1.cell? ⟨A, 5, none⟩ = some (.slice ua data.length uc) := by rw [cell_of_row _ _ _ _ _ _ HN.out]; rfl
  go_wp2_with fail
  go_loopw [3, 4, 5, 9] (fun nv _ _ iv wr => ∃ (i n : Nat), iv = .int .i64 i ∧ nv = .int .i64 n ∧ i ≤ data.length ∧ i ≤ 101 ∧ n ≤ 110000 ∧ (∀ s ∈ data.take i, s.size ≤ 10000) ∧ wr = w1) (fun _ _ _ iv _ => data.length - (intOf iv).toNat)
  case atStart => exact ⟨0, 0, rfl, rfl, Nat.zero_le _, by omega, by omega, (fun s hs => by simp at hs), rfl⟩
  case round =>
    obtain ⟨i, n, rfl, rfl, hi, hi1, hn, hall, rfl⟩ := hrel
    have HALL := hid hall
    clear hall x5
    by_cases hlt : i < data.length
    · have hltI : (i : Int) < (data.length : Int) := by omega
      obtain ⟨gd, od, rfl⟩ := HU.out.addr (by omega)
      have cd := HU.out.lit i hlt
      have hs := HZ.out data[i] (List.getElem_mem hlt)
      have HT := hid (show data.take (i + 1) = data.take i ++ [data[i]] from List.take_succ_eq_append_getElem hlt)
      generalize data[i] = s at cd hs HT
      have hsI : (s.size : Int) ≤ 9223372036854775807 := by unfold maxLen at hs; omega
      clear hs
      by_cases h1 : (100 : Int) < (i : Int)
      · go_wp2_with fail
        go_ret
        exact ⟨false, rfl, (fun h => by cases h), B1.out⟩
      · by_cases h2 : (10000 : Int) < (s.size : Int)
        · go_wp2_with fail
          go_ret
          exact ⟨false, rfl, (fun h => by cases h), B1.out⟩
        · by_cases h3 : (100000 : Int) < (n : Int)
          · go_wp2_with fail
            go_ret
            exact ⟨false, rfl, (fun h => by cases h), B1.out⟩
          · have hw : IntKind.i64.wrap ((n : Int) + (s.size : Int)) = (n : Int) + (s.size : Int) := IntWalk.i64_in _ ⟨by omega, by omega⟩
            go_wp2_with fail
            go_roundw
            case rel =>
              refine ⟨i + 1, n + s.size, by go_num, by simp, by omega, by omega, by omega, ?_, by trivial⟩
              rw [HT.out]
              intro t ht
              rcases List.mem_append.1 ht with ht | ht
              · exact HALL.out t ht
              · obtain rfl : t = s := by simpa using ht
                omega
            case measure => simp [intOf]; omega
    · obtain rfl : i = data.length := by omega
      have HL : Hid (LightB data) := hid ⟨hi1, by have := HALL.out; rwa [List.take_length] at this⟩
      go_wp2_with fail
      go_ret
      exact ⟨true, rfl, (fun _ => HL.out), B1.out⟩
set_option maxHeartbeats 1600000 in
theorem bspan_any (b g : Nat) (S : StD) (w : World) (hS : St w b g S) :
    Calls Try.prog 53 #[.pointer (some ⟨b, 0, none⟩)] w fun e w' => e = .returned (.agg #[.int .i64 S.from', .int .i64 S.to]) ∧ Below w.heap.size w w' := by
  obtain ⟨s0, s1, -, -⟩ := hS.cellsAt
  have hlt := hS.lt
  have b0 : Below w.heap.size w (w.alloc (.cells #[.int .i64 0, .int .i64 0] 42)) := (Below.refl _ _).alloc (Nat.le_refl _) _
  have t0 := cell_later b0 s0
  have t1 := cell_later b0 s1
  clear hS s0 s1 b0
  go_enter Try.func53, Try.ntmps53
  go_wp2_with fail
  (try simp only [Exit.inBlock, Exit.then])
  refine bodyPost_ret (results_span rfl _ _ w.heap.size _ _ _ _ rfl (heap_alloc_new _ _)) rfl ?_
  exact ⟨rfl, (Below.refl _ _).alloc (Nat.le_refl _) _⟩
end Go.Proofs.Ytabmnelenfghhaa
