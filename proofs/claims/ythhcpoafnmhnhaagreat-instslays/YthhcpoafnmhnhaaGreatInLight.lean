/- What Light of the laws answers for an instance. Conditions: its lists lie in memory. -/
import Derived.Test.YthhcpoafnmhnhaaGreatInSame
namespace Go.Proofs.YthhcpoafnmhnhaaGreat
open Go.RowKit
set_option linter.unusedVariables false
set_option linter.unusedSimpArgs false

/-- What Light lets by. -/
def LightI (x : InD) : Prop := x.cmd.data.length ≤ 101 ∧ (∀ s ∈ x.cmd.data, s.size ≤ 10000) ∧ x.deps.length ≤ 5000
/-- What Light leaves. -/
def LightPI (x : InD) (w : World) (e : Ending) (w' : World) : Prop := ∃ r, e = .returned (.bool r) ∧ (r = true → LightI x) ∧ Below w.heap.size w w'
theorem strs_len {w : World} {v : Value} {l : List ByteArray} (h : Strs w v l) : (l.length : Int) ≤ 9223372036854775807 := by
  obtain ⟨ao, n, cap, rfl, h1, h2, h3, -⟩ := h; omega
set_option maxRecDepth 100000 in
set_option maxHeartbeats 3200000 in
theorem ilight_any (x : InD) (u v : Value) (w : World) (hx : InM w x u v) (hz : ∀ s ∈ x.cmd.data, s.size ≤ maxLen) :
    Calls Tryz.prog 4 #[instV x u v] w (LightPI x w) := by
  have bA : Below w.heap.size w (w.alloc (.cells (instC x u v) 31)) := (Below.refl _ _).alloc (Nat.le_refl _) _
  have HU := hid (hx.d.below bA)
  have HN := hid (heap_alloc_new w (.cells (instC x u v) 31))
  have hll := strs_len hx.d
  have hlr := hx.r.len
  obtain ⟨ua, uc, rfl⟩ := hx.d.shape
  obtain ⟨va, vc, rfl⟩ := hx.r.shape
  have HZ := hid hz
  clear hx hz
  have HLL : Hid (∀ d n, d = x.cmd.data → n = x.deps.length → d.length ≤ 101 → (∀ s ∈ d, s.size ≤ 10000) → n ≤ 5000 → LightI x) := hid fun d n h1 h2 h3 h4 h5 => by subst h1 h2; exact ⟨h3, h4, h5⟩
  unfold instV
  unfold instC at HN bA HU ⊢
  generalize hdd : x.cmd.data = data at *
  generalize hdp : x.deps.length = dn at *
  have HLI := hid (HLL.out data dn rfl rfl)
  clear HLL hdd hdp
  obtain ⟨w1, hw1⟩ : ∃ w1, w1 = w.alloc (.cells #[.int .i64 x.ref.1, .int .i64 x.ref.2, .int .i64 x.bal.1, .int .i64 x.bal.2, .int .i64 x.vote.1, .int .i64 x.vote.2, .int .i64 x.st, .bool x.same, .int .i64 x.cmd.op, .int .i64 x.cmd.client, .int .i64 x.cmd.seq, .int .i64 x.cmd.from', .int .i64 x.cmd.to, .slice ua data.length uc, .int .i64 x.seq, .slice va dn vc] 31) := ⟨_, rfl⟩
  rw [← hw1] at HN HU bA
  have HW1 := hid hw1
  have B1 := hid bA
  clear hw1 bA
  go_enter Tryz.func4, Tryz.ntmps4
  go_upto_region 2 with fail
  rw [← HW1.out]
  obtain ⟨A, hAe⟩ : ∃ A, A = w.heap.size := ⟨_, rfl⟩
  rw [← hAe] at HN
  rw [← hAe]
  clear hAe HW1
  have x13 : w1.cell? ⟨A, 13, none⟩ = some (.slice ua data.length uc) := by rw [cell_of_row _ _ _ _ _ _ HN.out]; rfl
  have x15 : w1.cell? ⟨A, 15, none⟩ = some (.slice va dn vc) := by rw [cell_of_row _ _ _ _ _ _ HN.out]; rfl
  go_wp2_with fail
  go_loopw [3, 4, 5, 10] (fun nv _ _ iv wr => ∃ (i n : Nat), iv = .int .i64 i ∧ nv = .int .i64 n ∧ i ≤ data.length ∧ i ≤ 101 ∧ n ≤ 110000 ∧ (∀ s ∈ data.take i, s.size ≤ 10000) ∧ wr = w1) (fun _ _ _ iv _ => data.length - (intOf iv).toNat)
  case atStart => exact ⟨0, 0, rfl, rfl, Nat.zero_le _, by omega, by omega, (fun s hs => by simp at hs), rfl⟩
  case round =>
    obtain ⟨i, n, rfl, rfl, hi, hi1, hn, hall, rfl⟩ := hrel
    have HALL := hid hall
    clear hall x13
    by_cases hlt : i < data.length
    · have hltI : (i : Int) < (data.length : Int) := by omega
      obtain ⟨gd, od, rfl⟩ := HU.out.addr (by omega)
      have cd := HU.out.lit i hlt
      have hs := HZ.out data[i] (List.getElem_mem hlt)
      have HT := hid (show data.take (i + 1) = data.take i ++ [data[i]] from List.take_succ_eq_append_getElem hlt)
      generalize data[i] = s at cd hs HT
      have hsI : (s.size : Int) ≤ 9223372036854775807 := by unfold maxLen at hs; omega
      clear hs
      by_cases h1 : (100 : Int) < (i : Int)
      · go_wp2_with fail
        go_ret
        exact ⟨false, rfl, (fun h => by cases h), B1.out⟩
      · by_cases h2 : (10000 : Int) < (s.size : Int)
        · go_wp2_with fail
          go_ret
          exact ⟨false, rfl, (fun h => by cases h), B1.out⟩
        · by_cases h3 : (100000 : Int) < (n : Int)
          · go_wp2_with fail
            go_ret
            exact ⟨false, rfl, (fun h => by cases h), B1.out⟩
          · have hw : IntKind.i64.wrap ((n : Int) + (s.size : Int)) = (n : Int) + (s.size : Int) := IntWalk.i64_in _ ⟨by omega, by omega⟩
            go_wp2_with fail
            go_roundw
            case rel =>
              refine ⟨i + 1, n + s.size, by go_num, by simp, by omega, by omega, by omega, ?_, by trivial⟩
              rw [HT.out]
              intro t ht
              rcases List.mem_append.1 ht with ht | ht
              · exact HALL.out t ht
              · obtain rfl : t = s := by simpa using ht
                omega
            case measure => simp [intOf]; omega
    · obtain rfl : i = data.length := by omega
      have HL := hid (HLI.out hi1 (by have := HALL.out; rwa [List.take_length] at this))
      cases h5 : decide ((dn : Int) ≤ 5000)
      · go_wp2_with fail
        go_ret
        exact ⟨false, rfl, (fun h => by cases h), B1.out⟩
      · have HL2 := hid (HL.out (by have := of_decide_eq_true h5; omega))
        go_wp2_with fail
        go_ret
        exact ⟨true, rfl, (fun _ => HL2.out), B1.out⟩
end Go.Proofs.YthhcpoafnmhnhaaGreat
