/- Whether a text of voters names a node. Conditions: the node's number is from 0 to 255. -/
import Derived.Test.YtjimneaimnjanaaCoMem
import Derived.Lib.Bytealg
namespace Go.Proofs.Ytjimneaimnjanaa
open Go.RowKit
set_option linter.unusedVariables false
set_option linter.unusedSimpArgs false

theorem ix_lo (l : List UInt8) (c : UInt8) : -1 ≤ Lib.indexByte l c := by
  induction l with
  | nil => simp [Lib.indexByte]
  | cons b l ih => unfold Lib.indexByte; split; · omega
                   · split <;> omega
theorem ix_iff (l : List UInt8) (c : UInt8) : 0 ≤ Lib.indexByte l c ↔ c ∈ l := by
  induction l with
  | nil => simp [Lib.indexByte]
  | cons b l ih =>
    have hl := ix_lo l c
    unfold Lib.indexByte
    by_cases h : b = c
    · subst h; simp
    · have h2 : ¬ c = b := fun e => h e.symm
      rw [if_neg (by simpa using h)]
      by_cases h3 : Lib.indexByte l c = -1
      · have : ¬ c ∈ l := fun e => by have := ih.2 e; omega
        simp [h3, h2, this]
      · have : c ∈ l := ih.1 (by omega)
        rw [if_neg (by simpa using h3)]
        simp [this]; omega
theorem vtx_eq (s : ByteArray) : vtx s = s.data.toList.map fun x => (x.toNat : Int) := by
  apply List.ext_getElem
  · simp [vtx, tbs]
  · intro i h1 h2
    have hi : i < s.size := by simpa [vtx, tbs] using h1
    simp only [vtx, tbs, List.getElem_map, List.getElem_range]
    rw [← tb_get s i hi]
    rfl
/-- Does the text name the node? -/
def namesB (s : ByteArray) (n : Int) : Bool := decide (n ∈ vtx s)
theorem names_ix (s : ByteArray) (n : Int) (h0 : 0 ≤ n) (h1 : n ≤ 255) : decide (0 ≤ Lib.indexByte s.data.toList n.toNat.toUInt8) = namesB s n := by
  unfold namesB
  rw [decide_eq_decide, ix_iff, vtx_eq]
  have e : (n.toNat.toUInt8.toNat : Int) = n := by
    have : n.toNat.toUInt8.toNat = n.toNat := by
      show n.toNat % 256 = n.toNat
      omega
    omega
  simp only [List.mem_map]
  constructor
  · intro h; exact ⟨_, h, e⟩
  · rintro ⟨x, hx, hxe⟩
    have : x = n.toNat.toUInt8 := by
      apply UInt8.toNat_inj.1
      omega
    rw [← this]; exact hx
set_option maxRecDepth 100000 in
set_option maxHeartbeats 1000000 in
theorem ixLite_any (s : ByteArray) (c : Int) (w : World) :
    Calls Try.prog 112 #[.string s, .int .u8 c] w fun e w' => e = .returned (.int .i64 (Lib.indexByte s.data.toList c.toNat.toUInt8)) ∧ w' = w := by
  go_enter Try.func112, Try.ntmps112
  go_wp2
  rw [run_callFunc_extern (fn := Try.f113) (by kernel_rfl) (by kernel_rfl) (by kernel_rfl) (by kernel_rfl) (e := Extern.BytealgIndexByte.indexByte) (by kernel_rfl), Lib.run_indexByteString]
  simp only [Result.andThen]
  rw [Oper.upon_value]
  go_wp2
  go_ret
  exact ⟨rfl, rfl⟩
set_option maxRecDepth 100000 in
set_option maxHeartbeats 1000000 in
theorem ixStr_any (s : ByteArray) (c : Int) (w : World) :
    Calls Try.prog 104 #[.string s, .int .u8 c] w fun e w' => e = .returned (.int .i64 (Lib.indexByte s.data.toList c.toNat.toUInt8)) ∧ w' = w := by
  go_enter Try.func104, Try.ntmps104
  go_wp2_with (go_at_call 112; refine (ixLite_any _ _ _).mono ?_; rintro e w' ⟨rfl, rfl⟩)
  go_ret
  exact ⟨rfl, rfl⟩
set_option maxRecDepth 100000 in
set_option maxHeartbeats 1000000 in
theorem names_any (s : ByteArray) (n : Int) (w : World) (h0 : 0 ≤ n) (h1 : n ≤ 255) :
    Calls Try.prog 66 #[.string s, .int .i64 n] w fun e w' => e = .returned (.bool (namesB s n)) ∧ w' = w := by
  have hw : IntKind.u8.wrap n = n := by simp [IntKind.wrap, IntKind.bits, IntKind.signed]; omega
  have HN := hid (names_ix s n h0 h1)
  go_enter Try.func66, Try.ntmps66
  go_wp2_with (go_at_call 104; refine (ixStr_any _ _ _).mono ?_; rintro e w' ⟨rfl, rfl⟩)
  go_ret
  exact ⟨by rw [← HN.out]; rfl, rfl⟩
end Go.Proofs.Ytjimneaimnjanaa
