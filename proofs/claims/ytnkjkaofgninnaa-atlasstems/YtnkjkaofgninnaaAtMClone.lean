/- Which functions of this program are the library functions that the contracts of the guide speak of: tables of numbers, and that the bodies are the same. No condition. -/
import Derived.Shelf.SlMaps.Clone
import Derived.Shelf.SlGeneric
import Derived.Ground.SlmcProg
import Derived.Test.YtnkjkaofgninnaaRows
namespace Go.Proofs
open Go.Shelf
def Try.cloneSh_ren : Go.Shelf.Ren := ⟨fun | 5 => 23 | 7 => 45 | n => n, fun | 23 => 62 | 25 => 3 | 3 => 46 | 4 => 4 | 20 => 20 | n => n, fun | n => n⟩
theorem Try.cloneSh : Go.Proofs.SlLaysW.n5 Try.prog Try.cloneSh_ren := {
  mixed := by kernel_rfl
  f5 := ⟨Try.f23.name, by decide, Try.func23.trans (congrArg some (by kernel_rfl))⟩
  f7 := Try.func45.trans (congrArg some (by kernel_rfl))
  t4 := Try.underlying4
  a4 := Try.isAgg4
  z4 := Try.sizeOf4
  v4 := Try.zeroValue4
  t20 := Try.underlying20
  a20 := Try.isAgg20
  z20 := Try.sizeOf20
  v20 := Try.zeroValue20
  t23 := Try.underlying62
  a23 := Try.isAgg62
  z23 := Try.sizeOf62
  v23 := Try.zeroValue62 }
end Go.Proofs
