/- Which functions of this program are the library functions that the contracts of the guide speak of: tables of numbers, and that the bodies are the same. No condition. -/
import Derived.Shelf.SlMaps.Clone
import Derived.Shelf.SlGeneric
import Derived.Ground.SlmcProg
import Derived.Test.YtmocedkbabnpfaaGreatRows
namespace Go.Proofs
open Go.Shelf
def Tryz.cloneSh_ren : Go.Shelf.Ren := ⟨fun | 5 => 59 | 7 => 94 | n => n, fun | 23 => 70 | 25 => 3 | 3 => 34 | 4 => 4 | 20 => 20 | n => n, fun | n => n⟩
theorem Tryz.cloneSh : Go.Proofs.SlLaysW.n5 Tryz.prog Tryz.cloneSh_ren := {
  mixed := by kernel_rfl
  f5 := ⟨Tryz.f59.name, by decide, Tryz.func59.trans (congrArg some (by kernel_rfl))⟩
  f7 := Tryz.func94.trans (congrArg some (by kernel_rfl))
  t4 := Tryz.underlying4
  a4 := Tryz.isAgg4
  z4 := Tryz.sizeOf4
  v4 := Tryz.zeroValue4
  t20 := Tryz.underlying20
  a20 := Tryz.isAgg20
  z20 := Tryz.sizeOf20
  v20 := Tryz.zeroValue20
  t23 := Tryz.underlying70
  a23 := Tryz.isAgg70
  z23 := Tryz.sizeOf70
  v23 := Tryz.zeroValue70 }
end Go.Proofs
