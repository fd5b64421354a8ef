/- Structures of the library's contracts, laid at this program: cmp.Compare. -/
import Derived.Shelf.SlicesG.Cmp
import Derived.Test.YtjohiehlnbgdaaaDoorSlot
namespace Go.Proofs.YtjohiehlnbgdaaaDoor
open Go.Shelf Go.RowKit
def layCompare_ren : Go.Shelf.Ren := ⟨fun | 5 => 46 | 7 => 59 | n => n, fun | 22 => 3 | 3 => 3 | 4 => 4 | n => n, fun | n => n⟩
theorem layCompare : Go.Proofs.SlLaysC2.n5 Tryd.prog layCompare_ren := {
  mixed := by kernel_rfl
  f5 := ⟨Tryd.f46.name, by decide, Tryd.func46.trans (congrArg some (by kernel_rfl))⟩
  f7 := ⟨Tryd.f59.name, by decide, Tryd.func59.trans (congrArg some (by kernel_rfl))⟩
  t3 := Tryd.underlying3
  a3 := Tryd.isAgg3
  z3 := Tryd.sizeOf3
  v3 := Tryd.zeroValue3
  t4 := Tryd.underlying4
  a4 := Tryd.isAgg4
  z4 := Tryd.sizeOf4
  v4 := Tryd.zeroValue4
  t22 := Tryd.underlying3
  a22 := Tryd.isAgg3
  z22 := Tryd.sizeOf3
  v22 := Tryd.zeroValue3 }
end Go.Proofs.YtjohiehlnbgdaaaDoor
