import Derived.Test.YtkafihaajpifoagDoorRows
import Derived.Shelf.Bits.Mul64
namespace Go.Proofs.YtkafihaajpifoagDoor
open Go.Shelf
def lay_mul_ren : Go.Shelf.Ren := ⟨fun | 212 => 56 | 263 => 72 | 264 => 73 | n => n, fun | 46 => 72 | 51 => 86 | 146 => 105 | 53 => 88 | 148 => 107 | n => n, fun | n => n⟩
theorem lay_mul : Go.Proofs.Lays.n212 Tryd.prog lay_mul_ren := {
  mixed := by kernel_rfl
  f212 := Tryd.func56.trans (congrArg some (by kernel_rfl))
  f263 := Tryd.func72.trans (congrArg some (by kernel_rfl))
  f264 := Tryd.func73.trans (congrArg some (by kernel_rfl))
  t46 := Tryd.underlying72
  a46 := Tryd.isAgg72
  z46 := Tryd.sizeOf72
  v46 := Tryd.zeroValue72
  t51 := Tryd.underlying86
  a51 := Tryd.isAgg86
  z51 := Tryd.sizeOf86
  v51 := Tryd.zeroValue86
  t53 := Tryd.underlying88
  a53 := Tryd.isAgg88
  z53 := Tryd.sizeOf88
  v53 := Tryd.zeroValue88
  t146 := Tryd.underlying105
  a146 := Tryd.isAgg105
  z146 := Tryd.sizeOf105
  v146 := Tryd.zeroValue105
  t148 := Tryd.underlying107
  a148 := Tryd.isAgg107
  z148 := Tryd.sizeOf107
  v148 := Tryd.zeroValue107 }
end Go.Proofs.YtkafihaajpifoagDoor
