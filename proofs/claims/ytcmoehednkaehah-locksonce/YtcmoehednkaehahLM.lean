import Derived.Test.YtcmoehednkaehahRows
import Derived.Shelf.Bits.Mul64
namespace Go.Proofs.Ytcmoehednkaehah
open Go.Shelf
def lay_mul_ren : Go.Shelf.Ren := ⟨fun | 212 => 33 | 263 => 37 | 264 => 38 | n => n, fun | 46 => 80 | 51 => 86 | 146 => 87 | 53 => 89 | 148 => 90 | n => n, fun | n => n⟩
theorem lay_mul : Go.Proofs.Lays.n212 Try.prog lay_mul_ren := {
  mixed := by kernel_rfl
  f212 := Try.func33.trans (congrArg some (by kernel_rfl))
  f263 := Try.func37.trans (congrArg some (by kernel_rfl))
  f264 := Try.func38.trans (congrArg some (by kernel_rfl))
  t46 := Try.underlying80
  a46 := Try.isAgg80
  z46 := Try.sizeOf80
  v46 := Try.zeroValue80
  t51 := Try.underlying86
  a51 := Try.isAgg86
  z51 := Try.sizeOf86
  v51 := Try.zeroValue86
  t53 := Try.underlying89
  a53 := Try.isAgg89
  z53 := Try.sizeOf89
  v53 := Try.zeroValue89
  t146 := Try.underlying87
  a146 := Try.isAgg87
  z146 := Try.sizeOf87
  v146 := Try.zeroValue87
  t148 := Try.underlying90
  a148 := Try.isAgg90
  z148 := Try.sizeOf90
  v148 := Try.zeroValue90 }
end Go.Proofs.Ytcmoehednkaehah
