/- A part. -/
import Derived.Test.YtaekecgbdegemaaGreatDoorPtAr
import Derived.Shelf.Strconv.Itoa0
import Derived.Shelf.Spec.TrailingZeros
set_option linter.all false
open Go.Proofs.Tryz
namespace Go.Proofs
open Go.Shelf YtaekecgbdegemaaGreatDoor
def Tryz.lays129_ren : Go.Shelf.Ren := ⟨fun | 129 => 164 | n => n, fun | 53 => 99 | 3 => 3 | 4 => 4 | 46 => 80 | 5 => 5 | 9 => 9 | n => n, fun | n => n⟩
theorem Tryz.lays129 : Go.Proofs.Lays.n129 Tryz.prog Tryz.lays129_ren := {
  mixed := by kernel_rfl
  f129:=zf func164
  t3:=underlying3
  a3:=isAgg3
  z3:=sizeOf3
  v3:=zeroValue3
  t4:=underlying4
  a4:=isAgg4
  z4:=sizeOf4
  v4:=zeroValue4
  t5:=underlying5
  a5:=isAgg5
  z5:=sizeOf5
  v5:=zeroValue5
  t9:=underlying9
  a9:=isAgg9
  z9:=sizeOf9
  v9:=zeroValue9
  t46:=underlying80
  a46:=isAgg80
  z46:=sizeOf80
  v46:=zeroValue80
  t53:=underlying99
  a53:=isAgg99
  z53:=sizeOf99
  v53 := Tryz.zeroValue99 }
def Tryz.lays729_ren : Go.Shelf.Ren := ⟨fun | 29 => 175 | n => n, fun | 22 => 99 | 3 => 3 | 4 => 4 | 25 => 80 | 54 => 296 | 0 => 0 | 5 => 5 | n => n, fun | 1 => 8 | n => n⟩
theorem Tryz.lays729 : Go.Proofs.Lays7.n29 Tryz.prog Tryz.lays729_ren := {
  mixed := by kernel_rfl
  f29:=zf func175
  t0:=underlying0
  a0:=isAgg0
  z0:=sizeOf0
  v0:=zeroValue0
  i0 := by kernel_rfl
  t3:=underlying3
  a3:=isAgg3
  z3:=sizeOf3
  v3:=zeroValue3
  i3 := by kernel_rfl
  t4:=underlying4
  a4:=isAgg4
  z4:=sizeOf4
  v4:=zeroValue4
  i4 := by kernel_rfl
  t5:=underlying5
  a5:=isAgg5
  z5:=sizeOf5
  v5:=zeroValue5
  i5 := by kernel_rfl
  t22:=underlying99
  a22:=isAgg99
  z22:=sizeOf99
  v22:=zeroValue99
  i22 := by kernel_rfl
  t25:=underlying80
  a25:=isAgg80
  z25:=sizeOf80
  v25:=zeroValue80
  i25 := by kernel_rfl
  t54:=underlying296
  a54:=isAgg296
  z54:=sizeOf296
  g1 := by kernel_rfl }
