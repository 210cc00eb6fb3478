/- A part. -/
import Derived.Test.YthiapcajheepbaaGreatDoorPwAr
import Derived.Shelf.Strconv.Itoa0
set_option linter.all false
open Go.Proofs.Tryz
namespace Go.Proofs
open Go.Shelf YthiapcajheepbaaGreatDoor
def Tryz.lays129_ren : Go.Shelf.Ren := ⟨fun | 129 => 220 | n => n, fun | 53 => 78 | 3 => 3 | 4 => 4 | 46 => 245 | 5 => 5 | 9 => 9 | n => n, fun | n => n⟩
theorem Tryz.lays129 : Go.Proofs.Lays.n129 Tryz.prog Tryz.lays129_ren := {
  mixed := by kernel_rfl
  f129:=zf func220
  t3:=underlying3
  a3:=isAgg3
  z3:=sizeOf3
  v3:=zeroValue3
  t4:=underlying4
  a4:=isAgg4
  z4:=sizeOf4
  v4:=zeroValue4
  t5:=underlying5
  a5:=isAgg5
  z5:=sizeOf5
  v5:=zeroValue5
  t9:=underlying9
  a9:=isAgg9
  z9:=sizeOf9
  v9:=zeroValue9
  t46:=underlying245
  a46:=isAgg245
  z46:=sizeOf245
  v46:=zeroValue245
  t53:=underlying78
  a53:=isAgg78
  z53:=sizeOf78
  v53 := Tryz.zeroValue78 }
