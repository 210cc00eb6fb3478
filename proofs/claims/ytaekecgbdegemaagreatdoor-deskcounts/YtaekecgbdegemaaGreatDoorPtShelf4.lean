/- A part. -/
import Derived.Test.YtaekecgbdegemaaGreatDoorPtAr
import Derived.Shelf.Strings.OnBuilder
import Derived.Shelf.Small.Wraps
import Derived.Shelf.Strconv.Itoa3
import Derived.Shelf.Strconv.ToError
import Derived.Shelf.Strconv.AtoiInnerAll
import Derived.Shelf.Strconv.ToErrorRange
import Derived.Shelf.Strings.Shaped
import Derived.Shelf.Strings.Split
import Derived.Shelf.Unicode.DecodeSlow
import Derived.Shelf.Strings.FieldsFuncAny
import Derived.Shelf.Slices.Turned
set_option linter.all false
open Go.Proofs.Tryz
namespace Go.Proofs
open Go.Shelf YtaekecgbdegemaaGreatDoor
def Tryz.laysM171_ren : Go.Shelf.Ren := ⟨fun | 171 => 30 | 243 => 55 | 246 => 77 | 283 => 118 | 284 => 119 | 285 => 120 | 286 => 121 | 129 => 164 | 317 => 163 | 318 => 165 | 319 => 166 | 320 => 167 | 337 => 211 | 338 => 175 | n => n, fun | 3 => 3 | 9 => 9 | 2 => 2 | 4 => 4 | 171 => 211 | 0 => 0 | 53 => 99 | 37 => 36 | 5 => 5 | 173 => 214 | 212 => 254 | 51 => 129 | 20 => 20 | 213 => 255 | 46 => 80 | 232 => 319 | 233 => 296 | n => n, fun | 17 => 3 | 18 => 9 | 19 => 8 | n => n⟩
theorem Tryz.laysM171 : Go.Proofs.LaysM.n171 Tryz.prog Tryz.laysM171_ren := {
  mixed := by kernel_rfl
  f129:=zf func164
  f171:=zf func30
  f243:=zf func55
  f246:=zf func77
  f283:=zf func118
  f284:=zf func119
  f285:=zf func120
  f286:=zf func121
  f317:=zf func163
  f318:=zf func165
  f319:=zf func166
  f320:=zf func167
  f337:=zf func211
  f338:=zf func175
  t0:=underlying0
  a0:=isAgg0
  z0:=sizeOf0
  v0:=zeroValue0
  t2:=underlying2
  a2:=isAgg2
  z2:=sizeOf2
  v2:=zeroValue2
  t3:=underlying3
  a3:=isAgg3
  z3:=sizeOf3
  v3:=zeroValue3
  t4:=underlying4
  a4:=isAgg4
  z4:=sizeOf4
  v4:=zeroValue4
  t5:=underlying5
  a5:=isAgg5
  z5:=sizeOf5
  v5:=zeroValue5
  t9:=underlying9
  a9:=isAgg9
  z9:=sizeOf9
  v9:=zeroValue9
  t20:=underlying20
  a20:=isAgg20
  z20:=sizeOf20
  v20:=zeroValue20
  t37:=underlying36
  a37:=isAgg36
  z37:=sizeOf36
  v37:=zeroValue36
  t46:=underlying80
  a46:=isAgg80
  z46:=sizeOf80
  v46:=zeroValue80
  t51:=underlying129
  a51:=isAgg129
  z51:=sizeOf129
  v51:=zeroValue129
  t53:=underlying99
  a53:=isAgg99
  z53:=sizeOf99
  v53:=zeroValue99
  t171:=underlying211
  a171:=isAgg211
  z171:=sizeOf211
  v171:=zeroValue211
  t173:=underlying214
  a173:=isAgg214
  z173:=sizeOf214
  v173:=zeroValue214
  t212:=underlying254
  a212:=isAgg254
  z212:=sizeOf254
  v212:=zeroValue254
  t213:=underlying255
  a213:=isAgg255
  z213:=sizeOf255
  t232:=underlying319
  a232:=isAgg319
  z232:=sizeOf319
  v232:=zeroValue319
  t233:=underlying296
  a233:=isAgg296
  z233:=sizeOf296
  v233:=zeroValue296
  g17 := by kernel_rfl
  g18 := by kernel_rfl
  g19 := by kernel_rfl
  i0 := by kernel_rfl
  i2 := by kernel_rfl
  i3 := by kernel_rfl
  i4 := by kernel_rfl
  i5 := by kernel_rfl
  i9 := by kernel_rfl
  i20 := by kernel_rfl
  i37 := by kernel_rfl
  i46 := by kernel_rfl
  i51 := by kernel_rfl
  i53 := by kernel_rfl
  i171 := by kernel_rfl
  i173 := by kernel_rfl
  i212 := by kernel_rfl
  i232 := by kernel_rfl
  i233 := by kernel_rfl
  m17 := by kernel_rfl
  m18 := by kernel_rfl
  m19 := by kernel_rfl }
open Go.RowKit Go.Sort Go.Lib in
/-- strconv.Itoa: "Itoa is equivalent to FormatInt(int64(i), 10).": i's DECIMAL NUMERAL ('Lib.itoa': a '-' where i is negative, then the digits), FOR EVERY int. The world behind the call: the world before it, new blocks behind the heap (the library's 'var a [24]byte'), draws. (LAID: no walk: one application.) -/
theorem Tryz.strconv_Itoa (n : Int) (h0 : -9223372036854775808 ≤ n) (h1 : n ≤ 9223372036854775807) (w : World) (htab : Lib.TabIs Tryz.prog w "internal/strconv.uint64pow10" .u64 Lib.pow10Tab) :
    Calls Tryz.prog 30 #[.int .i64 n] w fun e w' => e = .returned (.string ⟨(Lib.itoa n).toArray⟩) ∧ ∃ k os, w' = grow (w.drewN k) os := Any.strconv_Itoa Tryz.laysM171 n h0 h1 w htab
