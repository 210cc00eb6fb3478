/- A part. -/
import Derived.Test.YtaekecgbdegemaaGreatDoorPtCronBits
import Derived.Test.YtaekecgbdegemaaGreatDoorPtShelf2
set_option linter.all false
open Go.Proofs.Tryz
namespace Go.Proofs.YtaekecgbdegemaaGreatDoor
namespace Lai
open Go.RowKit
variable {w:World}
set_option maxRecDepth 100000

def PowAt (w : World) : Prop := Lib.TabIs prog w "internal/strconv.uint64pow10" .u64 Lib.pow10Tab
theorem gnP : prog.globalNamed "internal/strconv.uint64pow10" = some 3 := by kernel_rfl
theorem gtP:(prog.globals[3]?).map (·.type)=some 254:=by kernel_rfl
theorem ceP:prog.cellsOf 99=1:=by kernel_rfl
theorem ctP:prog.cellsOf 254=20:=by kernel_rfl
theorem powD:Rows.laid_internal_strconv_uint64pow10 (H:=Unit)=Lib.tabData .u64 Lib.pow10Tab:=by kernel_rfl
theorem pow_of (h : Lib.VarReads prog w "internal/strconv.uint64pow10" Rows.laid_internal_strconv_uint64pow10) : PowAt w := by
 rw [powD]at h;obtain⟨g,t,cs,fuel,p,hg,hty,hvar,hd⟩:=h;obtain rfl:=XZ (gnP.symm.trans hg);obtain rfl:=XZ (gtP.symm.trans hty);have hcs:=Lib.cells_of_tab underlying254 underlying99 ceP (by rw [ctP]) hd;unfold PowAt Lib.TabIs;rw [hvar,←hcs]
theorem PowAt.below {w':World} {n:Nat} (h:PowAt w) (hb:Below n w w') (hn:w.heap.size≤n):PowAt w':=by
 unfold PowAt Lib.TabIs World.var? at h⊢;rw [gnP]at h⊢;simp only [Option.bind_some]at h⊢;by_cases hg:3<w.heap.size
 ·rw [hb.block _ (Xb hg hn)];exact h
 ·rw [Array.getElem?_eq_none (by omega)]at h;cases h
