/- The table of powers of ten, out of a row's condition; numbers in decimal. -/
import Derived.Test.YtddabkmppobcdaaGreatDoorPsCronBits
import Derived.Test.YtddabkmppobcdaaGreatDoorPsShelf2
import Derived.Lib.ItoaNum
namespace Go.Proofs.YtddabkmppobcdaaGreatDoor
namespace Lai
open Go.RowKit
set_option maxRecDepth 100000

def PowAt (w : World) : Prop := Lib.TabIs Tryz.prog w "internal/strconv.uint64pow10" .u64 Lib.pow10Tab
theorem gnP : Tryz.prog.globalNamed "internal/strconv.uint64pow10" = some 2 := by kernel_rfl
theorem gtP:(Tryz.prog.globals[2]?).map (·.type)=some 231:=by kernel_rfl
theorem ceP:Tryz.prog.cellsOf 65=1:=by kernel_rfl
theorem ctP:Tryz.prog.cellsOf 231=20:=by kernel_rfl
theorem powD:Rows.laid_internal_strconv_uint64pow10 (H:=Unit)=Lib.tabData .u64 Lib.pow10Tab:=by kernel_rfl
theorem pow_of {w : World} (h : Lib.VarReads Tryz.prog w "internal/strconv.uint64pow10" Rows.laid_internal_strconv_uint64pow10) : PowAt w := by
 rw [powD]at h
 obtain⟨g,t,cs,fuel,p,hg,hty,hvar,hd⟩:=h
 obtain rfl:=Option.some.inj (gnP.symm.trans hg)
 obtain rfl:=Option.some.inj (gtP.symm.trans hty)
 have hcs:=Lib.cells_of_tab Tryz.underlying231 Tryz.underlying65 ceP (by rw [ctP]) hd
 unfold PowAt Lib.TabIs
 rw [hvar,←hcs]
theorem PowAt.below {w w':World} {n:Nat} (h:PowAt w) (hb:Below n w w') (hn:w.heap.size≤n):PowAt w':=by
 unfold PowAt Lib.TabIs World.var? at h⊢
 rw [gnP]at h⊢
 simp only [Option.bind_some]at h⊢
 by_cases hg:2<w.heap.size
 ·rw [hb.block _ (Nat.lt_of_lt_of_le hg hn)];exact h
 ·rw [Array.getElem?_eq_none (by omega)]at h;cases h
end Lai
end Go.Proofs.YtddabkmppobcdaaGreatDoor
