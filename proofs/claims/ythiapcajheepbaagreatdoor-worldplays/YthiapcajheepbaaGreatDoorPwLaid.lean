/- A part. -/
import Derived.Test.YthiapcajheepbaaGreatDoorRows
import Derived.Lib.LaidU8
set_option linter.all false
open Go.Proofs.Tryz
namespace Go.Proofs.YthiapcajheepbaaGreatDoor
namespace Lai
open Go.RowKit
variable {w:World}
set_option maxRecDepth 100000

def bdl:List Int:=[0,59,0,23,1,31,1,12,0,6]
def BdsAt (w:World):Prop:= ∀j,j<10→w.cell? ⟨0,j,none⟩=some (.int .i64 (bdl.getD j 0))

theorem cell_lt {p:Addr} {v:Value} (h:w.cell? p=some v):p.block<w.heap.size:=by
 by_cases g:p.block<w.heap.size
 ·exact g
 ·exfalso;simp only [World.cell?]at h;rw [Array.getElem?_eq_none (by omega)]at h;simp at h

theorem BdsAt.below {w':World} {n:Nat} (h:BdsAt w) (hb:Below n w w') (hn:w.heap.size≤n):BdsAt w':=by
 intro j hj;have:=h j hj;have hlt:=cell_lt this;rw [←this];exact hb.cell (Nat.lt_of_lt_of_le hlt hn)

theorem gnB : Tryz.prog.globalNamed "tidewheel/cron.bounds" = some 0 := by kernel_rfl
theorem gtB:(Tryz.prog.globals[0]?).map (·.type)=some 218:=by kernel_rfl
theorem ceB:Tryz.prog.cellsOf 217=2:=by kernel_rfl
theorem ciB:Tryz.prog.cellsOf 3=1:=by kernel_rfl

theorem bds_pair {cs:Array Value} {ds:List (DataW Unit)} {fuel:Nat} {p:List MemPlace}
  (h:DataW.trod (fun _=>()) Tryz.prog w 0 (fun _=>true) false fuel 218 cs.toList=some (.agg ds,p)) (i:Nat) (hi:i<5) (a b:Int)
  (hd:ds[i]? =some (.agg [.lit (.int .i64 a),.lit (.int .i64 b)])):cs[2*i]? =some (.int .i64 a)∧cs[2*i+1]? =some (.int .i64 b):=by
 obtain⟨fuel',d,q,hdi,he⟩:=Lib.array_elem Tryz.underlying218 h i hi;rw [hd]at hdi;cases hdi;rw [ceB]at he
 have hcs := Lib.ints_of_struct (zs := [a, b]) Tryz.underlying217 (fun j f hj => by
   match j,hj with
   |0,hj=>simp at hj;subst hj;exact⟨Tryz.underlying3,rfl,ciB⟩
   |1,hj=>simp at hj;subst hj;exact⟨Tryz.underlying3,rfl,ciB⟩
   |j+2,hj=>simp at hj) (by rw [ceB];rfl) he
 have e0:=congrArg (·[0]?) hcs;have e1:=congrArg (·[1]?) hcs;simp only [List.getElem?_take,List.getElem?_drop]at e0 e1;constructor
 ·rw [←Array.getElem?_toList];simpa [Nat.mul_comm]using e0
 ·rw [←Array.getElem?_toList];simpa [Nat.mul_comm]using e1

theorem bds_of (h : Lib.VarReads Tryz.prog w "tidewheel/cron.bounds" Rows.laid_tidewheel_cron_bounds) : BdsAt w := by
 obtain⟨g,t,cs,fuel,p,hg,hty,hvar,hd⟩:=h;obtain rfl:=Option.some.inj (gnB.symm.trans hg);obtain rfl:=Option.some.inj (gtB.symm.trans hty);have h0:=bds_pair hd 0 (by decide) 0 59 rfl;have h1:=bds_pair hd 1 (by decide) 0 23 rfl;have h2:=bds_pair hd 2 (by decide) 1 31 rfl;have h3:=bds_pair hd 3 (by decide) 1 12 rfl;have h4:=bds_pair hd 4 (by decide) 0 6 rfl;intro j hj;rw [World.var?_cell hg hvar j];match j,hj with
 |0,_=>exact h0.1
 |1,_=>exact h0.2
 |2,_=>exact h1.1
 |3,_=>exact h1.2
 |4,_=>exact h2.1
 |5,_=>exact h2.2
 |6,_=>exact h3.1
 |7,_=>exact h3.2
 |8,_=>exact h4.1
 |9,_=>exact h4.2
 |j+10,hj=>omega
