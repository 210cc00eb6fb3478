/- What a block takes of a plan; what plainPlan and depth answer. -/
import Derived.Test.YtddabkmppobcdaaGreatDoorPsLopNew
import Derived.Test.YtddabkmppobcdaaGreatDoorPsPlanMem
set_option maxRecDepth 8000
namespace Go.Proofs.YtddabkmppobcdaaGreatDoor
namespace Lop
open Go.RowKit Rw Rec Plain Pln Frm Lpp Crn

theorem PX.again {w:World} {R:Nat} {p p':Pd} {v v':Value} (h:PX w R p v):PX (w.setCells R 0 (planC p' v').toList) R p' v':=by
 have o:=OnlyQ.sets R (planC p' v').toList w 0
 refine⟨Nat.lt_of_lt_of_le h.lt o.size,?_,fun j=>(o.fz j).trans (h.fz j)⟩
 have e:setRow (planC p v) 0 (planC p' v').toList=planC p' v':=by simp [setRow]
 have:=cells_sets (planC p' v').toList 0 h.cel (by simp)
 rw [e]at this
 exact this
theorem wp_setPx {ops:Array Oper} {rest:List Oper} {x y:Operand} {ps:String} {af:Array Edge} {A:Act} {Q:Exit→Act→World→Prop} {w:World} {R:Nat} {p p':Pd} {v v':Value} (h:PX w R p v) (hv:v'.oneCell'=true) (hx:A.eval x=.pointer (some ⟨R,0,none⟩)) (hy:A.eval y=planV p' v')
  (g: ∀w',PX w' R p' v'→OnlyQ R w w'→wpList Tryz.prog ops Q rest (A.put none undef) w'):
  wpList Tryz.prog ops Q ({ dst:=none,op:=.store 26 x y,type:=0,pos:=ps,after:=af,guard:=none } ::rest) A w:=
 wpList_store_mid rfl 26 x y rfl R 0 (planC p' v') hx hy (fun j hj=>⟨by rw [h.cel];simp at hj⊢;omega,h.fz _⟩) (by kernel_rfl) (by simp [Value.oneCell'];exact hv) (g _ h.again (OnlyQ.sets R _ _ _))
def pz:Pd:=⟨[],0,0,0,0,0,0,0,0,0,0,0,0,0,0,0,0⟩
theorem px_new (w:World) (ta:TypeId):PX (w.alloc (.cells #[.string ⟨#[]⟩,.int .i64 0,.int .i64 0,.int .i64 0,.int .i64 0,.int .i64 0,.int .i64 0,.int .i64 0,.int .i64 0,.int .i64 0,.int .i64 0,.int .i64 0,.int .i64 0,.int .i64 0,.int .i64 0,.int .i64 0,.int .i64 0,.slice none 0 0] ta)) w.heap.size pz (.slice none 0 0):=⟨by simp,fun o=>by simp [planC,pz],fun o=>by simp⟩
theorem wp_newPx {ops:Array Oper} {rest:List Oper} {x y:Operand} {ps:String} {af:Array Edge} {A:Act} {Q:Exit→Act→World→Prop} {w:World} {p':Pd} {v':Value} (hv:v'.oneCell'=true) (hx:A.eval x=.pointer (some ⟨w.heap.size,0,none⟩)) (hy:A.eval y=planV p' v')
  (g: ∀w',PX w' w.heap.size p' v'→Below w.heap.size w w'→wpList Tryz.prog ops Q rest (A.put none undef) w'):
  wpList Tryz.prog ops Q ({ dst:=none,op:=.store 26 x y,type:=0,pos:=ps,after:=af,guard:=none } ::rest) A (w.alloc (.cells #[.string ⟨#[]⟩,.int .i64 0,.int .i64 0,.int .i64 0,.int .i64 0,.int .i64 0,.int .i64 0,.int .i64 0,.int .i64 0,.int .i64 0,.int .i64 0,.int .i64 0,.int .i64 0,.int .i64 0,.int .i64 0,.int .i64 0,.int .i64 0,.slice none 0 0] 26)):=
 wp_setPx (px_new w 26) hv hx hy fun w' h1 h2=>g w' h1 (((Below.refl _ _).alloc (Nat.le_refl _) _).trans (h2.below (Nat.le_refl _) (by simp)))
theorem finPx {fn:Func} {q:Tmp} {Q:Ending→World→Prop} (hres:fn.results=#[.cell q 26]) {ex:Exit} (hex:ex=.ret∨ex=.normal) {a:Act} {Wf:World} {C:Nat} {p:Pd} {v:Value} (hp:a.tmps[q]?=some (.pointer (some ⟨C,0,none⟩))) (ha:a.defers=[])
  (h:PX Wf C p v) (hQ:Q (.returned (planV p v)) Wf):bodyPost Tryz.prog fn Q ex a Wf:=by
 have hl:=run_loadVar_mid (P:=Tryz.prog) Wf C 0 26 _ _ (range_plan h.plat) Tryz.underlying26 rfl (by kernel_rfl)
 have hr:(results fn a.tmps).run Tryz.prog Wf=.ok (planV p v) Wf:=by
  simp only [results,hres]
  simp [hp,asAddr,hl]
 rcases hex with rfl|rfl
 ·exact bodyPost_ret hr ha hQ
 ·exact bodyPost_end hr ha hQ
def k0:K:=⟨0,0,0,0,0,false,false⟩
def t0:Tr:=⟨2,10,0,k0,k0⟩
def p0:Pd:=⟨[112],0,9,2,6,0,0,0,0,0,0,0,0,0,0,0,0⟩
theorem trs_one {w:World} {b:Nat} {t:Tr} (hb:b<w.heap.size) (h: ∀j,w.cell? ⟨b,j,none⟩=(trC t)[j]?):TrsAt w (some ⟨b,0,none⟩) [t]:=by
 intro i t' hi
 cases i with
 |zero=>simp at hi;subst hi;exact⟨b,0,rfl,hb,fun j _=>by rw [show 0+(0*17+j)=j by omega];exact h j⟩
 |succ i=>simp at hi
theorem ints_one {w:World} {c:Nat} {z:Int} (h:w.cell? ⟨c,0,none⟩=some (.int .i64 z)) (h1: -9223372036854775808≤z) (h2:z≤9223372036854775807):Ned.IntsAt w (some ⟨c,0,none⟩) 1 (fun _=>z):=by
 intro i hi
 have:i=0:=by omega
 subst this
 exact⟨c,0,rfl,World.block_lt_of_cell? w _ h,h,h1,h2⟩
structure One (w:World) (b c:Nat) (f:Bool) (n:Nat) (z:Int):Prop where
 r0:w.cell? ⟨b,0,none⟩=some (.bool f)
 r1:w.cell? ⟨b,1,none⟩=some (if n=0 then .slice none 0 0 else .slice (some ⟨c,0,none⟩) 1 1)
 r2:n≠0→w.cell? ⟨c,0,none⟩=some (.int .i64 z)
 n1:n≤1
theorem One.rds {w:World} {b c:Nat} {f:Bool} {n:Nat} {z:Int} (h:One w b c f n z) (h1: -9223372036854775808≤z) (h2:z≤9223372036854775807):RdsAt w (some ⟨b,0,none⟩) [⟨f,n,fun _=>z⟩]:=by
 intro i r hi
 cases i with
 |succ i=>simp at hi
 |zero=>
  simp at hi
  subst hi
  have hn:=h.n1
  by_cases h0:n=0
  ·subst h0
   exact⟨b,0,none,0,rfl,World.block_lt_of_cell? w _ h.r0,h.r0,h.r1,by simp,fun i hi=>by simp at hi⟩
  ·have e:n=1:=by omega
   subst e
   exact⟨b,0,some ⟨c,0,none⟩,1,rfl,World.block_lt_of_cell? w _ h.r0,h.r0,h.r1,by simp [maxLen],ints_one (h.r2 h0) h1 h2⟩
theorem One.mv {w w':World} {b c:Nat} {f:Bool} {n:Nat} {z:Int} {B B':Nat→Prop} (h:One w b c f n z) (m:Mv B B' w w') (hb: ¬B b) (hc: ¬B c):One w' b c f n z:=
 ⟨mv_cell m h.r0 hb,mv_cell m h.r1 hb,fun e=>mv_cell m (h.r2 e) hc,h.n1⟩
end Lop
end Go.Proofs.YtddabkmppobcdaaGreatDoor
