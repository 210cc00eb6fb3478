/- A part. -/
import Derived.Test.YthiapcajheepbaaGreatDoorPwLopNew
import Derived.Test.YthiapcajheepbaaGreatDoorPwPlanMem
set_option linter.all false
open Go.Proofs.Tryz
set_option maxRecDepth 8000
namespace Go.Proofs.YthiapcajheepbaaGreatDoor
namespace Lop
open Go.RowKit Rw Rec Plain Pln Frm Lpp Crn
variable {w:World} {c b:Nat} {z:Int} {f:Bool}

def k0:K:=⟨0,0,0,0,0,false,false⟩
def t0:Tr:=⟨2,10,0,k0,k0⟩
def p0:Pd:=⟨[112],0,9,2,6,0,0,0,0,0,0,0,0,0,0,0,0⟩
theorem ints_one (h:w.cell? ⟨c,0,none⟩=some (.int .i64 z)) (h1: -9223372036854775808≤z) (h2:z≤9223372036854775807):Ned.IntsAt w (some ⟨c,0,none⟩) 1 (fun _=>z):=by
 intro i hi;have:i=0:=by omega
 subst this;exact⟨c,0,rfl,Xj w _ h,h,h1,h2⟩
structure One (w:World) (b c:Nat) (f:Bool) (n:Nat) (z:Int):Prop where
 r0:w.cell? ⟨b,0,none⟩=some (.bool f)
 r1:w.cell? ⟨b,1,none⟩=some (if n=0 then .slice none 0 0 else .slice (some ⟨c,0,none⟩) 1 1)
 r2:n≠0→w.cell? ⟨c,0,none⟩=some (.int .i64 z)
 n1:n≤1
theorem One.rds {n:Nat} (h:One w b c f n z) (h1: -9223372036854775808≤z) (h2:z≤9223372036854775807):RdsAt w (some ⟨b,0,none⟩) [⟨f,n,fun _=>z⟩]:=by
 intro i r hi;cases i with
 |succ i=>simp at hi
 |zero=>
  simp at hi;subst hi;have hn:=h.n1;by_cases h0:n=0
  ·subst h0;exact⟨b,0,none,0,rfl,Xj w _ h.r0,h.r0,h.r1,by simp,fun i hi=>by simp at hi⟩
  ·have e:n=1:=by omega
   subst e;exact⟨b,0,some ⟨c,0,none⟩,1,rfl,Xj w _ h.r0,h.r0,h.r1,by simp [maxLen],ints_one (h.r2 h0) h1 h2⟩
theorem One.mv {w':World} {n:Nat} {B B':Nat→Prop} (h:One w b c f n z) (m:Mv B B' w w') (hb: ¬B b) (hc: ¬B c):One w' b c f n z:=
 ⟨mv_cell m h.r0 hb,mv_cell m h.r1 hb,fun e=>mv_cell m (h.r2 e) hc,h.n1⟩
