/- A part. -/
import Derived.Test.YtaekecgbdegemaaGreatDoorPtDskTell
import Derived.Test.YtaekecgbdegemaaGreatDoorPtPlanSpan
set_option linter.all false
open Go.Proofs.Tryz
set_option maxRecDepth 8000
namespace Go.Proofs.YtaekecgbdegemaaGreatDoor
namespace Pln
open Go.RowKit Lai Civ Crn Pie RCrn
variable {p:Pd} {w:World}

theorem planT_len {ts:List Tr} (hi:PdI p) (hU: ∀t∈ts,TrU t) (h:chkP p ts=0):(planT kT p ts).length≤100000:=by
 obtain⟨h1,h2,_,h4⟩:=chk_parts h;have hln:=nm_len h1;have m1:(wPlan++ [32]++p.nm).length≤100:=by simp;omega
 have n1:=len4 m1 (I4 hi.mn hi.mx hi.po hi.co);have n2:=len4 (word:=wRest) (by decide) (I4 hi.tl hi.bk hi.af hi.sh);have n3:=len4 (word:=wUp) (by decide) (I4 hi.uw hi.up hi.uc hi.ue);have n4:=len4 (word:=wDown) (by decide) (I4 hi.dw hi.dp hi.dc hi.de);have ht:=tail_len (fun t ht=>tr_len (hU t ht) (h4 t ht)) ts.length;rw [XC]at ht;have e:planT kT p ts=headT p++tailT kT ts:=rfl;rw [e,Xg];unfold headT;rw [Xg,Xg,Xg];omega
def pa:Pd:=⟨[97],0,3,1,9,0,0,0,0,0,0,0,0,0,0,0,0⟩

theorem TrsAt.nil (w:World) (a:Option Addr):TrsAt w a []:=fun i t h=>by simp at h
theorem wp_newPl {ops:Array Oper} {rest:List Oper} {x y:Operand} {ps:String} {af:Array Edge} {A:Act} {Q:Exit→Act→World→Prop} {p':Pd} {v':Value} (hv:v'.oneCell'=true) (hx:A.eval x=.pointer (some ⟨w.heap.size,0,none⟩)) (hy:A.eval y=planV p' v')
  (g: ∀w',BX w' w.heap.size p' v'→Below w.heap.size w w'→wpList prog ops Q rest (A.put none undef) w'):
  wpList prog ops Q ({ dst:=none,op:=.store 111 x y,type:=0,pos:=ps,after:=af,guard:=none } ::rest) A (w.alloc (.cells #[.string ⟨#[]⟩,.int .i64 0,.int .i64 0,.int .i64 0,.int .i64 0,.int .i64 0,.int .i64 0,.int .i64 0,.int .i64 0,.int .i64 0,.int .i64 0,.int .i64 0,.int .i64 0,.int .i64 0,.int .i64 0,.int .i64 0,.int .i64 0,.slice none 0 0] 111)):=by
 have hX:BX (w.alloc (.cells (planC p0 (.slice none 0 0)) 111)) w.heap.size p0 (.slice none 0 0):=⟨by simp,fun o=>by simp,fun o=>by simp⟩
 exact wp_setPl hX hv hx hy fun w' h1 h2=>g w' h1 ((balloc _).trans (h2.below (Xa _) (by simp)))
theorem BX.plat {R:Nat} {v:Value} (h:BX w R p v):PlAt w R p v:=PlAt.of h.cel
structure Gd (w:World):Prop where
 b:BdsAt w
 t:TabIs64 w
 p:PowAt w
 m:MlAt w
theorem Gd.below {w w':World} (h:Gd w) (hb:Below w.heap.size w w'):Gd w':=⟨h.b.below hb (Xa _),h.t.below hb (Xa _),h.p.below hb (Xa _),h.m.below hb (Xa _)⟩
set_option linter.unusedVariables false

theorem readL_le {rd:List UInt8→Option K} : ∀(ls:List (List UInt8)) (i:Nat) (st:Pd×List Tr) (n:Nat),readL rd i st ls=.inl n→n≤i+ls.length+1
 | [],i,st,n,h=>by unfold readL at h;cases h;simp
 | [l],i,st,n,h=>by
  unfold readL at h
  split at h
  ·cases h
  ·cases h;simp
 |l::m::ls,i,st,n,h=>by
  unfold readL at h
  cases hl:lineS rd i st (pieces 32 l)with
  |none=>rw [hl]at h;cases h;simp
  |some st'=>
   rw [hl]at h
   have:=readL_le (m::ls) (i+1) st' n h
   simp at this⊢
   omega
