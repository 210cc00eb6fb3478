/- A part. -/
import Derived.Test.YthiapcajheepbaaGreatDoorPwLopNew
import Derived.Test.YthiapcajheepbaaGreatDoorPwFltChoose
import Derived.Test.YthiapcajheepbaaGreatDoorPwBufMem
import Derived.Test.YthiapcajheepbaaGreatDoorPwQuePut
import Derived.Test.YthiapcajheepbaaGreatDoorPwTopWalks
set_option linter.all false
open Go.Proofs.Tryz
set_option maxHeartbeats 32000000
set_option maxRecDepth 8000
namespace Go.Proofs.YthiapcajheepbaaGreatDoor
namespace Wld
open Plain Pln Frm Lpp Crn

structure WS where
 now:Int
 sec:Int
 tg:Int
 fl:List Bool
 lp:Lp
 st:Stb.St
 n:Nat
 E:Nat→Int
 O:Nat→Int
 ql:Int
 qL:List Que.M
 F:Flt.FS
 R:List Buf.Rq
def onF:Nat→Flt.FS→List Buf.Rq→Flt.FS×List Buf.Rq
 |0,F,R=>(F,R)
 |k+1,F,R=>if Buf.nextB R=true∧Flt.giveE F=0 then onF k (Flt.giveS F) (Buf.runL R (Buf.nextN R) (Flt.giveN F))else(F,R)
def onW (S:WS):WS:= { S with F:=(onF S.R.length S.F S.R).1,R:=(onF S.R.length S.F S.R).2 }
noncomputable def inW (sec sh:Int) (t:Tr):Bool:= @decide (InP (mt t.a) (mt t.b) (minOf sec sh) sh) (Classical.propDecidable _)
theorem inW_iff (sec sh:Int) (t:Tr):inW sec sh t=true↔InP (mt t.a) (mt t.b) (minOf sec sh) sh:=by
 unfold inW;rw [@decide_eq_true_iff _ (Classical.propDecidable _)]
def secW (S:WS):Int:=min (S.sec+S.now) 100000000000
def rdOf (S:WS) (t:Tr) (f:Bool):Rd:=
 if t.k=1 then⟨f,S.n,Top.dif S.E S.O⟩else if t.k=2 then⟨f,1,fun _=>(Que.depth (Que.backL S.now S.qL):Int)⟩else⟨f,0,fun _=>0⟩
def rdsW (ts:List Tr) (S:WS):List Rd:=List.zipWith (rdOf S) ts S.fl
def busyW (S:WS):Bool:=decide (0<Buf.many (-1) 1 S.R)||decide (0<Buf.many (-1) 2 S.R)
def isQ (t:Tr):Bool:=t.k==2
def readQ (ts:List Tr) (S:WS):List Que.M:=if ts.any isQ=true then Que.backL S.now S.qL else S.qL
noncomputable def wantW (p:Pd) (ts:List Tr) (S:WS):Int:=wK p (Flt.cnt S.F.L) (inW (secW S) p.sh) ts (rdsW ts S) S.lp.fs ts.length
noncomputable def needW (p:Pd) (ts:List Tr) (S:WS):Bool:=aK (busyW S) (inW (secW S) p.sh) ts (rdsW ts S) S.lp.fs ts.length
noncomputable def toldW (p:Pd) (ts:List Tr) (S:WS):Int:=Lop.lookP p S.lp S.st S.now (Flt.cnt S.F.L) (wantW p ts S) (needW p ts S)
noncomputable def lookW (p:Pd) (ts:List Tr) (S:WS):WS:=
 { S with tg:=toldW p ts S,lp:=nextL S.lp ts (rdsW ts S) S.now (needW p ts S),st:=Lop.nextS p S.lp S.st S.now (Flt.cnt S.F.L) (wantW p ts S) (needW p ts S),qL:=readQ ts S,F:=Flt.scaleF S.F (toldW p ts S) }
def lateW (S:WS):WS:= { S with now:=S.now+1,R:=Buf.turnL (Buf.isLate (S.now+1)) 4 S.R }
noncomputable def dueW (p:Pd) (ts:List Tr) (S:WS):WS:=if Lop.dueP p S.lp S.now=true then lookW p ts S else S
noncomputable def tick1 (p:Pd) (ts:List Tr) (S:WS):WS:=onW (dueW p ts (lateW S))
noncomputable def tickW (p:Pd) (ts:List Tr):Nat→WS→WS
 |0,S=>S
 |k+1,S=>tickW p ts k (tick1 p ts S)
theorem tickW_succ (p:Pd) (ts:List Tr): ∀(k:Nat) (S:WS),tickW p ts (k+1) S=tick1 p ts (tickW p ts k S)
 |0,_=>rfl
 |k+1,S=>by rw [tickW,tickW_succ p ts k (tick1 p ts S)];rfl
def putE (L:List Que.M) (n:Int):Int:=if n<1 then 1 else if 200<L.length+n then 6 else 0
def putW (S:WS) (n:Int):WS:=if putE S.qL n=0 then { S with ql:=S.ql+n,qL:=S.qL++Que.news S.ql n.toNat } else S
def leaseE (L:List Que.M) (now n:Int):Int:=if¬(1≤n∧n≤100000)then 1 else match (Que.backL now L).findIdx? Que.free with
 |none=>4
 |some _=>0
def leaseL (L:List Que.M) (now n:Int):List Que.M:=if¬(1≤n∧n≤100000)then L else match (Que.backL now L).findIdx? Que.free with
 |none=>Que.backL now L
 |some i=>match (Que.backL now L)[i]? with
  |none=>Que.backL now L
  |some m=>(Que.backL now L).set i ⟨m.id,now+n,true⟩
def ackE (L:List Que.M) (now id:Int):Int:=match (Que.backL now L).findIdx? (Que.isId id)with
 |none=>4
 |some i=>match (Que.backL now L)[i]? with
  |none=>4
  |some m=>if m.tk=true then 0 else 7
def ackL (L:List Que.M) (now id:Int):List Que.M:=match (Que.backL now L).findIdx? (Que.isId id)with
 |none=>Que.backL now L
 |some i=>match (Que.backL now L)[i]? with
  |none=>Que.backL now L
  |some m=>if m.tk=true then(Que.backL now L).eraseIdx i else Que.backL now L
def inN (S:WS) (a:Int):Bool:=decide (0≤a)&&decide (a<(S.n:Int))
def makeE (S:WS) (a n:Int):Int:=if inN S a=true then(if 1≤n∧n≤100000 then 0 else 1)else 4
def makeW (S:WS) (a n:Int):WS:=if makeE S a n=0 then { S with E:=Top.upd S.E a.toNat (S.E a.toNat+n) } else S
def takeE (S:WS) (a n:Int):Int:=if inN S a=true then(if S.O a.toNat≤n∧n≤S.E a.toNat then 0 else 1)else 4
def takeW (S:WS) (a n:Int):WS:=if takeE S a n=0 then { S with O:=Top.upd S.O a.toNat n } else S
def failE (S:WS) (a n:Int):Int:=if 0≤a∧a<(S.fl.length:Int)then(if n=0∨n=1 then 0 else 1)else 4
def failW (S:WS) (a n:Int):WS:=if failE S a n=0 then { S with fl:=S.fl.set a.toNat (n==1) } else S
def pauseE (n:Int):Int:=if-1≤n∧n≤50 then 0 else 1
def pauseW (S:WS) (n:Int):WS:=if pauseE n=0 then { S with lp:=⟨S.lp.fs,S.lp.lk,S.lp.la,S.lp.nd,n⟩ } else S
def readyW (S:WS) (n:Int):WS:=if Flt.turnE S.F.L n 2=0 then onW { S with F:=Flt.turnS S.F n 2 } else S
def crashW (S:WS) (n:Int):WS:=if Flt.crashE S.F.L n=0 then onW { S with F:=Flt.crashS S.F n,R:=Buf.turnL (Buf.isAt n) 5 S.R } else S
def askW (S:WS) (a n:Int):WS:=if Buf.askE S.R S.now a n=0 then onW { S with R:=Buf.askL S.R S.now a n } else S
def doneW (S:WS) (n:Int):WS:=if Buf.doneE S.R n=0 then onW { S with R:=Buf.doneL S.R n,F:=Flt.doneS S.F (Buf.doneN S.R n) } else S
def tickE (S:WS) (n:Int):Int:=if(1≤n∧n≤1000)∧S.now+n≤1099511627776 then 0 else 1
def doE (S:WS) (k a n:Int):Int:=
 if k=1 then tickE S n else if k=2 then makeE S a n else if k=3 then takeE S a n else if k=4 then putE S.qL n else if k=5 then leaseE S.qL S.now n
 else if k=6 then ackE S.qL S.now n else if k=7 then failE S a n else if k=8 then Flt.turnE S.F.L n 1 else if k=9 then Flt.turnE S.F.L n 2
 else if k=10 then Flt.crashE S.F.L n else if k=11 then Buf.askE S.R S.now a n else if k=12 then Buf.doneE S.R n else if k=13 then pauseE n else 1
noncomputable def doW (p:Pd) (ts:List Tr) (S:WS) (k a n:Int):WS:=
 if k=1 then(if tickE S n=0 then tickW p ts n.toNat S else S)else if k=2 then makeW S a n else if k=3 then takeW S a n else if k=4 then putW S n
 else if k=5 then { S with qL:=leaseL S.qL S.now n } else if k=6 then { S with qL:=ackL S.qL S.now n } else if k=7 then failW S a n
 else if k=8 then { S with F:=Flt.turnS S.F n 1 } else if k=9 then readyW S n else if k=10 then crashW S n else if k=11 then askW S a n
 else if k=12 then doneW S n else if k=13 then pauseW S n else S
def newW (p:Pd) (ts:List Tr) (n:Nat) (most sec:Int):WS:=
 ⟨0,sec,0,List.replicate ts.length false,Lop.newL ts.length,Stb.new (Lop.nU p) (Lop.nD p),n,fun _=>0,fun _=>0,0,[],⟨Flt.mostN most,0,[]⟩,[]⟩

structure WI (ts:List Tr) (S:WS) (h k:Nat):Prop where
 nw:0≤S.now∧S.now≤1099511627776
 sc: -10000000000≤S.sec∧S.sec≤10000000000
 fl:S.fl.length=ts.length
 lp:Lop.LI ts S.lp S.st k
 la:S.lp.la≤S.now
 pa: -1≤S.lp.pa∧S.lp.pa≤50
 n:1≤S.n∧S.n≤20
 tb: ∀i,i<S.n→0≤S.O i∧S.O i≤S.E i∧S.E i≤100000*(h:Int)
 q:Que.Inv S.qL S.ql
 qb:0≤S.ql∧S.ql≤200*(h:Int)
 f:Flt.Inv S.F
 fb:S.F.last≤50*(k:Int)
 cn:(Flt.cnt S.F.L:Int)≤50
 r:Buf.Inv S.R
section
variable {p : Pd} {ts : List Tr} {S : WS} {h k : Nat}
theorem cnt_set {L:List Flt.Pd} {i:Nat} {x y:Flt.Pd} (hx:L[i]? =some x) (hs:Flt.stays y=Flt.stays x):Flt.cnt (L.set i y)=Flt.cnt L:=by
 induction L generalizing i with
 |nil=>simp at hx
 |cons a L ih=>
  cases i with
  |zero=>simp at hx;subst hx;rw [List.set_cons_zero,Flt.cnt_cons,Flt.cnt_cons,hs]
  |succ i=>rw [List.set_cons_succ,Flt.cnt_cons,Flt.cnt_cons,ih (by simpa using hx)]
theorem cnt_erase (L:List Flt.Pd) (i:Nat):Flt.cnt (L.eraseIdx i)≤Flt.cnt L:=(List.eraseIdx_sublist L i).countP_le
theorem turn_cnt (L:List Flt.Pd) (id fr:Int) (h1:fr=1∨fr=2):Flt.cnt (Flt.turnL L id fr)=Flt.cnt L:=by
 cases hf:L.findIdx? (Flt.isId id)with
 |none=>rw [(Flt.turn_none hf).2]
 |some i=>
  obtain⟨x,hx,_⟩:=Flt.find_get hf;by_cases hs:x.st=fr
  ·rw [(Flt.turn_ok hf hx hs).2,cnt_set hx];unfold Flt.stays;rcases h1 with rfl|rfl<;>simp [hs]
  ·rw [(Flt.turn_state hf hx hs).2]
theorem crash_cnt (L:List Flt.Pd) (id:Int):Flt.cnt (Flt.crashL L id)≤Flt.cnt L:=by
 unfold Flt.crashL;split
 ·exact Xa _
 ·exact cnt_erase _ _
theorem give_cnt (F:Flt.FS):Flt.cnt (Flt.giveS F).L=Flt.cnt F.L∧(Flt.giveS F).last=F.last:=by
 cases hp:Flt.pick (Flt.room F.most) Flt.given F.L 0 none with
 |none=>rw [(Flt.give_none hp).1];exact⟨rfl,rfl⟩
 |some x=>
  obtain⟨i,q⟩:=x;rw [(Flt.give_some hp).1];obtain⟨_,h2,_⟩:=Flt.pick_mem hp;exact⟨cnt_set h2 rfl,rfl⟩
theorem done_cnt (L:List Flt.Pd) (id:Int):Flt.cnt (Flt.doneL L id)≤Flt.cnt L:=by
 cases hf:L.findIdx? (Flt.isId id)with
 |none=>rw [(Flt.done_none hf).2];exact Xa _
 |some i=>
  obtain⟨x,hx,_⟩:=Flt.find_get hf;by_cases hs:x.ld=0
  ·rw [(Flt.done_state hf hx hs).2];exact Xa _
  ·rw [(Flt.done_ok hf hx hs).2];unfold Flt.doneL1;have e:Flt.cnt (L.set i ⟨x.id,x.st,x.ld-1⟩)=Flt.cnt L:=cnt_set hx rfl;split
   ·exact Xc (cnt_erase _ _) (Nat.le_of_eq e)
   ·exact Nat.le_of_eq e
theorem WI.len (g:WI ts S h k):(S.F.L.length:Int)≤50*(k:Int):=by
 have:=Flt.len_gap S.F.L 0 S.F.last g.f.srt (fun q hq=>⟨(g.f.bd q hq).1,(g.f.bd q hq).2.1⟩) g.f.l0;have:=g.fb;omega
theorem WI.mono {h' k':Nat} (g:WI ts S h k) (h1:h≤h') (h2:k≤k'):WI ts S h' k':=
 ⟨g.nw,g.sc,g.fl,g.lp.mono h2,g.la,g.pa,g.n,fun i hi=>by have:=g.tb i hi;omega,g.q,by have:=g.qb;omega,g.f,by have:=g.fb;omega,g.cn,g.r⟩
theorem WI.fr (g:WI ts S h k) {F:Flt.FS} {R:List Buf.Rq} (hF:Flt.Inv F) (hR:Buf.Inv R) (hc:Flt.cnt F.L≤Flt.cnt S.F.L) (hl:F.last≤S.F.last):WI ts { S with F:=F,R:=R } h k:=
 ⟨g.nw,g.sc,g.fl,g.lp,g.la,g.pa,g.n,g.tb,g.q,g.qb,hF,Yc hl g.fb,by have:=g.cn;show(Flt.cnt F.L:Int)≤50;omega,hR⟩
theorem on_inv: ∀(m:Nat) (F:Flt.FS) (R:List Buf.Rq),Flt.Inv F→Buf.Inv R→Flt.Inv (onF m F R).1∧Buf.Inv (onF m F R).2∧Flt.cnt (onF m F R).1.L=Flt.cnt F.L∧(onF m F R).1.last=F.last
 |0,_,_,hF,hR=>⟨hF,hR,rfl,rfl⟩
 |m+1,F,R,hF,hR=>by
  unfold onF
  split
  ·obtain⟨a,b,c,d⟩:=on_inv m _ _ (Flt.give_inv hF) (Buf.run_inv hR (Buf.nextN R) (Flt.giveN F))
   obtain⟨e,f⟩:=give_cnt F
   exact⟨a,b,c.trans e,d.trans f⟩
  ·exact⟨hF,hR,rfl,rfl⟩
theorem WI.on (g:WI ts S h k):WI ts (onW S) h k:=by
 obtain⟨a,b,c,d⟩:=on_inv S.R.length S.F S.R g.f g.r;exact g.fr a b (Nat.le_of_eq c) (Int.le_of_eq d)
theorem WI.late (g:WI ts S h k) (hn:S.now+1≤1099511627776):WI ts (lateW S) h k:=
 ⟨⟨by have:=g.nw;show 0≤S.now+1;omega,hn⟩,g.sc,g.fl,g.lp,by have:=g.la;show S.lp.la≤S.now+1;omega,g.pa,g.n,g.tb,g.q,g.qb,g.f,g.fb,g.cn,Buf.turn_inv g.r _ 4 (by omega)⟩
theorem back_inv {L:List Que.M} {l c:Int} (h:Que.Inv L l):Que.Inv (Que.backL c L) l:=h.back c
theorem readQ_inv (g:WI ts S h k):Que.Inv (readQ ts S) S.ql:=by
 unfold readQ;split
 ·exact back_inv g.q
 ·exact g.q
theorem rds_len (g:WI ts S h k):(rdsW ts S).length=ts.length:=by
 unfold rdsW;rw [List.length_zipWith,g.fl,Nat.min_self]
theorem told_bd (hP:PlOk p ts) (g:WI ts S h k):0≤toldW p ts S∧toldW p ts S≤50:=by
 have h1:=hP.mn;have h2:=hP.mx;by_cases hpa:0≤S.lp.pa
 ·unfold toldW Lop.lookP;rw [if_pos hpa];exact⟨hpa,g.pa.2⟩
 ·have:=Lop.look_bds (st:=S.st) (now:=S.now) (hv:=(Flt.cnt S.F.L:Int)) (WK:=wantW p ts S) (AK:=needW p ts S) hP (show S.lp.pa<0 by omega);unfold toldW;omega
theorem WI.look (hP:PlOk p ts) (g:WI ts S h k):WI ts (lookW p ts S) h (k+1):=by
 have hb:=told_bd hP g;have hc:=g.cn;refine⟨g.nw,g.sc,g.fl,g.lp.look hP ⟨g.la,g.nw.2⟩ ⟨by omega,hc⟩,Xu _,g.pa,g.n,g.tb,readQ_inv g,g.qb,Flt.scaleF_inv g.f _,?_,?_,g.r⟩
 ·have:=Flt.scaleF_last (F:=S.F) (toldW p ts S);have:=g.fb;show(Flt.scaleF S.F (toldW p ts S)).last≤_;omega
 ·show(Flt.cnt (Flt.scaleF S.F (toldW p ts S)).L:Int)≤50;unfold Flt.scaleF;rw [if_pos hb,Flt.scale_cnt hb.1];exact hb.2
theorem WI.due (hP:PlOk p ts) (g:WI ts S h k):WI ts (dueW p ts S) h (k+1):=by
 unfold dueW;split
 ·exact g.look hP
 ·exact g.mono (Xa _) (by omega)
theorem WI.tick1 (hP:PlOk p ts) (g:WI ts S h k) (hn:S.now+1≤1099511627776):WI ts (tick1 p ts S) h (k+1):=((g.late hn).due hP).on
theorem due_now (S:WS):(dueW p ts S).now=S.now:=by unfold dueW;split<;>rfl
theorem tick1_now (S:WS):(tick1 p ts S).now=S.now+1:=due_now (lateW S)
theorem tickW_now: ∀(m:Nat) (S:WS),(tickW p ts m S).now=S.now+m
 |0,S=>by simp [tickW]
 |m+1,S=>by rw [tickW,tickW_now m,tick1_now];omega
theorem WI.ticks (hP:PlOk p ts): ∀(m:Nat) {S:WS} {k:Nat},WI ts S h k→S.now+m≤1099511627776→WI ts (tickW p ts m S) h (k+m)
 |0,_,_,g,_=>g
 |m+1,S,k,g,hn=>by
  have:=(g.tick1 hP (by omega)).ticks hP m (by rw [tick1_now];omega)
  rw [Nat.add_assoc,Nat.add_comm 1 m]at this
  exact this
end
end Wld
namespace Wld
open Go.RowKit Plain Pln Frm Lpp Crn
variable {i j a G:Nat} {u v:Value} {X:Nat→Int} {t:Tr} {wr:World}

structure Ch (D:Nat) (r:Nat→Prop) (b b':Nat→Prop) (w w':World):Prop where
 os:w'.os=w.os
 tape:w'.tape=w.tape
 output:w'.output=w.output
 size:w.heap.size≤w'.heap.size
 block: ∀k,k<w.heap.size→k≠D→ ¬b k→w'.heap[k]? =w.heap[k]?
 loc: ∀k,b' k→b k∨w.heap.size≤k
 cell: ∀j,¬r j→w'.cell? ⟨D,j,none⟩=w.cell? ⟨D,j,none⟩
 fz: ∀j,w'.frozen? ⟨D,j,none⟩=false
structure Fam (B D:Nat) (b:Nat→Nat→Prop) (w:World):Prop where
 lt: ∀i k,i<6→b i k→B≤k∧k<w.heap.size∧k≠D
 ap: ∀i j k,i<6→j<6→i≠j→b i k→ ¬b j k
theorem Fam.step {B D:Nat} {b b':Nat→Nat→Prop} {r:Nat→Prop} {w w':World} (h:Fam B D b w) (hD:D<w.heap.size) (hB:B≤D) (hi:i<6) (m:Ch D r (b i) (b' i) w w') (hc: ∀k,b' i k→k<w'.heap.size) (ho: ∀j,j<6→j≠i→b' j=b j):Fam B D b' w':=by
 have new: ∀k,b' i k→b i k∨w.heap.size≤k:=m.loc;refine⟨fun j k hj hk=> ?_,fun j l k hj hl hne hk hn=> ?_⟩
 ·by_cases e:j=i
  ·subst e;rcases new k hk with a|a
   ·obtain⟨x,y,z⟩:=h.lt j k hj a;exact⟨x,Xb y m.size,z⟩
   ·exact⟨by omega,hc k hk,by omega⟩
  ·rw [ho j hj e]at hk;obtain⟨x,y,z⟩:=h.lt j k hj hk;exact⟨x,Xb y m.size,z⟩
 ·by_cases e:j=i
  ·subst e;rw [ho l hl hne.symm]at hn;rcases new k hk with a|a
   ·exact h.ap j l k hj hl hne a hn
   ·have:=(h.lt l k hl hn).2.1;omega
  ·rw [ho j hj e]at hk;by_cases e2:l=i
   ·subst e2;rcases new k hn with a|a
    ·exact h.ap j l k hj hl hne hk a
    ·have:=(h.lt j k hj hk).2.1;omega
   ·rw [ho l hl e2]at hn;exact h.ap j l k hj hl hne hk hn
structure Pc where
 x:Lop.Pl
 ta:Option Addr
 tc:Nat
 T:Nat
 G:Nat
 vq:Value
 vf:Value
 vb:Value
def part (c:Pc) (ts:List Tr):Nat→Nat→Prop
 |0,k=>k=c.T
 |1,k=>(Lop.blk c.x k∧k≠c.x.D)∨ ∃off,0<ts.length∧c.ta=some ⟨k,off,none⟩
 |2,k=>k=c.G
 |3,k=>c.vq.ownBlock=some k
 |4,k=>c.vf.ownBlock=some k
 |_,k=>c.vb.ownBlock=some k
def bk (c:Pc) (ts:List Tr) (k:Nat):Prop:=k=c.x.D∨ ∃i,i<6∧part c ts i k
structure TrgAt (w:World) (T:Nat) (ts:List Tr) (fl:List Bool):Prop where
 lt:T<w.heap.size
 fz: ∀j,w.frozen? ⟨T,j,none⟩=false
 k: ∀i t,ts[i]? =some t→w.cell? ⟨T,i*2,none⟩=some (.int .i64 t.k)
 f: ∀i b,fl[i]? =some b→w.cell? ⟨T,i*2+1,none⟩=some (.bool b)
theorem TrgAt.kept {w w':World} {T:Nat} {ts:List Tr} {fl:List Bool} (h:TrgAt w T ts fl) (hb:w'.heap[T]? =w.heap[T]?) (hz:w.heap.size≤w'.heap.size):TrgAt w' T ts fl:=
 ⟨Xb h.lt hz,fun j=>(Xl (w:=w) (a:=⟨T,j,none⟩) hb).trans (h.fz j),fun i t ht=>(Xf (w:=w) (a:=⟨T,i*2,none⟩) hb).trans (h.k i t ht),fun i b hf=>(Xf (w:=w) (a:=⟨T,i*2+1,none⟩) hb).trans (h.f i b hf)⟩
def Bas (B:Nat) (w:World):Prop:= ∃w0:World,Lai.BdsAt w0∧w0.heap.size≤B∧Below w0.heap.size w0 w
theorem Bas.below {B:Nat} {w w':World} (h:Bas B w) (g:Below w.heap.size w w'):Bas B w':=by
 obtain⟨w0,a,b,d⟩:=h;exact⟨w0,a,b,(zu d g)⟩
theorem Bas.mv {B:Nat} {b b':Nat→Prop} {w w':World} (h:Bas B w) (hb: ∀k,b k→B≤k) (m:Mm.Mv b b' w w'):Bas B w':=by
 obtain⟨w0,a,e,d⟩:=h;exact⟨w0,a,e,d.trans (m.below (fun k hk=>Xc e (hb k hk)) d.size)⟩
theorem Bas.bds {B:Nat} {w:World} (h:Bas B w):Lai.BdsAt w:=by
 obtain⟨w0,a,_,d⟩:=h;exact a.below d (Xa _)
structure WAt (w:World) (B:Nat) (c:Pc) (p:Pd) (ts:List Tr) (S:WS):Prop where
 lo:Lop.LAt w B c.x p c.ta c.tc ts S.lp S.st
 c0:w.cell? ⟨c.x.D,0,none⟩=some (.int .i64 S.now)
 c1:w.cell? ⟨c.x.D,1,none⟩=some (.int .i64 S.sec)
 c2:w.cell? ⟨c.x.D,2,none⟩=some (.int .i64 S.tg)
 c3:w.cell? ⟨c.x.D,3,none⟩=some (.slice (some ⟨c.T,0,none⟩) ts.length ts.length)
 tr:TrgAt w c.T ts S.fl
 tp:Top.TopAt w c.x.D c.G S.n S.E S.O
 qu:Que.QAt w 128 B c.x.D 44 45 S.ql c.vq S.qL
 fl:Flt.FAt w B c.x.D c.vf S.F
 bu:Buf.HAt w B c.x.D c.vb S.R
 fa:Fam B c.x.D (part c ts) w
 ba:Bas B w
section
variable {w w' : World} {B : Nat} {c c' : Pc} {p : Pd} {ts : List Tr} {S : WS} {r b b' : Nat → Prop}
theorem WAt.lt (h:WAt w B c p ts S):c.x.D<w.heap.size:=h.lo.lt
theorem WAt.bD (h:WAt w B c p ts S):B≤c.x.D:=h.lo.bD
theorem WAt.fz (h:WAt w B c p ts S) (j:Nat):w.frozen? ⟨c.x.D,j,none⟩=false:=h.lo.fz j
theorem WAt.low (h:WAt w B c p ts S) {k:Nat} (hk:bk c ts k):B≤k∧k<w.heap.size:=by
 rcases hk with rfl|⟨i,hi,hk⟩
 ·exact⟨h.bD,h.lt⟩
 ·exact⟨(h.fa.lt i k hi hk).1,(h.fa.lt i k hi hk).2.1⟩
def reR (c:Pc) (w':World):Pc:= { c with x:=⟨c.x.D,c.x.vF,c.x.V,fun j=>w'.cell? ⟨c.x.D,j,none⟩⟩ }
theorem part_reR (c:Pc) (w':World) (ts:List Tr):part (reR c w') ts=part c ts:=by
 funext i k;rcases i with _|_|_|_|_|i<;>rfl
theorem keepL (h:WAt w B c p ts S) (m:Ch c.x.D r b b' w w') (hr: ∀j,4≤j→j<43→ ¬r j) (hb: ∀k,part c ts 1 k→ ¬b k):Lop.LAt w' B (reR c w').x p c.ta c.tc ts S.lp S.st:=by
 refine Lop.LAtO.sib h.lo (Xb h.lt m.size) m.fz (fun j h1 h2=>m.cell j (hr j h1 h2)) (fun k hk ho=> ?_) m.size (fun j _=>rfl);have hp:part c ts 1 k:=by
  rcases ho with a|a
  ·exact Or.inl ⟨a,hk⟩
  ·exact Or.inr a
 exact m.block k (h.fa.lt 1 k (by decide) hp).2.1 hk (hb k hp)
theorem keepT (h:WAt w B c p ts S) (m:Ch c.x.D r b b' w w') (hb: ¬b c.T):TrgAt w' c.T ts S.fl:=
 h.tr.kept (m.block c.T h.tr.lt (h.fa.lt 0 c.T (by decide) rfl).2.2 hb) m.size
theorem keepO (h:WAt w B c p ts S) (m:Ch c.x.D r b b' w w') (hr: ¬r 43) (hb: ¬b c.G):Top.TopAt w' c.x.D c.G S.n S.E S.O:=by
 obtain⟨a,b1,c1,d⟩:=h.tp;exact⟨a,Xb b1 m.size,(m.cell _ hr).trans c1,d.kept (m.block c.G d.1 a.symm hb)⟩
theorem keepQ (h:WAt w B c p ts S) (m:Ch c.x.D r b b' w w') (hr: ¬r 44) (hr2: ¬r 45) (hb: ∀k,part c ts 3 k→ ¬b k):Que.QAt w' 128 B c.x.D 44 45 S.ql c.vq S.qL:=
 h.qu.sib (Xb h.lt m.size) m.fz (m.cell _ hr) (m.cell _ hr2) (fun g hg=>m.block g (h.fa.lt 3 g (by decide) hg).2.1 (h.fa.lt 3 g (by decide) hg).2.2 (hb g hg))
theorem keepF (h:WAt w B c p ts S) (m:Ch c.x.D r b b' w w') (hr: ∀j,46≤j→j<49→ ¬r j) (hb: ∀k,part c ts 4 k→ ¬b k):Flt.FAt w' B c.x.D c.vf S.F:=
 Rec.RAt.sib h.fl (Xb h.lt m.size) m.fz (fun j hj=>m.cell _ (hr _ (by omega) (by simp at hj;omega))) (fun g hg=>m.block g (h.fa.lt 4 g (by decide) hg).2.1 (h.fa.lt 4 g (by decide) hg).2.2 (hb g hg))
theorem keepB (h:WAt w B c p ts S) (m:Ch c.x.D r b b' w w') (hr: ¬r 49) (hb: ∀k,part c ts 5 k→ ¬b k):Buf.HAt w' B c.x.D c.vb S.R:=
 Rec.RAt.sib h.bu (Xb h.lt m.size) m.fz (fun j hj => by
  have:j=0:=by simp at hj;omega
  subst this
  exact m.cell _ hr) (fun g hg=>m.block g (h.fa.lt 5 g (by decide) hg).2.1 (h.fa.lt 5 g (by decide) hg).2.2 (hb g hg))
theorem Ch.mv (m:Ch c.x.D r (part c ts i) (part c' ts i) w w') (hi:i<6) (hx:c'.x.D=c.x.D) (ho: ∀j,j<6→j≠i→part c' ts j=part c ts j):Mm.Mv (bk c ts) (bk c' ts) w w':=by
 refine⟨m.os,m.tape,m.output,m.size,fun k hk hn=>m.block k hk (fun e=>hn (Or.inl e)) (fun e=>hn (Or.inr ⟨i,hi,e⟩)),fun k hk=> ?_⟩;rcases hk with e|⟨j,hj,e⟩
 ·exact Or.inl (Or.inl (e.trans hx))
 ·by_cases ej:j=i
  ·subst ej;rcases m.loc k e with a|a
   ·exact Or.inl (Or.inr ⟨j,hj,a⟩)
   ·exact Or.inr a
  ·rw [ho j hj ej]at e;exact Or.inl (Or.inr ⟨j,hj,e⟩)
theorem WAt.kept (h:WAt w B c p ts S) (hb: ∀k,bk c ts k→w'.heap[k]? =w.heap[k]?) (hz:w.heap.size≤w'.heap.size) (ba:Bas B w'):WAt w' B c p ts S:=by
 have hD:w'.heap[c.x.D]? =w.heap[c.x.D]? :=hb _ (Or.inl rfl);have e: ∀j,w'.cell? ⟨c.x.D,j,none⟩=w.cell? ⟨c.x.D,j,none⟩:=fun j=>Xf (w:=w) (a:=⟨c.x.D,j,none⟩) hD;have hp: ∀i k,i<6→part c ts i k→w'.heap[k]? =w.heap[k]? :=fun i k hi hk=>hb k (Or.inr ⟨i,hi,hk⟩);obtain⟨a,b1,c1,d⟩:=h.tp
 exact ⟨Lop.LAtO.kept h.lo (fun k hk => by
  by_cases e:k=c.x.D
  ·rw [e];exact hD
  ·rcases hk with x|x
   ·exact hp 1 k (by decide) (Or.inl ⟨x,e⟩)
   ·exact hp 1 k (by decide) (Or.inr x)) hz, (e _).trans h.c0, (e _).trans h.c1, (e _).trans h.c2, (e _).trans h.c3, h.tr.kept (hp 0 _ (by decide) rfl) hz, ⟨a, Xb b1 hz, (e _).trans c1, d.kept (hp 2 _ (by decide) rfl)⟩, h.qu.kept hD (fun g hg => hp 3 g (by decide) hg), Rec.RAt.kept h.fl hD (fun g hg => hp 4 g (by decide) hg), Rec.RAt.kept h.bu hD (fun g hg => hp 5 g (by decide) hg), ⟨fun i k hi hk => by
  obtain⟨x,y,z⟩:=h.fa.lt i k hi hk;exact⟨x,Xb y hz,z⟩,h.fa.ap⟩,ba⟩
theorem WAt.below (h:WAt w B c p ts S) (g:Below w.heap.size w w'):WAt w' B c p ts S:=
 h.kept (fun k hk=>g.block k (h.low hk).2) g.size (h.ba.below g)
theorem WAt.put {k:Nat} (h:WAt w B c p ts S) (hn: ¬bk c ts k) (hk:B≤k):WAt (w.setCell ⟨k,j,none⟩ u) B c p ts S:=by
 refine h.kept (fun i hi=>Below.heap_setCell w _ _ i (fun e=>hn (by rw [←show i=k from e];exact hi))) (by simp) ?_;obtain⟨w0,a,e,d⟩:=h.ba;exact⟨w0,a,e,d.setCell (p:=⟨k,j,none⟩) (Xc e hk) u⟩
theorem mv_put {k:Nat} (h:Mm.Mv b b' w w') (hk:w.heap.size≤k):Mm.Mv b b' w (w'.setCell ⟨k,j,none⟩ u):=
 ⟨h.os,h.tape,h.output,by simpa using h.size,fun i hi hn=>(Below.heap_setCell w' _ _ i (fun e=>by have:i=k:=e;omega)).trans (h.block i hi hn),h.loc⟩
end

def Wst (B:Nat) (c:Pc) (p:Pd) (ts:List Tr) (S':WS) (w w':World):Prop:= ∃c',WAt w' B c' p ts S'∧c'.x.D=c.x.D∧Mm.Mv (bk c ts) (bk c' ts) w w'
def Same (c c':Pc):Prop:=Lop.blk c'.x=Lop.blk c.x∧c'.T=c.T
theorem Same.trans {c c' c'':Pc} (h:Same c c') (g:Same c' c''):Same c c'':=⟨g.1.trans h.1,g.2.trans h.2⟩
def Wsk (B:Nat) (c:Pc) (p:Pd) (ts:List Tr) (S':WS) (w w':World):Prop:= ∃c',WAt w' B c' p ts S'∧c'.x.D=c.x.D∧Same c c'∧Mm.Mv (bk c ts) (bk c' ts) w w'
section
variable {w w' w'' : World} {B : Nat} {c c' : Pc} {p : Pd} {ts : List Tr} {S S' S'' : WS}
theorem Wsk.st (h:Wsk B c p ts S w w'):Wst B c p ts S w w':=by
 obtain⟨c',a,b,_,m⟩:=h;exact⟨c',a,b,m⟩
theorem Wsk.refl (h:WAt w B c p ts S):Wsk B c p ts S w w:=⟨c,h,rfl,⟨rfl,rfl⟩,Mm.Mv.refl _ _⟩
theorem Wsk.below (h:Wsk B c p ts S w w') (g:Below w'.heap.size w' w''):Wsk B c p ts S w w'':=by
 obtain⟨c',a,b,e,m⟩:=h;exact⟨c',a.below g,b,e,m.trans (Mm.Mv.of_below g)⟩
theorem Wsk.trans (m:Mm.Mv (bk c ts) (bk c' ts) w w') (e:c'.x.D=c.x.D) (e2:Same c c') (h:Wsk B c' p ts S w' w''):Wsk B c p ts S w w'':=by
 obtain⟨c2,a,b,d,m2⟩:=h;exact⟨c2,a,b.trans e,e2.trans d,m.trans m2⟩
theorem WAt.lows (h:WAt w B c p ts S): ∀k,bk c ts k→B≤k:=fun _ hk=>(h.low hk).1
theorem Wst.refl (h:WAt w B c p ts S):Wst B c p ts S w w:=⟨c,h,rfl,Mm.Mv.refl _ _⟩
theorem Wst.below (h:Wst B c p ts S w w') (g:Below w'.heap.size w' w''):Wst B c p ts S w w'':=by
 obtain⟨c',a,b,m⟩:=h;exact⟨c',a.below g,b,m.trans (Mm.Mv.of_below g)⟩
theorem WAt.on (h:WAt w B c p ts S) (g:Below w.heap.size w w'):Wst B c p ts S w w':=(Wst.refl h).below g
theorem Wst.trans (m:Mm.Mv (bk c ts) (bk c' ts) w w') (e:c'.x.D=c.x.D) (h:Wst B c' p ts S w' w''):Wst B c p ts S w w'':=by
 obtain⟨c2,a,b,m2⟩:=h;exact⟨c2,a,b.trans e,m.trans m2⟩
theorem part_q (c:Pc) (w':World) (ts:List Tr) (u:Value): ∀j,j<6→j≠3→part { reR c w' with vq:=u } ts j=part c ts j:=by
 intro j hj hn;rcases j with _|_|_|_|_|_|j
 ·rfl
 ·rfl
 ·rfl
 ·exact absurd rfl hn
 ·rfl
 ·rfl
 ·omega
theorem part_f (c:Pc) (w':World) (ts:List Tr) (u:Value): ∀j,j<6→j≠4→part { reR c w' with vf:=u } ts j=part c ts j:=by
 intro j hj hn;rcases j with _|_|_|_|_|_|j
 ·rfl
 ·rfl
 ·rfl
 ·rfl
 ·exact absurd rfl hn
 ·rfl
 ·omega
theorem part_b (c:Pc) (w':World) (ts:List Tr) (u:Value): ∀j,j<6→j≠5→part { reR c w' with vb:=u } ts j=part c ts j:=by
 intro j hj hn;rcases j with _|_|_|_|_|_|j
 ·rfl
 ·rfl
 ·rfl
 ·rfl
 ·rfl
 ·exact absurd rfl hn
 ·omega
theorem WAt.queue (h:WAt w B c p ts S) {l:Int} {L:List Que.M} (hq:Que.QAt w' 128 B c.x.D 44 45 l v L) (t:Que.Turn Que.rQ c.x.D c.vq v w w'):Wsk B c p ts { S with ql:=l,qL:=L } w w':=by
 have m:Ch c.x.D Que.rQ (part c ts 3) (part { reR c w' with vq:=v } ts 3) w w':=⟨t.os,t.tape,t.output,t.size,fun k hk hD hb=>t.block k hk hD (fun e=>hb e.symm),fun k hk=>t.loc k hk,fun j hj=>t.rest h.lt h.qu.ne j hj,hq.fz⟩
 exact⟨{ reR c w' with vq:=v },⟨(keepL (c:=c) (S:=S) h m (fun j h1 h2 e=>by have:=e.1;have:=e.2;omega) (fun k hk e=>h.fa.ap 1 3 k (by decide) (by decide) (by decide) hk e)),(m.cell 0 (by decide)).trans h.c0,(m.cell 1 (by decide)).trans h.c1,(m.cell 2 (by decide)).trans h.c2,(m.cell 3 (by decide)).trans h.c3,(keepT (c:=c) (S:=S) h m (fun e=>h.fa.ap 0 3 c.T (by decide) (by decide) (by decide) rfl e)),(keepO (c:=c) (S:=S) h m (by decide) (fun e=>h.fa.ap 2 3 c.G (by decide) (by decide) (by decide) rfl e)),hq,(keepF (c:=c) (S:=S) h m (fun j h1 h2 e=>by have:=e.1;have:=e.2;omega) (fun k hk e=>h.fa.ap 4 3 k (by decide) (by decide) (by decide) hk e)),(keepB (c:=c) (S:=S) h m (by decide) (fun k hk e=>h.fa.ap 5 3 k (by decide) (by decide) (by decide) hk e)),h.fa.step h.lt h.bD (by decide) m (fun k hk=>hq.rowLt k hk) (part_q c w' ts v),h.ba.mv h.lows (m.mv (by decide) rfl (part_q c w' ts v))⟩,rfl,⟨rfl,rfl⟩,m.mv (by decide) rfl (part_q c w' ts v)⟩
theorem WAt.fleet (h:WAt w B c p ts S) {F:Flt.FS} (hq:Flt.FAt w' B c.x.D v F) (t:Rec.Turn Flt.rF c.x.D c.vf v w w'):Wst B c p ts { S with F:=F } w w':=by
 have m:Ch c.x.D Flt.rF (part c ts 4) (part { reR c w' with vf:=v } ts 4) w w':=⟨t.os,t.tape,t.output,t.size,fun k hk hD hb=>t.block k hk hD (fun e=>hb e.symm),fun k hk=>t.loc k hk,fun j hj=>t.rest h.lt h.fl.ne j hj,hq.fz⟩
 exact⟨{ reR c w' with vf:=v },⟨(keepL (c:=c) (S:=S) h m (fun j h1 h2 e=>by have:=e.1;have:=e.2;omega) (fun k hk e=>h.fa.ap 1 4 k (by decide) (by decide) (by decide) hk e)),(m.cell 0 (by decide)).trans h.c0,(m.cell 1 (by decide)).trans h.c1,(m.cell 2 (by decide)).trans h.c2,(m.cell 3 (by decide)).trans h.c3,(keepT (c:=c) (S:=S) h m (fun e=>h.fa.ap 0 4 c.T (by decide) (by decide) (by decide) rfl e)),(keepO (c:=c) (S:=S) h m (by decide) (fun e=>h.fa.ap 2 4 c.G (by decide) (by decide) (by decide) rfl e)),(keepQ (c:=c) (S:=S) h m (by decide) (by decide) (fun k hk e=>h.fa.ap 3 4 k (by decide) (by decide) (by decide) hk e)),hq,(keepB (c:=c) (S:=S) h m (by decide) (fun k hk e=>h.fa.ap 5 4 k (by decide) (by decide) (by decide) hk e)),h.fa.step h.lt h.bD (by decide) m (fun k hk=>hq.rowLt k hk) (part_f c w' ts v),h.ba.mv h.lows (m.mv (by decide) rfl (part_f c w' ts v))⟩,rfl,m.mv (by decide) rfl (part_f c w' ts v)⟩
theorem WAt.buffer (h:WAt w B c p ts S) {R:List Buf.Rq} (hq:Buf.HAt w' B c.x.D v R) (t:Rec.Turn Buf.rB c.x.D c.vb v w w'):Wst B c p ts { S with R:=R } w w':=by
 have m:Ch c.x.D Buf.rB (part c ts 5) (part { reR c w' with vb:=v } ts 5) w w':=⟨t.os,t.tape,t.output,t.size,fun k hk hD hb=>t.block k hk hD (fun e=>hb e.symm),fun k hk=>t.loc k hk,fun j hj=>t.rest h.lt h.bu.ne j hj,hq.fz⟩
 exact⟨{ reR c w' with vb:=v },⟨(keepL (c:=c) (S:=S) h m (fun j h1 h2 e=>by have:=e.1;have:=e.2;omega) (fun k hk e=>h.fa.ap 1 5 k (by decide) (by decide) (by decide) hk e)),(m.cell 0 (by decide)).trans h.c0,(m.cell 1 (by decide)).trans h.c1,(m.cell 2 (by decide)).trans h.c2,(m.cell 3 (by decide)).trans h.c3,(keepT (c:=c) (S:=S) h m (fun e=>h.fa.ap 0 5 c.T (by decide) (by decide) (by decide) rfl e)),(keepO (c:=c) (S:=S) h m (by decide) (fun e=>h.fa.ap 2 5 c.G (by decide) (by decide) (by decide) rfl e)),(keepQ (c:=c) (S:=S) h m (by decide) (by decide) (fun k hk e=>h.fa.ap 3 5 k (by decide) (by decide) (by decide) hk e)),(keepF (c:=c) (S:=S) h m (fun j h1 h2 e=>by have:=e.1;have:=e.2;omega) (fun k hk e=>h.fa.ap 4 5 k (by decide) (by decide) (by decide) hk e)),hq,h.fa.step h.lt h.bD (by decide) m (fun k hk=>hq.rowLt k hk) (part_b c w' ts v),h.ba.mv h.lows (m.mv (by decide) rfl (part_b c w' ts v))⟩,rfl,m.mv (by decide) rfl (part_b c w' ts v)⟩
theorem part_l (c:Pc) (x:Lop.Pl) (_hx:x.D=c.x.D) (ts:List Tr): ∀j,j<6→j≠1→part { c with x:=x } ts j=part c ts j:=by
 intro j hj hn;rcases j with _|_|_|_|_|_|j
 ·rfl
 ·exact absurd rfl hn
 ·rfl
 ·rfl
 ·rfl
 ·rfl
 ·omega
abbrev rP:Nat→Prop:=fun j=>4≤j∧j<43
theorem WAt.loop {V':Nat→Value} {s':Lp} {st':Stb.St} (h:WAt w B c p ts S) (hl:Lop.LAt w' B ⟨c.x.D,c.x.vF,V',c.x.R⟩ p c.ta c.tc ts s' st') (t:Lop.Mv (Lop.blk c.x) (Lop.blk ⟨c.x.D,c.x.vF,V',c.x.R⟩) w w'):Wst B c p ts { S with lp:=s',st:=st' } w w':=by
 have m:Ch c.x.D rP (part c ts 1) (part { c with x:=⟨c.x.D,c.x.vF,V',c.x.R⟩ } ts 1) w w':=by
  refine⟨t.os,t.tape,t.output,t.size,fun k hk hD hb=>t.block k hk (fun e=>hb (Or.inl ⟨e,hD⟩)),fun k hk=> ?_,fun j hj=> ?_,fun j=>hl.fz j⟩
  ·rcases hk with⟨a,e⟩|a
   ·rcases t.loc k a with g|g
    ·exact Or.inl (Or.inl ⟨g,e⟩)
    ·exact Or.inr g
   ·exact Or.inl (Or.inr a)
  ·have hn:j<4∨4+39≤j:=by
    by_cases e:j<4
    ·exact Or.inl e
    ·exact Or.inr (Nat.le_of_not_lt (fun e2=>hj ⟨Nat.le_of_not_lt e,e2⟩))
   exact(hl.rest j hn).trans (h.lo.rest j hn).symm
 exact ⟨{ c with x := ⟨c.x.D, c.x.vF, V', c.x.R⟩ }, ⟨hl, (m.cell 0 (by decide)).trans h.c0, (m.cell 1 (by decide)).trans h.c1, (m.cell 2 (by decide)).trans h.c2, (m.cell 3 (by decide)).trans h.c3, (keepT (c := c) (S := S) h m (fun e => h.fa.ap 0 1 c.T (by decide) (by decide) (by decide) rfl e)), (keepO (c := c) (S := S) h m (by decide) (fun e => h.fa.ap 2 1 c.G (by decide) (by decide) (by decide) rfl e)), (keepQ (c := c) (S := S) h m (by decide) (by decide) (fun k hk e => h.fa.ap 3 1 k (by decide) (by decide) (by decide) hk e)), (keepF (c := c) (S := S) h m (fun j h1 h2 e => by have := e.1; have := e.2; omega) (fun k hk e => h.fa.ap 4 1 k (by decide) (by decide) (by decide) hk e)), (keepB (c := c) (S := S) h m (by decide) (fun k hk e => h.fa.ap 5 1 k (by decide) (by decide) (by decide) hk e)), h.fa.step h.lt h.bD (by decide) m (fun k hk => by
  rcases hk with⟨a,_⟩|⟨off,hp,e⟩
  ·exact(hl.blt a).2
  ·exact hl.tlt hp e) (part_l c ⟨c.x.D,c.x.vF,V',c.x.R⟩ rfl ts),h.ba.mv h.lows (m.mv (by decide) rfl (part_l c ⟨c.x.D,c.x.vF,V',c.x.R⟩ rfl ts))⟩,rfl,m.mv (by decide) rfl (part_l c ⟨c.x.D,c.x.vF,V',c.x.R⟩ rfl ts)⟩
theorem WAt.topic {E O:Nat→Int} (h:WAt w B c p ts S) (hq:Top.TopAt w' c.x.D c.G S.n E O) (t:Top.Only c.G w w'):Wst B c p ts { S with E:=E,O:=O } w w':=by
 have hD:=h.tp.1;have e:w'.heap[c.x.D]? =w.heap[c.x.D]? :=t.block _ hD;have m:Ch c.x.D (fun _=>False) (part c ts 2) (part (reR c w') ts 2) w w':=⟨t.os,t.tape,t.output,Nat.le_of_eq t.size.symm,fun k hk _ hb=>t.block k hb,fun k hk=>Or.inl hk,fun j _=>Xf (w:=w) (a:=⟨c.x.D,j,none⟩) e,fun j=>(Xl (w:=w) (a:=⟨c.x.D,j,none⟩) e).trans (h.fz j)⟩
 exact⟨reR c w',⟨(keepL (c:=c) (S:=S) h m (fun j h1 h2 e=>e) (fun k hk e=>h.fa.ap 1 2 k (by decide) (by decide) (by decide) hk e)),(m.cell 0 (fun e=>e)).trans h.c0,(m.cell 1 (fun e=>e)).trans h.c1,(m.cell 2 (fun e=>e)).trans h.c2,(m.cell 3 (fun e=>e)).trans h.c3,(keepT (c:=c) (S:=S) h m (fun e=>h.fa.ap 0 2 c.T (by decide) (by decide) (by decide) rfl e)),hq,(keepQ (c:=c) (S:=S) h m (fun e=>e) (fun e=>e) (fun k hk e=>h.fa.ap 3 2 k (by decide) (by decide) (by decide) hk e)),(keepF (c:=c) (S:=S) h m (fun j h1 h2 e=>e) (fun k hk e=>h.fa.ap 4 2 k (by decide) (by decide) (by decide) hk e)),(keepB (c:=c) (S:=S) h m (fun e=>e) (fun k hk e=>h.fa.ap 5 2 k (by decide) (by decide) (by decide) hk e)),h.fa.step h.lt h.bD (by decide) m (fun k hk=>by rw [show k=c.G from hk];exact hq.2.2.2.1) (fun j hj _=>by rw [part_reR]),h.ba.mv h.lows (m.mv (c':=reR c _) (by decide) rfl (fun j hj _=>by rw [part_reR]))⟩,rfl,m.mv (by decide) rfl (fun j hj _=>by rw [part_reR])⟩
theorem WAt.trig {b:Bool} (h:WAt w B c p ts S) (ha:a<S.fl.length):Wst B c p ts { S with fl:=S.fl.set a b } w (w.setCell ⟨c.T,a*2+1,none⟩ (.bool b)):=by
 have hD:=(h.fa.lt 0 c.T (by decide) rfl).2.2;have m:Ch c.x.D (fun _=>False) (part c ts 0) (part (reR c (w.setCell ⟨c.T,a*2+1,none⟩ (.bool b))) ts 0) w (w.setCell ⟨c.T,a*2+1,none⟩ (.bool b)):=⟨rfl,rfl,rfl,by simp,fun k hk _ hb=>Below.heap_setCell w _ _ k hb,fun k hk=>Or.inl hk,fun j _=>Xd _ _ _ _ (fun e=>hD (congrArg Addr.block e)),fun j=>by rw [Xi];exact h.fz j⟩
 have hq:TrgAt (w.setCell ⟨c.T,a*2+1,none⟩ (.bool b)) c.T ts (S.fl.set a b):=by
  refine⟨by simpa using h.tr.lt,fun j=>by rw [Xi];exact h.tr.fz j,fun i t ht=> ?_,fun i f hf=> ?_⟩
  ·rw [Xd (h:=fun e=>by have:=congrArg Addr.off e;simp at this;omega)];exact h.tr.k i t ht
  ·by_cases e:a=i
   ·subst e;rw [Ys ha]at hf;cases hf;exact Xn _ _ _ (h.tr.f a _ (Xz ha))
   ·rw [Yt e]at hf;rw [Xd (h:=fun e2=>by have:=congrArg Addr.off e2;simp at this;omega)];exact h.tr.f i f hf
 exact⟨reR c _,⟨(keepL (c:=c) (S:=S) h m (fun j h1 h2 e=>e) (fun k hk e=>h.fa.ap 1 0 k (by decide) (by decide) (by decide) hk e)),(m.cell 0 (fun e=>e)).trans h.c0,(m.cell 1 (fun e=>e)).trans h.c1,(m.cell 2 (fun e=>e)).trans h.c2,(m.cell 3 (fun e=>e)).trans h.c3,hq,(keepO (c:=c) (S:=S) h m (fun e=>e) (fun e=>h.fa.ap 2 0 c.G (by decide) (by decide) (by decide) rfl e)),(keepQ (c:=c) (S:=S) h m (fun e=>e) (fun e=>e) (fun k hk e=>h.fa.ap 3 0 k (by decide) (by decide) (by decide) hk e)),(keepF (c:=c) (S:=S) h m (fun j h1 h2 e=>e) (fun k hk e=>h.fa.ap 4 0 k (by decide) (by decide) (by decide) hk e)),(keepB (c:=c) (S:=S) h m (fun e=>e) (fun k hk e=>h.fa.ap 5 0 k (by decide) (by decide) (by decide) hk e)),h.fa.step h.lt h.bD (by decide) m (fun k hk=>by rw [show k=c.T from hk];exact hq.lt) (fun j hj _=>by rw [part_reR]),h.ba.mv h.lows (m.mv (c':=reR c _) (by decide) rfl (fun j hj _=>by rw [part_reR]))⟩,rfl,m.mv (by decide) rfl (fun j hj _=>by rw [part_reR])⟩
theorem WAt.clock (h:WAt w B c p ts S) (n:Int):Wst B c p ts { S with now:=n } w (w.setCell ⟨c.x.D,0,none⟩ (.int .i64 n)):=by
 have m:Ch c.x.D (fun i=>i=0) (fun _=>False) (fun _=>False) w (w.setCell ⟨c.x.D,0,none⟩ (.int .i64 n)):=⟨rfl,rfl,rfl,by simp,fun k hk hD _=>Below.heap_setCell w _ _ k hD,fun k hk=>hk.elim,fun i hi=>Xd _ _ _ _ (fun e=>hi (congrArg Addr.off e).symm),fun i=>by rw [Xi];exact h.fz i⟩
 have hf:Fam B c.x.D (part (reR c (w.setCell ⟨c.x.D,0,none⟩ (.int .i64 n))) ts) (w.setCell ⟨c.x.D,0,none⟩ (.int .i64 n)):=by
  rw [part_reR]
  exact ⟨fun i k hi hk => by
   obtain⟨x,y,z⟩:=h.fa.lt i k hi hk;exact⟨x,by simpa using y,z⟩,h.fa.ap⟩
 have mv:Mm.Mv (bk c ts) (bk (reR c (w.setCell ⟨c.x.D,0,none⟩ (.int .i64 n))) ts) w (w.setCell ⟨c.x.D,0,none⟩ (.int .i64 n)):=by
  refine⟨rfl,rfl,rfl,by simp,fun k hk hn=>Below.heap_setCell w _ _ k (fun e=>hn (Or.inl e)),fun k hk=> ?_⟩;unfold bk at hk⊢;rw [part_reR]at hk;exact Or.inl hk
 exact⟨reR c _,⟨(keepL (c:=c) (S:=S) h m (fun j h1 h2 (e:j=0)=>by omega) (fun _ _ e=>e)),Xn _ _ _ h.c0,(m.cell 1 (by decide)).trans h.c1,(m.cell 2 (by decide)).trans h.c2,(m.cell 3 (by decide)).trans h.c3,(keepT (c:=c) (S:=S) h m (fun e=>e)),(keepO (c:=c) (S:=S) h m (by decide) (fun e=>e)),(keepQ (c:=c) (S:=S) h m (by decide) (by decide) (fun _ _ e=>e)),(keepF (c:=c) (S:=S) h m (fun j h1 h2 (e:j=0)=>by omega) (fun _ _ e=>e)),(keepB (c:=c) (S:=S) h m (by decide) (fun _ _ e=>e)),hf,h.ba.mv h.lows mv⟩,rfl,mv⟩
theorem WAt.target (h:WAt w B c p ts S) (n:Int):Wst B c p ts { S with tg:=n } w (w.setCell ⟨c.x.D,2,none⟩ (.int .i64 n)):=by
 have m:Ch c.x.D (fun i=>i=2) (fun _=>False) (fun _=>False) w (w.setCell ⟨c.x.D,2,none⟩ (.int .i64 n)):=⟨rfl,rfl,rfl,by simp,fun k hk hD _=>Below.heap_setCell w _ _ k hD,fun k hk=>hk.elim,fun i hi=>Xd _ _ _ _ (fun e=>hi (congrArg Addr.off e).symm),fun i=>by rw [Xi];exact h.fz i⟩
 have hf:Fam B c.x.D (part (reR c (w.setCell ⟨c.x.D,2,none⟩ (.int .i64 n))) ts) (w.setCell ⟨c.x.D,2,none⟩ (.int .i64 n)):=by
  rw [part_reR]
  exact ⟨fun i k hi hk => by
   obtain⟨x,y,z⟩:=h.fa.lt i k hi hk;exact⟨x,by simpa using y,z⟩,h.fa.ap⟩
 have mv:Mm.Mv (bk c ts) (bk (reR c (w.setCell ⟨c.x.D,2,none⟩ (.int .i64 n))) ts) w (w.setCell ⟨c.x.D,2,none⟩ (.int .i64 n)):=by
  refine⟨rfl,rfl,rfl,by simp,fun k hk hn=>Below.heap_setCell w _ _ k (fun e=>hn (Or.inl e)),fun k hk=> ?_⟩;unfold bk at hk⊢;rw [part_reR]at hk;exact Or.inl hk
 exact⟨reR c _,⟨(keepL (c:=c) (S:=S) h m (fun j h1 h2 (e:j=2)=>by omega) (fun _ _ e=>e)),(m.cell 0 (by decide)).trans h.c0,(m.cell 1 (by decide)).trans h.c1,Xn _ _ _ h.c2,(m.cell 3 (by decide)).trans h.c3,(keepT (c:=c) (S:=S) h m (fun e=>e)),(keepO (c:=c) (S:=S) h m (by decide) (fun e=>e)),(keepQ (c:=c) (S:=S) h m (by decide) (by decide) (fun _ _ e=>e)),(keepF (c:=c) (S:=S) h m (fun j h1 h2 (e:j=2)=>by omega) (fun _ _ e=>e)),(keepB (c:=c) (S:=S) h m (by decide) (fun _ _ e=>e)),hf,h.ba.mv h.lows mv⟩,rfl,mv⟩
end

def IntsO (w:World) (a:Option Addr) (n:Nat) (X:Nat→Int) (b:Nat→Prop):Prop:=Ned.IntsAt w a n X∧ ∀g o,0<n→a=some ⟨g,o,none⟩→ ¬b g
theorem IntsO.mv {w w':World} {a:Option Addr} {n:Nat} {b b':Nat→Prop} (h:IntsO w a n X b) (m:Mm.Mv b b' w w'):IntsO w' a n X b':=by
 refine⟨fun i hi=> ?_,fun g o hn e=> ?_⟩
 ·obtain⟨g,o,e,hlt,hc,hx⟩:=h.1 i hi;exact⟨g,o,e,Xb hlt m.size,m.cell hc (h.2 g o (by omega) e),hx⟩
 ·obtain⟨g',o',e',hlt,_⟩:=h.1 0 hn;rw [e]at e';cases e';exact m.off hlt (h.2 g o hn e)
theorem IntsO.put {w:World} {a:Option Addr} {n k:Nat} {b:Nat→Prop} (h:IntsO w a n X b) (hk: ∀g o,0<n→a=some ⟨g,o,none⟩→g≠k):IntsO (w.setCell ⟨k,j,none⟩ u) a n X b:=by
 refine⟨fun i hi=> ?_,h.2⟩;obtain⟨g,o,e,hlt,hc,hx⟩:=h.1 i hi;refine⟨g,o,e,by simpa using hlt,?_,hx⟩;rw [Xd (h:=fun e2=>hk g o (by omega) e (congrArg Addr.block e2).symm)];exact hc
theorem IntsO.row {w:World} {L n:Nat} {b:Nat→Prop} (h:Top.Row1 w L n X) (hX: ∀i,i<n→ -9223372036854775808≤X i∧X i≤9223372036854775807) (hb: ¬b L):IntsO w (some ⟨L,0,none⟩) n X b:=by
 refine⟨fun i hi=>⟨L,0,rfl,h.lt,?_,hX i hi⟩,fun g o _ e=>by cases e;exact hb⟩;rw [Xv];exact h.2.1 i hi
theorem back_idem (now:Int) (L:List Que.M):Que.backL now (Que.backL now L)=Que.backL now L:=by
 unfold Que.backL;rw [List.map_map];refine List.map_congr_left (fun m _=> ?_);show Que.back now (Que.back now m)=Que.back now m;unfold Que.back;by_cases e:m.tk=true∧m.till≤now
 ·rw [if_pos e];simp
 ·rw [if_neg e,if_neg e]
def readT (S:WS) (t:Tr):WS:=if t.k=2 then { S with qL:=Que.backL S.now S.qL } else S
def LagA (B:Nat) (c:Pc) (p:Pd) (ts:List Tr) (S:WS) (t:Tr) (w:World) (e:Ending) (w':World):Prop:=
 ∃la lc c',e=.returned (.slice la (rdOf S t false).n lc)∧(rdOf S t false).n≤20∧WAt w' B c' p ts (readT S t)∧c'.x.D=c.x.D∧Same c c'∧Mm.Mv (bk c ts) (bk c' ts) w w'∧IntsO w' la (rdOf S t false).n (rdOf S t false).X (bk c' ts)∧ ∀g o,0<(rdOf S t false).n→la=some ⟨g,o,none⟩→w.heap.size≤g
section
variable (B : Nat) (c : Pc) (p : Pd) (ts : List Tr) (S : WS) (h k : Nat)
theorem second_any (w:World) (hA:WAt w B c p ts S) (hI:WI ts S h k):
  CB 112 #[.pointer (some ⟨c.x.D,0,none⟩)] w (.int .i64 (secW S)):=by
 have c0:=hA.c0;have c1:=hA.c1;have b1:=hI.nw;have b2:=hI.sc;have HM:Hid (secW S=min (S.sec+S.now) 100000000000):=rfl;clear hA hI;generalize c.x.D=D at*;generalize S.sec=a at*;generalize S.now=b at*;go_enter func112,ntmps112;go_wp2_with fail
 go_quiet (fail)
 go_wp2;go_ret;exact⟨by rw [HM.out];rfl,Top.below_drewN (Below.refl _ _) _⟩
theorem busy_any (w:World) (hA:WAt w B c p ts S) (hI:WI ts S h k):
  CB 115 #[.pointer (some ⟨c.x.D,0,none⟩)] w (.bool (busyW S)):=by
 have cC:=Buf.Count_any B c.x.D c.vb S.R w hA.bu hI.r.len;clear hA hI;generalize c.x.D=D at*;by_cases h1:0<Buf.many (-1) 1 S.R
 ·have HM:Hid (busyW S=true):=by unfold Hid busyW;simp [h1]
  have h2:(0:Int)<(Buf.many (-1) 1 S.R:Int):=by omega
  generalize (Buf.many (-1) 1 S.R:Int)=a at*;generalize (Buf.many (-1) 2 S.R:Int)=b at*;go_enter func115,ntmps115;go_wp2_with(go_at_call 144;(with_reducible refine zg cC fun w1 hb1=>?_))
  go_ret;exact⟨by rw [HM.out];rfl,hb1⟩
 ·have h3:Buf.many (-1) 1 S.R=0:=by omega
  have HM:Hid (busyW S=decide ((Buf.many (-1) 2 S.R:Int)>0)):=by
   unfold Hid busyW;rw [h3];by_cases g:0<Buf.many (-1) 2 S.R
   ·simp [g]
   ·have:Buf.many (-1) 2 S.R=0:=(by omega);simp [this]
  rw [h3]at cC;generalize (Buf.many (-1) 2 S.R:Int)=b at*;go_enter func115,ntmps115;go_wp2_with(go_at_call 144;(with_reducible refine zg cC fun w1 hb1=>?_))
  go_ret;exact⟨by rw [HM.out];rfl,hb1⟩
theorem lags_any (t:Tr) (w:World) (hA:WAt w B c p ts S) (hI:WI ts S h k) (hh:h≤1000):
  Calls prog 143 #[.pointer (some ⟨c.x.D,0,none⟩),.int .i64 t.k] w (LagA B c p ts S t w):=by
 have hbd:=hI.tb;have hn:=hI.n;by_cases h1:t.k=1
 ·have cL:=Top.lags_any c.x.D c.G S.n S.E S.O w hA.tp hn.2 (fun i hi=>by have:=hbd i hi;omega);have er:rdOf S t false=⟨false,S.n,Top.dif S.E S.O⟩:=by unfold rdOf;rw [if_pos h1]
  have es:readT S t=S:=by unfold readT;rw [if_neg (by omega)]
  have HA:=zh hA;have HB:=zh hbd;unfold LagA;rw [er,es,h1];clear hA hI hbd er es h1;generalize hD:c.x.D=D at*;go_enter func143,ntmps143;go_wp2_with(go_at_call 96;(with_reducible refine cL.mono ?_);rintro e w1 ⟨L,rfl,hL,hR,hb1⟩)
  go_ret;have hA1:=HA.out.below hb1;refine⟨_,_,c,rfl,hn.2,hA1,hD,⟨rfl,rfl⟩,Mm.Mv.of_below hb1,IntsO.row hR (fun i hi=> ?_) (fun e=>by have:=(HA.out.low e).2;omega),fun g o _ e=>by cases e;exact hL⟩;have:=HB.out i hi;show _≤S.E i-S.O i∧S.E i-S.O i≤_;omega
 ·by_cases h2:t.k=2
  ·have cL:=Que.depth_yes B c.x.D S.ql c.vq S.qL _ S.now w.drew hA.qu.drew hI.q.len hI.nw.1 hI.nw.2 rfl;have er:rdOf S t false=⟨false,1,fun _=>(Que.depth (Que.backL S.now S.qL):Int)⟩:=by unfold rdOf;rw [if_neg h1,if_pos h2]
   have es:readT S t= { S with qL:=Que.backL S.now S.qL } :=by unfold readT;rw [if_pos h2]
   have hdl:(Que.depth (Que.backL S.now S.qL):Int)≤200:=by
    have:Que.depth (Que.backL S.now S.qL)≤(Que.backL S.now S.qL).length:=Yw;have g:=(hI.q.back S.now).len;omega
   have HA:=zh hA;have c0:=hA.c0;unfold LagA;rw [er,es,h2];clear hA hI hbd er es h1 h2;generalize hd:(Que.depth (Que.backL S.now S.qL):Int)=d at*;have hd0:0≤d:=by omega
   generalize hD:c.x.D=D at*;go_enter func143,ntmps143;go_wp2_with fail
   go_region_with (go_at_call 169;(with_reducible refine cL.mono ?_);rintro e w1 ⟨rfl,v1,hq1,ht1⟩)
   all_goals go_wp2
   all_goals go_ret
   all_goals
    subst hD;obtain⟨c2,a2,e2,f2,m2⟩:=HA.out.queue hq1 ((((Que.Turn.refl (r:=Que.rQ) c.x.D c.vq w)).drew).trans ht1);have hb3:Below w1.heap.size w1 (w1.alloc (.cells #[.int .i64 d] 3)):=(Below.refl _ _).alloc (Xa _) _;refine⟨_,_,c2,rfl,by omega,a2.below hb3,e2,f2,m2.trans (Mm.Mv.of_below hb3),⟨fun i hi=>⟨_,_,rfl,?_,?_,?_⟩,fun g o _ e=> ?_⟩,fun g o _ e=>by cases e;exact m2.size⟩
    ·simp
    ·obtain rfl:i=0:=by omega
     simp
    ·exact⟨by show _≤d;omega,by show d≤_;omega⟩
    ·cases e;exact fun e=>absurd (a2.low e).2 (by omega)
  ·have er:rdOf S t false=⟨false,0,fun _=>0⟩:=by unfold rdOf;rw [if_neg h1,if_neg h2]
   have es:readT S t=S:=by unfold readT;rw [if_neg h2]
   have HA:=zh hA;unfold LagA;rw [er,es];clear hA hI hbd er es;generalize hD:c.x.D=D at*;go_enter func143,ntmps143;go_wp2;go_ret;exact⟨_,_,c,rfl,by omega,HA.out,hD,⟨rfl,rfl⟩,Mm.Mv.refl _ _,⟨fun i hi=>absurd hi (by omega),fun g o hn=>absurd hn (by omega)⟩,fun g o hn=>absurd hn (by omega)⟩
end

theorem info_rd:(prog.info? 149).map (fun i=>(i.zero,i.size,i.bytes))=some (some (.agg #[.bool false,.slice none 0 0]),2,32):=by kernel_rfl
def readK (S:WS) (ts:List Tr) (j:Nat):WS:= { S with qL:=if(ts.take j).any isQ=true then Que.backL S.now S.qL else S.qL }
theorem readK_zero (S:WS) (ts:List Tr):readK S ts 0=S:=by unfold readK;simp
theorem readK_all (S:WS) (ts:List Tr):readK S ts ts.length= { S with qL:=readQ ts S } :=by unfold readK readQ;rw [XC]
theorem any_step {ts:List Tr} (h:ts[j]? =some t):(ts.take (j+1)).any isQ=((ts.take j).any isQ||isQ t):=by
 rw [XB,h];simp
theorem readK_step {S:WS} {ts:List Tr} (h:ts[j]? =some t):readT (readK S ts j) t=readK S ts (j+1):=by
 unfold readT readK;rw [any_step h];unfold isQ;by_cases e:t.k=2
 ·rw [if_pos e];by_cases g:(ts.take j).any (fun t=>t.k==2)=true
  ·simp only [g,if_true,back_idem,Bool.true_or]
  ·simp [g,e]
 ·rw [if_neg e];simp [e]
theorem rdOf_readK (S:WS) (ts:List Tr) (j:Nat) (t:Tr) (f:Bool):(rdOf (readK S ts j) t false).n=(rdOf S t f).n∧(rdOf (readK S ts j) t false).X=(rdOf S t f).X∧(rdOf S t f).f=f:=by
 have e:Que.backL S.now (readK S ts j).qL=Que.backL S.now S.qL:=by
  unfold readK;simp only;split
  ·exact back_idem _ _
  ·rfl
 unfold rdOf;by_cases h1:t.k=1
 ·rw [if_pos h1,if_pos h1];exact⟨rfl,rfl,rfl⟩
 ·rw [if_neg h1,if_neg h1];by_cases h2:t.k=2
  ·rw [if_pos h2,if_pos h2];refine⟨rfl,?_,rfl⟩;show(fun _=>(Que.depth (Que.backL S.now (readK S ts j).qL):Int))=_;rw [e]
  ·rw [if_neg h2,if_neg h2];exact⟨rfl,rfl,rfl⟩
theorem WI.readK {ts:List Tr} {S:WS} {h k:Nat} (g:WI ts S h k) (j:Nat):WI ts (readK S ts j) h k:=by
 refine⟨g.nw,g.sc,g.fl,g.lp,g.la,g.pa,g.n,g.tb,?_,g.qb,g.f,g.fb,g.cn,g.r⟩;unfold Wld.readK;simp only;split
 ·exact g.q.back _
 ·exact g.q
structure RdR (B:Nat) (c:Pc) (p:Pd) (ts:List Tr) (S:WS) (w:World) (G:Nat) (j:Nat) (wr:World) (c1:Pc):Prop where
 a:WAt wr B c1 p ts (readK S ts j)
 d:c1.x.D=c.x.D
 l:Same c c1
 m:Mm.Mv (bk c ts) (bk c1 ts) w wr
 lo:w.heap.size≤G
 lt:G<wr.heap.size
 gn: ¬bk c1 ts G
 fz: ∀q,wr.frozen? ⟨G,q,none⟩=false
 ce: ∀q,q<ts.length*2→ ∃u,wr.cell? ⟨G,q,none⟩=some u
 rd: ∀i r,i<j→(rdsW ts S)[i]? =some r→ ∃la lc,wr.cell? ⟨G,i*2,none⟩=some (.bool r.f)∧wr.cell? ⟨G,i*2+1,none⟩=some (.slice la r.n lc)∧r.n≤20∧IntsO wr la r.n r.X (bk c1 ts)∧ ∀g o,0<r.n→la=some ⟨g,o,none⟩→g≠G
def RdL (B:Nat) (c:Pc) (p:Pd) (ts:List Tr) (S:WS) (w:World) (G:Nat) (i:Value) (wr:World):Prop:= ∃(j:Nat) (c1:Pc),j≤ts.length∧i=.int .i64 j∧RdR B c p ts S w G j wr c1
theorem RdR.below {B:Nat} {c:Pc} {p:Pd} {ts:List Tr} {S:WS} {w:World} {G j:Nat} {wr wy:World} {c1:Pc} (h:RdR B c p ts S w G j wr c1) (g:Below wr.heap.size wr wy):RdR B c p ts S w G j wy c1:=by
 have m:=Mm.Mv.of_below (b:=bk c1 ts) g;refine⟨h.a.below g,h.d,h.l,h.m.trans m,h.lo,Xb h.lt g.size,h.gn,fun q=>(g.frozen (p:=⟨G,q,none⟩) h.lt).trans (h.fz q),fun q hq=> ?_,fun i r hi hr=> ?_⟩
 ·obtain⟨u,hu⟩:=h.ce q hq;exact⟨u,m.cell hu h.gn⟩
 ·obtain⟨la,lc,a1,a2,a3,a4,a5⟩:=h.rd i r hi hr;exact⟨la,lc,m.cell a1 h.gn,m.cell a2 h.gn,a3,a4.mv m,a5⟩
theorem RdR.next {B:Nat} {c:Pc} {p:Pd} {ts:List Tr} {S:WS} {w:World} {w2:World} {c1 c2:Pc} {f:Bool} {la:Option Addr} {lc:Nat} (h:RdR B c p ts S w G j wr c1) (hB:B≤w.heap.size) (ht:ts[j]? =some t) (hf:S.fl[j]? =some f)
  (a2:WAt w2 B c2 p ts (readT (readK S ts j) t)) (d2:c2.x.D=c1.x.D) (l2:Same c1 c2) (m2:Mm.Mv (bk c1 ts) (bk c2 ts) wr w2) (hfz: ∀q,w2.frozen? ⟨G,q,none⟩=false) (hn:(rdOf (readK S ts j) t false).n≤20) (hX:IntsO w2 la (rdOf (readK S ts j) t false).n (rdOf (readK S ts j) t false).X (bk c2 ts)) (hg: ∀g o,0<(rdOf (readK S ts j) t false).n→la=some ⟨g,o,none⟩→g≠G):
  RdR B c p ts S w G (j+1) ((w2.setCell ⟨G,j*2,none⟩ (.bool f)).setCell ⟨G,j*2+1,none⟩ (.slice la (rdOf (readK S ts j) t false).n lc)) c2:=by
 obtain⟨e1,e2,e3⟩:=rdOf_readK S ts j t f;rw [e1,e2]at hX;rw [e1]at hn hg⊢;have hj:j<ts.length:=(Xe.1 ht).1;have gn2: ¬bk c2 ts G:=m2.off h.lt h.gn;have hBG:B≤G:=Xc hB h.lo;have cel: ∀q u,wr.cell? ⟨G,q,none⟩=some u→w2.cell? ⟨G,q,none⟩=some u:=fun q u hu=>m2.cell hu h.gn;rw [readK_step ht]at a2;refine⟨(a2.put gn2 hBG).put gn2 hBG,d2.trans h.d,h.l.trans l2,mv_put (mv_put (h.m.trans m2) h.lo) h.lo,h.lo,by simpa using Xb h.lt m2.size,gn2,fun q=>by rw [Xi,Xi];exact hfz q,fun q hq=> ?_,fun i r hi hr=> ?_⟩
 ·obtain⟨u,hu⟩:=h.ce q hq;have hu2:=cel q u hu;by_cases x:q=j*2+1
  ·subst x;have hx:(w2.setCell ⟨G,j*2,none⟩ (.bool f)).cell? ⟨G,j*2+1,none⟩=some u:=by
    rw [Xd (h:=fun e=>by have:=congrArg Addr.off e;simp at this)];exact hu2
   exact⟨_,Xn _ _ _ hx⟩
  ·by_cases y:q=j*2
   ·subst y;refine⟨.bool f,?_⟩;rw [Xd (h:=fun e=>by have:=congrArg Addr.off e;simp at this)];exact Xn _ _ _ hu2
   ·refine⟨u,?_⟩;rw [Xd (h:=fun e=>x (congrArg Addr.off e).symm),Xd (h:=fun e=>y (congrArg Addr.off e).symm)];exact hu2
 ·by_cases x:i=j
  ·subst x;have er:r=rdOf S t f:=by
    have:(rdsW ts S)[i]? =some (rdOf S t f):=by
     unfold rdsW;rw [List.getElem?_zipWith,ht,hf]
    rw [this]at hr;cases hr;rfl
   subst er;obtain⟨u,hu⟩:=h.ce (i*2) (by omega);obtain⟨v,hv⟩:=h.ce (i*2+1) (by omega);refine⟨la,lc,?_,?_,hn,(hX.put hg).put hg,hg⟩
   ·rw [Xd (h:=fun e=>by have:=congrArg Addr.off e;simp at this),e3];exact Xn _ _ _ (cel _ _ hu)
   ·have hx:(w2.setCell ⟨G,i*2,none⟩ (.bool f)).cell? ⟨G,i*2+1,none⟩=some v:=by
     rw [Xd (h:=fun e=>by have:=congrArg Addr.off e;simp at this)];exact cel _ _ hv
    exact Xn _ _ _ hx
  ·obtain⟨la',lc',b1,b2,b3,b4,b5⟩:=h.rd i r (by omega) hr;refine⟨la',lc',?_,?_,b3,((b4.mv m2).put b5).put b5,b5⟩
   ·rw [Xd (h:=fun e=>by have:=congrArg Addr.off e;simp at this;omega),Xd (h:=fun e=>by have:=congrArg Addr.off e;simp at this;omega)];exact cel _ _ b1
   ·rw [Xd (h:=fun e=>by have:=congrArg Addr.off e;simp at this;omega),Xd (h:=fun e=>by have:=congrArg Addr.off e;simp at this;omega)];exact cel _ _ b2
theorem cell2 {w:World} {C b:Nat} (h:G≠C):((w.setCell ⟨G,a,none⟩ u).setCell ⟨G,b,none⟩ v).cell? ⟨C,j,none⟩=w.cell? ⟨C,j,none⟩:=by
 rw [Xd (h:=fun e=>h (congrArg Addr.block e)),Xd (h:=fun e=>h (congrArg Addr.block e))]
def RdsA (B:Nat) (c:Pc) (p:Pd) (ts:List Tr) (S:WS) (w:World) (e:Ending) (w':World):Prop:=
 ∃(G:Nat) (c1:Pc),e=.returned (.slice (some ⟨G,0,none⟩) ts.length ts.length)∧RdR B c p ts S w G ts.length w' c1
section
variable (B : Nat) (c : Pc) (p : Pd) (ts : List Tr) (S : WS) (h k : Nat)
theorem readings_any (w:World) (hA:WAt w B c p ts S) (hI:WI ts S h k) (hh:h≤1000) (hl5:ts.length≤5) (hB:B≤w.heap.size):
  Calls prog 114 #[.pointer (some ⟨c.x.D,0,none⟩)] w (RdsA B c p ts S w):=by
 obtain⟨i0,hi,hz0,hz1,hz2⟩:=info_parts info_rd;have c3:=hA.c3;have hDl:=hA.lt;have HA:=zh hA;have HI:=zh hI;clear hA hI;generalize hD:c.x.D=D at*;go_enter func114,ntmps114;go_wp2_with(at_make;refine wpList_make_full _ rfl _ _ 147 rfl w.heap.size 149 i0 _ 2 underlying147 hi hz0 hz1 _ _ _ _ ts.length rfl rfl rfl rfl (by rw [hz2];omega) (by unfold maxLen;omega) (Xa _) ?_;intro w1 hown hgrow;have hb1:Below w.heap.size w w1:=(Below.refl _ _).grown hgrow (Xa _) (fun _ h=>by cases h);have c31:w1.cell? ⟨D,3,none⟩=some (.slice (some ⟨c.T,0,none⟩) ts.length ts.length):=(hb1.cell hDl).trans c3)
 have H0:Hid (RdR B c p ts S w w.heap.size 0 w1 c):=by
  have a1:=HA.out.below hb1;have hlt:w.heap.size<w1.heap.size:=(hown.lt _ rfl).2;refine⟨by rw [readK_zero];exact a1,rfl,⟨rfl,rfl⟩,Mm.Mv.of_below hb1,Xa _,hlt,fun e=>absurd (HA.out.low e).2 (XL _),fun q=>hown.frozenAt q,fun q hq=> ?_,fun i r hi=>absurd hi (by omega)⟩;rw [hown.cellAt q hq];have:q<(madeCells #[.bool false,.slice none 0 0] (ts.length*2)).toList.length:=by simp [madeCells];omega
  exact⟨_,Xz this⟩
 clear hown hgrow hb1;go_loopw [17] (fun i wr=>RdL B c p ts S w w.heap.size i wr) (fun i _=>ts.length-(intOf i).toNat)
 case atStart=>exact⟨0,c,by omega,rfl,H0.out⟩
 case round=>
  obtain⟨j,c1,hj,rfl,hR⟩:=hrel;by_cases hlt:j<ts.length
  ·have hlt':(j:Int)<(ts.length:Int):=by omega
   obtain⟨t,ht⟩: ∃t,ts[j]? =some t:=⟨_,Xz hlt⟩
   obtain⟨f,hf⟩: ∃f,S.fl[j]? =some f:=⟨_,Xz (by rw [HI.out.fl];exact hlt)⟩
   have k0:=hR.a.tr.k j t ht;have k1:=hR.a.tr.f j f hf;rw [hR.l.2]at k0 k1;have HR:=zh hR;have HT:Hid (ts[j]? =some t∧S.fl[j]? =some f):=⟨ht,hf⟩
   clear hR ht hf;go_upto_region 5 with fail
   obtain⟨W,hW⟩: ∃W,W=wr.alloc (.cells #[.int .i64 t.k,.bool f] 134):=⟨_,rfl⟩
   have hbW:Below wr.heap.size wr W:=by rw [hW];exact(Below.refl _ _).alloc (Xa _) _
   have x0:W.cell? ⟨wr.heap.size,0,none⟩=some (.int .i64 t.k):=by rw [hW];simp
   have x1:W.cell? ⟨wr.heap.size,1,none⟩=some (.bool f):=by rw [hW];simp
   rw [←hW];clear hW;obtain⟨Wd,hWd⟩: ∃Wd,Wd=W.drew:=⟨_,rfl⟩
   have hbd:Below wr.heap.size wr Wd:=by rw [hWd];exact⟨hbW.os,hbW.tape,hbW.output,hbW.size,hbW.block⟩
   have hR1:RdR B c p ts S w w.heap.size j Wd c1:=HR.out.below hbd;have hC: ¬bk c1 ts wr.heap.size:=fun e=>absurd (HR.out.a.low e).2 (XL _);have hCG:w.heap.size≠wr.heap.size:=Nat.ne_of_lt HR.out.lt;have cL:=lags_any B c1 p ts (readK S ts j) h k t Wd hR1.a (HI.out.readK j) hh;rw [hR1.d,hD]at cL;subst hWd;generalize wr.heap.size=C at*;refine Tk.sb 11 (S:=fun w'=>w'.cell? ⟨C,0,none⟩=some (.int .i64 t.k)∧w'.cell? ⟨C,1,none⟩=some (.bool f)) (⟨x0,x1⟩) (fun hHeld=> ?_)
   iterate 7
    refine Tk.gn ?_
   refine Tk.rn 7 fun K hK=> ?_;go_simp;go_wp2_with((go_at_call 143;(with_reducible refine cL.mono ?_);rintro e w2 ⟨la,lc,c2,rfl,hn2,a2,d2,l2,m2,hX2,hG2⟩;have y0:=m2.cell x0 hC;have y1:=m2.cell x1 hC;have HX2:Hid (_∧_∧_∧_∧_∧_∧_):=⟨hn2,a2,d2,l2,m2,hX2,hG2⟩;clear hn2 a2 d2 l2 m2 hX2 hG2))
   refine hK.out _ _ (⟨y0,y1⟩) (fun hHeld=> ?_);clear hK K
   iterate 2
    refine Tk.gn ?_
   have gfz: ∀q,w2.frozen? ⟨w.heap.size,q,none⟩=false:=fun q=>(Xl (w:=W.drew) (a:=⟨w.heap.size,q,none⟩) (HX2.out.2.2.2.2.1.block w.heap.size hR1.lt hR1.gn)).trans (hR1.fz q);obtain⟨u1,hu1⟩:=hR1.ce (j*2) (by omega);obtain⟨u2,hu2⟩:=hR1.ce (j*2+1) (by omega);have g1:=HX2.out.2.2.2.2.1.cell hu1 hR1.gn;have g2:=HX2.out.2.2.2.2.1.cell hu2 hR1.gn;have gf1:=gfz (j*2);have gf2:=gfz (j*2+1);refine Tk.r1 10 fun K hK=> ?_;go_simp;refine hK.out _ _ (⟨(cell2 hCG).trans y0,(cell2 hCG).trans y1⟩) (fun hHeld=> ?_);clear hK K;refine wpAnyH_done (by kernel_rfl) ?_ _;go_wp2;go_roundw
   case rel=>
    obtain⟨hn2,a2,d2,l2,m2,hX2,hG2⟩:=HX2.out;refine⟨j+1,c2,hlt,rfl,hR1.next hB HT.out.1 HT.out.2 a2 d2 l2 m2 gfz hn2 hX2 (fun g o hn e=>by have:=hG2 g o hn e;have:=hR1.lt;omega)⟩
   case measure=>simp [intOf];omega
  ·obtain rfl:j=ts.length:=by omega
   go_wp2;go_ret;exact⟨w.heap.size,c1,rfl,hR⟩
end

theorem mm_of {b b':Nat→Prop} {w w':World} (m:Lop.Mv b b' w w'):Mm.Mv b b' w w':=⟨m.os,m.tape,m.output,m.size,m.block,m.loc⟩
theorem RdR.rds {B:Nat} {c:Pc} {p:Pd} {ts:List Tr} {S:WS} {w:World} {wy:World} {c1:Pc} (h:RdR B c p ts S w G ts.length wr c1) (hl:(rdsW ts S).length=ts.length) {b b':Nat→Prop} (m:Mm.Mv b b' wr wy) (hb: ∀k,b k→bk c1 ts k):RdsAt wy (some ⟨G,0,none⟩) (rdsW ts S):=by
 intro i r hr;have hi:i<ts.length:=by have:=(Xe.1 hr).1;omega
 obtain⟨la,lc,a1,a2,a3,a4,_⟩:=h.rd i r hi hr;have hn: ¬b G:=fun e=>h.gn (hb G e);refine⟨G,0,la,lc,rfl,Xb h.lt m.size,?_,?_,by unfold maxLen;omega,fun q hq=> ?_⟩
 ·rw [Xv];exact m.cell a1 hn
 ·rw [Xv];exact m.cell a2 hn
 ·obtain⟨g,o,e,hlt,hc,hx⟩:=a4.1 q hq;exact⟨g,o,e,Xb hlt m.size,m.cell hc (fun x=>a4.2 g o (by omega) e (hb g x)),hx⟩
theorem blk_bk {c:Pc} {ts:List Tr} {k:Nat} (h:Lop.blk c.x k):bk c ts k:=by
 by_cases e:k=c.x.D
 ·exact Or.inl e
 ·exact Or.inr ⟨1,by decide,Or.inl ⟨h,e⟩⟩
section
variable (B : Nat) (c : Pc) (p : Pd) (ts : List Tr) (S : WS) (h k : Nat)
theorem look_at (c1:Pc) (G:Nat) (w0 w:World) (hR:RdR B c p ts S w0 G ts.length w c1) (hI:WI ts S h k) (hP:PlOk p ts) (hU: ∀t∈ts,TrU t) (hk:k≤450000):
  Calls prog 111 #[.pointer (some ⟨c1.x.D,4,none⟩),.int .i64 S.now,.int .i64 (secW S),.int .i64 (Flt.cnt S.F.L),.slice (some ⟨G,0,none⟩) ts.length ts.length,.bool (busyW S)] w (Lop.PLookA B c1.x p c1.ta c1.tc ts (rdsW ts S) S.lp S.st S.now (Flt.cnt S.F.L) (wantW p ts S) (needW p ts S) w):=by
 have hl:=rds_len hI;have b1:=hI.nw;have b2:=hI.sc;have hsec: -100000000000≤secW S∧secW S≤100000000000:=by unfold secW;omega
 have c:=Lop.plook_any B c1.x p c1.ta (some ⟨G,0,none⟩) c1.tc ts.length ts (rdsW ts S) S.lp S.st S.now (secW S) (Flt.cnt S.F.L) (busyW S) (inW (secW S) p.sh) w hR.a.lo (fun wr m=>(hR.a.ba.mv (fun k hk=>(hR.a.low (blk_bk hk)).1) (mm_of m)).bds) hP hU hI.lp.fl (hI.lp.big (by omega)) (fun wr m=>hR.rds hl (mm_of m) (fun k hk=>blk_bk hk)) hl
  (fun t _ _=>inW_iff _ _ t) ⟨hI.la,b1.2⟩ hsec ⟨by omega,hI.cn⟩ hI.lp.nd hI.lp.la.1 (2*k) hI.lp.fi (by omega)
 rw [hl]at c;exact c
theorem scale_any (w:World) (hA:WAt w B c p ts S) (hI:WI ts S h k) (hh:h≤1000) (hk:k≤450000) (hP:PlOk p ts) (hU: ∀t∈ts,TrU t):
  Calls prog 64 #[.pointer (some ⟨c.x.D,0,none⟩)] w fun e w'=>e=.returned (.tuple #[])∧Wst B c p ts (lookW p ts S) w w':=by
 have hl5:=hP.len;have hlen:S.F.L.length≤1000000000:=by have:=hI.len;omega
 have hbd:Below w.heap.size w w.drew:=Mm.bdrew w;have HA0:Hid (WAt w.drew B c p ts S):=hA.below hbd;have c0:=hA.c0;have cS:=second_any B c p ts S h k w.drew HA0.out hI;have HI:=zh hI;have HA:=zh hA;have hDl:=hA.lt;generalize hD:c.x.D=D at*;clear hA hI;go_enter func64,ntmps64;go_upto_region 0 with fail
 refine Tk.sb 25 (S:=fun w'=>w'.cell? ⟨D,0,none⟩=some (.int .i64 S.now)) (c0) (fun hHeld=> ?_)
 iterate 9
  refine Tk.gn ?_
 refine Tk.gm 10 ?_;refine Tk.gm 11 ?_;refine Tk.gm 12 ?_;refine Tk.gm 14 ?_;refine Tk.gm 16 ?_;refine Tk.rn 9 fun K hK=> ?_;go_simp;go_wp2_with((go_at_call 112;(with_reducible refine zg cS fun w1 hb1=>?_);have HA1:Hid (WAt w1 B c p ts S):=HA0.out.below hb1;have q1:=HA1.out.c0;rw [hD]at q1))
 refine hK.out _ _ (q1) (fun hHeld=> ?_);clear hK K;refine Tk.rn 13 fun K hK=> ?_;go_simp;go_wp2_with((go_at_call 113;have cC:=Flt.count_any B c.x.D c.vf S.F w1 HA1.out.fl hlen;rw [hD]at cC;(with_reducible refine zg cC fun w2 hb2=>?_);clear cC;have HA2:Hid (WAt w2 B c p ts S):=HA1.out.below hb2;have q2:=HA2.out.c0;rw [hD]at q2))
 refine hK.out _ _ (q2) (fun hHeld=> ?_);clear hK K;refine Tk.rn 15 fun K hK=> ?_;go_simp;go_wp2_with((go_at_call 114;have cR:=readings_any B c p ts S h k w2 HA2.out HI.out hh hl5 (Xw (Nat.lt_of_le_of_lt HA2.out.bD HA2.out.lt));rw [hD]at cR;(with_reducible refine cR.mono ?_);rintro e w3 ⟨G,c1,rfl,hR3⟩;clear cR;have HR3:=zh hR3;clear hR3;have q3:=HR3.out.a.c0;rw [HR3.out.d,hD]at q3;dsimp only [readK]at q3))
 refine hK.out _ _ (q3) (fun hHeld=> ?_);clear hK K;refine Tk.rn 17 fun K hK=> ?_;go_simp;go_wp2_with((go_at_call 115;have cB:=busy_any B c1 p ts (readK S ts ts.length) h k w3 HR3.out.a (HI.out.readK _);rw [HR3.out.d,hD,show busyW (readK S ts ts.length)=busyW S from rfl]at cB;(with_reducible refine zg cB fun w4 hb4=>?_);clear cB;have HR4:Hid (RdR B c p ts S w2 G ts.length w4 c1):=HR3.out.below hb4;have q4:=HR4.out.a.c0;rw [HR4.out.d,hD]at q4;dsimp only [readK]at q4))
 refine hK.out _ _ (q4) (fun hHeld=> ?_);clear hK K;refine Tk.rn 18 fun K hK=> ?_;go_simp;go_wp2_with((go_at_call 111;have cK:=look_at B c p ts S h k c1 G w2 w4 HR4.out HI.out hP hU hk;rw [HR4.out.d,hD]at cK;(with_reducible refine cK.mono ?_);rintro e w5 ⟨rfl,V5,hl5,hm5⟩;clear cK;obtain⟨c5,a5,d5,m5⟩:=HR4.out.a.loop hl5 hm5;clear hl5 hm5;have HX5:Hid (WAt w5 B c5 p ts _∧c5.x.D=c1.x.D∧Mm.Mv (bk c1 ts) (bk c5 ts) w4 w5):=⟨a5,d5,m5⟩;have q5:=a5.c0;have q52:=a5.c2;have f52:=a5.fz 2;rw [d5,HR4.out.d,hD]at q5 q52 f52;dsimp only [readK]at q5 q52;clear a5 d5 m5))
 refine hK.out _ _ (q5) (fun hHeld=> ?_);clear hK K
 iterate 5
  refine Tk.gn ?_
 refine Tk.r1 24 fun K hK=> ?_;go_simp;refine hK.out _ _ (by rw [Xd (h:=fun e=>by cases e)];exact q5) (fun hHeld=> ?_);clear hK K;refine wpAnyH_done (by kernel_rfl) ?_ _;generalize hN:Lop.lookP p S.lp S.st S.now (Flt.cnt S.F.L) (wantW p ts S) (needW p ts S)=N at*;have hD5:c5.x.D=D:=(HX5.out.2.1.trans HR4.out.d).trans hD;obtain⟨c6,a6,d6,m6⟩:=HX5.out.1.target N;rw [hD5]at a6 m6 d6;generalize w5.setCell ⟨D,2,none⟩ (.int .i64 N)=w6 at*;have hD6:c6.x.D=D:=d6;have HA6:Hid (WAt w6.drew B c6 p ts _):=a6.below (Mm.bdrew w6);have HM6:Hid (Mm.Mv (bk c5 ts) (bk c6 ts) w5 w6.drew):=m6.trans (Mm.Mv.of_below (Mm.bdrew w6));have q6:=a6.c2;rw [hD6]at q6;have cF:=Flt.scale_any S.F N HI.out.f (by have:=HI.out.fb;omega) B c6.x.D c6.vf w6.drew HA6.out.fl;rw [hD6]at cF;clear a6 m6 d6;dsimp only at q6;go_upto_region 1 with fail
 refine Tk.sb 8 (S:=fun w'=>w'.cell? ⟨D,2,none⟩=some (.int .i64 N)) (q6) (fun hHeld=> ?_)
 iterate 7
  refine Tk.gn ?_
 refine Tk.rn 7 fun K hK=> ?_;go_simp;go_wp2_with((go_at_call 116;(with_reducible refine cF.mono ?_);rintro e w7 ⟨rfl,v7,hf7,ht7⟩;rw [←hD6]at hf7 ht7;obtain⟨c7,a7,d7,m7⟩:=HA6.out.fleet hf7 ht7;have HX7:Hid (WAt w7 B c7 p ts _∧c7.x.D=c6.x.D∧Mm.Mv (bk c6 ts) (bk c7 ts) w6.drew w7):=⟨a7,d7,m7⟩;have q7:=a7.c2;rw [d7,hD6]at q7;clear a7 d7 m7 hf7 ht7))
 refine hK.out _ _ (q7) (fun hHeld=> ?_);clear hK K;refine wpAnyH_done (by kernel_rfl) ?_ _;go_end0;have e:({ readK S ts ts.length with lp:=nextL S.lp ts (rdsW ts S) S.now (needW p ts S),st:=Lop.nextS p S.lp S.st S.now (Flt.cnt S.F.L) (wantW p ts S) (needW p ts S),tg:=N,F:=Flt.scaleF S.F N } :WS)=lookW p ts S:=by
  rw [readK_all,←hN];rfl
 rw [←e];have hR:=HR4.out;have m0:Mm.Mv (bk c ts) (bk c ts) w w2:=Mm.Mv.of_below (hbd.trans ((hb1.mono hbd.size).trans (hb2.mono (Xc hbd.size hb1.size))));exact⟨rfl,c7,HX7.out.1,(HX7.out.2.1.trans hD6).trans hD.symm,(((m0.trans hR.m).trans HX5.out.2.2).trans HM6.out).trans HX7.out.2.2⟩
end
