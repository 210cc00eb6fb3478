/- A part. -/
import Derived.Test.YtaekecgbdegemaaGreatDoorPtFrameGl
import Derived.Test.YtaekecgbdegemaaGreatDoorPtRecMem
import Derived.Test.YtaekecgbdegemaaGreatDoorPtStbKnow
import Derived.Test.YtaekecgbdegemaaGreatDoorPtTak
set_option linter.all false
open Go.Proofs.Tryz
set_option maxHeartbeats 32000000
set_option maxRecDepth 8000
namespace Go.Proofs.YtaekecgbdegemaaGreatDoor
namespace Lop
open Go.RowKit Rw Rec Plain Pln Frm Lpp
variable {k j n g cap i:Nat} {R':Nat→Option Value} {f:Int}

def iK:Kd Int:=⟨fun n=> [.int .i64 n],1,fun _=>rfl,fun m u hu=>by simp at hu;subst hu;rfl,by decide⟩
structure Mv (b b':Nat→Prop) (w w':World):Prop where
 os:w'.os=w.os
 tape:w'.tape=w.tape
 output:w'.output=w.output
 size:w.heap.size≤w'.heap.size
 block: ∀k,k<w.heap.size→ ¬b k→w'.heap[k]? =w.heap[k]?
 loc: ∀k,b' k→b k∨w.heap.size≤k
section
variable {w w' w'' : World} {b b' b'' : Nat → Prop}
theorem Mv.refl (b:Nat→Prop) (w:World):Mv b b w w:=⟨rfl,rfl,rfl,Xa _,fun _ _ _=>rfl,fun _ h=>Or.inl h⟩
theorem Mv.trans (h:Mv b b' w w') (g:Mv b' b'' w' w''):Mv b b'' w w'':=by
 refine⟨g.os.trans h.os,g.tape.trans h.tape,g.output.trans h.output,Xc h.size g.size,fun k hk hn=> ?_,fun k hk=> ?_⟩
 ·refine(g.block k (Xb hk h.size) (fun e=> ?_)).trans (h.block k hk hn);rcases h.loc k e with a|a
  ·exact hn a
  ·omega
 ·rcases g.loc k hk with a|a
  ·exact h.loc k a
  ·exact Or.inr (Xc h.size a)
theorem Mv.of_below (hb:Below w.heap.size w w'):Mv b b w w':=⟨hb.os,hb.tape,hb.output,hb.size,fun k hk _=>hb.block k hk,fun _ h=>Or.inl h⟩
theorem Mv.drew (h:Mv b b' w w'):Mv b b' w w'.drew:=⟨h.os,h.tape,h.output,h.size,h.block,h.loc⟩
theorem Mv.set (h:b k) (u:Value):Mv b b w (w.setCell ⟨k,j,none⟩ u):=
 ⟨rfl,rfl,rfl,by simp,fun i _ hn=>Below.heap_setCell w ⟨k,j,none⟩ u i (fun e=>hn (e▸h)),fun _ h=>Or.inl h⟩
theorem Mv.below (h:Mv b b' w w') (hb: ∀k,b k→n≤k) (hn:n≤w.heap.size):Below n w w':=
 ⟨h.os,h.tape,h.output,h.size,fun k hk=>h.block k (by omega) (fun e=>by have:=hb k e;omega)⟩
theorem Mv.off (h:Mv b b' w w') (hk:k<w.heap.size) (hn: ¬b k): ¬b' k:=fun e=>by
 rcases h.loc k e with a|a
 ·exact hn a
 ·omega
end
theorem bdrew (w:World):Below w.heap.size w w.drew:=⟨rfl,rfl,rfl,Xa _,fun _ _=>rfl⟩
theorem trs_kept {w w':World} {a:Option Addr} {ts:List Tr} (h:TrsAt w a ts) (hb: ∀b off,0<ts.length→a=some ⟨b,off,none⟩→w'.heap[b]? =w.heap[b]?) (hz:w.heap.size≤w'.heap.size):TrsAt w' a ts:=by
 intro i t hi;obtain⟨b,off,rfl,hlt,hc⟩:=h i t hi;have hp:0<ts.length:=by have:=(Xe.1 hi).1;omega
 refine⟨b,off,rfl,Xb hlt hz,fun j hj=> ?_⟩;rw [←hc j hj];exact Xf (w:=w) (a:=⟨b,off+(i*17+j),none⟩) (hb b off hp rfl)
def pC (p:Pd) (sl:Value):List Value:=[.string ⟨p.nm.toArray⟩,.int .i64 p.mn,.int .i64 p.mx,.int .i64 p.po,.int .i64 p.co,.int .i64 p.tl,.int .i64 p.bk,.int .i64 p.af,.int .i64 p.sh,.int .i64 p.uw,.int .i64 p.up,.int .i64 p.uc,.int .i64 p.ue,.int .i64 p.dw,.int .i64 p.dp,.int .i64 p.dc,.int .i64 p.de,sl]
structure Pl where
 D:Nat
 vF:Value
 V:Nat→Value
 R:Nat→Option Value
def blk (x:Pl) (k:Nat):Prop:=x.vF.ownBlock=some k∨Stb.blk x.D x.V k
structure LAtO (O:Nat) (w:World) (B:Nat) (x:Pl) (p:Pd) (ta:Option Addr) (tc:Nat) (ts:List Tr) (s:Lp) (st:Stb.St):Prop where
 cc: ∀j u,(pC p (.slice ta ts.length tc))[j]? =some u→w.cell? ⟨x.D,O+j,none⟩=some u
 cf:w.cell? ⟨x.D,O+33,none⟩=some x.vF
 c4:w.cell? ⟨x.D,O+34,none⟩=some (.bool s.lk)
 c5:w.cell? ⟨x.D,O+35,none⟩=some (.int .i64 s.la)
 c6:w.cell? ⟨x.D,O+36,none⟩=some (.int .i64 s.nd)
 c7:w.cell? ⟨x.D,O+37,none⟩=some (.bool (decide (0≤s.pa)))
 c8: ∃z:Int,w.cell? ⟨x.D,O+38,none⟩=some (.int .i64 z)∧(0≤s.pa→z=s.pa)
 own:w.ownsRow B 3 iK.s x.vF s.fs.length (cels iK.c s.fs)
 so:Stb.SAt w B x.D (O+18) x.V st
 aF: ∀g,x.vF.ownBlock=some g→ ¬Stb.blk x.D x.V g
 t:TrsAt w ta ts
 tb: ∀b off,0<ts.length→ta=some ⟨b,off,none⟩→ ¬blk x b
 rest: ∀j,(j<O∨O+39≤j)→w.cell? ⟨x.D,j,none⟩=x.R j
abbrev LAt (w:World) (B:Nat) (x:Pl) (p:Pd) (ta:Option Addr) (tc:Nat) (ts:List Tr) (s:Lp) (st:Stb.St):Prop:=LAtO 4 w B x p ta tc ts s st
section
variable {O : Nat} {w w' : World} {B : Nat} {x : Pl} {p : Pd} {ta : Option Addr} {tc : Nat} {ts : List Tr} {s : Lp} {st : Stb.St}
theorem LAtO.at (h:LAt w B x p ta tc ts s st) (j k:Nat) (u:Value) (hu:(pC p (.slice ta ts.length tc))[j]? =some u) (hk:4+j=k:=by rfl):w.cell? ⟨x.D,k,none⟩=some u:=hk▸h.cc j u hu
theorem LAtO.cF (h:LAt w B x p ta tc ts s st):w.cell? ⟨x.D,37,none⟩=some x.vF:=h.cf
theorem LAtO.lk (h:LAt w B x p ta tc ts s st):w.cell? ⟨x.D,38,none⟩=some (.bool s.lk):=h.c4
theorem LAtO.la (h:LAt w B x p ta tc ts s st):w.cell? ⟨x.D,39,none⟩=some (.int .i64 s.la):=h.c5
theorem LAtO.nd (h:LAt w B x p ta tc ts s st):w.cell? ⟨x.D,40,none⟩=some (.int .i64 s.nd):=h.c6
theorem LAtO.pd (h:LAt w B x p ta tc ts s st):w.cell? ⟨x.D,41,none⟩=some (.bool (decide (0≤s.pa))):=h.c7
theorem LAtO.pa (h:LAt w B x p ta tc ts s st): ∃z:Int,w.cell? ⟨x.D,42,none⟩=some (.int .i64 z)∧(0≤s.pa→z=s.pa):=h.c8
theorem LAtO.sa (h:LAt w B x p ta tc ts s st):Stb.SAt w B x.D 22 x.V st:=h.so
theorem LAtO.lt (h:LAtO O w B x p ta tc ts s st):x.D<w.heap.size:=h.so.lt
theorem LAtO.fz (h:LAtO O w B x p ta tc ts s st) (j:Nat):w.frozen? ⟨x.D,j,none⟩=false:=h.so.fz j
theorem LAtO.bD (h:LAtO O w B x p ta tc ts s st):B≤x.D:=h.so.bQ
theorem LAtO.ne (h:LAtO O w B x p ta tc ts s st):x.vF.ownBlock≠some x.D:=fun e=>h.aF _ e (Or.inl rfl)
theorem LAtO.blt (h:LAtO O w B x p ta tc ts s st) {k:Nat} (hk:blk x k):B≤k∧k<w.heap.size:=by
 rcases hk with a|a
 ·exact h.own.lt k a
 ·exact h.so.blt a
theorem LAtO.tlt (h:LAtO O w B x p ta tc ts s st) {b off:Nat} (hp:0<ts.length) (e:ta=some ⟨b,off,none⟩):b<w.heap.size:=by
 obtain⟨t,ht⟩: ∃t,ts[0]? =some t:=⟨ts[0],by simp⟩
 obtain⟨b',off',e',hlt,_⟩:=h.t 0 t ht;rw [e]at e';cases e';exact hlt
theorem LAtO.kept (h:LAtO O w B x p ta tc ts s st) (hb: ∀k,blk x k∨(∃off,0<ts.length∧ta=some ⟨k,off,none⟩)→w'.heap[k]? =w.heap[k]?) (hz:w.heap.size≤w'.heap.size):LAtO O w' B x p ta tc ts s st:=by
 have hD:w'.heap[x.D]? =w.heap[x.D]? :=hb _ (Or.inl (Or.inr (Or.inl rfl)));have e: ∀j,w'.cell? ⟨x.D,j,none⟩=w.cell? ⟨x.D,j,none⟩:=fun j=>Xf (w:=w) (a:=⟨x.D,j,none⟩) hD;obtain⟨z,hz1,hz2⟩:=h.c8;exact⟨fun j u hu=>(e _).trans (h.cc j u hu),(e _).trans h.cf,(e _).trans h.c4,(e _).trans h.c5,(e _).trans h.c6,(e _).trans h.c7,⟨z,(e _).trans hz1,hz2⟩,owns_block h.own (fun g hg=>hb g (Or.inl (Or.inl hg))),h.so.kept (fun k hk=>hb k (Or.inl (Or.inr hk))),h.aF,trs_kept h.t (fun b off hp ha=>hb b (Or.inr ⟨off,hp,ha⟩)) hz,h.tb,fun j hj=>(e j).trans (h.rest j hj)⟩
theorem LAtO.below (h:LAtO O w B x p ta tc ts s st) (hb:Below w.heap.size w w'):LAtO O w' B x p ta tc ts s st:=
 h.kept (fun k hk => hb.block k (by
  rcases hk with a|⟨off,hp,e⟩
  ·exact(h.blt a).2
  ·exact h.tlt hp e)) hb.size
theorem LAtO.other {b b':Nat→Prop} (h:LAtO O w B x p ta tc ts s st) (m:Mv b b' w w') (h1: ∀k,blk x k→ ¬b k) (h2: ∀k off,0<ts.length→ta=some ⟨k,off,none⟩→ ¬b k):LAtO O w' B x p ta tc ts s st:=
 h.kept (fun k hk => by
  rcases hk with a|⟨off,hp,e⟩
  ·exact m.block k (h.blt a).2 (h1 k a)
  ·exact m.block k (h.tlt hp e) (h2 k off hp e)) m.size
theorem LAtO.drew (h:LAtO O w B x p ta tc ts s st):LAtO O w.drew B x p ta tc ts s st:=h.below (bdrew w)
theorem LAtO.sib (h:LAtO O w B x p ta tc ts s st) (hD:x.D<w'.heap.size) (hf: ∀j,w'.frozen? ⟨x.D,j,none⟩=false) (hc: ∀j,O≤j→j<O+39→w'.cell? ⟨x.D,j,none⟩=w.cell? ⟨x.D,j,none⟩)
  (hb: ∀k,k≠x.D→blk x k∨(∃off,0<ts.length∧ta=some ⟨k,off,none⟩)→w'.heap[k]? =w.heap[k]?) (hz:w.heap.size≤w'.heap.size) (hr: ∀j,(j<O∨O+39≤j)→w'.cell? ⟨x.D,j,none⟩=R' j):LAtO O w' B ⟨x.D,x.vF,x.V,R'⟩ p ta tc ts s st:=by
 obtain⟨z,hz1,hz2⟩:=h.c8;have q:=h.so;refine⟨fun j u hu=>(hc _ (by omega) ?_).trans (h.cc j u hu),(hc _ (by omega) (by omega)).trans h.cf,(hc _ (by omega) (by omega)).trans h.c4,(hc _ (by omega) (by omega)).trans h.c5,(hc _ (by omega) (by omega)).trans h.c6,(hc _ (by omega) (by omega)).trans h.c7,⟨z,(hc _ (by omega) (by omega)).trans hz1,hz2⟩,owns_block h.own (fun g hg=>hb g (fun e=>h.aF g hg (Or.inl e)) (Or.inl (Or.inl hg))),⟨hD,q.bQ,hf,fun j hj=>(hc _ (by omega) ?_).trans (q.num j hj),fun i hi=>(hc _ (by omega) ?_).trans (q.row i hi),fun i hi=>Own.kept (q.own i hi) (fun g hg=>hb g (fun e=>q.ne i hi (e▸hg)) (Or.inl (Or.inr (Or.inr ⟨i,hi,hg⟩)))),q.ne,q.ap⟩,h.aF,trs_kept h.t (fun b off hp ha=>hb b (fun e=>h.tb b off hp ha (Or.inr (Or.inl e))) (Or.inr ⟨off,hp,ha⟩)) hz,h.tb,hr⟩
 ·have:=(Xe.1 hu).1;simp [pC]at this;omega
 ·have:=Stb.num_lt hj;omega
 ·have:=Stb.pos_lt i;omega
theorem LAtO.moved {P E:Nat} (h:LAtO O w B x p ta tc ts s st) (hE:E<w'.heap.size) (hB:B≤E) (hf: ∀j,w'.frozen? ⟨E,j,none⟩=false) (hc: ∀j,j<39→w'.cell? ⟨E,P+j,none⟩=w.cell? ⟨x.D,O+j,none⟩)
  (hb: ∀k,k≠x.D→blk x k∨(∃off,0<ts.length∧ta=some ⟨k,off,none⟩)→k≠E∧w'.heap[k]? =w.heap[k]?) (hz:w.heap.size≤w'.heap.size) (hr: ∀j,(j<P∨P+39≤j)→w'.cell? ⟨E,j,none⟩=R' j):LAtO P w' B ⟨E,x.vF,x.V,R'⟩ p ta tc ts s st:=by
 obtain⟨z,hz1,hz2⟩:=h.c8;have q:=h.so;have hF: ∀g,x.vF.ownBlock=some g→g≠E∧w'.heap[g]? =w.heap[g]? :=fun g hg=>hb g (fun e=>h.aF g hg (Or.inl e)) (Or.inl (Or.inl hg));have hV: ∀i,i<4→ ∀g,(x.V i).ownBlock=some g→g≠E∧w'.heap[g]? =w.heap[g]? :=fun i hi g hg=>hb g (fun e=>q.ne i hi (e▸hg)) (Or.inl (Or.inr (Or.inr ⟨i,hi,hg⟩)));have hT: ∀b off,0<ts.length→ta=some ⟨b,off,none⟩→b≠E∧w'.heap[b]? =w.heap[b]? :=fun b off hp ha=>hb b (fun e=>h.tb b off hp ha (Or.inr (Or.inl e))) (Or.inr ⟨off,hp,ha⟩);refine⟨fun j u hu=>(hc _ ?_).trans (h.cc j u hu),(hc _ (by omega)).trans h.cf,(hc _ (by omega)).trans h.c4,(hc _ (by omega)).trans h.c5,(hc _ (by omega)).trans h.c6,(hc _ (by omega)).trans h.c7,⟨z,(hc _ (by omega)).trans hz1,hz2⟩,owns_block h.own (fun g hg=>(hF g hg).2),⟨hE,hB,hf,fun j hj=> ?_,fun i hi=> ?_,fun i hi=>Own.kept (q.own i hi) (fun g hg=>(hV i hi g hg).2),fun i hi e=>(hV i hi E e).1 rfl,q.ap⟩,?_,trs_kept h.t (fun b off hp ha=>(hT b off hp ha).2) hz,?_,hr⟩
 ·have:=(Xe.1 hu).1;simp [pC]at this;omega
 ·have:=Stb.num_lt hj;have a:=hc (18+j) (by omega);rw [←Nat.add_assoc,←Nat.add_assoc]at a;exact a.trans (q.num j hj)
 ·have:=Stb.pos_lt i;have a:=hc (18+Stb.pos i) (by omega);rw [←Nat.add_assoc,←Nat.add_assoc]at a;exact a.trans (q.row i hi)
 ·rintro g hg (a|⟨i,hi,a⟩)
  ·exact(hF g hg).1 a
  ·exact h.aF g hg (Or.inr ⟨i,hi,a⟩)
 ·rintro b off hp ha (a|a|⟨i,hi,a⟩)
  ·exact h.tb b off hp ha (Or.inl a)
  ·exact(hT b off hp ha).1 a
  ·exact h.tb b off hp ha (Or.inr (Or.inr ⟨i,hi,a⟩))
theorem LAtO.setN {u:Value} {s':Lp} (h:LAt w B x p ta tc ts s st) (hj:37<j) (hj2:j<43)
  (hfs:s'.fs=s.fs) (hlk:(w.setCell ⟨x.D,j,none⟩ u).cell? ⟨x.D,38,none⟩=some (.bool s'.lk)) (hla:(w.setCell ⟨x.D,j,none⟩ u).cell? ⟨x.D,39,none⟩=some (.int .i64 s'.la)) (hnd:(w.setCell ⟨x.D,j,none⟩ u).cell? ⟨x.D,40,none⟩=some (.int .i64 s'.nd))
  (hpd:(w.setCell ⟨x.D,j,none⟩ u).cell? ⟨x.D,41,none⟩=some (.bool (decide (0≤s'.pa)))) (hpa: ∃z:Int,(w.setCell ⟨x.D,j,none⟩ u).cell? ⟨x.D,42,none⟩=some (.int .i64 z)∧(0≤s'.pa→z=s'.pa)):
  LAt (w.setCell ⟨x.D,j,none⟩ u) B x p ta tc ts s' st:=by
 have e: ∀i,i≠j→(w.setCell ⟨x.D,j,none⟩ u).cell? ⟨x.D,i,none⟩=w.cell? ⟨x.D,i,none⟩:=fun i hi=>by
  rw [Xd (h:=fun e=>hi (congrArg Addr.off e).symm)]
 have hne:=h.ne;refine⟨fun i v hv=>(e _ ?_).trans (h.cc i v hv),(e 37 (by omega)).trans h.cF,hlk,hla,hnd,hpd,hpa,?_,?_,h.aF,trs_kept h.t (fun b off hp ha=>Below.heap_setCell w _ _ b (fun e=>h.tb b off hp ha (Or.inr (Or.inl e)))) (by simp),h.tb,fun i hi=>(e i (by omega)).trans (h.rest i hi)⟩
 ·have:=(Xe.1 hv).1;simp [pC]at this;omega
 ·rw [hfs];exact owns_block h.own (fun g hg=>Below.heap_setCell w _ _ g (fun e=>hne (by rw [hg];exact congrArg some e)))
 ·have q:=h.sa;refine⟨by simpa using q.lt,q.bQ,fun i=>by rw [Xi];exact q.fz i,fun i hi=>(e _ ?_).trans (q.num i hi),fun i hi=>(e _ ?_).trans (q.row i hi),fun i hi=>Stb.own_set (q.own i hi) (q.ne i hi),q.ne,q.ap⟩
  ·have:=Stb.num_lt hi;omega
  ·have:=Stb.pos_lt i;omega
theorem LAtO.setLk (h:LAt w B x p ta tc ts s st) (now:Int):LAt ((w.setCell ⟨x.D,38,none⟩ (.bool true)).setCell ⟨x.D,39,none⟩ (.int .i64 now)) B x p ta tc ts ⟨s.fs,true,now,s.nd,s.pa⟩ st:=by
 obtain⟨z,hz1,hz2⟩:=h.pa
 have h1:LAt (w.setCell ⟨x.D,38,none⟩ (.bool true)) B x p ta tc ts ⟨s.fs,true,s.la,s.nd,s.pa⟩ st:=
  h.setN (by decide) (by decide) rfl (by simp [go_sem,h.lk]) (by simp [go_sem,h.la]) (by simp [go_sem,h.nd]) (by simp [go_sem,h.pd]) ⟨z,by simp [go_sem,hz1],hz2⟩
 exact h1.setN (by decide) (by decide) rfl (by simp [go_sem,h.lk]) (by simp [go_sem,h.la]) (by simp [go_sem,h.nd]) (by simp [go_sem,h.pd]) ⟨z,by simp [go_sem,hz1],hz2⟩
theorem LAtO.setNd (h:LAt w B x p ta tc ts s st) (now:Int):LAt (w.setCell ⟨x.D,40,none⟩ (.int .i64 now)) B x p ta tc ts ⟨s.fs,s.lk,s.la,now,s.pa⟩ st:=by
 obtain⟨z,hz1,hz2⟩:=h.pa;exact h.setN (by decide) (by decide) rfl (by simp [go_sem,h.lk]) (by simp [go_sem,h.la]) (by simp [go_sem,h.nd]) (by simp [go_sem,h.pd]) ⟨z,by simp [go_sem,hz1],hz2⟩
theorem LAtO.setPa (h:LAt w B x p ta tc ts s st) (n:Int) (hn: -1≤n):LAt ((w.setCell ⟨x.D,41,none⟩ (.bool (n != -1))).setCell ⟨x.D,42,none⟩ (.int .i64 n)) B x p ta tc ts ⟨s.fs,s.lk,s.la,s.nd,n⟩ st:=by
 obtain⟨z,hz1,hz2⟩:=h.pa;have hd:(n != -1)=decide (0≤n):=by
  by_cases e:n= -1
  ·subst e;decide
  ·have:0≤n:=by omega
   simp [e,this]
 rw [hd];have e: ∀i u,i≠42→((w.setCell ⟨x.D,41,none⟩ u).setCell ⟨x.D,42,none⟩ (.int .i64 n)).cell? ⟨x.D,i,none⟩=(w.setCell ⟨x.D,41,none⟩ u).cell? ⟨x.D,i,none⟩:=fun i u hi=>by
  rw [Xd (h:=fun e=>hi (congrArg Addr.off e).symm)]
 have hD:=h.lt;refine⟨fun j u hu=> ?_,?_,?_,?_,?_,?_,?_,?_,?_,h.aF,?_,h.tb,fun j hj=> ?_⟩
 ·have hj:=(Xe.1 hu).1;simp [pC]at hj;rw [Xd (h:=fun e=>by have:=congrArg Addr.off e;simp at this;omega),Xd (h:=fun e=>by have:=congrArg Addr.off e;simp at this;omega)];exact h.cc j u hu
 ·simp [go_sem,h.cF]
 ·simp [go_sem,h.lk]
 ·simp [go_sem,h.la]
 ·simp [go_sem,h.nd]
 ·simp [go_sem,h.pd]
 ·exact⟨n,by simp [go_sem,hz1],fun _=>rfl⟩
 ·exact owns_block h.own (fun g hg=>by rw [Below.heap_setCell _ _ _ g (fun e=>h.ne (by rw [hg];exact congrArg some e)),Below.heap_setCell _ _ _ g (fun e=>h.ne (by rw [hg];exact congrArg some e))])
 ·have q:=h.sa;refine⟨by simpa using q.lt,q.bQ,fun i=>by rw [Xi,Xi];exact q.fz i,fun i hi=> ?_,fun i hi=> ?_,fun i hi=>Stb.own_set (Stb.own_set (q.own i hi) (q.ne i hi)) (q.ne i hi),q.ne,q.ap⟩
  ·have:=Stb.num_lt hi;rw [Xd (h:=fun e=>by have:=congrArg Addr.off e;simp at this;omega),Xd (h:=fun e=>by have:=congrArg Addr.off e;simp at this;omega)];exact q.num i hi
  ·have:=Stb.pos_lt i;rw [Xd (h:=fun e=>by have:=congrArg Addr.off e;simp at this;omega),Xd (h:=fun e=>by have:=congrArg Addr.off e;simp at this;omega)];exact q.row i hi
 ·exact trs_kept h.t (fun b off hp ha=>by rw [Below.heap_setCell _ _ _ b (fun e=>h.tb b off hp ha (Or.inr (Or.inl e))),Below.heap_setCell _ _ _ b (fun e=>h.tb b off hp ha (Or.inr (Or.inl e)))]) (by simp)
 ·rw [Xd (h:=fun e=>by have:=congrArg Addr.off e;simp at this;omega),Xd (h:=fun e=>by have:=congrArg Addr.off e;simp at this;omega)];exact h.rest j hj
theorem LAtO.form (h:LAt w B x p ta tc ts s st) (hp:0<s.fs.length): ∃g cap,x.vF=.slice (some ⟨g,0,none⟩) s.fs.length cap:=by
 rcases h.own.2 with⟨_,b⟩|⟨g,cap,cur,a,_⟩
 ·omega
 ·exact⟨g,cap,a⟩
theorem LAtO.shape (h:LAt w B x p ta tc ts s st): ∃ao cap,x.vF=.slice ao s.fs.length cap:=by
 rcases h.own.2 with⟨a,b⟩|⟨g,cap,cur,a,_⟩
 ·exact⟨none,0,by rw [a,b]⟩
 ·exact⟨_,cap,a⟩
theorem LAtO.getF (h:LAt w B x p ta tc ts s st) (hv:x.vF=.slice (some ⟨g,0,none⟩) n cap) (hn:n=s.fs.length) (hf:s.fs[i]? =some f):w.cell? ⟨g,i,none⟩=some (.int .i64 f)∧(∀j,w.frozen? ⟨g,j,none⟩=false)∧g≠x.D:=by
 have ho:=h.own;rw [hv]at ho;have hi:i<s.fs.length:=(Xe.1 hf).1;subst hn;refine⟨?_,fun j=>ho.frozenAt j,fun e=>h.ne (by rw [hv,e];rfl)⟩;rw [ho.cellAt i (by simpa [iK]using hi)];have:=Rw.cels_get iK.len s.fs i 0 f hf (by decide);simpa [iK]using this
theorem LAtO.setF {f':Int} (h:LAt w B x p ta tc ts s st) (hv:x.vF=.slice (some ⟨g,0,none⟩) n cap) (hn:n=s.fs.length) (hf:s.fs[i]? =some f):LAt (w.setCell ⟨g,i,none⟩ (.int .i64 f')) B x p ta tc ts ⟨s.fs.set i f',s.lk,s.la,s.nd,s.pa⟩ st:=by
 have hgo:x.vF.ownBlock=some g:=by rw [hv];rfl
 have hgD:g≠x.D:=fun e=>h.ne (by rw [hgo,e]);have e: ∀j,(w.setCell ⟨g,i,none⟩ (.int .i64 f')).cell? ⟨x.D,j,none⟩=w.cell? ⟨x.D,j,none⟩:=fun j=>by
  rw [Xd (h:=fun e=>hgD (congrArg Addr.block e))]
 obtain⟨z,hz1,hz2⟩:=h.pa;refine⟨fun j u hu=>(e _).trans (h.cc j u hu),(e _).trans h.cF,(e _).trans h.lk,(e _).trans h.la,(e _).trans h.nd,(e _).trans h.pd,⟨z,(e _).trans hz1,hz2⟩,?_,h.so.kept (fun k hk=>Below.heap_setCell w _ _ k (fun e=>h.aF g hgo ((show k=g from e)▸hk))),h.aF,trs_kept h.t (fun b off hp ha=>Below.heap_setCell w _ _ b (fun e=>h.tb b off hp ha (Or.inl (by rw [hgo];exact congrArg some e.symm)))) (by simp),h.tb,fun j hj=>(e j).trans (h.rest j hj)⟩;have ho:=h.own;rw [hv]at ho⊢;subst hn;have hs:=(ho.stored (i*iK.s+0) (.int .i64 f')).1;rw [←cels_set iK s.fs i 0 f f' (.int .i64 f') hf (by decide) rfl]at hs;rw [Yg];simpa [iK]using hs
theorem LAtO.stab {V':Nat→Value} {st':Stb.St} (h:LAt w B x p ta tc ts s st) (m:Stb.Step x.D 22 x.V V' w w') (hs:Stb.SAt w' B x.D 22 V' st'):LAt w' B ⟨x.D,x.vF,V',x.R⟩ p ta tc ts s st'∧Mv (blk x) (blk ⟨x.D,x.vF,V',x.R⟩) w w':=by
 have off: ∀k,k<w.heap.size→ ¬Stb.blk x.D x.V k→ ¬Stb.blk x.D V' k:=fun k hk hn e=>by
  rcases m.loc k e with a|a
  ·exact hn a
  ·omega
 obtain⟨z,hz1,hz2⟩:=h.pa;refine⟨⟨fun j u hu=>(m.cell _ (Or.inl ?_)).trans (h.cc j u hu),(m.cell _ (Or.inr (by decide))).trans h.cF,(m.cell _ (Or.inr (by decide))).trans h.lk,(m.cell _ (Or.inr (by decide))).trans h.la,(m.cell _ (Or.inr (by decide))).trans h.nd,(m.cell _ (Or.inr (by decide))).trans h.pd,⟨z,(m.cell _ (Or.inr (by decide))).trans hz1,hz2⟩,?_,hs,?_,?_,?_,fun j hj=>(m.cell j (by omega)).trans (h.rest j hj)⟩,⟨m.os,m.tape,m.output,m.size,fun k hk hn=>m.block k hk (fun e=>hn (Or.inr e)),fun k hk=> ?_⟩⟩
 ·have:=(Xe.1 hu).1;simp [pC]at this;omega
 ·exact owns_block h.own (fun g hg=>m.block g (h.own.lt g hg).2 (h.aF g hg))
 ·exact fun g hg=>off g (h.own.lt g hg).2 (h.aF g hg)
 ·exact trs_kept h.t (fun b o hp ha=>m.block b (h.tlt hp ha) (fun e=>h.tb b o hp ha (Or.inr e))) m.size
 ·intro b o hp ha e;rcases e with a|a
  ·exact h.tb b o hp ha (Or.inl a)
  ·exact off b (h.tlt hp ha) (fun e=>h.tb b o hp ha (Or.inr e)) a
 ·rcases hk with a|a
  ·exact Or.inl (Or.inl a)
  ·rcases m.loc k a with b|b
   ·exact Or.inl (Or.inr b)
   ·exact Or.inr b
end

def rgB (lo hi n:Int):Bool:=decide (lo≤n)&&decide (n≤hi)
theorem rg_iff (lo hi n:Int):rgB lo hi n=true↔(lo≤n∧n≤hi):=by simp [rgB]
theorem isec_any (n:Int) (w:World):CS 218 #[.int .i64 n] w (.bool (rgB (-100000000000) 100000000000 n)):=by
 by_cases h1:(-100000000000)≤n
 ·have d1:decide ((-100000000000)≤n)=true:=by simp [h1]
  have HM:Hid (rgB (-100000000000) 100000000000 n=decide (n≤100000000000)):=by unfold Hid rgB;rw [d1];rfl
  go_enter func218,ntmps218;go_wp2;go_ret;exact⟨by rw [HM.out];rfl,rfl⟩
 ·have d1:decide ((-100000000000)≤n)=false:=by simp;omega
  have HM:Hid (rgB (-100000000000) 100000000000 n=false):=by unfold Hid rgB;rw [d1];rfl
  go_enter func218,ntmps218;go_wp2;go_ret;exact⟨by rw [HM.out];rfl,rfl⟩
theorem lmay_any (n:Int) (w:World):CS 219 #[.int .i64 n] w (.bool (rgB 0 50 n)):=by
 by_cases h1:0≤n
 ·have d1:decide (0≤n)=true:=by simp [h1]
  have HM:Hid (rgB 0 50 n=decide (n≤50)):=by unfold Hid rgB;rw [d1];rfl
  go_enter func219,ntmps219;go_wp2;go_ret;exact⟨by rw [HM.out];rfl,rfl⟩
 ·have d1:decide (0≤n)=false:=by simp;omega
  have HM:Hid (rgB 0 50 n=false):=by unfold Hid rgB;rw [d1];rfl
  go_enter func219,ntmps219;go_wp2;go_ret;exact⟨by rw [HM.out];rfl,rfl⟩
section
variable (B : Nat) (x : Pl) (p : Pd) (ta : Option Addr) (tc : Nat) (ts : List Tr) (s : Lp) (st : Stb.St)
theorem itime_any (n:Int) (w:World) (hA:LAt w B x p ta tc ts s st):CS 217 #[.pointer (some ⟨x.D,4,none⟩),.int .i64 n] w (.bool (rgB s.la 1099511627776 n)):=by
 obtain⟨D,vF,V,R⟩:=x;have qla:=hA.la;dsimp only at qla;clear hA;by_cases h1:s.la≤n
 ·have d1:decide (s.la≤n)=true:=by simp [h1]
  have HM:Hid (rgB s.la 1099511627776 n=decide (n≤1099511627776)):=by unfold Hid rgB;rw [d1];rfl
  go_enter func217,ntmps217;go_wp2;go_ret;exact⟨by rw [HM.out];rfl,rfl⟩
 ·have d1:decide (s.la≤n)=false:=by simp;omega
  have HM:Hid (rgB s.la 1099511627776 n=false):=by unfold Hid rgB;rw [d1];rfl
  go_enter func217,ntmps217;go_wp2;go_ret;exact⟨by rw [HM.out];rfl,rfl⟩
def dueP (p:Pd) (s:Lp) (now:Int):Bool:= !s.lk||decide (s.la+p.po≤now)
theorem due_any (now:Int) (w:World) (hA:LAt w B x p ta tc ts s st) (hl:0≤s.la∧s.la≤1099511627776) (hP:1≤p.po∧p.po≤100000):
  CB 141 #[.pointer (some ⟨x.D,4,none⟩),.int .i64 now] w (.bool (dueP p s now)):=by
 obtain⟨D,vF,V,R⟩:=x;have qlk:=hA.lk;have qla:=hA.la;have qpo:=LAtO.at hA 3 7 _ rfl;dsimp only at qlk qla qpo;have hwr:IntKind.i64.wrap (s.la+p.po)=s.la+p.po:=by rw [IntKind.wrap_i64]<;>omega
 clear hA hl;unfold dueP;have hbd:=bdrew w;generalize s.lk=LKV at*;cases LKV
 ·go_enter func141,ntmps141;go_wp2_with fail
  refine Tk.st 20 [false,false,false,false,false,false,false,false,false,false,false,false,false,false,false,false,false,false,false,false] (S:=fun w'=>w'.cell? ⟨D,38,none⟩=some (.bool false)∧w'.cell? ⟨D,39,none⟩=some (.int .i64 s.la)∧w'.cell? ⟨D,7,none⟩=some (.int .i64 p.po)) (by kernel_rfl) (by kernel_rfl) (⟨qlk,qla,qpo⟩) (fun hHeld=> ?_)
  iterate 6
   refine Tk.go ?_;(try simp only [Tk.nx,Act.put,ar,ag])
  iterate 12
   refine Tk.tk (v:=undef) rfl (by kernel_rfl) (fun _ _ _ h=>h) (Or.inr ⟨by rfl,rfl⟩) (by assumption) ?_;(try simp only [Tk.nx,Act.put,ar,ag])
  iterate 2
   refine Tk.go ?_;(try simp only [Tk.nx,Act.put,ar,ag])
  refine wpAnyH_done (by kernel_rfl) ?_ _;(try go_wp2);go_ret;exact⟨rfl,hbd⟩
 ·go_enter func141,ntmps141;go_wp2_with fail
  refine Tk.st 20 [false,false,false,false,false,false,false,false,false,false,false,false,false,false,false,false,false,false,false,false] (S:=fun w'=>w'.cell? ⟨D,38,none⟩=some (.bool true)∧w'.cell? ⟨D,39,none⟩=some (.int .i64 s.la)∧w'.cell? ⟨D,7,none⟩=some (.int .i64 p.po)) (by kernel_rfl) (by kernel_rfl) (⟨qlk,qla,qpo⟩) (fun hHeld=> ?_)
  iterate 20
   refine Tk.go ?_;(try simp only [Tk.nx,Act.put,ar,ag])
  refine wpAnyH_done (by kernel_rfl) ?_ _;(try go_wp2);go_ret;exact⟨by simp,hbd⟩
theorem pause_no (n:Int) (w:World) (h: ¬(-1≤n∧n≤50)):CS 115 #[.pointer (some ⟨x.D,4,none⟩),.int .i64 n] w (.int .i64 1):=by
 by_cases h1:n< -1
 ·clear h;go_enter func115,ntmps115;go_wp2;go_ret;exact⟨rfl,rfl⟩
 ·have h2:50<n:=by omega
  clear h;go_enter func115,ntmps115;go_wp2;go_ret;exact⟨rfl,rfl⟩
theorem pause_yes (n:Int) (w:World) (hA:LAt w B x p ta tc ts s st) (h1: -1≤n) (h2:n≤50):Calls prog 115 #[.pointer (some ⟨x.D,4,none⟩),.int .i64 n] w fun e w'=>e=.returned (.int .i64 0)∧LAt w' B x p ta tc ts ⟨s.fs,s.lk,s.la,s.nd,n⟩ st∧Mv (blk x) (blk x) w w':=by
 have HG:Hid (LAt ((w.setCell ⟨x.D,41,none⟩ (.bool (n != -1))).setCell ⟨x.D,42,none⟩ (.int .i64 n)) B x p ta tc ts ⟨s.fs,s.lk,s.la,s.nd,n⟩ st∧Mv (blk x) (blk x) w ((w.setCell ⟨x.D,41,none⟩ (.bool (n != -1))).setCell ⟨x.D,42,none⟩ (.int .i64 n))):=⟨hA.setPa n h1,(Mv.set (Or.inr (Or.inl rfl)) _).trans (Mv.set (Or.inr (Or.inl rfl)) _)⟩
 obtain⟨D,vF,V,R⟩:=x;have qpd:=hA.pd;obtain⟨z,qpa,-⟩:=hA.pa;have f37:=hA.fz 41;have f38:=hA.fz 42;dsimp only at qpd qpa f37 f38;have n1: ¬n< -1:=by omega
 have n2: ¬50<n:=by omega
 generalize decide (0≤s.pa)=PDV at qpd;clear hA;go_enter func115,ntmps115;go_wp2;go_ret;exact⟨rfl,HG.out⟩
theorem low_any (now hv:Int) (need:Bool) (w:World) (hA:LAt w B x p ta tc ts s st) (hP:PlOk p ts) (hn:0≤now∧now≤1099511627776) (hnd:0≤s.nd∧s.nd≤1099511627776):
  CB 222 #[.pointer (some ⟨x.D,4,none⟩),.int .i64 now,.int .i64 hv,.bool need] w (.int .i64 (lowF p hv now s.nd need)):=by
 obtain⟨D,vF,V,R⟩:=x;have qnd:=hA.nd;have qco:=LAtO.at hA 4 8 _ rfl;have qmn:=LAtO.at hA 1 5 _ rfl;dsimp only at qnd qco qmn;have hmn:=hP.mn.1;have hbd:=bdrew w;have hwr:IntKind.i64.wrap (now-s.nd)=now-s.nd:=by rw [IntKind.wrap_i64]<;>omega
 clear hA hP;cases need
 ·by_cases hco:now-s.nd<p.co
  ·have HL:Hid (lowF p hv now s.nd false=max p.mn (min hv 1)):=by unfold Hid lowF;rw [if_neg (by decide),if_pos hco]
   go_enter func222,ntmps222;go_wp2_with fail
   refine Tk.st 12 [false,false,false,false,false,false,false,false,false,false,false,false] (S:=fun w'=>w'.cell? ⟨D,40,none⟩=some (.int .i64 s.nd)∧w'.cell? ⟨D,8,none⟩=some (.int .i64 p.co)) (by kernel_rfl) (by kernel_rfl) (⟨qnd,qco⟩) (fun hHeld=> ?_)
   iterate 12
    refine Tk.go ?_;(try simp only [Tk.nx,Act.put,ar,ag])
   refine wpAnyH_done (by kernel_rfl) ?_ _;go_wp2;go_ret;exact⟨by rw [HL.out];rfl,hbd⟩
  ·have HL:Hid (lowF p hv now s.nd false=max p.mn 0):=by unfold Hid lowF;rw [if_neg (by decide),if_neg hco];omega
   go_enter func222,ntmps222;go_wp2_with fail
   refine Tk.st 12 [false,false,false,false,false,false,false,false,false,false,false,false] (S:=fun w'=>w'.cell? ⟨D,40,none⟩=some (.int .i64 s.nd)∧w'.cell? ⟨D,8,none⟩=some (.int .i64 p.co)) (by kernel_rfl) (by kernel_rfl) (⟨qnd,qco⟩) (fun hHeld=> ?_)
   iterate 12
    refine Tk.go ?_;(try simp only [Tk.nx,Act.put,ar,ag])
   refine wpAnyH_done (by kernel_rfl) ?_ _;go_wp2;go_ret;exact⟨by rw [HL.out];rfl,hbd⟩
 ·have HL:Hid (lowF p hv now s.nd true=max p.mn 1):=by unfold Hid lowF;rw [if_pos rfl]
  go_enter func222,ntmps222;go_wp2;go_ret;exact⟨by rw [HL.out];rfl,Below.refl _ _⟩
def instF (p:Pd) (hv f:Int):Int:=if p.af≠0∧p.af≤f then p.bk else hv
theorem inst_any (i:Nat) (hv f:Int) (w:World) (hA:LAt w B x p ta tc ts s st) (hf:s.fs[i]? =some f):
  CB 252 #[.pointer (some ⟨x.D,4,none⟩),.int .i64 (i:Int),.int .i64 hv] w (.int .i64 (instF p hv f)):=by
 have hi:i<s.fs.length:=(Xe.1 hf).1;obtain⟨g,cap,hvf⟩:=hA.form (by omega);obtain⟨c1,-,-⟩:=hA.getF hvf rfl hf;obtain⟨D,vF,V,R⟩:=x;have qaf:=LAtO.at hA 7 11 _ rfl;have qbk:=LAtO.at hA 6 10 _ rfl;have qF:=hA.cF;dsimp only at qaf qbk qF hvf;rw [hvf]at qF;have hbd:=bdrew w;have hi':(i:Int)<(s.fs.length:Int):=by omega
 generalize s.fs.length=N at*;clear hA hf hvf;by_cases ha:p.af=0
 ·have d1:(p.af !=0)=false:=by simp [ha]
  have HE:Hid (instF p hv f=hv):=by unfold Hid instF;rw [if_neg (fun h=>h.1 ha)]
  clear ha;go_enter func252,ntmps252;go_wp2_with fail
  refine Tk.st 21 [false,false,false,false,false,false,false,false,false,false,false,false,false,false,false,false,false,false,false,false,false] (S:=fun w'=>w'.cell? ⟨D,11,none⟩=some (.int .i64 p.af)∧w'.cell? ⟨D,37,none⟩=some (.slice (some ⟨g,0,none⟩) N cap)∧w'.cell? ⟨g,i,none⟩=some (.int .i64 f)) (by kernel_rfl) (by kernel_rfl) (⟨qaf,qF,c1⟩) (fun hHeld=> ?_)
  iterate 7
   refine Tk.go ?_;(try simp only [Tk.nx,Act.put,ar,ag])
  iterate 13
   refine Tk.tk (v:=undef) rfl (by kernel_rfl) (fun _ _ _ h=>h) (Or.inr ⟨by rfl,rfl⟩) (by assumption) ?_;(try simp only [Tk.nx,Act.put,ar,ag])
  iterate 1
   refine Tk.go ?_;(try simp only [Tk.nx,Act.put,ar,ag])
  refine wpAnyH_done (by kernel_rfl) ?_ _;go_wp2;go_ret;exact⟨by rw [HE.out];rfl,hbd⟩
 ·have d1:(p.af !=0)=true:=by simp [ha]
  by_cases hb:p.af≤f
  ·have HE:Hid (instF p hv f=p.bk):=by unfold Hid instF;rw [if_pos ⟨ha,hb⟩]
   clear ha;go_enter func252,ntmps252;go_wp2_with fail
   refine Tk.st 21 [false,false,false,false,false,false,false,false,false,false,false,false,false,false,false,false,false,false,false,false,false] (S:=fun w'=>w'.cell? ⟨D,11,none⟩=some (.int .i64 p.af)∧w'.cell? ⟨D,37,none⟩=some (.slice (some ⟨g,0,none⟩) N cap)∧w'.cell? ⟨g,i,none⟩=some (.int .i64 f)) (by kernel_rfl) (by kernel_rfl) (⟨qaf,qF,c1⟩) (fun hHeld=> ?_)
   iterate 21
    refine Tk.go ?_;(try simp only [Tk.nx,Act.put,ar,ag])
   refine wpAnyH_done (by kernel_rfl) ?_ _;go_wp2;go_ret;exact⟨by rw [HE.out];rfl,hbd⟩
  ·have HE:Hid (instF p hv f=hv):=by unfold Hid instF;rw [if_neg (fun h=>hb h.2)]
   clear ha;go_enter func252,ntmps252;go_wp2_with fail
   refine Tk.st 21 [false,false,false,false,false,false,false,false,false,false,false,false,false,false,false,false,false,false,false,false,false] (S:=fun w'=>w'.cell? ⟨D,11,none⟩=some (.int .i64 p.af)∧w'.cell? ⟨D,37,none⟩=some (.slice (some ⟨g,0,none⟩) N cap)∧w'.cell? ⟨g,i,none⟩=some (.int .i64 f)) (by kernel_rfl) (by kernel_rfl) (⟨qaf,qF,c1⟩) (fun hHeld=> ?_)
   iterate 21
    refine Tk.go ?_;(try simp only [Tk.nx,Act.put,ar,ag])
   refine wpAnyH_done (by kernel_rfl) ?_ _;go_wp2;go_ret;exact⟨by rw [HE.out];rfl,hbd⟩
theorem bound_any (n low:Int) (C E:Nat) (w:World) (qmx:w.cell? ⟨x.D,6,none⟩=some (.int .i64 p.mx)) (hC:w.cell? ⟨C,0,none⟩=some (.int .i64 low)) (hE:w.cell? ⟨E,0,none⟩=some (.pointer (some ⟨x.D,4,none⟩))):
  CB 223 #[.int .i64 n,.pointer (some ⟨C,0,none⟩),.pointer (some ⟨E,0,none⟩)] w (.int .i64 (toldF p n low)):=by
 obtain⟨D,vF,V,R⟩:=x;dsimp only at qmx hE;have hbd:=bdrew w;unfold toldF;go_enter func223,ntmps223;go_wp2_with fail
 refine Tk.st 10 [false,false,false,false,false,false,false,false,false,false] (S:=fun w'=>w'.cell? ⟨D,6,none⟩=some (.int .i64 p.mx)∧w'.cell? ⟨C,0,none⟩=some (.int .i64 low)∧w'.cell? ⟨E,0,none⟩=some (.pointer (some ⟨D,4,none⟩))) (by kernel_rfl) (by kernel_rfl) (⟨qmx,hC,hE⟩) (fun hHeld=> ?_)
 iterate 10
  refine Tk.go ?_;(try simp only [Tk.nx,Act.put,ar,ag])
 refine wpAnyH_done (by kernel_rfl) ?_ _;(try go_wp2);go_ret;exact⟨rfl,hbd⟩
end

def LfR (B:Nat) (x:Pl) (p:Pd) (ta:Option Addr) (tc:Nat) (ts:List Tr) (rs:List Rd) (s:Lp) (st:Stb.St) (w:World) (i:Value) (wr:World):Prop:=
 ∃k:Nat,k≤ts.length∧i=.int .i64 k∧LAt wr B x p ta tc ts ⟨fsK ts rs s.fs k,s.lk,s.la,s.nd,s.pa⟩ st∧Mv (blk x) (blk x) w wr
theorem cfails_any (B:Nat) (x:Pl) (p:Pd) (ta ra:Option Addr) (tc rc:Nat) (ts:List Tr) (rs:List Rd) (s:Lp) (st:Stb.St) (w:World) (hA:LAt w B x p ta tc ts s st) (hfl:s.fs.length=ts.length) (hfo:FsOk s.fs 1000000)
  (hR: ∀wr,Mv (blk x) (blk x) w wr→RdsAt wr ra rs) (hrl:rs.length=ts.length) (hl5:ts.length≤5):
  Calls prog 220 #[.pointer (some ⟨x.D,4,none⟩),.slice ra rs.length rc] w fun e w'=>e=.returned (.tuple #[])∧LAt w' B x p ta tc ts ⟨fsK ts rs s.fs ts.length,s.lk,s.la,s.nd,s.pa⟩ st∧Mv (blk x) (blk x) w w':=by
 obtain⟨D,vF,V,R⟩:=x;have qtr:=LAtO.at hA 17 21 _ rfl;dsimp only at qtr;rw [hrl];have hA0:LAt w B ⟨D,vF,V,R⟩ p ta tc ts ⟨fsK ts rs s.fs 0,s.lk,s.la,s.nd,s.pa⟩ st:=by rw [fsK_zero];exact hA
 clear hA;go_enter func220,ntmps220;go_wp2_with fail
 go_loopw [12] (fun i wr=>LfR B ⟨D,vF,V,R⟩ p ta tc ts rs s st w i wr) (fun i _=>ts.length-(intOf i).toNat)
 case atStart=>exact⟨0,by omega,rfl,hA0,Mv.refl _ _⟩
 case round=>
  clear hA0 qtr;obtain⟨k,hk,rfl,hAr,hSr⟩:=hrel;by_cases hlt:k<ts.length
  ·have hlt':(k:Int)<(ts.length:Int):=by omega
   have hk5:k<5:=by omega
   obtain⟨tr,htr⟩: ∃tr,ts[k]? =some tr:=⟨ts[k],by simp [hlt]⟩
   obtain⟨rd,hrd⟩: ∃rd,rs[k]? =some rd:=⟨rs[k]'(by omega),by simp⟩
   obtain⟨f,hf⟩: ∃f,s.fs[k]? =some f:=⟨s.fs[k]'(by omega),by simp⟩
   have hfb:=hfo f (Xk hf);have hgK:=fsK_get (ts:=ts) (rs:=rs) hf;have hll:ts.length=(fsK ts rs s.fs k).length:=by rw [fsK_len,hfl]
   obtain⟨gF,cF,hvF⟩: ∃gF cF,vF=.slice (some ⟨gF,0,none⟩) ts.length cF:=by
    obtain⟨g,cap,he⟩:=hAr.form (by dsimp only;omega);dsimp only at he;rw [←hll]at he;exact⟨g,cap,he⟩
   subst hvF;obtain⟨tb,toff,rfl,htl,hTr⟩:=TrsAt.elem hAr.t htr;obtain⟨W1,hW1⟩: ∃W1,W1=wr.alloc (.cells (trC tr) 171):=⟨_,rfl⟩
   have hN:TrAt (wr.alloc (.cells (trC tr) 171)) wr.heap.size 0 tr:=TrAt.new wr tr 171;have hT1:TrAt W1 wr.heap.size 0 tr:=by rw [hW1];exact hN
   have hb1:Below wr.heap.size wr W1:=by rw [hW1];exact(Below.refl _ _).alloc (Xa _) _
   have hA1:=hAr.below hb1;have hS1:=hSr.trans (Mv.of_below hb1);obtain⟨c1,fz1,hgD⟩:=hA1.getF rfl hll hgK;dsimp only at hgD;have q1:=hA1.cF;dsimp only at q1;have f1:=fz1 k;have hset:=fsK_step htr hrd hf;obtain⟨rb,roff,la,lc,rfl,hrbl,r0,r1,hrm,hrX⟩:=hR W1 hS1 k rd hrd;have HA1:=zh hA1;have HS1:=zh hS1;have HW1:=zh hW1;have HLL:=zh hll;have HSet:=zh hset;have HGK:=zh hgK;have hfb1:=hfb.1;have hfb2:=hfb.2;clear hW1 hAr hSr hA1 hS1 fz1 hb1 hll hset hR hrX r1 hrm hrbl hfb hgK hrd hf
   go_upto_region 3 with (first
    |(with_reducible refine wp_tr hTr (by with_unfolding_all rfl) ?_)
    |(with_reducible refine wp_newTr hN (by with_unfolding_all rfl) (by with_unfolding_all rfl) ?_))
   rw [←HW1.out];clear HW1 hN hTr;generalize wr.heap.size=C at*;have k0:=hT1.c0;have HF:Hid (stepF tr rd f=if(rd.f&&tr.k !=3)=true then f+1 else 0):=rfl;cases hrf:rd.f
   ·rw [hrf]at r0;have HE:Hid (stepF tr rd f=0):=by unfold Hid;rw [HF.out,hrf];rfl
    have HX:Hid (LfR B ⟨D,.slice (some ⟨gF,0,none⟩) ts.length cF,V,R⟩ p (some ⟨tb,toff,none⟩) tc ts rs s st w (.int .i64 ((k+1:Nat):Int)) (W1.setCell ⟨gF,k,none⟩ (.int .i64 0))):=by
     refine⟨k+1,hlt,rfl,?_,HS1.out.trans (Mv.set (Or.inl rfl) _)⟩;rw [←HSet.out,HE.out];exact HA1.out.setF (f':=0) rfl HLL.out HGK.out
    go_wp2;go_roundw
    case rel=>exact HX.out
    case measure=>simp [intOf];omega
   ·rw [hrf]at r0;cases hk3:(tr.k !=3)
    ·have HE:Hid (stepF tr rd f=0):=by unfold Hid;rw [HF.out,hrf,hk3];rfl
     have HX:Hid (LfR B ⟨D,.slice (some ⟨gF,0,none⟩) ts.length cF,V,R⟩ p (some ⟨tb,toff,none⟩) tc ts rs s st w (.int .i64 ((k+1:Nat):Int)) (W1.setCell ⟨gF,k,none⟩ (.int .i64 0))):=by
      refine⟨k+1,hlt,rfl,?_,HS1.out.trans (Mv.set (Or.inl rfl) _)⟩;rw [←HSet.out,HE.out];exact HA1.out.setF (f':=0) rfl HLL.out HGK.out
     go_wp2;go_roundw
     case rel=>exact HX.out
     case measure=>simp [intOf];omega
    ·have HE:Hid (stepF tr rd f=f+1):=by unfold Hid;rw [HF.out,hrf,hk3];rfl
     have HX:Hid (LfR B ⟨D,.slice (some ⟨gF,0,none⟩) ts.length cF,V,R⟩ p (some ⟨tb,toff,none⟩) tc ts rs s st w (.int .i64 ((k+1:Nat):Int)) (W1.setCell ⟨gF,k,none⟩ (.int .i64 (f+1)))):=by
      refine⟨k+1,hlt,rfl,?_,HS1.out.trans (Mv.set (Or.inl rfl) _)⟩;rw [←HSet.out,HE.out];exact HA1.out.setF (f':=(f+1)) rfl HLL.out HGK.out
     go_wp2;go_roundw
     case rel=>exact HX.out
     case measure=>simp [intOf];omega
  ·obtain rfl:k=ts.length:=by omega
   have HX:Hid (LAt wr B ⟨D,vF,V,R⟩ p ta tc ts ⟨fsK ts rs s.fs ts.length,s.lk,s.la,s.nd,s.pa⟩ st∧Mv (blk ⟨D,vF,V,R⟩) (blk ⟨D,vF,V,R⟩) w wr):=⟨hAr,hSr⟩
   clear hAr hSr;go_wp2;go_end0;exact⟨rfl,HX.out⟩
