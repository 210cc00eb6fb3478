/- A part. -/
import Derived.Test.YthiapcajheepbaaGreatDoorPwFrameGl
import Derived.Test.YthiapcajheepbaaGreatDoorPwRecMem
import Derived.Test.YthiapcajheepbaaGreatDoorPwPlanCheck
import Derived.Test.YthiapcajheepbaaGreatDoorPwStbKnow
set_option linter.all false
open Go.Proofs.Tryz
set_option maxRecDepth 8000
namespace Go.Proofs.YthiapcajheepbaaGreatDoor
namespace Lop
open Go.RowKit Rw Rec Plain Pln Frm Lpp
variable {k j g cap i:Nat} {R':Nat→Option Value} {f:Int}

def iK:Kd Int:=⟨fun n=> [.int .i64 n],1,fun _=>rfl,fun m u hu=>by simp at hu;subst hu;rfl,by decide⟩
structure Mv (b b':Nat→Prop) (w w':World):Prop where
 os:w'.os=w.os
 tape:w'.tape=w.tape
 output:w'.output=w.output
 size:w.heap.size≤w'.heap.size
 block: ∀k,k<w.heap.size→ ¬b k→w'.heap[k]? =w.heap[k]?
 loc: ∀k,b' k→b k∨w.heap.size≤k
section
variable {w w' w'' : World} {b b' b'' : Nat → Prop}
theorem Mv.refl (b:Nat→Prop) (w:World):Mv b b w w:=⟨rfl,rfl,rfl,Xa _,fun _ _ _=>rfl,fun _ h=>Or.inl h⟩
theorem Mv.trans (h:Mv b b' w w') (g:Mv b' b'' w' w''):Mv b b'' w w'':=by
 refine⟨g.os.trans h.os,g.tape.trans h.tape,g.output.trans h.output,Xc h.size g.size,fun k hk hn=> ?_,fun k hk=> ?_⟩
 ·refine(g.block k (Xb hk h.size) (fun e=> ?_)).trans (h.block k hk hn);rcases h.loc k e with a|a
  ·exact hn a
  ·omega
 ·rcases g.loc k hk with a|a
  ·exact h.loc k a
  ·exact Or.inr (Xc h.size a)
theorem Mv.of_below (hb:Below w.heap.size w w'):Mv b b w w':=⟨hb.os,hb.tape,hb.output,hb.size,fun k hk _=>hb.block k hk,fun _ h=>Or.inl h⟩
theorem Mv.drew (h:Mv b b' w w'):Mv b b' w w'.drew:=⟨h.os,h.tape,h.output,h.size,h.block,h.loc⟩
theorem Mv.set (h:b k) (u:Value):Mv b b w (w.setCell ⟨k,j,none⟩ u):=
 ⟨rfl,rfl,rfl,by simp,fun i _ hn=>Below.heap_setCell w ⟨k,j,none⟩ u i (fun e=>hn (e▸h)),fun _ h=>Or.inl h⟩
theorem Mv.below {n:Nat} (h:Mv b b' w w') (hb: ∀k,b k→n≤k) (hn:n≤w.heap.size):Below n w w':=
 ⟨h.os,h.tape,h.output,h.size,fun k hk=>h.block k (by omega) (fun e=>by have:=hb k e;omega)⟩
theorem Mv.off (h:Mv b b' w w') (hk:k<w.heap.size) (hn: ¬b k): ¬b' k:=fun e=>by
 rcases h.loc k e with a|a
 ·exact hn a
 ·omega
end
theorem bdrew (w:World):Below w.heap.size w w.drew:=⟨rfl,rfl,rfl,Xa _,fun _ _=>rfl⟩
theorem trs_kept {w w':World} {a:Option Addr} {ts:List Tr} (h:TrsAt w a ts) (hb: ∀b off,0<ts.length→a=some ⟨b,off,none⟩→w'.heap[b]? =w.heap[b]?) (hz:w.heap.size≤w'.heap.size):TrsAt w' a ts:=by
 intro i t hi;obtain⟨b,off,rfl,hlt,hc⟩:=h i t hi;have hp:0<ts.length:=by have:=(Xe.1 hi).1;omega
 refine⟨b,off,rfl,Xb hlt hz,fun j hj=> ?_⟩;rw [←hc j hj];exact Xf (w:=w) (a:=⟨b,off+(i*17+j),none⟩) (hb b off hp rfl)
def pC (p:Pd) (sl:Value):List Value:=[.string ⟨p.nm.toArray⟩,.int .i64 p.mn,.int .i64 p.mx,.int .i64 p.po,.int .i64 p.co,.int .i64 p.tl,.int .i64 p.bk,.int .i64 p.af,.int .i64 p.sh,.int .i64 p.uw,.int .i64 p.up,.int .i64 p.uc,.int .i64 p.ue,.int .i64 p.dw,.int .i64 p.dp,.int .i64 p.dc,.int .i64 p.de,sl]
structure Pl where
 D:Nat
 vF:Value
 V:Nat→Value
 R:Nat→Option Value
def blk (x:Pl) (k:Nat):Prop:=x.vF.ownBlock=some k∨Stb.blk x.D x.V k
structure LAtO (O:Nat) (w:World) (B:Nat) (x:Pl) (p:Pd) (ta:Option Addr) (tc:Nat) (ts:List Tr) (s:Lp) (st:Stb.St):Prop where
 cc: ∀j u,(pC p (.slice ta ts.length tc))[j]? =some u→w.cell? ⟨x.D,O+j,none⟩=some u
 cf:w.cell? ⟨x.D,O+33,none⟩=some x.vF
 c4:w.cell? ⟨x.D,O+34,none⟩=some (.bool s.lk)
 c5:w.cell? ⟨x.D,O+35,none⟩=some (.int .i64 s.la)
 c6:w.cell? ⟨x.D,O+36,none⟩=some (.int .i64 s.nd)
 c7:w.cell? ⟨x.D,O+37,none⟩=some (.bool (decide (0≤s.pa)))
 c8: ∃z:Int,w.cell? ⟨x.D,O+38,none⟩=some (.int .i64 z)∧(0≤s.pa→z=s.pa)
 own:w.ownsRow B 3 iK.s x.vF s.fs.length (cels iK.c s.fs)
 so:Stb.SAt w B x.D (O+18) x.V st
 aF: ∀g,x.vF.ownBlock=some g→ ¬Stb.blk x.D x.V g
 t:TrsAt w ta ts
 tb: ∀b off,0<ts.length→ta=some ⟨b,off,none⟩→ ¬blk x b
 rest: ∀j,(j<O∨O+39≤j)→w.cell? ⟨x.D,j,none⟩=x.R j
abbrev LAt (w:World) (B:Nat) (x:Pl) (p:Pd) (ta:Option Addr) (tc:Nat) (ts:List Tr) (s:Lp) (st:Stb.St):Prop:=LAtO 4 w B x p ta tc ts s st
section
variable {O : Nat} {w w' : World} {B : Nat} {x : Pl} {p : Pd} {ta : Option Addr} {tc : Nat} {ts : List Tr} {s : Lp} {st : Stb.St}
theorem LAtO.at (h:LAt w B x p ta tc ts s st) (j k:Nat) (u:Value) (hu:(pC p (.slice ta ts.length tc))[j]? =some u) (hk:4+j=k:=by rfl):w.cell? ⟨x.D,k,none⟩=some u:=hk▸h.cc j u hu
theorem LAtO.cF (h:LAt w B x p ta tc ts s st):w.cell? ⟨x.D,37,none⟩=some x.vF:=h.cf
theorem LAtO.lk (h:LAt w B x p ta tc ts s st):w.cell? ⟨x.D,38,none⟩=some (.bool s.lk):=h.c4
theorem LAtO.la (h:LAt w B x p ta tc ts s st):w.cell? ⟨x.D,39,none⟩=some (.int .i64 s.la):=h.c5
theorem LAtO.nd (h:LAt w B x p ta tc ts s st):w.cell? ⟨x.D,40,none⟩=some (.int .i64 s.nd):=h.c6
theorem LAtO.pd (h:LAt w B x p ta tc ts s st):w.cell? ⟨x.D,41,none⟩=some (.bool (decide (0≤s.pa))):=h.c7
theorem LAtO.pa (h:LAt w B x p ta tc ts s st): ∃z:Int,w.cell? ⟨x.D,42,none⟩=some (.int .i64 z)∧(0≤s.pa→z=s.pa):=h.c8
theorem LAtO.sa (h:LAt w B x p ta tc ts s st):Stb.SAt w B x.D 22 x.V st:=h.so
theorem LAtO.lt (h:LAtO O w B x p ta tc ts s st):x.D<w.heap.size:=h.so.lt
theorem LAtO.fz (h:LAtO O w B x p ta tc ts s st) (j:Nat):w.frozen? ⟨x.D,j,none⟩=false:=h.so.fz j
theorem LAtO.bD (h:LAtO O w B x p ta tc ts s st):B≤x.D:=h.so.bQ
theorem LAtO.ne (h:LAtO O w B x p ta tc ts s st):x.vF.ownBlock≠some x.D:=fun e=>h.aF _ e (Or.inl rfl)
theorem LAtO.blt (h:LAtO O w B x p ta tc ts s st) {k:Nat} (hk:blk x k):B≤k∧k<w.heap.size:=by
 rcases hk with a|a
 ·exact h.own.lt k a
 ·exact h.so.blt a
theorem LAtO.tlt (h:LAtO O w B x p ta tc ts s st) {b off:Nat} (hp:0<ts.length) (e:ta=some ⟨b,off,none⟩):b<w.heap.size:=by
 obtain⟨t,ht⟩: ∃t,ts[0]? =some t:=⟨ts[0],by simp⟩
 obtain⟨b',off',e',hlt,_⟩:=h.t 0 t ht;rw [e]at e';cases e';exact hlt
theorem LAtO.kept (h:LAtO O w B x p ta tc ts s st) (hb: ∀k,blk x k∨(∃off,0<ts.length∧ta=some ⟨k,off,none⟩)→w'.heap[k]? =w.heap[k]?) (hz:w.heap.size≤w'.heap.size):LAtO O w' B x p ta tc ts s st:=by
 have hD:w'.heap[x.D]? =w.heap[x.D]? :=hb _ (Or.inl (Or.inr (Or.inl rfl)));have e: ∀j,w'.cell? ⟨x.D,j,none⟩=w.cell? ⟨x.D,j,none⟩:=fun j=>Xf (w:=w) (a:=⟨x.D,j,none⟩) hD;obtain⟨z,hz1,hz2⟩:=h.c8;exact⟨fun j u hu=>(e _).trans (h.cc j u hu),(e _).trans h.cf,(e _).trans h.c4,(e _).trans h.c5,(e _).trans h.c6,(e _).trans h.c7,⟨z,(e _).trans hz1,hz2⟩,owns_block h.own (fun g hg=>hb g (Or.inl (Or.inl hg))),h.so.kept (fun k hk=>hb k (Or.inl (Or.inr hk))),h.aF,trs_kept h.t (fun b off hp ha=>hb b (Or.inr ⟨off,hp,ha⟩)) hz,h.tb,fun j hj=>(e j).trans (h.rest j hj)⟩
theorem LAtO.below (h:LAtO O w B x p ta tc ts s st) (hb:Below w.heap.size w w'):LAtO O w' B x p ta tc ts s st:=
 h.kept (fun k hk => hb.block k (by
  rcases hk with a|⟨off,hp,e⟩
  ·exact(h.blt a).2
  ·exact h.tlt hp e)) hb.size
theorem LAtO.other {b b':Nat→Prop} (h:LAtO O w B x p ta tc ts s st) (m:Mv b b' w w') (h1: ∀k,blk x k→ ¬b k) (h2: ∀k off,0<ts.length→ta=some ⟨k,off,none⟩→ ¬b k):LAtO O w' B x p ta tc ts s st:=
 h.kept (fun k hk => by
  rcases hk with a|⟨off,hp,e⟩
  ·exact m.block k (h.blt a).2 (h1 k a)
  ·exact m.block k (h.tlt hp e) (h2 k off hp e)) m.size
theorem LAtO.drew (h:LAtO O w B x p ta tc ts s st):LAtO O w.drew B x p ta tc ts s st:=h.below (bdrew w)
theorem LAtO.sib (h:LAtO O w B x p ta tc ts s st) (hD:x.D<w'.heap.size) (hf: ∀j,w'.frozen? ⟨x.D,j,none⟩=false) (hc: ∀j,O≤j→j<O+39→w'.cell? ⟨x.D,j,none⟩=w.cell? ⟨x.D,j,none⟩)
  (hb: ∀k,k≠x.D→blk x k∨(∃off,0<ts.length∧ta=some ⟨k,off,none⟩)→w'.heap[k]? =w.heap[k]?) (hz:w.heap.size≤w'.heap.size) (hr: ∀j,(j<O∨O+39≤j)→w'.cell? ⟨x.D,j,none⟩=R' j):LAtO O w' B ⟨x.D,x.vF,x.V,R'⟩ p ta tc ts s st:=by
 obtain⟨z,hz1,hz2⟩:=h.c8;have q:=h.so;refine⟨fun j u hu=>(hc _ (by omega) ?_).trans (h.cc j u hu),(hc _ (by omega) (by omega)).trans h.cf,(hc _ (by omega) (by omega)).trans h.c4,(hc _ (by omega) (by omega)).trans h.c5,(hc _ (by omega) (by omega)).trans h.c6,(hc _ (by omega) (by omega)).trans h.c7,⟨z,(hc _ (by omega) (by omega)).trans hz1,hz2⟩,owns_block h.own (fun g hg=>hb g (fun e=>h.aF g hg (Or.inl e)) (Or.inl (Or.inl hg))),⟨hD,q.bQ,hf,fun j hj=>(hc _ (by omega) ?_).trans (q.num j hj),fun i hi=>(hc _ (by omega) ?_).trans (q.row i hi),fun i hi=>Own.kept (q.own i hi) (fun g hg=>hb g (fun e=>q.ne i hi (e▸hg)) (Or.inl (Or.inr (Or.inr ⟨i,hi,hg⟩)))),q.ne,q.ap⟩,h.aF,trs_kept h.t (fun b off hp ha=>hb b (fun e=>h.tb b off hp ha (Or.inr (Or.inl e))) (Or.inr ⟨off,hp,ha⟩)) hz,h.tb,hr⟩
 ·have:=(Xe.1 hu).1;simp [pC]at this;omega
 ·have:=Stb.num_lt hj;omega
 ·have:=Stb.pos_lt i;omega
theorem LAtO.moved {P E:Nat} (h:LAtO O w B x p ta tc ts s st) (hE:E<w'.heap.size) (hB:B≤E) (hf: ∀j,w'.frozen? ⟨E,j,none⟩=false) (hc: ∀j,j<39→w'.cell? ⟨E,P+j,none⟩=w.cell? ⟨x.D,O+j,none⟩)
  (hb: ∀k,k≠x.D→blk x k∨(∃off,0<ts.length∧ta=some ⟨k,off,none⟩)→k≠E∧w'.heap[k]? =w.heap[k]?) (hz:w.heap.size≤w'.heap.size) (hr: ∀j,(j<P∨P+39≤j)→w'.cell? ⟨E,j,none⟩=R' j):LAtO P w' B ⟨E,x.vF,x.V,R'⟩ p ta tc ts s st:=by
 obtain⟨z,hz1,hz2⟩:=h.c8;have q:=h.so;have hF: ∀g,x.vF.ownBlock=some g→g≠E∧w'.heap[g]? =w.heap[g]? :=fun g hg=>hb g (fun e=>h.aF g hg (Or.inl e)) (Or.inl (Or.inl hg));have hV: ∀i,i<4→ ∀g,(x.V i).ownBlock=some g→g≠E∧w'.heap[g]? =w.heap[g]? :=fun i hi g hg=>hb g (fun e=>q.ne i hi (e▸hg)) (Or.inl (Or.inr (Or.inr ⟨i,hi,hg⟩)));have hT: ∀b off,0<ts.length→ta=some ⟨b,off,none⟩→b≠E∧w'.heap[b]? =w.heap[b]? :=fun b off hp ha=>hb b (fun e=>h.tb b off hp ha (Or.inr (Or.inl e))) (Or.inr ⟨off,hp,ha⟩);refine⟨fun j u hu=>(hc _ ?_).trans (h.cc j u hu),(hc _ (by omega)).trans h.cf,(hc _ (by omega)).trans h.c4,(hc _ (by omega)).trans h.c5,(hc _ (by omega)).trans h.c6,(hc _ (by omega)).trans h.c7,⟨z,(hc _ (by omega)).trans hz1,hz2⟩,owns_block h.own (fun g hg=>(hF g hg).2),⟨hE,hB,hf,fun j hj=> ?_,fun i hi=> ?_,fun i hi=>Own.kept (q.own i hi) (fun g hg=>(hV i hi g hg).2),fun i hi e=>(hV i hi E e).1 rfl,q.ap⟩,?_,trs_kept h.t (fun b off hp ha=>(hT b off hp ha).2) hz,?_,hr⟩
 ·have:=(Xe.1 hu).1;simp [pC]at this;omega
 ·have:=Stb.num_lt hj;have a:=hc (18+j) (by omega);rw [←Nat.add_assoc,←Nat.add_assoc]at a;exact a.trans (q.num j hj)
 ·have:=Stb.pos_lt i;have a:=hc (18+Stb.pos i) (by omega);rw [←Nat.add_assoc,←Nat.add_assoc]at a;exact a.trans (q.row i hi)
 ·rintro g hg (a|⟨i,hi,a⟩)
  ·exact(hF g hg).1 a
  ·exact h.aF g hg (Or.inr ⟨i,hi,a⟩)
 ·rintro b off hp ha (a|a|⟨i,hi,a⟩)
  ·exact h.tb b off hp ha (Or.inl a)
  ·exact(hT b off hp ha).1 a
  ·exact h.tb b off hp ha (Or.inr (Or.inr ⟨i,hi,a⟩))
theorem LAtO.setN {u:Value} {s':Lp} (h:LAt w B x p ta tc ts s st) (hj:37<j) (hj2:j<43)
  (hfs:s'.fs=s.fs) (hlk:(w.setCell ⟨x.D,j,none⟩ u).cell? ⟨x.D,38,none⟩=some (.bool s'.lk)) (hla:(w.setCell ⟨x.D,j,none⟩ u).cell? ⟨x.D,39,none⟩=some (.int .i64 s'.la)) (hnd:(w.setCell ⟨x.D,j,none⟩ u).cell? ⟨x.D,40,none⟩=some (.int .i64 s'.nd))
  (hpd:(w.setCell ⟨x.D,j,none⟩ u).cell? ⟨x.D,41,none⟩=some (.bool (decide (0≤s'.pa)))) (hpa: ∃z:Int,(w.setCell ⟨x.D,j,none⟩ u).cell? ⟨x.D,42,none⟩=some (.int .i64 z)∧(0≤s'.pa→z=s'.pa)):
  LAt (w.setCell ⟨x.D,j,none⟩ u) B x p ta tc ts s' st:=by
 have e: ∀i,i≠j→(w.setCell ⟨x.D,j,none⟩ u).cell? ⟨x.D,i,none⟩=w.cell? ⟨x.D,i,none⟩:=fun i hi=>by
  rw [Xd (h:=fun e=>hi (congrArg Addr.off e).symm)]
 have hne:=h.ne;refine⟨fun i v hv=>(e _ ?_).trans (h.cc i v hv),(e 37 (by omega)).trans h.cF,hlk,hla,hnd,hpd,hpa,?_,?_,h.aF,trs_kept h.t (fun b off hp ha=>Below.heap_setCell w _ _ b (fun e=>h.tb b off hp ha (Or.inr (Or.inl e)))) (by simp),h.tb,fun i hi=>(e i (by omega)).trans (h.rest i hi)⟩
 ·have:=(Xe.1 hv).1;simp [pC]at this;omega
 ·rw [hfs];exact owns_block h.own (fun g hg=>Below.heap_setCell w _ _ g (fun e=>hne (by rw [hg];exact congrArg some e)))
 ·have q:=h.sa;refine⟨by simpa using q.lt,q.bQ,fun i=>by rw [Xi];exact q.fz i,fun i hi=>(e _ ?_).trans (q.num i hi),fun i hi=>(e _ ?_).trans (q.row i hi),fun i hi=>Stb.own_set (q.own i hi) (q.ne i hi),q.ne,q.ap⟩
  ·have:=Stb.num_lt hi;omega
  ·have:=Stb.pos_lt i;omega
theorem LAtO.setLk (h:LAt w B x p ta tc ts s st) (now:Int):LAt ((w.setCell ⟨x.D,38,none⟩ (.bool true)).setCell ⟨x.D,39,none⟩ (.int .i64 now)) B x p ta tc ts ⟨s.fs,true,now,s.nd,s.pa⟩ st:=by
 obtain⟨z,hz1,hz2⟩:=h.pa
 have h1:LAt (w.setCell ⟨x.D,38,none⟩ (.bool true)) B x p ta tc ts ⟨s.fs,true,s.la,s.nd,s.pa⟩ st:=
  h.setN (by decide) (by decide) rfl (by simp [go_sem,h.lk]) (by simp [go_sem,h.la]) (by simp [go_sem,h.nd]) (by simp [go_sem,h.pd]) ⟨z,by simp [go_sem,hz1],hz2⟩
 exact h1.setN (by decide) (by decide) rfl (by simp [go_sem,h.lk]) (by simp [go_sem,h.la]) (by simp [go_sem,h.nd]) (by simp [go_sem,h.pd]) ⟨z,by simp [go_sem,hz1],hz2⟩
theorem LAtO.setNd (h:LAt w B x p ta tc ts s st) (now:Int):LAt (w.setCell ⟨x.D,40,none⟩ (.int .i64 now)) B x p ta tc ts ⟨s.fs,s.lk,s.la,now,s.pa⟩ st:=by
 obtain⟨z,hz1,hz2⟩:=h.pa;exact h.setN (by decide) (by decide) rfl (by simp [go_sem,h.lk]) (by simp [go_sem,h.la]) (by simp [go_sem,h.nd]) (by simp [go_sem,h.pd]) ⟨z,by simp [go_sem,hz1],hz2⟩
theorem LAtO.setPa (h:LAt w B x p ta tc ts s st) (n:Int) (hn: -1≤n):LAt ((w.setCell ⟨x.D,41,none⟩ (.bool (n != -1))).setCell ⟨x.D,42,none⟩ (.int .i64 n)) B x p ta tc ts ⟨s.fs,s.lk,s.la,s.nd,n⟩ st:=by
 obtain⟨z,hz1,hz2⟩:=h.pa;have hd:(n != -1)=decide (0≤n):=by
  by_cases e:n= -1
  ·subst e;decide
  ·have:0≤n:=by omega
   simp [e,this]
 rw [hd];have e: ∀i u,i≠42→((w.setCell ⟨x.D,41,none⟩ u).setCell ⟨x.D,42,none⟩ (.int .i64 n)).cell? ⟨x.D,i,none⟩=(w.setCell ⟨x.D,41,none⟩ u).cell? ⟨x.D,i,none⟩:=fun i u hi=>by
  rw [Xd (h:=fun e=>hi (congrArg Addr.off e).symm)]
 have hD:=h.lt;refine⟨fun j u hu=> ?_,?_,?_,?_,?_,?_,?_,?_,?_,h.aF,?_,h.tb,fun j hj=> ?_⟩
 ·have hj:=(Xe.1 hu).1;simp [pC]at hj;rw [Xd (h:=fun e=>by have:=congrArg Addr.off e;simp at this;omega),Xd (h:=fun e=>by have:=congrArg Addr.off e;simp at this;omega)];exact h.cc j u hu
 ·simp [go_sem,h.cF]
 ·simp [go_sem,h.lk]
 ·simp [go_sem,h.la]
 ·simp [go_sem,h.nd]
 ·simp [go_sem,h.pd]
 ·exact⟨n,by simp [go_sem,hz1],fun _=>rfl⟩
 ·exact owns_block h.own (fun g hg=>by rw [Below.heap_setCell _ _ _ g (fun e=>h.ne (by rw [hg];exact congrArg some e)),Below.heap_setCell _ _ _ g (fun e=>h.ne (by rw [hg];exact congrArg some e))])
 ·have q:=h.sa;refine⟨by simpa using q.lt,q.bQ,fun i=>by rw [Xi,Xi];exact q.fz i,fun i hi=> ?_,fun i hi=> ?_,fun i hi=>Stb.own_set (Stb.own_set (q.own i hi) (q.ne i hi)) (q.ne i hi),q.ne,q.ap⟩
  ·have:=Stb.num_lt hi;rw [Xd (h:=fun e=>by have:=congrArg Addr.off e;simp at this;omega),Xd (h:=fun e=>by have:=congrArg Addr.off e;simp at this;omega)];exact q.num i hi
  ·have:=Stb.pos_lt i;rw [Xd (h:=fun e=>by have:=congrArg Addr.off e;simp at this;omega),Xd (h:=fun e=>by have:=congrArg Addr.off e;simp at this;omega)];exact q.row i hi
 ·exact trs_kept h.t (fun b off hp ha=>by rw [Below.heap_setCell _ _ _ b (fun e=>h.tb b off hp ha (Or.inr (Or.inl e))),Below.heap_setCell _ _ _ b (fun e=>h.tb b off hp ha (Or.inr (Or.inl e)))]) (by simp)
 ·rw [Xd (h:=fun e=>by have:=congrArg Addr.off e;simp at this;omega),Xd (h:=fun e=>by have:=congrArg Addr.off e;simp at this;omega)];exact h.rest j hj
theorem LAtO.form (h:LAt w B x p ta tc ts s st) (hp:0<s.fs.length): ∃g cap,x.vF=.slice (some ⟨g,0,none⟩) s.fs.length cap:=by
 rcases h.own.2 with⟨_,b⟩|⟨g,cap,cur,a,_⟩
 ·omega
 ·exact⟨g,cap,a⟩
theorem LAtO.shape (h:LAt w B x p ta tc ts s st): ∃ao cap,x.vF=.slice ao s.fs.length cap:=by
 rcases h.own.2 with⟨a,b⟩|⟨g,cap,cur,a,_⟩
 ·exact⟨none,0,by rw [a,b]⟩
 ·exact⟨_,cap,a⟩
theorem LAtO.getF {n:Nat} (h:LAt w B x p ta tc ts s st) (hv:x.vF=.slice (some ⟨g,0,none⟩) n cap) (hn:n=s.fs.length) (hf:s.fs[i]? =some f):w.cell? ⟨g,i,none⟩=some (.int .i64 f)∧(∀j,w.frozen? ⟨g,j,none⟩=false)∧g≠x.D:=by
 have ho:=h.own;rw [hv]at ho;have hi:i<s.fs.length:=(Xe.1 hf).1;subst hn;refine⟨?_,fun j=>ho.frozenAt j,fun e=>h.ne (by rw [hv,e];rfl)⟩;rw [ho.cellAt i (by simpa [iK]using hi)];have:=Rw.cels_get iK.len s.fs i 0 f hf (by decide);simpa [iK]using this
theorem LAtO.setF {n:Nat} {f':Int} (h:LAt w B x p ta tc ts s st) (hv:x.vF=.slice (some ⟨g,0,none⟩) n cap) (hn:n=s.fs.length) (hf:s.fs[i]? =some f):LAt (w.setCell ⟨g,i,none⟩ (.int .i64 f')) B x p ta tc ts ⟨s.fs.set i f',s.lk,s.la,s.nd,s.pa⟩ st:=by
 have hgo:x.vF.ownBlock=some g:=by rw [hv];rfl
 have hgD:g≠x.D:=fun e=>h.ne (by rw [hgo,e]);have e: ∀j,(w.setCell ⟨g,i,none⟩ (.int .i64 f')).cell? ⟨x.D,j,none⟩=w.cell? ⟨x.D,j,none⟩:=fun j=>by
  rw [Xd (h:=fun e=>hgD (congrArg Addr.block e))]
 obtain⟨z,hz1,hz2⟩:=h.pa;refine⟨fun j u hu=>(e _).trans (h.cc j u hu),(e _).trans h.cF,(e _).trans h.lk,(e _).trans h.la,(e _).trans h.nd,(e _).trans h.pd,⟨z,(e _).trans hz1,hz2⟩,?_,h.so.kept (fun k hk=>Below.heap_setCell w _ _ k (fun e=>h.aF g hgo ((show k=g from e)▸hk))),h.aF,trs_kept h.t (fun b off hp ha=>Below.heap_setCell w _ _ b (fun e=>h.tb b off hp ha (Or.inl (by rw [hgo];exact congrArg some e.symm)))) (by simp),h.tb,fun j hj=>(e j).trans (h.rest j hj)⟩;have ho:=h.own;rw [hv]at ho⊢;subst hn;have hs:=(ho.stored (i*iK.s+0) (.int .i64 f')).1;rw [←cels_set iK s.fs i 0 f f' (.int .i64 f') hf (by decide) rfl]at hs;rw [Yg];simpa [iK]using hs
theorem LAtO.stab {V':Nat→Value} {st':Stb.St} (h:LAt w B x p ta tc ts s st) (m:Stb.Step x.D 22 x.V V' w w') (hs:Stb.SAt w' B x.D 22 V' st'):LAt w' B ⟨x.D,x.vF,V',x.R⟩ p ta tc ts s st'∧Mv (blk x) (blk ⟨x.D,x.vF,V',x.R⟩) w w':=by
 have off: ∀k,k<w.heap.size→ ¬Stb.blk x.D x.V k→ ¬Stb.blk x.D V' k:=fun k hk hn e=>by
  rcases m.loc k e with a|a
  ·exact hn a
  ·omega
 obtain⟨z,hz1,hz2⟩:=h.pa;refine⟨⟨fun j u hu=>(m.cell _ (Or.inl ?_)).trans (h.cc j u hu),(m.cell _ (Or.inr (by decide))).trans h.cF,(m.cell _ (Or.inr (by decide))).trans h.lk,(m.cell _ (Or.inr (by decide))).trans h.la,(m.cell _ (Or.inr (by decide))).trans h.nd,(m.cell _ (Or.inr (by decide))).trans h.pd,⟨z,(m.cell _ (Or.inr (by decide))).trans hz1,hz2⟩,?_,hs,?_,?_,?_,fun j hj=>(m.cell j (by omega)).trans (h.rest j hj)⟩,⟨m.os,m.tape,m.output,m.size,fun k hk hn=>m.block k hk (fun e=>hn (Or.inr e)),fun k hk=> ?_⟩⟩
 ·have:=(Xe.1 hu).1;simp [pC]at this;omega
 ·exact owns_block h.own (fun g hg=>m.block g (h.own.lt g hg).2 (h.aF g hg))
 ·exact fun g hg=>off g (h.own.lt g hg).2 (h.aF g hg)
 ·exact trs_kept h.t (fun b o hp ha=>m.block b (h.tlt hp ha) (fun e=>h.tb b o hp ha (Or.inr e))) m.size
 ·intro b o hp ha e;rcases e with a|a
  ·exact h.tb b o hp ha (Or.inl a)
  ·exact off b (h.tlt hp ha) (fun e=>h.tb b o hp ha (Or.inr e)) a
 ·rcases hk with a|a
  ·exact Or.inl (Or.inl a)
  ·rcases m.loc k a with b|b
   ·exact Or.inl (Or.inr b)
   ·exact Or.inr b
end
