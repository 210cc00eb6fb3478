/- A part. -/
import Derived.Test.YthiapcajheepbaaGreatDoorPwWldPlain
import Derived.Test.YthiapcajheepbaaGreatDoorPwBoardWalks
import Derived.Test.YthiapcajheepbaaGreatDoorPwCrewWalks
set_option linter.all false
open Go.Proofs.Tryz
set_option maxRecDepth 8000
namespace Go.Proofs.YthiapcajheepbaaGreatDoor
namespace Glb
open Go.RowKit Plain Pln Frm Lpp Crn Wld
variable {r:Nat→Prop} {Q:Nat}

structure Gc where
 G:Nat
 D:Nat
 Z:Nat
 vF:Value
 ta:Option Addr
 tc:Nat
 T:Nat
 P:Nat
 O:Nat
 Q:Nat
 F:Nat
 H:Nat
 K:Nat
structure Gv where
 w:Value
 m:Value
 q:Value
 f:Value
 b:Value
def wx (c:Gc) (v:Gv):Wat.Pl:=⟨c.D,c.Z,c.vF,v.w,v.m⟩
def gp (c:Gc) (v:Gv):Nat→Nat→Prop
 |0,k=>k=c.G
 |1,k=>Wat.blk (wx c v) k
 |2,k=>k=c.T∨k=c.P∨k=c.O
 |3,k=>k=c.Q∨v.q.ownBlock=some k
 |4,k=>k=c.F∨v.f.ownBlock=some k
 |5,k=>k=c.H∨v.b.ownBlock=some k
 |_,k=>k=c.K
def gbk (c:Gc) (v:Gv) (k:Nat):Prop:= ∃i,i<7∧gp c v i k
def gC (c:Gc) (n:Nat) (S:WS):List Value:=[.pointer (some ⟨c.D,0,none⟩),.pointer (some ⟨c.T,0,none⟩),.pointer (some ⟨c.Q,0,none⟩),.pointer (some ⟨c.F,0,none⟩),.pointer (some ⟨c.H,0,none⟩),.slice (some ⟨c.K,0,none⟩) n n,.int .i64 S.sec,.int .i64 S.now,.int .i64 S.tg,.int .i64 0,.int .i64 0]
def ClAt (w:World) (K:Nat) (L:List Value):Prop:=K<w.heap.size∧(∀j,w.frozen? ⟨K,j,none⟩=false)∧ ∀j u,L[j]? =some u→w.cell? ⟨K,j,none⟩=some u
theorem ClAt.kept {w w':World} {K:Nat} {L:List Value} (h:ClAt w K L) (hb:w'.heap[K]? =w.heap[K]?) (hz:w.heap.size≤w'.heap.size):ClAt w' K L:=
 ⟨Xb h.1 hz,fun j=>(Xl (w:=w) (a:=⟨K,j,none⟩) hb).trans (h.2.1 j),fun j u hu=>(Xf (w:=w) (a:=⟨K,j,none⟩) hb).trans (h.2.2 j u hu)⟩
theorem ClAt.set {w:World} {K:Nat} {L:List Value} (h:ClAt w K L) (i:Nat) (u:Value):ClAt (w.setCell ⟨K,i,none⟩ u) K (L.set i u):=by
 refine⟨by simpa using h.1,fun j=>by rw [Xi];exact h.2.1 j,fun j v hv=> ?_⟩;by_cases e:j=i
 ·subst e;have hl:j<L.length:=by have:=(Xe.1 hv).1;simpa using this
  rw [Ys hl]at hv;cases hv;exact Xn _ _ _ (h.2.2 j L[j] (by simp [hl]))
 ·rw [Yt (fun e2=>e e2.symm)]at hv;rw [Xd (h:=fun e2=>e (congrArg Addr.off e2).symm)];exact h.2.2 j v hv
def PA (w:World) (B:Nat) (c:Gc) (v:Gv) (p:Pd) (ts:List Tr) (S:WS) (k:Nat):Nat→Prop
 |0=>ClAt w c.G (gC c ts.length S)
 |1=> ∃C,Wat.WAt w B (wx c v) p c.ta c.tc ts S.lp C∧Stb.Sim S.st C∧Stb.CFit C k
 |2=>Top.BoardAt w c.T c.P c.O S.n S.E S.O
 |3=>Que.QAt w 128 B c.Q 1 0 S.ql v.q S.qL
 |4=>Flt.DAt w B c.F v.f S.F
 |5=>Hal.HAt w B c.H v.b S.R
 |_=>ClAt w c.K (S.fl.map Value.bool)
theorem PA.kept {w w':World} {B:Nat} {c:Gc} {v:Gv} {p:Pd} {ts:List Tr} {S:WS} {k i:Nat} (hi:i<7) (h:PA w B c v p ts S k i) (hb: ∀j,gp c v i j∨j<B→w'.heap[j]? =w.heap[j]?) (hz:w.heap.size≤w'.heap.size):PA w' B c v p ts S k i:=by
 rcases i with _|_|_|_|_|_|_|i
 ·exact ClAt.kept h (hb _ (Or.inl rfl)) hz
 ·obtain⟨C,a,b⟩:=h;exact⟨C,a.kept (fun j hj=>hb j hj.symm) hz,b⟩
 ·exact Top.BoardAt.kept h (hb _ (Or.inl (Or.inl rfl))) (hb _ (Or.inl (Or.inr (Or.inl rfl)))) (hb _ (Or.inl (Or.inr (Or.inr rfl))))
 ·exact Que.QAt.kept h (hb _ (Or.inl (Or.inl rfl))) (fun g hg=>hb g (Or.inl (Or.inr hg)))
 ·exact Rec.RAt.kept h (hb _ (Or.inl (Or.inl rfl))) (fun g hg=>hb g (Or.inl (Or.inr hg)))
 ·exact Rec.RAt.kept h (hb _ (Or.inl (Or.inl rfl))) (fun g hg=>hb g (Or.inl (Or.inr hg)))
 ·exact ClAt.kept h (hb _ (Or.inl rfl)) hz
 ·omega
theorem PA.lt {w:World} {B:Nat} {c:Gc} {v:Gv} {p:Pd} {ts:List Tr} {S:WS} {k i:Nat} (hi:i<7) (h:PA w B c v p ts S k i) {q:Nat} (hq:gp c v i q):q<w.heap.size:=by
 rcases i with _|_|_|_|_|_|_|i
 ·rw [show q=c.G from hq];exact h.1
 ·obtain⟨C,a,_⟩:=h;exact(a.blt hq).2
 ·obtain⟨_,_,_,a,_,_,b,d⟩:=h;rcases hq with rfl|rfl|rfl
  ·exact a
  ·exact b.1
  ·exact d.1
 ·rcases hq with rfl|e
  ·exact Que.QAt.lt h
  ·exact Que.QAt.rowLt h q e
 ·rcases hq with rfl|e
  ·exact Rec.RAt.lt h
  ·exact Rec.RAt.rowLt h q e
 ·rcases hq with rfl|e
  ·exact Rec.RAt.lt h
  ·exact Rec.RAt.rowLt h q e
 ·rw [show q=c.K from hq];exact h.1
 ·omega
structure GAt (w:World) (B:Nat) (c:Gc) (v:Gv) (p:Pd) (ts:List Tr) (S:WS) (k:Nat):Prop where
 pa: ∀i,i<7→PA w B c v p ts S k i
 fa:Mm.Fam B 7 (gp c v) w
 ba:Bas B w
def Gst (B:Nat) (c:Gc) (v:Gv) (p:Pd) (ts:List Tr) (S':WS) (k':Nat) (w w':World):Prop:= ∃v',GAt w' B c v' p ts S' k'∧Mm.Mv (gbk c v) (gbk c v') w w'
section
variable {w w' w'' : World} {B : Nat} {c : Gc} {v v' : Gv} {p : Pd} {ts : List Tr} {S S' : WS} {k k' : Nat}
theorem GAt.cells (h:GAt w B c v p ts S k):ClAt w c.G (gC c ts.length S):=h.pa 0 (by decide)
theorem GAt.base (h:GAt w B c v p ts S k):B≤w.heap.size:=Xc (h.fa.lt 0 c.G (by decide) rfl).1 (Xw (h.fa.lt 0 c.G (by decide) rfl).2)
theorem GAt.low (h:GAt w B c v p ts S k) {q:Nat} (hq:gbk c v q):B≤q∧q<w.heap.size:=by
 obtain⟨i,hi,hq⟩:=hq;exact h.fa.lt i q hi hq
theorem GAt.kept (h:GAt w B c v p ts S k) (hb: ∀q,gbk c v q∨q<B→w'.heap[q]? =w.heap[q]?) (hz:w.heap.size≤w'.heap.size) (ba:Bas B w'):GAt w' B c v p ts S k:=
 ⟨fun i hi=>(h.pa i hi).kept hi (fun j hj=>hb j (hj.imp (fun e=>⟨i,hi,e⟩) id)) hz,⟨fun i q hi hq=>⟨(h.fa.lt i q hi hq).1,Xb (h.fa.lt i q hi hq).2 hz⟩,h.fa.ap⟩,ba⟩
theorem GAt.below (h:GAt w B c v p ts S k) (g:Below w.heap.size w w'):GAt w' B c v p ts S k:=
 h.kept (fun q hq => g.block q (by
  rcases hq with a|a
  ·exact(h.low a).2
  ·exact Xb a h.base)) g.size (h.ba.below g)
theorem Gst.refl (h:GAt w B c v p ts S k):Gst B c v p ts S k w w:=⟨v,h,Mm.Mv.refl _ _⟩
theorem Gst.below (h:Gst B c v p ts S k w w') (g:Below w'.heap.size w' w''):Gst B c v p ts S k w w'':=by
 obtain⟨v',a,m⟩:=h;exact⟨v',a.below g,m.trans (Mm.Mv.of_below g)⟩
theorem GAt.on (h:GAt w B c v p ts S k) (g:Below w.heap.size w w'):Gst B c v p ts S k w w':=(Gst.refl h).below g
theorem Gst.trans (m:Mm.Mv (gbk c v) (gbk c v') w w') (h:Gst B c v' p ts S k w' w''):Gst B c v p ts S k w w'':=by
 obtain⟨v2,a,m2⟩:=h;exact⟨v2,a,m.trans m2⟩
theorem GAt.turn (i:Nat) (v':Gv) (S':WS) (k':Nat) (h:GAt w B c v p ts S k) (hi:i<7) (m:Mm.Mv (gp c v i) (gp c v' i) w w') (hn:PA w' B c v' p ts S' k' i) (ho: ∀j,j<7→j≠i→gp c v' j=gp c v j∧(PA w' B c v p ts S k j→PA w' B c v' p ts S' k' j)):Gst B c v p ts S' k' w w':=by
 have hB:=h.base;refine⟨v',⟨fun j hj=> ?_,⟨fun j q hj hq=> ?_,fun j l q hj hl hne hq hn'=> ?_⟩,?_⟩,m.os,m.tape,m.output,m.size,fun q hq hn'=>m.block q hq (fun e=>hn' ⟨i,hi,e⟩),fun q hq=> ?_⟩
 ·by_cases e:j=i
  ·subst e;exact hn
  ·refine(ho j hj e).2 ((h.pa j hj).kept hj (fun q hq=> ?_) m.size);rcases hq with a|a
   ·exact h.fa.keep hi m hj e q a
   ·exact m.block q (Xb a hB) (fun b=>by have:=(h.fa.lt i q hi b).1;omega)
 ·by_cases e:j=i
  ·subst e;refine⟨?_,hn.lt hj hq⟩;rcases m.loc q hq with a|a
   ·exact(h.fa.lt j q hj a).1
   ·exact Xc hB a
  ·rw [(ho j hj e).1]at hq;exact⟨(h.fa.lt j q hj hq).1,Xb (h.fa.lt j q hj hq).2 m.size⟩
 ·by_cases ej:j=i
  ·subst ej;rw [(ho l hl hne.symm).1]at hn';rcases m.loc q hq with a|a
   ·exact h.fa.ap j l q hj hl hne a hn'
   ·have:=(h.fa.lt l q hl hn').2;omega
  ·rw [(ho j hj ej).1]at hq;by_cases el:l=i
   ·subst el;rcases m.loc q hn' with a|a
    ·exact h.fa.ap j l q hj hl hne hq a
    ·have:=(h.fa.lt j q hj hq).2;omega
   ·rw [(ho l hl el).1]at hn';exact h.fa.ap j l q hj hl hne hq hn'
 ·exact h.ba.mv (fun q hq=>(h.fa.lt i q hi hq).1) m
 ·obtain⟨j,hj,e⟩:=hq;by_cases ej:j=i
  ·subst ej;exact(m.loc q e).imp (fun a=>⟨j,hj,a⟩) id
  ·rw [(ho j hj ej).1]at e;exact Or.inl ⟨j,hj,e⟩
theorem six {A:Nat→Prop} (h0:A 0) (h1:A 1) (h2:A 2) (h3:A 3) (h4:A 4) (h5:A 5) (h6:A 6): ∀j,j<7→A j:=by
 intro j hj;rcases(by omega:j=0∨j=1∨j=2∨j=3∨j=4∨j=5∨j=6)with rfl|rfl|rfl|rfl|rfl|rfl|rfl<;>assumption
theorem mv_que {v v':Value} (t:Que.Turn r Q v v' w w'):Mm.Mv (fun k=>k=Q∨v.ownBlock=some k) (fun k=>k=Q∨v'.ownBlock=some k) w w':=
 ⟨t.os, t.tape, t.output, t.size, fun k hk hn => t.block k hk (fun e => hn (Or.inl e)) (fun e => hn (Or.inr e.symm)), fun k hk => by
  rcases hk with a|a
  ·exact Or.inl (Or.inl a)
  ·exact(t.loc k a).imp Or.inr id⟩
theorem mv_rec {v v':Value} (t:Rec.Turn r Q v v' w w'):Mm.Mv (fun k=>k=Q∨v.ownBlock=some k) (fun k=>k=Q∨v'.ownBlock=some k) w w':=
 ⟨t.os, t.tape, t.output, t.size, fun k hk hn => t.block k hk (fun e => hn (Or.inl e)) (fun e => hn (Or.inr e.symm)), fun k hk => by
  rcases hk with a|a
  ·exact Or.inl (Or.inl a)
  ·exact(t.loc k a).imp Or.inr id⟩
theorem GAt.watch (h:GAt w B c v p ts S k) {s:Lp} {st:Stb.St} {vw vm:Value} {C:Stb.Cm} (hw:Wat.WAt w' B ⟨c.D,c.Z,c.vF,vw,vm⟩ p c.ta c.tc ts s C) (hs:Stb.Sim st C) (hc:Stb.CFit C k') (m:Wat.WStep (wx c v) ⟨c.D,c.Z,c.vF,vw,vm⟩ w w'):Gst B c v p ts { S with lp:=s,st:=st } k' w w':=
 h.turn 1 { v with w:=vw,m:=vm } _ k' (by decide) ⟨m.os,m.tape,m.output,m.size,m.block,m.loc⟩ ⟨C,hw,hs,hc⟩ (six (fun _=>⟨rfl,id⟩) (fun e=>absurd rfl e) (fun _=>⟨rfl,id⟩) (fun _=>⟨rfl,id⟩) (fun _=>⟨rfl,id⟩) (fun _=>⟨rfl,id⟩) (fun _=>⟨rfl,id⟩))
theorem GAt.board (h:GAt w B c v p ts S k) {E O:Nat→Int} (hq:Top.BoardAt w' c.T c.P c.O S.n E O) {g:Nat} (hg:g=c.P∨g=c.O) (o:Top.Only g w w'):Gst B c v p ts { S with E:=E,O:=O } k w w':=
 h.turn 2 v _ k (by decide) ⟨o.os,o.tape,o.output,Nat.le_of_eq o.size.symm,fun q _ hn=>o.block q (fun e=>hn (by rcases hg with a|a;exact Or.inr (Or.inl (e.trans a));exact Or.inr (Or.inr (e.trans a)))),fun _ a=>Or.inl a⟩ hq (six (fun _=>⟨rfl,id⟩) (fun _=>⟨rfl,id⟩) (fun e=>absurd rfl e) (fun _=>⟨rfl,id⟩) (fun _=>⟨rfl,id⟩) (fun _=>⟨rfl,id⟩) (fun _=>⟨rfl,id⟩))
theorem GAt.line (h:GAt w B c v p ts S k) {u:Value} {l:Int} {L:List Que.M} (hq:Que.QAt w' 128 B c.Q 1 0 l u L) (t:Que.Turn Que.rL c.Q v.q u w w'):Gst B c v p ts { S with ql:=l,qL:=L } k w w':=
 h.turn 3 { v with q:=u } _ k (by decide) (mv_que t) hq (six (fun _=>⟨rfl,id⟩) (fun _=>⟨rfl,id⟩) (fun _=>⟨rfl,id⟩) (fun e=>absurd rfl e) (fun _=>⟨rfl,id⟩) (fun _=>⟨rfl,id⟩) (fun _=>⟨rfl,id⟩))
theorem GAt.crew (h:GAt w B c v p ts S k) {u:Value} {F:Flt.FS} (hq:Flt.DAt w' B c.F u F) (t:Rec.Turn Flt.rD c.F v.f u w w'):Gst B c v p ts { S with F:=F } k w w':=
 h.turn 4 { v with f:=u } _ k (by decide) (mv_rec t) hq (six (fun _=>⟨rfl,id⟩) (fun _=>⟨rfl,id⟩) (fun _=>⟨rfl,id⟩) (fun _=>⟨rfl,id⟩) (fun e=>absurd rfl e) (fun _=>⟨rfl,id⟩) (fun _=>⟨rfl,id⟩))
theorem GAt.hall (h:GAt w B c v p ts S k) {u:Value} {R:List Buf.Rq} (hq:Hal.HAt w' B c.H u R) (t:Rec.Turn Hal.rB c.H v.b u w w'):Gst B c v p ts { S with R:=R } k w w':=
 h.turn 5 { v with b:=u } _ k (by decide) (mv_rec t) hq (six (fun _=>⟨rfl,id⟩) (fun _=>⟨rfl,id⟩) (fun _=>⟨rfl,id⟩) (fun _=>⟨rfl,id⟩) (fun _=>⟨rfl,id⟩) (fun e=>absurd rfl e) (fun _=>⟨rfl,id⟩))
theorem GAt.fails (h:GAt w B c v p ts S k) (a:Nat) (b:Bool):Gst B c v p ts { S with fl:=S.fl.set a b } k w (w.setCell ⟨c.K,a,none⟩ (.bool b)):=
 h.turn 6 v _ k (by decide) (Mm.Mv.set (b:=gp c v 6) rfl _) (by have:=ClAt.set (h.pa 6 (by decide)) a (.bool b);rw [←List.map_set]at this;exact this) (six (fun _=>⟨rfl,id⟩) (fun _=>⟨rfl,id⟩) (fun _=>⟨rfl,id⟩) (fun _=>⟨rfl,id⟩) (fun _=>⟨rfl,id⟩) (fun _=>⟨rfl,id⟩) (fun e=>absurd rfl e))
theorem GAt.clock (h:GAt w B c v p ts S k) (n:Int):Gst B c v p ts { S with now:=n } k w (w.setCell ⟨c.G,7,none⟩ (.int .i64 n)):=
 h.turn 0 v _ k (by decide) (Mm.Mv.set (b:=gp c v 0) rfl _) (h.cells.set 7 _) (six (fun e=>absurd rfl e) (fun _=>⟨rfl,id⟩) (fun _=>⟨rfl,id⟩) (fun _=>⟨rfl,id⟩) (fun _=>⟨rfl,id⟩) (fun _=>⟨rfl,id⟩) (fun _=>⟨rfl,id⟩))
theorem GAt.target (h:GAt w B c v p ts S k) (n:Int):Gst B c v p ts { S with tg:=n } k w (w.setCell ⟨c.G,8,none⟩ (.int .i64 n)):=
 h.turn 0 v _ k (by decide) (Mm.Mv.set (b:=gp c v 0) rfl _) (h.cells.set 8 _) (six (fun e=>absurd rfl e) (fun _=>⟨rfl,id⟩) (fun _=>⟨rfl,id⟩) (fun _=>⟨rfl,id⟩) (fun _=>⟨rfl,id⟩) (fun _=>⟨rfl,id⟩) (fun _=>⟨rfl,id⟩))
end

structure Re where
 f:Bool
 a:Option Addr
 n:Nat
 c:Nat
def rdC (x:Re):List Value:=[.bool x.f,.slice x.a x.n x.c]
def fv (c:Gc) (v:Gv) (r:Value) (q:Nat):Prop:=gbk c v q∨r.ownBlock=some q
structure RgR (B:Nat) (c:Gc) (v:Gv) (p:Pd) (ts:List Tr) (S:WS) (k:Nat) (w:World) (j:Nat) (r:Value) (wr:World) (v1:Gv) (L:List Re):Prop where
 a:GAt wr B c v1 p ts (readK S ts j) k
 m:Mm.Mv (gbk c v) (fv c v1 r) w wr
 own:wr.ownsRow w.heap.size 149 2 r j (Rw.cels rdC L)
 gn: ∀g,r.ownBlock=some g→ ¬gbk c v1 g
 ln:L.length=j
 rd: ∀i x,i<j→(rdsW ts S)[i]? =some x→ ∃e,L[i]? =some e∧e.f=x.f∧e.n=x.n∧x.n≤20∧IntsO wr e.a x.n x.X (fv c v1 r)
def RgL (B:Nat) (c:Gc) (v:Gv) (p:Pd) (ts:List Tr) (S:WS) (k:Nat) (w:World) (r i:Value) (wr:World):Prop:= ∃(j:Nat) (v1:Gv) (L:List Re),j≤ts.length∧i=.int .i64 j∧RgR B c v p ts S k w j r wr v1 L
section
variable {B : Nat} {c : Gc} {v v1 v2 : Gv} {p : Pd} {ts : List Tr} {S : WS} {k : Nat} {w wr w3 w4 wy : World} {j : Nat} {u u' : Value} {L : List Re} {b b' d d' : Nat → Prop}
theorem GAt.beside (h:GAt wr B c v p ts S k) (m:Mm.Mv d d' wr wy) (hd: ∀q,d q→B≤q∧ ¬gbk c v q):GAt wy B c v p ts S k:=
 h.kept (fun q hq => m.block q (by
  rcases hq with a|a
  ·exact(h.low a).2
  ·exact Xb a h.base) (fun e => by
  rcases hq with a|a
  ·exact(hd q e).2 a
  ·have:=(hd q e).1;omega)) m.size (h.ba.mv (fun q hq=>(hd q hq).1) m)
theorem GAt.more {l:Nat} (h:GAt w B c v p ts S k) (hk:k≤l):GAt w B c v p ts S l:=
 ⟨six (h.pa 0 (by decide)) (by
  obtain⟨C,x,y,z⟩:=h.pa 1 (by decide)
  exact⟨C,x,y,⟨z.u,z.d,z.last,z.ws,z.ms,Xc z.wl hk,Xc z.ml hk⟩⟩) (h.pa 2 (by decide)) (h.pa 3 (by decide)) (h.pa 4 (by decide)) (h.pa 5 (by decide)) (h.pa 6 (by decide)),h.fa,h.ba⟩
theorem RgR.zero (h:GAt w B c v p ts S k):RgR B c v p ts S k w 0 (.slice none 0 0) w v []:=
 ⟨by rw [readK_zero]; exact h, ⟨rfl, rfl, rfl, Xa _, fun _ _ _ => rfl, fun q hq => by
  rcases hq with a|a
  ·exact Or.inl a
  ·cases a⟩,XO _ _ _ _,fun g e=>(by cases e),rfl,fun i r hi=>absurd hi (by omega)⟩
theorem RgR.next {t:Tr} {f:Bool} {la:Option Addr} {lc:Nat} {o:Obj} (h:RgR B c v p ts S k w j u wr v1 L) (hB:B≤w.heap.size) (ht:ts[j]? =some t) (hf:S.fl[j]? =some f)
  (a3:GAt w3 B c v2 p ts (readT (readK S ts j) t) k) (m3:Mm.Mv (gbk c v1) (gbk c v2) wr w3) (hn:(rdOf (readK S ts j) t false).n≤20) (hX:IntsO w3 la (rdOf (readK S ts j) t false).n (rdOf (readK S ts j) t false).X (gbk c v2)) (hl: ∀g o,0<(rdOf (readK S ts j) t false).n→la=some ⟨g,o,none⟩→wr.heap.size≤g)
  (hown:w4.ownsRow w.heap.size 149 2 u' (j+1) (Rw.cels rdC L++ [.bool f,.slice la (rdOf (readK S ts j) t false).n lc])) (hg:(w3.alloc o).grownBy w4 u.ownBlock) (hv:u'.ownBlock=u.ownBlock∨u'.ownBlock=some (w3.alloc o).heap.size):
  RgR B c v p ts S k w (j+1) u' w4 v2 (L++ [⟨f,la,(rdOf (readK S ts j) t false).n,lc⟩]):=by
 obtain⟨e1,e2,e3⟩:=rdOf_readK S ts j t f;rw [readK_step ht]at a3;have hvlo: ∀q,u.ownBlock=some q→w.heap.size≤q∧q<wr.heap.size:=fun q hq=>h.own.lt q hq;have hz:w3.heap.size≤(w3.alloc o).heap.size:=by simp
 -- the row is grown: nothing else turns
 have mg:Mm.Mv (fun q=>u.ownBlock=some q) (fun q=>u'.ownBlock=some q) w3 w4:=by
  refine⟨hg.os,hg.tape,hg.output,Xc hz hg.size,fun q hq hn=> ?_,fun q hq=> ?_⟩
  ·exact(hg.block q (Xb hq hz) (fun e=>hn e.symm)).trans (Below.heap_alloc w3 o q hq)
  ·rcases hv with e|e
   ·exact Or.inl (e▸hq)
   ·rw [e]at hq;cases hq;exact Or.inr hz
 have gn2: ∀g,u.ownBlock=some g→ ¬gbk c v2 g:=fun g hg=>m3.off (hvlo g hg).2 (h.gn g hg)
 have m13 : Mm.Mv (fv c v1 u) (fv c v2 u) wr w3 := ⟨m3.os, m3.tape, m3.output, m3.size, fun q hq hn => m3.block q hq (fun e => hn (Or.inl e)), fun q hq => by
  rcases hq with a|a
  ·exact(m3.loc q a).imp Or.inl id
  ·exact Or.inl (Or.inr a)⟩
 have m34 : Mm.Mv (fv c v2 u) (fv c v2 u') w3 w4 := ⟨mg.os, mg.tape, mg.output, mg.size, fun q hq hn => mg.block q hq (fun e => hn (Or.inr e)), fun q hq => by
  rcases hq with a|a
  ·exact Or.inl (Or.inl a)
  ·exact(mg.loc q a).imp Or.inr id⟩
 have m14:=m13.trans m34;refine⟨a3.beside mg (fun q hq=>⟨Xc hB (hvlo q hq).1,gn2 q hq⟩),h.m.trans m14,?_,fun g hg'=> ?_,by rw [Xg,h.ln];rfl,fun i r hi hr=> ?_⟩
 ·rw [Rw.cels_append];exact hown
 ·rcases mg.loc g hg' with a|a
  ·exact gn2 g a
  ·exact fun e=>by have:=(a3.low e).2;omega
 ·by_cases x:i=j
  ·subst x;have er:r=rdOf S t f:=by
    have:(rdsW ts S)[i]? =some (rdOf S t f):=by
     unfold rdsW;rw [List.getElem?_zipWith,ht,hf]
    rw [this]at hr;cases hr;rfl
   subst er;refine⟨⟨f,la,(rdOf (readK S ts i) t false).n,lc⟩,by have:=List.getElem?_concat_length (l:=L) (a:=(⟨f,la,(rdOf (readK S ts i) t false).n,lc⟩:Re));rw [h.ln]at this;exact this,e3.symm,e1,by rw [←e1];exact hn,?_⟩;rw [e1,e2]at hX;rw [e1]at hl
   have hXv : IntsO w3 la (rdOf S t f).n (rdOf S t f).X (fv c v2 u) := ⟨hX.1, fun g o hp e hq => by
    rcases hq with a|a
    ·exact hX.2 g o hp e a
    ·have:=hl g o hp e;have:=(hvlo g a).2;omega⟩
   exact hXv.mv m34
  ·obtain⟨e,b1,b2,b3,b4,b5⟩:=h.rd i r (by omega) hr;exact⟨e,by rw [XY (by rw [h.ln];omega)];exact b1,b2,b3,b4,b5.mv m14⟩
theorem RgR.rds (h:RgR B c v p ts S k w ts.length u wr v1 L) (hl:(rdsW ts S).length=ts.length) (m:Mm.Mv b b' wr wy) (hb: ∀q,b q→gbk c v1 q): ∃ra rc,u=.slice ra ts.length rc∧RdsAt wy ra (rdsW ts S):=by
 rcases h.own.2 with⟨a,b0⟩|⟨g,cap,cur,a,_,hgb,c0,c2,c3,c4⟩
 ·refine⟨none,0,by rw [a,b0],fun i r hr=> ?_⟩;have:=(Xe.1 hr).1;omega
 ·have hgv:u.ownBlock=some g:=by rw [a];rfl
  have hng: ¬b g:=fun e=>h.gn g hgv (hb g e);refine⟨some ⟨g,0,none⟩,cap,a,fun i r hr=> ?_⟩;have hi:i<ts.length:=by have:=(Xe.1 hr).1;omega
  obtain⟨e,b1,b2,b3,b4,b5⟩:=h.rd i r hi hr;have hcl: ∀q u,(rdC e)[q]? =some u→wr.cell? ⟨g,i*2+q,none⟩=some u:=fun q u hu=>by
   have hq:q<2:=(Xe.1 hu).1;have ho:=h.own;rw [a]at ho;rw [ho.cellAt (i*2+q) (by omega)];rw [Rw.cels_get (c:=rdC) (s:=2) (fun _=>rfl) L i q e b1 hq];exact hu
  refine⟨g,0,e.a,e.c,rfl,Xb (h.own.lt g hgv).2 m.size,?_,?_,by unfold maxLen;omega,fun q hq=> ?_⟩
  ·rw [Xv,←b2];exact m.cell (hcl 0 _ rfl) hng
  ·rw [Xv,←b3];exact m.cell (hcl 1 _ rfl) hng
  ·obtain⟨g',o,e',hlt,hc,hx⟩:=b5.1 q hq;exact⟨g',o,e',Xb hlt m.size,m.cell hc (fun x=>b5.2 g' o (by omega) e' (Or.inl (hb g' x))),hx⟩
end
structure RgP (B:Nat) (c:Gc) (v:Gv) (p:Pd) (ts:List Tr) (S:WS) (k:Nat) (w:World) (j:Nat) (u:Value) (wr:World) (v1:Gv) (L:List Re) (t:Tr) (f:Bool) (v2:Gv) (C:Nat) (la:Option Addr) (nn lc:Nat) (wy:World):Prop where
 h:RgR B c v p ts S k w j u wr v1 L
 a:GAt wy B c v2 p ts (readT (readK S ts j) t) k
 m:Mm.Mv (gbk c v1) (gbk c v2) wr wy
 e:(rdOf (readK S ts j) t false).n=nn
 n:nn≤20
 x:IntsO wy la nn (rdOf (readK S ts j) t false).X (gbk c v2)
 l: ∀g o,0<nn→la=some ⟨g,o,none⟩→wr.heap.size≤g
 c0:wy.cell? ⟨C,0,none⟩=some (.bool f)
 c1:wy.cell? ⟨C,1,none⟩=some (.slice la nn lc)
section
variable {B : Nat} {c : Gc} {v v1 v2 : Gv} {p : Pd} {ts : List Tr} {S : WS} {k : Nat} {w wr w5 w4 wy W1 : World} {j C nn lc : Nat} {u u' y : Value} {L : List Re} {t : Tr} {f : Bool} {la : Option Addr} {o : Obj}
theorem RgP.own (h:RgP B c v p ts S k w j u wr v1 L t f v2 C la nn lc wy):wy.ownsRow w.heap.size 149 2 u j (Rw.cels rdC L):=
 Rec.owns_block h.h.own (fun g hg=>h.m.block g (h.h.own.lt g hg).2 (h.h.gn g hg))
theorem RgP.next (h:RgP B c v p ts S k w j u wr v1 L t f v2 C la nn lc wy) (hB:B≤w.heap.size) (ht:ts[j]? =some t) (hf:S.fl[j]? =some f)
  (hown:w4.ownsRow w.heap.size 149 2 u' (j+1) (Rw.cels rdC L++ [.bool f,.slice la nn lc])) (hg:(wy.alloc o).grownBy w4 u.ownBlock) (hv:u'.ownBlock=u.ownBlock∨u'.ownBlock=some (wy.alloc o).heap.size):RgL B c v p ts S k w u' (.int .i64 ((j+1:Nat):Int)) w4:=by
 obtain⟨h,a,m,rfl,n,x,l,_,_⟩:=h;exact⟨j+1,v2,_,(Xe.1 ht).1,rfl,h.next hB ht hf a m n x l hown hg hv⟩
theorem RgP.span (h:RgR B c v p ts S k w j u wr v1 L) (hW:Below wr.heap.size wr W1) (h1:t.k≠1) (h2:t.k≠2) (c0:W1.cell? ⟨C,0,none⟩=some (.bool f)) (c1:W1.cell? ⟨C,1,none⟩=some (.slice none 0 0)):RgP B c v p ts S k w j u wr v1 L t f v1 C none 0 0 W1:=by
 have er:rdOf (readK S ts j) t false=⟨false,0,fun _=>0⟩:=by unfold rdOf;rw [if_neg h1,if_neg h2]
 have es:readT (readK S ts j) t=readK S ts j:=by unfold readT;rw [if_neg h2]
 refine⟨h,by rw [es];exact h.a.below hW,Mm.Mv.of_below hW,by rw [er],by omega,⟨fun i hi=>absurd hi (by omega),fun g o hn=>absurd hn (by omega)⟩,fun g o hn=>absurd hn (by omega),c0,c1⟩
theorem RgP.of (h:RgR B c v p ts S k w j u wr v1 L) (hW:Below wr.heap.size wr W1) (hC:wr.heap.size<W1.heap.size) (c0:W1.cell? ⟨wr.heap.size,0,none⟩=some (.bool f)) (c1:W1.cell? ⟨wr.heap.size,1,none⟩=some y) (a5:GAt w5 B c v2 p ts (readT (readK S ts j) t) k) (m5:Mm.Mv (gbk c v1) (gbk c v2) W1 w5)
  (e:(rdOf (readK S ts j) t false).n=nn) (n:nn≤20) (x:IntsO w5 la nn (rdOf (readK S ts j) t false).X (gbk c v2)) (l: ∀g o,0<nn→la=some ⟨g,o,none⟩→W1.heap.size≤g):RgP B c v p ts S k w j u wr v1 L t f v2 wr.heap.size la nn lc (w5.setCell ⟨wr.heap.size,1,none⟩ (.slice la nn lc)):=by
 have hB:=h.a.base;have hn1: ¬gbk c v1 wr.heap.size:=fun e=>absurd (h.a.low e).2 (XL _);have hn2: ¬gbk c v2 wr.heap.size:=m5.off hC hn1;have ms:Mm.Mv (fun q=>q=wr.heap.size) (fun q=>q=wr.heap.size) w5 (w5.setCell ⟨wr.heap.size,1,none⟩ (.slice la nn lc)):=Mm.Mv.set (b:=fun q=>q=wr.heap.size) rfl _;refine⟨h,a5.beside ms (fun q hq=>by subst hq;exact⟨hB,hn2⟩),mv_put ((Mm.Mv.of_below hW).trans m5) (Xa _),e,n,x.put (fun g o hp e=>by have:=l g o hp e;omega),fun g o hp e=>Xc hW.size (l g o hp e),?_,Xn _ _ _ (m5.cell c1 hn1)⟩;rw [Xd (h:=fun e=>by have:=congrArg Addr.off e;simp at this)];exact m5.cell c0 hn1
end
