/- A part. -/
import Derived.Test.YthiapcajheepbaaGreatDoorPwNumPlain
import Derived.Maps.AppendAt
import Derived.Deep.Quiet
set_option linter.all false
open Go.Proofs.Tryz
namespace Go.Proofs.YthiapcajheepbaaGreatDoor
namespace Que
open Go.RowKit
variable {xs:List Value} {o:Obj} {g cap i:Nat} {m:M}

structure QAt (w:World) (e:TypeId) (B Q oN oS:Nat) (last:Int) (v:Value) (L:List M):Prop where
 lt:Q<w.heap.size
 bQ:B≤Q
 cN:w.cell? ⟨Q,oN,none⟩=some (.int .i64 last)
 cS:w.cell? ⟨Q,oS,none⟩=some v
 fz: ∀j,w.frozen? ⟨Q,j,none⟩=false
 own:w.ownsRow B e 3 v L.length (cels L)
 ne:v.ownBlock≠some Q

abbrev rQ:Nat→Prop:=fun j=>44≤j∧j<46
abbrev rL:Nat→Prop:=fun _=>True
structure Turn (r:Nat→Prop) (Q:Nat) (v v':Value) (w w':World):Prop where
 os:w'.os=w.os
 tape:w'.tape=w.tape
 output:w'.output=w.output
 size:w.heap.size≤w'.heap.size
 block: ∀k,k<w.heap.size→k≠Q→some k≠v.ownBlock→w'.heap[k]? =w.heap[k]?
 loc: ∀g,v'.ownBlock=some g→v.ownBlock=some g∨w.heap.size≤g
 rest:Q<w.heap.size→v.ownBlock≠some Q→ ∀j,¬r j→w'.cell? ⟨Q,j,none⟩=w.cell? ⟨Q,j,none⟩

section
variable {r : Nat → Prop} {w w' w'' : World} {e : TypeId} {B Q oN oS : Nat} {last : Int} {v v' v'' : Value} {L L' : List M}

theorem Turn.refl (Q:Nat) (v:Value) (w:World):Turn r Q v v w w:=⟨rfl,rfl,rfl,Xa _,fun _ _ _ _=>rfl,fun _ h=>Or.inl h,fun _ _ _ _=>rfl⟩
theorem Turn.trans (h:Turn r Q v v' w w') (g:Turn r Q v' v'' w' w''):Turn r Q v v'' w w'':=by
 refine⟨g.os.trans h.os,g.tape.trans h.tape,g.output.trans h.output,Xc h.size g.size,fun k hk hQ hv=> ?_,fun x hx=> ?_,fun hQ hv j hj=> ?_⟩
 ·refine(g.block k (Xb hk h.size) hQ (fun e=> ?_)).trans (h.block k hk hQ hv);rcases h.loc k e.symm with a|a
  ·exact hv a.symm
  ·omega
 ·rcases g.loc x hx with a|a
  ·exact h.loc x a
  ·exact Or.inr (Xc h.size a)
 ·refine(g.rest (Xb hQ h.size) (fun e=> ?_) j hj).trans (h.rest hQ hv j hj);rcases h.loc Q e with a|a
  ·exact hv a
  ·omega
theorem Turn.below (h:Turn r Q v v' w w') (hQ:B≤Q) (hv: ∀g,v.ownBlock=some g→B≤g) (hB:B≤w.heap.size):Below B w w':=
 ⟨h.os,h.tape,h.output,h.size,fun k hk=>h.block k (by omega) (by omega) (fun e=>by have:=hv k e.symm;omega)⟩
theorem Turn.drew (h:Turn r Q v v' w w'):Turn r Q v v' w w'.drew:=⟨h.os,h.tape,h.output,h.size,h.block,h.loc,h.rest⟩
theorem Turn.drewN (h:Turn r Q v v' w w') (q:Nat):Turn r Q v v' w (w'.drewN q):=⟨h.os,h.tape,h.output,h.size,h.block,h.loc,h.rest⟩
theorem Turn.alloc (h:Turn r Q v v' w w') (o:Obj):Turn r Q v v' w (w'.alloc o):=
 ⟨h.os,h.tape,h.output,Xc h.size (by simp),fun k hk hQ hv=>(Below.heap_alloc w' o k (Xb hk h.size)).trans (h.block k hk hQ hv),h.loc,fun hQ hv j hj=>(Xf (w:=w') (a:=⟨Q,j,none⟩) (Below.heap_alloc w' o Q (Xb hQ h.size))).trans (h.rest hQ hv j hj)⟩
theorem Turn.of_below (g:Below w.heap.size w w'):Turn r Q v v w w':=⟨g.os,g.tape,g.output,g.size,fun k hk _ _=>g.block k hk,fun _ h=>Or.inl h,fun hQ _ j _=>Xf (w:=w) (a:=⟨Q,j,none⟩) (g.block Q hQ)⟩
theorem Turn.of_grown (hg:w.grownBy w' v.ownBlock) (hl:v'.ownBlock=v.ownBlock∨ ∃g,v'.ownBlock=some g∧w.heap.size≤g):Turn r Q v v' w w':=by
 refine⟨hg.os,hg.tape,hg.output,hg.size,fun k hk _ hv=>hg.block k hk hv,fun g h=> ?_,fun hQ hv j _=>Xf (w:=w) (a:=⟨Q,j,none⟩) (hg.block Q hQ (fun e=>hv e.symm))⟩;rcases hl with e|⟨x,hx,hl⟩
 ·exact Or.inl (e▸h)
 ·rw [hx]at h;cases h;exact Or.inr hl
theorem Turn.setQ (j:Nat) (u:Value) (hr:r j:=by decide):Turn r Q v v w (w.setCell ⟨Q,j,none⟩ u):=
 ⟨rfl,rfl,rfl,by simp,fun k _ hQ _=>Below.heap_setCell w ⟨Q,j,none⟩ u k hQ,fun _ h=>Or.inl h,fun _ _ i hi=>Xd _ _ _ _ (fun e=>hi (by have:j=i:=congrArg Addr.off e;rwa [←this]))⟩
theorem Turn.setRow (j:Nat) (u:Value) (h:Turn r Q v v' w w') (hr:r j:=by decide):Turn r Q v v' w (w'.setCell ⟨Q,j,none⟩ u):=h.trans (Turn.setQ j u hr)

theorem QAt.rowB (h:QAt w e B Q oN oS last v L): ∀g,v.ownBlock=some g→B≤g:=fun g hg=>(h.own.lt g hg).1
theorem QAt.rowLt (h:QAt w e B Q oN oS last v L): ∀g,v.ownBlock=some g→g<w.heap.size:=fun g hg=>(h.own.lt g hg).2
theorem owns_block {n:Nat} (h:w.ownsRow B e 3 v n xs) (hb: ∀g,v.ownBlock=some g→w'.heap[g]? =w.heap[g]?):w'.ownsRow B e 3 v n xs:=by
 refine⟨h.1,?_⟩;rcases h.2 with a|⟨g,cap,cur,rfl,h1,h2,h3⟩
 ·exact Or.inl a
 ·exact Or.inr ⟨g,cap,cur,rfl,h1,(hb g rfl).trans h2,h3⟩
theorem QAt.kept (h:QAt w e B Q oN oS last v L) (hQ:w'.heap[Q]? =w.heap[Q]?) (hb: ∀g,v.ownBlock=some g→w'.heap[g]? =w.heap[g]?):QAt w' e B Q oN oS last v L:=by
 refine⟨?_,h.bQ,(Xf (w:=w) (a:=⟨Q,oN,none⟩) hQ).trans h.cN,(Xf (w:=w) (a:=⟨Q,oS,none⟩) hQ).trans h.cS,fun j=>(Xl (w:=w) (a:=⟨Q,j,none⟩) hQ).trans (h.fz j),owns_block h.own hb,h.ne⟩;have:=h.lt;rw [X7 this]at hQ;exact(XM.1 hQ).1
theorem QAt.sib (h:QAt w e B Q oN oS last v L) (hz:Q<w'.heap.size) (hf: ∀j,w'.frozen? ⟨Q,j,none⟩=false) (hN:w'.cell? ⟨Q,oN,none⟩=w.cell? ⟨Q,oN,none⟩) (hS:w'.cell? ⟨Q,oS,none⟩=w.cell? ⟨Q,oS,none⟩) (hb: ∀g,v.ownBlock=some g→w'.heap[g]? =w.heap[g]?):QAt w' e B Q oN oS last v L:=
 ⟨hz,h.bQ,hN.trans h.cN,hS.trans h.cS,hf,owns_block h.own hb,h.ne⟩
theorem QAt.drew (h:QAt w e B Q oN oS last v L):QAt w.drew e B Q oN oS last v L:=h.kept rfl (fun _ _=>rfl)
theorem QAt.drewN (h:QAt w e B Q oN oS last v L) (q:Nat):QAt (w.drewN q) e B Q oN oS last v L:=h.kept rfl (fun _ _=>rfl)
theorem QAt.alloc (h:QAt w e B Q oN oS last v L) (o:Obj):QAt (w.alloc o) e B Q oN oS last v L:=h.kept (Below.heap_alloc w o Q h.lt) (fun g hg=>Below.heap_alloc w o g (h.rowLt g hg))
theorem QAt.below (h:QAt w e B Q oN oS last v L) (hb:Below w.heap.size w w'):QAt w' e B Q oN oS last v L:=h.kept (hb.block Q h.lt) (fun g hg=>hb.block g (h.rowLt g hg))
theorem QAt.other {P:Nat} {u u':Value} (h:QAt w e B Q oN oS last v L) (t:Turn r P u u' w w') (h1:Q≠P) (h2:u.ownBlock≠some Q) (h3:v.ownBlock≠some P) (h4: ∀g,v.ownBlock=some g→u.ownBlock≠some g):QAt w' e B Q oN oS last v L:=
 h.kept (t.block Q h.lt h1 (fun e=>h2 e.symm)) (fun g hg=>t.block g (h.rowLt g hg) (fun e=>h3 (e▸hg)) (fun e=>h4 g hg e.symm))

theorem QAt.setN (h:QAt w e B Q oN oS last v L) (hne:oN≠oS) (x:Int):QAt (w.setCell ⟨Q,oN,none⟩ (.int .i64 x)) e B Q oN oS x v L:=by
 refine⟨by simpa using h.lt,h.bQ,Xn _ _ _ h.cN,?_,fun j=>by rw [Xi];exact h.fz j,owns_block h.own (fun g hg=>Below.heap_setCell w _ _ g (fun e=>h.ne (by rw [hg];exact congrArg some e))),h.ne⟩;rw [Xd (h:=fun e=>hne (congrArg Addr.off e))];exact h.cS
theorem QAt.setS (h:QAt w e B Q oN oS last v L) (hne:oN≠oS) (hown:w.ownsRow B e 3 v' L'.length (cels L')) (hv:v'.ownBlock≠some Q):QAt (w.setCell ⟨Q,oS,none⟩ v') e B Q oN oS last v' L':=by
 refine⟨by simpa using h.lt,h.bQ,?_,Xn _ _ _ h.cS,fun j=>by rw [Xi];exact h.fz j,owns_block hown (fun g hg=>Below.heap_setCell w _ _ g (fun e=>hv (by rw [hg];exact congrArg some e))),hv⟩;rw [Xd (h:=fun e=>hne (congrArg Addr.off e).symm)];exact h.cN
theorem QAt.regrown (h:QAt w e B Q oN oS last v L) (hne:oN≠oS) (hQ:w'.heap[Q]? =w.heap[Q]?) (hown:w'.ownsRow B e 3 v' L'.length (cels L')) (hv:v'.ownBlock≠some Q):QAt (w'.setCell ⟨Q,oS,none⟩ v') e B Q oN oS last v' L':=by
 have hlt:Q<w'.heap.size:=by
  have:=h.lt;rw [X7 this]at hQ;exact(XM.1 hQ).1
 have cN:=(Xf (w:=w) (a:=⟨Q,oN,none⟩) hQ).trans h.cN;have cS:=(Xf (w:=w) (a:=⟨Q,oS,none⟩) hQ).trans h.cS;refine⟨by simpa using hlt,h.bQ,?_,Xn _ _ _ cS,fun j=>by rw [Xi];exact(Xl (w:=w) (a:=⟨Q,j,none⟩) hQ).trans (h.fz j),owns_block hown (fun g hg=>Below.heap_setCell w' _ _ g (fun e=>hv (by rw [hg];exact congrArg some e))),hv⟩;rw [Xd (h:=fun e=>hne (congrArg Addr.off e).symm)];exact cN
theorem QAt.appended (h:QAt w e B Q oN oS last v L) (hg:(w.drew.alloc o).grownBy w' v.ownBlock):w'.heap[Q]? =w.heap[Q]? :=by
 have hl:=h.lt;refine(hg.block Q (by simp;omega) (fun e=>h.ne e.symm)).trans ?_;exact Below.heap_alloc w.drew o Q hl
theorem Turn.appended (hg:(w.drew.alloc o).grownBy w' v.ownBlock) (hl:v'.ownBlock=v.ownBlock∨v'.ownBlock=some (w.drew.alloc o).heap.size):Turn r Q v v' w w':=
 (((Turn.refl Q v w).drew).alloc o).trans (Turn.of_grown hg (hl.imp id fun e=>⟨_,e,Xa _⟩))
theorem own_off (h:QAt w e B Q oN oS last v L) (hl:v'.ownBlock=v.ownBlock∨v'.ownBlock=some (w.drew.alloc o).heap.size):v'.ownBlock≠some Q:=by
 rcases hl with e|e
 ·rw [e];exact h.ne
 ·rw [e];have:=h.lt;intro h';simp at h';omega
theorem own_succ {n:Nat} (h:w.ownsRow B e 3 v (n+1) xs): ∃g cap,v=.slice (some ⟨g,0,none⟩) (n+1) cap:=by
 rcases h.2 with⟨_,h⟩|⟨g3,cap3,_,h,_⟩
 ·omega
 ·exact⟨g3,cap3,h⟩
theorem QAt.set3 {n:Nat} (h:QAt w e B Q oN oS last (.slice (some ⟨g,0,none⟩) n cap) L) (hn:n=L.length) (hi:i<L.length) (a b:Int) (c:Bool):
  QAt (((w.setCell ⟨g,i*3,none⟩ (.int .i64 a)).setCell ⟨g,i*3+1,none⟩ (.int .i64 b)).setCell ⟨g,i*3+2,none⟩ (.bool c)) e B Q oN oS last (.slice (some ⟨g,0,none⟩) n cap) (L.set i ⟨a,b,c⟩):=by
 subst hn;have hgQ:g≠Q:=fun e=>h.ne (by rw [e];rfl);have hs:=(((h.own.stored (i*3) (.int .i64 a)).1.stored (i*3+1) (.int .i64 b)).1.stored (i*3+2) (.bool c)).1;rw [←cels_set L i a b c hi]at hs;have ne: ∀(j o:Nat),(⟨g,j,none⟩:Addr)≠⟨Q,o,none⟩:=fun j o e=>hgQ (congrArg Addr.block e);refine⟨by simpa using h.lt,h.bQ,?_,?_,fun i=>by rw [Xi,Xi,Xi];exact h.fz i,by rw [Yg];exact hs,h.ne⟩
 ·rw [Xd (h:=ne _ _),Xd (h:=ne _ _),Xd (h:=ne _ _)];exact h.cN
 ·rw [Xd (h:=ne _ _),Xd (h:=ne _ _),Xd (h:=ne _ _)];exact h.cS
theorem QAt.set2 {n:Nat} (h:QAt w e B Q oN oS last (.slice (some ⟨g,0,none⟩) n cap) L) (hn:n=L.length) (hm:L[i]? =some m) (b:Int) (c:Bool):
  QAt ((w.setCell ⟨g,i*3+2,none⟩ (.bool c)).setCell ⟨g,i*3+1,none⟩ (.int .i64 b)) e B Q oN oS last (.slice (some ⟨g,0,none⟩) n cap) (L.set i ⟨m.id,b,c⟩):=by
 subst hn;have hgQ:g≠Q:=fun e=>h.ne (by rw [e];rfl);have hs:=((h.own.stored (i*3+2) (.bool c)).1.stored (i*3+1) (.int .i64 b)).1;rw [←cels_set2 L i m b c hm]at hs;have ne: ∀(j o:Nat),(⟨g,j,none⟩:Addr)≠⟨Q,o,none⟩:=fun j o e=>hgQ (congrArg Addr.block e);refine⟨by simpa using h.lt,h.bQ,?_,?_,fun i=>by rw [Xi,Xi];exact h.fz i,by rw [Yg];exact hs,h.ne⟩
 ·rw [Xd (h:=ne _ _),Xd (h:=ne _ _)];exact h.cN
 ·rw [Xd (h:=ne _ _),Xd (h:=ne _ _)];exact h.cS
theorem Turn.setG {n:Nat} (j:Nat) (u:Value):Turn r Q (.slice (some ⟨g,0,none⟩) n cap) (.slice (some ⟨g,0,none⟩) n cap) w (w.setCell ⟨g,j,none⟩ u):=
 ⟨rfl,rfl,rfl,by simp,fun k _ _ hv=>Below.heap_setCell w ⟨g,j,none⟩ u k (fun e=>hv (by rw [e];rfl)),fun _ h=>Or.inl h,fun _ hv i _=>Xd _ _ _ _ (fun e=>hv (by have:g=Q:=congrArg Addr.block e;rw [this];rfl))⟩
theorem QAt.form (h:QAt w e B Q oN oS last v L): ∃ao cap,v=.slice ao L.length cap∧L.length≤cap∧cap≤maxLen∧(0<L.length→ ∃g,ao=some ⟨g,0,none⟩):=by
 rcases h.own.2 with⟨a,b⟩|⟨g,cap,cur,a,_,_,b,c,_⟩
 ·exact⟨none,0,by rw [a,b],by omega,by unfold maxLen;omega,fun h=>absurd h (by omega)⟩
 ·exact⟨some ⟨g,0,none⟩,cap,a,b,c,fun _=>⟨g,rfl⟩⟩
theorem QAt.cells {n:Nat} (h:QAt w e B Q oN oS last (.slice (some ⟨g,0,none⟩) n cap) L) (hn:n=L.length) (hm:L[i]? =some m):
  w.cell? ⟨g,i*3,none⟩=some (.int .i64 m.id)∧w.cell? ⟨g,i*3+1,none⟩=some (.int .i64 m.till)∧w.cell? ⟨g,i*3+2,none⟩=some (.bool m.tk)∧ ∀j,w.frozen? ⟨g,j,none⟩=false:=by
 subst hn;have hi:i<L.length:=(Xe.1 hm).1;obtain⟨a,b,c⟩:=cels_get L i m hm;refine⟨?_,?_,?_,fun j=>h.own.frozenAt j⟩
 ·rw [h.own.cellAt _ (by omega)];exact a
 ·rw [h.own.cellAt _ (by omega)];exact b
 ·rw [h.own.cellAt _ (by omega)];exact c
end
