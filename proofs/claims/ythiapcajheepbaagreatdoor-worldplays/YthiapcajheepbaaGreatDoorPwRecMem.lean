/- A part. -/
import Derived.Test.YthiapcajheepbaaGreatDoorPwRowMem
import Derived.Maps.AppendAt
import Derived.Deep.Quiet
set_option linter.all false
open Go.Proofs.Tryz
namespace Go.Proofs.YthiapcajheepbaaGreatDoor
namespace Rec
open Go.RowKit Rw
variable {g cap s i:Nat} {o:Obj} {xs:List Value} {ao:Option Addr} {ops:Array Oper} {a:Act} {E:Prop}

structure Kd (α:Type) where
 c:α→List Value
 s:Nat
 len: ∀m,(c m).length=s
 one: ∀m u,u∈c m→u.oneCell'=true
 pos:0<s

section plain
variable {α : Type} (K : Kd α)
theorem cels_one (L:List α): ∀u∈cels K.c L,u.oneCell'=true:=by
 induction L with
 |nil=>intro u hu;cases hu
 |cons m L ih=>
  intro u hu;rcases Xp.1 hu with h|h
  ·exact K.one m u h
  ·exact ih u h
theorem cels_set (L:List α) (i j:Nat) (m m':α) (u:Value) (hm:L[i]? =some m) (hj:j<K.s) (hc:K.c m'=(K.c m).set j u):cels K.c (L.set i m')=(cels K.c L).set (i*K.s+j) u:=by
 induction L generalizing i with
 |nil=>simp at hm
 |cons x L ih=>
  cases i with
  |zero=>
   simp at hm;subst hm;simp only [ar,cels,hc,Nat.zero_mul,Xv];rw [List.set_append_left _ _ (by rw [K.len];exact hj)]
  |succ i=>
   simp only [ar,cels];rw [ih i (by simpa using hm),List.set_append_right _ _ (by rw [K.len,Nat.succ_mul];omega),K.len,show(i+1)*K.s+j-K.s=i*K.s+j by rw [Nat.succ_mul];omega]
theorem cels_erase (L:List α) (i:Nat):(cels K.c L).take (i*K.s)++(cels K.c L).drop ((i+1)*K.s)=cels K.c (L.eraseIdx i):=by
 rw [List.eraseIdx_eq_take_drop_succ,cels_append,Rw.cels_take K.len,Rw.cels_drop K.len]
end plain

structure Turn (r:Nat→Prop) (Q:Nat) (v v':Value) (w w':World):Prop where
 os:w'.os=w.os
 tape:w'.tape=w.tape
 output:w'.output=w.output
 size:w.heap.size≤w'.heap.size
 block: ∀k,k<w.heap.size→k≠Q→some k≠v.ownBlock→w'.heap[k]? =w.heap[k]?
 loc: ∀g,v'.ownBlock=some g→v.ownBlock=some g∨w.heap.size≤g
 rest:Q<w.heap.size→v.ownBlock≠some Q→ ∀j,¬r j→w'.cell? ⟨Q,j,none⟩=w.cell? ⟨Q,j,none⟩

section
variable {r : Nat → Prop} {w w' w'' : World} {B Q : Nat} {v v' v'' : Value}
theorem Turn.refl (Q:Nat) (v:Value) (w:World):Turn r Q v v w w:=⟨rfl,rfl,rfl,Xa _,fun _ _ _ _=>rfl,fun _ h=>Or.inl h,fun _ _ _ _=>rfl⟩
theorem Turn.trans (h:Turn r Q v v' w w') (g:Turn r Q v' v'' w' w''):Turn r Q v v'' w w'':=by
 refine⟨g.os.trans h.os,g.tape.trans h.tape,g.output.trans h.output,Xc h.size g.size,fun k hk hQ hv=> ?_,fun x hx=> ?_,fun hQ hv j hj=> ?_⟩
 ·refine(g.block k (Xb hk h.size) hQ (fun e=> ?_)).trans (h.block k hk hQ hv);rcases h.loc k e.symm with a|a
  ·exact hv a.symm
  ·omega
 ·rcases g.loc x hx with a|a
  ·exact h.loc x a
  ·exact Or.inr (Xc h.size a)
 ·refine(g.rest (Xb hQ h.size) (fun e=> ?_) j hj).trans (h.rest hQ hv j hj);rcases h.loc Q e with a|a
  ·exact hv a
  ·omega
theorem Turn.below (h:Turn r Q v v' w w') (hQ:B≤Q) (hv: ∀g,v.ownBlock=some g→B≤g) (hB:B≤w.heap.size):Below B w w':=
 ⟨h.os,h.tape,h.output,h.size,fun k hk=>h.block k (by omega) (by omega) (fun e=>by have:=hv k e.symm;omega)⟩
theorem Turn.drew (h:Turn r Q v v' w w'):Turn r Q v v' w w'.drew:=⟨h.os,h.tape,h.output,h.size,h.block,h.loc,h.rest⟩
theorem Turn.drewN (h:Turn r Q v v' w w') (q:Nat):Turn r Q v v' w (w'.drewN q):=⟨h.os,h.tape,h.output,h.size,h.block,h.loc,h.rest⟩
theorem Turn.alloc (h:Turn r Q v v' w w') (o:Obj):Turn r Q v v' w (w'.alloc o):=
 ⟨h.os,h.tape,h.output,Xc h.size (by simp),fun k hk hQ hv=>(Below.heap_alloc w' o k (Xb hk h.size)).trans (h.block k hk hQ hv),h.loc,fun hQ hv j hj=>(Xf (w:=w') (a:=⟨Q,j,none⟩) (Below.heap_alloc w' o Q (Xb hQ h.size))).trans (h.rest hQ hv j hj)⟩
theorem Turn.of_below (g:Below w.heap.size w w'):Turn r Q v v w w':=⟨g.os,g.tape,g.output,g.size,fun k hk _ _=>g.block k hk,fun _ h=>Or.inl h,fun hQ _ j _=>Xf (w:=w) (a:=⟨Q,j,none⟩) (g.block Q hQ)⟩
theorem Turn.of_grown (hg:w.grownBy w' v.ownBlock) (hl:v'.ownBlock=v.ownBlock∨ ∃g,v'.ownBlock=some g∧w.heap.size≤g):Turn r Q v v' w w':=by
 refine⟨hg.os,hg.tape,hg.output,hg.size,fun k hk _ hv=>hg.block k hk hv,fun g h=> ?_,fun hQ hv j _=>Xf (w:=w) (a:=⟨Q,j,none⟩) (hg.block Q hQ (fun e=>hv e.symm))⟩;rcases hl with e|⟨x,hx,hl⟩
 ·exact Or.inl (e▸h)
 ·rw [hx]at h;cases h;exact Or.inr hl
theorem Turn.setQ (j:Nat) (u:Value) (hr:r j:=by decide):Turn r Q v v w (w.setCell ⟨Q,j,none⟩ u):=
 ⟨rfl,rfl,rfl,by simp,fun k _ hQ _=>Below.heap_setCell w ⟨Q,j,none⟩ u k hQ,fun _ h=>Or.inl h,fun _ _ i hi=>Xd _ _ _ _ (fun e=>hi (by have:j=i:=congrArg Addr.off e;rwa [←this]))⟩
theorem Turn.setRow (j:Nat) (u:Value) (h:Turn r Q v v' w w') (hr:r j:=by decide):Turn r Q v v' w (w'.setCell ⟨Q,j,none⟩ u):=h.trans (Turn.setQ j u hr)
theorem Turn.setG {n:Nat} (j:Nat) (u:Value):Turn r Q (.slice (some ⟨g,0,none⟩) n cap) (.slice (some ⟨g,0,none⟩) n cap) w (w.setCell ⟨g,j,none⟩ u):=
 ⟨rfl,rfl,rfl,by simp,fun k _ _ hv=>Below.heap_setCell w ⟨g,j,none⟩ u k (fun e=>hv (by rw [e];rfl)),fun _ h=>Or.inl h,fun _ hv i _=>Xd _ _ _ _ (fun e=>hv (by have:g=Q:=congrArg Addr.block e;rw [this];rfl))⟩
theorem Turn.appended (hg:(w.drew.alloc o).grownBy w' v.ownBlock) (hl:v'.ownBlock=v.ownBlock∨v'.ownBlock=some (w.drew.alloc o).heap.size):Turn r Q v v' w w':=
 (((Turn.refl Q v w).drew).alloc o).trans (Turn.of_grown hg (hl.imp id fun e=>⟨_,e,Xa _⟩))
theorem Turn.cell {c j:Nat} {x:Value} (t:Turn r Q v v' w w') (h:w.cell? ⟨c,j,none⟩=some x) (h1:c≠Q) (h2:v.ownBlock≠some c):w'.cell? ⟨c,j,none⟩=some x:=
 (Xf (w:=w) (a:=⟨c,j,none⟩) (t.block c (Xj w _ h) h1 (fun e=>h2 e.symm))).trans h
theorem Turn.off {c:Nat} (t:Turn r Q v v' w w') (h:c<w.heap.size) (hv:v.ownBlock≠some c):v'.ownBlock≠some c:=fun e=>by
 rcases t.loc c e with a|a
 ·exact hv a
 ·omega
theorem owns_block {e:TypeId} {n:Nat} (h:w.ownsRow B e s v n xs) (hb: ∀g,v.ownBlock=some g→w'.heap[g]? =w.heap[g]?):w'.ownsRow B e s v n xs:=by
 refine⟨h.1,?_⟩;rcases h.2 with a|⟨g,cap,cur,rfl,h1,h2,h3⟩
 ·exact Or.inl a
 ·exact Or.inr ⟨g,cap,cur,rfl,h1,(hb g rfl).trans h2,h3⟩
theorem own_succ {e:TypeId} {n:Nat} (h:w.ownsRow B e s v (n+1) xs): ∃g cap,v=.slice (some ⟨g,0,none⟩) (n+1) cap:=by
 rcases h.2 with⟨_,h⟩|⟨g3,cap3,_,h,_⟩
 ·omega
 ·exact⟨g3,cap3,h⟩
theorem own_block {n:Nat} {e:TypeId} (h:w.ownsRow B e s (.slice (some ⟨g,0,none⟩) n cap) n xs): ∃cur,w.heap[g]? =some (.cells cur e (0,0))∧cur.size=cap*s:=by
 rcases h.2 with⟨h0,_⟩|⟨g',cap',cur,h0,_,h1,_,_,h2,_⟩
 ·cases h0
 ·cases h0;exact⟨cur,h1,h2⟩
end

structure RAt {α:Type} (K:Kd α) (w:World) (e:TypeId) (B Q O oS:Nat) (hd:List Value) (v:Value) (L:List α):Prop where
 lt:Q<w.heap.size
 bQ:B≤Q
 cQ: ∀j u,hd[j]? =some u→w.cell? ⟨Q,O+j,none⟩=some u
 cS:hd[oS]? =some v
 fz: ∀j,w.frozen? ⟨Q,j,none⟩=false
 own:w.ownsRow B e K.s v L.length (cels K.c L)
 ne:v.ownBlock≠some Q

section
variable {α : Type} {K : Kd α} {w w' : World} {e : TypeId} {B Q O oS : Nat} {hd hd' : List Value} {v v' : Value} {L L' : List α}
theorem RAt.rowB (h:RAt K w e B Q O oS hd v L): ∀g,v.ownBlock=some g→B≤g:=fun g hg=>(h.own.lt g hg).1
theorem RAt.rowLt (h:RAt K w e B Q O oS hd v L): ∀g,v.ownBlock=some g→g<w.heap.size:=fun g hg=>(h.own.lt g hg).2
theorem lt_of_block {k:Nat} (h:k<w.heap.size) (hQ:w'.heap[k]? =w.heap[k]?):k<w'.heap.size:=by
 rw [X7 h]at hQ;exact(XM.1 hQ).1
theorem RAt.kept (h:RAt K w e B Q O oS hd v L) (hQ:w'.heap[Q]? =w.heap[Q]?) (hb: ∀g,v.ownBlock=some g→w'.heap[g]? =w.heap[g]?):RAt K w' e B Q O oS hd v L:=
 ⟨lt_of_block h.lt hQ,h.bQ,fun j u hu=>(Xf (w:=w) (a:=⟨Q,O+j,none⟩) hQ).trans (h.cQ j u hu),h.cS,fun j=>(Xl (w:=w) (a:=⟨Q,j,none⟩) hQ).trans (h.fz j),owns_block h.own hb,h.ne⟩
theorem RAt.sib (h:RAt K w e B Q O oS hd v L) (hz:Q<w'.heap.size) (hf: ∀j,w'.frozen? ⟨Q,j,none⟩=false) (hc: ∀j,j<hd.length→w'.cell? ⟨Q,O+j,none⟩=w.cell? ⟨Q,O+j,none⟩) (hb: ∀g,v.ownBlock=some g→w'.heap[g]? =w.heap[g]?):RAt K w' e B Q O oS hd v L:=
 ⟨hz,h.bQ,fun j u hu=>(hc j (Xe.1 hu).1).trans (h.cQ j u hu),h.cS,hf,owns_block h.own hb,h.ne⟩
theorem RAt.drew (h:RAt K w e B Q O oS hd v L):RAt K w.drew e B Q O oS hd v L:=h.kept rfl (fun _ _=>rfl)
theorem RAt.drewN (h:RAt K w e B Q O oS hd v L) (q:Nat):RAt K (w.drewN q) e B Q O oS hd v L:=h.kept rfl (fun _ _=>rfl)
theorem RAt.alloc (h:RAt K w e B Q O oS hd v L) (o:Obj):RAt K (w.alloc o) e B Q O oS hd v L:=h.kept (Below.heap_alloc w o Q h.lt) (fun g hg=>Below.heap_alloc w o g (h.rowLt g hg))
theorem RAt.below (h:RAt K w e B Q O oS hd v L) (hb:Below w.heap.size w w'):RAt K w' e B Q O oS hd v L:=h.kept (hb.block Q h.lt) (fun g hg=>hb.block g (h.rowLt g hg))
theorem RAt.other {r:Nat→Prop} {P:Nat} {u u':Value} (h:RAt K w e B Q O oS hd v L) (t:Turn r P u u' w w') (h1:Q≠P) (h2:u.ownBlock≠some Q) (h3:v.ownBlock≠some P) (h4: ∀g,v.ownBlock=some g→u.ownBlock≠some g):RAt K w' e B Q O oS hd v L:=
 h.kept (t.block Q h.lt h1 (fun e=>h2 e.symm)) (fun g hg=>t.block g (h.rowLt g hg) (fun e=>h3 (e▸hg)) (fun e=>h4 g hg e.symm))
theorem RAt.setN (h:RAt K w e B Q O oS hd v L) (j:Nat) (u:Value) (hne:j≠oS):RAt K (w.setCell ⟨Q,O+j,none⟩ u) e B Q O oS (hd.set j u) v L:=by
 refine⟨by simpa using h.lt,h.bQ,fun i x hx=> ?_,by rw [Yt hne];exact h.cS,fun i=>by rw [Xi];exact h.fz i,owns_block h.own (fun g hg=>Below.heap_setCell w _ _ g (fun e=>h.ne (by rw [hg];exact congrArg some e))),h.ne⟩;by_cases hi:i=j
 ·subst hi;have hl:i<hd.length:=by have:=(Xe.1 hx).1;simpa using this
  rw [Ys hl]at hx;cases hx;exact Xn _ _ _ (h.cQ i hd[i] (by simp [hl]))
 ·rw [Yt (fun e=>hi e.symm)]at hx;rw [Xd (h:=fun e=>hi (Nat.add_left_cancel (congrArg Addr.off e)).symm)];exact h.cQ i x hx
theorem RAt.regrown (h:RAt K w e B Q O oS hd v L) (hQ:w'.heap[Q]? =w.heap[Q]?) (hown:w'.ownsRow B e K.s v' L'.length (cels K.c L')) (hv:v'.ownBlock≠some Q):RAt K (w'.setCell ⟨Q,O+oS,none⟩ v') e B Q O oS (hd.set oS v') v' L':=by
 have hl:oS<hd.length:=(Xe.1 h.cS).1;refine⟨by simpa using lt_of_block h.lt hQ,h.bQ,fun i x hx=> ?_,Ys hl,fun i=>by rw [Xi];exact(Xl (w:=w) (a:=⟨Q,i,none⟩) hQ).trans (h.fz i),owns_block hown (fun g hg=>Below.heap_setCell w' _ _ g (fun e=>hv (by rw [hg];exact congrArg some e))),hv⟩;by_cases hi:i=oS
 ·subst hi;rw [Ys hl]at hx;cases hx;exact Xn _ _ _ ((Xf (w:=w) (a:=⟨Q,O+i,none⟩) hQ).trans (h.cQ i v h.cS))
 ·rw [Yt (fun e=>hi e.symm)]at hx;rw [Xd (h:=fun e=>hi (Nat.add_left_cancel (congrArg Addr.off e)).symm)];exact(Xf (w:=w) (a:=⟨Q,O+i,none⟩) hQ).trans (h.cQ i x hx)
theorem RAt.appended (h:RAt K w e B Q O oS hd v L) (hg:(w.drew.alloc o).grownBy w' v.ownBlock):w'.heap[Q]? =w.heap[Q]? :=by
 have hl:=h.lt;refine(hg.block Q (by simp;omega) (fun e=>h.ne e.symm)).trans ?_;exact Below.heap_alloc w.drew o Q hl
theorem own_off (h:RAt K w e B Q O oS hd v L) (hl:v'.ownBlock=v.ownBlock∨v'.ownBlock=some (w.drew.alloc o).heap.size):v'.ownBlock≠some Q:=by
 rcases hl with e|e
 ·rw [e];exact h.ne
 ·rw [e];have:=h.lt;intro h';simp at h';omega
theorem RAt.put {n j:Nat} {m m':α} {u:Value} (h:RAt K w e B Q O oS hd (.slice (some ⟨g,0,none⟩) n cap) L) (hn:n=L.length) (hm:L[i]? =some m) (hj:j<K.s) (hc:K.c m'=(K.c m).set j u):
  RAt K (w.setCell ⟨g,i*K.s+j,none⟩ u) e B Q O oS hd (.slice (some ⟨g,0,none⟩) n cap) (L.set i m'):=by
 subst hn;have hgQ:g≠Q:=fun e=>h.ne (by rw [e];rfl);have hs:=(h.own.stored (i*K.s+j) u).1;rw [←cels_set K L i j m m' u hm hj hc]at hs;refine⟨by simpa using h.lt,h.bQ,fun o x hx=> ?_,h.cS,fun i=>by rw [Xi];exact h.fz i,by rw [Yg];exact hs,h.ne⟩;rw [Xd (h:=fun e=>hgQ (congrArg Addr.block e))];exact h.cQ o x hx
theorem RAt.form (h:RAt K w e B Q O oS hd v L): ∃ao cap,v=.slice ao L.length cap∧L.length≤cap∧cap≤maxLen∧(0<L.length→ ∃g,ao=some ⟨g,0,none⟩):=by
 rcases h.own.2 with⟨a,b⟩|⟨g,cap,cur,a,_,_,b,c,_⟩
 ·exact⟨none,0,by rw [a,b],by omega,by unfold maxLen;omega,fun h=>absurd h (by omega)⟩
 ·exact⟨some ⟨g,0,none⟩,cap,a,b,c,fun _=>⟨g,rfl⟩⟩
theorem RAt.cells {n:Nat} {m:α} (h:RAt K w e B Q O oS hd (.slice (some ⟨g,0,none⟩) n cap) L) (hn:n=L.length) (hm:L[i]? =some m): ∀j u,(K.c m)[j]? =some u→w.cell? ⟨g,i*K.s+j,none⟩=some u:=by
 subst hn;intro j u hu;have hi:i<L.length:=(Xe.1 hm).1;have hj:j<K.s:=by have:=(Xe.1 hu).1;rwa [K.len]at this
 have hlt:i*K.s+j<L.length*K.s:=by
  have:=Yu K.s (show i+1≤L.length from hi);rw [Nat.succ_mul]at this;omega
 rw [h.own.cellAt _ hlt,Rw.cels_get K.len L i j m hm hj];exact hu
theorem RAt.fzG {n:Nat} (h:RAt K w e B Q O oS hd (.slice (some ⟨g,0,none⟩) n cap) L) (hn:n=L.length): ∀j,w.frozen? ⟨g,j,none⟩=false:=by
 subst hn;exact fun j=>h.own.frozenAt j

def RowAt (K:Kd α) (w:World) (ao:Option Addr) (L:List α):Prop:=
 0<L.length→ ∃g,ao=some ⟨g,0,none⟩∧g<w.heap.size∧ ∀i m,L[i]? =some m→ ∀j u,(K.c m)[j]? =some u→w.cell? ⟨g,i*K.s+j,none⟩=some u
theorem RowAt.below (h:RowAt K w ao L) (hb:Below w.heap.size w w'):RowAt K w' ao L:=by
 intro hl;obtain⟨g,rfl,hg,hc⟩:=h hl;exact⟨g,rfl,Xb hg hb.size,fun i m hm j u hu=>(hb.cell (p:=⟨g,i*K.s+j,none⟩) hg).trans (hc i m hm j u hu)⟩
theorem RowAt.drewN {ao:Option Addr} (h:RowAt K w ao L) (q:Nat):RowAt K (w.drewN q) ao L:=h
theorem RowAt.turn {r:Nat→Prop} (h:RowAt K w ao L) (hO: ∀g,ao=some ⟨g,0,none⟩→g≠Q∧v.ownBlock≠some g) (t:Turn r Q v v' w w'):RowAt K w' ao L:=by
 intro hl;obtain⟨g,rfl,hg,hc⟩:=h hl;obtain⟨h1,h2⟩:=hO g rfl;exact⟨g,rfl,Xb hg t.size,fun i m hm j u hu=>t.cell (hc i m hm j u hu) h1 h2⟩
theorem RAt.row (h:RAt K w e B Q O oS hd (.slice ao L.length cap) L):RowAt K w ao L:=by
 intro hl;obtain⟨ao',cap',he,_,_,hg⟩:=h.form;cases he;obtain⟨g,rfl⟩:=hg hl;exact⟨g,rfl,h.rowLt g rfl,fun i m hm=>h.cells rfl hm⟩
theorem row_of_block (h:w.heap[g]? =some (.cells (cels K.c L).toArray e (0,0))):RowAt K w (some ⟨g,0,none⟩) L:=by
 intro _;refine⟨g,rfl,(XM.1 h).1,fun i m hm j u hu=> ?_⟩;have hj:j<K.s:=by have:=(Xe.1 hu).1;rwa [K.len]at this
 rw [cell_of_row w g _ _ _ _ h,List.getElem?_toArray,Rw.cels_get K.len L i j m hm hj];exact hu
theorem RAt.src (h:RAt K w e B Q O oS hd (.slice ao L.length cap) L):0<L.length→ ∃ad,ao=some ad∧ ∀j u,(cels K.c L)[j]? =some u→w.cell? (ad.add j)=some u:=by
 intro hl;obtain⟨ao',cap',he,_,_,hg⟩:=h.form;cases he;obtain⟨g,rfl⟩:=hg hl;exact⟨_,rfl,h.own.cells rfl⟩
end

structure Apart (Q D:Nat) (v u:Value):Prop where
 qd:Q≠D
 vD:v.ownBlock≠some D
 uQ:u.ownBlock≠some Q
 vu: ∀g,v.ownBlock=some g→u.ownBlock≠some g
theorem Apart.symm {Q D:Nat} {v u:Value} (h:Apart Q D v u):Apart D Q u v:=⟨h.qd.symm,h.uQ,h.vD,fun g a b=>h.vu g b a⟩
section
variable {α β : Type} {K : Kd α} {J : Kd β} {w w' : World} {e f : TypeId} {r : Nat → Prop} {B Q D O P oS oR : Nat} {hd hr : List Value} {v u v' : Value} {L : List α} {M : List β}
theorem Apart.step (h:Apart Q D v u) (hu:RAt J w f B D P oR hr u M) (t:Turn r Q v v' w w'):RAt J w' f B D P oR hr u M∧Apart Q D v' u:=by
 refine⟨hu.other t h.qd.symm h.vD h.uQ (fun g a b=>h.vu g b a),h.qd,fun x=> ?_,h.uQ,fun g hv hg=> ?_⟩
 ·rcases t.loc D x with a|a
  ·exact h.vD a
  ·have:=hu.lt;omega
 ·rcases t.loc g hv with a|a
  ·exact h.vu g a hg
  ·have:=hu.rowLt g hg;omega
theorem RAt.turned (h:RAt K w e B Q O oS hd v L) (t:Turn r Q v v' w w'):Below B w w':=t.below h.bQ h.rowB (by have:=h.bQ;have:=h.lt;omega)
end

theorem step_own_at {P:Program} {o:Oper} {w:World} {K:Act→World→Prop} {Q:Exit→Act→World→Prop}
  (hg:o.guard=none) (s x:Operand) (t:TypeId) (hop:o.op=Op.call { callee:=Callee.builtin Builtin.append,args:=#[s,x],argTypes:=#[t,t] })
  (base:Nat) (e:TypeId) (i:TypeInfo) (z:Value) (size bytes:Nat) (h1:P.underlying t=some (.slice e)) (h2:P.info? e=some i) (h3:i.zero=some z) (h4:i.size=size) (h5:i.bytes=bytes) (h6:z.cells.size=size) (h7:0<size)
  (v:Value) (n:Nat) (xs:List Value) (hs:a.eval s=v) (hown:w.ownsRow base e size v n xs)
  (ad:Addr) (m c:Nat) (news:List Value) (hx:a.eval x=.slice (some ad) m c) (hn:news.length=m*size) (hc: ∀j u,news[j]? =some u→w.cell? (ad.add j)=some u) (h1c: ∀u∈news,u.oneCell'=true)
  (b1:n+m≤maxLen) (b2:(n+m)*bytes≤140737488355328) (hb:base≤w.heap.size)
  (hK: ∀v' w',w'.ownsRow base e size v' (n+m) (xs++news)→w.grownBy w' v.ownBlock→(v'.ownBlock=v.ownBlock∨v'.ownBlock=some w.heap.size)→K (a.put o.dst v') w'):
  if Region.wanted o (yielded ops a.tmps)=true then Oper.wp P o a w K Q else E:=by
 have hw:Region.wanted o (yielded ops a.tmps)=true:=by simp [Region.wanted,hg]
 rw [if_pos hw];obtain⟨v',w',hr,g2,g3,_,g5⟩:=run_append_own_at (P:=P) w base t o.type e i z size bytes h1 h2 h3 h4 h5 h6 h7 v n xs hown ad m c news hn hc h1c b1 b2 hb;unfold Oper.wp execOp;simp only [hop,resolve,invoke,builtin,XX,X8,X9,Ym,XV,X5,hs,hx,hr];exact hK v' w' g2 g3 g5
theorem cell_three (w:World) (e:TypeId) (a b c:Value): ∀(j:Nat) (u:Value),[a,b,c][j]? =some u→(w.alloc (.cells #[a,b,c] e)).cell? ((⟨w.heap.size,0,none⟩:Addr).add j)=some u:=by
 intro j u h;match j,h with
 |0,h=>simp at h;subst h;simp [Addr.add]
 |1,h=>simp at h;subst h;simp [Addr.add]
 |2,h=>simp at h;subst h;simp [Addr.add]
 |j+3,h=>simp at h

theorem step_room {P:Program} {o:Oper} {w W1:World} {K:Act→World→Prop} {Q:Exit→Act→World→Prop}
  (hg:o.guard=none) (s x:Operand) (t:TypeId) (hop:o.op=Op.call { callee:=Callee.builtin Builtin.append,args:=#[s,x],argTypes:=#[t,t] })
  (e:TypeId) (i:TypeInfo) (h1:P.underlying t=some (.slice e)) (h2:P.info? e=some i)
  (g n cap:Nat) (cur:Array Value) (hgr:w.heap[g]? =some (.cells cur e (0,0))) (hs:a.eval s=.slice (some ⟨g,0,none⟩) n cap)
  (ad:Addr) (m c:Nat) (news:List Value) (hx:a.eval x=.slice (some ad) m c) (hn:news.length=m*i.size) (hc: ∀j u,news[j]? =some u→w.cell? (ad.add j)=some u) (h1c: ∀u∈news,u.oneCell'=true)
  (hroom:n+m≤cap) (hfit:n*i.size+news.length≤cur.size)
  (hW:W1=w.setRow g (cur.toList.take (n*i.size)++news++cur.toList.drop (n*i.size+news.length)).toArray)
  (hK:K (a.put o.dst (.slice (some ⟨g,0,none⟩) (n+m) cap)) W1):
  if Region.wanted o (yielded ops a.tmps)=true then Oper.wp P o a w K Q else E:=by
 have hw:Region.wanted o (yielded ops a.tmps)=true:=by simp [Region.wanted,hg]
 rw [if_pos hw];have hr:=run_append_room (P:=P) w t o.type e i h1 h2 g n cap cur hgr ad m c news hn hc h1c hroom hfit;rw [←hW]at hr;unfold Oper.wp execOp;simp only [hop,resolve,invoke,builtin,XX,X8,X9,Ym,XV,X5,hs,hx,hr];exact hK

theorem run_clear_row {P:Program} (w:World) (t e ty:TypeId) (z:Value) (ht:P.underlying t=some (.slice e)) (hv:(zeroValue e).run P w=.ok z w) (h1: ∀u∈z.cells.toList,u.oneCell'=true) (g o c:Nat) (cur:Array Value)
  (hg:w.heap[g]? =some (.cells cur e (0,0))) (hfit:o+z.cells.size≤cur.size):
  (Builtin.clear_ #[t] ty #[.slice (some ⟨g,o,none⟩) 1 c]).run P w=.ok (.tuple #[]) (w.setRow g (cur.toList.take o++z.cells.toList++cur.toList.drop (o+z.cells.toList.length)).toArray):=by
 have hzc:(Builtin.zeroCells z.cells 1).toList=z.cells.toList:=by
  apply Yo;intro j;simp [Builtin.zeroCells];by_cases hj:j<z.cells.size
  ·simp [hj,Nat.mod_eq_of_lt hj]
  ·simp [hj]
 have hst:=run_storeCells_at P g o e z.cells.toList 0 cur w hg (by simpa using hfit) h1;simp only [XD]at hst;simp [Builtin.clear_,run_underlying ht,hv,hzc,hst]
theorem run_copy_all {P:Program} (w:World) (dT sT ty e:TypeId) (i:TypeInfo) (hu:P.underlying dT=some (.slice e)) (hi:P.info? e=some i) (g n dc sc:Nat) (sp:Option Addr) (cur:Array Value) (cs:List Value)
  (hg:w.heap[g]? =some (.cells cur e (0,0))) (hcur:cur.size=n*i.size) (hl:cs.length=n*i.size) (hsrc:0<n→ ∃ad,sp=some ad∧ ∀j u,cs[j]? =some u→w.cell? (ad.add j)=some u) (h1: ∀u∈cs,u.oneCell'=true):
  ∃w',(Builtin.copy_ #[dT,sT] ty #[.slice (some ⟨g,0,none⟩) n dc,.slice sp n sc]).run P w=.ok (goInt n) w'∧w'.heap[g]? =some (.cells cs.toArray e (0,0))∧w.grownBy w' (some g):=by
 by_cases h0:n=0
 ·subst h0;have hcs:cs=[]:=XW (by simpa using hl);have hce:cur=#[]:=Array.eq_empty_of_size_eq_zero (by simpa using hcur);refine⟨w,?_,by rw [hcs,hg,hce],⟨rfl,rfl,rfl,Xa _,fun _ _ _=>rfl⟩⟩;have hl0: ∀(x:Addr),(loadCells x 0).run P w=.ok #[] w:=fun x=>by simpa using run_loadCells_list (P:=P) w x [] (by simp)
  cases sp<;>simp [Builtin.copy_,run_underlying hu,Builtin.lenOf,Builtin.firstCells,sizeOf,typeInfo,hi,storeCells,hl0]
 ·obtain⟨ad,rfl,hs⟩:=hsrc (by omega);have hf:=run_firstCells_some (P:=P) w i.size n ad n sc cs hl hs;have hst:=run_storeCells_at P g 0 e cs 0 cur w hg (by omega) h1;simp only [XD,Xv,List.take_zero,Yf]at hst;rw [List.drop_of_length_le (by rw [Array.length_toList,hcur,hl];exact Xa _),List.append_nil]at hst;refine⟨w.setRow g cs.toArray,?_,setRow_heap w g cur _ e _ hg,⟨rfl,rfl,rfl,by simp,fun k _ hk=>setRow_other w g k _ (fun e=>hk (by rw [e]))⟩⟩;simp [Builtin.copy_,run_underlying hu,Builtin.lenOf,sizeOf,typeInfo,hi,hf,hst]
end Rec
namespace Flt
open Go.RowKit Rw Rec
variable {α:Type} {k i:Nat}

structure Pd where
 id:Int
 st:Int
 ld:Int
def pcel (p:Pd):List Value:=[.int .i64 p.id,.int .i64 p.st,.int .i64 p.ld]
def pK:Kd Pd:=⟨pcel,3,fun _=>rfl,fun m u hu=>by simp [pcel]at hu;rcases hu with rfl|rfl|rfl<;>rfl,by decide⟩

theorem find_at {p:α→Bool} {L:List α} {m:α} (h: ∀j,j<k→ ∀x,L[j]? =some x→p x=false) (hk:L[k]? =some m) (hp:p m=true):L.findIdx? p=some k:=by
 obtain⟨hlt,hm⟩:=Xe.1 hk;rw [Yv];refine⟨hlt,by rw [hm];exact hp,fun j hj=> ?_⟩;have:=h j hj L[j] (by simp);simp [this]
theorem find_no {p:α→Bool} {L:List α} (h: ∀j,j<L.length→ ∀x,L[j]? =some x→p x=false):L.findIdx? p=none:=by
 rw [List.findIdx?_eq_none_iff];intro x hx;obtain⟨j,hj⟩:=Yr.1 hx;exact h j (Xe.1 hj).1 x hj
theorem find_get {p:α→Bool} {L:List α} (h:L.findIdx? p=some k): ∃m,L[k]? =some m∧p m=true:=by
 obtain⟨hlt,hm,_⟩:=Yv.1 h;exact⟨L[k],by simp,hm⟩
theorem split_at {L:List α} {m:α} (h:L[i]? =some m):L=L.take i++m::L.drop (i+1):=by
 obtain⟨hlt,hm⟩:=Xe.1 h;conv=>lhs;rw [←Yz i L]
 rw [Yn hlt,hm]
theorem erase_at {L:List α} :L.eraseIdx i=L.take i++L.drop (i+1):=List.eraseIdx_eq_take_drop_succ ..
theorem set_at {L:List α} {m x:α} (h:L[i]? =some m):L.set i x=L.take i++x::L.drop (i+1):=by
 have hlt:i<L.length:=(Xe.1 h).1;conv=>lhs;rw [split_at h]
 rw [List.set_append_right _ _ (by simp;omega)];simp [Nat.min_eq_left (Xw hlt)]
theorem mem_set {L:List α} {m x:α} (h:x∈L.set i m):x=m∨x∈L:=by
 rcases List.mem_or_eq_of_mem_set h with h|h
 ·exact Or.inr h
 ·exact Or.inl h
def idxV:Option Nat→Int
 |none=> -1
 |some k=>k

def isId (id:Int) (p:Pd):Bool:=p.id==id
def stays (p:Pd):Bool:=p.st !=4
def room (most:Int) (p:Pd):Bool:=p.st==3&&decide (p.ld<most)
def goes (p q:Pd):Bool:=if(p.st !=q.st)=true then decide (p.st<q.st)else if(p.ld !=q.ld)=true then decide (p.ld<q.ld)else decide (p.id>q.id)
def given (p q:Pd):Bool:=if(p.ld !=q.ld)=true then decide (p.ld<q.ld)else decide (p.id<q.id)

def cnt (L:List Pd):Nat:=L.countP stays
theorem cnt_step {L:List Pd} {m:Pd} (h:L[k]? =some m):cnt (L.take (k+1))=cnt (L.take k)+if stays m then 1 else 0:=by
 unfold cnt;rw [XB,h,List.countP_append];simp [Yp]
theorem cnt_le (L:List Pd):cnt L≤L.length:=Yw
def beats (ah:Pd→Pd→Bool) (p:Pd):Option (Nat×Pd)→Bool
 |none=>true
 |some x=>ah p x.2
def nxt (may:Pd→Bool) (ah:Pd→Pd→Bool) (p:Pd) (i:Nat) (b:Option (Nat×Pd)):Option (Nat×Pd):=
 if(may p&&beats ah p b)=true then some (i,p)else b
def pick (may:Pd→Bool) (ah:Pd→Pd→Bool):List Pd→Nat→Option (Nat×Pd)→Option (Nat×Pd)
 | [],_,b=>b
 |p::L,i,b=>pick may ah L (i+1) (nxt may ah p i b)
def pickV:Option (Nat×Pd)→Int
 |none=> -1
 |some x=>x.1
theorem pick_step {may:Pd→Bool} {ah:Pd→Pd→Bool} {L:List Pd} {m:Pd} (b:Option (Nat×Pd)) (h:L[k]? =some m):pick may ah (L.drop k) k b=pick may ah (L.drop (k+1)) (k+1) (nxt may ah m k b):=by
 obtain⟨hlt,hm⟩:=Xe.1 h;rw [Yn hlt,hm];rfl
def In (may:Pd→Bool) (L:List Pd) (k:Nat) (b:Option (Nat×Pd)):Prop:= ∀x,b=some x→x.1<k∧L[x.1]? =some x.2∧may x.2=true
theorem In.none (may:Pd→Bool) (L:List Pd) (k:Nat):In may L k none:=fun _ h=>by cases h
theorem In.next {may:Pd→Bool} {ah:Pd→Pd→Bool} {L:List Pd} {m:Pd} {b:Option (Nat×Pd)} (h:In may L k b) (hm:L[k]? =some m):In may L (k+1) (nxt may ah m k b):=by
 intro x hx;unfold nxt at hx;split at hx
 ·rename_i hc;cases hx;simp at hc;exact⟨by simp,hm,hc.1⟩
 ·obtain⟨a,c⟩:=h x hx;exact⟨by omega,c⟩
theorem pick_in {may:Pd→Bool} {ah:Pd→Pd→Bool} {L:List Pd} : ∀(n k:Nat) (b:Option (Nat×Pd)),L.length=k+n→In may L k b→In may L L.length (pick may ah (L.drop k) k b):=by
 intro n;induction n with
 |zero=>intro k b hk h;rw [List.drop_of_length_le (by omega)];rw [hk];exact h
 |succ n ih=>
  intro k b hk h;obtain⟨m,hm⟩: ∃m,L[k]? =some m:=⟨L[k]'(by omega),by simp⟩
  rw [pick_step b hm];exact ih (k+1) _ (by omega) (h.next hm)
theorem pick_mem {may:Pd→Bool} {ah:Pd→Pd→Bool} {L:List Pd} {x:Nat×Pd} (h:pick may ah L 0 none=some x):x.1<L.length∧L[x.1]? =some x.2∧may x.2=true:=
 pick_in (ah:=ah) L.length 0 none (by omega) (In.none _ _ _) x (by simpa using h)
theorem pick_keeps {may:Pd→Bool} {ah:Pd→Pd→Bool} : ∀(L:List Pd) (k:Nat) (x:Nat×Pd),∃y,pick may ah L k (some x)=some y
 | [],k,x=>⟨x,rfl⟩
 |p::L,k,x=>by
  unfold pick
  unfold nxt
  split
  ·exact pick_keeps L _ _
  ·exact pick_keeps L _ _
theorem pick_some {may:Pd→Bool} {ah:Pd→Pd→Bool} : ∀(L:List Pd) (k:Nat),(∃p∈L,may p=true)→ ∃y,pick may ah L k none=some y
 | [],k,h=>by obtain⟨p,hp,_⟩:=h;cases hp
 |p::L,k,h=>by
  unfold pick
  cases hm:may p with
  |true=>simp only [nxt,hm,beats,XJ,if_true];exact pick_keeps L _ _
  |false=>
   simp only [nxt,hm,Bool.false_and,XU,if_false]
   refine pick_some L _ ?_
   obtain⟨q,hq,hmq⟩:=h
   rcases XG.1 hq with rfl|hq
   ·rw [hm]at hmq;cases hmq
   ·exact⟨q,hq,hmq⟩
theorem pick_same {may:Pd→Bool} {ah ah':Pd→Pd→Bool} : ∀(L:List Pd) (k:Nat) (b:Option (Nat×Pd)),L.Pairwise (fun q p=>may q=true→may p=true→ah p q=ah' p q)→(∀x,b=some x→ ∀p∈L,may p=true→ah p x.2=ah' p x.2)→pick may ah L k b=pick may ah' L k b
 | [],k,b,_,_=>rfl
 |p::L,k,b,hp,hb=>by
  unfold pick
  have e:nxt may ah p k b=nxt may ah' p k b:=by
   unfold nxt;cases hm:may p with
   |false=>simp
   |true=>
    cases b with
    |none=>rfl
    |some x=>simp only [XJ,beats];rw [hb x rfl p (by simp) hm]
  rw [e];refine pick_same L _ _ (List.pairwise_cons.1 hp).2 (fun x hx q hq hm=> ?_);unfold nxt at hx;split at hx
  ·rename_i hc;cases hx;simp at hc;exact(List.pairwise_cons.1 hp).1 q hq hc.1 hm
  ·exact hb x hx q (by simp [hq]) hm
def news (last:Int) (n:Nat):List Pd:=(List.range n).map fun(i:Nat)=>⟨last+1+(i:Int),1,0⟩
theorem news_len (last:Int) (n:Nat):(news last n).length=n:=by simp [news]
theorem news_step (last:Int) (n:Nat):news last n++ [⟨last+1+(n:Int),1,0⟩]=news last (n+1):=by
 unfold news;rw [List.range_succ,X2];rfl
theorem news_zero (last:Int):news last 0=[]:=rfl
theorem news_mem {last:Int} {n:Nat} {p:Pd} (h:p∈news last n):last+1≤p.id∧p.id≤last+n∧p.st=1∧p.ld=0:=by
 unfold news at h;obtain⟨i,hi,rfl⟩:=XS.1 h;have:=List.mem_range.1 hi;refine⟨?_,?_,rfl,rfl⟩<;>simp only<;>omega
theorem news_cnt (last:Int) (n:Nat):cnt (news last n)=n:=by
 unfold cnt;rw [List.countP_eq_length.2 (fun p hp=>by simp [stays,(news_mem hp).2.2.1]),news_len]
theorem cnt_append (A B:List Pd):cnt (A++B)=cnt A+cnt B:=List.countP_append ..
theorem cnt_cons (p:Pd) (L:List Pd):cnt (p::L)=cnt L+if stays p then 1 else 0:=Yp ..
def letgo (L:List Pd) (i:Nat) (p:Pd):List Pd:=if p.ld>0 then L.set i ⟨p.id,4,p.ld⟩else L.eraseIdx i
def shrink:Nat→List Pd→List Pd
 |0,L=>L
 |n+1,L=>match pick stays goes L 0 none with
  |none=>L
  |some x=>shrink n (letgo L x.1 x.2)
theorem letgo_cnt {L:List Pd} {p:Pd} (h:L[i]? =some p) (hs:stays p=true):cnt (letgo L i p)+1=cnt L:=by
 have e:cnt L=cnt (L.take i)+cnt (L.drop (i+1))+1:=by
  conv=>lhs;rw [split_at h]
  rw [cnt_append,cnt_cons,hs];simp;omega
 unfold letgo;split
 ·rw [set_at h,cnt_append,cnt_cons,e];simp [stays]
 ·rw [erase_at,cnt_append,e]
structure FS where
 most:Int
 last:Int
 L:List Pd
def Okp (most last:Int) (p:Pd):Prop:=1≤p.id∧p.id≤last∧1≤p.st∧p.st≤4∧0≤p.ld∧p.ld≤most∧(p.st<3→p.ld=0)∧(p.st=4→0<p.ld)
structure Inv (F:FS):Prop where
 m:1≤F.most∧F.most≤100
 srt:F.L.Pairwise (fun p q=>p.id<q.id)
 bd: ∀p∈F.L,Okp F.most F.last p
 l0:0≤F.last
theorem len_gap: ∀(L:List Pd) (a last:Int),L.Pairwise (fun p q=>p.id<q.id)→(∀p∈L,a<p.id∧p.id≤last)→a≤last→(L.length:Int)≤last-a
 | [],a,last,_,_,h=>by simp;omega
 |p::L,a,last,hp,hb,h=>by
  have h1:=hb p (by simp)
  have:=len_gap L p.id last (List.pairwise_cons.1 hp).2 (fun q hq=>⟨(List.pairwise_cons.1 hp).1 q hq,(hb q (by simp [hq])).2⟩) h1.2
  simp only [Xr]
  omega
theorem Inv.len {F:FS} (h:Inv F):(F.L.length:Int)≤F.last:=by
 have:=len_gap F.L 0 F.last h.srt (fun p hp=>by have:=h.bd p hp;unfold Okp at this;omega) h.l0;omega
theorem Inv.at {F:FS} (h:Inv F) {p:Pd} (hp:F.L[i]? =some p):Okp F.most F.last p:=h.bd p (Xk hp)
theorem srt_set {L:List Pd} {p q:Pd} (h:L.Pairwise (fun p q=>p.id<q.id)) (hp:L[i]? =some p) (he:q.id=p.id):(L.set i q).Pairwise (fun p q=>p.id<q.id):=by
 have h1:(L.map Pd.id).Pairwise (· < ·):=List.pairwise_map.2 h;have h2:(L.set i q).map Pd.id=L.map Pd.id:=by
  rw [List.map_set,he];apply Yo;intro j;rw [List.getElem?_set];split
  ·rename_i e;subst e;split
   ·simp [hp]
   ·rename_i g;rw [YB (by omega)]
  ·rfl
 exact List.pairwise_map.1 (h2▸h1)
theorem Inv.set {F:FS} (h:Inv F) {i:Nat} {p q:Pd} (hp:F.L[i]? =some p) (he:q.id=p.id) (hq:Okp F.most F.last q):Inv ⟨F.most,F.last,F.L.set i q⟩:=by
 refine⟨h.m,srt_set h.srt hp he,fun x hx=> ?_,h.l0⟩;rcases mem_set hx with rfl|hx
 ·exact hq
 ·exact h.bd x hx
theorem Inv.erase {F:FS} (h:Inv F) (i:Nat):Inv ⟨F.most,F.last,F.L.eraseIdx i⟩:=by
 have hs:=List.eraseIdx_sublist F.L i;exact⟨h.m,h.srt.sublist hs,fun x hx=>h.bd x (hs.subset hx),h.l0⟩
theorem Inv.letgo {F:FS} (h:Inv F) {i:Nat} {p:Pd} (hp:F.L[i]? =some p):Inv ⟨F.most,F.last,letgo F.L i p⟩:=by
 unfold Flt.letgo;split
 ·refine h.set hp rfl ?_;have:=h.at hp;unfold Okp at*;simp only;omega
 ·exact h.erase i
theorem Inv.grow {F:FS} (h:Inv F) (n:Nat):Inv ⟨F.most,F.last+n,F.L++news F.last n⟩:=by
 have h0:=h.l0;refine⟨h.m,?_,fun x hx=> ?_,by simp only;omega⟩
 ·rw [X3];refine⟨h.srt,?_,fun a ha b hb=> ?_⟩
  ·unfold news;rw [List.pairwise_map];refine List.Pairwise.imp ?_ List.pairwise_lt_range;intro a b hab;simp only;omega
  ·have h1:=h.bd a ha;have h2:=news_mem hb;unfold Okp at h1;omega
 ·have hm:=h.m;unfold Okp;rcases Xp.1 hx with hx|hx
  ·have h1:=h.bd x hx;unfold Okp at h1;simp only;omega
  ·have h2:=news_mem hx;simp only;omega
theorem shrink_inv {most last:Int} : ∀(n:Nat) (L:List Pd),Inv ⟨most,last,L⟩→Inv ⟨most,last,shrink n L⟩
 |0,L,h=>h
 |n+1,L,h=>by
  unfold shrink
  cases hp:pick stays goes L 0 none with
  |none=>exact h
  |some x=>exact shrink_inv n _ (h.letgo (pick_mem hp).2.1)
theorem cnt_pos {L:List Pd} (h:0<cnt L): ∃x,pick stays goes L 0 none=some x:=by
 refine pick_some L 0 ?_;have:=List.countP_pos_iff.1 h;obtain⟨p,hp,hs⟩:=this;exact⟨p,hp,hs⟩
theorem shrink_step {n:Nat} {L:List Pd} {x:Nat×Pd} (h:pick stays goes L 0 none=some x):shrink (n+1) L=shrink n (letgo L x.1 x.2):=by
 conv=>lhs;unfold shrink
 rw [h]
theorem shrink_cnt: ∀(n:Nat) (L:List Pd),n≤cnt L→cnt (shrink n L)=cnt L-n
 |0,L,h=>rfl
 |n+1,L,h=>by
  obtain⟨x,hx⟩:=cnt_pos (L:=L) (by omega)
  rw [shrink_step hx]
  obtain⟨_,h2,h3⟩:=pick_mem hx
  have:=letgo_cnt h2 h3
  rw [shrink_cnt n _ (by omega)]
  omega
def scN (L:List Pd) (n:Int):Nat:=(n-cnt L).toNat
def scM (L:List Pd) (n:Int):Nat:=((cnt L:Int)-n).toNat
def scaleS (F:FS) (n:Int):FS:=⟨F.most,F.last+scN F.L n,shrink (scM F.L n) (F.L++news F.last (scN F.L n))⟩
theorem scale_inv {F:FS} (h:Inv F) (n:Int):Inv (scaleS F n):=shrink_inv _ _ (h.grow _)
theorem scale_cnt {F:FS} {n:Int} (h:0≤n):(cnt (scaleS F n).L:Int)=n:=by
 unfold scaleS scN scM;simp only;rw [shrink_cnt _ _ (by rw [cnt_append,news_cnt];omega),cnt_append,news_cnt];omega
end Flt
namespace Buf
open Go.RowKit Rw Rec
variable {f id:Int} {k i:Nat}

structure Rq where
 id:Int
 src:Int
 til:Int
 fat:Int
 pod:Int
def rcel (r:Rq):List Value:=[.int .i64 r.id,.int .i64 r.src,.int .i64 r.til,.int .i64 r.fat,.int .i64 r.pod]
def rK:Kd Rq:=⟨rcel,5,fun _=>rfl,fun m u hu=>by simp [rcel]at hu;rcases hu with rfl|rfl|rfl|rfl|rfl<;>rfl,by decide⟩
def iK:Kd Int:=⟨fun n=> [.int .i64 n],1,fun _=>rfl,fun m u hu=>by simp at hu;subst hu;rfl,by decide⟩

def isOf (s f:Int) (r:Rq):Bool:=(s== -1||r.src==s)&&r.fat==f
def many (s f:Int) (L:List Rq):Nat:=L.countP (isOf s f)
theorem many_step {s:Int} {L:List Rq} {r:Rq} (h:L[k]? =some r):many s f (L.take (k+1))=many s f (L.take k)+if isOf s f r then 1 else 0:=by
 unfold many;rw [XB,h,List.countP_append];simp [Yp]
theorem many_le (s f:Int) (L:List Rq):many s f L≤L.length:=Yw

def Okr (r:Rq):Prop:=0≤r.src∧r.src≤5∧1≤r.til∧r.til≤1099511727776∧1≤r.fat∧r.fat≤5
structure Inv (L:List Rq):Prop where
 len:L.length≤200
 num: ∀(i:Nat) (r:Rq),L[i]? =some r→r.id=(i:Int)+1
 bd: ∀r∈L,Okr r
theorem Inv.nil:Inv []:=⟨by simp,by simp,by simp⟩
theorem Inv.set {L:List Rq} (h:Inv L) {i:Nat} {r q:Rq} (hr:L[i]? =some r) (hi:q.id=r.id) (hq:Okr q):Inv (L.set i q):=by
 refine⟨by simpa using h.len,fun j x hx=> ?_,fun x hx=> ?_⟩
 ·by_cases e:i=j
  ·subst e;have hl:i<L.length:=(Xe.1 hr).1;rw [Ys hl]at hx;cases hx;rw [hi];exact h.num i r hr
  ·rw [Yt e]at hx;exact h.num j x hx
 ·rcases Flt.mem_set hx with rfl|hx
  ·exact hq
  ·exact h.bd x hx

def askE (L:List Rq) (now s t:Int):Int:=
 if¬((0≤now∧now≤1099511627776)∧(1≤t∧t≤100000))then 1
 else if¬(0≤s∧s≤5)then 4
 else if 20≤many s 1 L∨60≤many (-1) 1 L∨200≤L.length then 6 else 0
def askN (L:List Rq) (now s t:Int):Int:=if askE L now s t=0 then(L.length:Int)+1 else 0
def askL (L:List Rq) (now s t:Int):List Rq:=if askE L now s t=0 then L++ [⟨(L.length:Int)+1,s,now+t,1,0⟩]else L
theorem ask_inv {L:List Rq} (h:Inv L) (now s t:Int):Inv (askL L now s t):=by
 unfold askL;split
 ·rename_i he;unfold askE at he;split at he
  ·cases he
  ·split at he
   ·cases he
   ·split at he
    ·cases he
    ·rename_i h1 h2 h3;refine⟨by rw [Xg];simp;omega,fun i r hr=> ?_,fun r hr=> ?_⟩
     ·by_cases hi:i<L.length
      ·rw [XY hi]at hr;exact h.num i r hr
      ·rw [Yh (by omega)]at hr;have:i-L.length=0:=by
        have:=(Xe.1 hr).1;simp at this;omega
       rw [this]at hr;simp at hr;subst hr;simp only;omega
     ·rcases Xp.1 hr with hr|hr
      ·exact h.bd r hr
      ·simp at hr;subst hr;unfold Okr;simp only;omega
 ·exact h

def turnF (p:Rq→Bool) (f:Int) (r:Rq):Rq:=if p r then⟨r.id,r.src,r.til,f,r.pod⟩else r
def turnL (p:Rq→Bool) (f:Int) (L:List Rq):List Rq:=L.map (turnF p f)
def turnI (p:Rq→Bool) (L:List Rq):List Int:=(L.filter p).map Rq.id
def halfL (p:Rq→Bool) (f:Int) (L:List Rq) (k:Nat):List Rq:=turnL p f (L.take k)++L.drop k
theorem halfL_len (p:Rq→Bool) (f:Int) (L:List Rq) (k:Nat):(halfL p f L k).length=L.length:=by simp [halfL,turnL];omega
theorem halfL_zero (p:Rq→Bool) (f:Int) (L:List Rq):halfL p f L 0=L:=by simp [halfL,turnL]
theorem halfL_all (p:Rq→Bool) (f:Int) (L:List Rq):halfL p f L L.length=turnL p f L:=by simp [halfL]
theorem halfL_get {p:Rq→Bool} {L:List Rq} {r:Rq} (h:L[k]? =some r):(halfL p f L k)[k]? =some r:=by
 have hk:k<L.length:=(Xe.1 h).1;have hl:(turnL p f (L.take k)).length=k:=by simp [turnL];omega
 unfold halfL;rw [Yh (by omega),hl,Nat.sub_self,Yk];simpa using h
theorem halfL_step {p:Rq→Bool} {L:List Rq} {r:Rq} (h:L[k]? =some r):(halfL p f L k).set k (turnF p f r)=halfL p f L (k+1):=by
 have hk:k<L.length:=(Xe.1 h).1;have hl:(turnL p f (L.take k)).length=k:=by simp [turnL];omega
 have hd:L.drop k=r::L.drop (k+1):=by
  rw [Yn hk];rw [Xz hk]at h;cases h;rfl
 unfold halfL;rw [List.set_append_right _ _ (by omega),hl,Nat.sub_self,hd,List.set_cons_zero];unfold turnL;rw [XB,h];simp
theorem halfL_same {p:Rq→Bool} {L:List Rq} {r:Rq} (h:L[k]? =some r) (hp:p r=false):halfL p f L k=halfL p f L (k+1):=by
 rw [←halfL_step h];have e:turnF p f r=r:=by unfold turnF;rw [hp];rfl
 rw [e];have:=halfL_get (p:=p) (f:=f) h;apply Yo;intro j;rw [List.getElem?_set];split
 ·rename_i e;subst e;split
  ·exact this
  ·rename_i g;rw [YB (by omega)]
 ·rfl
theorem turnI_step {p:Rq→Bool} {L:List Rq} {r:Rq} (h:L[k]? =some r):turnI p (L.take (k+1))=turnI p (L.take k)++if p r then [r.id]else []:=by
 unfold turnI;rw [XB,h,List.filter_append,X2];congr 1;cases hk:p r<;>simp [hk]
theorem turnI_le (p:Rq→Bool) (L:List Rq):(turnI p L).length≤L.length:=by unfold turnI;rw [XE];exact List.length_filter_le _ _
theorem turn_inv {L:List Rq} (h:Inv L) (p:Rq→Bool) (f:Int) (hf:1≤f∧f≤5):Inv (turnL p f L):=by
 refine⟨by simpa [turnL]using h.len,fun i r hr=> ?_,fun r hr=> ?_⟩
 ·unfold turnL at hr;rw [XQ]at hr;cases hx:L[i]? with
  |none=>rw [hx]at hr;cases hr
  |some x=>
   rw [hx]at hr;simp at hr;subst hr;have:=h.num i x hx;unfold turnF;split<;>simpa using this
 ·obtain⟨x,hx,rfl⟩:=XS.1 hr;have:=h.bd x hx;unfold turnF;split
  ·unfold Okr at*;simp only;omega
  ·exact this
def isLate (now:Int) (r:Rq):Bool:=r.fat==1&&decide (r.til≤now)
def isAt (pod:Int) (r:Rq):Bool:=r.fat==2&&r.pod==pod

def mayRun (L:List Rq) (r:Rq):Bool:=r.fat==1&&many r.src 2 L==0
def runOk (L:List Rq) (i:Nat) (r:Rq):Bool:=mayRun L r&&(L.take i).all (fun x=> !(x.src==r.src&&x.fat==1))
def reqAt (L:List Rq) (id:Int):Option Rq:=if 1≤id then L[(id-1).toNat]? else none
theorem reqAt_no {L:List Rq} (h: ¬(1≤id∧id≤L.length)):reqAt L id=none:=by
 unfold reqAt;split
 ·rw [YB];omega
 ·rfl
theorem reqAt_yes {L:List Rq} {r:Rq} (h:L[i]? =some r):reqAt L ((i:Int)+1)=some r:=by
 unfold reqAt;rw [if_pos (by omega),show((i:Int)+1-1).toNat=i by omega];exact h
theorem id_nat {n:Nat} (h:1≤id∧id≤n): ∃i:Nat,id=(i:Int)+1∧i<n:=⟨(id-1).toNat,by omega,by omega⟩
def doneE (L:List Rq) (id:Int):Int:=match reqAt L id with
 |none=>4
 |some r=>if r.fat=2 then 0 else 7
def doneN (L:List Rq) (id:Int):Int:=match reqAt L id with
 |none=>0
 |some r=>if r.fat=2 then r.pod else 0
def doneL (L:List Rq) (id:Int):List Rq:=match reqAt L id with
 |none=>L
 |some r=>if r.fat=2 then L.set (id-1).toNat ⟨r.id,r.src,r.til,3,r.pod⟩else L
theorem done_no {L:List Rq} (h: ¬(1≤id∧id≤L.length)):doneE L id=4∧doneN L id=0∧doneL L id=L:=by simp [doneE,doneN,doneL,reqAt_no h]
theorem done_state {L:List Rq} {r:Rq} (h:L[i]? =some r) (hf:r.fat≠2):doneE L ((i:Int)+1)=7∧doneN L ((i:Int)+1)=0∧doneL L ((i:Int)+1)=L:=by simp [doneE,doneN,doneL,reqAt_yes h,hf]
theorem done_ok {L:List Rq} {r:Rq} (h:L[i]? =some r) (hf:r.fat=2):doneE L ((i:Int)+1)=0∧doneN L ((i:Int)+1)=r.pod∧doneL L ((i:Int)+1)=L.set i ⟨r.id,r.src,r.til,3,r.pod⟩:=by
 simp [doneE,doneN,doneL,reqAt_yes h,hf]
theorem done_inv {L:List Rq} (h:Inv L) (id:Int):Inv (doneL L id):=by
 by_cases hi:1≤id∧id≤L.length
 ·obtain⟨i,rfl,hl⟩:=id_nat hi;obtain⟨r,hr⟩: ∃r,L[i]? =some r:=⟨L[i],by simp [hl]⟩
  by_cases hf:r.fat=2
  ·rw [(done_ok hr hf).2.2];refine h.set hr rfl ?_;have:=h.bd r (Xk hr);unfold Okr at*;simp only;omega
  ·rw [(done_state hr hf).2.2];exact h
 ·rw [(done_no hi).2.2];exact h
def runE (L:List Rq) (id:Int):Int:=match reqAt L id with
 |none=>4
 |some r=>if runOk L (id-1).toNat r then 0 else 7
def runL (L:List Rq) (id pod:Int):List Rq:=match reqAt L id with
 |none=>L
 |some r=>if runOk L (id-1).toNat r then L.set (id-1).toNat ⟨r.id,r.src,r.til,2,pod⟩else L
theorem run_no {L:List Rq} {pod:Int} (h: ¬(1≤id∧id≤L.length)):runE L id=4∧runL L id pod=L:=by simp [runE,runL,reqAt_no h]
theorem run_state {L:List Rq} {r:Rq} {pod:Int} (h:L[i]? =some r) (hf:runOk L i r=false):runE L ((i:Int)+1)=7∧runL L ((i:Int)+1) pod=L:=by simp [runE,runL,reqAt_yes h,hf]
theorem run_ok {L:List Rq} {r:Rq} {pod:Int} (h:L[i]? =some r) (hf:runOk L i r=true):runE L ((i:Int)+1)=0∧runL L ((i:Int)+1) pod=L.set i ⟨r.id,r.src,r.til,2,pod⟩:=by simp [runE,runL,reqAt_yes h,hf]
theorem run_inv {L:List Rq} (h:Inv L) (id pod:Int):Inv (runL L id pod):=by
 by_cases hi:1≤id∧id≤L.length
 ·obtain⟨i,rfl,hl⟩:=id_nat hi;obtain⟨r,hr⟩: ∃r,L[i]? =some r:=⟨L[i],by simp [hl]⟩
  cases hf:runOk L i r with
  |true=>
   rw [(run_ok hr hf).2];refine h.set hr rfl ?_;have:=h.bd r (Xk hr);unfold Okr at*;simp only;omega
  |false=>rw [(run_state hr hf).2];exact h
 ·rw [(run_no hi).2];exact h
def nextN (L:List Rq):Int:=match L.findIdx? (mayRun L)with
 |none=>0
 |some i=>(i:Int)+1
def nextB (L:List Rq):Bool:=(L.findIdx? (mayRun L)).isSome
