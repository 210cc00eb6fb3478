/- A part. -/
import Derived.Test.YthiapcajheepbaaGreatDoorPwParsePlain
import Derived.Maps.AppendAt
import Derived.Lib.LazyBuf
set_option linter.all false
open Go.Proofs.Tryz
namespace Go.Proofs.YthiapcajheepbaaGreatDoor
namespace Pln
open Go.RowKit Crn Pie
variable {A:Array Value}

/-! ### Numbers, several of them -/
/-! ### Only one block has turned -/
structure OnlyQ (Q:Nat) (w w':World):Prop where
 os:w'.os=w.os
 tape:w'.tape=w.tape
 output:w'.output=w.output
 size:w.heap.size≤w'.heap.size
 block: ∀k,k<w.heap.size→k≠Q→w'.heap[k]? =w.heap[k]?
 fz: ∀o,w'.frozen? ⟨Q,o,none⟩=w.frozen? ⟨Q,o,none⟩
section
variable {Q : Nat} {w w' w'' : World}
theorem OnlyQ.refl (Q:Nat) (w:World):OnlyQ Q w w:=⟨rfl,rfl,rfl,Xa _,fun _ _ _=>rfl,fun _=>rfl⟩
theorem OnlyQ.trans (h:OnlyQ Q w w') (g:OnlyQ Q w' w''):OnlyQ Q w w'':=
 ⟨g.os.trans h.os,g.tape.trans h.tape,g.output.trans h.output,Xc h.size g.size,fun k hk hQ=>(g.block k (Xb hk h.size) hQ).trans (h.block k hk hQ),fun o=>(g.fz o).trans (h.fz o)⟩
theorem OnlyQ.of_below (g:Below w.heap.size w w') (hQ:Q<w.heap.size):OnlyQ Q w w':=
 ⟨g.os,g.tape,g.output,g.size,fun k hk _=>g.block k hk,fun _=>Xl (g.block Q hQ)⟩
theorem OnlyQ.set (Q:Nat) (w:World) (j:Nat) (u:Value):OnlyQ Q w (w.setCell ⟨Q,j,none⟩ u):=
 ⟨rfl,rfl,rfl,by simp,fun k _ hQ=>Below.heap_setCell w ⟨Q,j,none⟩ u k hQ,fun o=>by rw [Xi]⟩
theorem OnlyQ.sets (Q:Nat): ∀(vs:List Value) (w:World) (j:Nat),OnlyQ Q w (w.setCells Q j vs)
 | [],w,_=>OnlyQ.refl Q w
 |v::r,w,j=>(OnlyQ.set Q w j v).trans (OnlyQ.sets Q r _ (j+1))
theorem OnlyQ.below {N:Nat} (h:OnlyQ Q w w') (hN:N≤Q) (hw:N≤w.heap.size):Below N w w':=
 ⟨h.os,h.tape,h.output,h.size,fun k hk=>h.block k (by omega) (by omega)⟩
theorem OnlyQ.cell (h:OnlyQ Q w w') {a:Addr} (ha:a.block<w.heap.size) (hne:a.block≠Q):w'.cell? a=w.cell? a:=Xf (h.block _ ha hne)
structure Told (Q:Nat) (os:List Nat) (ns:List Int) (w w':World):Prop where
 len:ns.length=os.length
 got: ∀(j o:Nat) (n:Int),os[j]? =some o→ns[j]? =some n→w'.cell? ⟨Q,o,none⟩=some (.int .i64 n)
 kept: ∀o,o∉os→w'.cell? ⟨Q,o,none⟩=w.cell? ⟨Q,o,none⟩
variable {os : List Nat} {ns : List Int}
theorem Told.below (h:Told Q os ns w w') (g:Below w'.heap.size w' w'') (hQ:Q<w'.heap.size):Told Q os ns w w'':=
 ⟨h.len,fun j o n ho hn=>(Xf (w:=w') (a:=⟨Q,o,none⟩) (g.block Q hQ)).trans (h.got j o n ho hn),fun o ho=>(Xf (w:=w') (a:=⟨Q,o,none⟩) (g.block Q hQ)).trans (h.kept o ho)⟩
theorem Told.ex (h:Told Q os ns w w') {j o:Nat} (ho:os[j]? =some o): ∃n,ns[j]? =some n∧w'.cell? ⟨Q,o,none⟩=some (.int .i64 n):=by
 have hj:j<ns.length:=by rw [h.len];exact(Xe.1 ho).1
 exact⟨ns[j],Xz hj,h.got j o _ ho (Xz hj)⟩
theorem Told.set (h:Told Q os ns w w') (hd:os.Nodup) {k o:Nat} (ho:os[k]? =some o) (n:Int):Told Q os (ns.set k n) w (w'.setCell ⟨Q,o,none⟩ (.int .i64 n)):=by
 obtain⟨m,_,hm⟩:=h.ex ho;refine⟨by rw [Yg];exact h.len,fun j o' n' ho' hn'=> ?_,fun o' ho'=> ?_⟩
 ·by_cases e:j=k
  ·subst e;rw [ho]at ho';cases ho';have hj:j<ns.length:=by rw [h.len];exact(Xe.1 ho).1
   rw [Ys hj]at hn';cases hn';exact Xn _ _ _ hm
  ·rw [Yt (fun g=>e g.symm)]at hn';have ne:o'≠o:=by
    intro g;subst g;exact e ((List.getElem?_inj (Xe.1 ho').1 hd).1 (ho'.trans ho.symm))
   rw [Xd (h:=fun g=>ne (congrArg Addr.off g).symm)];exact h.got j o' n' ho' hn'
 ·have ne:o'≠o:=fun g=>ho' (g▸Xk ho);rw [Xd (h:=fun g=>ne (congrArg Addr.off g).symm)];exact h.kept o' ho'
def setAll:Array Value→List Nat→List Int→Array Value
 |A,o::os,n::ns=>(setAll A os ns).setIfInBounds o (.int .i64 n)
 |A,_,_=>A
theorem setAll_size (A:Array Value): ∀(os:List Nat) (ns:List Int),(setAll A os ns).size=A.size
 | [],_=>by unfold setAll;rfl
 |_::_,[]=>rfl
 |o::os,n::ns=>by unfold setAll;rw [Array.size_setIfInBounds,setAll_size A os ns]
theorem setAll_get (A:Array Value): ∀(os:List Nat) (ns:List Int),ns.length=os.length→os.Nodup→(∀o∈os,o<A.size)→(∀(j o:Nat) (n:Int),os[j]? =some o→ns[j]? =some n→(setAll A os ns)[o]? =some (.int .i64 n))∧ ∀o,o∉os→(setAll A os ns)[o]? =A[o]?
 | [],ns,_,_,_=>⟨fun j o n h=>by simp at h,fun o _=>by unfold setAll;rfl⟩
 |_::_,[],h,_,_=>by simp at h
 |o::os,n::ns,h,hd,hs=>by
  rw [List.nodup_cons]at hd
  obtain⟨i1,i2⟩:=setAll_get A os ns (by simpa using h) hd.2 (fun x hx=>hs x (Xy _ hx))
  have e:setAll A (o::os) (n::ns)=(setAll A os ns).setIfInBounds o (.int .i64 n):=rfl
  have hos:=hs o XF
  rw [e]
  refine⟨fun j o' n' h1 h2=> ?_,fun o' ho'=> ?_⟩
  ·cases j with
   |zero=>
    simp at h1 h2
    subst h1 h2
    rw [Array.getElem?_setIfInBounds_self_of_lt (by rw [setAll_size];exact hos)]
   |succ j=>
    have h3:os[j]? =some o':=by simpa using h1
    have h4:ns[j]? =some n':=by simpa using h2
    have ne:o≠o':=fun g=>hd.1 (g▸Xk h3)
    rw [Array.getElem?_setIfInBounds_ne ne]
    exact i1 j o' n' h3 h4
  ·have ne:o≠o':=fun g=>ho' (g▸XF)
   rw [Array.getElem?_setIfInBounds_ne ne]
   exact i2 o' (fun g=>ho' (Xy _ g))
theorem Told.arr (h:Told Q os ns w w') (hd:os.Nodup) (hA: ∀o,w.cell? ⟨Q,o,none⟩=A[o]?) (hs: ∀o∈os,o<A.size): ∀o,w'.cell? ⟨Q,o,none⟩=(setAll A os ns)[o]? :=by
 obtain⟨i1,i2⟩:=setAll_get A os ns h.len hd hs;intro o;by_cases ho:o∈os
 ·obtain⟨j,hj⟩:=Yr.1 ho;obtain⟨n,h1,h2⟩:=h.ex hj;rw [h2,i1 j o n hj h1]
 ·rw [h.kept o ho,i2 o ho,hA]
def setRow (A:Array Value):Nat→List Value→Array Value
 |_,[]=>A
 |o,v::vs=>setRow (A.setIfInBounds o v) (o+1) vs
theorem cells_set (hA: ∀o,w.cell? ⟨Q,o,none⟩=A[o]?) (j:Nat) (u:Value) (hj:j<A.size): ∀o,(w.setCell ⟨Q,j,none⟩ u).cell? ⟨Q,o,none⟩=(A.setIfInBounds j u)[o]? :=by
 intro o;by_cases e:j=o
 ·subst e;rw [Array.getElem?_setIfInBounds_self_of_lt hj];exact Xn _ _ _ ((hA j).trans (X7 hj))
 ·rw [Array.getElem?_setIfInBounds_ne e,Xd (h:=fun g=>e (congrArg Addr.off g))];exact hA o
end

/-! ### The plan -/
def celT (ts:List Tr):List Value:=ts.flatMap fun t=>(trC t).toList
theorem celT_get: ∀(ts:List Tr) (i:Nat) (t:Tr) (j:Nat),ts[i]? =some t→j<17→(celT ts)[i*17+j]? =(trC t)[j]?
 | [],i,t,j,h,_=>by simp at h
 |x::ts,0,t,j,h,hj=>by
  simp at h
  subst h
  have e:celT (x::ts)=(trC x).toList++celT ts:=by unfold celT;rw [List.flatMap_cons]
  rw [e,XY (by simp;omega)]
  rw [Nat.zero_mul,Xv,Array.getElem?_toList]
 |x::ts,i+1,t,j,h,hj=>by
  have ih:=celT_get ts i t j (by simpa using h) hj
  have e:celT (x::ts)=(trC x).toList++celT ts:=by unfold celT;rw [List.flatMap_cons]
  have hl:(trC x).toList.length=17:=by simp
  rw [e,Yh (by rw [hl];omega),hl,←ih]
  congr 1
  omega
structure PS (w:World) (e:TypeId) (N Q:Nat) (p:Pd) (ts:List Tr) (v:Value):Prop where
 lt:Q<w.heap.size
 bQ:N≤Q
 cel: ∀o,w.cell? ⟨Q,o,none⟩=(planC p v)[o]?
 fz: ∀o,w.frozen? ⟨Q,o,none⟩=false
 own:w.ownsRow N e 17 v ts.length (celT ts)
 ne:v.ownBlock≠some Q
section
variable {w w' w'' : World} {e : TypeId} {N Q : Nat} {p p' : Pd} {ts ts' : List Tr} {v v' : Value}
theorem owns_blockT {n:Nat} {xs:List Value} (h:w.ownsRow N e 17 v n xs) (hb: ∀g,v.ownBlock=some g→w'.heap[g]? =w.heap[g]?):w'.ownsRow N e 17 v n xs:=by
 refine⟨h.1,?_⟩;rcases h.2 with a|⟨g,cap,cur,rfl,h1,h2,h3⟩
 ·exact Or.inl a
 ·exact Or.inr ⟨g,cap,cur,rfl,h1,(hb g rfl).trans h2,h3⟩
theorem PS.turn (h:PS w e N Q p ts v) (o:OnlyQ Q w w') (hA: ∀o,w'.cell? ⟨Q,o,none⟩=(planC p' v)[o]?):PS w' e N Q p' ts v:=
 ⟨Xb h.lt o.size,h.bQ,hA,fun j=>(o.fz j).trans (h.fz j),owns_blockT h.own (fun g hg=>o.block g (h.own.lt g hg).2 (fun e=>h.ne (e▸hg))),h.ne⟩
theorem PS.below (h:PS w e N Q p ts v) (hb:Below w.heap.size w w'):PS w' e N Q p ts v:=
 ⟨Xb h.lt hb.size,h.bQ,fun o=>(Xf (w:=w) (a:=⟨Q,o,none⟩) (hb.block Q h.lt)).trans (h.cel o),fun o=>(Xl (w:=w) (a:=⟨Q,o,none⟩) (hb.block Q h.lt)).trans (h.fz o),owns_blockT h.own (fun g hg=>hb.block g (h.own.lt g hg).2),h.ne⟩
theorem PS.told (h:PS w e N Q p ts v) (o:OnlyQ Q w w') {os:List Nat} {ns:List Int} (t:Told Q os ns w w') (hd:os.Nodup) (hs: ∀o∈os,o<18) (hp:setAll (planC p v) os ns=planC p' v):PS w' e N Q p' ts v:=
 h.turn o (by rw [←hp];exact t.arr hd h.cel (by intro o ho;have:=hs o ho;simpa using this))
theorem PS.appended (h:PS w e N Q p ts v) (hg:w.grownBy w' v.ownBlock) (hown:w'.ownsRow N e 17 v' ts'.length (celT ts')) (hl:v'.ownBlock=v.ownBlock∨v'.ownBlock=some w.heap.size):PS (w'.setCell ⟨Q,17,none⟩ v') e N Q p ts' v':=by
 have hQ:w'.heap[Q]? =w.heap[Q]? :=hg.block Q h.lt (fun e=>h.ne e.symm);have hne:v'.ownBlock≠some Q:=by
  rcases hl with e|e
  ·rw [e];exact h.ne
  ·rw [e];have:=h.lt;intro h';cases h';omega
 have hc: ∀o,w'.cell? ⟨Q,o,none⟩=(planC p v)[o]? :=fun o=>(Xf (w:=w) (a:=⟨Q,o,none⟩) hQ).trans (h.cel o);refine⟨?_,h.bQ,?_,fun j=> ?_,owns_blockT hown (fun g hg=>Below.heap_setCell w' _ _ g (fun e=>hne (by rw [hg];exact congrArg some e))),hne⟩
 ·have:=h.lt;have:=hg.size;simp;omega
 ·exact cells_set hc 17 v' (by simp)
 ·rw [Xi];exact(Xl (w:=w) (a:=⟨Q,j,none⟩) hQ).trans (h.fz j)
theorem PS.form (h:PS w e N Q p ts v): ∃ao cap,v=.slice ao ts.length cap∧ts.length≤cap∧cap≤maxLen∧TrsAt w ao ts:=by
 rcases h.own.2 with⟨a,b⟩|⟨g,cap,cur,a,a2,a3,b,c,a4⟩
 ·refine⟨none,0,by rw [a,b],by omega,by unfold maxLen;omega,fun i t hi=> ?_⟩;have:ts=[]:=Yy.1 b;subst this;simp at hi
 ·refine⟨some ⟨g,0,none⟩,cap,a,b,c,fun i t hi=> ?_⟩;have hown:=h.own;rw [a]at hown;have hi2:i<ts.length:=(Xe.1 hi).1;refine⟨g,0,rfl,(hown.lt g rfl).2,fun j hj=> ?_⟩;rw [Xv,hown.cellAt _ (by omega),celT_get ts i t j hi hj]
theorem PS.new (w:World) (e ta:TypeId):PS (w.alloc (.cells (planC p0 (.slice none 0 0)) ta)) e w.heap.size w.heap.size p0 [] (.slice none 0 0):=
 ⟨by simp,Xa _,fun o=>by simp,fun o=>by simp,XO _ _ _ _,by simp [Value.ownBlock]⟩
end
