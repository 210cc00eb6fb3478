/- A part. -/
import Derived.Test.YtaekecgbdegemaaGreatDoorPtParsePlain
import Derived.Maps.AppendAt
import Derived.Lib.LazyBuf
set_option linter.all false
open Go.Proofs.Tryz
namespace Go.Proofs.YtaekecgbdegemaaGreatDoor
namespace Pln
open Go.RowKit Crn Pie
variable {n j:Nat} {x:List UInt8} {A:Array Value} {r:List (List UInt8)} {w1:World}

/-! ### Numbers, several of them -/
def NsB (n:Nat) (ws:List (List UInt8)):Bool:=decide (ws.length=n)&&ws.all (fun x=>(num7 x).isSome)
theorem nsB_all {ws:List (List UInt8)} (hl:ws.length=n) (h: ∀(j:Nat) x,ws[j]? =some x→(num7 x).isSome=true):NsB n ws=true:=by
 unfold NsB;rw [Xq,decide_eq_true_eq];refine⟨hl,Ye.2 fun x hx=> ?_⟩;obtain⟨j,hj⟩:=Yr.1 hx;exact h j x hj
theorem nsB_len {ws:List (List UInt8)} (hl:ws.length≠n):NsB n ws=false:=by
 unfold NsB;rw [Yb];left;rw [decide_eq_false_iff_not];exact hl
theorem nsB_no {ws:List (List UInt8)} (h:ws[j]? =some x) (hx:num7 x=none):NsB n ws=false:=by
 unfold NsB;rw [Yb];right;rw [List.all_eq_false];exact⟨x,Xk h,by rw [hx];decide⟩
theorem nsB_iff {ws:List (List UInt8)} (h:NsB n ws=true):ws.length=n∧ ∀x∈ws,∃m,num7 x=some m:=by
 unfold NsB at h;rw [Xq,decide_eq_true_eq]at h;refine⟨h.1,fun x hx=> ?_⟩;have:=Ye.1 h.2 x hx;exact Option.isSome_iff_exists.1 this
theorem four_no {ws:List (List UInt8)} (h:NsB 4 ws=false):four ws=none:=by
 match ws with
 | []=>rfl
 | [_]=>rfl
 | [_,_]=>rfl
 | [_,_,_]=>rfl
 | [a,b,c,d]=>
  unfold four;dsimp only;cases h1:num7 a with
  |none=>rfl
  |some x=>cases h2:num7 b with
   |none=>rfl
   |some y=>cases h3:num7 c with
    |none=>rfl
    |some z=>cases h4:num7 d with
     |none=>rfl
     |some u=>simp [NsB,h1,h2,h3,h4]at h
 |_::_::_::_::_::_=>rfl
theorem two_no {ws:List (List UInt8)} (h:NsB 2 ws=false):two ws=none:=by
 match ws with
 | []=>rfl
 | [_]=>rfl
 | [a,b]=>
  unfold two;dsimp only;cases h1:num7 a with
  |none=>rfl
  |some x=>cases h2:num7 b with
   |none=>rfl
   |some y=>simp [NsB,h1,h2]at h
 |_::_::_::_=>rfl
theorem four_yes {ws:List (List UInt8)} {ns:List Int} (h:NsB 4 ws=true) (hl:ns.length=4) (hn: ∀(j:Nat) x,ws[j]? =some x→num7 x=ns[j]?): ∃a b c d,ns=[a,b,c,d]∧four ws=some (a,b,c,d):=by
 obtain⟨hw,_⟩:=nsB_iff h;match ws,hw,ns,hl with
 | [x,y,z,u],_,[a,b,c,d],_=>
  have q0:=hn 0 x rfl;have q1:=hn 1 y rfl;have q2:=hn 2 z rfl;have q3:=hn 3 u rfl;refine⟨a,b,c,d,rfl,?_⟩;unfold four;dsimp only;rw [q0,q1,q2,q3];rfl
theorem two_yes {ws:List (List UInt8)} {ns:List Int} (h:NsB 2 ws=true) (hl:ns.length=2) (hn: ∀(j:Nat) x,ws[j]? =some x→num7 x=ns[j]?): ∃a b,ns=[a,b]∧two ws=some (a,b):=by
 obtain⟨hw,_⟩:=nsB_iff h;match ws,hw,ns,hl with
 | [x,y],_,[a,b],_=>
  have q0:=hn 0 x rfl;have q1:=hn 1 y rfl;refine⟨a,b,rfl,?_⟩;unfold two;dsimp only;rw [q0,q1];rfl
theorem one_no (h:NsB 1 [x]=false):num7 x=none:=by
 cases h1:num7 x with
 |none=>rfl
 |some n=>simp [NsB,h1]at h
theorem one_yes {ns:List Int} (hl:ns.length=1) (hn: ∀(j:Nat) y,[x][j]? =some y→num7 y=ns[j]?): ∃a,ns=[a]∧num7 x=some a:=by
 match ns,hl with
 | [a],_=>exact⟨a,rfl,hn 0 x rfl⟩

/-! ### Only one block has turned -/
structure OnlyQ (Q:Nat) (w w':World):Prop where
 os:w'.os=w.os
 tape:w'.tape=w.tape
 output:w'.output=w.output
 size:w.heap.size≤w'.heap.size
 block: ∀k,k<w.heap.size→k≠Q→w'.heap[k]? =w.heap[k]?
 fz: ∀o,w'.frozen? ⟨Q,o,none⟩=w.frozen? ⟨Q,o,none⟩
section
variable {Q : Nat} {w w' w'' : World}
theorem OnlyQ.refl (Q:Nat) (w:World):OnlyQ Q w w:=⟨rfl,rfl,rfl,Xa _,fun _ _ _=>rfl,fun _=>rfl⟩
theorem OnlyQ.trans (h:OnlyQ Q w w') (g:OnlyQ Q w' w''):OnlyQ Q w w'':=
 ⟨g.os.trans h.os,g.tape.trans h.tape,g.output.trans h.output,Xc h.size g.size,fun k hk hQ=>(g.block k (Xb hk h.size) hQ).trans (h.block k hk hQ),fun o=>(g.fz o).trans (h.fz o)⟩
theorem OnlyQ.of_below (g:Below w.heap.size w w') (hQ:Q<w.heap.size):OnlyQ Q w w':=
 ⟨g.os,g.tape,g.output,g.size,fun k hk _=>g.block k hk,fun _=>Xl (g.block Q hQ)⟩
theorem OnlyQ.set (Q:Nat) (w:World) (j:Nat) (u:Value):OnlyQ Q w (w.setCell ⟨Q,j,none⟩ u):=
 ⟨rfl,rfl,rfl,by simp,fun k _ hQ=>Below.heap_setCell w ⟨Q,j,none⟩ u k hQ,fun o=>by rw [Xi]⟩
theorem OnlyQ.sets (Q:Nat): ∀(vs:List Value) (w:World) (j:Nat),OnlyQ Q w (w.setCells Q j vs)
 | [],w,_=>OnlyQ.refl Q w
 |v::r,w,j=>(OnlyQ.set Q w j v).trans (OnlyQ.sets Q r _ (j+1))
theorem OnlyQ.below {N:Nat} (h:OnlyQ Q w w') (hN:N≤Q) (hw:N≤w.heap.size):Below N w w':=
 ⟨h.os,h.tape,h.output,h.size,fun k hk=>h.block k (by omega) (by omega)⟩
theorem OnlyQ.cell (h:OnlyQ Q w w') {a:Addr} (ha:a.block<w.heap.size) (hne:a.block≠Q):w'.cell? a=w.cell? a:=Xf (h.block _ ha hne)
structure Told (Q:Nat) (os:List Nat) (ns:List Int) (w w':World):Prop where
 len:ns.length=os.length
 got: ∀(j o:Nat) (n:Int),os[j]? =some o→ns[j]? =some n→w'.cell? ⟨Q,o,none⟩=some (.int .i64 n)
 kept: ∀o,o∉os→w'.cell? ⟨Q,o,none⟩=w.cell? ⟨Q,o,none⟩
variable {os : List Nat} {ns : List Int}
theorem Told.below (h:Told Q os ns w w') (g:Below w'.heap.size w' w'') (hQ:Q<w'.heap.size):Told Q os ns w w'':=
 ⟨h.len,fun j o n ho hn=>(Xf (w:=w') (a:=⟨Q,o,none⟩) (g.block Q hQ)).trans (h.got j o n ho hn),fun o ho=>(Xf (w:=w') (a:=⟨Q,o,none⟩) (g.block Q hQ)).trans (h.kept o ho)⟩
theorem Told.ex (h:Told Q os ns w w') {o:Nat} (ho:os[j]? =some o): ∃n,ns[j]? =some n∧w'.cell? ⟨Q,o,none⟩=some (.int .i64 n):=by
 have hj:j<ns.length:=by rw [h.len];exact(Xe.1 ho).1
 exact⟨ns[j],Xz hj,h.got j o _ ho (Xz hj)⟩
theorem Told.set (h:Told Q os ns w w') (hd:os.Nodup) {k o:Nat} (ho:os[k]? =some o) (n:Int):Told Q os (ns.set k n) w (w'.setCell ⟨Q,o,none⟩ (.int .i64 n)):=by
 obtain⟨m,_,hm⟩:=h.ex ho;refine⟨by rw [Yg];exact h.len,fun j o' n' ho' hn'=> ?_,fun o' ho'=> ?_⟩
 ·by_cases e:j=k
  ·subst e;rw [ho]at ho';cases ho';have hj:j<ns.length:=by rw [h.len];exact(Xe.1 ho).1
   rw [Ys hj]at hn';cases hn';exact Xn _ _ _ hm
  ·rw [Yt (fun g=>e g.symm)]at hn';have ne:o'≠o:=by
    intro g;subst g;exact e ((List.getElem?_inj (Xe.1 ho').1 hd).1 (ho'.trans ho.symm))
   rw [Xd (h:=fun g=>ne (congrArg Addr.off g).symm)];exact h.got j o' n' ho' hn'
 ·have ne:o'≠o:=fun g=>ho' (g▸Xk ho);rw [Xd (h:=fun g=>ne (congrArg Addr.off g).symm)];exact h.kept o' ho'
def setAll:Array Value→List Nat→List Int→Array Value
 |A,o::os,n::ns=>(setAll A os ns).setIfInBounds o (.int .i64 n)
 |A,_,_=>A
theorem setAll_size (A:Array Value): ∀(os:List Nat) (ns:List Int),(setAll A os ns).size=A.size
 | [],_=>by unfold setAll;rfl
 |_::_,[]=>rfl
 |o::os,n::ns=>by unfold setAll;rw [Array.size_setIfInBounds,setAll_size A os ns]
theorem setAll_get (A:Array Value): ∀(os:List Nat) (ns:List Int),ns.length=os.length→os.Nodup→(∀o∈os,o<A.size)→(∀(j o:Nat) (n:Int),os[j]? =some o→ns[j]? =some n→(setAll A os ns)[o]? =some (.int .i64 n))∧ ∀o,o∉os→(setAll A os ns)[o]? =A[o]?
 | [],ns,_,_,_=>⟨fun j o n h=>by simp at h,fun o _=>by unfold setAll;rfl⟩
 |_::_,[],h,_,_=>by simp at h
 |o::os,n::ns,h,hd,hs=>by
  rw [List.nodup_cons]at hd
  obtain⟨i1,i2⟩:=setAll_get A os ns (by simpa using h) hd.2 (fun x hx=>hs x (Xy _ hx))
  have e:setAll A (o::os) (n::ns)=(setAll A os ns).setIfInBounds o (.int .i64 n):=rfl
  have hos:=hs o XF
  rw [e]
  refine⟨fun j o' n' h1 h2=> ?_,fun o' ho'=> ?_⟩
  ·cases j with
   |zero=>
    simp at h1 h2
    subst h1 h2
    rw [Array.getElem?_setIfInBounds_self_of_lt (by rw [setAll_size];exact hos)]
   |succ j=>
    have h3:os[j]? =some o':=by simpa using h1
    have h4:ns[j]? =some n':=by simpa using h2
    have ne:o≠o':=fun g=>hd.1 (g▸Xk h3)
    rw [Array.getElem?_setIfInBounds_ne ne]
    exact i1 j o' n' h3 h4
  ·have ne:o≠o':=fun g=>ho' (g▸XF)
   rw [Array.getElem?_setIfInBounds_ne ne]
   exact i2 o' (fun g=>ho' (Xy _ g))
theorem Told.arr (h:Told Q os ns w w') (hd:os.Nodup) (hA: ∀o,w.cell? ⟨Q,o,none⟩=A[o]?) (hs: ∀o∈os,o<A.size): ∀o,w'.cell? ⟨Q,o,none⟩=(setAll A os ns)[o]? :=by
 obtain⟨i1,i2⟩:=setAll_get A os ns h.len hd hs;intro o;by_cases ho:o∈os
 ·obtain⟨j,hj⟩:=Yr.1 ho;obtain⟨n,h1,h2⟩:=h.ex hj;rw [h2,i1 j o n hj h1]
 ·rw [h.kept o ho,i2 o ho,hA]
def setRow (A:Array Value):Nat→List Value→Array Value
 |_,[]=>A
 |o,v::vs=>setRow (A.setIfInBounds o v) (o+1) vs
theorem cells_set (hA: ∀o,w.cell? ⟨Q,o,none⟩=A[o]?) (j:Nat) (u:Value) (hj:j<A.size): ∀o,(w.setCell ⟨Q,j,none⟩ u).cell? ⟨Q,o,none⟩=(A.setIfInBounds j u)[o]? :=by
 intro o;by_cases e:j=o
 ·subst e;rw [Array.getElem?_setIfInBounds_self_of_lt hj];exact Xn _ _ _ ((hA j).trans (X7 hj))
 ·rw [Array.getElem?_setIfInBounds_ne e,Xd (h:=fun g=>e (congrArg Addr.off g))];exact hA o
theorem cells_sets: ∀(vs:List Value) {w:World} {A:Array Value} (j:Nat),(∀o,w.cell? ⟨Q,o,none⟩=A[o]?)→j+vs.length≤A.size→ ∀o,(w.setCells Q j vs).cell? ⟨Q,o,none⟩=(setRow A j vs)[o]?
 | [],_,_,_,hA,_=>hA
 |v::vs,w,A,j,hA,hj=>by
  have hj':j+(vs.length+1)≤A.size:=hj
  exact cells_sets vs (w:=w.setCell ⟨Q,j,none⟩ v) (A:=A.setIfInBounds j v) (j+1) (cells_set hA j v (by omega)) (by rw [Array.size_setIfInBounds];omega)
end

/-! ### The plan -/
def celT (ts:List Tr):List Value:=ts.flatMap fun t=>(trC t).toList
theorem celT_snoc (ts:List Tr) (t:Tr):celT (ts++ [t])=celT ts++(trC t).toList:=by unfold celT;rw [List.flatMap_append];simp
theorem celT_get: ∀(ts:List Tr) (i:Nat) (t:Tr) (j:Nat),ts[i]? =some t→j<17→(celT ts)[i*17+j]? =(trC t)[j]?
 | [],i,t,j,h,_=>by simp at h
 |x::ts,0,t,j,h,hj=>by
  simp at h
  subst h
  have e:celT (x::ts)=(trC x).toList++celT ts:=by unfold celT;rw [List.flatMap_cons]
  rw [e,XY (by simp;omega)]
  rw [Nat.zero_mul,Xv,Array.getElem?_toList]
 |x::ts,i+1,t,j,h,hj=>by
  have ih:=celT_get ts i t j (by simpa using h) hj
  have e:celT (x::ts)=(trC x).toList++celT ts:=by unfold celT;rw [List.flatMap_cons]
  have hl:(trC x).toList.length=17:=by simp
  rw [e,Yh (by rw [hl];omega),hl,←ih]
  congr 1
  omega
structure PS (w:World) (e:TypeId) (N Q:Nat) (p:Pd) (ts:List Tr) (v:Value):Prop where
 lt:Q<w.heap.size
 bQ:N≤Q
 cel: ∀o,w.cell? ⟨Q,o,none⟩=(planC p v)[o]?
 fz: ∀o,w.frozen? ⟨Q,o,none⟩=false
 own:w.ownsRow N e 17 v ts.length (celT ts)
 ne:v.ownBlock≠some Q
section
variable {w w' w'' : World} {e : TypeId} {N Q : Nat} {p p' : Pd} {ts ts' : List Tr} {v v' : Value}
theorem owns_blockT {xs:List Value} (h:w.ownsRow N e 17 v n xs) (hb: ∀g,v.ownBlock=some g→w'.heap[g]? =w.heap[g]?):w'.ownsRow N e 17 v n xs:=by
 refine⟨h.1,?_⟩;rcases h.2 with a|⟨g,cap,cur,rfl,h1,h2,h3⟩
 ·exact Or.inl a
 ·exact Or.inr ⟨g,cap,cur,rfl,h1,(hb g rfl).trans h2,h3⟩
theorem PS.turn (h:PS w e N Q p ts v) (o:OnlyQ Q w w') (hA: ∀o,w'.cell? ⟨Q,o,none⟩=(planC p' v)[o]?):PS w' e N Q p' ts v:=
 ⟨Xb h.lt o.size,h.bQ,hA,fun j=>(o.fz j).trans (h.fz j),owns_blockT h.own (fun g hg=>o.block g (h.own.lt g hg).2 (fun e=>h.ne (e▸hg))),h.ne⟩
theorem PS.below (h:PS w e N Q p ts v) (hb:Below w.heap.size w w'):PS w' e N Q p ts v:=
 ⟨Xb h.lt hb.size,h.bQ,fun o=>(Xf (w:=w) (a:=⟨Q,o,none⟩) (hb.block Q h.lt)).trans (h.cel o),fun o=>(Xl (w:=w) (a:=⟨Q,o,none⟩) (hb.block Q h.lt)).trans (h.fz o),owns_blockT h.own (fun g hg=>hb.block g (h.own.lt g hg).2),h.ne⟩
theorem PS.nN (h:PS w e N Q p ts v):N≤w.heap.size:=by have:=h.lt;have:=h.bQ;omega
theorem PS.told (h:PS w e N Q p ts v) (o:OnlyQ Q w w') {os:List Nat} {ns:List Int} (t:Told Q os ns w w') (hd:os.Nodup) (hs: ∀o∈os,o<18) (hp:setAll (planC p v) os ns=planC p' v):PS w' e N Q p' ts v:=
 h.turn o (by rw [←hp];exact t.arr hd h.cel (by intro o ho;have:=hs o ho;simpa using this))
theorem PS.appended (h:PS w e N Q p ts v) (hg:w.grownBy w' v.ownBlock) (hown:w'.ownsRow N e 17 v' ts'.length (celT ts')) (hl:v'.ownBlock=v.ownBlock∨v'.ownBlock=some w.heap.size):PS (w'.setCell ⟨Q,17,none⟩ v') e N Q p ts' v':=by
 have hQ:w'.heap[Q]? =w.heap[Q]? :=hg.block Q h.lt (fun e=>h.ne e.symm);have hne:v'.ownBlock≠some Q:=by
  rcases hl with e|e
  ·rw [e];exact h.ne
  ·rw [e];have:=h.lt;intro h';cases h';omega
 have hc: ∀o,w'.cell? ⟨Q,o,none⟩=(planC p v)[o]? :=fun o=>(Xf (w:=w) (a:=⟨Q,o,none⟩) hQ).trans (h.cel o);refine⟨?_,h.bQ,?_,fun j=> ?_,owns_blockT hown (fun g hg=>Below.heap_setCell w' _ _ g (fun e=>hne (by rw [hg];exact congrArg some e))),hne⟩
 ·have:=h.lt;have:=hg.size;simp;omega
 ·exact cells_set hc 17 v' (by simp)
 ·rw [Xi];exact(Xl (w:=w) (a:=⟨Q,j,none⟩) hQ).trans (h.fz j)
theorem PS.grown_below (h:PS w e N Q p ts v) (hg:w.grownBy w' v.ownBlock) (u:Value):Below N w (w'.setCell ⟨Q,17,none⟩ u):=by
 have hb:=h.bQ;have hl:=h.lt;refine⟨hg.os,hg.tape,hg.output,by simpa using hg.size,fun k hk=> ?_⟩;refine(Below.heap_setCell w' ⟨Q,17,none⟩ u k (by show k≠Q;omega)).trans (hg.block k (by omega) (fun e=> ?_));have:=(h.own.lt k e.symm).1;omega
theorem PS.form (h:PS w e N Q p ts v): ∃ao cap,v=.slice ao ts.length cap∧ts.length≤cap∧cap≤maxLen∧TrsAt w ao ts:=by
 rcases h.own.2 with⟨a,b⟩|⟨g,cap,cur,a,a2,a3,b,c,a4⟩
 ·refine⟨none,0,by rw [a,b],by omega,by unfold maxLen;omega,fun i t hi=> ?_⟩;have:ts=[]:=Yy.1 b;subst this;simp at hi
 ·refine⟨some ⟨g,0,none⟩,cap,a,b,c,fun i t hi=> ?_⟩;have hown:=h.own;rw [a]at hown;have hi2:i<ts.length:=(Xe.1 hi).1;refine⟨g,0,rfl,(hown.lt g rfl).2,fun j hj=> ?_⟩;rw [Xv,hown.cellAt _ (by omega),celT_get ts i t j hi hj]
theorem PS.new (w:World) (e ta:TypeId):PS (w.alloc (.cells (planC p0 (.slice none 0 0)) ta)) e w.heap.size w.heap.size p0 [] (.slice none 0 0):=
 ⟨by simp,Xa _,fun o=>by simp,fun o=>by simp,XO _ _ _ _,by simp [Value.ownBlock]⟩
end
def LineR (e:TypeId) (N Q:Nat) (w:World) (o:Option (Pd×List Tr)) (E:Ending) (w':World):Prop:=match o with
 |none=>E=.returned (.bool false)∧Below N w w'
 |some (p',ts')=>E=.returned (.bool true)∧Below N w w'∧ ∃v',PS w' e N Q p' ts' v'

section
variable {rd : List UInt8 → Option K} {i : Nat} {st : Pd × List Tr} {s a b : List UInt8}
theorem readL_stop (h:4≤i):readL rd i st (pieces 10 [])=.inr st:=by
 show readL rd i st [[]]=_;unfold readL;rw [if_pos ⟨h,rfl⟩]
theorem readL_none (h:(10:UInt8)∉s) (hs: ¬(4≤i∧s=[])):readL rd i st (pieces 10 s)=.inl (i+1):=by
 rw [pieces_none h];unfold readL;rw [if_neg hs]
theorem readL_bad (h:(10:UInt8)∉a) (hl:lineS rd i st (pieces 32 a)=none):readL rd i st (pieces 10 (a++10::b))=.inl (i+1):=by
 rw [pieces_hit h];cases hp:pieces 10 b with
 |nil=>exact absurd hp (pieces_ne 10 b)
 |cons y ys=>
  unfold readL;rw [hl]
theorem readL_good {st':Pd×List Tr} (h:(10:UInt8)∉a) (hl:lineS rd i st (pieces 32 a)=some st'):readL rd i st (pieces 10 (a++10::b))=readL rd (i+1) st' (pieces 10 b):=by
 rw [pieces_hit h];cases hp:pieces 10 b with
 |nil=>exact absurd hp (pieces_ne 10 b)
 |cons y ys=>
  conv=>lhs;unfold readL
  rw [hl]
end
theorem num7_I {n:Int} (h:num7 x=some n): -10000000<n∧n<10000000:=by
 have key: ∀D:List UInt8,okD D=true→0≤valD D∧valD D<10000000:=by
  intro D hD;unfold okD at hD;rw [Xq,decide_eq_true_eq]at hD;obtain⟨b1,b2⟩:=valD_bd _ D rfl hD.2;refine⟨b1,Int.lt_of_lt_of_le b2 ?_⟩;have q:(10:Nat)^D.length≤10^7:=Yd (by decide) hD.1.2;have q2:((10^D.length:Nat):Int)≤((10^7:Nat):Int):=Int.ofNat_le.2 q;rw [Int.natCast_pow]at q2;exact q2
 unfold num7 at h;split at h
 ·split at h
  ·rename_i g;have:=key _ (by first|exact g.1|exact g);cases h;omega
  ·cases h
 ·split at h
  ·rename_i g;have:=key _ (by first|exact g.1|exact g);cases h;omega
  ·cases h
theorem four_I {ws:List (List UInt8)} {q:Int×Int×Int×Int} (h:four ws=some q):I q.1∧I q.2.1∧I q.2.2.1∧I q.2.2.2:=by
 cases hb:NsB 4 ws
 ·rw [four_no hb]at h;cases h
 ·obtain⟨hw,hn⟩:=nsB_iff hb;match ws,hw with
  | [x,y,z,u],_=>
   obtain⟨a,ha⟩:=hn x (by simp);obtain⟨b,hb⟩:=hn y (by simp);obtain⟨c,hc⟩:=hn z (by simp);obtain⟨d,hd⟩:=hn u (by simp);unfold four at h;dsimp only at h;rw [ha,hb,hc,hd]at h;cases h;have a1:=num7_I ha;have b1:=num7_I hb;have c1:=num7_I hc;have d1:=num7_I hd;simp only [I];omega
def GoodP (p:Pd):Prop:=PdI p∧p.nm.length≤3000
theorem I0:I 0:=⟨by decide,by decide⟩
theorem good0:GoodP p0:=⟨⟨I0,I0,I0,I0,I0,I0,I0,I0,I0,I0,I0,I0,I0,I0,I0,I0⟩,by decide⟩
theorem nm_l16 {t:List UInt8} (h:nmB t=true):t.length≤16:=by unfold nmB at h;rw [Xq,decide_eq_true_eq]at h;exact h.1.2
theorem line_good {rd:List UInt8→Option K} {i:Nat} {p p':Pd} {ts ts':List Tr} {ws:List (List UInt8)} (h:lineS rd i (p,ts) ws=some (p',ts')) (hp:GoodP p):GoodP p'∧ts'.length≤ts.length+1:=by
 obtain⟨hi,hn⟩:=hp;unfold lineS at h;split at h
 ·rw [XH]at h;obtain⟨q,h1,h2⟩:=h;cases h2;refine⟨?_,Xm _⟩;unfold line0 at h1;split at h1
  ·split at h1
   ·rename_i hw;rw [XH]at h1;obtain⟨f,h3,rfl⟩:=h1;obtain⟨f0,f1,f2,f3⟩:=four_I h3;exact⟨⟨f0,f1,f2,f3,hi.tl,hi.bk,hi.af,hi.sh,hi.uw,hi.up,hi.uc,hi.ue,hi.dw,hi.dp,hi.dc,hi.de⟩,Xc (nm_l16 hw.2) (by decide)⟩
   ·cases h1
  ·cases h1
 ·split at h
  ·rw [XH]at h;obtain⟨q,h1,h2⟩:=h;cases h2;refine⟨?_,Xm _⟩;unfold line1 at h1;split at h1
   ·split at h1
    ·rw [XH]at h1;obtain⟨f,h3,rfl⟩:=h1;obtain⟨f0,f1,f2,f3⟩:=four_I h3;exact⟨⟨hi.mn,hi.mx,hi.po,hi.co,f0,f1,f2,f3,hi.uw,hi.up,hi.uc,hi.ue,hi.dw,hi.dp,hi.dc,hi.de⟩,hn⟩
    ·cases h1
   ·cases h1
  ·split at h
   ·rw [XH]at h;obtain⟨q,h1,h2⟩:=h;cases h2;refine⟨?_,Xm _⟩;unfold line2 at h1;split at h1
    ·split at h1
     ·rw [XH]at h1;obtain⟨f,h3,rfl⟩:=h1;obtain⟨f0,f1,f2,f3⟩:=four_I h3;exact⟨⟨hi.mn,hi.mx,hi.po,hi.co,hi.tl,hi.bk,hi.af,hi.sh,f0,f1,f2,f3,hi.dw,hi.dp,hi.dc,hi.de⟩,hn⟩
     ·cases h1
    ·cases h1
   ·split at h
    ·rw [XH]at h;obtain⟨q,h1,h2⟩:=h;cases h2;refine⟨?_,Xm _⟩;unfold line3 at h1;split at h1
     ·split at h1
      ·rw [XH]at h1;obtain⟨f,h3,rfl⟩:=h1;obtain⟨f0,f1,f2,f3⟩:=four_I h3;exact⟨⟨hi.mn,hi.mx,hi.po,hi.co,hi.tl,hi.bk,hi.af,hi.sh,hi.uw,hi.up,hi.uc,hi.ue,f0,f1,f2,f3⟩,hn⟩
      ·cases h1
     ·cases h1
    ·rw [XH]at h;obtain⟨q,h1,h2⟩:=h;cases h2;exact⟨⟨hi,hn⟩,by simp⟩
theorem spanC_join {rd:List UInt8→Option K} (h: ∀y∈r,(32:UInt8)∉y):spanC rd (pieces 32 (Lib.join r [32]))=spanC rd r:=by
 cases r with
 |nil=>rfl
 |cons x r=>rw [pieces_joins 32 x r h]
theorem two_I {ws:List (List UInt8)} {q:Int×Int} (h:two ws=some q):I q.1∧I q.2:=by
 cases hb:NsB 2 ws
 ·rw [two_no hb]at h;cases h
 ·obtain⟨hw,hn⟩:=nsB_iff hb;match ws,hw with
  | [x,y],_=>
   obtain⟨a,ha⟩:=hn x (by simp);obtain⟨b,hb⟩:=hn y (by simp);unfold two at h;dsimp only at h;rw [ha,hb]at h;cases h;have a1:=num7_I ha;have b1:=num7_I hb;simp only [I];omega
theorem us0:Us k0:=⟨⟨by decide,by decide⟩,⟨by decide,by decide⟩,⟨by decide,by decide⟩,⟨by decide,by decide⟩,⟨by decide,by decide⟩⟩
theorem trS_u {rd:List UInt8→Option K} (hrd: ∀s c,rd s=some c→Us c) {t:Tr} (h:trS rd x r=some t):TrU t:=by
 have i3: ∀n:Int,n=1∨n=2∨n=3∨n=0→I n:=fun n hn=>by unfold I;omega
 unfold trS at h;split at h
 ·rw [XH]at h;obtain⟨q,h1,rfl⟩:=h;exact⟨i3 1 (by omega),(two_I h1).1,(two_I h1).2,us0,us0⟩
 ·split at h
  ·rw [XH]at h;obtain⟨q,h1,rfl⟩:=h;exact⟨i3 2 (by omega),(two_I h1).1,(two_I h1).2,us0,us0⟩
  ·split at h
   ·unfold spanS at h;split at h
    ·cases h
    ·split at h
     ·rename_i n a b e1 e2;cases h;have hn:=num7_I e1;refine⟨i3 3 (by omega),?_,i3 0 (by omega),?_,?_⟩
      ·show I n;unfold I;omega
      ·unfold spanC at e2;split at e2
       ·exact hrd _ _ (both_some e2).1
       ·cases e2
      ·unfold spanC at e2;split at e2
       ·exact hrd _ _ (both_some e2).2
       ·cases e2
     ·cases h
   ·cases h
theorem line_tr {rd:List UInt8→Option K} (hrd: ∀s c,rd s=some c→Us c) {i:Nat} {p p':Pd} {ts ts':List Tr} {ws:List (List UInt8)} (h:lineS rd i (p,ts) ws=some (p',ts')) (ht: ∀t∈ts,TrU t): ∀t∈ts',TrU t:=by
 unfold lineS at h;split at h
 ·rw [XH]at h;obtain⟨q,h1,h2⟩:=h;cases h2;exact ht
 ·split at h
  ·rw [XH]at h;obtain⟨q,h1,h2⟩:=h;cases h2;exact ht
  ·split at h
   ·rw [XH]at h;obtain⟨q,h1,h2⟩:=h;cases h2;exact ht
   ·split at h
    ·rw [XH]at h;obtain⟨q,h1,h2⟩:=h;cases h2;exact ht
    ·rw [XH]at h;obtain⟨q,h1,h2⟩:=h;cases h2;intro t hm;rcases Xp.1 hm with hm|hm
     ·exact ht t hm
     ·simp at hm;subst hm;unfold lineT at h1;split at h1
      ·exact trS_u hrd h1
      ·cases h1
theorem readL_ok {rd:List UInt8→Option K} (hrd: ∀s c,rd s=some c→Us c): ∀(ls:List (List UInt8)) (i:Nat) (st:Pd×List Tr) (p:Pd) (ts:List Tr),readL rd i st ls=.inr (p,ts)→GoodP st.1→(∀t∈st.2,TrU t)→GoodP p∧ ∀t∈ts,TrU t
 | [],i,st,p,ts,h,_,_=>by unfold readL at h;cases h
 | [l],i,st,p,ts,h,h1,h2=>by
  unfold readL at h
  split at h
  ·cases h;exact⟨h1,h2⟩
  ·cases h
 |l::m::ls,i,st,p,ts,h,h1,h2=>by
  unfold readL at h
  cases hl:lineS rd i st (pieces 32 l)with
  |none=>rw [hl]at h;cases h
  |some st'=>
   rw [hl]at h
   exact readL_ok hrd (m::ls) (i+1) st' p ts h (line_good (p:=st.1) (ts:=st.2) (p':=st'.1) (ts':=st'.2) hl h1).1 (line_tr hrd (p:=st.1) (ts:=st.2) (p':=st'.1) (ts':=st'.2) hl h2)
def pl0:Value:=planV p0 (.slice none 0 0)
def PlanEnd (w':World) (p:Pd) (ts:List Tr) (e:Ending):Prop:=
 ∃a cap,e=.returned (.tuple #[planV p (.slice a ts.length cap),.int .i64 0,.int .i64 0])∧TrsAt w' a ts∧ts.length≤cap∧cap≤maxLen
def ReadR (r:Nat ⊕ (Pd×List Tr)) (e:Ending) (w':World):Prop:=match r with
 | .inl n=>e=.returned (.tuple #[pl0,.int .i64 n,.int .i64 3])
 | .inr (p,ts)=>(chkP p ts≠0∧e=.returned (.tuple #[pl0,.int .i64 0,.int .i64 (chkP p ts)]))∨(chkP p ts=0∧PlanEnd w' p ts e)
def PlanR (rd:List UInt8→Option K) (s:List UInt8) (e:Ending) (w':World):Prop:=
 (2048<s.length∧e=.returned (.tuple #[pl0,.int .i64 0,.int .i64 2]))∨(s.length≤2048∧ReadR (readL rd 0 (p0,[]) (pieces 10 s)) e w')

theorem told_refl {Q:Nat} {w:World} : ∀os:List Nat,(∀o∈os,∃n,w.cell? ⟨Q,o,none⟩=some (.int .i64 n))→ ∃ns,Told Q os ns w w
 | [],_=>⟨[],rfl,fun j o n h=>by simp at h,fun _ _=>rfl⟩
 |o::os,h=>by
  obtain⟨n,hn⟩:=h o XF
  obtain⟨ns,hl,hg,_⟩:=told_refl os (fun x hx=>h x (Xy _ hx))
  refine⟨n::ns,by simp [hl],fun j o' n' h1 h2=> ?_,fun _ _=>rfl⟩
  cases j with
  |zero=>simp at h1 h2;subst h1 h2;exact hn
  |succ j=>exact hg j o' n' (by simpa using h1) (by simpa using h2)
theorem plan_int (p:Pd) (v:Value): ∀o,1≤o→o≤16→ ∃n,(planC p v)[o]? =some (.int .i64 n)
 |0,h,_=>by omega
 |1,_,_=>⟨p.mn,by simp⟩
 |2,_,_=>⟨p.mx,by simp⟩
 |3,_,_=>⟨p.po,by simp⟩
 |4,_,_=>⟨p.co,by simp⟩
 |5,_,_=>⟨p.tl,by simp⟩
 |6,_,_=>⟨p.bk,by simp⟩
 |7,_,_=>⟨p.af,by simp⟩
 |8,_,_=>⟨p.sh,by simp⟩
 |9,_,_=>⟨p.uw,by simp⟩
 |10,_,_=>⟨p.up,by simp⟩
 |11,_,_=>⟨p.uc,by simp⟩
 |12,_,_=>⟨p.ue,by simp⟩
 |13,_,_=>⟨p.dw,by simp⟩
 |14,_,_=>⟨p.dp,by simp⟩
 |15,_,_=>⟨p.dc,by simp⟩
 |16,_,_=>⟨p.de,by simp⟩
 |o+17,_,h=>by omega
theorem PS.told0 {w:World} {e:TypeId} {N Q:Nat} {p:Pd} {ts:List Tr} {v:Value} (h:PS w e N Q p ts v) {os:List Nat} (ho: ∀o∈os,1≤o∧o≤16): ∃ns,Told Q os ns w w:=
 told_refl os fun o hm=>by rw [h.cel o];exact plan_int p v o (ho o hm).1 (ho o hm).2
def NumsR (ws:List (List UInt8)) (os:List Nat) (Q:Nat) (w:World) (e:Ending) (w':World):Prop:=
 e=.returned (.bool (NsB os.length ws))∧OnlyQ Q w w'∧ ∃ns,Told Q os ns w w'∧(NsB os.length ws=true→ ∀(j:Nat) x,ws[j]? =some x→num7 x=ns[j]?)
theorem NumsR.from {ws:List (List UInt8)} {os:List Nat} {Q:Nat} {w w':World} {e:Ending} (h:NumsR ws os Q w1 e w') (hb:Below w.heap.size w w1) (hQ:Q<w.heap.size):NumsR ws os Q w e w':=by
 obtain⟨h1,h2,ns,h3,h4⟩:=h;refine⟨h1,(OnlyQ.of_below hb hQ).trans h2,ns,⟨h3.len,h3.got,fun o ho=>(h3.kept o ho).trans ?_⟩,h4⟩;exact Xf (w:=w) (a:=⟨Q,o,none⟩) (hb.block Q hQ)
section
variable {w w' : World} {e : TypeId} {N Q : Nat} {p : Pd} {ts : List Tr} {v : Value} {ws : List (List UInt8)} {os : List Nat} {E : Ending}
theorem NumsR.line (h:NumsR ws os Q w E w') (hS:PS w e N Q p ts v) (hl:os.length=4) (hd:os.Nodup) (ho: ∀o∈os,o<18) (f:Int×Int×Int×Int→Pd) (hf: ∀a b c d,setAll (planC p v) os [a,b,c,d]=planC (f (a,b,c,d)) v):LineR e N Q w ((four ws).map fun q=>(f q,ts)) E w':=by
 obtain⟨h1,h2,ns,h3,h4⟩:=h;have hb:=h2.below hS.bQ hS.nN;rw [hl]at h1 h4;cases hB:NsB 4 ws
 ·rw [hB]at h1;rw [four_no hB];exact⟨h1,hb⟩
 ·rw [hB]at h1;obtain⟨a,b,c,d,rfl,hF⟩:=four_yes hB (by rw [h3.len,hl]) (h4 hB);rw [hF];exact⟨h1,hb,v,hS.told h2 h3 hd ho (hf a b c d)⟩
theorem LineR.from {o:Option (Pd×List Tr)} (h:LineR e N Q w1 o E w') (hb:Below N w w1):LineR e N Q w o E w':=by
 unfold LineR at h⊢;split
 ·exact⟨h.1,hb.trans h.2⟩
 ·exact⟨h.1,hb.trans h.2.1,h.2.2⟩
end
structure TS (w:World) (T:Nat) (t:Tr):Prop where
 lt:T<w.heap.size
 cel: ∀o,w.cell? ⟨T,o,none⟩=(trC t)[o]?
 fz: ∀o,w.frozen? ⟨T,o,none⟩=false
def t0:Tr:=⟨0,0,0,k0,k0⟩
section
variable {w w' : World} {T : Nat} {t t' : Tr} {ws : List (List UInt8)} {E : Ending}
theorem TS.new (w:World) (ta:TypeId) (t:Tr):TS (w.alloc (.cells (trC t) ta)) w.heap.size t:=⟨by simp,fun o=>by simp,fun o=>by simp⟩
theorem TS.turn (h:TS w T t) (o:OnlyQ T w w') (hA: ∀o,w'.cell? ⟨T,o,none⟩=(trC t')[o]?):TS w' T t':=⟨Xb h.lt o.size,hA,fun j=>(o.fz j).trans (h.fz j)⟩
theorem TS.below (h:TS w T t) (hb:Below w.heap.size w w'):TS w' T t:=
 ⟨Xb h.lt hb.size,fun o=>(Xf (w:=w) (a:=⟨T,o,none⟩) (hb.block T h.lt)).trans (h.cel o),fun o=>(Xl (w:=w) (a:=⟨T,o,none⟩) (hb.block T h.lt)).trans (h.fz o)⟩
theorem TS.told2 (h:TS w T t): ∃ns,Told T [1,2] ns w w:=told_refl _ fun o ho=>by
 rw [h.cel o]
 simp at ho
 rcases ho with rfl|rfl
 ·exact⟨t.tg,by simp⟩
 ·exact⟨t.ac,by simp⟩
theorem TS.told1 (h:TS w T t): ∃ns,Told T [1] ns w w:=told_refl _ fun o ho=>by
 rw [h.cel o]
 simp at ho
 subst ho
 exact⟨t.tg,by simp⟩
theorem NumsR.two (h:NumsR ws [1,2] T w E w') (hS:TS w T t): ∃a b,TS w' T { t with tg:=a,ac:=b } ∧E=.returned (.bool (two ws).isSome)∧OnlyQ T w w'∧ ∀q,two ws=some q→q=(a,b):=by
 obtain⟨h1,h2,ns,h3,h4⟩:=h;have hl:=h3.len;match ns,hl with
 | [a,b],_=>
  refine⟨a,b,hS.turn h2 (h3.arr (by decide) hS.cel (by simp)),?_,h2,fun q hq=> ?_⟩
  ·cases hB:NsB 2 ws
   ·rw [two_no hB,h1];show Ending.returned (.bool (NsB 2 ws))=_;rw [hB];rfl
   ·obtain⟨x,y,_,hF⟩:=two_yes hB h3.len (h4 hB);rw [hF,h1];show Ending.returned (.bool (NsB 2 ws))=_;rw [hB];rfl
  ·cases hB:NsB 2 ws
   ·rw [two_no hB]at hq;cases hq
   ·obtain⟨x,y,e,hF⟩:=two_yes hB h3.len (h4 hB);rw [hF]at hq;cases hq;cases e;rfl
theorem NumsR.one (h:NumsR [x] [1] T w E w') (hS:TS w T t): ∃a,TS w' T { t with tg:=a } ∧E=.returned (.bool (num7 x).isSome)∧OnlyQ T w w'∧ ∀q,num7 x=some q→q=a:=by
 obtain⟨h1,h2,ns,h3,h4⟩:=h;have hl:=h3.len;match ns,hl with
 | [a],_=>
  refine⟨a,hS.turn h2 (h3.arr (by decide) hS.cel (by simp)),?_,h2,fun q hq=> ?_⟩
  ·cases hB:NsB 1 [x]
   ·rw [one_no hB,h1];show Ending.returned (.bool (NsB 1 [x]))=_;rw [hB];rfl
   ·obtain⟨y,_,hF⟩:=one_yes h3.len (h4 hB);rw [hF,h1];show Ending.returned (.bool (NsB 1 [x]))=_;rw [hB];rfl
  ·cases hB:NsB 1 [x]
   ·rw [one_no hB]at hq;cases hq
   ·obtain⟨y,e,hF⟩:=one_yes h3.len (h4 hB);rw [hF]at hq;cases hq;cases e;rfl
theorem TS.setA (h:TS w T t) (c:K):TS (w.setCells T 3 [.int .u64 c.mi,.int .u64 c.ho,.int .u64 c.da,.int .u64 c.mn,.int .u64 c.we,.bool c.ad,.bool c.aw]) T { t with a:=c } :=
 h.turn (OnlyQ.sets T _ _ _) (by
  have e:setRow (trC t) 3 [.int .u64 c.mi,.int .u64 c.ho,.int .u64 c.da,.int .u64 c.mn,.int .u64 c.we,.bool c.ad,.bool c.aw]=trC { t with a:=c } :=by simp [setRow]
  rw [←e]
  exact cells_sets _ 3 h.cel (by simp))
theorem TS.setB (h:TS w T t) (c:K):TS (w.setCells T 10 [.int .u64 c.mi,.int .u64 c.ho,.int .u64 c.da,.int .u64 c.mn,.int .u64 c.we,.bool c.ad,.bool c.aw]) T { t with b:=c } :=
 h.turn (OnlyQ.sets T _ _ _) (by
  have e:setRow (trC t) 10 [.int .u64 c.mi,.int .u64 c.ho,.int .u64 c.da,.int .u64 c.mn,.int .u64 c.we,.bool c.ad,.bool c.aw]=trC { t with b:=c } :=by simp [setRow]
  rw [←e]
  exact cells_sets _ 10 h.cel (by simp))
theorem TS.there (h:TS w T t) (o n:Nat) (ho:o+n≤17): ∀j,j<n→(w.cell? ⟨T,o+j,none⟩).isSome=true∧w.frozen? ⟨T,o+j,none⟩=false:=fun j hj=>by
 refine⟨?_,h.fz _⟩
 rw [h.cel]
 simp
 omega
end
