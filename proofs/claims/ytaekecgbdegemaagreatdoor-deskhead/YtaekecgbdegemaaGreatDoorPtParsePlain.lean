/- A part. -/
import Derived.Lib.SplitLaws
import Derived.Test.YtaekecgbdegemaaGreatDoorPtCronPlain
import Derived.Lib.Join
import Derived.Lib.ItoaNum
set_option linter.all false
open Go.Proofs.Tryz
namespace Go.Proofs.YtaekecgbdegemaaGreatDoor
namespace Pie
variable {c:UInt8}

def pieces (c:UInt8):List UInt8→List (List UInt8)
 | []=> [[]]
 |x::r=>if x=c then []::pieces c r else(x::(pieces c r).headD [])::(pieces c r).tail

theorem pieces_cons (c x:UInt8) (r:List UInt8):pieces c (x::r)=if x=c then []::pieces c r else(x::(pieces c r).headD [])::(pieces c r).tail:=rfl
theorem pieces_ne (c:UInt8): ∀l,pieces c l≠ []
 | []=>by simp [pieces]
 |x::r=>by unfold pieces;split<;>simp
theorem pieces_none {c:UInt8} : ∀ {l:List UInt8},c∉l→pieces c l=[l]
 | [],_=>rfl
 |x::r,h=>by
  have h1: ¬x=c:=fun e=>h (e▸XF)
  have h2:=pieces_none (c:=c) (l:=r) (fun g=>h (Xy _ g))
  unfold pieces
  rw [if_neg h1,h2];rfl
theorem pieces_hit {c:UInt8} {b:List UInt8} : ∀ {a:List UInt8},c∉a→pieces c (a++c::b)=a::pieces c b
 | [],_=>by simp [pieces]
 |x::r,h=>by
  have h1: ¬x=c:=fun e=>h (e▸XF)
  have h2:=pieces_hit (c:=c) (b:=b) (a:=r) (fun g=>h (Xy _ g))
  rw [XR,pieces_cons,if_neg h1,h2];rfl
theorem cut_cases (c:UInt8): ∀l:List UInt8,c∉l∨ ∃a b,l=a++c::b∧c∉a
 | []=>Or.inl (by simp)
 |x::r=>by
  by_cases e:x=c
  ·exact Or.inr ⟨[],r,by simp [e],by simp⟩
  ·rcases cut_cases c r with h|⟨a,b,h1,h2⟩
   ·exact Or.inl (by simp [h];exact fun g=>e g.symm)
   ·exact Or.inr ⟨x::a,b,by simp [h1],by simp [h2];exact fun g=>e g.symm⟩
theorem index_none {l:List UInt8} (h:c∉l):Lib.indexByte l c= -1:=by
 rcases XN (Lib.indexByte l c) 0 with g|g
 ·have:=Lib.indexByte_ge l c;omega
 ·obtain⟨o,ho⟩:=Xh g;exact absurd (Xk (Lib.indexByte_some ho).1) h
theorem index_hit {a b:List UInt8} (h:c∉a):Lib.indexByte (a++c::b) c=a.length:=by
 have key:(a++c::b)[a.length]? =some c:=by simp
 rcases XN (Lib.indexByte (a++c::b) c) 0 with g|g
 ·have:=Lib.indexByte_ge (a++c::b) c;exact absurd key (Lib.indexByte_none (show Lib.indexByte (a++c::b) c= -1 by omega) a.length)
 ·obtain⟨o,ho⟩:=Xh g;obtain⟨h1,h2⟩:=Lib.indexByte_some ho;rw [ho];have h3: ¬o<a.length:=fun e=>by
   rw [XY e]at h1;exact h (Xk h1)
  have h4: ¬a.length<o:=fun e=>h2 a.length e key;omega
theorem splitK_pieces (c:UInt8): ∀(k:Nat) (l:List UInt8),l.count c=k→Lib.splitK [c] 0 k l=pieces c l
 |0,l,h=>by
  rw [pieces_none (List.count_eq_zero.1 h)];rfl
 |k+1,l,h=>by
  rcases cut_cases c l with g|⟨a,b,rfl,ha⟩
  ·rw [List.count_eq_zero.2 g]at h;omega
  ·have hb:b.count c=k:=by
    rw [List.count_append,List.count_cons_self,List.count_eq_zero.2 ha]at h;omega
   unfold Lib.splitK;rw [Lib.index_one,index_hit ha,pieces_hit ha];have e1:((a.length:Int)== -1)=false:=by rw [beq_eq_false_iff_ne];omega
   rw [e1];simp only [XU,if_false,XI,XD,Xr,XK];rw [show(a++c::b).take a.length=a by simp,show(a++c::b).drop (a.length+(0+1))=b by simp];rw [splitK_pieces c k b hb]
theorem pieces_len (c:UInt8): ∀l,(pieces c l).length=l.count c+1
 | []=>rfl
 |x::r=>by
  have ih:=pieces_len c r
  unfold pieces
  by_cases e:x=c
  ·rw [if_pos e,e,List.count_cons_self,Xr,ih]
  ·rw [if_neg e,Xr,List.length_tail,ih,List.count_cons_of_ne e];omega
theorem pieces_sub (c:UInt8): ∀(l:List UInt8) (p:List UInt8),p∈pieces c l→p.length≤l.length
 | [],p,h=>by simp [pieces]at h;subst h;simp
 |x::r,p,h=>by
  have ih:=pieces_sub c r
  unfold pieces at h
  by_cases e:x=c
  ·rw [if_pos e]at h
   rcases XG.1 h with rfl|h
   ·simp
   ·have:=ih p h;simp;omega
  ·rw [if_neg e]at h
   rcases XG.1 h with rfl|h
   ·have:(pieces c r).headD []∈pieces c r:=by
     cases g:pieces c r with
     |nil=>exact absurd g (pieces_ne c r)
     |cons y ys=>simp
    have:=ih _ this
    simp only [Xr];omega
   ·have:=ih p (List.mem_of_mem_tail h);simp;omega
end Pie
namespace Pie
open Crn
variable {t:List UInt8} {lo hi a b:Int}

def dg (x:UInt8):Bool:=decide (48≤x.toNat∧x.toNat≤57)
def num2:List UInt8→Option Int
 | [a]=>if dg a=true then some ((a.toNat:Int)-48)else none
 | [a,b]=>if dg a=true∧dg b=true then some (10*((a.toNat:Int)-48)+((b.toNat:Int)-48))else none
 |_=>none
theorem num2_bd {n:Int} (h:num2 t=some n):0≤n∧n≤99:=by
 unfold num2 at h;split at h
 ·split at h
  ·rename_i g;unfold dg at g;rw [decide_eq_true_eq]at g;cases h;omega
  ·cases h
 ·split at h
  ·rename_i g;unfold dg at g;rw [decide_eq_true_eq,decide_eq_true_eq]at g;cases h;omega
  ·cases h
 ·cases h
def cutS (c:UInt8):List UInt8→Option (List UInt8×List UInt8)
 | []=>none
 |x::r=>if x=c then some ([],r)else(cutS c r).map fun p=>(x::p.1,p.2)
theorem cutS_none {c:UInt8} : ∀ {l:List UInt8},c∉l→cutS c l=none
 | [],_=>rfl
 |x::r,h=>by
  have h1: ¬x=c:=fun e=>h (e▸XF)
  have e:cutS c (x::r)=if x=c then some ([],r)else(cutS c r).map fun p=>(x::p.1,p.2):=rfl
  rw [e,if_neg h1,cutS_none (fun g=>h (Xy _ g))];rfl
theorem cutS_hit {c:UInt8} {b:List UInt8} : ∀ {a:List UInt8},c∉a→cutS c (a++c::b)=some (a,b)
 | [],_=>by simp [cutS]
 |x::r,h=>by
  have h1: ¬x=c:=fun e=>h (e▸XF)
  have e:cutS c (x::(r++c::b))=if x=c then some ([],r++c::b)else(cutS c (r++c::b)).map fun p=>(x::p.1,p.2):=rfl
  rw [XR,e,if_neg h1,cutS_hit (fun g=>h (Xy _ g))];rfl
def rowS (lo hi:Int) (t:List UInt8):Option (Int×Int×Bool):=
 if t=[42]then some (lo,hi,false)
 else match cutS 45 t with
  |none=>match num2 t with
   |some n=>if lo≤n∧n≤hi then some (n,n,true)else none
   |none=>none
  |some (x,y)=>match num2 x,num2 y with
   |some a,some b=>if(lo≤a∧a≤hi)∧(lo≤b∧b≤hi)∧a≤b then some (a,b,false)else none
   |_,_=>none
def itemS (lo hi:Int) (t:List UInt8):Option (Int×Int×Int):=
 match cutS 47 t with
 |none=>match rowS lo hi t with
  |some (a,b,_)=>some (a,b,1)
  |none=>none
 |some (x,y)=>match rowS lo hi x,num2 y with
  |some (a,b,false),some st=>if 1≤st then some (a,b,st)else none
  |_,_=>none
theorem rowS_bd {s:Bool} (hl:lo≤hi) (h:rowS lo hi t=some (a,b,s)):lo≤a∧a≤b∧b≤hi:=by
 unfold rowS at h;split at h
 ·cases h;omega
 ·split at h
  ·split at h
   ·split at h
    ·cases h;omega
    ·cases h
   ·cases h
  ·split at h
   ·split at h
    ·cases h;omega
    ·cases h
   ·cases h
theorem itemS_bd {st:Int} (hl:lo≤hi) (h:itemS lo hi t=some (a,b,st)):lo≤a∧a≤b∧b≤hi∧1≤st∧st≤99:=by
 unfold itemS at h;split at h
 ·split at h
  ·rename_i g;have:=rowS_bd hl g;cases h;omega
  ·cases h
 ·split at h
  ·split at h
   ·rename_i g1 g2 _;have:=rowS_bd hl g1;have:=num2_bd g2;cases h;omega
   ·cases h
  ·cases h
def inI (p:Int×Int×Int) (n:Int):Bool:=decide (p.1≤n∧n≤p.2.1∧(n-p.1)%p.2.2=0)
def SetIs (l:List (Int×Int×Int)) (v:Int):Prop:=(0≤v∧v≤18446744073709551615)∧ ∀n,inS v n=l.any fun p=>inI p n
theorem setIs_one {l:List (Int×Int×Int)} {u v:Int} (h:SetIs l u) (g:SetIs l v):u=v:=u_ext _ _ h.1 g.1 fun n=>by rw [h.2,g.2]
def wordS (lo hi:Int):List (List UInt8)→Option (List (Int×Int×Int))
 | []=>some []
 |t::r=>match itemS lo hi t,wordS lo hi r with
  |some p,some l=>some (p::l)
  |_,_=>none
end Pie
namespace Crn
open Go.RowKit

def ntS (s:Int):Int:=18446744073709551615-s
theorem ntS_u (s:Int) (h:0≤s∧s≤18446744073709551615):0≤ntS s∧ntS s≤18446744073709551615:=by unfold ntS;omega
theorem in_not (s n:Int) (h:0≤s∧s≤18446744073709551615) (hn:0≤n∧n≤63):inS (ntS s) n= !inS s n:=by
 obtain⟨S,rfl⟩:=Xh h.1;obtain⟨N,rfl⟩:=Xh hn.1;have e:ntS (S:Int)=((2^64-(S+1):Nat):Int):=by unfold ntS;omega
 rw [e,inS_nat,inS_nat,decide_eq_true (show N≤63 by omega),XJ,XJ,Nat.testBit_two_pow_sub_succ (by omega),decide_eq_true (show N<64 by omega),XJ]
def isSt (s n:Int):Bool:=inS s n&& !inS s (n-1)
def endOf (s n:Int):Int:=frm (ntS s) n-1
def rowsU (s:Int):Nat→List (Int×Int)
 |0=> []
 |n+1=>rowsU s n++(if isSt s n=true then [((n:Int),endOf s n)]else [])
theorem rows_skip {s:Int} {a:Nat} : ∀(k:Nat),(∀j:Nat,a≤j→j<a+k→isSt s j=false)→rowsU s (a+k)=rowsU s a
 |0,_=>rfl
 |k+1,h=>by
  have e:rowsU s (a+k+1)=rowsU s (a+k)++(if isSt s ((a+k:Nat):Int)=true then [(((a+k:Nat):Int),endOf s ((a+k:Nat):Int))]else []):=rfl
  show rowsU s (a+k+1)=_
  rw [e,h (a+k) (by omega) (by omega),rows_skip k (fun j h1 h2=>h j h1 (by omega))];simp
theorem rows_none {s:Int} {a b:Nat} (hab:a≤b) (h: ∀j:Nat,a≤j→j<b→isSt s j=false):rowsU s b=rowsU s a:=by
 have:=rows_skip (s:=s) (a:=a) (b-a) (fun j h1 h2=>h j h1 (by omega));rwa [show a+(b-a)=b by omega]at this

section
variable {s : Int} (hs : 0 ≤ s ∧ s ≤ 18446744073709551615) (h60 : ∀ n, inS s n = true → n ≤ 59)
include hs h60
theorem end_spec {n:Int} (hn:inS s n=true):frmB (ntS s) n=true∧n<frm (ntS s) n∧frm (ntS s) n≤60∧inS s (frm (ntS s) n)=false∧ ∀m,n≤m→m<frm (ntS s) n→inS s m=true:=by
 have b:=inS_bd hn;have h59:=h60 n hn;have i60:inS (ntS s) 60=true:=by
  rw [in_not s 60 hs (by omega)];cases g:inS s 60
  ·rfl
  ·have:=h60 60 g;omega
 have hb:=frmB_mk (ntS_u s hs) b.1 (show n≤60 by omega) i60;obtain⟨f1,_,f2,f3⟩:=frm_yes (ntS s) n (ntS_u s hs) b.1 hb;have fb:=inS_bd f2;have f60:frm (ntS s) n≤60:=by
  by_cases g:frm (ntS s) n≤60
  ·exact g
  ·have:=f3 60 (by omega) (by omega);rw [i60]at this;cases this
 rw [in_not s _ hs fb]at f2;have f2':inS s (frm (ntS s) n)=false:=by simpa using f2
 refine⟨hb,?_,f60,f2',fun m h1 h2=> ?_⟩
 ·by_cases g:n=frm (ntS s) n
  ·rw [←g,hn]at f2';cases f2'
  ·omega
 ·have:=f3 m h1 h2;rw [in_not s m hs (by omega)]at this;simpa using this
theorem rows_on {n:Int} (hn:inS s n=true) (hp:inS s (n-1)=false):rowsU s (frm (ntS s) n).toNat=rowsU s n.toNat++ [(n,endOf s n)]:=by
 obtain⟨e1,e2,e3,e4,e5⟩:=end_spec hs h60 hn;have b:=inS_bd hn;obtain⟨N,rfl⟩:=Xh b.1;have:rowsU s (N+1)=rowsU s N++ [((N:Int),endOf s N)]:=by
  show rowsU s N++_=_;rw [show isSt s (N:Int)=true by unfold isSt;rw [hn,hp];rfl];rfl
 rw [XI,←this];refine rows_none (by omega) fun j h1 h2=> ?_;unfold isSt;rw [e5 ((j:Int)-1) (by omega) (by omega)];simp
end
theorem rows_to {s n m:Int} (h0:0≤n) (hnm:n≤m) (h: ∀j,n≤j→j<m→inS s j=false):rowsU s m.toNat=rowsU s n.toNat:=by
 refine rows_none (by omega) fun j h1 h2=> ?_;unfold isSt;rw [h j (by omega) (by omega)];rfl
def rowT (p:Int×Int):List UInt8:=if p.1=p.2 then Lib.decDigits p.1.toNat else Lib.decDigits p.1.toNat++ [45]++Lib.decDigits p.2.toNat
def wordT (s:Int) (star:Bool):List UInt8:=if star=true then [42]else Lib.join ((rowsU s 64).map rowT) [44]
end Crn
namespace Pln
open Crn Pie

def valD (l:List UInt8):Int:=l.foldl (fun n d=>10*n+((d.toNat:Int)-48)) 0
def okD (l:List UInt8):Bool:=decide (1≤l.length∧l.length≤7)&&l.all dg
def num7 (t:List UInt8):Option Int:=
 if t.head? =some 45 then(if okD t.tail=true∧t.tail.head?≠some 48 then some (-(valD t.tail))else none)
 else(if okD t=true∧ ¬(t.head? =some 48∧1<t.length)then some (valD t)else none)

theorem valD_snoc (l:List UInt8) (d:UInt8):valD (l++ [d])=10*valD l+((d.toNat:Int)-48):=by
 unfold valD;rw [List.foldl_append];rfl
theorem dgb {a:UInt8} (h:dg a=true):48≤(a.toNat:Int)∧(a.toNat:Int)≤57:=by unfold dg at h;rw [decide_eq_true_eq]at h;omega
theorem valD_bd: ∀(n:Nat) (l:List UInt8),l.length=n→l.all dg=true→0≤valD l∧valD l<10^n:=by
 intro n;induction n with
 |zero=>intro l h _;cases l with
  |nil=>simp [valD]
  |cons _ _=>cases h
 |succ n ih=>
  intro l h hd;rcases List.eq_nil_or_concat l with rfl|⟨r,d,rfl⟩
  ·cases h
  ·rw [List.concat_eq_append]at h hd⊢;have hr:r.length=n:=by simp at h;exact h
   rw [List.all_append,Xq]at hd;obtain⟨i1,i2⟩:=ih r hr hd.1;have g:=dgb (a:=d) (by simpa using hd.2);rw [valD_snoc,Int.pow_succ];omega

def four (ws:List (List UInt8)):Option (Int×Int×Int×Int):=match ws with
 | [a,b,c,d]=>match num7 a,num7 b,num7 c,num7 d with
  |some x,some y,some z,some u=>some (x,y,z,u)
  |_,_,_,_=>none
 |_=>none
def two (ws:List (List UInt8)):Option (Int×Int):=match ws with
 | [a,b]=>match num7 a,num7 b with
  |some x,some y=>some (x,y)
  |_,_=>none
 |_=>none
def cutW:List (List UInt8)→Option (List (List UInt8)×List (List UInt8))
 | []=>none
 |x::r=>if x=[47]then some ([],r)else(cutW r).map fun p=>(x::p.1,p.2)
def both (x y:Option K):Option (K×K):=match x,y with
 |some a,some b=>some (a,b)
 |_,_=>none
def k0:K:=⟨0,0,0,0,0,false,false⟩
def p0:Pd:=⟨[],0,0,0,0,0,0,0,0,0,0,0,0,0,0,0,0⟩
abbrev wPlan:List UInt8:=[112,108,97,110]
abbrev wRest:List UInt8:=[114,101,115,116]
abbrev wUp:List UInt8:=[117,112]
abbrev wDown:List UInt8:=[100,111,119,110]
abbrev wLag:List UInt8:=[108,97,103]
abbrev wDepth:List UInt8:=[100,101,112,116,104]
abbrev wSpan:List UInt8:=[115,112,97,110]
section
variable (rd : List UInt8 → Option K)
def spanC (rest:List (List UInt8)):Option (K×K):=match cutW rest with
 |some (xs,ys)=>both (rd (Lib.join xs [32])) (rd (Lib.join ys [32]))
 |none=>none
def spanS (r:List (List UInt8)):Option Tr:=match r with
 | []=>none
 |t::rest=>match num7 t,spanC rd rest with
  |some n,some (a,b)=>some ⟨3,n,0,a,b⟩
  |_,_=>none
def trS (w:List UInt8) (r:List (List UInt8)):Option Tr:=
 if w=wLag then(two r).map fun p=>⟨1,p.1,p.2,k0,k0⟩
 else if w=wDepth then(two r).map fun p=>⟨2,p.1,p.2,k0,k0⟩
 else if w=wSpan then spanS rd r else none
def line0 (ws:List (List UInt8)) (p:Pd):Option Pd:=match ws with
 |w::nm::r=>if w=wPlan∧nmB nm=true then(four r).map fun q=> { p with nm:=nm,mn:=q.1,mx:=q.2.1,po:=q.2.2.1,co:=q.2.2.2 } else none
 |_=>none
def line1 (ws:List (List UInt8)) (p:Pd):Option Pd:=match ws with
 |w::r=>if w=wRest then(four r).map fun q=> { p with tl:=q.1,bk:=q.2.1,af:=q.2.2.1,sh:=q.2.2.2 } else none
 |_=>none
def line2 (ws:List (List UInt8)) (p:Pd):Option Pd:=match ws with
 |w::r=>if w=wUp then(four r).map fun q=> { p with uw:=q.1,up:=q.2.1,uc:=q.2.2.1,ue:=q.2.2.2 } else none
 |_=>none
def line3 (ws:List (List UInt8)) (p:Pd):Option Pd:=match ws with
 |w::r=>if w=wDown then(four r).map fun q=> { p with dw:=q.1,dp:=q.2.1,dc:=q.2.2.1,de:=q.2.2.2 } else none
 |_=>none
def lineT (ws:List (List UInt8)):Option Tr:=match ws with
 |w::r=>trS rd w r
 |_=>none
def lineS (i:Nat) (st:Pd×List Tr) (ws:List (List UInt8)):Option (Pd×List Tr):=
 if i=0 then(line0 ws st.1).map fun p=>(p,st.2)
 else if i=1 then(line1 ws st.1).map fun p=>(p,st.2)
 else if i=2 then(line2 ws st.1).map fun p=>(p,st.2)
 else if i=3 then(line3 ws st.1).map fun p=>(p,st.2)
 else(lineT rd ws).map fun t=>(st.1,st.2++ [t])
def readL:Nat→Pd×List Tr→List (List UInt8)→Nat ⊕ (Pd×List Tr)
 |i,_,[]=> .inl (i+1)
 |i,st,[l]=>if 4≤i∧l=[]then .inr st else .inl (i+1)
 |i,st,l::m::ls=>match lineS rd i st (pieces 32 l)with
  |some st'=>readL (i+1) st' (m::ls)
  |none=> .inl (i+1)
end

/-! ### A text that is cut at ` / ` -/
def CutR (s a b:List UInt8) (f:Bool):Prop:=
 (f=true∧s=a++ [32,47,32]++b)∨(f=false∧a=s∧b=[]∧ ∀x y,s≠x++ [32,47,32]++y)
theorem cut_rel (s:List UInt8):CutR s (Lib.cut s [32,47,32]).1 (Lib.cut s [32,47,32]).2.1 (Lib.cut s [32,47,32]).2.2:=by
 have key: ∀s:List UInt8,(∀i:Nat,Lib.index s [32,47,32]=i→s=s.take i++ [32,47,32]++s.drop (i+3))∧(Lib.index s [32,47,32]= -1→ ∀x y,s≠x++ [32,47,32]++y):=by
  intro s;induction s with
  |nil=>
   refine⟨fun i h=> ?_,fun _ x y h=> ?_⟩
   ·simp [Lib.index]at h
   ·have:=congrArg List.length h;simp at this
  |cons c l ih=>
   have e:Lib.index (c::l) [32,47,32]=if([32,47,32]:List UInt8).isPrefixOf (c::l)then 0 else if Lib.index l [32,47,32]== -1 then-1 else Lib.index l [32,47,32]+1:=rfl
   have ge:=Lib.index_ge l [32,47,32];by_cases hp:([32,47,32]:List UInt8).isPrefixOf (c::l)=true
   ·rw [if_pos hp]at e;refine⟨fun i h=> ?_,fun h=> ?_⟩
    ·rw [e]at h;obtain rfl:i=0:=by omega
     rw [List.isPrefixOf_iff_prefix]at hp;obtain⟨t,ht⟩:=hp;rw [←ht];simp
    ·rw [e]at h;omega
   ·rw [if_neg hp]at e;by_cases h1:Lib.index l [32,47,32]= -1
    ·rw [h1]at e;refine⟨fun i h=> ?_,fun _ x y h=> ?_⟩
     ·rw [e]at h;simp at h
     ·cases x with
      |nil=>exact hp (by rw [List.isPrefixOf_iff_prefix];exact⟨y,by rw [h];simp⟩)
      |cons d x=>
       have h2:l=x++ [32,47,32]++y:=by simp at h⊢;exact h.2
       exact ih.2 h1 x y h2
    ·have e2:(Lib.index l [32,47,32]== -1)=false:=by rw [beq_eq_false_iff_ne];exact h1
     rw [e2]at e;refine⟨fun i h=> ?_,fun h=> ?_⟩
     ·rw [e]at h;obtain⟨j,hj⟩: ∃j:Nat,Lib.index l [32,47,32]=j:=⟨(Lib.index l [32,47,32]).toNat,by omega⟩
      have hi:i=j+1:=by simp at h;omega
      subst hi;have:=ih.1 j hj;rw [List.take_succ_cons,show j+1+3=j+3+1 by omega,List.drop_succ_cons,XR,XR];exact congrArg _ this
     ·rw [e]at h;simp at h;omega
 unfold Lib.cut;by_cases h:0≤Lib.index s [32,47,32]
 ·rw [if_pos h];exact Or.inl ⟨rfl,(key s).1 _ (by omega)⟩
 ·rw [if_neg h];have:=Lib.index_ge s [32,47,32];exact Or.inr ⟨rfl,rfl,rfl,(key s).2 (by omega)⟩
theorem pieces_app (c:UInt8): ∀(a b:List UInt8),pieces c (a++c::b)=pieces c a++pieces c b
 | [],b=>by simp [pieces]
 |x::r,b=>by
  rw [XR,pieces_cons,pieces_cons,pieces_app c r b]
  by_cases e:x=c
  ·rw [if_pos e,if_pos e];rfl
  ·rw [if_neg e,if_neg e]
   cases h:pieces c r with
   |nil=>exact absurd h (pieces_ne c r)
   |cons y ys=>rfl
theorem join_pieces (c:UInt8): ∀s:List UInt8,Lib.join (pieces c s) [c]=s
 | []=>by simp [pieces,Lib.join_one]
 |x::r=>by
  have ih:=join_pieces c r
  rw [pieces_cons]
  cases h:pieces c r with
  |nil=>exact absurd h (pieces_ne c r)
  |cons y ys=>
   rw [h]at ih
   by_cases e:x=c
   ·subst e
    rw [if_pos rfl,Lib.join_cons,Yf]
    rw [Lib.join_cons]at ih
    show [x]++y++Lib.joinTail [x] ys=_
    rw [X4,ih];rfl
   ·rw [if_neg e,Lib.join_cons,List.headD_cons,List.tail_cons,XR]
    rw [Lib.join_cons]at ih
    rw [ih]
theorem pieces_no (c:UInt8): ∀(s y:List UInt8),y∈pieces c s→c∉y
 | [],y,h=>by simp [pieces]at h;subst h;simp
 |x::r,y,h=>by
  have ih:=pieces_no c r
  rw [pieces_cons]at h
  by_cases e:x=c
  ·rw [if_pos e]at h
   rcases XG.1 h with rfl|h
   ·simp
   ·exact ih y h
  ·rw [if_neg e]at h
   rcases XG.1 h with rfl|h
   ·cases g:pieces c r with
    |nil=>exact absurd g (pieces_ne c r)
    |cons z zs=>
     rw [List.headD_cons]
     have:=ih z (by rw [g];exact XF)
     intro q
     rcases XG.1 q with q|q
     ·exact e q.symm
     ·exact this q
   ·exact ih y (List.mem_of_mem_tail h)
theorem pieces_joins (c:UInt8): ∀(x:List UInt8) (r:List (List UInt8)),(∀y∈x::r,c∉y)→pieces c (Lib.join (x::r) [c])=x::r
 |x,[],h=>by rw [Lib.join_one];exact pieces_none (h x XF)
 |x,y::r,h=>by
  have ih:=pieces_joins c y r (fun z hz=>h z (Xy _ hz))
  rw [Lib.join_cons]
  show pieces c (x++([c]++y++Lib.joinTail [c] r))=_
  rw [show x++([c]++y++Lib.joinTail [c] r)=x++c::(y++Lib.joinTail [c] r) by simp,←Lib.join_cons,pieces_hit (h x XF),ih]
theorem cutW_none: ∀ {l:List (List UInt8)},[47]∉l→cutW l=none
 | [],_=>rfl
 |x::r,h=>by
  have h1: ¬x=[47]:=fun e=>h (e▸XF)
  have e:cutW (x::r)=if x=[47]then some ([],r)else(cutW r).map fun p=>(x::p.1,p.2):=rfl
  rw [e,if_neg h1,cutW_none (fun g=>h (Xy _ g))];rfl
theorem cutW_hit {b:List (List UInt8)} : ∀ {a:List (List UInt8)},[47]∉a→cutW (a++ [47]::b)=some (a,b)
 | [],_=>by simp [cutW]
 |x::r,h=>by
  have h1: ¬x=[47]:=fun e=>h (e▸XF)
  have e:cutW (x::(r++ [47]::b))=if x=[47]then some ([],r++ [47]::b)else(cutW (r++ [47]::b)).map fun p=>(x::p.1,p.2):=rfl
  rw [XR,e,if_neg h1,cutW_hit (fun g=>h (Xy _ g))];rfl
theorem cutW_cases: ∀l:List (List UInt8),[47]∉l∨ ∃a b,l=a++ [47]::b∧ [47]∉a
 | []=>Or.inl (by simp)
 |x::r=>by
  by_cases e:x=[47]
  ·exact Or.inr ⟨[],r,by simp [e],by simp⟩
  ·rcases cutW_cases r with h|⟨a,b,h1,h2⟩
   ·exact Or.inl (by intro g;rcases XG.1 g with g|g;exact e g.symm;exact h g)
   ·exact Or.inr ⟨x::a,b,by simp [h1],by intro g;rcases XG.1 g with g|g;exact e g.symm;exact h2 g⟩
theorem split_one: ∀ {a b x y:List (List UInt8)},[47]∉a→ [47]∉x→a++ [47]::b=x++ [47]::y→a=x∧b=y
 |a,b,x,y,ha,hx,h=>by
  have e1:=cutW_hit (b:=b) ha
  rw [h,cutW_hit hx]at e1
  cases e1;exact⟨rfl,rfl⟩
section
variable {rd : List UInt8 → Option K}
theorem both_some {x y:Option K} {p:K×K} (h:both x y=some p):x=some p.1∧y=some p.2:=by
 unfold both at h;split at h
 ·cases h;exact⟨rfl,rfl⟩
 ·cases h
theorem span_cut (hs: ∀s,[47]∈pieces 32 s→rd s=none) (h0:rd []=none) {s a b:List UInt8} {f:Bool} (hc:CutR s a b f):both (rd a) (rd b)=spanC rd (pieces 32 s):=by
 have hp3: ∀x y:List UInt8,pieces 32 (x++ [32,47,32]++y)=pieces 32 x++ [47]::pieces 32 y:=by
  intro x y;rw [show x++ [32,47,32]++y=x++32::([47]++32::y) by simp,pieces_app,pieces_app,pieces_none (c:=32) (l:=[47]) (by decide)];rfl
 cases hb:both (rd a) (rd b)with
 |some p=>
  obtain⟨e1,e2⟩:=both_some hb;have n1:[47]∉pieces 32 a:=fun g=>by rw [hs a g]at e1;cases e1
  rcases hc with⟨rfl,rfl⟩|⟨rfl,rfl,rfl,_⟩
  ·unfold spanC;rw [hp3,cutW_hit n1];show _=both (rd (Lib.join (pieces 32 a) [32])) (rd (Lib.join (pieces 32 b) [32]));rw [join_pieces,join_pieces,hb]
  ·rw [h0]at e2;cases e2
 |none=>
  cases hq:spanC rd (pieces 32 s)with
  |none=>rfl
  |some p=>
   exfalso;unfold spanC at hq;rcases cutW_cases (pieces 32 s)with g|⟨xs,ys,g1,g2⟩
   ·rw [cutW_none g]at hq;cases hq
   ·rw [g1,cutW_hit g2]at hq;replace hq:both (rd (Lib.join xs [32])) (rd (Lib.join ys [32]))=some p:=hq;obtain⟨e1,e2⟩:=both_some hq;have nob: ∀y∈pieces 32 s,(32:UInt8)∉y:=fun y hy=>pieces_no 32 s y hy;rw [g1]at nob;cases xs with
    |nil=>rw [Lib.join_nil,h0]at e1;cases e1
    |cons x xs=>
     cases ys with
     |nil=>rw [Lib.join_nil,h0]at e2;cases e2
     |cons y ys=>
      have px:pieces 32 (Lib.join (x::xs) [32])=x::xs:=pieces_joins 32 x xs (fun z hz=>nob z (by simp at hz⊢;rcases hz with h|h<;>simp [h]));have py:pieces 32 (Lib.join (y::ys) [32])=y::ys:=pieces_joins 32 y ys (fun z hz=>nob z (by simp at hz⊢;rcases hz with h|h<;>simp [h]));have ny:[47]∉y::ys:=fun g=>by rw [hs _ (by rw [py];exact g)]at e2;cases e2
      have hs2:s=Lib.join (x::xs) [32]++ [32,47,32]++Lib.join (y::ys) [32]:=by
       rw [←join_pieces 32 s,←join_pieces 32 (Lib.join (x::xs) [32]++ [32,47,32]++Lib.join (y::ys) [32]),hp3,px,py,g1]
      rcases hc with⟨rfl,hs3⟩|⟨rfl,rfl,rfl,hno⟩
      ·have g3:=g1;rw [hs3,hp3]at g3;have cnt:=congrArg (List.count [47]) g3;have c1:List.count [47] (x::xs)=0:=List.count_eq_zero.2 g2;have c2:List.count [47] (y::ys)=0:=List.count_eq_zero.2 ny;rw [List.count_append,List.count_append,List.count_cons_self,List.count_cons_self,c1,c2]at cnt;have n1:[47]∉pieces 32 a:=List.count_eq_zero.1 (by omega);obtain⟨q1,q2⟩:=split_one n1 g2 g3;have ea:a=Lib.join (x::xs) [32]:=by rw [←join_pieces 32 a,q1]
       have eb:b=Lib.join (y::ys) [32]:=by rw [←join_pieces 32 b,q2]
       rw [ea,eb,hq]at hb;cases hb
      ·exact hno _ _ hs2
end

def lnT (w:List UInt8) (l:List Int):List UInt8:=w++Lib.joinTail [32] (l.map Lib.itoa)
section
variable (kT : K → List UInt8)
def trT (t:Tr):List UInt8:=
 if t.k=1 then lnT wLag [t.tg,t.ac]else if t.k=2 then lnT wDepth [t.tg,t.ac]
 else wSpan++ [32]++Lib.itoa t.tg++ [32]++kT t.a++ [32,47,32]++kT t.b
def headT (p:Pd):List UInt8:=
 lnT (wPlan++ [32]++p.nm) [p.mn,p.mx,p.po,p.co]++ [10]++(lnT wRest [p.tl,p.bk,p.af,p.sh]++ [10])++(lnT wUp [p.uw,p.up,p.uc,p.ue]++ [10])++(lnT wDown [p.dw,p.dp,p.dc,p.de]++ [10])
def tailT (ts:List Tr):List UInt8:=(ts.map fun t=>trT kT t++ [10]).flatten
def planT (p:Pd) (ts:List Tr):List UInt8:=headT p++tailT kT ts
end
section
variable {rd : List UInt8 → Option K} {kT : K → List UInt8}
end
end Pln
namespace Pie
open Crn
variable {full v:Int} {t:List UInt8} {l:List (Int×Int×Int)}

section
variable {s : Int} (hs : 0 ≤ s ∧ s ≤ 18446744073709551615) (h60 : ∀ n, inS s n = true → n ≤ 59)
include hs h60
end

theorem star_word {lo hi:Int} :wordS lo hi (pieces 44 [42])=some [(lo,hi,1)]:=by
 have e:pieces 44 [42]=[[42]]:=pieces_none (by decide);have i:itemS lo hi [42]=some (lo,hi,1):=by
  unfold itemS;rw [cutS_none (by decide)];dsimp only;unfold rowS;rw [if_pos rfl]
 rw [e];unfold wordS;rw [i];rfl
section
variable {s lo hi : Int} (hs : 0 ≤ s ∧ s ≤ 18446744073709551615) (hsub : ∀ n, inS s n = true → lo ≤ n ∧ n ≤ hi) (h59 : hi ≤ 59)
include hs hsub h59
end
theorem full_one {lo hi:Int} (hF:0≤full∧full≤18446744073709551615) (hf: ∀n,inS full n=decide (lo≤n∧n≤hi)):SetIs [(lo,hi,1)] v↔v=full:=by
 have e: ∀n,([(lo,hi,1)]:List (Int×Int×Int)).any (fun p=>inI p n)=decide (lo≤n∧n≤hi):=fun n=>by
  simp only [List.any_cons,List.any_nil,Bool.or_false,inI];rw [decide_eq_decide];exact⟨fun h=>⟨h.1,h.2.1⟩,fun h=>⟨h.1,h.2,Int.emod_one _⟩⟩
 constructor
 ·intro h;exact u_ext _ _ h.1 hF fun n=>by rw [h.2,e,hf]
 ·rintro rfl;exact⟨hF,fun n=>by rw [hf,e]⟩
theorem word_in {lo hi:Int} (hl:lo≤hi): ∀(r:List (List UInt8)) (l:List (Int×Int×Int)),wordS lo hi r=some l→(∀p∈l,lo≤p.1∧p.1≤p.2.1∧p.2.1≤hi)∧l.length=r.length
 | [],l,h=>by cases h;exact⟨(fun p hp=>by cases hp),rfl⟩
 |t::r,l,h=>by
  have e:wordS lo hi (t::r)=match itemS lo hi t,wordS lo hi r with|some p,some l=>some (p::l)|_,_=>none:=rfl
  rw [e]at h
  cases h1:itemS lo hi t with
  |none=>rw [h1]at h;cases h
  |some q=>
   cases h2:wordS lo hi r with
   |none=>rw [h1,h2]at h;cases h
   |some m=>
    rw [h1,h2]at h
    cases h
    obtain⟨g1,g2⟩:=word_in hl r m h2
    obtain⟨a,b,st⟩:=q
    have:=itemS_bd hl h1
    refine⟨fun p hp=> ?_,by simp [g2]⟩
    rcases XG.1 hp with rfl|hp
    ·exact⟨this.1,this.2.1,this.2.2.1⟩
    ·exact g1 p hp
theorem set_in {lo hi:Int} (hl:lo≤hi) (h:wordS lo hi (pieces 44 t)=some l) (hv:SetIs l v):(∀n,inS v n=true→lo≤n∧n≤hi)∧ ∃n,inS v n=true:=by
 obtain⟨g1,g2⟩:=word_in hl _ l h;refine⟨fun n hn=> ?_,?_⟩
 ·rw [hv.2,List.any_eq_true]at hn;obtain⟨p,hp,hq⟩:=hn;unfold inI at hq;rw [decide_eq_true_eq]at hq;have:=g1 p hp;omega
 ·cases l with
  |nil=>
   rw [pieces_len]at g2;simp at g2
  |cons p r=>
   refine⟨p.1,?_⟩;have:=g1 p (by simp);rw [hv.2,List.any_cons];have e:inI p p.1=true:=by
    unfold inI;rw [decide_eq_true_eq];exact⟨Xu _,this.2.1,by simp⟩
   rw [e];rfl
theorem ok_read {lo hi:Int} (hF:0≤full∧full≤18446744073709551615) (hf: ∀n,inS full n=decide (lo≤n∧n≤hi)) (hl:lo≤hi) (h:wordS lo hi (pieces 44 t)=some l) (hv:SetIs l v) {m:Bool} (hm:m=true→t=[42]):okB v full m=true:=by
 obtain⟨g1,n,g2⟩:=set_in hl h hv;have z:v≠0:=fun e=>by rw [e,inS_zero]at g2;cases g2
 have a:bits .andNot .u64 v full=0:=by
  refine u_ext _ _ (u_andNot v full hv.1 hF) (by decide) fun n=> ?_;rw [in_andNot v full n hv.1 hF,inS_zero,hf];cases q:inS v n
  ·rfl
  ·have:=g1 n q;rw [decide_eq_true this];rfl
 unfold okB;cases m
 ·simp [z,a]
 ·have e:=hm rfl;subst e;rw [star_word]at h;cases h;have:=(full_one hF hf).1 hv;subst this;simp [z,a]
def taken:List (Int×Int)→Int
 | []=>0
 |p::r=>(p.2-p.1+2)+taken r
