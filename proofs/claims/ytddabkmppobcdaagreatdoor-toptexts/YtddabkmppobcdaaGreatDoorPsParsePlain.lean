/- A text cut at each byte of one sort. How the text of a cron is read: plain mathematics. The text of a set: its rows of numbers, in order. Plain mathematics. Numbers of a plan's text: how they are read, and that what is printed is read back. Plain mathematics. How a plan's text is read: plain mathematics. rd: how the text of a cron is read. The text of a plan, and that it is read back. Plain mathematics. kT: the text of a cron; rd: how it is read. The text of a set is read back: plain mathematics. A word of a cron's text is read back; what is read is right; how long a word is. -/
import Derived.Lib.SplitLaws
import Derived.Lib.IndexLaws
import Derived.Lib.IndexBytes
import Derived.Test.YtddabkmppobcdaaGreatDoorPsCronPlain
import Derived.Lib.Join
import Derived.Lib.ItoaNum
import Derived.Lib.IndexMore
namespace Go.Proofs.YtddabkmppobcdaaGreatDoor
namespace Pie

def pieces (c:UInt8):List UInt8→List (List UInt8)
 | []=> [[]]
 |x::r=>if x=c then []::pieces c r else(x::(pieces c r).headD [])::(pieces c r).tail

theorem pieces_cons (c x:UInt8) (r:List UInt8):pieces c (x::r)=if x=c then []::pieces c r else(x::(pieces c r).headD [])::(pieces c r).tail:=rfl
theorem pieces_ne (c:UInt8): ∀l,pieces c l≠ []
 | []=>by simp [pieces]
 |x::r=>by unfold pieces;split<;>simp
theorem pieces_none {c:UInt8} : ∀ {l:List UInt8},c∉l→pieces c l=[l]
 | [],_=>rfl
 |x::r,h=>by
  have h1: ¬x=c:=fun e=>h (e▸List.mem_cons_self)
  have h2:=pieces_none (c:=c) (l:=r) (fun g=>h (List.mem_cons_of_mem _ g))
  unfold pieces
  rw [if_neg h1,h2];rfl
theorem pieces_hit {c:UInt8} {b:List UInt8} : ∀ {a:List UInt8},c∉a→pieces c (a++c::b)=a::pieces c b
 | [],_=>by simp [pieces]
 |x::r,h=>by
  have h1: ¬x=c:=fun e=>h (e▸List.mem_cons_self)
  have h2:=pieces_hit (c:=c) (b:=b) (a:=r) (fun g=>h (List.mem_cons_of_mem _ g))
  rw [List.cons_append,pieces_cons,if_neg h1,h2];rfl
theorem cut_cases (c:UInt8): ∀l:List UInt8,c∉l∨ ∃a b,l=a++c::b∧c∉a
 | []=>Or.inl (by simp)
 |x::r=>by
  by_cases e:x=c
  ·exact Or.inr ⟨[],r,by simp [e],by simp⟩
  ·rcases cut_cases c r with h|⟨a,b,h1,h2⟩
   ·exact Or.inl (by simp [h];exact fun g=>e g.symm)
   ·exact Or.inr ⟨x::a,b,by simp [h1],by simp [h2];exact fun g=>e g.symm⟩
theorem index_none {c:UInt8} {l:List UInt8} (h:c∉l):Lib.indexByte l c= -1:=by
 rcases Int.lt_or_le (Lib.indexByte l c) 0 with g|g
 ·have:=Lib.indexByte_ge l c;omega
 ·obtain⟨o,ho⟩:=Int.eq_ofNat_of_zero_le g
  exact absurd (List.mem_of_getElem? (Lib.indexByte_some ho).1) h
theorem index_hit {c:UInt8} {a b:List UInt8} (h:c∉a):Lib.indexByte (a++c::b) c=a.length:=by
 have key:(a++c::b)[a.length]?=some c:=by simp
 rcases Int.lt_or_le (Lib.indexByte (a++c::b) c) 0 with g|g
 ·have:=Lib.indexByte_ge (a++c::b) c
  exact absurd key (Lib.indexByte_none (show Lib.indexByte (a++c::b) c= -1 by omega) a.length)
 ·obtain⟨o,ho⟩:=Int.eq_ofNat_of_zero_le g
  obtain⟨h1,h2⟩:=Lib.indexByte_some ho
  rw [ho]
  have h3: ¬o<a.length:=fun e=>by
   rw [List.getElem?_append_left e]at h1
   exact h (List.mem_of_getElem? h1)
  have h4: ¬a.length<o:=fun e=>h2 a.length e key
  omega
theorem splitK_pieces (c:UInt8): ∀(k:Nat) (l:List UInt8),l.count c=k→Lib.splitK [c] 0 k l=pieces c l
 |0,l,h=>by
  rw [pieces_none (List.count_eq_zero.1 h)];rfl
 |k+1,l,h=>by
  rcases cut_cases c l with g|⟨a,b,rfl,ha⟩
  ·rw [List.count_eq_zero.2 g]at h;omega
  ·have hb:b.count c=k:=by
    rw [List.count_append,List.count_cons_self,List.count_eq_zero.2 ha]at h;omega
   unfold Lib.splitK
   rw [Lib.index_one,index_hit ha,pieces_hit ha]
   have e1:((a.length:Int)== -1)=false:=by rw [beq_eq_false_iff_ne];omega
   rw [e1]
   simp only [Bool.false_eq_true,if_false,Int.toNat_natCast,Nat.add_zero,List.length_cons,List.length_nil]
   rw [show(a++c::b).take a.length=a by simp,show(a++c::b).drop (a.length+(0+1))=b by simp]
   rw [splitK_pieces c k b hb]
theorem pieces_len (c:UInt8): ∀l,(pieces c l).length=l.count c+1
 | []=>rfl
 |x::r=>by
  have ih:=pieces_len c r
  unfold pieces
  by_cases e:x=c
  ·rw [if_pos e,e,List.count_cons_self,List.length_cons,ih]
  ·rw [if_neg e,List.length_cons,List.length_tail,ih,List.count_cons_of_ne e];omega
theorem pieces_sub (c:UInt8): ∀(l:List UInt8) (p:List UInt8),p∈pieces c l→p.length≤l.length
 | [],p,h=>by simp [pieces]at h;subst h;simp
 |x::r,p,h=>by
  have ih:=pieces_sub c r
  unfold pieces at h
  by_cases e:x=c
  ·rw [if_pos e]at h
   rcases List.mem_cons.1 h with rfl|h
   ·simp
   ·have:=ih p h;simp;omega
  ·rw [if_neg e]at h
   rcases List.mem_cons.1 h with rfl|h
   ·have:(pieces c r).headD []∈pieces c r:=by
     cases g:pieces c r with
     |nil=>exact absurd g (pieces_ne c r)
     |cons y ys=>simp
    have:=ih _ this
    simp only [List.length_cons];omega
   ·have:=ih p (List.mem_of_mem_tail h);simp;omega
end Pie
namespace Pie
open Crn

def dg (x:UInt8):Bool:=decide (48≤x.toNat∧x.toNat≤57)
def num2:List UInt8→Option Int
 | [a]=>if dg a=true then some ((a.toNat:Int)-48)else none
 | [a,b]=>if dg a=true∧dg b=true then some (10*((a.toNat:Int)-48)+((b.toNat:Int)-48))else none
 |_=>none
theorem num2_bd {t:List UInt8} {n:Int} (h:num2 t=some n):0≤n∧n≤99:=by
 unfold num2 at h
 split at h
 ·split at h
  ·rename_i g;unfold dg at g;rw [decide_eq_true_eq]at g;cases h;omega
  ·cases h
 ·split at h
  ·rename_i g;unfold dg at g;rw [decide_eq_true_eq,decide_eq_true_eq]at g;cases h;omega
  ·cases h
 ·cases h
def cutS (c:UInt8):List UInt8→Option (List UInt8×List UInt8)
 | []=>none
 |x::r=>if x=c then some ([],r)else(cutS c r).map fun p=>(x::p.1,p.2)
theorem cutS_none {c:UInt8} : ∀ {l:List UInt8},c∉l→cutS c l=none
 | [],_=>rfl
 |x::r,h=>by
  have h1: ¬x=c:=fun e=>h (e▸List.mem_cons_self)
  have e:cutS c (x::r)=if x=c then some ([],r)else(cutS c r).map fun p=>(x::p.1,p.2):=rfl
  rw [e,if_neg h1,cutS_none (fun g=>h (List.mem_cons_of_mem _ g))];rfl
theorem cutS_hit {c:UInt8} {b:List UInt8} : ∀ {a:List UInt8},c∉a→cutS c (a++c::b)=some (a,b)
 | [],_=>by simp [cutS]
 |x::r,h=>by
  have h1: ¬x=c:=fun e=>h (e▸List.mem_cons_self)
  have e:cutS c (x::(r++c::b))=if x=c then some ([],r++c::b)else(cutS c (r++c::b)).map fun p=>(x::p.1,p.2):=rfl
  rw [List.cons_append,e,if_neg h1,cutS_hit (fun g=>h (List.mem_cons_of_mem _ g))];rfl
def rowS (lo hi:Int) (t:List UInt8):Option (Int×Int×Bool):=
 if t=[42]then some (lo,hi,false)
 else match cutS 45 t with
  |none=>match num2 t with
   |some n=>if lo≤n∧n≤hi then some (n,n,true)else none
   |none=>none
  |some (x,y)=>match num2 x,num2 y with
   |some a,some b=>if(lo≤a∧a≤hi)∧(lo≤b∧b≤hi)∧a≤b then some (a,b,false)else none
   |_,_=>none
def itemS (lo hi:Int) (t:List UInt8):Option (Int×Int×Int):=
 match cutS 47 t with
 |none=>match rowS lo hi t with
  |some (a,b,_)=>some (a,b,1)
  |none=>none
 |some (x,y)=>match rowS lo hi x,num2 y with
  |some (a,b,false),some st=>if 1≤st then some (a,b,st)else none
  |_,_=>none
theorem rowS_bd {lo hi:Int} {t:List UInt8} {a b:Int} {s:Bool} (hl:lo≤hi) (h:rowS lo hi t=some (a,b,s)):lo≤a∧a≤b∧b≤hi:=by
 unfold rowS at h
 split at h
 ·cases h;omega
 ·split at h
  ·split at h
   ·split at h
    ·cases h;omega
    ·cases h
   ·cases h
  ·split at h
   ·split at h
    ·cases h;omega
    ·cases h
   ·cases h
theorem itemS_bd {lo hi:Int} {t:List UInt8} {a b st:Int} (hl:lo≤hi) (h:itemS lo hi t=some (a,b,st)):lo≤a∧a≤b∧b≤hi∧1≤st∧st≤99:=by
 unfold itemS at h
 split at h
 ·split at h
  ·rename_i g
   have:=rowS_bd hl g
   cases h;omega
  ·cases h
 ·split at h
  ·split at h
   ·rename_i g1 g2 _
    have:=rowS_bd hl g1
    have:=num2_bd g2
    cases h;omega
   ·cases h
  ·cases h
def inI (p:Int×Int×Int) (n:Int):Bool:=decide (p.1≤n∧n≤p.2.1∧(n-p.1)%p.2.2=0)
def SetIs (l:List (Int×Int×Int)) (v:Int):Prop:=(0≤v∧v≤18446744073709551615)∧ ∀n,inS v n=l.any fun p=>inI p n
theorem setIs_one {l:List (Int×Int×Int)} {u v:Int} (h:SetIs l u) (g:SetIs l v):u=v:=u_ext _ _ h.1 g.1 fun n=>by rw [h.2,g.2]
def wordS (lo hi:Int):List (List UInt8)→Option (List (Int×Int×Int))
 | []=>some []
 |t::r=>match itemS lo hi t,wordS lo hi r with
  |some p,some l=>some (p::l)
  |_,_=>none
end Pie
namespace Crn
open Go.RowKit

def ntS (s:Int):Int:=18446744073709551615-s
theorem ntS_u (s:Int) (h:0≤s∧s≤18446744073709551615):0≤ntS s∧ntS s≤18446744073709551615:=by unfold ntS;omega
theorem in_not (s n:Int) (h:0≤s∧s≤18446744073709551615) (hn:0≤n∧n≤63):inS (ntS s) n= !inS s n:=by
 obtain⟨S,rfl⟩:=Int.eq_ofNat_of_zero_le h.1
 obtain⟨N,rfl⟩:=Int.eq_ofNat_of_zero_le hn.1
 have e:ntS (S:Int)=((2^64-(S+1):Nat):Int):=by unfold ntS;omega
 rw [e,inS_nat,inS_nat,decide_eq_true (show N≤63 by omega),Bool.true_and,Bool.true_and,Nat.testBit_two_pow_sub_succ (by omega),decide_eq_true (show N<64 by omega),Bool.true_and]
def isSt (s n:Int):Bool:=inS s n&& !inS s (n-1)
def endOf (s n:Int):Int:=frm (ntS s) n-1
def rowsU (s:Int):Nat→List (Int×Int)
 |0=> []
 |n+1=>rowsU s n++(if isSt s n=true then [((n:Int),endOf s n)]else [])
theorem rows_skip {s:Int} {a:Nat} : ∀(k:Nat),(∀j:Nat,a≤j→j<a+k→isSt s j=false)→rowsU s (a+k)=rowsU s a
 |0,_=>rfl
 |k+1,h=>by
  have e:rowsU s (a+k+1)=rowsU s (a+k)++(if isSt s ((a+k:Nat):Int)=true then [(((a+k:Nat):Int),endOf s ((a+k:Nat):Int))]else []):=rfl
  show rowsU s (a+k+1)=_
  rw [e,h (a+k) (by omega) (by omega),rows_skip k (fun j h1 h2=>h j h1 (by omega))];simp
theorem rows_none {s:Int} {a b:Nat} (hab:a≤b) (h: ∀j:Nat,a≤j→j<b→isSt s j=false):rowsU s b=rowsU s a:=by
 have:=rows_skip (s:=s) (a:=a) (b-a) (fun j h1 h2=>h j h1 (by omega))
 rwa [show a+(b-a)=b by omega]at this

section
variable {s : Int} (hs : 0 ≤ s ∧ s ≤ 18446744073709551615) (h60 : ∀ n, inS s n = true → n ≤ 59)
include hs h60
theorem end_spec {n:Int} (hn:inS s n=true):frmB (ntS s) n=true∧n<frm (ntS s) n∧frm (ntS s) n≤60∧inS s (frm (ntS s) n)=false∧ ∀m,n≤m→m<frm (ntS s) n→inS s m=true:=by
 have b:=inS_bd hn
 have h59:=h60 n hn
 have i60:inS (ntS s) 60=true:=by
  rw [in_not s 60 hs (by omega)]
  cases g:inS s 60
  ·rfl
  ·have:=h60 60 g;omega
 have hb:=frmB_mk (ntS_u s hs) b.1 (show n≤60 by omega) i60
 obtain⟨f1,_,f2,f3⟩:=frm_yes (ntS s) n (ntS_u s hs) b.1 hb
 have fb:=inS_bd f2
 have f60:frm (ntS s) n≤60:=by
  by_cases g:frm (ntS s) n≤60
  ·exact g
  ·have:=f3 60 (by omega) (by omega);rw [i60]at this;cases this
 rw [in_not s _ hs fb]at f2
 have f2':inS s (frm (ntS s) n)=false:=by simpa using f2
 refine⟨hb,?_,f60,f2',fun m h1 h2=> ?_⟩
 ·by_cases g:n=frm (ntS s) n
  ·rw [←g,hn]at f2';cases f2'
  ·omega
 ·have:=f3 m h1 h2
  rw [in_not s m hs (by omega)]at this
  simpa using this
theorem rows_on {n:Int} (hn:inS s n=true) (hp:inS s (n-1)=false):rowsU s (frm (ntS s) n).toNat=rowsU s n.toNat++ [(n,endOf s n)]:=by
 obtain⟨e1,e2,e3,e4,e5⟩:=end_spec hs h60 hn
 have b:=inS_bd hn
 obtain⟨N,rfl⟩:=Int.eq_ofNat_of_zero_le b.1
 have:rowsU s (N+1)=rowsU s N++ [((N:Int),endOf s N)]:=by
  show rowsU s N++_=_
  rw [show isSt s (N:Int)=true by unfold isSt;rw [hn,hp];rfl];rfl
 rw [Int.toNat_natCast,←this]
 refine rows_none (by omega) fun j h1 h2=> ?_
 unfold isSt
 rw [e5 ((j:Int)-1) (by omega) (by omega)];simp
end
theorem rows_to {s n m:Int} (h0:0≤n) (hnm:n≤m) (h: ∀j,n≤j→j<m→inS s j=false):rowsU s m.toNat=rowsU s n.toNat:=by
 refine rows_none (by omega) fun j h1 h2=> ?_
 unfold isSt
 rw [h j (by omega) (by omega)];rfl
def rowT (p:Int×Int):List UInt8:=if p.1=p.2 then Lib.decDigits p.1.toNat else Lib.decDigits p.1.toNat++ [45]++Lib.decDigits p.2.toNat
def wordT (s:Int) (star:Bool):List UInt8:=if star=true then [42]else Lib.join ((rowsU s 64).map rowT) [44]
end Crn
namespace Pln
open Crn Pie

def valD (l:List UInt8):Int:=l.foldl (fun n d=>10*n+((d.toNat:Int)-48)) 0
def okD (l:List UInt8):Bool:=decide (1≤l.length∧l.length≤7)&&l.all dg
def num7 (t:List UInt8):Option Int:=
 if t.head?=some 45 then(if okD t.tail=true∧t.tail.head?≠some 48 then some (-(valD t.tail))else none)
 else(if okD t=true∧ ¬(t.head?=some 48∧1<t.length)then some (valD t)else none)

theorem valD_snoc (l:List UInt8) (d:UInt8):valD (l++ [d])=10*valD l+((d.toNat:Int)-48):=by
 unfold valD;rw [List.foldl_append];rfl
theorem dgb {a:UInt8} (h:dg a=true):48≤(a.toNat:Int)∧(a.toNat:Int)≤57:=by unfold dg at h;rw [decide_eq_true_eq]at h;omega
theorem valD_bd: ∀(n:Nat) (l:List UInt8),l.length=n→l.all dg=true→0≤valD l∧valD l<10^n:=by
 intro n
 induction n with
 |zero=>intro l h _;cases l with
  |nil=>simp [valD]
  |cons _ _=>cases h
 |succ n ih=>
  intro l h hd
  rcases List.eq_nil_or_concat l with rfl|⟨r,d,rfl⟩
  ·cases h
  ·rw [List.concat_eq_append]at h hd⊢
   have hr:r.length=n:=by simp at h;exact h
   rw [List.all_append,Bool.and_eq_true]at hd
   obtain⟨i1,i2⟩:=ih r hr hd.1
   have g:=dgb (a:=d) (by simpa using hd.2)
   rw [valD_snoc,Int.pow_succ]
   omega
theorem byte_of {n:Nat} (h:n<256):(UInt8.ofNat n).toNat=n:=by simp [UInt8.toNat_ofNat'];omega
theorem dec_all (u:Nat):(Lib.decDigits u).all dg=true∧valD (Lib.decDigits u)=u∧(u≠0→(Lib.decDigits u).head?≠some 48)∧Lib.decDigits u≠ []∧(Lib.decDigits u).head?≠some 45:=by
 induction u using Nat.strongRecOn with
 |ind u ih=>
  rw [Lib.decDigits]
  split
  ·rename_i h
   have e:=byte_of (n:=48+u) (by omega)
   refine⟨?_,?_,fun hu=> ?_,by simp,?_⟩
   ·simp only [List.all_cons,List.all_nil,Bool.and_true];unfold dg;rw [decide_eq_true_eq,e];omega
   ·show 10*0+(((UInt8.ofNat (48+u)).toNat:Int)-48)=_;rw [e];omega
   ·intro q
    have q':UInt8.ofNat (48+u)=48:=by simpa using q
    have:=congrArg UInt8.toNat q'
    rw [e]at this
    have:48+u=48:=this
    omega
   ·intro q
    have q':UInt8.ofNat (48+u)=45:=by simpa using q
    have:=congrArg UInt8.toNat q'
    rw [e]at this
    have:48+u=45:=this
    omega
  ·rename_i h
   obtain⟨i1,i2,i3,i4,i5⟩:=ih (u/10) (by omega)
   have e:=byte_of (n:=48+u%10) (by omega)
   refine⟨?_,?_,fun _=> ?_,by simp,?_⟩
   ·rw [List.all_append,i1];simp only [List.all_cons,List.all_nil,Bool.and_true,Bool.true_and];unfold dg;rw [decide_eq_true_eq,e];omega
   ·rw [valD_snoc,i2,e];omega
   ·cases hc:Lib.decDigits (u/10)with
    |nil=>exact absurd hc i4
    |cons y ys=>rw [hc]at i3;exact i3 (by omega)
   ·cases hc:Lib.decDigits (u/10)with
    |nil=>exact absurd hc i4
    |cons y ys=>rw [hc]at i5;exact i5
theorem dec_len7 {u:Nat} (h:u<10000000):1≤(Lib.decDigits u).length∧(Lib.decDigits u).length≤7:=by
 rw [Lib.decDigits_length]
 refine⟨Lib.nDigits_pos u,?_⟩
 rcases Nat.lt_or_ge 7 (Lib.nDigits u)with g|g
 ·exfalso
  have key: ∀(k u:Nat),k+1≤Lib.nDigits u→k=0∨10^k≤u:=by
   intro k
   induction k with
   |zero=>intro u _;exact Or.inl rfl
   |succ k ih=>
    intro u hu
    right
    by_cases hs:u<10
    ·rw [Lib.nDigits_small hs]at hu;omega
    ·rw [Lib.nDigits_big hs]at hu
     rcases ih (u/10) (by omega)with rfl|q
     ·simp;omega
     ·rw [Nat.pow_succ];omega
  rcases key 7 u (by omega)with q|q
  ·cases q
  ·have:(10:Nat)^7=10000000:=by decide
   omega
 ·exact g
theorem okD_dec {u:Nat} (h:u<10000000):okD (Lib.decDigits u)=true:=by
 unfold okD;rw [Bool.and_eq_true,decide_eq_true_eq];exact⟨dec_len7 h,(dec_all u).1⟩
theorem num7_itoa {n:Int} (h: -10000000<n∧n<10000000):num7 (Lib.itoa n)=some n:=by
 unfold Lib.itoa
 by_cases hn:n<0
 ·rw [if_pos hn]
  obtain⟨i1,i2,i3,i4,i5⟩:=dec_all n.natAbs
  unfold num7
  rw [if_pos (by rfl),List.tail_cons,if_pos ⟨okD_dec (by omega),i3 (by omega)⟩,i2]
  exact congrArg some (by omega)
 ·rw [if_neg hn]
  obtain⟨i1,i2,i3,i4,i5⟩:=dec_all n.toNat
  have hz: ¬((Lib.decDigits n.toNat).head?=some 48∧1<(Lib.decDigits n.toNat).length):=by
   rintro⟨q1,q2⟩
   by_cases h0:n.toNat=0
   ·rw [h0,Lib.decDigits_one (by decide)]at q2;simp at q2
   ·exact i3 h0 q1
  unfold num7
  rw [if_neg i5,if_pos ⟨okD_dec (by omega),hz⟩,i2]
  exact congrArg some (by omega)
theorem itoa_no {n:Int} {c:UInt8} (hc:dg c=false) (h45:c≠45):c∉Lib.itoa n:=by
 unfold Lib.itoa
 have key: ∀u,c∉Lib.decDigits u:=fun u g=>by
  have:=List.all_eq_true.1 (dec_all u).1 c g
  rw [hc]at this;cases this
 split
 ·intro g
  rcases List.mem_cons.1 g with g|g
  ·exact h45 g
  ·exact key _ g
 ·exact key _
end Pln
namespace Pln
open Crn Pie

def four (ws:List (List UInt8)):Option (Int×Int×Int×Int):=match ws with
 | [a,b,c,d]=>match num7 a,num7 b,num7 c,num7 d with
  |some x,some y,some z,some u=>some (x,y,z,u)
  |_,_,_,_=>none
 |_=>none
def two (ws:List (List UInt8)):Option (Int×Int):=match ws with
 | [a,b]=>match num7 a,num7 b with
  |some x,some y=>some (x,y)
  |_,_=>none
 |_=>none
def cutW:List (List UInt8)→Option (List (List UInt8)×List (List UInt8))
 | []=>none
 |x::r=>if x=[47]then some ([],r)else(cutW r).map fun p=>(x::p.1,p.2)
def both (x y:Option K):Option (K×K):=match x,y with
 |some a,some b=>some (a,b)
 |_,_=>none
def k0:K:=⟨0,0,0,0,0,false,false⟩
def p0:Pd:=⟨[],0,0,0,0,0,0,0,0,0,0,0,0,0,0,0,0⟩
abbrev wPlan:List UInt8:=[112,108,97,110]
abbrev wRest:List UInt8:=[114,101,115,116]
abbrev wUp:List UInt8:=[117,112]
abbrev wDown:List UInt8:=[100,111,119,110]
abbrev wLag:List UInt8:=[108,97,103]
abbrev wDepth:List UInt8:=[100,101,112,116,104]
abbrev wSpan:List UInt8:=[115,112,97,110]
section
variable (rd : List UInt8 → Option K)
def spanC (rest:List (List UInt8)):Option (K×K):=match cutW rest with
 |some (xs,ys)=>both (rd (Lib.join xs [32])) (rd (Lib.join ys [32]))
 |none=>none
def spanS (r:List (List UInt8)):Option Tr:=match r with
 | []=>none
 |t::rest=>match num7 t,spanC rd rest with
  |some n,some (a,b)=>some ⟨3,n,0,a,b⟩
  |_,_=>none
def trS (w:List UInt8) (r:List (List UInt8)):Option Tr:=
 if w=wLag then(two r).map fun p=>⟨1,p.1,p.2,k0,k0⟩
 else if w=wDepth then(two r).map fun p=>⟨2,p.1,p.2,k0,k0⟩
 else if w=wSpan then spanS rd r else none
def line0 (ws:List (List UInt8)) (p:Pd):Option Pd:=match ws with
 |w::nm::r=>if w=wPlan∧nmB nm=true then(four r).map fun q=> { p with nm:=nm,mn:=q.1,mx:=q.2.1,po:=q.2.2.1,co:=q.2.2.2 } else none
 |_=>none
def line1 (ws:List (List UInt8)) (p:Pd):Option Pd:=match ws with
 |w::r=>if w=wRest then(four r).map fun q=> { p with tl:=q.1,bk:=q.2.1,af:=q.2.2.1,sh:=q.2.2.2 } else none
 |_=>none
def line2 (ws:List (List UInt8)) (p:Pd):Option Pd:=match ws with
 |w::r=>if w=wUp then(four r).map fun q=> { p with uw:=q.1,up:=q.2.1,uc:=q.2.2.1,ue:=q.2.2.2 } else none
 |_=>none
def line3 (ws:List (List UInt8)) (p:Pd):Option Pd:=match ws with
 |w::r=>if w=wDown then(four r).map fun q=> { p with dw:=q.1,dp:=q.2.1,dc:=q.2.2.1,de:=q.2.2.2 } else none
 |_=>none
def lineT (ws:List (List UInt8)):Option Tr:=match ws with
 |w::r=>trS rd w r
 |_=>none
def lineS (i:Nat) (st:Pd×List Tr) (ws:List (List UInt8)):Option (Pd×List Tr):=
 if i=0 then(line0 ws st.1).map fun p=>(p,st.2)
 else if i=1 then(line1 ws st.1).map fun p=>(p,st.2)
 else if i=2 then(line2 ws st.1).map fun p=>(p,st.2)
 else if i=3 then(line3 ws st.1).map fun p=>(p,st.2)
 else(lineT rd ws).map fun t=>(st.1,st.2++ [t])
def readL:Nat→Pd×List Tr→List (List UInt8)→Nat ⊕ (Pd×List Tr)
 |i,_,[]=> .inl (i+1)
 |i,st,[l]=>if 4≤i∧l=[]then .inr st else .inl (i+1)
 |i,st,l::m::ls=>match lineS rd i st (pieces 32 l)with
  |some st'=>readL (i+1) st' (m::ls)
  |none=> .inl (i+1)
end

/-! ### A text that is cut at ` / ` -/
def CutR (s a b:List UInt8) (f:Bool):Prop:=
 (f=true∧s=a++ [32,47,32]++b)∨(f=false∧a=s∧b=[]∧ ∀x y,s≠x++ [32,47,32]++y)
theorem cut_rel (s:List UInt8):CutR s (Lib.cut s [32,47,32]).1 (Lib.cut s [32,47,32]).2.1 (Lib.cut s [32,47,32]).2.2:=by
 have key: ∀s:List UInt8,(∀i:Nat,Lib.index s [32,47,32]=i→s=s.take i++ [32,47,32]++s.drop (i+3))∧(Lib.index s [32,47,32]= -1→ ∀x y,s≠x++ [32,47,32]++y):=by
  intro s
  induction s with
  |nil=>
   refine⟨fun i h=> ?_,fun _ x y h=> ?_⟩
   ·simp [Lib.index]at h
   ·have:=congrArg List.length h;simp at this
  |cons c l ih=>
   have e:Lib.index (c::l) [32,47,32]=if([32,47,32]:List UInt8).isPrefixOf (c::l)then 0 else if Lib.index l [32,47,32]== -1 then-1 else Lib.index l [32,47,32]+1:=rfl
   have ge:=Lib.index_ge l [32,47,32]
   by_cases hp:([32,47,32]:List UInt8).isPrefixOf (c::l)=true
   ·rw [if_pos hp]at e
    refine⟨fun i h=> ?_,fun h=> ?_⟩
    ·rw [e]at h
     obtain rfl:i=0:=by omega
     rw [List.isPrefixOf_iff_prefix]at hp
     obtain⟨t,ht⟩:=hp
     rw [←ht];simp
    ·rw [e]at h;omega
   ·rw [if_neg hp]at e
    by_cases h1:Lib.index l [32,47,32]= -1
    ·rw [h1]at e
     refine⟨fun i h=> ?_,fun _ x y h=> ?_⟩
     ·rw [e]at h;simp at h
     ·cases x with
      |nil=>exact hp (by rw [List.isPrefixOf_iff_prefix];exact⟨y,by rw [h];simp⟩)
      |cons d x=>
       have h2:l=x++ [32,47,32]++y:=by simp at h⊢;exact h.2
       exact ih.2 h1 x y h2
    ·have e2:(Lib.index l [32,47,32]== -1)=false:=by rw [beq_eq_false_iff_ne];exact h1
     rw [e2]at e
     refine⟨fun i h=> ?_,fun h=> ?_⟩
     ·rw [e]at h
      obtain⟨j,hj⟩: ∃j:Nat,Lib.index l [32,47,32]=j:=⟨(Lib.index l [32,47,32]).toNat,by omega⟩
      have hi:i=j+1:=by simp at h;omega
      subst hi
      have:=ih.1 j hj
      rw [List.take_succ_cons,show j+1+3=j+3+1 by omega,List.drop_succ_cons,List.cons_append,List.cons_append]
      exact congrArg _ this
     ·rw [e]at h;simp at h;omega
 unfold Lib.cut
 by_cases h:0≤Lib.index s [32,47,32]
 ·rw [if_pos h]
  exact Or.inl ⟨rfl,(key s).1 _ (by omega)⟩
 ·rw [if_neg h]
  have:=Lib.index_ge s [32,47,32]
  exact Or.inr ⟨rfl,rfl,rfl,(key s).2 (by omega)⟩
theorem pieces_app (c:UInt8): ∀(a b:List UInt8),pieces c (a++c::b)=pieces c a++pieces c b
 | [],b=>by simp [pieces]
 |x::r,b=>by
  rw [List.cons_append,pieces_cons,pieces_cons,pieces_app c r b]
  by_cases e:x=c
  ·rw [if_pos e,if_pos e];rfl
  ·rw [if_neg e,if_neg e]
   cases h:pieces c r with
   |nil=>exact absurd h (pieces_ne c r)
   |cons y ys=>rfl
theorem join_pieces (c:UInt8): ∀s:List UInt8,Lib.join (pieces c s) [c]=s
 | []=>by simp [pieces,Lib.join_one]
 |x::r=>by
  have ih:=join_pieces c r
  rw [pieces_cons]
  cases h:pieces c r with
  |nil=>exact absurd h (pieces_ne c r)
  |cons y ys=>
   rw [h]at ih
   by_cases e:x=c
   ·subst e
    rw [if_pos rfl,Lib.join_cons,List.nil_append]
    rw [Lib.join_cons]at ih
    show [x]++y++Lib.joinTail [x] ys=_
    rw [List.append_assoc,ih];rfl
   ·rw [if_neg e,Lib.join_cons,List.headD_cons,List.tail_cons,List.cons_append]
    rw [Lib.join_cons]at ih
    rw [ih]
theorem pieces_no (c:UInt8): ∀(s y:List UInt8),y∈pieces c s→c∉y
 | [],y,h=>by simp [pieces]at h;subst h;simp
 |x::r,y,h=>by
  have ih:=pieces_no c r
  rw [pieces_cons]at h
  by_cases e:x=c
  ·rw [if_pos e]at h
   rcases List.mem_cons.1 h with rfl|h
   ·simp
   ·exact ih y h
  ·rw [if_neg e]at h
   rcases List.mem_cons.1 h with rfl|h
   ·cases g:pieces c r with
    |nil=>exact absurd g (pieces_ne c r)
    |cons z zs=>
     rw [List.headD_cons]
     have:=ih z (by rw [g];exact List.mem_cons_self)
     intro q
     rcases List.mem_cons.1 q with q|q
     ·exact e q.symm
     ·exact this q
   ·exact ih y (List.mem_of_mem_tail h)
theorem pieces_joins (c:UInt8): ∀(x:List UInt8) (r:List (List UInt8)),(∀y∈x::r,c∉y)→pieces c (Lib.join (x::r) [c])=x::r
 |x,[],h=>by rw [Lib.join_one];exact pieces_none (h x List.mem_cons_self)
 |x,y::r,h=>by
  have ih:=pieces_joins c y r (fun z hz=>h z (List.mem_cons_of_mem _ hz))
  rw [Lib.join_cons]
  show pieces c (x++([c]++y++Lib.joinTail [c] r))=_
  rw [show x++([c]++y++Lib.joinTail [c] r)=x++c::(y++Lib.joinTail [c] r) by simp,←Lib.join_cons,pieces_hit (h x List.mem_cons_self),ih]
theorem cutW_none: ∀ {l:List (List UInt8)},[47]∉l→cutW l=none
 | [],_=>rfl
 |x::r,h=>by
  have h1: ¬x=[47]:=fun e=>h (e▸List.mem_cons_self)
  have e:cutW (x::r)=if x=[47]then some ([],r)else(cutW r).map fun p=>(x::p.1,p.2):=rfl
  rw [e,if_neg h1,cutW_none (fun g=>h (List.mem_cons_of_mem _ g))];rfl
theorem cutW_hit {b:List (List UInt8)} : ∀ {a:List (List UInt8)},[47]∉a→cutW (a++ [47]::b)=some (a,b)
 | [],_=>by simp [cutW]
 |x::r,h=>by
  have h1: ¬x=[47]:=fun e=>h (e▸List.mem_cons_self)
  have e:cutW (x::(r++ [47]::b))=if x=[47]then some ([],r++ [47]::b)else(cutW (r++ [47]::b)).map fun p=>(x::p.1,p.2):=rfl
  rw [List.cons_append,e,if_neg h1,cutW_hit (fun g=>h (List.mem_cons_of_mem _ g))];rfl
theorem cutW_cases: ∀l:List (List UInt8),[47]∉l∨ ∃a b,l=a++ [47]::b∧ [47]∉a
 | []=>Or.inl (by simp)
 |x::r=>by
  by_cases e:x=[47]
  ·exact Or.inr ⟨[],r,by simp [e],by simp⟩
  ·rcases cutW_cases r with h|⟨a,b,h1,h2⟩
   ·exact Or.inl (by intro g;rcases List.mem_cons.1 g with g|g;exact e g.symm;exact h g)
   ·exact Or.inr ⟨x::a,b,by simp [h1],by intro g;rcases List.mem_cons.1 g with g|g;exact e g.symm;exact h2 g⟩
theorem split_one: ∀ {a b x y:List (List UInt8)},[47]∉a→ [47]∉x→a++ [47]::b=x++ [47]::y→a=x∧b=y
 |a,b,x,y,ha,hx,h=>by
  have e1:=cutW_hit (b:=b) ha
  rw [h,cutW_hit hx]at e1
  cases e1;exact⟨rfl,rfl⟩
section
variable {rd : List UInt8 → Option K}
theorem both_some {x y:Option K} {p:K×K} (h:both x y=some p):x=some p.1∧y=some p.2:=by
 unfold both at h
 split at h
 ·cases h;exact⟨rfl,rfl⟩
 ·cases h
theorem span_cut (hs: ∀s,[47]∈pieces 32 s→rd s=none) (h0:rd []=none) {s a b:List UInt8} {f:Bool} (hc:CutR s a b f):both (rd a) (rd b)=spanC rd (pieces 32 s):=by
 have hp3: ∀x y:List UInt8,pieces 32 (x++ [32,47,32]++y)=pieces 32 x++ [47]::pieces 32 y:=by
  intro x y
  rw [show x++ [32,47,32]++y=x++32::([47]++32::y) by simp,pieces_app,pieces_app,pieces_none (c:=32) (l:=[47]) (by decide)]
  rfl
 cases hb:both (rd a) (rd b)with
 |some p=>
  obtain⟨e1,e2⟩:=both_some hb
  have n1:[47]∉pieces 32 a:=fun g=>by rw [hs a g]at e1;cases e1
  rcases hc with⟨rfl,rfl⟩|⟨rfl,rfl,rfl,_⟩
  ·unfold spanC
   rw [hp3,cutW_hit n1]
   show _=both (rd (Lib.join (pieces 32 a) [32])) (rd (Lib.join (pieces 32 b) [32]))
   rw [join_pieces,join_pieces,hb]
  ·rw [h0]at e2;cases e2
 |none=>
  cases hq:spanC rd (pieces 32 s)with
  |none=>rfl
  |some p=>
   exfalso
   unfold spanC at hq
   rcases cutW_cases (pieces 32 s)with g|⟨xs,ys,g1,g2⟩
   ·rw [cutW_none g]at hq;cases hq
   ·rw [g1,cutW_hit g2]at hq
    replace hq:both (rd (Lib.join xs [32])) (rd (Lib.join ys [32]))=some p:=hq
    obtain⟨e1,e2⟩:=both_some hq
    have nob: ∀y∈pieces 32 s,(32:UInt8)∉y:=fun y hy=>pieces_no 32 s y hy
    rw [g1]at nob
    cases xs with
    |nil=>rw [Lib.join_nil,h0]at e1;cases e1
    |cons x xs=>
     cases ys with
     |nil=>rw [Lib.join_nil,h0]at e2;cases e2
     |cons y ys=>
      have px:pieces 32 (Lib.join (x::xs) [32])=x::xs:=pieces_joins 32 x xs (fun z hz=>nob z (by simp at hz⊢;rcases hz with h|h<;>simp [h]))
      have py:pieces 32 (Lib.join (y::ys) [32])=y::ys:=pieces_joins 32 y ys (fun z hz=>nob z (by simp at hz⊢;rcases hz with h|h<;>simp [h]))
      have ny:[47]∉y::ys:=fun g=>by rw [hs _ (by rw [py];exact g)]at e2;cases e2
      have hs2:s=Lib.join (x::xs) [32]++ [32,47,32]++Lib.join (y::ys) [32]:=by
       rw [←join_pieces 32 s,←join_pieces 32 (Lib.join (x::xs) [32]++ [32,47,32]++Lib.join (y::ys) [32]),hp3,px,py,g1]
      rcases hc with⟨rfl,hs3⟩|⟨rfl,rfl,rfl,hno⟩
      ·have g3:=g1
       rw [hs3,hp3]at g3
       have cnt:=congrArg (List.count [47]) g3
       have c1:List.count [47] (x::xs)=0:=List.count_eq_zero.2 g2
       have c2:List.count [47] (y::ys)=0:=List.count_eq_zero.2 ny
       rw [List.count_append,List.count_append,List.count_cons_self,List.count_cons_self,c1,c2]at cnt
       have n1:[47]∉pieces 32 a:=List.count_eq_zero.1 (by omega)
       obtain⟨q1,q2⟩:=split_one n1 g2 g3
       have ea:a=Lib.join (x::xs) [32]:=by rw [←join_pieces 32 a,q1]
       have eb:b=Lib.join (y::ys) [32]:=by rw [←join_pieces 32 b,q2]
       rw [ea,eb,hq]at hb;cases hb
      ·exact hno _ _ hs2
end
end Pln
namespace Pln
open Crn Pie

def lnT (w:List UInt8) (l:List Int):List UInt8:=w++Lib.joinTail [32] (l.map Lib.itoa)
section
variable (kT : K → List UInt8)
def trT (t:Tr):List UInt8:=
 if t.k=1 then lnT wLag [t.tg,t.ac]else if t.k=2 then lnT wDepth [t.tg,t.ac]
 else wSpan++ [32]++Lib.itoa t.tg++ [32]++kT t.a++ [32,47,32]++kT t.b
def headT (p:Pd):List UInt8:=
 lnT (wPlan++ [32]++p.nm) [p.mn,p.mx,p.po,p.co]++ [10]++(lnT wRest [p.tl,p.bk,p.af,p.sh]++ [10])++(lnT wUp [p.uw,p.up,p.uc,p.ue]++ [10])++(lnT wDown [p.dw,p.dp,p.dc,p.de]++ [10])
def tailT (ts:List Tr):List UInt8:=(ts.map fun t=>trT kT t++ [10]).flatten
def planT (p:Pd) (ts:List Tr):List UInt8:=headT p++tailT kT ts
end
theorem dg_not {c:UInt8} (h:c=32∨c=10∨c=47):dg c=false∧c≠45:=by rcases h with rfl|rfl|rfl<;>decide
theorem ints_no (c:UInt8) (h:c=32∨c=10∨c=47) (l:List Int): ∀y∈l.map Lib.itoa,c∉y:=by
 intro y hy
 obtain⟨n,_,rfl⟩:=List.mem_map.1 hy
 exact itoa_no (dg_not h).1 (dg_not h).2
theorem tail_no {c d:UInt8} (hcd:c≠d): ∀(r:List (List UInt8)),(∀y∈r,c∉y)→c∉Lib.joinTail [d] r
 | [],_=>by simp [Lib.joinTail]
 |x::r,h=>by
  have ih:=tail_no hcd r (fun y hy=>h y (List.mem_cons_of_mem _ hy))
  have hx:=h x List.mem_cons_self
  show c∉ [d]++x++Lib.joinTail [d] r
  simp only [List.mem_append,List.mem_singleton,not_or]
  exact⟨⟨hcd,hx⟩,ih⟩
theorem ln_no (w:List UInt8) (l:List Int) (h:(10:UInt8)∉w):(10:UInt8)∉lnT w l:=by
 unfold lnT
 rw [List.mem_append,not_or]
 exact⟨h,tail_no (by decide) _ (ints_no 10 (Or.inr (Or.inl rfl)) l)⟩
theorem ln_words (w:List UInt8) (l:List Int) (h:(32:UInt8)∉w):pieces 32 (lnT w l)=w::l.map Lib.itoa:=by
 unfold lnT
 rw [←Lib.join_cons]
 refine pieces_joins 32 _ _ fun y hy=> ?_
 rcases List.mem_cons.1 hy with rfl|hy
 ·exact h
 ·exact ints_no 32 (Or.inl rfl) l y hy
def r7 (n:Int):Prop:= -10000000<n∧n<10000000
theorem four_back {a b c d:Int} (ha:r7 a) (hb:r7 b) (hc:r7 c) (hd:r7 d):four ([a,b,c,d].map Lib.itoa)=some (a,b,c,d):=by
 show(match num7 (Lib.itoa a),num7 (Lib.itoa b),num7 (Lib.itoa c),num7 (Lib.itoa d)with|some x,some y,some z,some u=>some (x,y,z,u)|_,_,_,_=>none)=_
 rw [num7_itoa ha,num7_itoa hb,num7_itoa hc,num7_itoa hd]
theorem two_back {a b:Int} (ha:r7 a) (hb:r7 b):two ([a,b].map Lib.itoa)=some (a,b):=by
 show(match num7 (Lib.itoa a),num7 (Lib.itoa b)with|some x,some y=>some (x,y)|_,_=>none)=_
 rw [num7_itoa ha,num7_itoa hb]
theorem zK_is {c:K} (h:zK c=true):c=k0:=by
 unfold zK at h
 simp only [Bool.and_eq_true,decide_eq_true_eq,Bool.not_eq_true']at h
 obtain⟨h1,h2,h3,h4,h5,h6,h7⟩:=h
 cases c
 simp only at h1 h2 h3 h4 h5 h6 h7
 subst h1 h2 h3 h4 h5 h6 h7
 rfl
theorem rg_r7 {n lo hi:Int} (h:rg n lo hi=true) (h1: -10000000<lo) (h2:hi<10000000):r7 n:=by
 unfold rg at h;rw [decide_eq_true_eq]at h;unfold r7;omega
theorem nm_no {s:List UInt8} (h:nmB s=true):(10:UInt8)∉s∧(32:UInt8)∉s:=by
 unfold nmB at h
 rw [Bool.and_eq_true]at h
 have key: ∀c:UInt8,nmC c=false→c∉s:=fun c hc g=>by
  have:=List.all_eq_true.1 h.2 c g;rw [hc]at this;cases this
 exact⟨key 10 (by decide),key 32 (by decide)⟩
theorem tr_cases {t:Tr} (h:trB t=true):(∃a b,t=⟨1,a,b,k0,k0⟩∧r7 a∧r7 b)∨(∃a b,t=⟨2,a,b,k0,k0⟩∧r7 a∧r7 b)∨(∃n a b,t=⟨3,n,0,a,b⟩∧r7 n∧kc a=true∧kc b=true):=by
 obtain⟨k,tg,ac,a,b⟩:=t
 unfold trB at h
 dsimp only at h
 by_cases hk:k=3
 ·rw [if_pos hk]at h
  simp only [Bool.and_eq_true,decide_eq_true_eq]at h
  obtain⟨h1,h2,h3,h4⟩:=h
  subst hk h2
  exact Or.inr (Or.inr ⟨tg,a,b,rfl,rg_r7 h1 (by decide) (by decide),h3,h4⟩)
 ·rw [if_neg hk]at h
  simp only [Bool.and_eq_true,decide_eq_true_eq]at h
  obtain⟨h1,h2,h3,h4,h5⟩:=h
  have e1:=zK_is h4
  have e2:=zK_is h5
  subst e1 e2
  rcases h1 with rfl|rfl
  ·exact Or.inl ⟨tg,ac,rfl,rg_r7 h2 (by decide) (by decide),rg_r7 h3 (by decide) (by decide)⟩
  ·exact Or.inr (Or.inl ⟨tg,ac,rfl,rg_r7 h2 (by decide) (by decide),rg_r7 h3 (by decide) (by decide)⟩)
section
variable {rd : List UInt8 → Option K} {kT : K → List UInt8}
def TextOk (rd:List UInt8→Option K) (kT:K→List UInt8) (c:K):Prop:=rd (kT c)=some c∧ [47]∉pieces 32 (kT c)∧(10:UInt8)∉kT c
def TrOk (rd:List UInt8→Option K) (kT:K→List UInt8) (t:Tr):Prop:=trB t=true∧(t.k=3→TextOk rd kT t.a∧TextOk rd kT t.b)
theorem tr_line {t:Tr} (h:TrOk rd kT t):(10:UInt8)∉trT kT t∧lineT rd (pieces 32 (trT kT t))=some t:=by
 obtain⟨hb,hok⟩:=h
 rcases tr_cases hb with⟨a,b,rfl,ra,rb⟩|⟨a,b,rfl,ra,rb⟩|⟨n,a,b,rfl,rn,_,_⟩
 ·have e:trT kT ⟨1,a,b,k0,k0⟩=lnT wLag [a,b]:=rfl
  rw [e]
  refine⟨ln_no _ _ (by decide),?_⟩
  rw [ln_words _ _ (by decide)]
  show trS rd wLag _=_
  unfold trS
  rw [if_pos rfl,two_back ra rb];rfl
 ·have e:trT kT ⟨2,a,b,k0,k0⟩=lnT wDepth [a,b]:=rfl
  rw [e]
  refine⟨ln_no _ _ (by decide),?_⟩
  rw [ln_words _ _ (by decide)]
  show trS rd wDepth _=_
  unfold trS
  rw [if_neg (by decide),if_pos rfl,two_back ra rb];rfl
 ·obtain⟨⟨a1,a2,a3⟩,⟨b1,b2,b3⟩⟩:=hok rfl
  dsimp only at a1 a2 a3 b1 b2 b3
  have e:trT kT ⟨3,n,0,a,b⟩=wSpan++ [32]++Lib.itoa n++ [32]++kT a++ [32,47,32]++kT b:=rfl
  rw [e]
  constructor
  ·simp only [List.mem_append,not_or]
   exact⟨⟨⟨⟨⟨⟨by decide,by decide⟩,itoa_no (dg_not (Or.inr (Or.inl rfl))).1 (by decide)⟩,by decide⟩,a3⟩,by decide⟩,b3⟩
  ·have hp:pieces 32 (wSpan++ [32]++Lib.itoa n++ [32]++kT a++ [32,47,32]++kT b)=wSpan::Lib.itoa n::(pieces 32 (kT a)++ [47]::pieces 32 (kT b)):=by
    rw [show wSpan ++ [32] ++ Lib.itoa n ++ [32] ++ kT a ++ [32, 47, 32] ++ kT b = wSpan ++ 32 :: (Lib.itoa n ++ 32 :: (kT a ++ 32 :: ([47] ++ 32 :: kT b))) by simp,
     pieces_hit (by decide),pieces_hit (itoa_no (dg_not (Or.inl rfl)).1 (by decide)),pieces_app,pieces_app,pieces_none (c:=32) (l:=[47]) (by decide)]
    rfl
   rw [hp]
   show trS rd wSpan _=_
   unfold trS
   rw [if_neg (by decide),if_neg (by decide),if_pos rfl]
   show(match num7 (Lib.itoa n),spanC rd (pieces 32 (kT a)++ [47]::pieces 32 (kT b))with|some n,some (a,b)=>some (⟨3,n,0,a,b⟩:Tr)|_,_=>none)=_
   have es:spanC rd (pieces 32 (kT a)++ [47]::pieces 32 (kT b))=some (a,b):=by
    unfold spanC
    rw [cutW_hit a2]
    show both (rd (Lib.join (pieces 32 (kT a)) [32])) (rd (Lib.join (pieces 32 (kT b)) [32]))=_
    rw [join_pieces,join_pieces,a1,b1];rfl
   rw [num7_itoa rn,es]
theorem readL_cons {i:Nat} {st st':Pd×List Tr} {l x:List UInt8} (h10:(10:UInt8)∉l) (h:lineS rd i st (pieces 32 l)=some st'):readL rd i st (pieces 10 (l++ [10]++x))=readL rd (i+1) st' (pieces 10 x):=by
 rw [show l++ [10]++x=l++10::x by simp,pieces_hit h10]
 cases hx:pieces 10 x with
 |nil=>exact absurd hx (pieces_ne 10 x)
 |cons m ls=>
  show(match lineS rd i st (pieces 32 l)with|some st'=>readL rd (i+1) st' (m::ls)|none=> .inl (i+1))=_
  rw [h]
theorem tail_back {p:Pd} : ∀(ts pre:List Tr) (i:Nat),4≤i→(∀t∈ts,TrOk rd kT t)→readL rd i (p,pre) (pieces 10 (tailT kT ts))=.inr (p,pre++ts)
 | [],pre,i,hi,_=>by
  show readL rd i (p,pre) (pieces 10 [])=_
  rw [show pieces 10 []=[[]]from rfl]
  show(if 4≤i∧([]:List UInt8)=[]then Sum.inr (p,pre)else Sum.inl (i+1))=_
  rw [if_pos ⟨hi,rfl⟩,List.append_nil]
 |t::ts,pre,i,hi,h=>by
  obtain⟨h1,h2⟩:=tr_line (h t List.mem_cons_self)
  have e:tailT kT (t::ts)=trT kT t++ [10]++tailT kT ts:=rfl
  have hl:lineS rd i (p,pre) (pieces 32 (trT kT t))=some (p,pre++ [t]):=by
   unfold lineS
   rw [if_neg (by omega),if_neg (by omega),if_neg (by omega),if_neg (by omega),h2];rfl
  rw [e,readL_cons h1 hl,tail_back ts (pre++ [t]) (i+1) (by omega) (fun u hu=>h u (List.mem_cons_of_mem _ hu)),List.append_assoc]
  rfl
theorem ok_r7 {p:Pd} (h:okP p=true):(r7 p.mn∧r7 p.mx∧r7 p.po∧r7 p.co)∧(r7 p.tl∧r7 p.bk∧r7 p.af∧r7 p.sh)∧(r7 p.uw∧r7 p.up∧r7 p.uc∧r7 p.ue)∧(r7 p.dw∧r7 p.dp∧r7 p.dc∧r7 p.de):=by
 unfold okP numB paceB at h
 simp only [Bool.and_eq_true]at h
 obtain⟨⟨a1,a2,a3,a4,a5,a6,a7,a8⟩,⟨b1,b2,b3,b4⟩,⟨c1,c2,c3,c4⟩⟩:=h
 have q: ∀ {n lo hi:Int},rg n lo hi=true→lo≤n∧n≤hi:=fun {n lo hi} h=>by unfold rg at h;rwa [decide_eq_true_eq]at h
 have:=q a1;have:=q a2;have:=q a3;have:=q a4;have:=q a5;have:=q a6;have:=q a7;have:=q a8
 have:=q b1;have:=q b2;have:=q b3;have:=q b4;have:=q c1;have:=q c2;have:=q c3;have:=q c4
 unfold r7
 omega
theorem plan_back {p:Pd} {ts:List Tr} (hn:nmB p.nm=true) (ho:okP p=true) (ht: ∀t∈ts,TrOk rd kT t):readL rd 0 (p0,[]) (pieces 10 (planT kT p ts))=.inr (p,ts):=by
 obtain⟨⟨a1,a2,a3,a4⟩,⟨b1,b2,b3,b4⟩,⟨c1,c2,c3,c4⟩,⟨d1,d2,d3,d4⟩⟩:=ok_r7 ho
 obtain⟨n10,n32⟩:=nm_no hn
 have e:planT kT p ts=lnT (wPlan++ [32]++p.nm) [p.mn,p.mx,p.po,p.co]++ [10]++(lnT wRest [p.tl,p.bk,p.af,p.sh]++ [10]++(lnT wUp [p.uw,p.up,p.uc,p.ue]++ [10]++(lnT wDown [p.dw,p.dp,p.dc,p.de]++ [10]++tailT kT ts))):=by
  unfold planT headT;simp only [List.append_assoc]
 have w0:pieces 32 (lnT (wPlan++ [32]++p.nm) [p.mn,p.mx,p.po,p.co])=wPlan::p.nm::[p.mn,p.mx,p.po,p.co].map Lib.itoa:=by
  rw [show lnT (wPlan++ [32]++p.nm) [p.mn,p.mx,p.po,p.co]=wPlan++32::lnT p.nm [p.mn,p.mx,p.po,p.co] by unfold lnT;simp,pieces_hit (by decide),ln_words _ _ n32]
 rw [e, readL_cons (st' := ({ p0 with nm := p.nm, mn := p.mn, mx := p.mx, po := p.po, co := p.co }, [])) (ln_no _ _ (by simp only [List.mem_append, not_or]; exact ⟨⟨by decide, by decide⟩, n10⟩)) (by
  rw [w0]
  show(line0 (wPlan::p.nm::[p.mn,p.mx,p.po,p.co].map Lib.itoa) p0).map _=_
  unfold line0
  dsimp only
  rw [if_pos ⟨rfl,hn⟩,four_back a1 a2 a3 a4];rfl)]
 rw [readL_cons (st' := ({ p0 with nm := p.nm, mn := p.mn, mx := p.mx, po := p.po, co := p.co, tl := p.tl, bk := p.bk, af := p.af, sh := p.sh }, [])) (ln_no _ _ (by decide)) (by
  rw [ln_words _ _ (by decide)]
  show(line1 _ _).map _=_
  unfold line1
  dsimp only
  rw [if_pos rfl,four_back b1 b2 b3 b4];rfl)]
 rw [readL_cons (st' := ({ p0 with nm := p.nm, mn := p.mn, mx := p.mx, po := p.po, co := p.co, tl := p.tl, bk := p.bk, af := p.af, sh := p.sh, uw := p.uw, up := p.up, uc := p.uc, ue := p.ue }, [])) (ln_no _ _ (by decide)) (by
  rw [ln_words _ _ (by decide)]
  show(line2 _ _).map _=_
  unfold line2
  dsimp only
  rw [if_pos rfl,four_back c1 c2 c3 c4];rfl)]
 rw [readL_cons (st' := (p, [])) (ln_no _ _ (by decide)) (by
  rw [ln_words _ _ (by decide)]
  show(line3 _ _).map _=_
  unfold line3
  dsimp only
  rw [if_pos rfl,four_back d1 d2 d3 d4];rfl)]
 rw [tail_back ts [] 4 (Nat.le_refl _) ht];rfl
end
end Pln
namespace Pie
open Crn

theorem byte_of {n:Nat} (h:n<256):(UInt8.ofNat n).toNat=n:=by simp [UInt8.toNat_ofNat'];omega
theorem dec_dg {n:Nat} (h:n<100): ∀x∈Lib.decDigits n,dg x=true:=by
 intro x hx
 by_cases g:n<10
 ·rw [Lib.decDigits_one g,List.mem_singleton]at hx
  subst hx
  unfold dg;rw [byte_of (by omega),decide_eq_true_eq];omega
 ·rw [Lib.decDigits_two g h]at hx
  simp only [List.mem_cons,List.not_mem_nil,or_false]at hx
  rcases hx with rfl|rfl
  ·unfold dg;rw [byte_of (by omega),decide_eq_true_eq];omega
  ·unfold dg;rw [byte_of (by omega),decide_eq_true_eq];omega
theorem dec_num {n:Nat} (h:n<100):num2 (Lib.decDigits n)=some (n:Int):=by
 have hd:=dec_dg h
 by_cases g:n<10
 ·rw [Lib.decDigits_one g]at hd⊢
  unfold num2
  dsimp only
  rw [if_pos (hd _ (by simp)),byte_of (by omega)]
  congr 1;omega
 ·rw [Lib.decDigits_two g h]at hd⊢
  unfold num2
  dsimp only
  rw [if_pos ⟨hd _ (by simp),hd _ (by simp)⟩,byte_of (by omega),byte_of (by omega)]
  congr 1;omega
theorem dec_no {n:Nat} {c:UInt8} (h:n<100) (hc:dg c=false):c∉Lib.decDigits n:=fun g=>by rw [dec_dg h c g]at hc;cases hc
theorem dec_ne {n:Nat} (h:n<100):Lib.decDigits n≠ [42]:=fun e=>by
 have:=dec_dg h 42 (by rw [e];simp)
 revert this;decide
theorem row_item {lo hi a b:Int} (h0:0≤a) (h1:lo≤a) (h2:a≤b) (h3:b≤hi) (h4:b<100):itemS lo hi (rowT (a,b))=some (a,b,1):=by
 obtain⟨A,rfl⟩:=Int.eq_ofNat_of_zero_le h0
 obtain⟨B,rfl⟩:=Int.eq_ofNat_of_zero_le (show 0≤b by omega)
 have hA:A<100:=by omega
 have hB:B<100:=by omega
 unfold rowT
 dsimp only
 rw [Int.toNat_natCast,Int.toNat_natCast]
 by_cases e:(A:Int)=(B:Int)
 ·rw [if_pos e]
  have e':A=B:=by omega
  subst e'
  unfold itemS
  rw [cutS_none (dec_no hA (by decide))]
  dsimp only
  have:rowS lo hi (Lib.decDigits A)=some ((A:Int),(A:Int),true):=by
   unfold rowS
   rw [if_neg (dec_ne hA),cutS_none (dec_no hA (by decide))]
   dsimp only
   rw [dec_num hA]
   dsimp only
   rw [if_pos (by omega)]
  rw [this]
 ·rw [if_neg e]
  have e1:Lib.decDigits A++ [45]++Lib.decDigits B=Lib.decDigits A++45::Lib.decDigits B:=by simp
  rw [e1]
  have n47:(47:UInt8)∉Lib.decDigits A++45::Lib.decDigits B:=by
   intro g
   rcases List.mem_append.1 g with g|g
   ·exact dec_no hA (by decide) g
   ·rcases List.mem_cons.1 g with g|g
    ·revert g;decide
    ·exact dec_no hB (by decide) g
  have ne:Lib.decDigits A++45::Lib.decDigits B≠ [42]:=fun e=>by
   have:(45:UInt8)∈([42]:List UInt8):=by rw [←e];simp
   simp at this
  unfold itemS
  rw [cutS_none n47]
  dsimp only
  have:rowS lo hi (Lib.decDigits A++45::Lib.decDigits B)=some ((A:Int),(B:Int),false):=by
   unfold rowS
   rw [if_neg ne,cutS_hit (dec_no hA (by decide))]
   dsimp only
   rw [dec_num hA,dec_num hB]
   dsimp only
   rw [if_pos (by omega)]
  rw [this]
theorem row_no {a b:Int} {c:UInt8} (ha:0≤a∧a<100) (hb:0≤b∧b<100) (hc:dg c=false) (h45:c≠45):c∉rowT (a,b):=by
 unfold rowT
 dsimp only
 intro g
 split at g
 ·exact dec_no (by omega) hc g
 ·simp only [List.mem_append,List.mem_singleton]at g
  rcases g with(g|g)|g
  ·exact dec_no (by omega) hc g
  ·exact h45 g
  ·exact dec_no (by omega) hc g
theorem pieces_join (c:UInt8): ∀(x:List UInt8) (r:List (List UInt8)),(∀y∈x::r,c∉y)→pieces c (Lib.join (x::r) [c])=x::r
 |x,[],h=>by rw [Lib.join_one];exact pieces_none (h x (by simp))
 |x,y::r,h=>by
  have e:Lib.join (x::y::r) [c]=x++c::Lib.join (y::r) [c]:=by
   rw [Lib.join_cons,Lib.join_cons]
   simp [Lib.joinTail]
  rw [e,pieces_hit (h x (by simp)),pieces_join c y r (fun z hz=>h z (by simp only [List.mem_cons]at hz⊢;exact Or.inr hz))]
theorem rows_mono (s:Int): ∀(k n:Nat) (p:Int×Int),p∈rowsU s n→p∈rowsU s (n+k)
 |0,n,p,h=>h
 |k+1,n,p,h=>by
  have e:rowsU s (n+(k+1))=rowsU s (n+k)++(if isSt s ((n+k:Nat):Int)=true then [(((n+k:Nat):Int),endOf s ((n+k:Nat):Int))]else []):=rfl
  rw [e,List.mem_append];exact Or.inl (rows_mono s k n p h)
section
variable {s : Int} (hs : 0 ≤ s ∧ s ≤ 18446744073709551615) (h60 : ∀ n, inS s n = true → n ≤ 59)
include hs h60
theorem rows_are: ∀(k:Nat) (p:Int×Int),p∈rowsU s k→0≤p.1∧p.1≤p.2∧p.2≤59∧p.1<k∧(∀n,p.1≤n→n≤p.2→inS s n=true)∧inS s (p.2+1)=false
 |0,p,h=>by cases h
 |k+1,p,h=>by
  have e:rowsU s (k+1)=rowsU s k++(if isSt s (k:Int)=true then [((k:Int),endOf s k)]else []):=rfl
  rw [e,List.mem_append]at h
  rcases h with h|h
  ·obtain⟨a,b,c,d,f,g⟩:=rows_are k p h
   exact⟨a,b,c,by omega,f,g⟩
  ·by_cases g:isSt s (k:Int)=true
   ·rw [if_pos g,List.mem_singleton]at h
    subst h
    unfold isSt at g
    rw [Bool.and_eq_true]at g
    obtain⟨e1,e2,e3,e4,e5⟩:=end_spec hs h60 g.1
    unfold endOf
    refine⟨by dsimp only;omega,by dsimp only;omega,by dsimp only;omega,by dsimp only;omega,fun n h1 h2=>e5 n h1 (by dsimp only at h2;omega),?_⟩
    dsimp only
    rw [show frm (ntS s) (k:Int)-1+1=frm (ntS s) (k:Int) by omega];exact e4
   ·rw [if_neg g]at h;cases h
theorem rows_all: ∀(n:Nat),inS s (n:Int)=true→ ∃p,p∈rowsU s (n+1)∧p.1≤n∧(n:Int)≤p.2
 |n,h=>by
  have e:rowsU s (n+1)=rowsU s n++(if isSt s (n:Int)=true then [((n:Int),endOf s n)]else []):=rfl
  cases g:isSt s (n:Int)
  ·cases n with
   |zero=>
    unfold isSt at g
    rw [h,inS_neg s _ (by omega)]at g
    cases g
   |succ n=>
    have hp:inS s (n:Int)=true:=by
     unfold isSt at g
     rw [h]at g
     have e2:(((n+1:Nat):Int)-1)=(n:Int):=by omega
     rw [e2]at g
     cases q:inS s (n:Int)
     ·rw [q]at g;cases g
     ·rfl
    obtain⟨p,h1,h2,h3⟩:=rows_all n hp
    obtain⟨a1,a2,a3,a4,a5,a6⟩:=rows_are hs h60 (n+1) p h1
    refine⟨p,by rw [e,List.mem_append];exact Or.inl h1,by omega,?_⟩
    rcases Int.lt_or_le p.2 ((n+1:Nat):Int)with q|q
    ·exfalso
     have e3:p.2+1=((n+1:Nat):Int):=by omega
     rw [e3,h]at a6;cases a6
    ·exact q
  ·have e5:=(end_spec hs h60 (show inS s (n:Int)=true from h)).2.1
   refine⟨((n:Int),endOf s n),by rw [e,g,List.mem_append];exact Or.inr (by simp),Int.le_refl _,?_⟩
   unfold endOf;dsimp only;omega
theorem rows_set (K:Nat) (hK:60≤K):SetIs ((rowsU s K).map fun p=>(p.1,p.2,1)) s:=by
 refine⟨hs,fun n=> ?_⟩
 rw [List.any_map]
 cases h:inS s n
 ·rw [eq_comm,List.any_eq_false]
  intro p hp hq
  obtain⟨a1,a2,a3,a4,a5,a6⟩:=rows_are hs h60 K p hp
  simp only [Function.comp,inI,decide_eq_true_eq]at hq
  rw [a5 n hq.1 hq.2.1]at h;cases h
 ·rw [eq_comm,List.any_eq_true]
  have b:=inS_bd h
  have c:=h60 n h
  obtain⟨N,rfl⟩:=Int.eq_ofNat_of_zero_le b.1
  obtain⟨p,h1,h2,h3⟩:=rows_all hs h60 N h
  refine⟨p,?_,?_⟩
  ·have:=rows_mono s (K-(N+1)) (N+1) p h1
   rwa [show N+1+(K-(N+1))=K by omega]at this
  ·simp only [Function.comp,inI,decide_eq_true_eq]
   exact⟨h2,h3,Int.emod_one _⟩
end
end Pie
namespace Pie
open Crn

theorem join_no {c d:UInt8} (hcd:c≠d): ∀(r:List (List UInt8)),(∀y∈r,c∉y)→c∉Lib.join r [d]
 | [],_=>by simp [Lib.join_nil]
 | [x],h=>by rw [Lib.join_one];exact h x (by simp)
 |x::y::r,h=>by
  have e:Lib.join (x::y::r) [d]=x++d::Lib.join (y::r) [d]:=by
   rw [Lib.join_cons,Lib.join_cons];simp [Lib.joinTail]
  rw [e]
  intro g
  rcases List.mem_append.1 g with g|g
  ·exact h x (by simp) g
  ·rcases List.mem_cons.1 g with g|g
   ·exact hcd g
   ·exact join_no hcd (y::r) (fun z hz=>h z (by simp only [List.mem_cons]at hz⊢;exact Or.inr hz)) g
theorem wordS_map {lo hi:Int} : ∀(r:List (Int×Int)),(∀p∈r,itemS lo hi (rowT p)=some (p.1,p.2,1))→wordS lo hi (r.map rowT)=some (r.map fun p=>(p.1,p.2,1))
 | [],_=>rfl
 |p::r,h=>by
  have e:wordS lo hi (rowT p::r.map rowT)=match itemS lo hi (rowT p),wordS lo hi (r.map rowT)with|some p,some l=>some (p::l)|_,_=>none:=rfl
  rw [List.map_cons,e,h p (by simp),wordS_map r (fun q hq=>h q (by simp [hq]))];rfl
theorem star_word {lo hi:Int} :wordS lo hi (pieces 44 [42])=some [(lo,hi,1)]:=by
 have e:pieces 44 [42]=[[42]]:=pieces_none (by decide)
 have i:itemS lo hi [42]=some (lo,hi,1):=by
  unfold itemS
  rw [cutS_none (by decide)]
  dsimp only
  unfold rowS;rw [if_pos rfl]
 rw [e];unfold wordS;rw [i];rfl
section
variable {s lo hi : Int} (hs : 0 ≤ s ∧ s ≤ 18446744073709551615) (hsub : ∀ n, inS s n = true → lo ≤ n ∧ n ≤ hi) (h59 : hi ≤ 59)
include hs hsub h59
theorem rows_ne {K:Nat} (hK:60≤K) (hne: ∃n,inS s n=true):rowsU s K≠ []:=by
 obtain⟨n,hn⟩:=hne
 have h60: ∀n,inS s n=true→n≤59:=fun n h=>by have:=hsub n h;omega
 intro e
 have:=(rows_set hs h60 K hK).2 n
 rw [e,hn]at this;cases this
theorem rows_read {K:Nat} (hK:60≤K) (hne: ∃n,inS s n=true):pieces 44 (Lib.join ((rowsU s K).map rowT) [44])=(rowsU s K).map rowT∧wordS lo hi ((rowsU s K).map rowT)=some ((rowsU s K).map fun p=>(p.1,p.2,1))∧SetIs ((rowsU s K).map fun p=>(p.1,p.2,1)) s∧
  (32:UInt8)∉Lib.join ((rowsU s K).map rowT) [44]∧Lib.join ((rowsU s K).map rowT) [44]≠ [42]:=by
 have h60: ∀n,inS s n=true→n≤59:=fun n h=>by have:=hsub n h;omega
 have hr:=rows_are hs h60 K
 have hno: ∀(c:UInt8),dg c=false→c≠45→ ∀y∈(rowsU s K).map rowT,c∉y:=by
  intro c h1 h2 y hy
  rw [List.mem_map]at hy
  obtain⟨p,hp,rfl⟩:=hy
  obtain⟨a1,a2,a3,a4,a5,a6⟩:=hr p hp
  exact row_no (a:=p.1) (b:=p.2) (by omega) (by omega) h1 h2
 have hp44:pieces 44 (Lib.join ((rowsU s K).map rowT) [44])=(rowsU s K).map rowT:=by
  have hn:=rows_ne hs hsub h59 hK hne
  cases e:rowsU s K with
  |nil=>exact absurd e hn
  |cons p r=>
   rw [e]at hno
   rw [List.map_cons]
   exact pieces_join 44 _ _ (fun y hy=>hno 44 (by decide) (by decide) y (by rw [List.map_cons];exact hy))
 refine⟨hp44,wordS_map _ (fun p hp=> ?_),rows_set hs h60 K hK,join_no (by decide) _ (hno 32 (by decide) (by decide)),fun e=> ?_⟩
 ·obtain⟨a1,a2,a3,a4,a5,a6⟩:=hr p hp
  have q1:=hsub p.1 (a5 p.1 (Int.le_refl _) a2)
  have q2:=hsub p.2 (a5 p.2 a2 (Int.le_refl _))
  exact row_item a1 q1.1 a2 q2.2 (by omega)
 ·rw [e,pieces_none (by decide)]at hp44
  exact hno 42 (by decide) (by decide) [42] (by rw [←hp44];simp) (by simp)
end
theorem full_one {full lo hi v:Int} (hF:0≤full∧full≤18446744073709551615) (hf: ∀n,inS full n=decide (lo≤n∧n≤hi)):SetIs [(lo,hi,1)] v↔v=full:=by
 have e: ∀n,([(lo,hi,1)]:List (Int×Int×Int)).any (fun p=>inI p n)=decide (lo≤n∧n≤hi):=fun n=>by
  simp only [List.any_cons,List.any_nil,Bool.or_false,inI]
  rw [decide_eq_decide]
  exact⟨fun h=>⟨h.1,h.2.1⟩,fun h=>⟨h.1,h.2,Int.emod_one _⟩⟩
 constructor
 ·intro h
  exact u_ext _ _ h.1 hF fun n=>by rw [h.2,e,hf]
 ·rintro rfl
  exact⟨hF,fun n=>by rw [hf,e]⟩
theorem word_in {lo hi:Int} (hl:lo≤hi): ∀(r:List (List UInt8)) (l:List (Int×Int×Int)),wordS lo hi r=some l→(∀p∈l,lo≤p.1∧p.1≤p.2.1∧p.2.1≤hi)∧l.length=r.length
 | [],l,h=>by cases h;exact⟨(fun p hp=>by cases hp),rfl⟩
 |t::r,l,h=>by
  have e:wordS lo hi (t::r)=match itemS lo hi t,wordS lo hi r with|some p,some l=>some (p::l)|_,_=>none:=rfl
  rw [e]at h
  cases h1:itemS lo hi t with
  |none=>rw [h1]at h;cases h
  |some q=>
   cases h2:wordS lo hi r with
   |none=>rw [h1,h2]at h;cases h
   |some m=>
    rw [h1,h2]at h
    cases h
    obtain⟨g1,g2⟩:=word_in hl r m h2
    obtain⟨a,b,st⟩:=q
    have:=itemS_bd hl h1
    refine⟨fun p hp=> ?_,by simp [g2]⟩
    rcases List.mem_cons.1 hp with rfl|hp
    ·exact⟨this.1,this.2.1,this.2.2.1⟩
    ·exact g1 p hp
theorem set_in {lo hi v:Int} {t:List UInt8} {l:List (Int×Int×Int)} (hl:lo≤hi) (h:wordS lo hi (pieces 44 t)=some l) (hv:SetIs l v):(∀n,inS v n=true→lo≤n∧n≤hi)∧ ∃n,inS v n=true:=by
 obtain⟨g1,g2⟩:=word_in hl _ l h
 refine⟨fun n hn=> ?_,?_⟩
 ·rw [hv.2,List.any_eq_true]at hn
  obtain⟨p,hp,hq⟩:=hn
  unfold inI at hq
  rw [decide_eq_true_eq]at hq
  have:=g1 p hp
  omega
 ·cases l with
  |nil=>
   rw [pieces_len]at g2;simp at g2
  |cons p r=>
   refine⟨p.1,?_⟩
   have:=g1 p (by simp)
   rw [hv.2,List.any_cons]
   have e:inI p p.1=true:=by
    unfold inI;rw [decide_eq_true_eq]
    exact⟨Int.le_refl _,this.2.1,by simp⟩
   rw [e];rfl
theorem ok_read {full lo hi v:Int} {t:List UInt8} {l:List (Int×Int×Int)} (hF:0≤full∧full≤18446744073709551615) (hf: ∀n,inS full n=decide (lo≤n∧n≤hi)) (hl:lo≤hi) (h:wordS lo hi (pieces 44 t)=some l) (hv:SetIs l v) {m:Bool} (hm:m=true→t=[42]):okB v full m=true:=by
 obtain⟨g1,n,g2⟩:=set_in hl h hv
 have z:v≠0:=fun e=>by rw [e,inS_zero]at g2;cases g2
 have a:bits .andNot .u64 v full=0:=by
  refine u_ext _ _ (u_andNot v full hv.1 hF) (by decide) fun n=> ?_
  rw [in_andNot v full n hv.1 hF,inS_zero,hf]
  cases q:inS v n
  ·rfl
  ·have:=g1 n q
   rw [decide_eq_true this];rfl
 unfold okB
 cases m
 ·simp [z,a]
 ·have e:=hm rfl
  subst e
  rw [star_word]at h
  cases h
  have:=(full_one hF hf).1 hv
  subst this
  simp [z,a]
def taken:List (Int×Int)→Int
 | []=>0
 |p::r=>(p.2-p.1+2)+taken r
theorem taken_add: ∀(a b:List (Int×Int)),taken (a++b)=taken a+taken b
 | [],b=>by simp [taken]
 |p::a,b=>by
  show(p.2-p.1+2)+taken (a++b)=((p.2-p.1+2)+taken a)+taken b
  rw [taken_add a b];omega
def wide:List (Int×Int)→Int
 | []=>0
 |p::r=>((rowT p).length:Int)+1+wide r
theorem dec_two (n:Nat) (h:n<100):(Lib.decDigits n).length≤2:=by
 by_cases g:n<10
 ·rw [Lib.decDigits_one g];simp
 ·rw [Lib.decDigits_two g h];simp
theorem wide_le: ∀(r:List (Int×Int)),(∀p∈r,0≤p.1∧p.1≤p.2∧p.2≤59)→wide r≤2*taken r
 | [],_=>by simp [wide,taken]
 |p::r,h=>by
  have ih:=wide_le r (fun q hq=>h q (by simp [hq]))
  obtain⟨h1,h2,h3⟩:=h p (by simp)
  have l1:=dec_two p.1.toNat (by omega)
  have l2:=dec_two p.2.toNat (by omega)
  unfold wide taken
  have:((rowT p).length:Int)+1≤2*(p.2-p.1+2):=by
   unfold rowT
   split
   ·omega
   ·simp only [List.length_append,List.length_cons,List.length_nil]
    omega
  omega
theorem join_wide: ∀(r:List (Int×Int)),((Lib.join (r.map rowT) [44]).length:Int)≤wide r
 | []=>by simp [Lib.join_nil,wide]
 | [p]=>by simp [Lib.join_one,wide];omega
 |p::q::r=>by
  have ih:=join_wide (q::r)
  have e:Lib.join ((p::q::r).map rowT) [44]=rowT p++44::Lib.join ((q::r).map rowT) [44]:=by
   rw [List.map_cons,List.map_cons,Lib.join_cons,Lib.join_cons];simp [Lib.joinTail]
  rw [e]
  have e2:wide (p::q::r)=((rowT p).length:Int)+1+wide (q::r):=rfl
  rw [e2]
  simp only [List.length_append,List.length_cons]
  omega
theorem taken_le {s lo hi:Int} (hs:0≤s∧s≤18446744073709551615) (hsub: ∀n,inS s n=true→lo≤n∧n≤hi) (h59:hi≤59) (hlh:lo≤hi):
  ∀k:Nat,taken (rowsU s k)≤hi+2-lo∧(∀n:Int,(k:Int)≤n→isSt s n=true→taken (rowsU s k)≤n-lo)
 | 0 => ⟨by simp [rowsU, taken]; omega, fun n h1 h2 => by
   simp [rowsU,taken]
   unfold isSt at h2;rw [Bool.and_eq_true]at h2
   have:=hsub n h2.1;omega⟩
 |k+1=>by
  obtain⟨g1,g2⟩:=taken_le hs hsub h59 hlh k
  have h60: ∀n,inS s n=true→n≤59:=fun n h=>by have:=hsub n h;omega
  have e:rowsU s (k+1)=rowsU s k++(if isSt s (k:Int)=true then [((k:Int),endOf s k)]else []):=rfl
  cases g:isSt s (k:Int)
  ·rw [e,g]
   simp only [Bool.false_eq_true,if_false,List.append_nil]
   exact⟨g1,fun n h1 h2=>g2 n (by omega) h2⟩
  ·have g':=g
   unfold isSt at g'
   rw [Bool.and_eq_true]at g'
   obtain⟨e1,e2,e3,e4,e5⟩:=end_spec hs h60 g'.1
   have hend:=hsub (frm (ntS s) (k:Int)-1) (e5 _ (by omega) (by omega))
   have q:=g2 k (Int.le_refl _) g
   rw [e,if_pos g,taken_add]
   have t1:taken [((k:Int),endOf s k)]=endOf s k-k+2:=by simp [taken]
   rw [t1]
   unfold endOf
   refine⟨by omega,fun n h1 h2=> ?_⟩
   unfold isSt at h2
   rw [Bool.and_eq_true]at h2
   have:frm (ntS s) (k:Int)<n:=by
    rcases Int.lt_trichotomy n (frm (ntS s) (k:Int))with c|c|c
    ·exfalso
     have b1:=e5 (n-1) (by omega) (by omega)
     rw [b1]at h2;exact absurd h2.2 (by decide)
    ·rw [c,e4]at h2;exact absurd h2.1 (by decide)
    ·exact c
   omega
theorem word_short {s lo hi:Int} (hs:0≤s∧s≤18446744073709551615) (hsub: ∀n,inS s n=true→lo≤n∧n≤hi) (h59:hi≤59) (hlh:lo≤hi) (K:Nat):((Lib.join ((rowsU s K).map rowT) [44]).length:Int)≤2*(hi+2-lo):=by
 have h60: ∀n,inS s n=true→n≤59:=fun n h=>by have:=hsub n h;omega
 have h1:=join_wide (rowsU s K)
 have h2:=wide_le (rowsU s K) (fun p hp=>by obtain⟨a1,a2,a3,_⟩:=rows_are hs h60 K p hp;exact⟨a1,a2,a3⟩)
 have h3:=(taken_le hs hsub h59 hlh K).1
 omega
end Pie
end Go.Proofs.YtddabkmppobcdaaGreatDoor
