/- A part. -/
import Derived.Test.YtaekecgbdegemaaGreatDoorPtPlanWalks
import Derived.Test.YtaekecgbdegemaaGreatDoorPtTextWalks
import Derived.Test.YtaekecgbdegemaaGreatDoorPtShelf5
set_option linter.all false
open Go.Proofs.Tryz
set_option maxHeartbeats 32000000
set_option maxRecDepth 8000
namespace Go.Proofs.YtaekecgbdegemaaGreatDoor
namespace Pln
open Go.RowKit Lai Civ Crn Pie
variable {k:Nat} {x:UInt8} {o:Option Int}

def minB (t:List UInt8):Bool:=t.head? ==some 45
def digs (t:List UInt8):List UInt8:=if minB t=true then t.tail else t
theorem cutp (t:List UInt8):Lib.trimPrefix t [45]=digs t∧Lib.hasPrefix t [45]=minB t:=by
 cases t with
 |nil=>exact⟨rfl,rfl⟩
 |cons x r=>
  have e:Lib.hasPrefix (x::r) [45]=minB (x::r):=by
   by_cases hx:x=45
   ·subst hx;rfl
   ·have a:((45:UInt8)==x)=false:=by rw [beq_eq_false_iff_ne];exact fun h=>hx h.symm
    have b:minB (x::r)=false:=by unfold minB;rw [beq_eq_false_iff_ne];intro h;exact hx (XZ h)
    rw [b];show((45:UInt8)==x&&List.isPrefixOf [] r)=false;rw [a];rfl
  refine⟨?_,e⟩;unfold Lib.trimPrefix digs;rw [e];rfl
theorem num7_eq (t:List UInt8):num7 t=if okD (digs t)=true∧ ¬((digs t).head? =some 48∧(minB t=true∨1<(digs t).length))then some (if minB t=true then-(valD (digs t))else valD (digs t))else none:=by
 unfold num7 digs;by_cases h:t.head? =some 45
 ·have hb:minB t=true:=by unfold minB;rw [h];rfl
  rw [if_pos h,hb,if_pos rfl,if_pos rfl];simp
 ·have hb:minB t=false:=by unfold minB;rw [beq_eq_false_iff_ne];exact h
  rw [if_neg h,hb];simp
theorem all_take {D:List UInt8} (h:D[k]? =some x) (hd:(D.take k).all dg=true) (hx:dg x=true):(D.take (k+1)).all dg=true:=by
 rw [XB,h,List.all_append,hd];simp [hx]
theorem val_take {D:List UInt8} (h:D[k]? =some x):valD (D.take (k+1))=10*valD (D.take k)+((x.toNat:Int)-48):=by
 rw [XB,h,Option.toList_some,valD_snoc]
theorem val_lt {D:List UInt8} (hk:k≤7) (hd:(D.take k).all dg=true):0≤valD (D.take k)∧valD (D.take k)<10000000:=by
 obtain⟨b1,b2⟩:=valD_bd _ (D.take k) rfl hd;refine⟨b1,Int.lt_of_lt_of_le b2 ?_⟩;have q:(10:Nat)^(D.take k).length≤10^7:=Yd (by decide) (by rw [Xt];omega);have q2:((10^(D.take k).length:Nat):Int)≤((10^7:Nat):Int):=Int.ofNat_le.2 q;rw [Int.natCast_pow]at q2;exact q2
def numV (o:Option Int):Value:=.tuple #[.int .i64 (o.getD 0),.bool o.isSome]
def PdR (D:List UInt8) (W:World) (i n:Value) (wr:World):Prop:= ∃k:Nat,k≤D.length∧i=.int .i64 k∧n=.int .i64 (valD (D.take k))∧(D.take k).all dg=true∧wr=W
set_option linter.unusedSimpArgs false

def NumIs (o:Option Int) (D:List UInt8) (b:Bool):Prop:=o=if okD D=true∧ ¬(D.head? =some 48∧(b=true∨1<D.length))then some (if b=true then-(valD D)else valD D)else none
def sgn (b:Bool) (V:Int):Int:=if b=true then-V else V
theorem dgf {a:UInt8} (h:dg a=false):(a.toNat:Int)<48∨57<(a.toNat:Int):=by unfold dg at h;rw [decide_eq_false_iff_not]at h;omega
theorem no_num {D:List UInt8} {b:Bool} (h:NumIs o D b) (hx:(∃x,x∈D∧dg x=false)∨ ¬(1≤D.length∧D.length≤7)):o=none:=by
 unfold NumIs at h;rw [h,if_neg];rintro⟨q,_⟩;unfold okD at q;rw [Xq,decide_eq_true_eq]at q;rcases hx with⟨x,h1,h2⟩|hx
 ·have:=Ye.1 q.2 x h1;rw [h2]at this;cases this
 ·exact hx q.1
theorem yes_num {D:List UInt8} {b:Bool} (h:NumIs o D b) (hl:1≤D.length∧D.length≤7) (hd:D.all dg=true) (hg: ¬(D.head? =some 48∧(b=true∨1<D.length))):o=some (sgn b (valD D)):=by
 unfold NumIs at h;rw [h,if_pos ⟨by unfold okD;rw [Xq,decide_eq_true_eq];exact⟨hl,hd⟩,hg⟩];rfl

section
variable {t D : List UInt8} {b : Bool}
def CutIs (t D:List UInt8) (b:Bool):Prop:= ∀w,CS 241 #[strV t,.string ⟨#[45]⟩] w (.tuple #[strV D,.bool b])
theorem cut_is (t:List UInt8):CutIs t (digs t) (minB t):=by
 have c0:=fun w=>strings_CutPrefix ⟨t.toArray⟩ ⟨#[45]⟩ w;have e1:Lib.trimPrefix (⟨t.toArray⟩:ByteArray).data.toList (⟨#[45]⟩:ByteArray).data.toList=digs t:=(cutp t).1;have e2:Lib.hasPrefix (⟨t.toArray⟩:ByteArray).data.toList (⟨#[45]⟩:ByteArray).data.toList=minB t:=(cutp t).2;rw [e1,e2]at c0;exact c0
theorem pnum_len (w:World) (c0:CutIs t D b) (hn:num7 t=none) (hl:D.length≤3000) (h: ¬(1≤D.length∧D.length≤7)):
  CB 214 #[strV t] w (numV (num7 t)):=by
 have hsz:(⟨D.toArray⟩:ByteArray).size=D.length:=rfl;unfold CutIs at c0;have c1:=fun w=>within_any (D.length:Int) 1 7 w;rw [show rg (D.length:Int) 1 7=false by unfold rg;rw [decide_eq_false_iff_not];omega]at c1;have HN:=zh hn;clear hn h;go_enter func214,ntmps214
 go_wp2_with (first
  |(go_at_call 241;(with_reducible refine zq (c0 _) ?_))
  |(go_at_call 182;(with_reducible refine zq (c1 _) ?_)))
 go_ret2;exact⟨by rw [HN.out];rfl,Below.refl _ _⟩
theorem pnum_nought (w:World) (c0:CutIs t D b) (hn:num7 t=none) (h:1≤D.length∧D.length≤7) (h0:D[0]? =some 48) (hz1:b=true∨1<D.length):
  CB 214 #[strV t] w (numV (num7 t)):=by
 have hsz:(⟨D.toArray⟩:ByteArray).size=D.length:=rfl;unfold CutIs at c0;have c1:=fun w=>within_any (D.length:Int) 1 7 w;rw [show rg (D.length:Int) 1 7=true from rg_iff.2 (by omega)]at c1;have HN:=zh hn;have hx48:((⟨D.toArray⟩:ByteArray)[0]'(by rw [hsz];omega))=48:=by
  have:D[0]=48:=by simpa [show 0<D.length by omega]using h0
  exact this
 clear hn;go_enter func214,ntmps214;cases b
 ·have h1:(1:Int)<D.length:=by rcases hz1 with q|q;(cases q);omega
  clear hz1
  go_wp2_with (first
   |(go_at_call 241;(with_reducible refine zq (c0 _) ?_))
   |(go_at_call 182;(with_reducible refine zq (c1 _) ?_)))
  go_ret2;exact⟨by rw [HN.out];rfl,Below.refl _ _⟩
 ·clear hz1
  go_wp2_with (first
   |(go_at_call 241;(with_reducible refine zq (c0 _) ?_))
   |(go_at_call 182;(with_reducible refine zq (c1 _) ?_)))
  go_ret2;exact⟨by rw [HN.out];rfl,Below.refl _ _⟩
theorem pnum_zero (w:World) (c0:CutIs t D false) (hB: ∀x,x∈D→dg x=false→num7 t=none) (hG:D.all dg=true→num7 t=some (sgn false (valD D))) (h:1≤D.length∧D.length≤7) (h0:D[0]? =some 48) (h2:D.length=1):
  CB 214 #[strV t] w (numV (num7 t)):=by
 have hsz:(⟨D.toArray⟩:ByteArray).size=D.length:=rfl;unfold CutIs at c0;have c1:=fun w=>within_any (D.length:Int) 1 7 w;rw [show rg (D.length:Int) 1 7=true from rg_iff.2 (by omega)]at c1;obtain⟨W,cap,hk,hc,hb,hz⟩:=bytes0 w D;have HB:=zh hB;have HG:=zh hG;clear hB hG;have h1: ¬(1:Int)<D.length:=by omega
 clear h2;have hx48:((⟨D.toArray⟩:ByteArray)[0]'(by rw [hsz];omega))=48:=by
  have:D[0]=48:=by simpa [show 0<D.length by omega]using h0
  exact this
 clear h0;go_enter func214,ntmps214
 go_wp2_with (first
  |(go_at_call 241;(with_reducible refine zq (c0 _) ?_))
  |(go_at_call 182;(with_reducible refine zq (c1 _) ?_)))
 go_loopw [34,6] (fun i n wr=>PdR D W i n wr) (fun i _ _=>D.length-(intOf i).toNat)
 case atStart=>exact⟨0,Xx _,rfl,by simp [valD],by simp,rfl⟩
 case round=>
  obtain⟨k,hk1,rfl,rfl,hd0,h9⟩:=hrel;have h8:=h9.symm;clear h9;subst h8;have vb:=val_lt (D:=D) (k:=k) (by omega) hd0;have HD:=zh hd0;clear hd0;by_cases hlt:k<D.length
  ·have hlt':(k:Int)<D.length:=by omega
   obtain⟨x,hx⟩: ∃x,D[k]? =some x:=⟨D[k],by simp [hlt]⟩
   have cx:=hc k x hx;have hxu:(x.toNat:Int)≤255:=by have:=x.toNat_lt;omega
   have hxz:0≤(x.toNat:Int):=by omega
   cases hdx:dg x
   ·have HN:Hid (num7 t=none):=HB.out x (Xk hx) hdx;clear hx HB HG hc;rcases dgf hdx with g|g
    ·clear hdx;go_wp2;go_ret2;exact⟨by rw [HN.out];rfl,hb⟩
    ·clear hdx;go_wp2;go_ret2;exact⟨by rw [HN.out];rfl,hb⟩
   ·have g:=dgb hdx;have HA:Hid ((D.take (k+1)).all dg=true):=all_take hx HD.out hdx;have HV:Hid (valD (D.take (k+1))=10*valD (D.take k)+((x.toNat:Int)-48)):=val_take hx;clear hx hdx hc HB HG;generalize valD (D.take k)=V at vb HV⊢;go_wp2;go_roundw
    case rel=>exact⟨k+1,by omega,rfl,by rw [HV.out],HA.out,rfl⟩
    case measure=>simp [intOf];omega
  ·obtain rfl:k=D.length:=by omega
   have HN:Hid (num7 t=some (sgn false (valD D))):=HG.out (by have:=HD.out;rwa [XC]at this);rw [XC]at vb⊢;clear HB HG hc HD;generalize valD D=V at vb HN⊢;go_wp2;go_ret2;exact⟨by rw [HN.out];rfl,hb⟩
theorem pnum_plus (w:World) (c0:CutIs t D false) (hB: ∀x,x∈D→dg x=false→num7 t=none) (hG:D.all dg=true→num7 t=some (sgn false (valD D))) (h:1≤D.length∧D.length≤7) (h0:D[0]?≠some 48):
  CB 214 #[strV t] w (numV (num7 t)):=by
 have hsz:(⟨D.toArray⟩:ByteArray).size=D.length:=rfl;unfold CutIs at c0;have c1:=fun w=>within_any (D.length:Int) 1 7 w;rw [show rg (D.length:Int) 1 7=true from rg_iff.2 (by omega)]at c1;obtain⟨W,cap,hk,hc,hb,hz⟩:=bytes0 w D;have HB:=zh hB;have HG:=zh hG;clear hB hG;obtain⟨x0,hx0⟩: ∃x,D[0]? =some x:=⟨D[0],by simp⟩
 have hxk:(⟨D.toArray⟩:ByteArray)[0]'(by rw [hsz];omega)=x0:=by
  have:D[0]=x0:=by simpa [show 0<D.length by omega]using hx0
  exact this
 have hx2:((x0.toNat:Int)==48)=false:=by
  rw [beq_eq_false_iff_ne];intro q;exact h0 (by rw [hx0,UInt8.toNat_inj.1 (show x0.toNat=(48:UInt8).toNat by have:((48:UInt8).toNat:Int)=48:=rfl;omega)])
 clear h0 hx0;go_enter func214,ntmps214
 go_wp2_with (first
  |(go_at_call 241;(with_reducible refine zq (c0 _) ?_))
  |(go_at_call 182;(with_reducible refine zq (c1 _) ?_)))
 go_loopw [34,6] (fun i n wr=>PdR D W i n wr) (fun i _ _=>D.length-(intOf i).toNat)
 case atStart=>exact⟨0,Xx _,rfl,by simp [valD],by simp,rfl⟩
 case round=>
  obtain⟨k,hk1,rfl,rfl,hd0,h9⟩:=hrel;have h8:=h9.symm;clear h9;subst h8;have vb:=val_lt (D:=D) (k:=k) (by omega) hd0;have HD:=zh hd0;clear hd0;by_cases hlt:k<D.length
  ·have hlt':(k:Int)<D.length:=by omega
   obtain⟨x,hx⟩: ∃x,D[k]? =some x:=⟨D[k],by simp [hlt]⟩
   have cx:=hc k x hx;have hxu:(x.toNat:Int)≤255:=by have:=x.toNat_lt;omega
   have hxz:0≤(x.toNat:Int):=by omega
   cases hdx:dg x
   ·have HN:Hid (num7 t=none):=HB.out x (Xk hx) hdx;clear hx HB HG hc;rcases dgf hdx with g|g
    ·clear hdx;go_wp2;go_ret2;exact⟨by rw [HN.out];rfl,hb⟩
    ·clear hdx;go_wp2;go_ret2;exact⟨by rw [HN.out];rfl,hb⟩
   ·have g:=dgb hdx;have HA:Hid ((D.take (k+1)).all dg=true):=all_take hx HD.out hdx;have HV:Hid (valD (D.take (k+1))=10*valD (D.take k)+((x.toNat:Int)-48)):=val_take hx;clear hx hdx hc HB HG;generalize valD (D.take k)=V at vb HV⊢;go_wp2;go_roundw
    case rel=>exact⟨k+1,by omega,rfl,by rw [HV.out],HA.out,rfl⟩
    case measure=>simp [intOf];omega
  ·obtain rfl:k=D.length:=by omega
   have HN:Hid (num7 t=some (sgn false (valD D))):=HG.out (by have:=HD.out;rwa [XC]at this);rw [XC]at vb⊢;clear HB HG hc HD;generalize valD D=V at vb HN⊢;go_wp2;go_ret2;exact⟨by rw [HN.out];rfl,hb⟩
theorem pnum_minus (w:World) (c0:CutIs t D true) (hB: ∀x,x∈D→dg x=false→num7 t=none) (hG:D.all dg=true→num7 t=some (sgn true (valD D))) (h:1≤D.length∧D.length≤7) (h0:D[0]?≠some 48):
  CB 214 #[strV t] w (numV (num7 t)):=by
 have hsz:(⟨D.toArray⟩:ByteArray).size=D.length:=rfl;unfold CutIs at c0;have c1:=fun w=>within_any (D.length:Int) 1 7 w;rw [show rg (D.length:Int) 1 7=true from rg_iff.2 (by omega)]at c1;obtain⟨W,cap,hk,hc,hb,hz⟩:=bytes0 w D;have HB:=zh hB;have HG:=zh hG;clear hB hG;obtain⟨x0,hx0⟩: ∃x,D[0]? =some x:=⟨D[0],by simp⟩
 have hxk:(⟨D.toArray⟩:ByteArray)[0]'(by rw [hsz];omega)=x0:=by
  have:D[0]=x0:=by simpa [show 0<D.length by omega]using hx0
  exact this
 have hx2:((x0.toNat:Int)==48)=false:=by
  rw [beq_eq_false_iff_ne];intro q;exact h0 (by rw [hx0,UInt8.toNat_inj.1 (show x0.toNat=(48:UInt8).toNat by have:((48:UInt8).toNat:Int)=48:=rfl;omega)])
 clear h0 hx0;go_enter func214,ntmps214
 go_wp2_with (first
  |(go_at_call 241;(with_reducible refine zq (c0 _) ?_))
  |(go_at_call 182;(with_reducible refine zq (c1 _) ?_)))
 go_loopw [34,6] (fun i n wr=>PdR D W i n wr) (fun i _ _=>D.length-(intOf i).toNat)
 case atStart=>exact⟨0,Xx _,rfl,by simp [valD],by simp,rfl⟩
 case round=>
  obtain⟨k,hk1,rfl,rfl,hd0,h9⟩:=hrel;have h8:=h9.symm;clear h9;subst h8;have vb:=val_lt (D:=D) (k:=k) (by omega) hd0;have HD:=zh hd0;clear hd0;by_cases hlt:k<D.length
  ·have hlt':(k:Int)<D.length:=by omega
   obtain⟨x,hx⟩: ∃x,D[k]? =some x:=⟨D[k],by simp [hlt]⟩
   have cx:=hc k x hx;have hxu:(x.toNat:Int)≤255:=by have:=x.toNat_lt;omega
   have hxz:0≤(x.toNat:Int):=by omega
   cases hdx:dg x
   ·have HN:Hid (num7 t=none):=HB.out x (Xk hx) hdx;clear hx HB HG hc;rcases dgf hdx with g|g
    ·clear hdx;go_wp2;go_ret2;exact⟨by rw [HN.out];rfl,hb⟩
    ·clear hdx;go_wp2;go_ret2;exact⟨by rw [HN.out];rfl,hb⟩
   ·have g:=dgb hdx;have HA:Hid ((D.take (k+1)).all dg=true):=all_take hx HD.out hdx;have HV:Hid (valD (D.take (k+1))=10*valD (D.take k)+((x.toNat:Int)-48)):=val_take hx;clear hx hdx hc HB HG;generalize valD (D.take k)=V at vb HV⊢;go_wp2;go_roundw
    case rel=>exact⟨k+1,by omega,rfl,by rw [HV.out],HA.out,rfl⟩
    case measure=>simp [intOf];omega
  ·obtain rfl:k=D.length:=by omega
   have HN:Hid (num7 t=some (sgn true (valD D))):=HG.out (by have:=HD.out;rwa [XC]at this);rw [XC]at vb⊢;clear HB HG hc HD;generalize valD D=V at vb HN⊢;go_wp2;go_ret2;exact⟨by rw [HN.out];rfl,hb⟩
end
theorem pnum_any (t:List UInt8) (w:World) (hl:t.length≤3000):
  CB 214 #[strV t] w (numV (num7 t)):=by
 have c0:=cut_is t;have hq:NumIs (num7 t) (digs t) (minB t):=num7_eq t;have hld:(digs t).length≤3000:=by unfold digs;split;(rw [List.length_tail];omega);exact hl
 generalize digs t=D at c0 hq hld;generalize minB t=b at c0 hq;by_cases h:1≤D.length∧D.length≤7
 ·have hh:D.head? =D[0]? :=List.head?_eq_getElem?;by_cases hz:D[0]? =some 48∧(b=true∨1<D.length)
  ·refine pnum_nought w c0 ?_ h hz.1 hz.2;unfold NumIs at hq;rw [hq,if_neg];rintro⟨_,q⟩;exact q ⟨hh.trans hz.1,hz.2⟩
  ·have hB: ∀x,x∈D→dg x=false→num7 t=none:=fun x h1 h2=>no_num hq (Or.inl ⟨x,h1,h2⟩);have hG:D.all dg=true→num7 t=some (sgn b (valD D)):=fun g=>yes_num hq h g (fun q=>hz ⟨hh.symm.trans q.1,q.2⟩);by_cases h0:D[0]? =some 48
   ·cases b
    ·exact pnum_zero w c0 hB hG h h0 (Nat.le_antisymm (Nat.not_lt.1 fun q=>hz ⟨h0,Or.inr q⟩) h.1)
    ·exact absurd ⟨h0,Or.inl rfl⟩ hz
   ·cases b
    ·exact pnum_plus w c0 hB hG h h0
    ·exact pnum_minus w c0 hB hG h h0
 ·exact pnum_len w c0 (no_num hq (Or.inr h)) hld h
