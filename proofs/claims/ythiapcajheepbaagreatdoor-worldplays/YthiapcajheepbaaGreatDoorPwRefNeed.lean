/- A part. -/
import Derived.Test.YthiapcajheepbaaGreatDoorPwNeedTr
import Derived.Deep.DeepCutAuto
set_option linter.all false
open Go.Proofs.Tryz
set_option maxHeartbeats 32000000
set_option maxRecDepth 8000
namespace Go.Proofs.YthiapcajheepbaaGreatDoor
namespace Ned
open Go.RowKit Plain Num Pln Civ Crn Lai RCiv
variable {k tol:Int} {X:Nat→Int}

def mtR (k:Int) (X:Nat→Int):Nat→Int
 |0=>0
 |j+1=>if 0<X j∧(k=1∨j=0)then clip (mtR k X j+clip (X j))else mtR k X j
def mnR (k:Int) (X:Nat→Int):Nat→Nat
 |0=>0
 |j+1=>if 0<X j∧(k=1∨j=0)then mnR k X j+1 else mnR k X j
theorem mtR_bd (k:Int) (X:Nat→Int) (j:Nat):0≤mtR k X j∧mtR k X j≤1000000000000000:=by
 induction j with
 |zero=>simp [mtR]
 |succ j ih=>
  unfold mtR;split
  ·rename_i h;have h1:=clip_bd (mtR k X j+clip (X j));have h2:=clip_pos (a:=X j) (by omega);exact⟨clip_ge (by omega),h1.2⟩
  ·exact ih
theorem mnR_le (k:Int) (X:Nat→Int) (j:Nat):mnR k X j≤j:=by
 induction j with
 |zero=>simp [mnR]
 |succ j ih=>unfold mnR;split<;>omega
theorem mtR_lag (X:Nat→Int) (j:Nat):mtR 1 X j=sumF X j:=by
 induction j with
 |zero=>rfl
 |succ j ih=>
  have hb:=sumF_bd X j;have e:clip (sumF X j)=sumF X j:=clip_in (by omega) hb.2;by_cases h:0<X j
  ·have ea:atz (X j)=X j:=by unfold atz;split<;>omega
   show(if 0<X j∧((1:Int)=1∨j=0)then clip (mtR 1 X j+clip (X j))else mtR 1 X j)=clip (clip (sumF X j)+clip (atz (X j)));rw [if_pos ⟨h,Or.inl rfl⟩,ih,e,ea]
  ·have ea:atz (X j)=0:=by unfold atz;split<;>omega
   show(if 0<X j∧((1:Int)=1∨j=0)then clip (mtR 1 X j+clip (X j))else mtR 1 X j)=clip (clip (sumF X j)+clip (atz (X j)));rw [if_neg (fun h'=>h h'.1),ih,e,ea];have e0:clip 0=0:=clip_in (by omega) (by omega);rw [e0,Int.add_zero,e]
theorem mnR_lag (X:Nat→Int) (j:Nat):mnR 1 X j=cntF X j:=by
 induction j with
 |zero=>rfl
 |succ j ih=>
  show(if 0<X j∧((1:Int)=1∨j=0)then mnR 1 X j+1 else mnR 1 X j)=if 0<X j then cntF X j+1 else cntF X j
  rw [ih];by_cases h:0<X j
  ·rw [if_pos ⟨h,Or.inl rfl⟩,if_pos h]
  ·rw [if_neg (fun h'=>h h'.1),if_neg h]
theorem mtR_dep (hk:k≠1) (X:Nat→Int) (j:Nat):mtR k X (j+1)=clip (atz (X 0)):=by
 induction j with
 |zero=>
  show(if 0<X 0∧(k=1∨0=0)then clip (0+clip (X 0))else 0)=clip (atz (X 0));by_cases h:0<X 0
  ·have ea:atz (X 0)=X 0:=by unfold atz;split<;>omega
   have hb:=clip_bd (X 0);rw [if_pos ⟨h,Or.inr rfl⟩,ea,Int.zero_add,clip_in (by omega) (by omega)]
  ·have ea:atz (X 0)=0:=by unfold atz;split<;>omega
   rw [if_neg (fun h'=>h h'.1),ea,clip_in (by omega) (by omega)]
 |succ j ih=>
  show(if 0<X (j+1)∧(k=1∨j+1=0)then clip (mtR k X (j+1)+clip (X (j+1)))else mtR k X (j+1))=_;rw [if_neg (fun h=>by rcases h.2 with h|h;exact hk h;omega),ih]
theorem mtR_met (len:Nat) (X:Nat→Int):mtR k X len=clip (metF k len X):=by
 unfold metF;by_cases h:k=1
 ·subst h;have hb:=sumF_bd X len;rw [if_pos rfl,mtR_lag,clip_in (by omega) hb.2]
 ·rw [if_neg h];cases len with
  |zero=>rw [if_pos rfl,clip_in (by omega) (by omega)];rfl
  |succ n=>rw [if_neg (by omega),mtR_dep h]
def pdR (k tg:Int) (len:Nat) (X:Nat→Int):Int:=if k=1∧(mnR k X len:Int)<up (clip (mtR k X len)) (clip tg)then(mnR k X len:Int)else up (clip (mtR k X len)) (clip tg)
theorem pdR_pod (k tg:Int) (len:Nat) (X:Nat→Int):pdR k tg len X=podF k tg len X:=by
 unfold pdR podF;have hc:clip (mtR k X len)=clip (metF k len X):=by
  have hb:=mtR_bd k X len;rw [clip_in (by omega) hb.2,mtR_met]
 rw [hc];by_cases h:k=1
 ·subst h;rw [if_pos rfl,mnR_lag];by_cases h2:(cntF X len:Int)<up (clip (metF 1 len X)) (clip tg)
  ·rw [if_pos ⟨rfl,h2⟩];omega
  ·rw [if_neg (fun h'=>h2 h'.2)];omega
 ·rw [if_neg (fun h'=>h h'.1),if_neg h]
def MtR (k:Int) (X:Nat→Int) (len:Nat) (W:World) (n m i:Value) (wr:World):Prop:= ∃j:Nat,j≤len∧i=.int .i64 j∧n=.int .i64 (mtR k X j)∧m=.int .i64 (mnR k X j:Int)∧wr=W
theorem rmetric (t:Tr) (f:Bool) (a:Option Addr) (len cap:Nat) (X:Nat→Int) (w:World) (hm:len≤maxLen) (hX:IntsAt w a len X):
  CB 158 #[trV t,rdV f a len cap] w (.tuple #[.int .i64 (mtR t.k X len),.int .i64 (mnR t.k X len:Int)]):=by
 unfold maxLen at hm;obtain⟨W,hW⟩: ∃W,W=(w.alloc (.cells (trC t) 84)).alloc (.cells #[.bool f,.slice a len cap] 149):=⟨_,rfl⟩
 have hK:Box2 w W t f (.slice a len cap):=by rw [hW];exact Box2.mk2 w t f _ _ _
 have hXW:=hX.below hK.bw (Xa _);have k0:=hK.tr.c0;have r1:=hK.r1;have hbw:=hK.bw;have HW:=zh hW;clear hX hW hK;obtain⟨k,tg,ac,ka,kb⟩:=t;dsimp only at k0;go_enter func158,ntmps158;go_upto_region 1 with fail
 rw [←HW.out];clear HW;go_wp2;go_loopw [4,5,6] (fun n m i wr=>MtR k X len W n m i wr) (fun _ _ i _=>len-(intOf i).toNat)
 case atStart=>exact⟨0,by omega,rfl,rfl,rfl,rfl⟩
 case round=>
  obtain⟨j,hj,rfl,rfl,rfl,hwr⟩:=hrel;have h8:=hwr.symm;clear hwr;subst h8;have hb:=mtR_bd k X j;have hn:=mnR_le k X j;by_cases hlt:j<len
  ·have hlt':(j:Int)<len:=by omega
   obtain⟨b,off,rfl,hbl,cX,bX⟩:=hXW j hlt;have cl:=fun n w=>rclip_any n w;have hcb:=clip_bd (X j);have e1:mtR k X (j+1)=if 0<X j∧(k=1∨j=0)then clip (mtR k X j+clip (X j))else mtR k X j:=rfl
   have e2:mnR k X (j+1)=if 0<X j∧(k=1∨j=0)then mnR k X j+1 else mnR k X j:=rfl
   by_cases hp:0<X j
   ·by_cases hk:k=1
    ·subst hk;rw [if_pos ⟨hp,Or.inl rfl⟩]at e1 e2;have HE:Hid (mtR 1 X (j+1)=clip (mtR 1 X j+clip (X j))∧mnR 1 X (j+1)=mnR 1 X j+1):=⟨e1,e2⟩
     clear e1 e2;go_wp2_with(go_at_call 87;(with_reducible refine zq (cl _ _) ?_))
     go_roundw
     case rel=>exact⟨j+1,by omega,rfl,by rw [HE.out.1],by rw [HE.out.2];simp,rfl⟩
     case measure=>simp [intOf];omega
    ·have dk:(k==1)=false:=by rw [beq_eq_false_iff_ne];exact hk
     by_cases h0:j=0
     ·subst h0;rw [if_pos ⟨hp,Or.inr rfl⟩]at e1 e2;have HE:Hid (mtR k X 1=clip (mtR k X 0+clip (X 0))∧mnR k X 1=mnR k X 0+1):=⟨e1,e2⟩
      simp only [XD]at cX;clear e1 e2;go_wp2_with(go_at_call 87;(with_reducible refine zq (cl _ _) ?_))
      go_roundw
      case rel=>exact⟨1,by omega,rfl,by rw [HE.out.1],by rw [HE.out.2];simp,rfl⟩
      case measure=>simp [intOf];omega
     ·have d0:((j:Int)==0)=false:=by rw [beq_eq_false_iff_ne];omega
      rw [if_neg (fun h=>by rcases h.2 with h|h;exact hk h;exact h0 h)]at e1 e2;have HE:Hid (mtR k X (j+1)=mtR k X j∧mnR k X (j+1)=mnR k X j):=⟨e1,e2⟩
      clear e1 e2;go_wp2;go_roundw
      case rel=>exact⟨j+1,by omega,rfl,by rw [HE.out.1],by rw [HE.out.2],rfl⟩
      case measure=>simp [intOf];omega
   ·rw [if_neg (fun h=>hp h.1)]at e1 e2;have HE:Hid (mtR k X (j+1)=mtR k X j∧mnR k X (j+1)=mnR k X j):=⟨e1,e2⟩
    clear e1 e2;go_wp2;go_roundw
    case rel=>exact⟨j+1,by omega,rfl,by rw [HE.out.1],by rw [HE.out.2],rfl⟩
    case measure=>simp [intOf];omega
  ·obtain rfl:j=len:=by omega
   go_wp2;go_ret2;exact⟨rfl,hbw⟩
theorem rneed_cnt (t:Tr) (a:Option Addr) (len cap:Nat) (X:Nat→Int) (sec shift:Int) (w:World) (hk:t.k=1∨t.k=2) (h:1≤t.tg) (hm:len≤maxLen) (hX:IntsAt w a len X):
  CB 128 #[trV t,rdV false a len cap,.int .i64 sec,.int .i64 shift] w (.tuple #[needV (pdR t.k t.tg len X) (decide (t.ac<mtR t.k X len)),.int .i64 0]):=by
 obtain⟨W,hW⟩: ∃W,W=((w.alloc (.cells (trC t) 84)).alloc (.cells #[.bool false,.slice a len cap] 149)).alloc (.cells #[.int .i64 0,.bool false] 178):=⟨_,rfl⟩
 have hK:BoxAt w W t false (.slice a len cap):=by rw [hW];exact BoxAt.mk3 w t false _ _ _ _
 have HW:=zh hW;have cM:=rmetric t false a len cap X W hm (hX.below hK.bw (Xa _));have cC:=fun w=>rceil_any (mtR t.k X len) t.tg w h;have cI:=fun w=>in_any t.k 1 3 w;have hin:inB t.k 1 3=true:=by unfold inB;rcases hk with h|h<;>rw [h]<;>decide
 rw [hin]at cI;have hA:=hK.tr;have k0:=hK.tr.c0;have k1:=hK.tr.c1;have r0:=hK.r0;have r1:=hK.r1;have h1: ¬t.tg<1:=by omega
 have d3:(t.k==3)=false:=by rw [beq_eq_false_iff_ne];omega
 unfold pdR;generalize mtR t.k X len=m at*;generalize (mnR t.k X len:Int)=n at*;clear hX hW hin hm h;rcases hk with hk1|hk2
 ·have d1:(t.k==1)=true:=by rw [hk1];rfl
  by_cases hlt:n<up (clip m) (clip t.tg)
  ·rw [if_pos ⟨hk1,hlt⟩];clear hk1;generalize up (clip m) (clip t.tg)=u at*;go_enter func128,ntmps128;go_upto_region 1 with fail
   rw [←HW.out];clear HW
   go_wp2_with (first
    |(go_at_call 6;(with_reducible refine zq (cI _) ?_))
    |(with_reducible refine wp_tr hA (by with_unfolding_all rfl) ?_)
    |(go_at_call 158;(with_reducible refine zg cM fun w1 hb1=>?_);have hK1:=hK.next hb1;have q0:=hK1.tr.c0;have q1:=hK1.tr.c1;have q2:=hK1.tr.c2;have n0:=hK1.n0;have n1:=hK1.n1;have fz:=hK1.fz;clear hb1)
    |(go_at_call 159;(with_reducible refine zq (cC _) ?_)))
   exact finL (B:=w.heap.size+1+1) results128 rfl rfl rfl n0 n1 rfl (Xc (Xm _) (Xm _)) hK1.bw
  ·rw [if_neg (fun h=>hlt h.2)];clear hk1;generalize up (clip m) (clip t.tg)=u at*;go_enter func128,ntmps128;go_upto_region 1 with fail
   rw [←HW.out];clear HW
   go_wp2_with (first
    |(go_at_call 6;(with_reducible refine zq (cI _) ?_))
    |(with_reducible refine wp_tr hA (by with_unfolding_all rfl) ?_)
    |(go_at_call 158;(with_reducible refine zg cM fun w1 hb1=>?_);have hK1:=hK.next hb1;have q0:=hK1.tr.c0;have q1:=hK1.tr.c1;have q2:=hK1.tr.c2;have n0:=hK1.n0;have n1:=hK1.n1;have fz:=hK1.fz;clear hb1)
    |(go_at_call 159;(with_reducible refine zq (cC _) ?_)))
   exact finL (B:=w.heap.size+1+1) results128 rfl rfl rfl n0 n1 rfl (Xc (Xm _) (Xm _)) hK1.bw
 ·have d1:(t.k==1)=false:=by rw [beq_eq_false_iff_ne];omega
  rw [if_neg (fun h=>by have:=h.1;omega)];clear hk2;generalize up (clip m) (clip t.tg)=u at*;go_enter func128,ntmps128;go_upto_region 1 with fail
  rw [←HW.out];clear HW
  go_wp2_with (first
   |(go_at_call 6;(with_reducible refine zq (cI _) ?_))
   |(with_reducible refine wp_tr hA (by with_unfolding_all rfl) ?_)
   |(go_at_call 158;(with_reducible refine zg cM fun w1 hb1=>?_);have hK1:=hK.next hb1;have q0:=hK1.tr.c0;have q1:=hK1.tr.c1;have q2:=hK1.tr.c2;have n0:=hK1.n0;have n1:=hK1.n1;have fz:=hK1.fz;clear hb1)
   |(go_at_call 159;(with_reducible refine zq (cC _) ?_)))
  exact finL (B:=w.heap.size+1+1) results128 rfl rfl rfl n0 n1 rfl (Xc (Xm _) (Xm _)) hK1.bw

def farR (m F:Int):Int:=if clip (m-F)<0 then-clip (m-F)else clip (m-F)
def wtR (now tol k tg:Int) (len:Nat) (X:Nat→Int):Int:=
 if now≠0∧farR (mtR k X len) (mulc (clip now) (clip tg))≤share (atz (clip (mulc (clip now) (clip tg)))) (atz (clip tol))then now else pdR k tg len X
theorem rwant (now tol:Int) (t:Tr) (a:Option Addr) (len cap:Nat) (X:Nat→Int) (w:World) (hk:t.k=1∨t.k=2) (h:1≤t.tg) (hn:0≤now∧now≤50) (ht:0≤tol∧tol≤1000) (hm:len≤maxLen) (hX:IntsAt w a len X):
  CB 129 #[.int .i64 now,.int .i64 tol,trV t,rdV false a len cap] w (.tuple #[.int .i64 (wtR now tol t.k t.tg len X),.int .i64 0]):=by
 obtain⟨W,hW⟩: ∃W,W=(w.alloc (.cells (trC t) 84)).alloc (.cells #[.bool false,.slice a len cap] 149):=⟨_,rfl⟩
 have hK:Box2 w W t false (.slice a len cap):=by rw [hW];exact Box2.mk2 w t false _ _ _
 have HW:=zh hW;have hXW:=hX.below hK.bw (Xa _);have cM:=rmetric t false a len cap X W hm hXW;have cN:=fun w hX=>rneed_cnt t a len cap X 0 0 w hk h hm hX;have cI1:=fun w=>in_any t.k 1 2 w;have cI2:=fun w=>in_any now 0 50 w;have cI3:=fun w=>in_any tol 0 1000 w;have i1:inB t.k 1 2=true:=by unfold inB;rcases hk with h|h<;>rw [h]<;>decide
 have i2:inB now 0 50=true:=by unfold inB;simp;omega
 have i3:inB tol 0 1000=true:=by unfold inB;simp;omega
 rw [i1]at cI1;rw [i2]at cI2;rw [i3]at cI3;have cMu:=fun w=>rmul_any now t.tg w;have hl:=mulc_lim (clip now) (clip t.tg);have hb:=mtR_bd t.k X len;have cCl:=fun w=>rclip_any (mtR t.k X len-mulc (clip now) (clip t.tg)) w;have cSh:=fun w=>rshare_any (mulc (clip now) (clip t.tg)) tol w;have hcb:=clip_bd (mtR t.k X len-mulc (clip now) (clip t.tg));have hA:=hK.tr;have k0:=hK.tr.c0;have k1:=hK.tr.c1;have r0:=hK.r0;have r1:=hK.r1;have h1: ¬t.tg<1:=by omega
 unfold wtR farR;generalize mtR t.k X len=m at*;generalize (mnR t.k X len:Int)=mn at*;generalize pdR t.k t.tg len X=pd at*;generalize mulc (clip now) (clip t.tg)=F at*;generalize clip (m-F)=A at*;generalize share (atz (clip F)) (atz (clip tol))=S at*;clear hW i1 i2 i3 hk h hX hm
 have fin: ∀(r:Int),(if now≠0∧(if A<0 then-A else A)≤S then now else pd)=r→
   CB 129 #[.int .i64 now,.int .i64 tol,trV t,rdV false a len cap] w (.tuple #[.int .i64 r,.int .i64 0]):=by
  intro r hr;by_cases h0:now=0
  ·have hr2:r=pd:=by rw [←hr,if_neg (fun h=>h.1 h0)]
   subst hr2;clear hr cSh;subst h0;by_cases hA0:A<0
   all_goals
    go_enter func129,ntmps129;go_upto_region 1 with fail
    rw [←HW.out];clear HW
    go_wp2_with (first
     |(go_at_call 6;first|((with_reducible refine zq (cI1 _) ?_))|((with_reducible refine zq (cI2 _) ?_))|((with_reducible refine zq (cI3 _) ?_)))
     |(with_reducible refine wp_tr hA (by with_unfolding_all rfl) ?_)
     |(go_at_call 158;(with_reducible refine zg cM fun w1 hb1=>?_);have hK1:=hK.next hb1;have hA1:=hK1.tr;have q1:=hK1.tr.c1;have s0:=hK1.r0;have s1:=hK1.r1;have hX1:=hXW.below hb1 (Xa _);clear hb1)
     |(go_at_call 160;(with_reducible refine zq (cMu _) ?_))
     |(go_at_call 87;(with_reducible refine zq (cCl _) ?_))
     |(with_reducible refine wp_tr hA1 (by with_unfolding_all rfl) ?_)
     |(go_at_call 128;(with_reducible refine zg (cN _ hX1) fun w3 hb3=>?_);have hw3:=hK1.bw.trans (hb3.mono (Xc (Nat.le_add_right _ 2) hK1.sz))))
    go_ret2;exact⟨rfl,hw3.alloc hw3.size _⟩
  ·have d0:(now !=0)=true:=by simp [h0]
   by_cases hA0:A<0
   ·rw [if_pos hA0]at hr;by_cases hS: -A≤S
    ·have hr2:r=now:=by rw [←hr,if_pos ⟨h0,hS⟩]
     subst hr2;clear hr cN;go_enter func129,ntmps129;go_upto_region 1 with fail
     rw [←HW.out];clear HW
     go_wp2_with (first
      |(go_at_call 6;first|((with_reducible refine zq (cI1 _) ?_))|((with_reducible refine zq (cI2 _) ?_))|((with_reducible refine zq (cI3 _) ?_)))
      |(with_reducible refine wp_tr hA (by with_unfolding_all rfl) ?_)
      |(go_at_call 158;(with_reducible refine zg cM fun w1 hb1=>?_);have hK1:=hK.next hb1;have q1:=hK1.tr.c1;clear hb1)
      |(go_at_call 160;(with_reducible refine zq (cMu _) ?_))
      |(go_at_call 87;(with_reducible refine zq (cCl _) ?_))
      |(go_at_call 161;(with_reducible refine zq (cSh _) ?_)))
     go_ret2;exact⟨rfl,hK1.bw⟩
    ·have hr2:r=pd:=by rw [←hr,if_neg (fun h=>hS h.2)]
     subst hr2;clear hr;go_enter func129,ntmps129;go_upto_region 1 with fail
     rw [←HW.out];clear HW
     go_wp2_with (first
      |(go_at_call 6;first|((with_reducible refine zq (cI1 _) ?_))|((with_reducible refine zq (cI2 _) ?_))|((with_reducible refine zq (cI3 _) ?_)))
      |(with_reducible refine wp_tr hA (by with_unfolding_all rfl) ?_)
      |(go_at_call 158;(with_reducible refine zg cM fun w1 hb1=>?_);have hK1:=hK.next hb1;have hA1:=hK1.tr;have q1:=hK1.tr.c1;have s0:=hK1.r0;have s1:=hK1.r1;have hX1:=hXW.below hb1 (Xa _);clear hb1)
      |(go_at_call 160;(with_reducible refine zq (cMu _) ?_))
      |(go_at_call 87;(with_reducible refine zq (cCl _) ?_))
      |(go_at_call 161;(with_reducible refine zq (cSh _) ?_))
      |(with_reducible refine wp_tr hA1 (by with_unfolding_all rfl) ?_)
      |(go_at_call 128;(with_reducible refine zg (cN _ hX1) fun w3 hb3=>?_);have hw3:=hK1.bw.trans (hb3.mono (Xc (Nat.le_add_right _ 2) hK1.sz))))
     go_ret2;exact⟨rfl,hw3.alloc hw3.size _⟩
   ·rw [if_neg hA0]at hr;by_cases hS:A≤S
    ·have hr2:r=now:=by rw [←hr,if_pos ⟨h0,hS⟩]
     subst hr2;clear hr cN;go_enter func129,ntmps129;go_upto_region 1 with fail
     rw [←HW.out];clear HW
     go_wp2_with (first
      |(go_at_call 6;first|((with_reducible refine zq (cI1 _) ?_))|((with_reducible refine zq (cI2 _) ?_))|((with_reducible refine zq (cI3 _) ?_)))
      |(with_reducible refine wp_tr hA (by with_unfolding_all rfl) ?_)
      |(go_at_call 158;(with_reducible refine zg cM fun w1 hb1=>?_);have hK1:=hK.next hb1;have q1:=hK1.tr.c1;clear hb1)
      |(go_at_call 160;(with_reducible refine zq (cMu _) ?_))
      |(go_at_call 87;(with_reducible refine zq (cCl _) ?_))
      |(go_at_call 161;(with_reducible refine zq (cSh _) ?_)))
     go_ret2;exact⟨rfl,hK1.bw⟩
    ·have hr2:r=pd:=by rw [←hr,if_neg (fun h=>hS h.2)]
     subst hr2;clear hr;go_enter func129,ntmps129;go_upto_region 1 with fail
     rw [←HW.out];clear HW
     go_wp2_with (first
      |(go_at_call 6;first|((with_reducible refine zq (cI1 _) ?_))|((with_reducible refine zq (cI2 _) ?_))|((with_reducible refine zq (cI3 _) ?_)))
      |(with_reducible refine wp_tr hA (by with_unfolding_all rfl) ?_)
      |(go_at_call 158;(with_reducible refine zg cM fun w1 hb1=>?_);have hK1:=hK.next hb1;have hA1:=hK1.tr;have q1:=hK1.tr.c1;have s0:=hK1.r0;have s1:=hK1.r1;have hX1:=hXW.below hb1 (Xa _);clear hb1)
      |(go_at_call 160;(with_reducible refine zq (cMu _) ?_))
      |(go_at_call 87;(with_reducible refine zq (cCl _) ?_))
      |(go_at_call 161;(with_reducible refine zq (cSh _) ?_))
      |(with_reducible refine wp_tr hA1 (by with_unfolding_all rfl) ?_)
      |(go_at_call 128;(with_reducible refine zg (cN _ hX1) fun w3 hb3=>?_);have hw3:=hK1.bw.trans (hb3.mono (Xc (Nat.le_add_right _ 2) hK1.sz))))
     go_ret2;exact⟨rfl,hw3.alloc hw3.size _⟩
 exact fin _ rfl
theorem act_same {ac:Int} {len:Nat} (h:ac≤1000000):decide (ac<mtR k X len)=decide (ac<metF k len X):=by
 rw [mtR_met,decide_eq_decide];have:=metF_ge k len X;unfold clip;repeat (first|omega|split)
theorem share_full {F:Int} (h0:0≤F) (h1:F≤1000000000000) (h2:0≤tol) (h3:tol≤1000):share (atz (clip F)) (atz (clip tol))≤F:=by
 have e1:clip F=F:=clip_in (by omega) (by omega);have e2:clip tol=tol:=clip_in (by omega) (by omega);have e3:atz F=F:=by unfold atz;split<;>omega
 have e4:atz tol=tol:=by unfold atz;split<;>omega
 rw [e1,e2,e3,e4];have h4:F*tol≤F*1000:=Int.mul_le_mul_of_nonneg_left h3 h0;have h5:F*tol/1000≤F:=by omega
 have h6:0≤F*tol:=Int.mul_nonneg h0 h2;unfold share;rw [clip_in (by omega) (by omega)];exact h5
theorem want_same {now tg:Int} {len:Nat} (hn:0≤now∧now≤50) (ht:0≤tol∧tol≤1000) (hg:1≤tg∧tg≤1000000):wtR now tol k tg len X=wantF now tol k tg len X:=by
 unfold wtR wantF;rw [pdR_pod];have hp:now*tg≤50*1000000:=Int.mul_le_mul hn.2 hg.2 (by omega) (by omega);have hp0:0≤now*tg:=Int.mul_nonneg hn.1 (by omega);have eF:mulc (clip now) (clip tg)=now*tg:=by
  unfold mulc;rw [clip_in (n:=now) (by omega) (by omega),clip_in (n:=tg) (by omega) (by omega),clip_in (by omega) (by omega)]
 rw [eF];have hS:=share_full (F:=now*tg) (tol:=tol) hp0 (by omega) ht.1 ht.2;have hm:=metF_ge k len X;have hc:clip (metF k len X)=metF k len X∨(clip (metF k len X)=1000000000000000∧1000000000000000<metF k len X):=by
  unfold clip;repeat (first|omega|split)
 have key:(farR (mtR k X len) (now*tg)≤share (atz (clip (now*tg))) (atz (clip tol)))↔nearF (metF k len X) (now*tg) tol=true:=by
  unfold nearF farR;rw [mtR_met,decide_eq_true_eq];generalize share (atz (clip (now*tg))) (atz (clip tol))=S at*;generalize now*tg=F at*;generalize metF k len X=m at*;have hb:=clip_bd m;have e:clip (clip m-F)=clip m-F:=clip_in (by omega) (by omega);rw [e];rcases hc with hc|⟨hc,hg⟩
  ·rw [hc];split<;>omega
  ·rw [hc];split<;>omega
 by_cases h0:now=0
 ·rw [if_neg (fun h=>h.1 h0),if_neg (fun h=>h.1 h0)]
 ·by_cases hq:nearF (metF k len X) (now*tg) tol=true
  ·rw [if_pos ⟨h0,key.2 hq⟩,if_pos ⟨h0,hq⟩]
  ·rw [if_neg (fun h=>hq (key.1 h.2)),if_neg (fun h=>hq h.2)]
