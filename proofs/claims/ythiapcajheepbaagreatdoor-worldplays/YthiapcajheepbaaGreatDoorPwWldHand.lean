/- A part. -/
import Derived.Test.YthiapcajheepbaaGreatDoorPwWldPlain
set_option linter.all false
open Go.Proofs.Tryz
set_option maxHeartbeats 32000000
set_option maxRecDepth 8000
namespace Go.Proofs.YthiapcajheepbaaGreatDoor
namespace Wld
open Go.RowKit Plain Pln Frm Lpp Crn
variable {R:List Buf.Rq} {i:Nat} {r:Buf.Rq} {F:Flt.FS} {id:Int}

theorem next_run (h:Buf.nextB R=true): ∃(i:Nat) (r:Buf.Rq),R[i]? =some r∧Buf.runOk R i r=true∧Buf.nextN R=(i:Int)+1:=by
 rcases Buf.may_next R with⟨_,_,h3⟩|⟨x,l,h1,h2,_⟩
 ·rw [h3]at h;cases h
 ·have:x∈Buf.mayL R R.length:=by rw [h1];simp
  obtain⟨i,r,_,hr,ho,hx⟩:=(Buf.mem_mayL R R.length x).1 this;exact⟨i,r,hr,ho,h2.trans hx⟩
theorem run_next (hr:R[i]? =some r) (ho:Buf.runOk R i r=true) (hn:Buf.nextN R=(i:Int)+1) (pod:Int):Buf.runL R (Buf.nextN R) pod=R.set i ⟨r.id,r.src,r.til,2,pod⟩∧Buf.runE R (Buf.nextN R)=0:=by
 rw [hn];exact⟨(Buf.run_ok hr ho).2,(Buf.run_ok (pod:=pod) hr ho).1⟩
theorem ok_fat (ho:Buf.runOk R i r=true):r.fat=1:=by
 unfold Buf.runOk Buf.mayRun at ho;simp only [Xq,beq_iff_eq]at ho;exact ho.1.1
theorem many_set: ∀(R:List Buf.Rq) (i:Nat) (r q:Buf.Rq),R[i]? =some r→r.fat=1→q.fat=2→Buf.many (-1) 1 (R.set i q)+1=Buf.many (-1) 1 R
 | [],i,r,q,h,_,_=>by simp at h
 |x::R,0,r,q,h,h1,h2=>by
  simp at h
  subst h
  unfold Buf.many
  rw [List.set_cons_zero,Yp,Yp]
  simp [Buf.isOf,h1,h2]
 |x::R,i+1,r,q,h,h1,h2=>by
  have:=many_set R i r q (by simpa using h) h1 h2
  unfold Buf.many at*
  rw [List.set_cons_succ,Yp,Yp]
  omega
theorem many_next (h:Buf.nextB R=true) (pod:Int):Buf.many (-1) 1 (Buf.runL R (Buf.nextN R) pod)+1=Buf.many (-1) 1 R:=by
 obtain⟨i,r,hr,ho,hn⟩:=next_run h;rw [(run_next hr ho hn pod).1];exact many_set R i r _ hr (ok_fat ho) rfl
theorem give_len (F:Flt.FS):(Flt.giveS F).L.length=F.L.length:=by
 cases hp:Flt.pick (Flt.room F.most) Flt.given F.L 0 none with
 |none=>rw [(Flt.give_none hp).1]
 |some x=>rw [(Flt.give_some (i:=x.1) (p:=x.2) hp).1];simp
theorem give_no (h:Flt.giveE F≠0):Flt.giveS F=F:=by
 cases hp:Flt.pick (Flt.room F.most) Flt.given F.L 0 none with
 |none=>exact(Flt.give_none hp).1
 |some x=>exact absurd (Flt.give_some (i:=x.1) (p:=x.2) hp).2.2 h
theorem on_stop (h: ¬(Buf.nextB R=true∧Flt.giveE F=0)): ∀k,onF k F R=(F,R)
 |0=>rfl
 |k+1=>by unfold onF;rw [if_neg h]
theorem on_step (h:Buf.nextB R=true∧Flt.giveE F=0) (k:Nat):onF (k+1) F R=onF k (Flt.giveS F) (Buf.runL R (Buf.nextN R) (Flt.giveN F)):=by
 rw [onF,if_pos h]
structure HoS (B:Nat) (c:Pc) (p:Pd) (ts:List Tr) (S:WS) (w:World) (g:Nat) (wr:World) (c1:Pc) (F:Flt.FS) (R:List Buf.Rq):Prop where
 a:WAt wr B c1 p ts { S with F:=F,R:=R }
 d:c1.x.D=c.x.D
 m:Mm.Mv (bk c ts) (bk c1 ts) w wr
 e:onF g F R=onF S.R.length S.F S.R
 f:Flt.Inv F
 r:Buf.Inv R
 n:Buf.many (-1) 1 R≤g
 l:F.L.length≤1000000000
def HoR (B:Nat) (c:Pc) (p:Pd) (ts:List Tr) (S:WS) (w:World) (g:Nat) (wr:World):Prop:= ∃c1 F R,HoS B c p ts S w g wr c1 F R
theorem HoS.stop {B:Nat} {c:Pc} {p:Pd} {ts:List Tr} {S:WS} {w:World} {g:Nat} {wr:World} {c1:Pc} (h:HoS B c p ts S w g wr c1 F R) (hn: ¬(Buf.nextB R=true∧Flt.giveE F=0)):Wst B c p ts (onW S) w wr:=by
 have e:=h.e;rw [on_stop hn]at e;refine⟨c1,?_,h.d,h.m⟩;unfold onW;rw [←e];exact h.a
section
variable (B : Nat) (c : Pc) (p : Pd) (ts : List Tr) (S : WS) (h k : Nat)
theorem handOn_any (w:World) (hA:WAt w B c p ts S) (hI:WI ts S h k) (hk:k≤1000000):
  Calls prog 65 #[.pointer (some ⟨c.x.D,0,none⟩)] w fun e w'=>e=.returned (.tuple #[])∧Wst B c p ts (onW S) w w':=by
 have hlen:S.F.L.length≤1000000000:=by have:=hI.len;omega
 have H0:Hid (HoS B c p ts S w S.R.length w c S.F S.R):=⟨hA,rfl,Mm.Mv.refl _ _,rfl,hI.f,hI.r,Yw,hlen⟩
 generalize hD:c.x.D=D at*;clear hA hI hlen;go_enter func65,ntmps65;go_wp2_with fail
 go_loopg [] S.R.length (fun gk wr=>HoR B c p ts S w gk wr)
 case atStart=>exact⟨c,S.F,S.R,H0.out⟩
 case round=>
  obtain⟨c1,F,R,hS⟩:=hrel;have hD1:c1.x.D=D:=hS.d.trans hD;have HS:=zh hS;have cN:=Buf.next_any B c1.x.D c1.vb R wr hS.a.bu hS.r;rw [hD1]at cN;clear hS;cases hn:Buf.nextB R with
  |false=>
   rw [hn]at cN;go_wp2_with(go_at_call 117;(with_reducible refine zg cN fun w1 hb1=>?_))
   (try simp only [Exit.inBlock,Exit.then]);refine bodyPost_ret (results_none rfl _ _ _) rfl ?_;exact⟨rfl,(HS.out.stop (by simp [hn])).below hb1⟩
  |true=>
   rw [hn]at cN;have HN:=zh hn;clear hn;have hL:=HS.out.l;have hFi:=HS.out.f;by_cases hg:Flt.giveE F=0
   ·have HG:=zh hg
    go_wp2_with (first
     |(go_at_call 117;(with_reducible refine zg cN fun w1 hb1=>?_);clear cN;have HA1:Hid (WAt w1 B c1 p ts { S with F:=F,R:=R }):=HS.out.a.below hb1)
     |(go_at_call 118;have cG:=Flt.give_any F hFi hL B c1.x.D c1.vf w1 HA1.out.fl;rw [hD1,HG.out]at cG;(with_reducible refine cG.mono ?_);rintro e w2 ⟨rfl,v2,hf2,ht2⟩;clear cG;rw [←hD1]at hf2 ht2;obtain⟨c2,a2,d2,m2⟩:=HA1.out.fleet hf2 ht2;clear hf2 ht2;have HX2:Hid (WAt w2 B c2 p ts { S with F:=Flt.giveS F,R:=R } ∧c2.x.D=c1.x.D∧Mm.Mv (bk c1 ts) (bk c2 ts) w1 w2):=⟨a2,d2,m2⟩;clear a2 d2 m2;have hD2:c2.x.D=D:=HX2.out.2.1.trans hD1)
     |(go_at_call 119;have cR:=Buf.run_any R (Buf.nextN R) (Flt.giveN F) HS.out.r B c2.x.D c2.vb w2 HX2.out.1.bu;rw [hD2]at cR;(with_reducible refine cR.mono ?_);rintro e w3 ⟨rfl,v3,hb3,ht3⟩;clear cR;rw [←hD2]at hb3 ht3;obtain⟨c3,a3,d3,m3⟩:=HX2.out.1.buffer hb3 ht3;clear hb3 ht3;have HX3:Hid (WAt w3 B c3 p ts { S with F:=Flt.giveS F,R:=Buf.runL R (Buf.nextN R) (Flt.giveN F) } ∧c3.x.D=c2.x.D∧Mm.Mv (bk c2 ts) (bk c3 ts) w2 w3):=⟨a3,d3,m3⟩;clear a3 d3 m3))
    have hm:=many_next HN.out (Flt.giveN F);have hgn:=HS.out.n;go_roundg (gk-1)
    case rel=>
     refine⟨c3,Flt.giveS F,Buf.runL R (Buf.nextN R) (Flt.giveN F),HX3.out.1,(HX3.out.2.1.trans HX2.out.2.1).trans HS.out.d,((HS.out.m.trans (Mm.Mv.of_below hb1)).trans HX2.out.2.2).trans HX3.out.2.2,?_,Flt.give_inv hFi,Buf.run_inv HS.out.r _ _,by omega,by rw [give_len];exact hL⟩;rw [←HS.out.e,←on_step ⟨HN.out,HG.out⟩ (gk-1),show gk-1+1=gk by omega]
    case measure=>omega
   ·have HG:=zh hg;have hge:(Flt.giveE F !=0)=true:=by simp [hg]
    go_wp2_with (first
     |(go_at_call 117;(with_reducible refine zg cN fun w1 hb1=>?_);clear cN;have HA1:Hid (WAt w1 B c1 p ts { S with F:=F,R:=R }):=HS.out.a.below hb1)
     |(go_at_call 118;have cG:=Flt.give_any F hFi hL B c1.x.D c1.vf w1 HA1.out.fl;rw [hD1,give_no HG.out]at cG;(with_reducible refine cG.mono ?_);rintro e w2 ⟨rfl,v2,hf2,ht2⟩;clear cG;rw [←hD1]at hf2 ht2;obtain⟨c2,a2,d2,m2⟩:=HA1.out.fleet hf2 ht2;clear hf2 ht2;have HX2:Hid (WAt w2 B c2 p ts { S with F:=F,R:=R } ∧c2.x.D=c1.x.D∧Mm.Mv (bk c1 ts) (bk c2 ts) w1 w2):=⟨a2,d2,m2⟩;clear a2 d2 m2))
    (try simp only [Exit.inBlock,Exit.then]);refine bodyPost_ret (results_none rfl _ _ _) rfl ?_;have hs:=HS.out;exact⟨rfl,HoS.stop (c1:=c2) (F:=F) (R:=R) (g:=gk) ⟨HX2.out.1,HX2.out.2.1.trans hs.d,(hs.m.trans (Mm.Mv.of_below hb1)).trans HX2.out.2.2,hs.e,hs.f,hs.r,hs.n,hs.l⟩ (fun e=>HG.out e.2)⟩
end

def TkR (B:Nat) (c:Pc) (p:Pd) (ts:List Tr) (S:WS) (m:Nat) (w:World) (i:Value) (wr:World):Prop:= ∃(j:Nat) (c1:Pc),j≤m∧i=.int .i64 j∧WAt wr B c1 p ts (tickW p ts j S)∧c1.x.D=c.x.D∧Mm.Mv (bk c ts) (bk c1 ts) w wr
section
variable (B : Nat) (c : Pc) (p : Pd) (ts : List Tr) (S : WS) (h k : Nat)
theorem tick_no (n:Int) (w:World) (hA:WAt w B c p ts S) (hI:WI ts S h k) (hn:tickE S n≠0):
  Calls prog 19 #[.pointer (some ⟨c.x.D,0,none⟩),.int .i64 n] w fun e w'=>e=.returned (.int .i64 (tickE S n))∧Wst B c p ts S w w':=by
 have e1:tickE S n=1:=by unfold tickE at*;split at hn<;>simp_all
 have hno: ¬((1≤n∧n≤1000)∧S.now+n≤1099511627776):=fun e=>hn (by unfold tickE;rw [if_pos e]);rw [e1];have c0:=hA.c0;have b1:=hI.nw;have HA:Hid (Wst B c p ts S w w):=Wst.refl hA;clear hA hI hn e1;generalize c.x.D=D at*;by_cases h1:n<1
 ·go_enter func19,ntmps19;go_wp2;go_ret;exact⟨rfl,HA.out⟩
 ·by_cases h2:1000<n
  ·go_enter func19,ntmps19;go_wp2;go_ret;exact⟨rfl,HA.out⟩
  ·have h3:1099511627776<S.now+n:=by omega
   generalize S.now=a at*;go_enter func19,ntmps19;go_wp2;go_ret;exact⟨rfl,HA.out⟩
theorem tick_yes (m:Nat) (w:World) (hA:WAt w B c p ts S) (hI:WI ts S h k) (hh:h≤1000) (hk:k≤400000) (hP:PlOk p ts) (hU: ∀t∈ts,TrU t) (h1:1≤m) (h2:m≤1000) (h3:S.now+m≤1099511627776):
  Calls prog 19 #[.pointer (some ⟨c.x.D,0,none⟩),.int .i64 (m:Int)] w fun e w'=>e=.returned (.int .i64 0)∧Wst B c p ts (tickW p ts m S) w w':=by
 have c0:=hA.c0;have b1:=hI.nw;have g1: ¬(m:Int)<1:=by omega
 have g2: ¬(1000:Int)<(m:Int):=by omega
 have g3: ¬(1099511627776:Int)<S.now+m:=by omega
 have HA:=zh hA;have HI:=zh hI;have H3:=zh h3;clear hA hI;generalize hD:c.x.D=D at*;generalize hN:S.now=a0 at*;go_enter func19,ntmps19;go_wp2_with fail
 go_loopw [21] (fun i wr=>TkR B c p ts S m w i wr) (fun i _=>m-(intOf i).toNat)
 case atStart=>exact⟨0,c,by omega,rfl,HA.out,rfl,Mm.Mv.refl _ _⟩
 case round=>
  obtain⟨j,c1,hj,rfl,hA1,hd1,hm1⟩:=hrel;by_cases hlt:j<m
  ·have hlt':(j:Int)<(m:Int):=by omega
   have hIT:=HI.out.ticks hP j (show S.now+(j:Int)≤1099511627776 by omega);have hnw:(tickW p ts j S).now=S.now+j:=tickW_now j S;obtain⟨T,hT⟩: ∃T,T=tickW p ts j S:=⟨_,rfl⟩
   rw [←hT]at hA1 hIT hnw;have HM:=zh hm1;have hD1:c1.x.D=D:=hd1.trans hD;obtain⟨a,ha⟩: ∃a,a=T.now:=⟨_,rfl⟩
   have HT:Hid (T.now=a):=ha.symm;have HIT:=zh hIT;have ba:0≤a∧a+1≤1099511627776:=by rw [ha,hnw];omega
   have HIL:Hid (WI ts (lateW T) h (k+j)):=hIT.late (by rw [←ha];exact ba.2);have HID:Hid (WI ts (dueW p ts (lateW T)) h (k+j+1)):=HIL.out.due hP;have q0:=hA1.c0;have f0:=hA1.fz 0;rw [hD1,←ha]at q0;rw [hD1]at f0;obtain⟨ca,aa,da,ma⟩:=hA1.clock (T.now+1);rw [←ha,hD1]at aa ma;have hDa:ca.x.D=D:=da.trans hD1;have HXa:Hid (WAt (wr.setCell ⟨D,0,none⟩ (.int .i64 (a+1))) B ca p ts { T with now:=T.now+1 } ∧ca.x.D=D∧Mm.Mv (bk c1 ts) (bk ca ts) wr (wr.setCell ⟨D,0,none⟩ (.int .i64 (a+1)))):=⟨by rw [ha]at aa⊢;exact aa,hDa,ma⟩
   clear hA1 hm1 aa da ma hIT hnw hd1 ha;cases hdu:Lop.dueP p T.lp (a+1)with
   |true=>
    have HDu:=zh hdu;have HDw:Hid (dueW p ts (lateW T)=lookW p ts (lateW T)):=by
     unfold Hid dueW;rw [if_pos (by show Lop.dueP p T.lp (T.now+1)=true;rw [HT.out];exact hdu)]
    clear hdu;go_upto_region 6 with fail
    generalize wr.setCell ⟨D,0,none⟩ (.int .i64 (a+1))=w1 at*;clear q0 f0;have HA1:Hid (WAt w1.drew B ca p ts { T with now:=T.now+1 }):=HXa.out.1.below (Mm.bdrew w1);have cLt:=Buf.late_any B ca.x.D ca.vb T.R (a+1) w1.drew HA1.out.bu HIT.out.r (by omega) (by omega);rw [hDa]at cLt;have q1:=HXa.out.1.c0;rw [hDa]at q1;dsimp only at q1;rw [HT.out]at q1;refine Tk.sb 8 (S:=fun w'=>w'.cell? ⟨D,0,none⟩=some (.int .i64 (a+1))) (q1) (fun hHeld=> ?_)
    iterate 7
     refine Tk.gn ?_
    refine Tk.rn 7 fun K hK=> ?_;go_simp;go_wp2_with((go_at_call 62;(with_reducible refine cLt.mono ?_);rintro e w2 ⟨o,rfl,ho2,hb2,ht2⟩;clear ho2;rw [←hDa]at hb2 ht2;obtain⟨c2,a2,d2,m2⟩:=HA1.out.buffer hb2 ht2;clear hb2 ht2;have HX2:Hid (WAt w2 B c2 p ts (lateW T)∧c2.x.D=ca.x.D∧Mm.Mv (bk ca ts) (bk c2 ts) w1.drew w2):=⟨by rw [←HT.out]at a2;exact a2,d2,m2⟩;have hD2:c2.x.D=D:=d2.trans hDa;have q2:=a2.c0;rw [hD2]at q2;dsimp only [lateW]at q2;rw [HT.out]at q2;clear a2 d2 m2))
    refine hK.out _ _ (q2) (fun hHeld=> ?_);clear hK K;refine wpAnyH_done (by kernel_rfl) ?_ _;clear cLt;go_upto_region 7 with fail
    refine Tk.sb 8 (S:=fun w'=>w'.cell? ⟨D,0,none⟩=some (.int .i64 (a+1))) (q2) (fun hHeld=> ?_)
    iterate 7
     refine Tk.gn ?_
    refine Tk.rn 7 fun K hK=> ?_;go_simp;go_wp2_with((go_at_call 63;have cD:=Lop.due_any B c2.x p c2.ta c2.tc ts T.lp T.st (a+1) w2.drew (HX2.out.1.below (Mm.bdrew w2)).lo HIT.out.lp.la hP.po;rw [hD2,HDu.out]at cD;(with_reducible refine zg cD fun w3 hb3=>?_);clear cD;have HX3:Hid (WAt w3 B c2 p ts (lateW T)∧Mm.Mv (bk ca ts) (bk c2 ts) w1.drew w3):=⟨(HX2.out.1.below (Mm.bdrew w2)).below hb3,HX2.out.2.2.trans (Mm.Mv.of_below ((Mm.bdrew w2).trans (hb3.mono (Mm.bdrew w2).size)))⟩;have q3:=HX3.out.1.c0;rw [hD2]at q3;dsimp only [lateW]at q3;rw [HT.out]at q3))
    refine hK.out _ _ (q3) (fun hHeld=> ?_);clear hK K;refine wpAnyH_done (by kernel_rfl) ?_ _
    go_wp2_with (first
     |(go_at_call 64;have cS:=scale_any B c2 p ts (lateW T) h (k+j) w3 HX3.out.1 HIL.out hh (by omega) hP hU;rw [hD2]at cS;(with_reducible refine cS.mono ?_);rintro e w4 ⟨rfl,c4,a4,d4,m4⟩;clear cS;have HX4:Hid (WAt w4 B c4 p ts (dueW p ts (lateW T))∧Mm.Mv (bk ca ts) (bk c4 ts) w1.drew w4):=⟨by rw [HDw.out];exact a4,HX3.out.2.trans m4⟩;have hD4:c4.x.D=D:=d4.trans hD2;clear a4 d4 m4)
     |(go_at_call 65;have cO:=handOn_any B c4 p ts (dueW p ts (lateW T)) h (k+j+1) w4 HX4.out.1 HID.out (by omega);rw [hD4]at cO;(with_reducible refine cO.mono ?_);rintro e w9 ⟨rfl,c9,a9,d9,m9⟩;clear cO;have HX9:Hid (WAt w9 B c9 p ts (tick1 p ts T)∧c9.x.D=D∧Mm.Mv (bk ca ts) (bk c9 ts) w1.drew w9):=⟨a9,d9.trans hD4,HX4.out.2.trans m9⟩;clear a9 d9 m9))
    go_roundw
    case rel=>
     refine⟨j+1,c9,by omega,rfl,?_,HX9.out.2.1.trans hD.symm,((HM.out.trans HXa.out.2.2).trans (Mm.Mv.of_below (Mm.bdrew w1))).trans HX9.out.2.2⟩;rw [tickW_succ,←hT];exact HX9.out.1
    case measure=>simp [intOf];omega
   |false=>
    have HDu:=zh hdu;have HDw:Hid (dueW p ts (lateW T)=lateW T):=by
     unfold Hid dueW;rw [if_neg (by show¬Lop.dueP p T.lp (T.now+1)=true;rw [HT.out,hdu];decide)]
    clear hdu;go_upto_region 6 with fail
    generalize wr.setCell ⟨D,0,none⟩ (.int .i64 (a+1))=w1 at*;clear q0 f0;have HA1:Hid (WAt w1.drew B ca p ts { T with now:=T.now+1 }):=HXa.out.1.below (Mm.bdrew w1);have cLt:=Buf.late_any B ca.x.D ca.vb T.R (a+1) w1.drew HA1.out.bu HIT.out.r (by omega) (by omega);rw [hDa]at cLt;have q1:=HXa.out.1.c0;rw [hDa]at q1;dsimp only at q1;rw [HT.out]at q1;refine Tk.sb 8 (S:=fun w'=>w'.cell? ⟨D,0,none⟩=some (.int .i64 (a+1))) (q1) (fun hHeld=> ?_)
    iterate 7
     refine Tk.gn ?_
    refine Tk.rn 7 fun K hK=> ?_;go_simp;go_wp2_with((go_at_call 62;(with_reducible refine cLt.mono ?_);rintro e w2 ⟨o,rfl,ho2,hb2,ht2⟩;clear ho2;rw [←hDa]at hb2 ht2;obtain⟨c2,a2,d2,m2⟩:=HA1.out.buffer hb2 ht2;clear hb2 ht2;have HX2:Hid (WAt w2 B c2 p ts (lateW T)∧c2.x.D=ca.x.D∧Mm.Mv (bk ca ts) (bk c2 ts) w1.drew w2):=⟨by rw [←HT.out]at a2;exact a2,d2,m2⟩;have hD2:c2.x.D=D:=d2.trans hDa;have q2:=a2.c0;rw [hD2]at q2;dsimp only [lateW]at q2;rw [HT.out]at q2;clear a2 d2 m2))
    refine hK.out _ _ (q2) (fun hHeld=> ?_);clear hK K;refine wpAnyH_done (by kernel_rfl) ?_ _;clear cLt;go_upto_region 7 with fail
    refine Tk.sb 8 (S:=fun w'=>w'.cell? ⟨D,0,none⟩=some (.int .i64 (a+1))) (q2) (fun hHeld=> ?_)
    iterate 7
     refine Tk.gn ?_
    refine Tk.rn 7 fun K hK=> ?_;go_simp;go_wp2_with((go_at_call 63;have cD:=Lop.due_any B c2.x p c2.ta c2.tc ts T.lp T.st (a+1) w2.drew (HX2.out.1.below (Mm.bdrew w2)).lo HIT.out.lp.la hP.po;rw [hD2,HDu.out]at cD;(with_reducible refine zg cD fun w3 hb3=>?_);clear cD;have HX3:Hid (WAt w3 B c2 p ts (lateW T)∧Mm.Mv (bk ca ts) (bk c2 ts) w1.drew w3):=⟨(HX2.out.1.below (Mm.bdrew w2)).below hb3,HX2.out.2.2.trans (Mm.Mv.of_below ((Mm.bdrew w2).trans (hb3.mono (Mm.bdrew w2).size)))⟩;have q3:=HX3.out.1.c0;rw [hD2]at q3;dsimp only [lateW]at q3;rw [HT.out]at q3))
    refine hK.out _ _ (q3) (fun hHeld=> ?_);clear hK K;refine wpAnyH_done (by kernel_rfl) ?_ _;go_wp2_with((go_at_call 65;have cO:=handOn_any B c2 p ts (dueW p ts (lateW T)) h (k+j+1) w3 (by rw [HDw.out];exact HX3.out.1) HID.out (by omega);rw [hD2]at cO;(with_reducible refine cO.mono ?_);rintro e w9 ⟨rfl,c9,a9,d9,m9⟩;clear cO;have HX9:Hid (WAt w9 B c9 p ts (tick1 p ts T)∧c9.x.D=D∧Mm.Mv (bk ca ts) (bk c9 ts) w1.drew w9):=⟨a9,d9.trans hD2,HX3.out.2.trans m9⟩;clear a9 d9 m9))
    go_roundw
    case rel=>
     refine⟨j+1,c9,by omega,rfl,?_,HX9.out.2.1.trans hD.symm,((HM.out.trans HXa.out.2.2).trans (Mm.Mv.of_below (Mm.bdrew w1))).trans HX9.out.2.2⟩;rw [tickW_succ,←hT];exact HX9.out.1
    case measure=>simp [intOf];omega
  ·obtain rfl:j=m:=by omega
   go_wp2;go_ret;exact⟨rfl,c1,hA1,hd1,hm1⟩
end

section
variable (B : Nat) (c : Pc) (p : Pd) (ts : List Tr) (S : WS) (h k : Nat)
theorem makeC (a n:Int) (w:World) (hA:WAt w B c p ts S) (hI:WI ts S h k) (hh:h≤1000):
  Calls prog 20 #[.pointer (some ⟨c.x.D,43,none⟩),.int .i64 a,.int .i64 n] w fun e w'=>e=.returned (.int .i64 (makeE S a n))∧Wst B c p ts (makeW S a n) w w':=by
 have hT:=hA.tp.2.2.1;by_cases h1:0≤a∧a<(S.n:Int)
 ·have hin:inN S a=true:=by unfold inN;simp [h1.1,h1.2]
  obtain⟨i,rfl⟩: ∃i:Nat,a=(i:Int):=⟨a.toNat,by omega⟩
  by_cases h2:1≤n∧n≤100000
  ·have e1:makeE S i n=0:=by unfold makeE;rw [if_pos hin,if_pos h2]
   have e2:makeW S i n= { S with E:=Top.upd S.E i (S.E i+n) } :=by unfold makeW;rw [if_pos e1];rfl
   rw [e1,e2];have hb:=hI.tb i (by omega);refine(Top.topMake c.x.D c.G S.n i n S.E S.O w hA.tp (by omega) h2 (by omega)).mono ?_;rintro e w' ⟨rfl,hq,ho⟩;exact⟨rfl,hA.topic hq ho⟩
  ·have e1:makeE S i n=1:=by unfold makeE;rw [if_pos hin,if_neg h2]
   have e2:makeW S i n=S:=by unfold makeW;rw [if_neg (by rw [e1];decide)]
   rw [e1,e2];refine(Top.make_arg c.x.D c.G S.n i n w hT (by omega) (by omega) h2).mono ?_;rintro e w' ⟨rfl,rfl⟩;exact⟨rfl,Wst.refl hA⟩
 ·have hin:inN S a=false:=by unfold inN;by_cases g:0≤a<;>simp [g];omega
  have e1:makeE S a n=4:=by unfold makeE;rw [hin];rfl
  have e2:makeW S a n=S:=by unfold makeW;rw [if_neg (by rw [e1];decide)]
  rw [e1,e2];refine(Top.make_none c.x.D c.G S.n a n w hT h1).mono ?_;rintro e w' ⟨rfl,rfl⟩;exact⟨rfl,Wst.refl hA⟩
theorem takeC (a n:Int) (w:World) (hA:WAt w B c p ts S):
  Calls prog 21 #[.pointer (some ⟨c.x.D,43,none⟩),.int .i64 a,.int .i64 n] w fun e w'=>e=.returned (.int .i64 (takeE S a n))∧Wst B c p ts (takeW S a n) w w':=by
 have hT:=hA.tp.2.2.1;by_cases h1:0≤a∧a<(S.n:Int)
 ·have hin:inN S a=true:=by unfold inN;simp [h1.1,h1.2]
  obtain⟨i,rfl⟩: ∃i:Nat,a=(i:Int):=⟨a.toNat,by omega⟩
  by_cases h2:S.O i≤n∧n≤S.E i
  ·have e1:takeE S i n=0:=by unfold takeE;rw [if_pos hin,if_pos (by simpa using h2)]
   have e2:takeW S i n= { S with O:=Top.upd S.O i n } :=by unfold takeW;rw [if_pos e1];rfl
   rw [e1,e2];refine(Top.topTake c.x.D c.G S.n i n S.E S.O w hA.tp (by omega) h2.1 h2.2).mono ?_;rintro e w' ⟨rfl,hq,ho⟩;exact⟨rfl,hA.topic hq ho⟩
  ·have e1:takeE S i n=1:=by unfold takeE;rw [if_pos hin,if_neg (by simpa using h2)]
   have e2:takeW S i n=S:=by unfold takeW;rw [if_neg (by rw [e1];decide)]
   rw [e1,e2];refine(Top.topTake_no c.x.D c.G S.n i n S.E S.O w hA.tp (by omega) h2).mono ?_;rintro e w' ⟨rfl,rfl⟩;exact⟨rfl,Wst.refl hA⟩
 ·have hin:inN S a=false:=by unfold inN;by_cases g:0≤a<;>simp [g];omega
  have e1:takeE S a n=4:=by unfold takeE;rw [hin];rfl
  have e2:takeW S a n=S:=by unfold takeW;rw [if_neg (by rw [e1];decide)]
  rw [e1,e2];refine(Top.take_none c.x.D c.G S.n a n w hT h1).mono ?_;rintro e w' ⟨rfl,rfl⟩;exact⟨rfl,Wst.refl hA⟩
theorem putC (n:Int) (w:World) (hA:WAt w B c p ts S) (hI:WI ts S h k) (hh:h≤1000):
  Calls prog 22 #[.pointer (some ⟨c.x.D,44,none⟩),.int .i64 n] w fun e w'=> ∃z,e=.returned (.tuple #[.int .i64 z,.int .i64 (putE S.qL n)])∧Wst B c p ts (putW S n) w w':=by
 have hl:=hI.q.len;have hb:=hI.qb;by_cases h1:n<1
 ·have e1:putE S.qL n=1:=by unfold putE;rw [if_pos h1]
  have e2:putW S n=S:=by unfold putW;rw [if_neg (by rw [e1];decide)]
  rw [e1,e2];refine(Que.put_no c.x.D n w h1).mono ?_;rintro e w' ⟨rfl,rfl⟩;exact⟨0,rfl,Wst.refl hA⟩
 ·by_cases h2:200<S.qL.length+n
  ·have e1:putE S.qL n=6:=by unfold putE;rw [if_neg h1,if_pos h2]
   have e2:putW S n=S:=by unfold putW;rw [if_neg (by rw [e1];decide)]
   rw [e1,e2];refine(Que.put_full B c.x.D S.ql c.vq S.qL n w hA.qu hl (by omega) h2).mono ?_;rintro e w' ⟨rfl,rfl⟩;exact⟨0,rfl,Wst.refl hA⟩
  ·have e1:putE S.qL n=0:=by unfold putE;rw [if_neg h1,if_neg h2]
   obtain⟨i,rfl⟩: ∃i:Nat,n=(i:Int):=⟨n.toNat,by omega⟩
   have e2:putW S i= { S with ql:=S.ql+i,qL:=S.qL++Que.news S.ql i } :=by unfold putW;rw [if_pos e1];rfl
   rw [e1,e2];refine(Que.put_yes B c.x.D S.ql c.vq S.qL i w hA.qu (by omega) (by omega) (by omega)).mono ?_;rintro e w' ⟨rfl,v',hq,ht⟩;exact⟨_,rfl,(hA.queue hq ht).st⟩
theorem leaseC (n:Int) (w:World) (hA:WAt w B c p ts S) (hI:WI ts S h k):
  Calls prog 23 #[.pointer (some ⟨c.x.D,44,none⟩),.int .i64 S.now,.int .i64 n] w fun e w'=> ∃z,e=.returned (.tuple #[.int .i64 z,.int .i64 (leaseE S.qL S.now n)])∧Wst B c p ts { S with qL:=leaseL S.qL S.now n } w w':=by
 have hl:=hI.q.len;by_cases h1:1≤n∧n≤100000
 ·cases hf:(Que.backL S.now S.qL).findIdx? Que.free with
  |none=>
   have e1:leaseE S.qL S.now n=4:=by unfold leaseE;rw [if_neg (by simpa using h1),hf]
   have e2:leaseL S.qL S.now n=Que.backL S.now S.qL:=by unfold leaseL;rw [if_neg (by simpa using h1),hf]
   rw [e1,e2];refine(Que.lease_none B c.x.D S.ql c.vq S.qL _ S.now n w hA.qu hl h1.1 h1.2 hI.nw.1 hI.nw.2 rfl hf).mono ?_;rintro e w' ⟨rfl,v',hq,ht⟩;exact⟨_,rfl,(hA.queue hq ht).st⟩
  |some i=>
   obtain⟨m,hm⟩: ∃m,(Que.backL S.now S.qL)[i]? =some m:=by
    obtain⟨hi,_⟩:=Yv.1 hf;exact⟨_,Xz hi⟩
   have e1:leaseE S.qL S.now n=0:=by unfold leaseE;rw [if_neg (by simpa using h1),hf]
   have e2:leaseL S.qL S.now n=(Que.backL S.now S.qL).set i ⟨m.id,S.now+n,true⟩:=by unfold leaseL;rw [if_neg (by simpa using h1),hf];simp only [hm]
   rw [e1,e2];refine(Que.lease_yes B c.x.D S.ql c.vq S.qL _ S.now n i m w hA.qu hl h1.1 h1.2 hI.nw.1 hI.nw.2 rfl hf hm).mono ?_;rintro e w' ⟨rfl,v',hq,ht⟩;exact⟨_,rfl,(hA.queue hq ht).st⟩
 ·have e1:leaseE S.qL S.now n=1:=by unfold leaseE;rw [if_pos h1]
  have e2:leaseL S.qL S.now n=S.qL:=by unfold leaseL;rw [if_pos h1]
  rw [e1,e2];refine(Que.lease_ticks c.x.D S.now n w h1).mono ?_;rintro e w' ⟨rfl,rfl⟩;exact⟨_,rfl,Wst.refl hA⟩
theorem ackC (n:Int) (w:World) (hA:WAt w B c p ts S) (hI:WI ts S h k):
  Calls prog 24 #[.pointer (some ⟨c.x.D,44,none⟩),.int .i64 S.now,.int .i64 n] w fun e w'=>e=.returned (.int .i64 (ackE S.qL S.now n))∧Wst B c p ts { S with qL:=ackL S.qL S.now n } w w':=by
 have hl:=hI.q.len;cases hf:(Que.backL S.now S.qL).findIdx? (Que.isId n)with
 |none=>
  have e1:ackE S.qL S.now n=4:=by unfold ackE;rw [hf]
  have e2:ackL S.qL S.now n=Que.backL S.now S.qL:=by unfold ackL;rw [hf]
  rw [e1,e2];refine(Que.ack_no B c.x.D S.ql c.vq S.qL _ S.now n w hA.qu hl hI.nw.1 hI.nw.2 rfl hf).mono ?_;rintro e w' ⟨rfl,v',hq,ht⟩;exact⟨rfl,(hA.queue hq ht).st⟩
 |some i=>
  obtain⟨m,hm⟩: ∃m,(Que.backL S.now S.qL)[i]? =some m:=by
   obtain⟨hi,_⟩:=Yv.1 hf;exact⟨_,Xz hi⟩
  cases ht:m.tk with
  |true=>
   have e1:ackE S.qL S.now n=0:=by unfold ackE;rw [hf];simp only [hm,ht];rfl
   have e2:ackL S.qL S.now n=(Que.backL S.now S.qL).eraseIdx i:=by unfold ackL;rw [hf];simp only [hm,ht];rfl
   rw [e1,e2];refine(Que.ack_yes B c.x.D S.ql c.vq S.qL _ S.now n i m w hA.qu hl hI.nw.1 hI.nw.2 rfl hf hm ht).mono ?_;rintro e w' ⟨rfl,v',hq,ht⟩;exact⟨rfl,(hA.queue hq ht).st⟩
  |false=>
   have e1:ackE S.qL S.now n=7:=by unfold ackE;rw [hf];simp only [hm,ht];rfl
   have e2:ackL S.qL S.now n=Que.backL S.now S.qL:=by unfold ackL;rw [hf];simp only [hm,ht];rfl
   rw [e1,e2];refine(Que.ack_free B c.x.D S.ql c.vq S.qL _ S.now n i m w hA.qu hl hI.nw.1 hI.nw.2 rfl hf hm ht).mono ?_;rintro e w' ⟨rfl,v',hq,ht⟩;exact⟨rfl,(hA.queue hq ht).st⟩
theorem pauseC (n:Int) (w:World) (hA:WAt w B c p ts S):
  Calls prog 31 #[.pointer (some ⟨c.x.D,4,none⟩),.int .i64 n] w fun e w'=>e=.returned (.int .i64 (pauseE n))∧Wst B c p ts (pauseW S n) w w':=by
 by_cases h1: -1≤n∧n≤50
 ·have e1:pauseE n=0:=by unfold pauseE;rw [if_pos h1]
  have e2:pauseW S n= { S with lp:=⟨S.lp.fs,S.lp.lk,S.lp.la,S.lp.nd,n⟩ } :=by unfold pauseW;rw [if_pos e1]
  rw [e1,e2];refine(Lop.pause_yes B c.x p c.ta c.tc ts S.lp S.st n w hA.lo h1.1 h1.2).mono ?_;rintro e w' ⟨rfl,hl,hm⟩;exact⟨rfl,hA.loop (V':=c.x.V) hl hm⟩
 ·have e1:pauseE n=1:=by unfold pauseE;rw [if_neg h1]
  have e2:pauseW S n=S:=by unfold pauseW;rw [if_neg (by rw [e1];decide)]
  rw [e1,e2];refine(Lop.pause_no c.x n w h1).mono ?_;rintro e w' ⟨rfl,rfl⟩;exact⟨rfl,Wst.refl hA⟩
theorem startC (n:Int) (w:World) (hA:WAt w B c p ts S) (hL:S.F.L.length≤1000000000):
  Calls prog 26 #[.pointer (some ⟨c.x.D,46,none⟩),.int .i64 n] w fun e w'=>e=.returned (.int .i64 (Flt.turnE S.F.L n 1))∧Wst B c p ts { S with F:=Flt.turnS S.F n 1 } w w':=by
 refine(Flt.start_any S.F n hL B c.x.D c.vf w hA.fl).mono ?_;rintro e w' ⟨rfl,v',hq,ht⟩;exact⟨rfl,hA.fleet hq ht⟩
theorem readyC (n:Int) (w:World) (hA:WAt w B c p ts S) (hL:S.F.L.length≤1000000000):
  Calls prog 74 #[.pointer (some ⟨c.x.D,46,none⟩),.int .i64 n] w fun e w'=>e=.returned (.int .i64 (Flt.turnE S.F.L n 2))∧Wst B c p ts { S with F:=Flt.turnS S.F n 2 } w w':=by
 refine(Flt.ready_any S.F n hL B c.x.D c.vf w hA.fl).mono ?_;rintro e w' ⟨rfl,v',hq,ht⟩;exact⟨rfl,hA.fleet hq ht⟩
theorem crashC (n:Int) (w:World) (hA:WAt w B c p ts S) (hL:S.F.L.length≤1000000000):
  Calls prog 75 #[.pointer (some ⟨c.x.D,46,none⟩),.int .i64 n] w fun e w'=>e=.returned (.tuple #[.int .i64 (Flt.crashN S.F.L n),.int .i64 (Flt.crashE S.F.L n)])∧Wst B c p ts { S with F:=Flt.crashS S.F n } w w':=by
 refine(Flt.crash_any S.F n hL B c.x.D c.vf w hA.fl).mono ?_;rintro e w' ⟨rfl,v',hq,ht⟩;exact⟨rfl,hA.fleet hq ht⟩
theorem fdoneC (n:Int) (w:World) (hA:WAt w B c p ts S) (hI:Flt.Inv S.F) (hL:S.F.L.length≤1000000000):
  Calls prog 79 #[.pointer (some ⟨c.x.D,46,none⟩),.int .i64 n] w fun e w'=>e=.returned (.int .i64 (Flt.doneE S.F.L n))∧Wst B c p ts { S with F:=Flt.doneS S.F n } w w':=by
 refine(Flt.done_any S.F n hI hL B c.x.D c.vf w hA.fl).mono ?_;rintro e w' ⟨rfl,v',hq,ht⟩;exact⟨rfl,hA.fleet hq ht⟩
theorem askC (a n:Int) (w:World) (hA:WAt w B c p ts S) (hI:Buf.Inv S.R):
  Calls prog 77 #[.pointer (some ⟨c.x.D,49,none⟩),.int .i64 S.now,.int .i64 a,.int .i64 n] w fun e w'=>e=.returned (.tuple #[.int .i64 (Buf.askN S.R S.now a n),.int .i64 (Buf.askE S.R S.now a n)])∧Wst B c p ts { S with R:=Buf.askL S.R S.now a n } w w':=by
 refine(Buf.ask_any S.R S.now a n hI B c.x.D c.vb w hA.bu).mono ?_;rintro e w' ⟨rfl,v',hq,ht⟩;exact⟨rfl,hA.buffer hq ht⟩
theorem doneC (n:Int) (w:World) (hA:WAt w B c p ts S) (hI:Buf.Inv S.R):
  Calls prog 78 #[.pointer (some ⟨c.x.D,49,none⟩),.int .i64 n] w fun e w'=>e=.returned (.tuple #[.int .i64 (Buf.doneN S.R n),.int .i64 (Buf.doneE S.R n)])∧Wst B c p ts { S with R:=Buf.doneL S.R n } w w':=by
 refine(Buf.done_any S.R n hI B c.x.D c.vb w hA.bu).mono ?_;rintro e w' ⟨rfl,v',hq,ht⟩;exact⟨rfl,hA.buffer hq ht⟩
theorem lostC (n:Int) (w:World) (hA:WAt w B c p ts S) (hI:Buf.Inv S.R):
  Calls prog 76 #[.pointer (some ⟨c.x.D,49,none⟩),.int .i64 n] w fun e w'=> ∃o,e=.returned o∧Wst B c p ts { S with R:=Buf.turnL (Buf.isAt n) 5 S.R } w w':=by
 refine(Buf.lost_any B c.x.D c.vb S.R n w hA.bu hI).mono ?_;rintro e w' ⟨o,rfl,_,hq,ht⟩;exact⟨o,rfl,hA.buffer hq ht⟩
end

theorem turn_same {fr:Int} (h:Flt.turnE F.L id fr≠0):Flt.turnS F id fr=F:=by
 unfold Flt.turnS;cases hf:F.L.findIdx? (Flt.isId id)with
 |none=>rw [(Flt.turn_none hf).2]
 |some i=>
  obtain⟨x,hx,_⟩:=Flt.find_get hf;by_cases hs:x.st=fr
  ·exact absurd (Flt.turn_ok hf hx hs).1 h
  ·rw [(Flt.turn_state hf hx hs).2]
theorem crash_same (h:Flt.crashE F.L id≠0):Flt.crashS F id=F:=by
 unfold Flt.crashS;cases hf:F.L.findIdx? (Flt.isId id)with
 |none=>rw [(Flt.crash_none hf).2.2]
 |some i=>exact absurd (by unfold Flt.crashE;rw [hf]) h
theorem done_same (h:Buf.doneE R id≠0):Buf.doneL R id=R:=by
 cases e:Buf.reqAt R id with
 |none=>unfold Buf.doneL;rw [e]
 |some r=>
  by_cases g:r.fat=2
  ·exact absurd (by unfold Buf.doneE;rw [e];simp [g]) h
  ·unfold Buf.doneL;rw [e];simp [g]
theorem ask_same {now a n:Int} (h:Buf.askE R now a n≠0):Buf.askL R now a n=R:=by unfold Buf.askL;rw [if_neg h]
theorem WI.ready {ts:List Tr} {S:WS} {h k:Nat} (g:WI ts S h k) (n fr:Int) (h1:fr=1∨fr=2):WI ts { S with F:=Flt.turnS S.F n fr } h k:=
 g.fr (R:=S.R) (Flt.turn_inv g.f n fr h1) g.r (Nat.le_of_eq (turn_cnt S.F.L n fr h1)) (Xu _)
theorem WI.crash {ts:List Tr} {S:WS} {h k:Nat} (g:WI ts S h k) (n:Int):WI ts { S with F:=Flt.crashS S.F n,R:=Buf.turnL (Buf.isAt n) 5 S.R } h k:=
 g.fr (Flt.crash_inv g.f n) (Buf.turn_inv g.r _ 5 (by omega)) (crash_cnt S.F.L n) (Xu _)
theorem WI.ask {ts:List Tr} {S:WS} {h k:Nat} (g:WI ts S h k) (a n:Int):WI ts { S with R:=Buf.askL S.R S.now a n } h k:=
 g.fr (F:=S.F) g.f (Buf.ask_inv g.r S.now a n) (Xa _) (Xu _)
theorem WI.done {ts:List Tr} {S:WS} {h k:Nat} (g:WI ts S h k) (n:Int):WI ts { S with R:=Buf.doneL S.R n,F:=Flt.doneS S.F (Buf.doneN S.R n) } h k:=
 g.fr (Flt.done_inv g.f _) (Buf.done_inv g.r n) (done_cnt S.F.L _) (Xu _)
section
variable (B : Nat) (c : Pc) (p : Pd) (ts : List Tr) (S : WS) (h k : Nat)
theorem fail_any (a n:Int) (w:World) (hA:WAt w B c p ts S) (hI:WI ts S h k):
  Calls prog 25 #[.pointer (some ⟨c.x.D,0,none⟩),.int .i64 a,.int .i64 n] w fun e w'=>e=.returned (.int .i64 (failE S a n))∧Wst B c p ts (failW S a n) w w':=by
 have hl:=hI.fl;have c3:=hA.c3;have HA:=zh hA;by_cases h1:0≤a∧a<(S.fl.length:Int)
 ·obtain⟨i,rfl⟩: ∃i:Nat,a=(i:Int):=⟨a.toNat,by omega⟩
  have hi:i<S.fl.length:=by omega
  have g1: ¬(i:Int)<0:=by omega
  have g2: ¬(ts.length:Int)≤(i:Int):=by omega
  have g3:(i:Int)<(ts.length:Int):=by omega
  by_cases h2:n=0∨n=1
  ·have e1:failE S i n=0:=by unfold failE;rw [if_pos h1,if_pos h2]
   have e2:failW S i n= { S with fl:=S.fl.set i (n==1) } :=by unfold failW;rw [if_pos e1];rfl
   have hW:=HA.out.trig (a:=i) (b:=(n==1)) hi;have k1:=HA.out.tr.f i _ (Xz hi);have k2:=HA.out.tr.fz (i*2+1);have HW:=zh hW;rw [e1,e2];clear hA hI hW e1 e2 h1 hl;generalize c.x.D=D at*;rcases h2 with rfl|rfl
   ·go_enter func25,ntmps25;go_wp2;go_ret;exact⟨rfl,HW.out⟩
   ·go_enter func25,ntmps25;go_wp2;go_ret;exact⟨rfl,HW.out⟩
  ·have e1:failE S i n=1:=by unfold failE;rw [if_pos h1,if_neg h2]
   have e2:failW S i n=S:=by unfold failW;rw [if_neg (by rw [e1];decide)]
   have k1:(n !=0)=true:=by simp;omega
   have k2:(n !=1)=true:=by simp;omega
   rw [e1,e2];clear hA hI e1 e2 h1 hl h2;generalize c.x.D=D at*;go_enter func25,ntmps25;go_wp2;go_ret;exact⟨rfl,Wst.refl HA.out⟩
 ·have e1:failE S a n=4:=by unfold failE;rw [if_neg h1]
  have e2:failW S a n=S:=by unfold failW;rw [if_neg (by rw [e1];decide)]
  rw [e1,e2];rw [hl]at h1;clear hA hI e1 e2 hl;generalize c.x.D=D at*;by_cases h2:a<0
  ·clear h1;go_enter func25,ntmps25;go_wp2;go_ret;exact⟨rfl,Wst.refl HA.out⟩
  ·have g2:(ts.length:Int)≤a:=by omega
   clear h1;go_enter func25,ntmps25;go_wp2;go_ret;exact⟨rfl,Wst.refl HA.out⟩
theorem ready_any (n:Int) (w:World) (hA:WAt w B c p ts S) (hI:WI ts S h k) (hk:k≤1000000):
  Calls prog 27 #[.pointer (some ⟨c.x.D,0,none⟩),.int .i64 n] w fun e w'=>e=.returned (.int .i64 (Flt.turnE S.F.L n 2))∧Wst B c p ts (readyW S n) w w':=by
 have hL:S.F.L.length≤1000000000:=by have:=hI.len;omega
 have HA:=zh hA;have HI:Hid (WI ts { S with F:=Flt.turnS S.F n 2 } h k):=hI.ready n 2 (Or.inr rfl);clear hA hI;generalize hD:c.x.D=D at*;by_cases he:Flt.turnE S.F.L n 2=0
 ·have e2:readyW S n=onW { S with F:=Flt.turnS S.F n 2 } :=by unfold readyW;rw [if_pos he]
  have HE:=zh he;rw [e2,he];clear e2 he;go_enter func27,ntmps27
  go_wp2_with (first
   |(go_at_call 74;have cX:=readyC B c p ts S n w HA.out hL;rw [hD,HE.out]at cX;(with_reducible refine cX.mono ?_);rintro e w1 ⟨rfl,c1,a1,d1,m1⟩;clear cX;have HX1:Hid (WAt w1 B c1 p ts { S with F:=Flt.turnS S.F n 2 } ∧c1.x.D=D∧Mm.Mv (bk c ts) (bk c1 ts) w w1):=⟨a1,d1.trans hD,m1⟩;have hD1:c1.x.D=D:=d1.trans hD;clear a1 d1 m1)
   |(go_at_call 65;have cO:=handOn_any B c1 p ts { S with F:=Flt.turnS S.F n 2 } h k w1 HX1.out.1 HI.out hk;rw [hD1]at cO;(with_reducible refine cO.mono ?_);rintro e w9 ⟨rfl,c9,a9,d9,m9⟩;clear cO;have HX9:Hid (WAt w9 B c9 p ts (onW { S with F:=Flt.turnS S.F n 2 })∧c9.x.D=D∧Mm.Mv (bk c1 ts) (bk c9 ts) w1 w9):=⟨a9,d9.trans hD1,m9⟩;clear a9 d9 m9))
  go_ret;exact⟨rfl,c9,HX9.out.1,HX9.out.2.1.trans hD.symm,HX1.out.2.2.trans HX9.out.2.2⟩
 ·have e2:readyW S n=S:=by unfold readyW;rw [if_neg he]
  have es:({ S with F:=Flt.turnS S.F n 2 } :WS)=S:=by rw [turn_same he]
  have hne:(Flt.turnE S.F.L n 2 !=0)=true:=by simp [he]
  have HS:=zh es;rw [e2];clear e2 he es;go_enter func27,ntmps27;go_wp2_with(go_at_call 74;have cX:=readyC B c p ts S n w HA.out hL;rw [hD,HS.out]at cX;(with_reducible refine cX.mono ?_);rintro e w1 ⟨rfl,c1,a1,d1,m1⟩;clear cX;have HX1:Hid (WAt w1 B c1 p ts S∧c1.x.D=D∧Mm.Mv (bk c ts) (bk c1 ts) w w1):=⟨a1,d1.trans hD,m1⟩;have hD1:c1.x.D=D:=d1.trans hD;clear a1 d1 m1)
  go_ret;exact⟨rfl,c1,HX1.out.1,HX1.out.2.1.trans hD.symm,HX1.out.2.2⟩
theorem crash_any (n:Int) (w:World) (hA:WAt w B c p ts S) (hI:WI ts S h k) (hk:k≤1000000):
  Calls prog 28 #[.pointer (some ⟨c.x.D,0,none⟩),.int .i64 n] w fun e w'=>e=.returned (.int .i64 (Flt.crashE S.F.L n))∧Wst B c p ts (crashW S n) w w':=by
 have hL:S.F.L.length≤1000000000:=by have:=hI.len;omega
 have HA:=zh hA;have HI:Hid (WI ts { S with F:=Flt.crashS S.F n,R:=Buf.turnL (Buf.isAt n) 5 S.R } h k):=hI.crash n;have hR:=hI.r;clear hA hI;generalize hD:c.x.D=D at*;by_cases he:Flt.crashE S.F.L n=0
 ·have e2:crashW S n=onW { S with F:=Flt.crashS S.F n,R:=Buf.turnL (Buf.isAt n) 5 S.R } :=by unfold crashW;rw [if_pos he]
  have HE:=zh he;rw [e2,he];clear e2 he;go_enter func28,ntmps28
  go_wp2_with (first
   |(go_at_call 75;have cX:=crashC B c p ts S n w HA.out hL;rw [hD,HE.out]at cX;(with_reducible refine cX.mono ?_);rintro e w1 ⟨rfl,c1,a1,d1,m1⟩;clear cX;have HX1:Hid (WAt w1 B c1 p ts { S with F:=Flt.crashS S.F n } ∧c1.x.D=D∧Mm.Mv (bk c ts) (bk c1 ts) w w1):=⟨a1,d1.trans hD,m1⟩;have hD1:c1.x.D=D:=d1.trans hD;clear a1 d1 m1)
   |(go_at_call 76;have cX:=lostC B c1 p ts { S with F:=Flt.crashS S.F n } n w1 HX1.out.1 hR;rw [hD1]at cX;(with_reducible refine cX.mono ?_);rintro e w2 ⟨o,rfl,c2,a2,d2,m2⟩;clear cX;have HX2:Hid (WAt w2 B c2 p ts { S with F:=Flt.crashS S.F n,R:=Buf.turnL (Buf.isAt n) 5 S.R } ∧c2.x.D=D∧Mm.Mv (bk c1 ts) (bk c2 ts) w1 w2):=⟨a2,d2.trans hD1,m2⟩;have hD2:c2.x.D=D:=d2.trans hD1;clear a2 d2 m2)
   |(go_at_call 65;have cO:=handOn_any B c2 p ts { S with F:=Flt.crashS S.F n,R:=Buf.turnL (Buf.isAt n) 5 S.R } h k w2 HX2.out.1 HI.out hk;rw [hD2]at cO;(with_reducible refine cO.mono ?_);rintro e w9 ⟨rfl,c9,a9,d9,m9⟩;clear cO;have HX9:Hid (WAt w9 B c9 p ts (onW { S with F:=Flt.crashS S.F n,R:=Buf.turnL (Buf.isAt n) 5 S.R })∧c9.x.D=D∧Mm.Mv (bk c2 ts) (bk c9 ts) w2 w9):=⟨a9,d9.trans hD2,m9⟩;clear a9 d9 m9))
  go_ret;exact⟨rfl,c9,HX9.out.1,HX9.out.2.1.trans hD.symm,(HX1.out.2.2.trans HX2.out.2.2).trans HX9.out.2.2⟩
 ·have e2:crashW S n=S:=by unfold crashW;rw [if_neg he]
  have es:({ S with F:=Flt.crashS S.F n } :WS)=S:=by rw [crash_same he]
  have hne:(Flt.crashE S.F.L n !=0)=true:=by simp [he]
  have HS:=zh es;rw [e2];clear e2 he es;go_enter func28,ntmps28;go_wp2_with(go_at_call 75;have cX:=crashC B c p ts S n w HA.out hL;rw [hD,HS.out]at cX;(with_reducible refine cX.mono ?_);rintro e w1 ⟨rfl,c1,a1,d1,m1⟩;clear cX;have HX1:Hid (WAt w1 B c1 p ts S∧c1.x.D=D∧Mm.Mv (bk c ts) (bk c1 ts) w w1):=⟨a1,d1.trans hD,m1⟩;have hD1:c1.x.D=D:=d1.trans hD;clear a1 d1 m1)
  go_ret;exact⟨rfl,c1,HX1.out.1,HX1.out.2.1.trans hD.symm,HX1.out.2.2⟩
theorem done_any (n:Int) (w:World) (hA:WAt w B c p ts S) (hI:WI ts S h k) (hk:k≤1000000):
  Calls prog 30 #[.pointer (some ⟨c.x.D,0,none⟩),.int .i64 n] w fun e w'=>e=.returned (.int .i64 (Buf.doneE S.R n))∧Wst B c p ts (doneW S n) w w':=by
 have hL:S.F.L.length≤1000000000:=by have:=hI.len;omega
 have HA:=zh hA;have HI:Hid (WI ts { S with R:=Buf.doneL S.R n,F:=Flt.doneS S.F (Buf.doneN S.R n) } h k):=hI.done n;have hR:=hI.r;have hF:=hI.f;clear hA hI;generalize hD:c.x.D=D at*;by_cases he:Buf.doneE S.R n=0
 ·have e2:doneW S n=onW { S with R:=Buf.doneL S.R n,F:=Flt.doneS S.F (Buf.doneN S.R n) } :=by unfold doneW;rw [if_pos he]
  have HE:=zh he;rw [e2,he];clear e2 he;go_enter func30,ntmps30
  go_wp2_with (first
   |(go_at_call 78;have cX:=doneC B c p ts S n w HA.out hR;rw [hD,HE.out]at cX;(with_reducible refine cX.mono ?_);rintro e w1 ⟨rfl,c1,a1,d1,m1⟩;clear cX;have HX1:Hid (WAt w1 B c1 p ts { S with R:=Buf.doneL S.R n } ∧c1.x.D=D∧Mm.Mv (bk c ts) (bk c1 ts) w w1):=⟨a1,d1.trans hD,m1⟩;have hD1:c1.x.D=D:=d1.trans hD;clear a1 d1 m1)
   |(go_at_call 79;have cX:=fdoneC B c1 p ts { S with R:=Buf.doneL S.R n } (Buf.doneN S.R n) w1 HX1.out.1 hF hL;rw [hD1]at cX;(with_reducible refine cX.mono ?_);rintro e w2 ⟨rfl,c2,a2,d2,m2⟩;clear cX;have HX2:Hid (WAt w2 B c2 p ts { S with R:=Buf.doneL S.R n,F:=Flt.doneS S.F (Buf.doneN S.R n) } ∧c2.x.D=D∧Mm.Mv (bk c1 ts) (bk c2 ts) w1 w2):=⟨a2,d2.trans hD1,m2⟩;have hD2:c2.x.D=D:=d2.trans hD1;clear a2 d2 m2)
   |(go_at_call 65;have cO:=handOn_any B c2 p ts { S with R:=Buf.doneL S.R n,F:=Flt.doneS S.F (Buf.doneN S.R n) } h k w2 HX2.out.1 HI.out hk;rw [hD2]at cO;(with_reducible refine cO.mono ?_);rintro e w9 ⟨rfl,c9,a9,d9,m9⟩;clear cO;have HX9:Hid (WAt w9 B c9 p ts (onW { S with R:=Buf.doneL S.R n,F:=Flt.doneS S.F (Buf.doneN S.R n) })∧c9.x.D=D∧Mm.Mv (bk c2 ts) (bk c9 ts) w2 w9):=⟨a9,d9.trans hD2,m9⟩;clear a9 d9 m9))
  go_ret;exact⟨rfl,c9,HX9.out.1,HX9.out.2.1.trans hD.symm,(HX1.out.2.2.trans HX2.out.2.2).trans HX9.out.2.2⟩
 ·have e2:doneW S n=S:=by unfold doneW;rw [if_neg he]
  have es:({ S with R:=Buf.doneL S.R n } :WS)=S:=by rw [done_same he]
  have hne:(Buf.doneE S.R n !=0)=true:=by simp [he]
  have HS:=zh es;rw [e2];clear e2 he es;go_enter func30,ntmps30;go_wp2_with(go_at_call 78;have cX:=doneC B c p ts S n w HA.out hR;rw [hD,HS.out]at cX;(with_reducible refine cX.mono ?_);rintro e w1 ⟨rfl,c1,a1,d1,m1⟩;clear cX;have HX1:Hid (WAt w1 B c1 p ts S∧c1.x.D=D∧Mm.Mv (bk c ts) (bk c1 ts) w w1):=⟨a1,d1.trans hD,m1⟩;have hD1:c1.x.D=D:=d1.trans hD;clear a1 d1 m1)
  go_ret;exact⟨rfl,c1,HX1.out.1,HX1.out.2.1.trans hD.symm,HX1.out.2.2⟩
theorem ask_any (a n:Int) (w:World) (hA:WAt w B c p ts S) (hI:WI ts S h k) (hk:k≤1000000):
  Calls prog 29 #[.pointer (some ⟨c.x.D,0,none⟩),.int .i64 a,.int .i64 n] w fun e w'=>e=.returned (.int .i64 (Buf.askE S.R S.now a n))∧Wst B c p ts (askW S a n) w w':=by
 have HA:Hid (WAt w.drew B c p ts S):=hA.below (Mm.bdrew w);have HI:Hid (WI ts { S with R:=Buf.askL S.R S.now a n } h k):=hI.ask a n;have hR:=hI.r;have c0:=hA.c0;clear hA hI;generalize hD:c.x.D=D at*;by_cases he:Buf.askE S.R S.now a n=0
 ·have e2:askW S a n=onW { S with R:=Buf.askL S.R S.now a n } :=by unfold askW;rw [if_pos he]
  have HE:=zh he;rw [e2,he];clear e2 he;go_enter func29,ntmps29;go_upto_region 1 with fail
  refine Tk.sb 15 (S:=fun w'=>w'.cell? ⟨D,0,none⟩=some (.int .i64 S.now)) (c0) (fun hHeld=> ?_)
  iterate 9
   refine Tk.gn ?_
  refine Tk.rn 9 fun K hK=> ?_;go_simp;go_wp2_with((go_at_call 77;have cX:=askC B c p ts S a n w.drew HA.out hR;rw [hD,HE.out]at cX;(with_reducible refine cX.mono ?_);rintro e w1 ⟨rfl,c1,a1,d1,m1⟩;clear cX;have HX1:Hid (WAt w1 B c1 p ts { S with R:=Buf.askL S.R S.now a n } ∧c1.x.D=D∧Mm.Mv (bk c ts) (bk c1 ts) w.drew w1):=⟨a1,d1.trans hD,m1⟩;have hD1:c1.x.D=D:=d1.trans hD;clear a1 d1 m1;have q1:=HX1.out.1.c0;rw [hD1]at q1))
  refine hK.out _ _ (q1) (fun hHeld=> ?_);clear hK K
  iterate 5
   refine Tk.gn ?_
  refine wpAnyH_done (by kernel_rfl) ?_ _;go_wp2_with(go_at_call 65;have cO:=handOn_any B c1 p ts { S with R:=Buf.askL S.R S.now a n } h k w1 HX1.out.1 HI.out hk;rw [hD1]at cO;(with_reducible refine cO.mono ?_);rintro e w9 ⟨rfl,c9,a9,d9,m9⟩;clear cO;have HX9:Hid (WAt w9 B c9 p ts (onW { S with R:=Buf.askL S.R S.now a n })∧c9.x.D=D∧Mm.Mv (bk c1 ts) (bk c9 ts) w1 w9):=⟨a9,d9.trans hD1,m9⟩;clear a9 d9 m9)
  go_ret;exact⟨rfl,c9,HX9.out.1,HX9.out.2.1.trans hD.symm,((Mm.Mv.of_below (Mm.bdrew w)).trans HX1.out.2.2).trans HX9.out.2.2⟩
 ·have e2:askW S a n=S:=by unfold askW;rw [if_neg he]
  have es:({ S with R:=Buf.askL S.R S.now a n } :WS)=S:=by rw [ask_same he]
  have hne:(Buf.askE S.R S.now a n !=0)=true:=by simp [he]
  have HS:=zh es;rw [e2];clear e2 he es;go_enter func29,ntmps29;go_upto_region 1 with fail
  refine Tk.sb 15 (S:=fun w'=>w'.cell? ⟨D,0,none⟩=some (.int .i64 S.now)) (c0) (fun hHeld=> ?_)
  iterate 9
   refine Tk.gn ?_
  refine Tk.rn 9 fun K hK=> ?_;go_simp;go_wp2_with((go_at_call 77;have cX:=askC B c p ts S a n w.drew HA.out hR;rw [hD,HS.out]at cX;(with_reducible refine cX.mono ?_);rintro e w1 ⟨rfl,c1,a1,d1,m1⟩;clear cX;have HX1:Hid (WAt w1 B c1 p ts S∧c1.x.D=D∧Mm.Mv (bk c ts) (bk c1 ts) w.drew w1):=⟨a1,d1.trans hD,m1⟩;have hD1:c1.x.D=D:=d1.trans hD;clear a1 d1 m1;have q1:=HX1.out.1.c0;rw [hD1]at q1))
  refine hK.out _ _ (q1) (fun hHeld=> ?_);clear hK K
  iterate 5
   refine Tk.gn ?_
  refine wpAnyH_done (by kernel_rfl) ?_ _;go_wp2;go_ret;exact⟨rfl,c1,HX1.out.1,HX1.out.2.1.trans hD.symm,(Mm.Mv.of_below (Mm.bdrew w)).trans HX1.out.2.2⟩
end

noncomputable def tickD (p:Pd) (ts:List Tr) (S:WS) (n:Int):WS:=if tickE S n=0 then tickW p ts n.toNat S else S
theorem make_now (S:WS) (a n:Int):(makeW S a n).now=S.now:=by unfold makeW;split<;>rfl
theorem take_now (S:WS) (a n:Int):(takeW S a n).now=S.now:=by unfold takeW;split<;>rfl
theorem put_now (S:WS) (n:Int):(putW S n).now=S.now:=by unfold putW;split<;>rfl
theorem pause_now (S:WS) (n:Int):(pauseW S n).now=S.now:=by unfold pauseW;split<;>rfl
section
variable (B : Nat) (c : Pc) (p : Pd) (ts : List Tr) (S : WS) (h k : Nat)
theorem tick_any (n:Int) (w:World) (hA:WAt w B c p ts S) (hI:WI ts S h k) (hh:h≤1000) (hk:k≤400000) (hP:PlOk p ts) (hU: ∀t∈ts,TrU t):
  Calls prog 19 #[.pointer (some ⟨c.x.D,0,none⟩),.int .i64 n] w fun e w'=>e=.returned (.int .i64 (tickE S n))∧Wst B c p ts (tickD p ts S n) w w':=by
 unfold tickD;by_cases h1:(1≤n∧n≤1000)∧S.now+n≤1099511627776
 ·have e1:tickE S n=0:=by unfold tickE;rw [if_pos h1]
  obtain⟨m,rfl⟩: ∃m:Nat,n=(m:Int):=⟨n.toNat,by omega⟩
  rw [if_pos e1,e1];exact tick_yes B c p ts S h k m w hA hI hh hk hP hU (by omega) (by omega) h1.2
 ·have e1:tickE S n≠0:=by unfold tickE;rw [if_neg h1];decide
  rw [if_neg e1];exact tick_no B c p ts S h k n w hA hI e1
theorem do_1 (a n:Int) (w:World) (hA:WAt w B c p ts S) (hI:WI ts S h k) (hh:h≤1000) (hk:k≤400000) (hP:PlOk p ts) (hU: ∀t∈ts,TrU t):
  Calls prog 8 #[.pointer (some ⟨c.x.D,0,none⟩),.agg #[.int .i64 1,.int .i64 a,.int .i64 n]] w fun e w'=>e=.returned (.int .i64 (tickE S n))∧Wst B c p ts (tickD p ts S n) w w':=by
 obtain⟨W,hW⟩: ∃W,W=w.alloc (.cells #[.int .i64 1,.int .i64 a,.int .i64 n] 37):=⟨_,rfl⟩
 have hbW:Below w.heap.size w W:=by rw [hW];exact(Below.refl _ _).alloc (Xa _) _
 have x0:W.cell? ⟨w.heap.size,0,none⟩=some (.int .i64 1):=by rw [hW];simp
 have x1:W.cell? ⟨w.heap.size,1,none⟩=some (.int .i64 a):=by rw [hW];simp
 have x2:W.cell? ⟨w.heap.size,2,none⟩=some (.int .i64 n):=by rw [hW];simp
 have HW:=zh hW;have HXn:Hid (¬bk c ts w.heap.size):=fun e=>absurd (hA.low e).2 (XL _);have HA:Hid (WAt W B c p ts S):=hA.below hbW;have HB:Hid (Mm.Mv (bk c ts) (bk c ts) w W):=Mm.Mv.of_below hbW;have c0:W.cell? ⟨c.x.D,0,none⟩=some (.int .i64 S.now):=HA.out.c0;have HI:=zh hI;have hL:S.F.L.length≤1000000000:=by have:=hI.len;omega
 have hk2:k≤1000000:=by omega
 clear hA hI hbW hW;generalize hD:c.x.D=D at*;go_enter func8,ntmps8;go_upto_region 1 with fail
 rw [←HW.out];clear HW;generalize w.heap.size=X at*;go_wp2_with(go_at_call 19;have cX:=tick_any B c p ts S h k n W HA.out HI.out hh hk hP hU;rw [hD]at cX;(with_reducible refine cX.mono ?_);rintro e w1 ⟨rfl,c1,a1,d1,m1⟩;clear cX;have HX1:Hid (WAt w1 B c1 p ts (tickD p ts S n)∧c1.x.D=D∧Mm.Mv (bk c ts) (bk c1 ts) W w1):=⟨a1,d1.trans hD,m1⟩;have hD1:c1.x.D=D:=d1.trans hD;clear a1 d1 m1)
 go_ret;exact⟨rfl,c1,HX1.out.1,HX1.out.2.1.trans hD.symm,HB.out.trans HX1.out.2.2⟩
theorem do_2 (a n:Int) (w:World) (hA:WAt w B c p ts S) (hI:WI ts S h k) (hh:h≤1000) (hk:k≤400000) (_hP:PlOk p ts) (_hU: ∀t∈ts,TrU t):
  Calls prog 8 #[.pointer (some ⟨c.x.D,0,none⟩),.agg #[.int .i64 2,.int .i64 a,.int .i64 n]] w fun e w'=>e=.returned (.int .i64 (makeE S a n))∧Wst B c p ts (makeW S a n) w w':=by
 obtain⟨W,hW⟩: ∃W,W=w.alloc (.cells #[.int .i64 2,.int .i64 a,.int .i64 n] 37):=⟨_,rfl⟩
 have hbW:Below w.heap.size w W:=by rw [hW];exact(Below.refl _ _).alloc (Xa _) _
 have x0:W.cell? ⟨w.heap.size,0,none⟩=some (.int .i64 2):=by rw [hW];simp
 have x1:W.cell? ⟨w.heap.size,1,none⟩=some (.int .i64 a):=by rw [hW];simp
 have x2:W.cell? ⟨w.heap.size,2,none⟩=some (.int .i64 n):=by rw [hW];simp
 have HW:=zh hW;have HXn:Hid (¬bk c ts w.heap.size):=fun e=>absurd (hA.low e).2 (XL _);have HA:Hid (WAt W.drew B c p ts S):=(hA.below hbW).below (Mm.bdrew W);have HB:Hid (Mm.Mv (bk c ts) (bk c ts) w W.drew):=Mm.Mv.of_below (hbW.trans ((Mm.bdrew W).mono hbW.size));have c0:W.drew.cell? ⟨c.x.D,0,none⟩=some (.int .i64 S.now):=HA.out.c0;have HI:=zh hI;have hL:S.F.L.length≤1000000000:=by have:=hI.len;omega
 have hk2:k≤1000000:=by omega
 clear hA hI hbW hW;generalize hD:c.x.D=D at*;go_enter func8,ntmps8;go_upto_region 1 with fail
 rw [←HW.out];clear HW;generalize w.heap.size=X at*;go_upto_region 5 with fail
 refine Tk.sb 9 (S:=fun w'=>w'.cell? ⟨X,1,none⟩=some (.int .i64 a)∧w'.cell? ⟨X,2,none⟩=some (.int .i64 n)∧w'.cell? ⟨D,0,none⟩=some (.int .i64 S.now)) (⟨x1,x2,c0⟩) (fun hHeld=> ?_)
 iterate 7
  refine Tk.gn ?_
 refine Tk.rn 7 fun K hK=> ?_;go_simp;go_wp2_with((go_at_call 20;have cX:=makeC B c p ts S h k a n W.drew HA.out HI.out hh;rw [hD]at cX;(with_reducible refine cX.mono ?_);rintro e w1 ⟨rfl,c1,a1,d1,m1⟩;clear cX;have HX1:Hid (WAt w1 B c1 p ts (makeW S a n)∧c1.x.D=D∧Mm.Mv (bk c ts) (bk c1 ts) W.drew w1):=⟨a1,d1.trans hD,m1⟩;have hD1:c1.x.D=D:=d1.trans hD;clear a1 d1 m1))
 refine hK.out _ _ (⟨HX1.out.2.2.cell x1 HXn.out,HX1.out.2.2.cell x2 HXn.out,by have q:=HX1.out.1.c0;rw [hD1,make_now]at q;exact q⟩) (fun hHeld=> ?_);clear hK K
 iterate 1
  refine Tk.gn ?_
 refine wpAnyH_done (by kernel_rfl) ?_ _;(try go_wp2);go_ret;exact⟨rfl,c1,HX1.out.1,HX1.out.2.1.trans hD.symm,HB.out.trans HX1.out.2.2⟩
theorem do_3 (a n:Int) (w:World) (hA:WAt w B c p ts S) (hI:WI ts S h k) (_hh:h≤1000) (hk:k≤400000) (_hP:PlOk p ts) (_hU: ∀t∈ts,TrU t):
  Calls prog 8 #[.pointer (some ⟨c.x.D,0,none⟩),.agg #[.int .i64 3,.int .i64 a,.int .i64 n]] w fun e w'=>e=.returned (.int .i64 (takeE S a n))∧Wst B c p ts (takeW S a n) w w':=by
 obtain⟨W,hW⟩: ∃W,W=w.alloc (.cells #[.int .i64 3,.int .i64 a,.int .i64 n] 37):=⟨_,rfl⟩
 have hbW:Below w.heap.size w W:=by rw [hW];exact(Below.refl _ _).alloc (Xa _) _
 have x0:W.cell? ⟨w.heap.size,0,none⟩=some (.int .i64 3):=by rw [hW];simp
 have x1:W.cell? ⟨w.heap.size,1,none⟩=some (.int .i64 a):=by rw [hW];simp
 have x2:W.cell? ⟨w.heap.size,2,none⟩=some (.int .i64 n):=by rw [hW];simp
 have HW:=zh hW;have HXn:Hid (¬bk c ts w.heap.size):=fun e=>absurd (hA.low e).2 (XL _);have HA:Hid (WAt W.drew B c p ts S):=(hA.below hbW).below (Mm.bdrew W);have HB:Hid (Mm.Mv (bk c ts) (bk c ts) w W.drew):=Mm.Mv.of_below (hbW.trans ((Mm.bdrew W).mono hbW.size));have c0:W.drew.cell? ⟨c.x.D,0,none⟩=some (.int .i64 S.now):=HA.out.c0;have HI:=zh hI;have hL:S.F.L.length≤1000000000:=by have:=hI.len;omega
 have hk2:k≤1000000:=by omega
 clear hA hI hbW hW;generalize hD:c.x.D=D at*;go_enter func8,ntmps8;go_upto_region 1 with fail
 rw [←HW.out];clear HW;generalize w.heap.size=X at*;go_upto_region 7 with fail
 refine Tk.sb 9 (S:=fun w'=>w'.cell? ⟨X,1,none⟩=some (.int .i64 a)∧w'.cell? ⟨X,2,none⟩=some (.int .i64 n)∧w'.cell? ⟨D,0,none⟩=some (.int .i64 S.now)) (⟨x1,x2,c0⟩) (fun hHeld=> ?_)
 iterate 7
  refine Tk.gn ?_
 refine Tk.rn 7 fun K hK=> ?_;go_simp;go_wp2_with((go_at_call 21;have cX:=takeC B c p ts S a n W.drew HA.out;rw [hD]at cX;(with_reducible refine cX.mono ?_);rintro e w1 ⟨rfl,c1,a1,d1,m1⟩;clear cX;have HX1:Hid (WAt w1 B c1 p ts (takeW S a n)∧c1.x.D=D∧Mm.Mv (bk c ts) (bk c1 ts) W.drew w1):=⟨a1,d1.trans hD,m1⟩;have hD1:c1.x.D=D:=d1.trans hD;clear a1 d1 m1))
 refine hK.out _ _ (⟨HX1.out.2.2.cell x1 HXn.out,HX1.out.2.2.cell x2 HXn.out,by have q:=HX1.out.1.c0;rw [hD1,take_now]at q;exact q⟩) (fun hHeld=> ?_);clear hK K
 iterate 1
  refine Tk.gn ?_
 refine wpAnyH_done (by kernel_rfl) ?_ _;(try go_wp2);go_ret;exact⟨rfl,c1,HX1.out.1,HX1.out.2.1.trans hD.symm,HB.out.trans HX1.out.2.2⟩
theorem do_4 (a n:Int) (w:World) (hA:WAt w B c p ts S) (hI:WI ts S h k) (hh:h≤1000) (hk:k≤400000) (_hP:PlOk p ts) (_hU: ∀t∈ts,TrU t):
  Calls prog 8 #[.pointer (some ⟨c.x.D,0,none⟩),.agg #[.int .i64 4,.int .i64 a,.int .i64 n]] w fun e w'=>e=.returned (.int .i64 (putE S.qL n))∧Wst B c p ts (putW S n) w w':=by
 obtain⟨W,hW⟩: ∃W,W=w.alloc (.cells #[.int .i64 4,.int .i64 a,.int .i64 n] 37):=⟨_,rfl⟩
 have hbW:Below w.heap.size w W:=by rw [hW];exact(Below.refl _ _).alloc (Xa _) _
 have x0:W.cell? ⟨w.heap.size,0,none⟩=some (.int .i64 4):=by rw [hW];simp
 have x1:W.cell? ⟨w.heap.size,1,none⟩=some (.int .i64 a):=by rw [hW];simp
 have x2:W.cell? ⟨w.heap.size,2,none⟩=some (.int .i64 n):=by rw [hW];simp
 have HW:=zh hW;have HXn:Hid (¬bk c ts w.heap.size):=fun e=>absurd (hA.low e).2 (XL _);have HA:Hid (WAt W.drew B c p ts S):=(hA.below hbW).below (Mm.bdrew W);have HB:Hid (Mm.Mv (bk c ts) (bk c ts) w W.drew):=Mm.Mv.of_below (hbW.trans ((Mm.bdrew W).mono hbW.size));have c0:W.drew.cell? ⟨c.x.D,0,none⟩=some (.int .i64 S.now):=HA.out.c0;have HI:=zh hI;have hL:S.F.L.length≤1000000000:=by have:=hI.len;omega
 have hk2:k≤1000000:=by omega
 clear hA hI hbW hW;generalize hD:c.x.D=D at*;go_enter func8,ntmps8;go_upto_region 1 with fail
 rw [←HW.out];clear HW;generalize w.heap.size=X at*;go_upto_region 9 with fail
 refine Tk.sb 11 (S:=fun w'=>w'.cell? ⟨X,1,none⟩=some (.int .i64 a)∧w'.cell? ⟨X,2,none⟩=some (.int .i64 n)∧w'.cell? ⟨D,0,none⟩=some (.int .i64 S.now)) (⟨x1,x2,c0⟩) (fun hHeld=> ?_)
 iterate 5
  refine Tk.gn ?_
 refine Tk.rn 5 fun K hK=> ?_;go_simp;go_wp2_with((go_at_call 22;have cX:=putC B c p ts S h k n W.drew HA.out HI.out hh;rw [hD]at cX;(with_reducible refine cX.mono ?_);rintro e w1 ⟨z,rfl,c1,a1,d1,m1⟩;clear cX;have HX1:Hid (WAt w1 B c1 p ts (putW S n)∧c1.x.D=D∧Mm.Mv (bk c ts) (bk c1 ts) W.drew w1):=⟨a1,d1.trans hD,m1⟩;have hD1:c1.x.D=D:=d1.trans hD;clear a1 d1 m1))
 refine hK.out _ _ (⟨HX1.out.2.2.cell x1 HXn.out,HX1.out.2.2.cell x2 HXn.out,by have q:=HX1.out.1.c0;rw [hD1,put_now]at q;exact q⟩) (fun hHeld=> ?_);clear hK K
 iterate 5
  refine Tk.gn ?_
 refine wpAnyH_done (by kernel_rfl) ?_ _;go_wp2;go_ret;exact⟨rfl,c1,HX1.out.1,HX1.out.2.1.trans hD.symm,HB.out.trans HX1.out.2.2⟩
theorem do_5 (a n:Int) (w:World) (hA:WAt w B c p ts S) (hI:WI ts S h k) (_hh:h≤1000) (hk:k≤400000) (_hP:PlOk p ts) (_hU: ∀t∈ts,TrU t):
  Calls prog 8 #[.pointer (some ⟨c.x.D,0,none⟩),.agg #[.int .i64 5,.int .i64 a,.int .i64 n]] w fun e w'=>e=.returned (.int .i64 (leaseE S.qL S.now n))∧Wst B c p ts ({ S with qL:=leaseL S.qL S.now n }) w w':=by
 obtain⟨W,hW⟩: ∃W,W=w.alloc (.cells #[.int .i64 5,.int .i64 a,.int .i64 n] 37):=⟨_,rfl⟩
 have hbW:Below w.heap.size w W:=by rw [hW];exact(Below.refl _ _).alloc (Xa _) _
 have x0:W.cell? ⟨w.heap.size,0,none⟩=some (.int .i64 5):=by rw [hW];simp
 have x1:W.cell? ⟨w.heap.size,1,none⟩=some (.int .i64 a):=by rw [hW];simp
 have x2:W.cell? ⟨w.heap.size,2,none⟩=some (.int .i64 n):=by rw [hW];simp
 have HW:=zh hW;have HXn:Hid (¬bk c ts w.heap.size):=fun e=>absurd (hA.low e).2 (XL _);have HA:Hid (WAt W.drew B c p ts S):=(hA.below hbW).below (Mm.bdrew W);have HB:Hid (Mm.Mv (bk c ts) (bk c ts) w W.drew):=Mm.Mv.of_below (hbW.trans ((Mm.bdrew W).mono hbW.size));have c0:W.drew.cell? ⟨c.x.D,0,none⟩=some (.int .i64 S.now):=HA.out.c0;have HI:=zh hI;have hL:S.F.L.length≤1000000000:=by have:=hI.len;omega
 have hk2:k≤1000000:=by omega
 clear hA hI hbW hW;generalize hD:c.x.D=D at*;go_enter func8,ntmps8;go_upto_region 1 with fail
 rw [←HW.out];clear HW;generalize w.heap.size=X at*;go_upto_region 12 with fail
 refine Tk.sb 15 (S:=fun w'=>w'.cell? ⟨X,1,none⟩=some (.int .i64 a)∧w'.cell? ⟨X,2,none⟩=some (.int .i64 n)∧w'.cell? ⟨D,0,none⟩=some (.int .i64 S.now)) (⟨x1,x2,c0⟩) (fun hHeld=> ?_)
 iterate 9
  refine Tk.gn ?_
 refine Tk.rn 9 fun K hK=> ?_;go_simp;go_wp2_with((go_at_call 23;have cX:=leaseC B c p ts S h k n W.drew HA.out HI.out;rw [hD]at cX;(with_reducible refine cX.mono ?_);rintro e w1 ⟨z,rfl,c1,a1,d1,m1⟩;clear cX;have HX1:Hid (WAt w1 B c1 p ts { S with qL:=leaseL S.qL S.now n } ∧c1.x.D=D∧Mm.Mv (bk c ts) (bk c1 ts) W.drew w1):=⟨a1,d1.trans hD,m1⟩;have hD1:c1.x.D=D:=d1.trans hD;clear a1 d1 m1))
 refine hK.out _ _ (⟨HX1.out.2.2.cell x1 HXn.out,HX1.out.2.2.cell x2 HXn.out,by have q:=HX1.out.1.c0;rw [hD1]at q;exact q⟩) (fun hHeld=> ?_);clear hK K
 iterate 5
  refine Tk.gn ?_
 refine wpAnyH_done (by kernel_rfl) ?_ _;go_wp2;go_ret;exact⟨rfl,c1,HX1.out.1,HX1.out.2.1.trans hD.symm,HB.out.trans HX1.out.2.2⟩
theorem do_6 (a n:Int) (w:World) (hA:WAt w B c p ts S) (hI:WI ts S h k) (_hh:h≤1000) (hk:k≤400000) (_hP:PlOk p ts) (_hU: ∀t∈ts,TrU t):
  Calls prog 8 #[.pointer (some ⟨c.x.D,0,none⟩),.agg #[.int .i64 6,.int .i64 a,.int .i64 n]] w fun e w'=>e=.returned (.int .i64 (ackE S.qL S.now n))∧Wst B c p ts ({ S with qL:=ackL S.qL S.now n }) w w':=by
 obtain⟨W,hW⟩: ∃W,W=w.alloc (.cells #[.int .i64 6,.int .i64 a,.int .i64 n] 37):=⟨_,rfl⟩
 have hbW:Below w.heap.size w W:=by rw [hW];exact(Below.refl _ _).alloc (Xa _) _
 have x0:W.cell? ⟨w.heap.size,0,none⟩=some (.int .i64 6):=by rw [hW];simp
 have x1:W.cell? ⟨w.heap.size,1,none⟩=some (.int .i64 a):=by rw [hW];simp
 have x2:W.cell? ⟨w.heap.size,2,none⟩=some (.int .i64 n):=by rw [hW];simp
 have HW:=zh hW;have HXn:Hid (¬bk c ts w.heap.size):=fun e=>absurd (hA.low e).2 (XL _);have HA:Hid (WAt W.drew B c p ts S):=(hA.below hbW).below (Mm.bdrew W);have HB:Hid (Mm.Mv (bk c ts) (bk c ts) w W.drew):=Mm.Mv.of_below (hbW.trans ((Mm.bdrew W).mono hbW.size));have c0:W.drew.cell? ⟨c.x.D,0,none⟩=some (.int .i64 S.now):=HA.out.c0;have HI:=zh hI;have hL:S.F.L.length≤1000000000:=by have:=hI.len;omega
 have hk2:k≤1000000:=by omega
 clear hA hI hbW hW;generalize hD:c.x.D=D at*;go_enter func8,ntmps8;go_upto_region 1 with fail
 rw [←HW.out];clear HW;generalize w.heap.size=X at*;go_upto_region 15 with fail
 refine Tk.sb 11 (S:=fun w'=>w'.cell? ⟨X,1,none⟩=some (.int .i64 a)∧w'.cell? ⟨X,2,none⟩=some (.int .i64 n)∧w'.cell? ⟨D,0,none⟩=some (.int .i64 S.now)) (⟨x1,x2,c0⟩) (fun hHeld=> ?_)
 iterate 9
  refine Tk.gn ?_
 refine Tk.rn 9 fun K hK=> ?_;go_simp;go_wp2_with((go_at_call 24;have cX:=ackC B c p ts S h k n W.drew HA.out HI.out;rw [hD]at cX;(with_reducible refine cX.mono ?_);rintro e w1 ⟨rfl,c1,a1,d1,m1⟩;clear cX;have HX1:Hid (WAt w1 B c1 p ts { S with qL:=ackL S.qL S.now n } ∧c1.x.D=D∧Mm.Mv (bk c ts) (bk c1 ts) W.drew w1):=⟨a1,d1.trans hD,m1⟩;have hD1:c1.x.D=D:=d1.trans hD;clear a1 d1 m1))
 refine hK.out _ _ (⟨HX1.out.2.2.cell x1 HXn.out,HX1.out.2.2.cell x2 HXn.out,by have q:=HX1.out.1.c0;rw [hD1]at q;exact q⟩) (fun hHeld=> ?_);clear hK K
 iterate 1
  refine Tk.gn ?_
 refine wpAnyH_done (by kernel_rfl) ?_ _;(try go_wp2);go_ret;exact⟨rfl,c1,HX1.out.1,HX1.out.2.1.trans hD.symm,HB.out.trans HX1.out.2.2⟩
theorem do_7 (a n:Int) (w:World) (hA:WAt w B c p ts S) (hI:WI ts S h k) (_hh:h≤1000) (hk:k≤400000) (_hP:PlOk p ts) (_hU: ∀t∈ts,TrU t):
  Calls prog 8 #[.pointer (some ⟨c.x.D,0,none⟩),.agg #[.int .i64 7,.int .i64 a,.int .i64 n]] w fun e w'=>e=.returned (.int .i64 (failE S a n))∧Wst B c p ts (failW S a n) w w':=by
 obtain⟨W,hW⟩: ∃W,W=w.alloc (.cells #[.int .i64 7,.int .i64 a,.int .i64 n] 37):=⟨_,rfl⟩
 have hbW:Below w.heap.size w W:=by rw [hW];exact(Below.refl _ _).alloc (Xa _) _
 have x0:W.cell? ⟨w.heap.size,0,none⟩=some (.int .i64 7):=by rw [hW];simp
 have x1:W.cell? ⟨w.heap.size,1,none⟩=some (.int .i64 a):=by rw [hW];simp
 have x2:W.cell? ⟨w.heap.size,2,none⟩=some (.int .i64 n):=by rw [hW];simp
 have HW:=zh hW;have HXn:Hid (¬bk c ts w.heap.size):=fun e=>absurd (hA.low e).2 (XL _);have HA:Hid (WAt W B c p ts S):=hA.below hbW;have HB:Hid (Mm.Mv (bk c ts) (bk c ts) w W):=Mm.Mv.of_below hbW;have c0:W.cell? ⟨c.x.D,0,none⟩=some (.int .i64 S.now):=HA.out.c0;have HI:=zh hI;have hL:S.F.L.length≤1000000000:=by have:=hI.len;omega
 have hk2:k≤1000000:=by omega
 clear hA hI hbW hW;generalize hD:c.x.D=D at*;go_enter func8,ntmps8;go_upto_region 1 with fail
 rw [←HW.out];clear HW;generalize w.heap.size=X at*;go_wp2_with(go_at_call 25;have cX:=fail_any B c p ts S h k a n W HA.out HI.out;rw [hD]at cX;(with_reducible refine cX.mono ?_);rintro e w1 ⟨rfl,c1,a1,d1,m1⟩;clear cX;have HX1:Hid (WAt w1 B c1 p ts (failW S a n)∧c1.x.D=D∧Mm.Mv (bk c ts) (bk c1 ts) W w1):=⟨a1,d1.trans hD,m1⟩;have hD1:c1.x.D=D:=d1.trans hD;clear a1 d1 m1)
 go_ret;exact⟨rfl,c1,HX1.out.1,HX1.out.2.1.trans hD.symm,HB.out.trans HX1.out.2.2⟩
theorem do_8 (a n:Int) (w:World) (hA:WAt w B c p ts S) (hI:WI ts S h k) (_hh:h≤1000) (hk:k≤400000) (_hP:PlOk p ts) (_hU: ∀t∈ts,TrU t):
  Calls prog 8 #[.pointer (some ⟨c.x.D,0,none⟩),.agg #[.int .i64 8,.int .i64 a,.int .i64 n]] w fun e w'=>e=.returned (.int .i64 (Flt.turnE S.F.L n 1))∧Wst B c p ts ({ S with F:=Flt.turnS S.F n 1 }) w w':=by
 obtain⟨W,hW⟩: ∃W,W=w.alloc (.cells #[.int .i64 8,.int .i64 a,.int .i64 n] 37):=⟨_,rfl⟩
 have hbW:Below w.heap.size w W:=by rw [hW];exact(Below.refl _ _).alloc (Xa _) _
 have x0:W.cell? ⟨w.heap.size,0,none⟩=some (.int .i64 8):=by rw [hW];simp
 have x1:W.cell? ⟨w.heap.size,1,none⟩=some (.int .i64 a):=by rw [hW];simp
 have x2:W.cell? ⟨w.heap.size,2,none⟩=some (.int .i64 n):=by rw [hW];simp
 have HW:=zh hW;have HXn:Hid (¬bk c ts w.heap.size):=fun e=>absurd (hA.low e).2 (XL _);have HA:Hid (WAt W.drew B c p ts S):=(hA.below hbW).below (Mm.bdrew W);have HB:Hid (Mm.Mv (bk c ts) (bk c ts) w W.drew):=Mm.Mv.of_below (hbW.trans ((Mm.bdrew W).mono hbW.size));have c0:W.drew.cell? ⟨c.x.D,0,none⟩=some (.int .i64 S.now):=HA.out.c0;have HI:=zh hI;have hL:S.F.L.length≤1000000000:=by have:=hI.len;omega
 have hk2:k≤1000000:=by omega
 clear hA hI hbW hW;generalize hD:c.x.D=D at*;go_enter func8,ntmps8;go_upto_region 1 with fail
 rw [←HW.out];clear HW;generalize w.heap.size=X at*;go_upto_region 19 with fail
 refine Tk.sb 7 (S:=fun w'=>w'.cell? ⟨X,1,none⟩=some (.int .i64 a)∧w'.cell? ⟨X,2,none⟩=some (.int .i64 n)∧w'.cell? ⟨D,0,none⟩=some (.int .i64 S.now)) (⟨x1,x2,c0⟩) (fun hHeld=> ?_)
 iterate 5
  refine Tk.gn ?_
 refine Tk.rn 5 fun K hK=> ?_;go_simp;go_wp2_with((go_at_call 26;have cX:=startC B c p ts S n W.drew HA.out hL;rw [hD]at cX;(with_reducible refine cX.mono ?_);rintro e w1 ⟨rfl,c1,a1,d1,m1⟩;clear cX;have HX1:Hid (WAt w1 B c1 p ts { S with F:=Flt.turnS S.F n 1 } ∧c1.x.D=D∧Mm.Mv (bk c ts) (bk c1 ts) W.drew w1):=⟨a1,d1.trans hD,m1⟩;have hD1:c1.x.D=D:=d1.trans hD;clear a1 d1 m1))
 refine hK.out _ _ (⟨HX1.out.2.2.cell x1 HXn.out,HX1.out.2.2.cell x2 HXn.out,by have q:=HX1.out.1.c0;rw [hD1]at q;exact q⟩) (fun hHeld=> ?_);clear hK K
 iterate 1
  refine Tk.gn ?_
 refine wpAnyH_done (by kernel_rfl) ?_ _;(try go_wp2);go_ret;exact⟨rfl,c1,HX1.out.1,HX1.out.2.1.trans hD.symm,HB.out.trans HX1.out.2.2⟩
theorem do_9 (a n:Int) (w:World) (hA:WAt w B c p ts S) (hI:WI ts S h k) (_hh:h≤1000) (hk:k≤400000) (_hP:PlOk p ts) (_hU: ∀t∈ts,TrU t):
  Calls prog 8 #[.pointer (some ⟨c.x.D,0,none⟩),.agg #[.int .i64 9,.int .i64 a,.int .i64 n]] w fun e w'=>e=.returned (.int .i64 (Flt.turnE S.F.L n 2))∧Wst B c p ts (readyW S n) w w':=by
 obtain⟨W,hW⟩: ∃W,W=w.alloc (.cells #[.int .i64 9,.int .i64 a,.int .i64 n] 37):=⟨_,rfl⟩
 have hbW:Below w.heap.size w W:=by rw [hW];exact(Below.refl _ _).alloc (Xa _) _
 have x0:W.cell? ⟨w.heap.size,0,none⟩=some (.int .i64 9):=by rw [hW];simp
 have x1:W.cell? ⟨w.heap.size,1,none⟩=some (.int .i64 a):=by rw [hW];simp
 have x2:W.cell? ⟨w.heap.size,2,none⟩=some (.int .i64 n):=by rw [hW];simp
 have HW:=zh hW;have HXn:Hid (¬bk c ts w.heap.size):=fun e=>absurd (hA.low e).2 (XL _);have HA:Hid (WAt W B c p ts S):=hA.below hbW;have HB:Hid (Mm.Mv (bk c ts) (bk c ts) w W):=Mm.Mv.of_below hbW;have c0:W.cell? ⟨c.x.D,0,none⟩=some (.int .i64 S.now):=HA.out.c0;have HI:=zh hI;have hL:S.F.L.length≤1000000000:=by have:=hI.len;omega
 have hk2:k≤1000000:=by omega
 clear hA hI hbW hW;generalize hD:c.x.D=D at*;go_enter func8,ntmps8;go_upto_region 1 with fail
 rw [←HW.out];clear HW;generalize w.heap.size=X at*;go_wp2_with(go_at_call 27;have cX:=ready_any B c p ts S h k n W HA.out HI.out hk2;rw [hD]at cX;(with_reducible refine cX.mono ?_);rintro e w1 ⟨rfl,c1,a1,d1,m1⟩;clear cX;have HX1:Hid (WAt w1 B c1 p ts (readyW S n)∧c1.x.D=D∧Mm.Mv (bk c ts) (bk c1 ts) W w1):=⟨a1,d1.trans hD,m1⟩;have hD1:c1.x.D=D:=d1.trans hD;clear a1 d1 m1)
 go_ret;exact⟨rfl,c1,HX1.out.1,HX1.out.2.1.trans hD.symm,HB.out.trans HX1.out.2.2⟩
theorem do_10 (a n:Int) (w:World) (hA:WAt w B c p ts S) (hI:WI ts S h k) (_hh:h≤1000) (hk:k≤400000) (_hP:PlOk p ts) (_hU: ∀t∈ts,TrU t):
  Calls prog 8 #[.pointer (some ⟨c.x.D,0,none⟩),.agg #[.int .i64 10,.int .i64 a,.int .i64 n]] w fun e w'=>e=.returned (.int .i64 (Flt.crashE S.F.L n))∧Wst B c p ts (crashW S n) w w':=by
 obtain⟨W,hW⟩: ∃W,W=w.alloc (.cells #[.int .i64 10,.int .i64 a,.int .i64 n] 37):=⟨_,rfl⟩
 have hbW:Below w.heap.size w W:=by rw [hW];exact(Below.refl _ _).alloc (Xa _) _
 have x0:W.cell? ⟨w.heap.size,0,none⟩=some (.int .i64 10):=by rw [hW];simp
 have x1:W.cell? ⟨w.heap.size,1,none⟩=some (.int .i64 a):=by rw [hW];simp
 have x2:W.cell? ⟨w.heap.size,2,none⟩=some (.int .i64 n):=by rw [hW];simp
 have HW:=zh hW;have HXn:Hid (¬bk c ts w.heap.size):=fun e=>absurd (hA.low e).2 (XL _);have HA:Hid (WAt W B c p ts S):=hA.below hbW;have HB:Hid (Mm.Mv (bk c ts) (bk c ts) w W):=Mm.Mv.of_below hbW;have c0:W.cell? ⟨c.x.D,0,none⟩=some (.int .i64 S.now):=HA.out.c0;have HI:=zh hI;have hL:S.F.L.length≤1000000000:=by have:=hI.len;omega
 have hk2:k≤1000000:=by omega
 clear hA hI hbW hW;generalize hD:c.x.D=D at*;go_enter func8,ntmps8;go_upto_region 1 with fail
 rw [←HW.out];clear HW;generalize w.heap.size=X at*;go_wp2_with(go_at_call 28;have cX:=crash_any B c p ts S h k n W HA.out HI.out hk2;rw [hD]at cX;(with_reducible refine cX.mono ?_);rintro e w1 ⟨rfl,c1,a1,d1,m1⟩;clear cX;have HX1:Hid (WAt w1 B c1 p ts (crashW S n)∧c1.x.D=D∧Mm.Mv (bk c ts) (bk c1 ts) W w1):=⟨a1,d1.trans hD,m1⟩;have hD1:c1.x.D=D:=d1.trans hD;clear a1 d1 m1)
 go_ret;exact⟨rfl,c1,HX1.out.1,HX1.out.2.1.trans hD.symm,HB.out.trans HX1.out.2.2⟩
theorem do_11 (a n:Int) (w:World) (hA:WAt w B c p ts S) (hI:WI ts S h k) (_hh:h≤1000) (hk:k≤400000) (_hP:PlOk p ts) (_hU: ∀t∈ts,TrU t):
  Calls prog 8 #[.pointer (some ⟨c.x.D,0,none⟩),.agg #[.int .i64 11,.int .i64 a,.int .i64 n]] w fun e w'=>e=.returned (.int .i64 (Buf.askE S.R S.now a n))∧Wst B c p ts (askW S a n) w w':=by
 obtain⟨W,hW⟩: ∃W,W=w.alloc (.cells #[.int .i64 11,.int .i64 a,.int .i64 n] 37):=⟨_,rfl⟩
 have hbW:Below w.heap.size w W:=by rw [hW];exact(Below.refl _ _).alloc (Xa _) _
 have x0:W.cell? ⟨w.heap.size,0,none⟩=some (.int .i64 11):=by rw [hW];simp
 have x1:W.cell? ⟨w.heap.size,1,none⟩=some (.int .i64 a):=by rw [hW];simp
 have x2:W.cell? ⟨w.heap.size,2,none⟩=some (.int .i64 n):=by rw [hW];simp
 have HW:=zh hW;have HXn:Hid (¬bk c ts w.heap.size):=fun e=>absurd (hA.low e).2 (XL _);have HA:Hid (WAt W B c p ts S):=hA.below hbW;have HB:Hid (Mm.Mv (bk c ts) (bk c ts) w W):=Mm.Mv.of_below hbW;have c0:W.cell? ⟨c.x.D,0,none⟩=some (.int .i64 S.now):=HA.out.c0;have HI:=zh hI;have hL:S.F.L.length≤1000000000:=by have:=hI.len;omega
 have hk2:k≤1000000:=by omega
 clear hA hI hbW hW;generalize hD:c.x.D=D at*;go_enter func8,ntmps8;go_upto_region 1 with fail
 rw [←HW.out];clear HW;generalize w.heap.size=X at*;go_wp2_with(go_at_call 29;have cX:=ask_any B c p ts S h k a n W HA.out HI.out hk2;rw [hD]at cX;(with_reducible refine cX.mono ?_);rintro e w1 ⟨rfl,c1,a1,d1,m1⟩;clear cX;have HX1:Hid (WAt w1 B c1 p ts (askW S a n)∧c1.x.D=D∧Mm.Mv (bk c ts) (bk c1 ts) W w1):=⟨a1,d1.trans hD,m1⟩;have hD1:c1.x.D=D:=d1.trans hD;clear a1 d1 m1)
 go_ret;exact⟨rfl,c1,HX1.out.1,HX1.out.2.1.trans hD.symm,HB.out.trans HX1.out.2.2⟩
theorem do_12 (a n:Int) (w:World) (hA:WAt w B c p ts S) (hI:WI ts S h k) (_hh:h≤1000) (hk:k≤400000) (_hP:PlOk p ts) (_hU: ∀t∈ts,TrU t):
  Calls prog 8 #[.pointer (some ⟨c.x.D,0,none⟩),.agg #[.int .i64 12,.int .i64 a,.int .i64 n]] w fun e w'=>e=.returned (.int .i64 (Buf.doneE S.R n))∧Wst B c p ts (doneW S n) w w':=by
 obtain⟨W,hW⟩: ∃W,W=w.alloc (.cells #[.int .i64 12,.int .i64 a,.int .i64 n] 37):=⟨_,rfl⟩
 have hbW:Below w.heap.size w W:=by rw [hW];exact(Below.refl _ _).alloc (Xa _) _
 have x0:W.cell? ⟨w.heap.size,0,none⟩=some (.int .i64 12):=by rw [hW];simp
 have x1:W.cell? ⟨w.heap.size,1,none⟩=some (.int .i64 a):=by rw [hW];simp
 have x2:W.cell? ⟨w.heap.size,2,none⟩=some (.int .i64 n):=by rw [hW];simp
 have HW:=zh hW;have HXn:Hid (¬bk c ts w.heap.size):=fun e=>absurd (hA.low e).2 (XL _);have HA:Hid (WAt W B c p ts S):=hA.below hbW;have HB:Hid (Mm.Mv (bk c ts) (bk c ts) w W):=Mm.Mv.of_below hbW;have c0:W.cell? ⟨c.x.D,0,none⟩=some (.int .i64 S.now):=HA.out.c0;have HI:=zh hI;have hL:S.F.L.length≤1000000000:=by have:=hI.len;omega
 have hk2:k≤1000000:=by omega
 clear hA hI hbW hW;generalize hD:c.x.D=D at*;go_enter func8,ntmps8;go_upto_region 1 with fail
 rw [←HW.out];clear HW;generalize w.heap.size=X at*;go_wp2_with(go_at_call 30;have cX:=done_any B c p ts S h k n W HA.out HI.out hk2;rw [hD]at cX;(with_reducible refine cX.mono ?_);rintro e w1 ⟨rfl,c1,a1,d1,m1⟩;clear cX;have HX1:Hid (WAt w1 B c1 p ts (doneW S n)∧c1.x.D=D∧Mm.Mv (bk c ts) (bk c1 ts) W w1):=⟨a1,d1.trans hD,m1⟩;have hD1:c1.x.D=D:=d1.trans hD;clear a1 d1 m1)
 go_ret;exact⟨rfl,c1,HX1.out.1,HX1.out.2.1.trans hD.symm,HB.out.trans HX1.out.2.2⟩
theorem do_13 (a n:Int) (w:World) (hA:WAt w B c p ts S) (hI:WI ts S h k) (_hh:h≤1000) (hk:k≤400000) (_hP:PlOk p ts) (_hU: ∀t∈ts,TrU t):
  Calls prog 8 #[.pointer (some ⟨c.x.D,0,none⟩),.agg #[.int .i64 13,.int .i64 a,.int .i64 n]] w fun e w'=>e=.returned (.int .i64 (pauseE n))∧Wst B c p ts (pauseW S n) w w':=by
 obtain⟨W,hW⟩: ∃W,W=w.alloc (.cells #[.int .i64 13,.int .i64 a,.int .i64 n] 37):=⟨_,rfl⟩
 have hbW:Below w.heap.size w W:=by rw [hW];exact(Below.refl _ _).alloc (Xa _) _
 have x0:W.cell? ⟨w.heap.size,0,none⟩=some (.int .i64 13):=by rw [hW];simp
 have x1:W.cell? ⟨w.heap.size,1,none⟩=some (.int .i64 a):=by rw [hW];simp
 have x2:W.cell? ⟨w.heap.size,2,none⟩=some (.int .i64 n):=by rw [hW];simp
 have HW:=zh hW;have HXn:Hid (¬bk c ts w.heap.size):=fun e=>absurd (hA.low e).2 (XL _);have HA:Hid (WAt W.drew B c p ts S):=(hA.below hbW).below (Mm.bdrew W);have HB:Hid (Mm.Mv (bk c ts) (bk c ts) w W.drew):=Mm.Mv.of_below (hbW.trans ((Mm.bdrew W).mono hbW.size));have c0:W.drew.cell? ⟨c.x.D,0,none⟩=some (.int .i64 S.now):=HA.out.c0;have HI:=zh hI;have hL:S.F.L.length≤1000000000:=by have:=hI.len;omega
 have hk2:k≤1000000:=by omega
 clear hA hI hbW hW;generalize hD:c.x.D=D at*;go_enter func8,ntmps8;go_upto_region 1 with fail
 rw [←HW.out];clear HW;generalize w.heap.size=X at*;go_upto_region 29 with fail
 refine Tk.sb 7 (S:=fun w'=>w'.cell? ⟨X,1,none⟩=some (.int .i64 a)∧w'.cell? ⟨X,2,none⟩=some (.int .i64 n)∧w'.cell? ⟨D,0,none⟩=some (.int .i64 S.now)) (⟨x1,x2,c0⟩) (fun hHeld=> ?_)
 iterate 5
  refine Tk.gn ?_
 refine Tk.rn 5 fun K hK=> ?_;go_simp;go_wp2_with((go_at_call 31;have cX:=pauseC B c p ts S n W.drew HA.out;rw [hD]at cX;(with_reducible refine cX.mono ?_);rintro e w1 ⟨rfl,c1,a1,d1,m1⟩;clear cX;have HX1:Hid (WAt w1 B c1 p ts (pauseW S n)∧c1.x.D=D∧Mm.Mv (bk c ts) (bk c1 ts) W.drew w1):=⟨a1,d1.trans hD,m1⟩;have hD1:c1.x.D=D:=d1.trans hD;clear a1 d1 m1))
 refine hK.out _ _ (⟨HX1.out.2.2.cell x1 HXn.out,HX1.out.2.2.cell x2 HXn.out,by have q:=HX1.out.1.c0;rw [hD1,pause_now]at q;exact q⟩) (fun hHeld=> ?_);clear hK K
 iterate 1
  refine Tk.gn ?_
 refine wpAnyH_done (by kernel_rfl) ?_ _;(try go_wp2);go_ret;exact⟨rfl,c1,HX1.out.1,HX1.out.2.1.trans hD.symm,HB.out.trans HX1.out.2.2⟩
theorem do_no (x a n:Int) (w:World) (hA:WAt w B c p ts S) (hx: ¬(1≤x∧x≤13)):
  Calls prog 8 #[.pointer (some ⟨c.x.D,0,none⟩),.agg #[.int .i64 x,.int .i64 a,.int .i64 n]] w fun e w'=>e=.returned (.int .i64 1)∧Wst B c p ts S w w':=by
 have HA:=zh hA;have k1:(x==1)=false:=by simp;omega
 have k2:(x==2)=false:=by simp;omega
 have k3:(x==3)=false:=by simp;omega
 have k4:(x==4)=false:=by simp;omega
 have k5:(x==5)=false:=by simp;omega
 have k6:(x==6)=false:=by simp;omega
 have k7:(x==7)=false:=by simp;omega
 have k8:(x==8)=false:=by simp;omega
 have k9:(x==9)=false:=by simp;omega
 have k10:(x==10)=false:=by simp;omega
 have k11:(x==11)=false:=by simp;omega
 have k12:(x==12)=false:=by simp;omega
 have k13:(x==13)=false:=by simp;omega
 clear hA;generalize hD:c.x.D=D at*;go_enter func8,ntmps8;go_wp2;go_ret;exact⟨rfl,HA.out.on ((Below.refl _ _).alloc (Xa _) _)⟩
theorem do_any (x a n:Int) (w:World) (hA:WAt w B c p ts S) (hI:WI ts S h k) (hh:h≤1000) (hk:k≤400000) (hP:PlOk p ts) (hU: ∀t∈ts,TrU t):
  Calls prog 8 #[.pointer (some ⟨c.x.D,0,none⟩),.agg #[.int .i64 x,.int .i64 a,.int .i64 n]] w fun e w'=>e=.returned (.int .i64 (doE S x a n))∧Wst B c p ts (doW p ts S x a n) w w':=by
 by_cases hx:1≤x∧x≤13
 ·rcases(by omega:x=1∨x=2∨x=3∨x=4∨x=5∨x=6∨x=7∨x=8∨x=9∨x=10∨x=11∨x=12∨x=13)with rfl|rfl|rfl|rfl|rfl|rfl|rfl|rfl|rfl|rfl|rfl|rfl|rfl
  ·exact do_1 B c p ts S h k a n w hA hI hh hk hP hU
  ·exact do_2 B c p ts S h k a n w hA hI hh hk hP hU
  ·exact do_3 B c p ts S h k a n w hA hI hh hk hP hU
  ·exact do_4 B c p ts S h k a n w hA hI hh hk hP hU
  ·exact do_5 B c p ts S h k a n w hA hI hh hk hP hU
  ·exact do_6 B c p ts S h k a n w hA hI hh hk hP hU
  ·exact do_7 B c p ts S h k a n w hA hI hh hk hP hU
  ·exact do_8 B c p ts S h k a n w hA hI hh hk hP hU
  ·exact do_9 B c p ts S h k a n w hA hI hh hk hP hU
  ·exact do_10 B c p ts S h k a n w hA hI hh hk hP hU
  ·exact do_11 B c p ts S h k a n w hA hI hh hk hP hU
  ·exact do_12 B c p ts S h k a n w hA hI hh hk hP hU
  ·exact do_13 B c p ts S h k a n w hA hI hh hk hP hU
 ·have e1:doE S x a n=1:=by unfold doE;rw [if_neg (by omega)];rw [if_neg (by omega)];rw [if_neg (by omega)];rw [if_neg (by omega)];rw [if_neg (by omega)];rw [if_neg (by omega)];rw [if_neg (by omega)];rw [if_neg (by omega)];rw [if_neg (by omega)];rw [if_neg (by omega)];rw [if_neg (by omega)];rw [if_neg (by omega)];rw [if_neg (by omega)]
  have e2:doW p ts S x a n=S:=by unfold doW;rw [if_neg (by omega)];rw [if_neg (by omega)];rw [if_neg (by omega)];rw [if_neg (by omega)];rw [if_neg (by omega)];rw [if_neg (by omega)];rw [if_neg (by omega)];rw [if_neg (by omega)];rw [if_neg (by omega)];rw [if_neg (by omega)];rw [if_neg (by omega)];rw [if_neg (by omega)];rw [if_neg (by omega)]
  rw [e1,e2];exact do_no B c p ts S x a n w hA hx
end
end Wld
namespace Wld
open Plain Pln Frm Lpp Crn

section
variable {p : Pd} {ts : List Tr} {S : WS} {h k : Nat}
theorem WI.more (g:WI ts S h k):WI ts S (h+1) (k+1000):=g.mono (by omega) (by omega)
theorem WI.que (g:WI ts S h k) {l:Int} {L:List Que.M} (hq:Que.Inv L l) (hl:0≤l∧l≤200*(h:Int)):WI ts { S with ql:=l,qL:=L } h k:=
 ⟨g.nw,g.sc,g.fl,g.lp,g.la,g.pa,g.n,g.tb,hq,hl,g.f,g.fb,g.cn,g.r⟩
theorem lease_inv (g:WI ts S h k) (n:Int):Que.Inv (leaseL S.qL S.now n) S.ql:=by
 have hb:=g.q.back S.now;have hn:=g.nw;unfold leaseL;split
 ·exact g.q
 ·rename_i h1;have h1:1≤n∧n≤100000:=Decidable.of_not_not h1;split
  ·exact hb
  ·split
   ·exact hb
   ·rename_i m hm;exact hb.set hm (by omega)
theorem ack_inv (g:WI ts S h k) (n:Int):Que.Inv (ackL S.qL S.now n) S.ql:=by
 have hb:=g.q.back S.now;unfold ackL;split
 ·exact hb
 ·split
  ·exact hb
  ·split
   ·exact hb.erase _
   ·exact hb
theorem make_inv (g:WI ts S h k) (a n:Int):WI ts (makeW S a n) (h+1) k:=by
 unfold makeW;split
 ·rename_i e;have hn:(0≤a∧a<(S.n:Int))∧(1≤n∧n≤100000):=by
   unfold makeE at e;split at e
   ·rename_i hi;split at e
    ·rename_i hr;unfold inN at hi;simp at hi;exact⟨hi,hr⟩
    ·cases e
   ·cases e
  refine⟨g.nw,g.sc,g.fl,g.lp,g.la,g.pa,g.n,fun i hi=> ?_,g.q,⟨g.qb.1,by have:=g.qb.2;show S.ql≤_;omega⟩,g.f,g.fb,g.cn,g.r⟩;have:=g.tb i hi;show 0≤S.O i∧S.O i≤Top.upd S.E a.toNat (S.E a.toNat+n) i∧Top.upd S.E a.toNat (S.E a.toNat+n) i≤_;unfold Top.upd;by_cases x:i=a.toNat
  ·rw [if_pos x,←x];omega
  ·rw [if_neg x];omega
 ·exact g.mono (by omega) (Xa _)
theorem take_inv (g:WI ts S h k) (a n:Int):WI ts (takeW S a n) h k:=by
 unfold takeW;split
 ·rename_i e;have hn:(0≤a∧a<(S.n:Int))∧(S.O a.toNat≤n∧n≤S.E a.toNat):=by
   unfold takeE at e;split at e
   ·rename_i hi;split at e
    ·rename_i hr;unfold inN at hi;simp at hi;exact⟨hi,hr⟩
    ·cases e
   ·cases e
  refine⟨g.nw,g.sc,g.fl,g.lp,g.la,g.pa,g.n,fun i hi=> ?_,g.q,g.qb,g.f,g.fb,g.cn,g.r⟩;have:=g.tb i hi;show 0≤Top.upd S.O a.toNat n i∧Top.upd S.O a.toNat n i≤S.E i∧S.E i≤_;unfold Top.upd;by_cases x:i=a.toNat
  ·rw [if_pos x];rw [x]at this⊢;omega
  ·rw [if_neg x];omega
 ·exact g
theorem put_inv (g:WI ts S h k) (n:Int):WI ts (putW S n) (h+1) k:=by
 unfold putW;split
 ·rename_i e;have hn:1≤n∧S.qL.length+n≤200:=by
   unfold putE at e;split at e
   ·cases e
   ·split at e
    ·cases e
    ·omega
  obtain⟨i,rfl⟩: ∃i:Nat,n=(i:Int):=⟨n.toNat,by omega⟩
  have hb:=g.qb;exact(g.mono (h':=h+1) (by omega) (Xa _)).que (g.q.put (n:=i) (by omega)) (by omega)
 ·exact g.mono (by omega) (Xa _)
theorem fail_inv (g:WI ts S h k) (a n:Int):WI ts (failW S a n) h k:=by
 unfold failW;split
 ·exact⟨g.nw,g.sc,by rw [Yg];exact g.fl,g.lp,g.la,g.pa,g.n,g.tb,g.q,g.qb,g.f,g.fb,g.cn,g.r⟩
 ·exact g
theorem pause_inv (g:WI ts S h k) (n:Int):WI ts (pauseW S n) h k:=by
 unfold pauseW;split
 ·rename_i e;have hn: -1≤n∧n≤50:=by
   unfold pauseE at e;split at e
   ·assumption
   ·cases e
  exact⟨g.nw,g.sc,g.fl,g.lp.pause n,g.la,hn,g.n,g.tb,g.q,g.qb,g.f,g.fb,g.cn,g.r⟩
 ·exact g
theorem WI.do (hP:PlOk p ts) (g:WI ts S h k) (x a n:Int):WI ts (doW p ts S x a n) (h+1) (k+1000):=by
 unfold doW;by_cases h1:x=1
 ·rw [if_pos h1];split
  ·rename_i e;have hn:(1≤n∧n≤1000)∧S.now+n≤1099511627776:=by
    unfold tickE at e;split at e
    ·assumption
    ·cases e
   exact(g.ticks hP n.toNat (by omega)).mono (by omega) (by omega)
  ·exact g.more
 rw [if_neg h1];by_cases h2:x=2
 ·rw [if_pos h2];exact(make_inv g a n).mono (Xa _) (by omega)
 rw [if_neg h2];by_cases h3:x=3
 ·rw [if_pos h3];exact(take_inv g a n).more
 rw [if_neg h3];by_cases h4:x=4
 ·rw [if_pos h4];exact(put_inv g n).mono (Xa _) (by omega)
 rw [if_neg h4];by_cases h5:x=5
 ·rw [if_pos h5];exact(g.que (lease_inv g n) g.qb).more
 rw [if_neg h5];by_cases h6:x=6
 ·rw [if_pos h6];exact(g.que (ack_inv g n) g.qb).more
 rw [if_neg h6];by_cases h7:x=7
 ·rw [if_pos h7];exact(fail_inv g a n).more
 rw [if_neg h7];by_cases h8:x=8
 ·rw [if_pos h8];exact(g.ready n 1 (Or.inl rfl)).more
 rw [if_neg h8];by_cases h9:x=9
 ·rw [if_pos h9];unfold readyW;split
  ·exact(g.ready n 2 (Or.inr rfl)).on.more
  ·exact g.more
 rw [if_neg h9];by_cases h10:x=10
 ·rw [if_pos h10];unfold crashW;split
  ·exact(g.crash n).on.more
  ·exact g.more
 rw [if_neg h10];by_cases h11:x=11
 ·rw [if_pos h11];unfold askW;split
  ·exact(g.ask a n).on.more
  ·exact g.more
 rw [if_neg h11];by_cases h12:x=12
 ·rw [if_pos h12];unfold doneW;split
  ·exact(g.done n).on.more
  ·exact g.more
 rw [if_neg h12];by_cases h13:x=13
 ·rw [if_pos h13];exact(pause_inv g n).more
 rw [if_neg h13];exact g.more
theorem WI.new (p:Pd) (ts:List Tr) (n:Nat) (most sec:Int) (hn:1≤n∧n≤20) (hs: -10000000000≤sec∧sec≤10000000000):WI ts (newW p ts n most sec) 0 0:=
 ⟨⟨Xu _,by show(0:Int)≤_;omega⟩,hs,by simp [newW],Lop.LI.new ts _ _,Xu _,by simp [newW,Lop.newL],hn,fun i _=>⟨Xu _,Xu _,Xu _⟩,Que.Inv.nil,⟨Xu _,Xu _⟩,Flt.inv_new most,Xu _,by simp [newW,Flt.cnt],Buf.Inv.nil⟩
end
end Wld
namespace Wld
open Go.RowKit Plain Pln Frm Lpp Crn Lop
variable {w wr:World} {G j tc D A:Nat} {sec most:Int} {tg tp:Value} {CV:Nat→Value} {x:Pl} {ta:Option Addr} {s:Lp} {e:TypeId}

theorem info_tg:(prog.info? 134).map (fun i=>(i.zero,i.size,i.bytes))=some (some (.agg #[.int .i64 0,.bool false]),2,16):=by kernel_rfl
def kj (ts : List Tr) (j i : Nat) : Int := if i < j then (match ts[i]? with
 |some t=>t.k
 |none=>0)else 0
structure TgS (ts:List Tr) (w:World) (G j:Nat) (wr:World):Prop where
 b:Below w.heap.size w wr
 lo:w.heap.size≤G
 lt:G<wr.heap.size
 fz: ∀q,wr.frozen? ⟨G,q,none⟩=false
 c: ∀i,i<ts.length→wr.cell? ⟨G,i*2,none⟩=some (.int .i64 (kj ts j i))∧wr.cell? ⟨G,i*2+1,none⟩=some (.bool false)
theorem TgS.below {ts:List Tr} {wy:World} (h:TgS ts w G j wr) (g:Below wr.heap.size wr wy):TgS ts w G j wy:=
 ⟨h.b.trans (g.mono h.b.size),h.lo,Xb h.lt g.size,fun q=>(g.frozen (p:=⟨G,q,none⟩) h.lt).trans (h.fz q),fun i hi=>⟨(g.cell (p:=⟨G,i*2,none⟩) h.lt).trans (h.c i hi).1,(g.cell (p:=⟨G,i*2+1,none⟩) h.lt).trans (h.c i hi).2⟩⟩
theorem TgS.next {ts:List Tr} {t:Tr} (h:TgS ts w G j wr) (ht:ts[j]? =some t):TgS ts w G (j+1) (wr.setCell ⟨G,j*2,none⟩ (.int .i64 t.k)):=by
 have hj:j<ts.length:=(Xe.1 ht).1;refine⟨h.b.setCell (p:=⟨G,j*2,none⟩) h.lo _,h.lo,by simpa using h.lt,fun q=>by rw [Xi];exact h.fz q,fun i hi=>⟨?_,?_⟩⟩
 ·by_cases e:j=i
  ·subst e;have:kj ts (j+1) j=t.k:=by unfold kj;rw [if_pos (by omega),ht]
   rw [this];exact Xn _ _ _ (h.c j hi).1
  ·have:kj ts (j+1) i=kj ts j i:=by
    unfold kj;by_cases x:i<j
    ·rw [if_pos (by omega),if_pos x]
    ·rw [if_neg (by omega),if_neg x]
   rw [this,Xd (h:=fun e2=>by have:=congrArg Addr.off e2;simp at this;omega)];exact(h.c i hi).1
 ·rw [Xd (h:=fun e2=>by have:=congrArg Addr.off e2;simp at this;omega)];exact(h.c i hi).2
def TgR (ts:List Tr) (w:World) (G:Nat) (i:Value) (wr:World):Prop:= ∃j:Nat,j≤ts.length∧i=.int .i64 j∧TgS ts w G j wr
theorem made_tg (m j:Nat) (h:j<m):(madeCells #[.int .i64 0,.bool false] m).toList[j]? =some (if j%2=0 then .int .i64 0 else .bool false):=by
 have:j%2=0∨j%2=1:=by omega
 rcases this with g|g<;>simp [madeCells,h,g]
theorem trigOf_any (p:Pd) (ta:Option Addr) (tc:Nat) (ts:List Tr) (w:World) (hT:TrsAt w ta ts) (hl5:ts.length≤5):
  Calls prog 13 #[planV p (.slice ta ts.length tc)] w fun e w'=> ∃G,e=.returned (.slice (some ⟨G,0,none⟩) ts.length ts.length)∧w.heap.size≤G∧TrgAt w' G ts (List.replicate ts.length false)∧Below w.heap.size w w':=by
 obtain⟨i0,hi,hz0,hz1,hz2⟩:=info_parts info_tg;obtain⟨W,hW⟩: ∃W,W=w.alloc (.cells (planC p (.slice ta ts.length tc)) 26):=⟨_,rfl⟩
 have hPl:PlAt W w.heap.size p (.slice ta ts.length tc):=by rw [hW];exact plan_new _ _ _ _
 have hbW:Below w.heap.size w W:=by rw [hW];exact(Below.refl _ _).alloc (Xa _) _
 have hzW:w.heap.size<W.heap.size:=by rw [hW];simp
 have HW:=zh hW;have HB:=zh hbW;have HT:=zh hT;have a17:=hPl.c17;clear hW hbW hT hPl;go_enter func13,ntmps13;go_upto_region 1 with fail
 rw [←HW.out];clear HW;generalize hP:w.heap.size=P at*;go_wp2_with(at_make;refine wpList_make_full _ rfl _ _ 47 rfl W.heap.size 134 i0 _ 2 underlying47 hi hz0 hz1 _ _ _ _ ts.length rfl rfl rfl rfl (by rw [hz2];omega) (by unfold maxLen;omega) (Xa _) ?_;intro w1 hown hgrow;have hb1:Below W.heap.size W w1:=(Below.refl _ _).grown hgrow (Xa _) (fun _ h=>by cases h);have a171:=(zk a17 hb1))
 have H0:Hid (TgS ts w W.heap.size 0 w1):=by
  have hb:=HB.out;rw [←hP]at hb;have hlt:W.heap.size<w1.heap.size:=(hown.lt _ rfl).2;refine⟨(zu hb hb1),hb.size,hlt,fun q=>hown.frozenAt q,fun i hi=>⟨?_,?_⟩⟩
  ·exact(hown.cellAt (i*2) (by omega)).trans ((made_tg (ts.length*2) (i*2) (by omega)).trans (by simp [kj]))
  ·exact(hown.cellAt (i*2+1) (by omega)).trans ((made_tg (ts.length*2) (i*2+1) (by omega)).trans (by simp))
 clear hown hgrow hb1;go_loopw [13] (fun i wr=>TgR ts w W.heap.size i wr) (fun i _=>ts.length-(intOf i).toNat)
 case atStart=>exact⟨0,by omega,rfl,H0.out⟩
 case round=>
  obtain⟨j,hj,rfl,hR⟩:=hrel;by_cases hlt:j<ts.length
  ·have hlt':(j:Int)<(ts.length:Int):=by omega
   obtain⟨t,ht⟩: ∃t,ts[j]? =some t:=⟨_,Xz hlt⟩
   obtain⟨tb,toff,rfl,htl,hTr⟩:=TrsAt.elem (HT.out.below hR.b (Xa _)) ht;obtain⟨W1,hW1⟩: ∃W1,W1=wr.alloc (.cells (trC t) 84):=⟨_,rfl⟩
   have hN:TrAt (wr.alloc (.cells (trC t) 84)) wr.heap.size 0 t:=TrAt.new wr t 84;have hT1:TrAt W1 wr.heap.size 0 t:=by rw [hW1];exact hN
   have hb1:Below wr.heap.size wr W1:=by rw [hW1];exact(Below.refl _ _).alloc (Xa _) _
   have hR1:=hR.below hb1;have k0:=hT1.c0;have k1:=(hR1.c j hlt).1;have k2:=hR1.fz (j*2);have HR1:=zh hR1;have HJ:=zh ht;have HW1:=zh hW1;clear hR hR1 hb1 hW1 ht hT1
   go_upto_region 5 with (first
    |(with_reducible refine wp_tr hTr (by with_unfolding_all rfl) ?_)
    |(with_reducible refine wp_newTr hN (by with_unfolding_all rfl) (by with_unfolding_all rfl) ?_))
   rw [←HW1.out];clear HW1 hN hTr;generalize wr.heap.size=C at*;go_wp2;go_roundw
   case rel=>exact⟨j+1,hlt,rfl,HR1.out.next HJ.out⟩
   case measure=>simp [intOf];omega
  ·obtain rfl:j=ts.length:=by omega
   go_wp2;go_ret;refine⟨W.heap.size,rfl,hP▸hR.lo,⟨hR.lt,hR.fz,fun i t ht=> ?_,fun i b hb=> ?_⟩,hP▸hR.b⟩
   ·have hi:i<ts.length:=(Xe.1 ht).1;rw [(hR.c i hi).1];unfold kj;rw [if_pos hi,ht]
   ·have hi:i<ts.length:=by have:=(Xe.1 hb).1;simpa using this
    rw [List.getElem?_replicate,if_pos hi]at hb;cases hb;exact(hR.c i hi).2

def cells (sec:Int) (tg tp:Value) (CV:Nat→Value) (most:Int):List Value:=[.int .i64 0,.int .i64 sec,.int .i64 0,tg]++(List.range 39).map CV++ [tp,.int .i64 0,.slice none 0 0,.int .i64 most,.int .i64 0,.slice none 0 0,.slice none 0 0]
theorem cells_mid (h:j<39):(cells sec tg tp CV most)[4+j]? =some (CV j):=by
 unfold cells;rw [XY (by simp;omega),Yh (by simp),XQ,List.getElem?_range (by simp;omega)];simp
theorem cells_end (j:Nat):(cells sec tg tp CV most)[43+j]? =[tp,.int .i64 0,.slice none 0 0,.int .i64 most,.int .i64 0,.slice none 0 0,.slice none 0 0][j]? :=by
 unfold cells;rw [Yh (by simp)];congr 1;simp
theorem stb_pos {k:Nat} (h:k<15) (hn: ¬Stb.isNum k): ∃i,i<4∧Stb.pos i=k:=by
 unfold Stb.isNum at hn;rcases(by omega:k=9∨k=10∨k=11∨k=13)with rfl|rfl|rfl|rfl
 ·exact⟨0,by decide,rfl⟩
 ·exact⟨1,by decide,rfl⟩
 ·exact⟨2,by decide,rfl⟩
 ·exact⟨3,by decide,rfl⟩
theorem loop_cells {B:Nat} {p:Pd} {ts:List Tr} {st:Stb.St} (h:LAtO 0 w B x p ta tc ts s st) (j:Nat) (hj:j<39): ∃u,w.cell? ⟨x.D,j,none⟩=some u:=by
 by_cases h1:j<18
 ·have hl:j<(pC p (.slice ta ts.length tc)).length:=by simp [pC];omega
  have:=h.cc j _ (Xz hl);rw [Xv]at this;exact⟨_,this⟩
 ·by_cases h2:j<33
  ·have q:=h.so;by_cases h3:Stb.isNum (j-18)
   ·have:=q.num (j-18) h3;rw [show 0+18+(j-18)=j by omega]at this;exact⟨_,this⟩
   ·have: ∃i,i<4∧Stb.pos i=j-18:=stb_pos (by omega) h3;obtain⟨i,hi,e⟩:=this;have:=q.row i hi;rw [e,show 0+18+(j-18)=j by omega]at this;exact⟨_,this⟩
  ·obtain⟨z,hz,_⟩:=h.c8;rcases(by omega:j=33∨j=34∨j=35∨j=36∨j=37∨j=38)with rfl|rfl|rfl|rfl|rfl|rfl
   ·exact⟨_,h.cf⟩
   ·exact⟨_,h.c4⟩
   ·exact⟨_,h.c5⟩
   ·exact⟨_,h.c6⟩
   ·exact⟨_,h.c7⟩
   ·exact⟨_,hz⟩
theorem range39 (h: ∀j,j<39→w.cell? ⟨D,j,none⟩=some (CV j)):w.rangeAt D 0 [CV 0,CV 1,CV 2,CV 3,CV 4,CV 5,CV 6,CV 7,CV 8,CV 9,CV 10,CV 11,CV 12,CV 13,CV 14,CV 15,CV 16,CV 17,CV 18,CV 19,CV 20,CV 21,CV 22,CV 23,CV 24,CV 25,CV 26,CV 27,CV 28,CV 29,CV 30,CV 31,CV 32,CV 33,CV 34,CV 35,CV 36,CV 37,CV 38]:=by
 intro j v hv;have hj:j<39:=by have:=(Xe.1 hv).1;simpa using this
 have e:([CV 0,CV 1,CV 2,CV 3,CV 4,CV 5,CV 6,CV 7,CV 8,CV 9,CV 10,CV 11,CV 12,CV 13,CV 14,CV 15,CV 16,CV 17,CV 18,CV 19,CV 20,CV 21,CV 22,CV 23,CV 24,CV 25,CV 26,CV 27,CV 28,CV 29,CV 30,CV 31,CV 32,CV 33,CV 34,CV 35,CV 36,CV 37,CV 38]:List Value)=(List.range 39).map CV:=rfl;rw [e,XQ,List.getElem?_range hj]at hv;simp at hv;subst hv;rw [Xv];exact h j hj
theorem new_at {w9:World} {Tg n N1 N2:Nat} {vF:Value} {R:Nat→Option Value} {tb:Option Addr} {tcb:Nat} {p:Pd} {ts:List Tr} {A:Array Value} (hb:Below w.heap.size w w9) (hBd:Lai.BdsAt w)
  (hl:LAtO 0 w9 w.heap.size ⟨D,vF,Stb.nilV,R⟩ (noN p) tb tcb ts (newL ts.length) (Stb.new (nU p) (nD p))) (hcv: ∀j,j<39→w9.cell? ⟨D,j,none⟩=some (CV j)) (htb: ∀b off,0<ts.length→tb=some ⟨b,off,none⟩→w.heap.size≤b)
  (h1: ∀k,(vF.ownBlock=some k∨ ∃off,0<ts.length∧tb=some ⟨k,off,none⟩)→k<N1) (hN:w.heap.size≤N1) (hR:Top.Row2 w9 G n (fun _=>0) (fun _=>0)) (hG:N1≤G) (hG2:G<N2) (hT:TrgAt w9 Tg ts (List.replicate ts.length false)) (hTg:N2≤Tg)
  (hA:A=(cells sec (.slice (some ⟨Tg,0,none⟩) ts.length ts.length) (.slice (some ⟨G,0,none⟩) n n) CV (Flt.mostN most)).toArray):
  ∃c:Pc,c.x.D=w9.heap.size∧WAt (w9.alloc (.cells A e)) w.heap.size c (noN p) ts (newW (noN p) ts n most sec)∧Below w.heap.size w (w9.alloc (.cells A e)):=by
 have hbA:Below w9.heap.size w9 (w9.alloc (.cells A e)):=(Below.refl _ _).alloc (Xa _) _;have hc: ∀j v,A[j]? =some v→(w9.alloc (.cells A e)).cell? ⟨w9.heap.size,j,none⟩=some v:=fun j v h=>by simpa using h
 have hz:(w9.alloc (.cells A e)).heap.size=w9.heap.size+1:=by simp
 have hf: ∀j,(w9.alloc (.cells A e)).frozen? ⟨w9.heap.size,j,none⟩=false:=fun j=>by simp
 have hal: ∀k,k<w9.heap.size→(w9.alloc (.cells A e)).heap[k]? =w9.heap[k]? :=fun k hk=>hbA.block k hk;have hle:w.heap.size≤w9.heap.size:=hb.size;have hGl:=hR.1;have hTl:=hT.lt;subst hA;have hm: ∀j,j<39→(w9.alloc (.cells (cells sec (.slice (some ⟨Tg,0,none⟩) ts.length ts.length) (.slice (some ⟨G,0,none⟩) n n) CV (Flt.mostN most)).toArray e)).cell? ⟨w9.heap.size,4+j,none⟩=w9.cell? ⟨D,0+j,none⟩:=fun j hj=>by
  rw [Xv,hcv j hj];exact hc _ _ (by rw [List.getElem?_toArray];exact cells_mid hj)
 have he: ∀j v,[.slice (some ⟨G,0,none⟩) n n,.int .i64 0,.slice none 0 0,.int .i64 (Flt.mostN most),.int .i64 0,.slice none 0 0,.slice none 0 0][j]? =some v→(w9.alloc (.cells (cells sec (.slice (some ⟨Tg,0,none⟩) ts.length ts.length) (.slice (some ⟨G,0,none⟩) n n) CV (Flt.mostN most)).toArray e)).cell? ⟨w9.heap.size,43+j,none⟩=some v:=fun j v h=>hc _ _ (by rw [List.getElem?_toArray,cells_end];exact h);generalize w9.alloc (.cells (cells sec (.slice (some ⟨Tg,0,none⟩) ts.length ts.length) (.slice (some ⟨G,0,none⟩) n n) CV (Flt.mostN most)).toArray e)=W at*
 have hlW := Lop.LAtO.moved (P := 4) (E := w9.heap.size) (R' := fun j => W.cell? ⟨w9.heap.size, j, none⟩) hl (by omega) hle hf hm (fun k _ ho => by
  have hk:k<w9.heap.size:=by
   rcases ho with a|⟨off,hp,e⟩
   ·exact(hl.blt a).2
   ·exact hl.tlt hp e
  exact⟨by omega,hal k hk⟩) hbA.size (fun j _=>rfl)
 refine⟨⟨⟨w9.heap.size,vF,Stb.nilV,fun j=>W.cell? ⟨w9.heap.size,j,none⟩⟩,tb,tcb,Tg,G,.slice none 0 0,.slice none 0 0,.slice none 0 0⟩,rfl,⟨hlW,hc 0 _ rfl,hc 1 _ rfl,hc 2 _ rfl,hc 3 _ rfl,hT.kept (hal _ hTl) hbA.size,⟨by show w9.heap.size≠G;omega,by show w9.heap.size<_;omega,he 0 _ rfl,hR.kept (hal _ hGl)⟩,⟨by show w9.heap.size<_;omega,hle,he 1 _ rfl,he 2 _ rfl,hf,XO _ _ _ _,by simp [Value.ownBlock]⟩,⟨by show w9.heap.size<_;omega,hle,fun j u hu=> ?_,rfl,hf,XO _ _ _ _,by simp [Value.ownBlock]⟩,⟨by show w9.heap.size<_;omega,hle,fun j u hu=> ?_,rfl,hf,XO _ _ _ _,by simp [Value.ownBlock]⟩,⟨fun i k hi hk=> ?_,fun i j k hi hj hne hk hn=> ?_⟩,⟨w,hBd,Xa _,hb.trans (hbA.mono hle)⟩⟩,hb.trans (hbA.mono hle)⟩
 ·match j,hu with
  |0,hu=>simp at hu;subst hu;exact he 3 _ rfl
  |1,hu=>simp [newW]at hu;subst hu;exact he 4 _ rfl
  |2,hu=>simp at hu;subst hu;exact he 5 _ rfl
  |j+3,hu=>simp at hu
 ·match j,hu with
  |0,hu=>simp at hu;subst hu;exact he 6 _ rfl
  |j+1,hu=>simp at hu
 ·have p1: ∀k,part ⟨⟨w9.heap.size,vF,Stb.nilV,fun j=>W.cell? ⟨w9.heap.size,j,none⟩⟩,tb,tcb,Tg,G,.slice none 0 0,.slice none 0 0,.slice none 0 0⟩ ts 1 k→w.heap.size≤k∧k<w9.heap.size:=fun k hk=>by
   rcases hk with⟨a,b⟩|⟨off,hp,e⟩
   ·rcases a with a|a|⟨i,_,a⟩
    ·exact hl.blt (Or.inl a)
    ·exact absurd a b
    ·simp [Stb.nilV,Value.ownBlock]at a
   ·exact⟨htb k off hp e,hl.tlt hp e⟩
  rcases i with _|_|_|_|_|_|i
  ·cases hk;exact⟨by show w.heap.size≤Tg;omega,by show Tg<_;omega,by show Tg≠w9.heap.size;omega⟩
  ·have:=p1 k hk;exact⟨this.1,by omega,by show k≠w9.heap.size;omega⟩
  ·cases hk;exact⟨by show w.heap.size≤G;omega,by show G<_;omega,by show G≠w9.heap.size;omega⟩
  ·simp [part,Value.ownBlock]at hk
  ·simp [part,Value.ownBlock]at hk
  ·simp [part,Value.ownBlock]at hk
  ·omega
 ·have p1: ∀k,part ⟨⟨w9.heap.size,vF,Stb.nilV,fun j=>W.cell? ⟨w9.heap.size,j,none⟩⟩,tb,tcb,Tg,G,.slice none 0 0,.slice none 0 0,.slice none 0 0⟩ ts 1 k→k<N1:=fun k hk=>by
   rcases hk with⟨a,b⟩|hk
   ·rcases a with a|a|⟨i,_,a⟩
    ·exact h1 k (Or.inl a)
    ·exact absurd a b
    ·simp [Stb.nilV,Value.ownBlock]at a
   ·exact h1 k (Or.inr hk)
  have pr: ∀i,i<6→part ⟨⟨w9.heap.size,vF,Stb.nilV,fun j=>W.cell? ⟨w9.heap.size,j,none⟩⟩,tb,tcb,Tg,G,.slice none 0 0,.slice none 0 0,.slice none 0 0⟩ ts i k→(i=0∧k=Tg)∨(i=1∧k<N1)∨(i=2∧k=G):=fun i hi hk=>by
   rcases i with _|_|_|_|_|_|i
   ·exact Or.inl ⟨rfl,hk⟩
   ·exact Or.inr (Or.inl ⟨rfl,p1 k hk⟩)
   ·exact Or.inr (Or.inr ⟨rfl,hk⟩)
   ·simp [part,Value.ownBlock]at hk
   ·simp [part,Value.ownBlock]at hk
   ·simp [part,Value.ownBlock]at hk
   ·omega
  have q1:=pr i hi hk;have q2:=pr j hj hn;omega

theorem rows_low {B:Nat} {s n:Nat} {v:Value} {xs:List Value} (h:w.ownsRow B e s v n xs) (hAB:A≤B):w.ownsRow A e s v n xs:=by
 refine⟨h.1,?_⟩;rcases h.2 with a|⟨g,cap,cur,rfl,h1,h2⟩
 ·exact Or.inl a
 ·exact Or.inr ⟨g,cap,cur,rfl,Xc hAB h1,h2⟩
theorem loop_low {O:Nat} {B:Nat} {p:Pd} {ts:List Tr} {u d:Stb.Pc} (h:LAtO O w B x p ta tc ts s (Stb.new u d)) (hV:x.V=Stb.nilV) (hAB:A≤B):LAtO O w A x p ta tc ts s (Stb.new u d):=by
 have q:=h.so;refine⟨h.cc,h.cf,h.c4,h.c5,h.c6,h.c7,h.c8,rows_low h.own hAB,⟨q.lt,Xc hAB q.bQ,q.fz,q.num,q.row,fun i hi=> ?_,q.ne,q.ap⟩,h.aF,h.t,h.tb,h.rest⟩;have:Stb.rws (Stb.new u d) i=[]:=by rcases(by omega:i=0∨i=1∨i=2∨i=3)with rfl|rfl|rfl|rfl<;>rfl
 rw [this,hV];exact Rw.Own.nil _ _ _ _
theorem keepN {w':World} {P T n:Nat} {p:Pd} {ts:List Tr} (h:PlAt w P p (.slice ta ts.length tc)∧(∀j,j<39→w.cell? ⟨D,j,none⟩=some (CV j))∧w.cell? ⟨T,0,none⟩=some (.slice (some ⟨G,0,none⟩) n n)) (hb:Below w.heap.size w w'):
  PlAt w' P p (.slice ta ts.length tc)∧(∀j,j<39→w'.cell? ⟨D,j,none⟩=some (CV j))∧w'.cell? ⟨T,0,none⟩=some (.slice (some ⟨G,0,none⟩) n n):=
 ⟨h.1.on hb (Xj w _ h.1.c0),fun j hj=>Tk.kc (h.2.1 j hj) hb,Tk.kc h.2.2 hb⟩
def NewWA (p:Pd) (ts:List Tr) (n:Nat) (most sec:Int) (w:World) (e:Ending) (w':World):Prop:=
 ∃c:Pc,e=.returned (.tuple #[.pointer (some ⟨c.x.D,0,none⟩),.int .i64 0])∧WAt w' w.heap.size c (noN p) ts (newW (noN p) ts n most sec)∧Below w.heap.size w w'
theorem new_yes (p:Pd) (ta:Option Addr) (tc:Nat) (ts:List Tr) (n:Nat) (most sec:Int) (w:World) (hB:Lai.BdsAt w) (hi:PdI p) (hl:p.nm.length≤9223372036854775807) (hT:TrsAt w ta ts) (hc:chkP p ts=0) (hn:1≤n∧n≤20) (hs: -10000000000≤sec∧sec≤10000000000):
  Calls prog 4 #[planV p (.slice ta ts.length tc),.int .i64 (n:Int),.int .i64 most,.int .i64 sec] w (NewWA p ts n most sec w):=by
 have hl5:=(plOk_of hc).len;obtain⟨W,hW⟩: ∃W,W=w.alloc (.cells (planC p (.slice ta ts.length tc)) 26):=⟨_,rfl⟩
 have hPl:PlAt W w.heap.size p (.slice ta ts.length tc):=by rw [hW];exact plan_new _ _ _ _
 have hbW:Below w.heap.size w W:=by rw [hW];exact(Below.refl _ _).alloc (Xa _) _
 have hzW:w.heap.size<W.heap.size:=by rw [hW];simp
 have HW:=zh hW;have HBd:=zh hB;have HT:=zh hT;have HB:=zh hbW;have cL:=lnew_yes p ta tc ts W (hB.below hbW (Xa _)) hi hl (hT.below hbW (Xa _)) hc;have cT:=fun w=>Top.new_yes n w hn.1 hn.2;have s1: ¬sec< -10000000000:=by omega
 have s2: ¬10000000000<sec:=by omega
 clear hW hbW hB hi hl hT hc hn hs;go_enter func4,ntmps4;go_upto_region 1 with fail
 rw [←HW.out];clear HW
 go_upto_region 9 with (first
  |(with_reducible refine wp_plan hPl (by with_unfolding_all rfl) ?_)
  |(go_at_call 11;(with_reducible refine cL.mono ?_);rintro e w1 ⟨D,vF,R,tb,tcb,rfl,hl1,hb1,htb⟩;clear cL)
  |(go_at_call 12;(with_reducible refine(cT _).mono ?_);rintro e w2 ⟨T,G,rfl,hT2,hG2,⟨hTG,hTl,hTc,hR2⟩,hb2⟩;clear cT))
 have hL2:LAtO 0 w2.drew W.heap.size ⟨D,vF,Stb.nilV,R⟩ (noN p) tb tcb ts (newL ts.length) (Stb.new (nU p) (nD p)):=(hl1.below hb2).drew
 obtain ⟨CV, hCV⟩ : ∃ CV : Nat → Value, ∀ j, j < 39 → w2.drew.cell? ⟨D, j, none⟩ = some (CV j) := ⟨fun j => (w2.drew.cell? ⟨D, j, none⟩).getD (.int .i64 0), fun j hj => by
  obtain⟨u,hu⟩:=loop_cells hL2 j hj;show _=some ((w2.drew.cell? ⟨D,j,none⟩).getD _);rw [show w2.drew.cell? ⟨D,j,none⟩=some u from hu];rfl⟩
 have ltP2:w.heap.size<w2.drew.heap.size:=Xb hzW (Xc hb1.size hb2.size);have ltD2:D<w2.drew.heap.size:=hL2.lt;have ltT2:T<w2.drew.heap.size:=hTl;have hs2:PlAt w2.drew w.heap.size p (.slice ta ts.length tc)∧(∀j,j<39→w2.drew.cell? ⟨D,j,none⟩=some (CV j))∧w2.drew.cell? ⟨T,0,none⟩=some (.slice (some ⟨G,0,none⟩) n n):=⟨plan_drew ((hPl.on hb1 hzW).on hb2 (Xb hzW hb1.size)),hCV,hTc⟩
 have hb12:Below W.heap.size W w2.drew:=(zu hb1 hb2).drew;have hbw2:Below w.heap.size w w2.drew:=(zu HB.out hb12)
 have cG:=trigOf_any p ta tc ts w2.drew (HT.out.below hbw2 (Xa _)) hl5
 have HF : Hid (∀ {w3 w4 w5 : World} (w6 : World) (A : Array Value) (e : TypeId) {Tg : Nat}, Below w2.drew.heap.size w2.drew w3 → Below w3.heap.size w3 w4 → Below w4.heap.size w4 w5 → Below w5.heap.size w5 w6 → TrgAt w3 Tg ts (List.replicate ts.length false) → w2.drew.heap.size ≤ Tg →
   A=(cells sec (.slice (some ⟨Tg,0,none⟩) ts.length ts.length) (.slice (some ⟨G,0,none⟩) n n) CV (Flt.mostN most)).toArray→NewWA p ts n most sec w (.returned (.tuple #[.pointer (some ⟨w6.heap.size,0,none⟩),.int .i64 0])) (w6.alloc (.cells A e))):=fun {w3 w4 w5} w6 A e {Tg} k3 k4 k5 k6 kT kg hA=>by
  have kb:Below w3.heap.size w3 w6:=(zu k4 k5).trans (k6.mono (Xc k4.size k5.size));have ka:Below w2.drew.heap.size w2.drew w6:=(zu k3 kb)
  have hla:=loop_low (hL2.below ka) rfl HB.out.size;have hbx:Below w.heap.size w w6:=(zu hbw2 ka)
  have hR6:Top.Row2 w6 G n (fun _=>0) (fun _=>0):=hR2.drew.below ka hR2.1
  obtain⟨c,hc,hWA,hbe⟩:=new_at (w:=w) (w9:=w6) (D:=D) (G:=G) (Tg:=Tg) (n:=n) (N1:=w1.heap.size) (N2:=w2.drew.heap.size) (A:=A) (e:=e) (most:=most) (sec:=sec) hbx HBd.out hla (fun j hj=>(ka.cell (p:=⟨D,j,none⟩) ltD2).trans (hCV j hj)) (fun b off hp e=>Xc HB.out.size (htb b off hp e))
   (fun k hk => by
    rcases hk with a|⟨off,hp,e⟩
    ·exact(hl1.blt (Or.inl a)).2
    ·exact hl1.tlt hp e) (Xc HB.out.size hb1.size) hR6 hG2 hR2.1 (kT.kept (kb.block Tg kT.lt) kb.size) kg hA
  exact⟨c,by rw [hc],hWA,hbe⟩
 clear hL2 hl1 hb1 hb2 htb hT2 hG2 hTG hTl hR2 hPl HBd HT HB hb12 hbw2 hTc hCV hzW s1 s2;refine wp_region_held_drew (S:=fun w'=>PlAt w' w.heap.size p (.slice ta ts.length tc)∧(∀j,j<39→w'.cell? ⟨D,j,none⟩=some (CV j))∧w'.cell? ⟨T,0,none⟩=some (.slice (some ⟨G,0,none⟩) n n)) (by kernel_rfl) (hs2) (fun hHeld=> ?_);refine Tk.gi 0 ?_;(try simp only [Act.put,ar,ag]);refine Tk.gi 3 ?_;(try simp only [Act.put,ar,ag]);refine Tk.gi 4 ?_;(try simp only [Act.put,ar,ag]);refine Tk.gi 6 ?_;(try simp only [Act.put,ar,ag]);refine Tk.gi 7 ?_;(try simp only [Act.put,ar,ag]);refine Tk.gi 12 ?_;(try simp only [Act.put,ar,ag]);refine Tk.gi 1 (v:=planV p (.slice ta ts.length tc)) ?_ (hy:=yieldsIf_load_mid (by rfl) 26 (.tmp 4) rfl w.heap.size 0 (by with_unfolding_all rfl) [.string ⟨p.nm.toArray⟩,.int .i64 p.mn,.int .i64 p.mx,.int .i64 p.po,.int .i64 p.co,.int .i64 p.tl,.int .i64 p.bk,.int .i64 p.af,.int .i64 p.sh,.int .i64 p.uw,.int .i64 p.up,.int .i64 p.uc,.int .i64 p.ue,.int .i64 p.dw,.int .i64 p.dp,.int .i64 p.dc,.int .i64 p.de,.slice ta ts.length tc] _ (fun W h=>range_plan h.1) underlying26 rfl (by kernel_rfl));(try simp only [Act.put,ar,ag]);refine Tk.gi 5 (v:=.agg #[CV 0,CV 1,CV 2,CV 3,CV 4,CV 5,CV 6,CV 7,CV 8,CV 9,CV 10,CV 11,CV 12,CV 13,CV 14,CV 15,CV 16,CV 17,CV 18,CV 19,CV 20,CV 21,CV 22,CV 23,CV 24,CV 25,CV 26,CV 27,CV 28,CV 29,CV 30,CV 31,CV 32,CV 33,CV 34,CV 35,CV 36,CV 37,CV 38]) ?_ (hy:=yieldsIf_load_mid (by rfl) 56 (.tmp 39) rfl D 0 (by with_unfolding_all rfl) [CV 0,CV 1,CV 2,CV 3,CV 4,CV 5,CV 6,CV 7,CV 8,CV 9,CV 10,CV 11,CV 12,CV 13,CV 14,CV 15,CV 16,CV 17,CV 18,CV 19,CV 20,CV 21,CV 22,CV 23,CV 24,CV 25,CV 26,CV 27,CV 28,CV 29,CV 30,CV 31,CV 32,CV 33,CV 34,CV 35,CV 36,CV 37,CV 38] _ (fun W h=>range39 h.2.1) underlying56 rfl (by kernel_rfl));(try simp only [Act.put,ar,ag]);refine Tk.gi 8 ?_;(try simp only [Act.put,ar,ag]);refine Tk.r1 2 fun K hK=> ?_;go_simp;go_wp2_with(go_at_call 13;(with_reducible refine(cG).mono ?_);rintro e w3 ⟨Tg,rfl,hTg3,hTr3,hb3⟩;have hs3:=keepN hs2 hb3)
 refine hK.out _ _ hs3 (fun hHeld=> ?_);clear hK K;(try simp only [ar]);clear cG;refine Tk.r1 9 fun K hK=> ?_;go_simp;go_wp2_with(go_at_call 14;(with_reducible refine(Que.new_any w3).mono ?_);rintro e w4 ⟨rfl,hq4,hb4⟩;have hs4:=keepN hs3 hb4;have qN4:=hq4.cN;have qS4:=hq4.cS;clear hq4)
 refine hK.out _ _ hs4 (fun hHeld=> ?_);clear hK K;(try simp only [ar]);refine Tk.gi 10 ?_;(try simp only [Act.put,ar,ag]);have x4:(PlAt w4 w.heap.size p (.slice ta ts.length tc)∧(∀j,j<39→w4.cell? ⟨D,j,none⟩=some (CV j))∧w4.cell? ⟨T,0,none⟩=some (.slice (some ⟨G,0,none⟩) n n))∧w4.cell? ⟨w3.heap.size,0,none⟩=some (.int .i64 0)∧w4.cell? ⟨w3.heap.size,1,none⟩=some (.slice none 0 0):=⟨hs4,qN4,qS4⟩
 refine Tk.up (S':=fun w'=>(PlAt w' w.heap.size p (.slice ta ts.length tc)∧(∀j,j<39→w'.cell? ⟨D,j,none⟩=some (CV j))∧w'.cell? ⟨T,0,none⟩=some (.slice (some ⟨G,0,none⟩) n n))∧w'.cell? ⟨w3.heap.size,0,none⟩=some (.int .i64 0)∧w'.cell? ⟨w3.heap.size,1,none⟩=some (.slice none 0 0)) (fun _ h=>h.1) ?_;refine Tk.gi 11 ?_;(try simp only [Act.put,ar,ag]);refine Tk.r1 13 fun K hK=> ?_;go_simp;go_wp2_with(go_at_call 15;(with_reducible refine(Flt.new_any most w4).mono ?_);rintro e w5 ⟨rfl,hf5,hb5⟩;have hs5:(PlAt w5 w.heap.size p (.slice ta ts.length tc)∧(∀j,j<39→w5.cell? ⟨D,j,none⟩=some (CV j))∧w5.cell? ⟨T,0,none⟩=some (.slice (some ⟨G,0,none⟩) n n))∧w5.cell? ⟨w3.heap.size,0,none⟩=some (.int .i64 0)∧w5.cell? ⟨w3.heap.size,1,none⟩=some (.slice none 0 0):=⟨keepN hs4 hb5,Tk.kc qN4 hb5,Tk.kc qS4 hb5⟩;have fM5:=hf5.cQ 0 _ rfl;have fL5:=hf5.cQ 1 _ rfl;have fV5:=hf5.cQ 2 _ rfl;simp only [Xv]at fM5 fL5 fV5;clear hf5)
 refine hK.out _ _ hs5 (fun hHeld=> ?_);clear hK K;(try simp only [ar]);clear x4;refine Tk.gi 14 ?_;(try simp only [Act.put,ar,ag]);have x5:((PlAt w5 w.heap.size p (.slice ta ts.length tc)∧(∀j,j<39→w5.cell? ⟨D,j,none⟩=some (CV j))∧w5.cell? ⟨T,0,none⟩=some (.slice (some ⟨G,0,none⟩) n n))∧w5.cell? ⟨w3.heap.size,0,none⟩=some (.int .i64 0)∧w5.cell? ⟨w3.heap.size,1,none⟩=some (.slice none 0 0))∧w5.cell? ⟨w4.heap.size,0,none⟩=some (.int .i64 (Flt.mostN most))∧w5.cell? ⟨w4.heap.size,1,none⟩=some (.int .i64 0)∧w5.cell? ⟨w4.heap.size,2,none⟩=some (.slice none 0 0):=⟨hs5,fM5,fL5,fV5⟩
 refine Tk.up (S':=fun w'=>((PlAt w' w.heap.size p (.slice ta ts.length tc)∧(∀j,j<39→w'.cell? ⟨D,j,none⟩=some (CV j))∧w'.cell? ⟨T,0,none⟩=some (.slice (some ⟨G,0,none⟩) n n))∧w'.cell? ⟨w3.heap.size,0,none⟩=some (.int .i64 0)∧w'.cell? ⟨w3.heap.size,1,none⟩=some (.slice none 0 0))∧w'.cell? ⟨w4.heap.size,0,none⟩=some (.int .i64 (Flt.mostN most))∧w'.cell? ⟨w4.heap.size,1,none⟩=some (.int .i64 0)∧w'.cell? ⟨w4.heap.size,2,none⟩=some (.slice none 0 0)) (fun _ h=>h.1) ?_;refine Tk.gi 15 ?_;(try simp only [Act.put,ar,ag]);refine Tk.r1 16 fun K hK=> ?_;go_simp;go_wp2_with(go_at_call 16;(with_reducible refine(Buf.new_any w5).mono ?_);rintro e w6 ⟨rfl,hf6,hb6⟩;have hs6:((PlAt w6 w.heap.size p (.slice ta ts.length tc)∧(∀j,j<39→w6.cell? ⟨D,j,none⟩=some (CV j))∧w6.cell? ⟨T,0,none⟩=some (.slice (some ⟨G,0,none⟩) n n))∧w6.cell? ⟨w3.heap.size,0,none⟩=some (.int .i64 0)∧w6.cell? ⟨w3.heap.size,1,none⟩=some (.slice none 0 0))∧w6.cell? ⟨w4.heap.size,0,none⟩=some (.int .i64 (Flt.mostN most))∧w6.cell? ⟨w4.heap.size,1,none⟩=some (.int .i64 0)∧w6.cell? ⟨w4.heap.size,2,none⟩=some (.slice none 0 0):=⟨⟨keepN hs5.1 hb6,Tk.kc hs5.2.1 hb6,Tk.kc hs5.2.2 hb6⟩,Tk.kc fM5 hb6,Tk.kc fL5 hb6,Tk.kc fV5 hb6⟩;have bV6:=hf6.cQ 0 _ rfl;simp only [Xv]at bV6;clear hf6)
 refine hK.out _ _ hs6 (fun hHeld=> ?_);clear hK K;(try simp only [ar]);clear x5;refine Tk.gi 17 ?_;(try simp only [Act.put,ar,ag]);have x6:(((PlAt w6 w.heap.size p (.slice ta ts.length tc)∧(∀j,j<39→w6.cell? ⟨D,j,none⟩=some (CV j))∧w6.cell? ⟨T,0,none⟩=some (.slice (some ⟨G,0,none⟩) n n))∧w6.cell? ⟨w3.heap.size,0,none⟩=some (.int .i64 0)∧w6.cell? ⟨w3.heap.size,1,none⟩=some (.slice none 0 0))∧w6.cell? ⟨w4.heap.size,0,none⟩=some (.int .i64 (Flt.mostN most))∧w6.cell? ⟨w4.heap.size,1,none⟩=some (.int .i64 0)∧w6.cell? ⟨w4.heap.size,2,none⟩=some (.slice none 0 0))∧w6.cell? ⟨w5.heap.size,0,none⟩=some (.slice none 0 0):=⟨hs6,bV6⟩
 refine Tk.up (S':=fun w'=>(((PlAt w' w.heap.size p (.slice ta ts.length tc)∧(∀j,j<39→w'.cell? ⟨D,j,none⟩=some (CV j))∧w'.cell? ⟨T,0,none⟩=some (.slice (some ⟨G,0,none⟩) n n))∧w'.cell? ⟨w3.heap.size,0,none⟩=some (.int .i64 0)∧w'.cell? ⟨w3.heap.size,1,none⟩=some (.slice none 0 0))∧w'.cell? ⟨w4.heap.size,0,none⟩=some (.int .i64 (Flt.mostN most))∧w'.cell? ⟨w4.heap.size,1,none⟩=some (.int .i64 0)∧w'.cell? ⟨w4.heap.size,2,none⟩=some (.slice none 0 0))∧w'.cell? ⟨w5.heap.size,0,none⟩=some (.slice none 0 0)) (fun _ h=>h.1) ?_;refine Tk.gi 18 ?_;(try simp only [Act.put,ar,ag]);refine Tk.gi 19 ?_;(try simp only [Act.put,ar,ag]);refine Tk.r1 20 fun K hK=> ?_;go_simp;have kb:=fun o=>(Below.refl w6.heap.size w6).alloc (Xa _) o;refine hK.out _ _ ⟨⟨⟨keepN hs6.1.1 (kb _),Tk.kc hs6.1.2.1 (kb _),Tk.kc hs6.1.2.2 (kb _)⟩,Tk.kc hs6.2.1 (kb _),Tk.kc hs6.2.2.1 (kb _),Tk.kc hs6.2.2.2 (kb _)⟩,Tk.kc bV6 (kb _)⟩ (fun hHeld=> ?_);clear hK K;(try simp only [ar]);refine Tk.gi 21 ?_;(try simp only [Act.put,ar,ag]);refine Tk.gi 22 ?_;(try simp only [Act.put,ar,ag]);refine wpAnyH_done (by kernel_rfl) ?_ _;(try go_wp2);go_ret2;exact HF.out w6 _ _ hb3 hb4 hb5 hb6 hTr3 hTg3 rfl

def newE (p:Pd) (ts:List Tr) (parts sec:Int):Int:=if chkP p ts≠0 then chkP p ts else if(1≤parts∧parts≤20)∧(-10000000000≤sec∧sec≤10000000000)then 0 else 1
theorem new_no (p:Pd) (ta:Option Addr) (tc:Nat) (ts:List Tr) (parts most sec:Int) (w:World) (hB:Lai.BdsAt w) (hi:PdI p) (hl:p.nm.length≤9223372036854775807) (hT:TrsAt w ta ts) (hc:newE p ts parts sec≠0):
  CB 4 #[planV p (.slice ta ts.length tc),.int .i64 parts,.int .i64 most,.int .i64 sec] w (.tuple #[.pointer none,.int .i64 (newE p ts parts sec)]):=by
 obtain⟨W,hW⟩: ∃W,W=w.alloc (.cells (planC p (.slice ta ts.length tc)) 26):=⟨_,rfl⟩
 have hPl:PlAt W w.heap.size p (.slice ta ts.length tc):=by rw [hW];exact plan_new _ _ _ _
 have hbW:Below w.heap.size w W:=by rw [hW];exact(Below.refl _ _).alloc (Xa _) _
 have HW:=zh hW;have HB:=zh hbW;by_cases h1:chkP p ts=0
 ·have cL:=lnew_yes p ta tc ts W (hB.below hbW (Xa _)) hi hl (hT.below hbW (Xa _)) h1;have hno: ¬((1≤parts∧parts≤20)∧(-10000000000≤sec∧sec≤10000000000)):=fun e=>hc (by unfold newE;rw [if_neg (by simpa using h1),if_pos e]);have e1:newE p ts parts sec=1:=by unfold newE;rw [if_neg (by simpa using h1),if_neg hno]
  rw [e1];clear hW hbW hB hi hl hT hc e1;by_cases h2:1≤parts∧parts≤20
  ·obtain⟨n,rfl⟩: ∃n:Nat,parts=(n:Int):=⟨parts.toNat,by omega⟩
   have cT:=fun w=>Top.new_yes n w (by omega) (by omega);by_cases h3:sec< -10000000000
   ·clear hno h2;go_enter func4,ntmps4;go_upto_region 1 with fail
    rw [←HW.out];clear HW
    go_wp2_with (first
     |(with_reducible refine wp_plan hPl (by with_unfolding_all rfl) ?_)
     |(go_at_call 11;(with_reducible refine cL.mono ?_);rintro e w1 ⟨D,vF,R,tb,tcb,rfl,hl1,hb1,htb⟩;clear cL hl1 htb)
     |(go_at_call 12;(with_reducible refine(cT _).mono ?_);rintro e w2 ⟨T,G,rfl,hT2,hG2,hX2,hb2⟩;clear cT hX2))
    go_ret2;exact⟨rfl,HB.out.trans ((zu hb1 hb2).mono HB.out.size)⟩
   ·have h4:10000000000<sec:=(by omega);clear hno h2;go_enter func4,ntmps4;go_upto_region 1 with fail
    rw [←HW.out];clear HW
    go_wp2_with (first
     |(with_reducible refine wp_plan hPl (by with_unfolding_all rfl) ?_)
     |(go_at_call 11;(with_reducible refine cL.mono ?_);rintro e w1 ⟨D,vF,R,tb,tcb,rfl,hl1,hb1,htb⟩;clear cL hl1 htb)
     |(go_at_call 12;(with_reducible refine(cT _).mono ?_);rintro e w2 ⟨T,G,rfl,hT2,hG2,hX2,hb2⟩;clear cT hX2))
    go_ret2;exact⟨rfl,HB.out.trans ((zu hb1 hb2).mono HB.out.size)⟩
  ·have cT:=fun w=>Top.new_no parts w h2;clear hno h2;go_enter func4,ntmps4;go_upto_region 1 with fail
   rw [←HW.out];clear HW
   go_wp2_with (first
    |(with_reducible refine wp_plan hPl (by with_unfolding_all rfl) ?_)
    |(go_at_call 11;(with_reducible refine cL.mono ?_);rintro e w1 ⟨D,vF,R,tb,tcb,rfl,hl1,hb1,htb⟩;clear cL hl1 htb)
    |(go_at_call 12;(with_reducible refine zq (cT _) ?_)))
   go_ret2;exact⟨rfl,(zu HB.out hb1)⟩
 ·have cL:=lnew_no p ta tc ts W (hB.below hbW (Xa _)) hi hl (hT.below hbW (Xa _)) h1;have e1:newE p ts parts sec=chkP p ts:=by unfold newE;rw [if_pos h1]
  have dne:(chkP p ts !=0)=true:=by rw [bne_iff_ne];exact h1
  rw [e1];clear hW hbW hB hi hl hT hc e1 h1;generalize chkP p ts=E at*;go_enter func4,ntmps4;go_upto_region 1 with fail
  rw [←HW.out];clear HW
  go_wp2_with (first
   |(with_reducible refine wp_plan hPl (by with_unfolding_all rfl) ?_)
   |(go_at_call 11;(with_reducible refine zg cL fun w1 hb1=>?_);clear cL))
  go_ret2;exact⟨rfl,(zu HB.out hb1)⟩
section
variable (B : Nat) (c : Pc) (p : Pd) (ts : List Tr) (S : WS) (h k : Nat)
theorem now_any (w:World) (hA:WAt w B c p ts S):CS 46 #[.pointer (some ⟨c.x.D,0,none⟩)] w (.int .i64 S.now):=by
 have c0:=hA.c0;clear hA;generalize c.x.D=D at*;go_enter func46,ntmps46;go_wp2;go_ret;exact⟨rfl,rfl⟩
theorem target_any (w:World) (hA:WAt w B c p ts S):CS 47 #[.pointer (some ⟨c.x.D,0,none⟩)] w (.int .i64 S.tg):=by
 have c2:=hA.c2;clear hA;generalize c.x.D=D at*;go_enter func47,ntmps47;go_wp2;go_ret;exact⟨rfl,rfl⟩
theorem pods_any (w:World) (hA:WAt w B c p ts S) (hL:S.F.L.length≤1000000000):Calls prog 49 #[.pointer (some ⟨c.x.D,0,none⟩)] w fun e w'=>e=.returned (.slice (some ⟨w.heap.size,0,none⟩) S.F.L.length S.F.L.length)∧Rec.RowAt Flt.pK w' (some ⟨w.heap.size,0,none⟩) S.F.L∧Below w.heap.size w w':=by
 have cX:=Flt.all_any B c.x.D c.vf S.F w hA.fl hL;clear hA;generalize c.x.D=D at*;go_enter func49,ntmps49;go_wp2_with(go_at_call 94;(with_reducible refine cX.mono ?_);rintro e w1 ⟨rfl,hR,hb⟩)
 go_ret;exact⟨rfl,hR,hb⟩
theorem requests_any (w:World) (hA:WAt w B c p ts S) (hL:S.R.length≤200):Calls prog 51 #[.pointer (some ⟨c.x.D,0,none⟩)] w fun e w'=> ∃G,e=.returned (.slice (some ⟨G,0,none⟩) S.R.length S.R.length)∧w.heap.size≤G∧Rec.RowAt Buf.rK w' (some ⟨G,0,none⟩) S.R∧Below w.heap.size w w':=by
 have cX:=Buf.all_any B c.x.D c.vb S.R w hA.bu hL;clear hA;generalize c.x.D=D at*;go_enter func51,ntmps51;go_wp2_with(go_at_call 95;(with_reducible refine cX.mono ?_);rintro e w1 ⟨G,rfl,hG,hR,hb⟩)
 go_ret;exact⟨G,rfl,hG,hR,hb⟩
end
