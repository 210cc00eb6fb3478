/- A part. -/
import Derived.Test.YthiapcajheepbaaGreatDoorPwWatchAt
import Derived.Deep.CutBlock
set_option linter.all false
open Go.Proofs.Tryz
set_option maxHeartbeats 32000000
set_option maxRecDepth 8000
namespace Go.Proofs.YthiapcajheepbaaGreatDoor
namespace Wat
open Go.RowKit Rw Rec Plain Pln Frm Lpp Stb Crn
variable {w w' W:World} {b o j N C D rb o1 o2 o3:Nat} {t:Tr} {u v v1 v2 v3:Value} {cs:Array Value} {e:TypeId}

def LwR (B:Nat) (x:Pl) (p:Pd) (ta:Option Addr) (tc:Nat) (ts:List Tr) (rs:List Rd) (s:Lp) (c:Cm) (hv now:Int) (busy:Bool) (inF:Tr→Bool) (w:World) (W N i:Value) (wr:World):Prop:=
 ∃k:Nat,k≤ts.length∧i=.int .i64 k∧W=.int .i64 (wK p hv inF ts rs s.fs k)∧N=.bool (aK busy inF ts rs s.fs k)∧WAt wr B x p ta tc ts ⟨fsK ts rs s.fs k,true,now,s.nd,s.pa⟩ c∧WStep x x w wr
structure L3 (B:Nat) (x:Pl) (p:Pd) (ta:Option Addr) (tc:Nat) (ts:List Tr) (rs:List Rd) (s:Lp) (c:Cm) (now:Int) (w:World) (C k:Nat) (t:Tr) (wx:World):Prop where
 a:WAt wx B x p ta tc ts ⟨fsK ts rs s.fs (k+1),true,now,s.nd,s.pa⟩ c
 st:WStep x x w wx
 tr:TrAt wx C 0 t
 lt:C<wx.heap.size
theorem tr_set {g:Nat} (h:TrAt w b o t) (hn:g≠b):TrAt (w.setCell ⟨g,j,none⟩ u) b o t:=by
 have e: ∀i,(w.setCell ⟨g,j,none⟩ u).cell? ⟨b,i,none⟩=w.cell? ⟨b,i,none⟩:=fun i=>by
  rw [Xd (h:=fun e=>hn (congrArg Addr.block e))]
 exact⟨(e _).trans h.c0,(e _).trans h.c1,(e _).trans h.c2,(e _).trans h.c3,(e _).trans h.c4,(e _).trans h.c5,(e _).trans h.c6,(e _).trans h.c7,(e _).trans h.c8,(e _).trans h.c9,(e _).trans h.c10,(e _).trans h.c11,(e _).trans h.c12,(e _).trans h.c13,(e _).trans h.c14,(e _).trans h.c15,(e _).trans h.c16⟩
theorem tr_below {n:Nat} (h:TrAt w b o t) (hb:Below n w w') (hn:b<n):TrAt w' b o t:=
 ⟨(hb.cell hn).trans h.c0,(hb.cell hn).trans h.c1,(hb.cell hn).trans h.c2,(hb.cell hn).trans h.c3,(hb.cell hn).trans h.c4,(hb.cell hn).trans h.c5,(hb.cell hn).trans h.c6,(hb.cell hn).trans h.c7,(hb.cell hn).trans h.c8,(hb.cell hn).trans h.c9,(hb.cell hn).trans h.c10,(hb.cell hn).trans h.c11,(hb.cell hn).trans h.c12,(hb.cell hn).trans h.c13,(hb.cell hn).trans h.c14,(hb.cell hn).trans h.c15,(hb.cell hn).trans h.c16⟩
theorem drew_tr (h:TrAt w b o t):TrAt w.drew b o t:=⟨h.c0,h.c1,h.c2,h.c3,h.c4,h.c5,h.c6,h.c7,h.c8,h.c9,h.c10,h.c11,h.c12,h.c13,h.c14,h.c15,h.c16⟩
def podsF (inF:Tr→Bool) (t:Tr) (r:Rd):Int:=if t.k=3 then(if inF t=true then t.tg else 0)else Ned.podF t.k t.tg r.n r.X
def actF (inF:Tr→Bool) (t:Tr) (r:Rd):Bool:=if t.k=3 then inF t else decide (t.ac<Ned.metF t.k r.n r.X)
theorem need_right (t:Tr) (r:Rd) (inF:Tr→Bool) (sec sh:Int) (a:Option Addr) (cap:Nat) (w:World) (hB:trB t=true) (hU:TrU t) (hff:failed t r=false) (hs: -100000000000≤sec∧sec≤100000000000) (hh: -900≤sh∧sh≤900)
  (hin:t.k=3→InQ (inF t) t.a t.b (minOf sec sh) sh) (hm:r.n≤maxLen) (hX:Ned.IntsAt w a r.n r.X):
  CB 128 #[trV t,Ned.rdV r.f a r.n cap,.int .i64 sec,.int .i64 sh] w (.tuple #[Ned.needV (podsF inF t r) (actF inF t r),.int .i64 0]):=by
 unfold podsF actF;by_cases hk:t.k=3
 ·obtain⟨h1,h2,h3⟩:=tr_span hB hk;rw [if_pos hk,if_pos hk];exact Ned.rneed_span t r.f a r.n cap sec sh (inF t) w hk h1.1 hU.a hU.b h2 h3 ((Civ.tm_iff _).2 hs) ((Civ.sh_iff _).2 hh) (hin hk)
 ·obtain⟨h1,h2,h3⟩:=tr_cnt hB hk;rw [if_neg hk,if_neg hk];have hrf:r.f=false:=by
   unfold failed at hff;have:(t.k !=3)=true:=by simp [hk]
   rw [this,Bool.and_true]at hff;exact hff
  rw [hrf,←Ned.pdR_pod,←Ned.act_same h3.2];exact Ned.rneed_cnt t a r.n cap r.X sec sh w h1 h2.1 hm hX
theorem want_right (t:Tr) (r:Rd) (hv tl:Int) (a:Option Addr) (cap:Nat) (w:World) (hB:trB t=true) (hk:t.k≠3) (hff:failed t r=false) (hh:0≤hv∧hv≤50) (ht:0≤tl∧tl≤1000) (hm:r.n≤maxLen) (hX:Ned.IntsAt w a r.n r.X):
  CB 129 #[.int .i64 hv,.int .i64 tl,trV t,Ned.rdV r.f a r.n cap] w (.tuple #[.int .i64 (Ned.wantF hv tl t.k t.tg r.n r.X),.int .i64 0]):=by
 obtain⟨h1,h2,h3⟩:=tr_cnt hB hk;have hrf:r.f=false:=by
  unfold failed at hff;have:(t.k !=3)=true:=by simp [hk]
  rw [this,Bool.and_true]at hff;exact hff
 rw [hrf,←Ned.want_same hh ht h2];exact Ned.rwant hv tl t a r.n cap r.X w h1 h2.1 hh ht hm hX
theorem cellN (hN:N=W.heap.size) (hj:cs[j]? =some v):(W.alloc (.cells cs e)).cell? ⟨N,j,none⟩=some v:=by
 subst hN;simpa using hj
theorem frozN (hN:N=W.heap.size):(W.alloc (.cells cs e)).frozen? ⟨N,j,none⟩=false:=by
 subst hN;simp
theorem rb_lt (h:w.cell? ⟨b,o,none⟩=some v):b≠w.heap.size:=by have:=Xj w _ h;simp only at this;omega
theorem cd_lt (h:b<w.heap.size):b≠w.heap.size:=by omega
theorem keep_put (h:TrAt w C 0 t∧w.cell? ⟨rb,o1,none⟩=some v1∧w.cell? ⟨rb,o2,none⟩=some v2∧w.cell? ⟨D,o3,none⟩=some v3) (hn:rb≠N∧C≠N∧D≠N):
  TrAt (w.setCell ⟨N,j,none⟩ u) C 0 t∧(w.setCell ⟨N,j,none⟩ u).cell? ⟨rb,o1,none⟩=some v1∧(w.setCell ⟨N,j,none⟩ u).cell? ⟨rb,o2,none⟩=some v2∧(w.setCell ⟨N,j,none⟩ u).cell? ⟨D,o3,none⟩=some v3:=by
 obtain⟨h1,h2,h3,h4⟩:=h;have e: ∀b o,b≠N→(w.setCell ⟨N,j,none⟩ u).cell? ⟨b,o,none⟩=w.cell? ⟨b,o,none⟩:=fun b o hb=>by
  rw [Xd (h:=fun e=>hb (congrArg Addr.block e).symm)]
 exact⟨tr_set h1 (fun e=>hn.2.1 e.symm),(e _ _ hn.1).trans h2,(e _ _ hn.1).trans h3,(e _ _ hn.2.2).trans h4⟩
theorem L3.below {B:Nat} {x:Pl} {p:Pd} {ta:Option Addr} {tc:Nat} {ts:List Tr} {rs:List Rd} {s:Lp} {c:Cm} {now:Int} {w:World} {C k:Nat} {t:Tr} {wx wy:World} (h:L3 B x p ta tc ts rs s c now w C k t wx) (hb:Below wx.heap.size wx wy):L3 B x p ta tc ts rs s c now w C k t wy:=
 ⟨h.a.below hb,h.st.trans (WStep.of_below hb),tr_below h.tr hb h.lt,Xb h.lt hb.size⟩
theorem L3.put {B:Nat} {x:Pl} {p:Pd} {ta:Option Addr} {tc:Nat} {ts:List Tr} {rs:List Rd} {s:Lp} {c:Cm} {now:Int} {k:Nat} {wc wx:World} (h0:L3 B x p ta tc ts rs s c now w C k t wc) (h:L3 B x p ta tc ts rs s c now w C k t wx) (hN:wc.heap.size≤N):L3 B x p ta tc ts rs s c now w C k t (wx.setCell ⟨N,j,none⟩ u):=by
 have hB:B≤wc.heap.size:=by have:=h0.a.r.bQ;have:=h0.a.r.lt;omega
 have hlt:=h0.lt;have hsz:=h0.st.size;refine⟨h.a.kept (fun b hb=>Below.heap_setCell wx _ _ b ?_) (by simp),⟨h.st.os,h.st.tape,h.st.output,by simpa using h.st.size,fun b hb hn=>(Below.heap_setCell wx _ _ b (by simp only;omega)).trans (h.st.block b hb hn),h.st.loc⟩,tr_set h.tr (by omega),by simpa using h.lt⟩;rcases hb with a|a
 ·simp only;omega
 ·have:=(h0.a.blt a).2;simp only;omega
theorem keep13 (h:TrAt w C 0 t∧w.cell? ⟨rb,o1,none⟩=some v1∧w.cell? ⟨rb,o2,none⟩=some v2∧w.cell? ⟨D,o3,none⟩=some v3) (hb:Below w.heap.size w w'):
  TrAt w' C 0 t∧w'.cell? ⟨rb,o1,none⟩=some v1∧w'.cell? ⟨rb,o2,none⟩=some v2∧w'.cell? ⟨D,o3,none⟩=some v3:=by
 obtain⟨h1,h2,h3,h4⟩:=h;exact⟨tr_below h1 hb (Xj w _ h1.c0),(hb.cell (Xj w _ h2)).trans h2,(hb.cell (Xj w _ h3)).trans h3,(hb.cell (Xj w _ h4)).trans h4⟩
def lookN (p:Pd) (s:Lp) (c:Cm) (now hv WK:Int) (AK:Bool):Int:=if 0≤s.pa then s.pa else toldF p (cN c now hv (askF p WK (lowF p hv now s.nd AK))) (lowF p hv now s.nd AK)
def nextC (p:Pd) (s:Lp) (c:Cm) (now hv WK:Int) (AK:Bool):Cm:=if 0≤s.pa then c else cS c now hv (askF p WK (lowF p hv now s.nd AK))
def LookA (B:Nat) (x:Pl) (p:Pd) (ta:Option Addr) (tc:Nat) (ts:List Tr) (rs:List Rd) (s:Lp) (c:Cm) (now hv WK:Int) (AK:Bool) (w:World) (e:Ending) (w':World):Prop:=
 e=.returned (.tuple #[.int .i64 (lookN p s c now hv WK AK),.int .i64 0])∧ ∃vw' vm',WAt w' B ⟨x.D,x.S,x.vF,vw',vm'⟩ p ta tc ts (nextL s ts rs now AK) (nextC p s c now hv WK AK)∧WStep x ⟨x.D,x.S,x.vF,vw',vm'⟩ w w'
theorem inb_yes (n lo hi:Int) (w:World) (h:lo≤n∧n≤hi):CS 6 #[.int .i64 n,.int .i64 lo,.int .i64 hi] w (.bool true):=by
 have c:=RCiv.in_any n lo hi w;have e:RCiv.inB n lo hi=true:=by unfold RCiv.inB;simp;exact h
 rw [e]at c;exact c
theorem wlook_any (B:Nat) (x:Pl) (p:Pd) (ta ra:Option Addr) (tc rc:Nat) (ts:List Tr) (rs:List Rd) (s:Lp) (c:Cm) (now sec hv:Int) (busy:Bool) (inF:Tr→Bool) (w:World)
  (hA:WAt w B x p ta tc ts s c) (hP:PlOk p ts) (hU: ∀t∈ts,TrU t) (hfl:s.fs.length=ts.length) (hfo:FsOk s.fs 1000000) (hR: ∀wr,WStep x x w wr→RdsAt wr ra rs) (hrl:rs.length=ts.length)
  (hIF: ∀t∈ts,t.k=3→InQ (inF t) t.a t.b (minOf sec p.sh) p.sh) (hn:s.la≤now∧now≤1099511627776) (hs: -100000000000≤sec∧sec≤100000000000) (hh:0≤hv∧hv≤50) (hnd:0≤s.nd∧s.nd≤1099511627776) (hl0:0≤s.la) (kC:Nat) (hF:CFit c kC) (hkC:kC≤200000):
  Calls prog 84 #[.pointer (some ⟨x.D,0,none⟩),.int .i64 now,.int .i64 sec,.int .i64 hv,.slice ra rs.length rc,.bool busy] w (LookA B x p ta tc ts rs s c now hv (wK p hv inF ts rs s.fs ts.length) (aK busy inF ts rs s.fs ts.length) w):=by
 obtain⟨D,S,vF,vw,vm⟩:=x;have cI1:=fun w=>inb_yes now s.la 1099511627776 w hn;have cI2:=fun w=>inb_yes sec (-100000000000) 100000000000 w hs;have cI3:=fun w=>inb_yes hv 0 50 w hh;have q:=cel_of hA.r;dsimp only at q;have qla:=q.la;have qtr:=q.tr;have f20:=hA.r.fz 20;have f21:=hA.r.fz 21;have qlk:=q.lk;dsimp only at f20 f21;rw [hrl];have hA0:WAt ((w.setCell ⟨D,20,none⟩ (.bool true)).setCell ⟨D,21,none⟩ (.int .i64 now)) B ⟨D,S,vF,vw,vm⟩ p ta tc ts ⟨fsK ts rs s.fs 0,true,now,s.nd,s.pa⟩ c:=by
  have:=hA.turned (s':=⟨s.fs,true,now,s.nd,s.pa⟩) ((Turn.setQ (Q:=D) (v:=vF) 20 (.bool true)).trans (Turn.setQ 21 (.int .i64 now))) (set_lk hA.r now);rw [fsK_zero];exact this
 have hS0:WStep ⟨D,S,vF,vw,vm⟩ ⟨D,S,vF,vw,vm⟩ w ((w.setCell ⟨D,20,none⟩ (.bool true)).setCell ⟨D,21,none⟩ (.int .i64 now)):=WStep.of_turn (x:=⟨D,S,vF,vw,vm⟩) ((Turn.setQ (Q:=D) (v:=vF) 20 (.bool true)).trans (Turn.setQ 21 (.int .i64 now)));clear q;go_enter func84,ntmps84;go_wp2_with(go_at_call 6;first|((with_reducible refine zq (cI1 _) ?_))|((with_reducible refine zq (cI2 _) ?_))|((with_reducible refine zq (cI3 _) ?_)))
 clear cI1 cI2 cI3 qla qtr f20 f21 qlk;go_loopw [14,15,16] (fun W N i wr=>LwR B ⟨D,S,vF,vw,vm⟩ p ta tc ts rs s c hv now busy inF w W N i wr) (fun _ _ i _=>ts.length-(intOf i).toNat)
 case atStart=>exact⟨0,by omega,rfl,rfl,rfl,hA0,hS0⟩
 case round=>
  clear hA0 hS0;obtain⟨k,hk,rfl,rfl,rfl,hAr,hSr⟩:=hrel;by_cases hlt:k<ts.length
  ·have hlt':(k:Int)<(ts.length:Int):=by omega
   obtain⟨tr,htr⟩: ∃tr,ts[k]? =some tr:=⟨ts[k],by simp [hlt]⟩
   obtain⟨rd,hrd⟩: ∃rd,rs[k]? =some rd:=⟨rs[k]'(by omega),by simp⟩
   obtain⟨f,hf⟩: ∃f,s.fs[k]? =some f:=⟨s.fs[k]'(by omega),by simp⟩
   have hfb:=hfo f (Xk hf);have hTB:=hP.tr tr (Xk htr);have hTU:=hU tr (Xk htr);have hIn:=hIF tr (Xk htr);have hsh:=hP.sh;have hgK:=fsK_get (ts:=ts) (rs:=rs) hf;obtain⟨gF,cF,hvF⟩: ∃gF cF,vF=.slice (some ⟨gF,0,none⟩) ts.length cF:=by
    obtain⟨ao,cap,he,_,_,hg⟩:=hAr.r.form;have hll:(fsK ts rs s.fs k).length=ts.length:=by rw [fsK_len,hfl]
    dsimp only at he hg;rw [hll]at he hg;obtain⟨g,rfl⟩:=hg (by omega);exact⟨g,cap,he⟩
   subst hvF;have hll:ts.length=(fsK ts rs s.fs k).length:=by rw [fsK_len,hfl]
   have qtr:=(cel_of hAr.r).tr;dsimp only at qtr;obtain⟨tb,toff,rfl,htl,hTr⟩:=TrsAt.elem hAr.t htr;obtain⟨W1,hW1⟩: ∃W1,W1=wr.alloc (.cells (trC tr) 84):=⟨_,rfl⟩
   have hN:TrAt (wr.alloc (.cells (trC tr) 84)) wr.heap.size 0 tr:=TrAt.new wr tr 84;have hT1:TrAt W1 wr.heap.size 0 tr:=by rw [hW1];exact hN
   have hz1:wr.heap.size<W1.heap.size:=by rw [hW1];simp
   have hb1:Below wr.heap.size wr W1:=by rw [hW1];exact(Below.refl _ _).alloc (Xa _) _
   have hA1:=hAr.below hb1;have hS1:=hSr.trans (WStep.of_below hb1);obtain⟨c1,fz1,hgD⟩:=get_fs hA1.r hll hgK;dsimp only at hgD;have q1:=(cel_of hA1.r).fs;dsimp only at q1;have f1:=fz1 k;have hA2:WAt (W1.setCell ⟨gF,k,none⟩ (.int .i64 (f+1))) B ⟨D,S,.slice (some ⟨gF,0,none⟩) ts.length cF,vw,vm⟩ p (some ⟨tb,toff,none⟩) tc ts ⟨(fsK ts rs s.fs k).set k (f+1),true,now,s.nd,s.pa⟩ c:=hA1.turned (s':=⟨(fsK ts rs s.fs k).set k (f+1),true,now,s.nd,s.pa⟩) (Turn.setG _ _) (set_fs hA1.r hll hgK);have hS2:WStep ⟨D,S,.slice (some ⟨gF,0,none⟩) ts.length cF,vw,vm⟩ ⟨D,S,.slice (some ⟨gF,0,none⟩) ts.length cF,vw,vm⟩ w (W1.setCell ⟨gF,k,none⟩ (.int .i64 (f+1))):=hS1.trans (WStep.of_turn (x:=⟨D,S,.slice (some ⟨gF,0,none⟩) ts.length cF,vw,vm⟩) (Turn.setG _ _));have hgl:gF<wr.heap.size:=hAr.r.rowLt gF rfl;obtain⟨W2,hW2⟩: ∃W2,W2=W1.setCell ⟨gF,k,none⟩ (.int .i64 (f+1)):=⟨_,rfl⟩
   have hT2:TrAt W2 wr.heap.size 0 tr:=by rw [hW2];exact tr_set hT1 (by omega)
   have hz2:wr.heap.size<W2.heap.size:=by rw [hW2];simpa using hz1
   rw [←hW2]at hA2 hS2;have HW1:=zh hW1;have HW2:=zh hW2;have hfb1:=hfb.1;have hfb2:=hfb.2;have HLL:=zh hll;clear hW1 hW2 hAr hSr hA1 hS1 fz1 hb1 hll
   go_upto_region 9 with (first
    |(with_reducible refine wp_tr hTr (by with_unfolding_all rfl) ?_)
    |(with_reducible refine wp_newTr hN (by with_unfolding_all rfl) (by with_unfolding_all rfl) ?_))
   rw [←HW1.out];clear HW1 hN hTr qtr;go_upto_region 10 with fail
   rw [←HW2.out];clear HW2 c1 f1 q1 hT1 hz1;generalize wr.heap.size=C at*;obtain⟨rb,roff,la,lc,rfl,hrbl,r0,r1,hrm,hrX⟩:=hR W2 hS2 k rd hrd;have k0:=hT2.c0;go_cut [93] (fun b wx=>b=.bool (!failed tr rd)∧wx=W2)
   case first=>
    have HF:Hid (failed tr rd=(rd.f&&tr.k !=3)):=rfl;clear r1 hrX;cases hrf:rd.f
    ·rw [hrf]at r0;have HE:Hid ((!failed tr rd)=true):=by unfold Hid;rw [HF.out,hrf];rfl
     go_wp2;go_meet;exact⟨by rw [HE.out],rfl⟩
    ·rw [hrf]at r0;cases hk3:(tr.k==3)
     ·have HE:Hid ((!failed tr rd)=false):=by unfold Hid;rw [HF.out,hrf,bne,hk3];rfl
      go_wp2;go_meet;exact⟨by rw [HE.out],rfl⟩
     ·have HE:Hid ((!failed tr rd)=true):=by unfold Hid;rw [HF.out,hrf,bne,hk3];rfl
      go_wp2;go_meet;exact⟨by rw [HE.out],rfl⟩
   case rest=>
    obtain⟨rfl,hwx⟩:=hcut;subst hwx;clear r0 r1 k0 hrX hrbl hrm;have hset:=fsK_step htr hrd hf;have hg2:((fsK ts rs s.fs k).set k (f+1))[k]? =some (f+1):=by rw [Ys (by have:=HLL.out;omega)]
    have HL2:Hid (ts.length=((fsK ts rs s.fs k).set k (f+1)).length):=by have:=HLL.out;unfold Hid;simpa using this
    obtain⟨c2,fz2,_⟩:=get_fs hA2.r HL2.out hg2;have q2:=(cel_of hA2.r).fs;dsimp only at q2;have f2:=fz2 k;clear fz2;go_upto_if 93 with fail
    go_cut [] (fun wx=>L3 B ⟨D,S,.slice (some ⟨gF,0,none⟩) ts.length cF,vw,vm⟩ p (some ⟨tb,toff,none⟩) tc ts rs s c now w C k tr wx)
    case first=>
     cases hfd:failed tr rd
     ·have HX:Hid (L3 B ⟨D,S,.slice (some ⟨gF,0,none⟩) ts.length cF,vw,vm⟩ p (some ⟨tb,toff,none⟩) tc ts rs s c now w C k tr (wc.setCell ⟨gF,k,none⟩ (.int .i64 0))):=by
       have e:stepF tr rd f=0:=by unfold stepF;rw [hfd];rfl
       rw [e]at hset;refine⟨?_,hS2.trans (WStep.of_turn (x:=⟨D,S,.slice (some ⟨gF,0,none⟩) ts.length cF,vw,vm⟩) (Turn.setG _ _)),tr_set hT2 (by omega),by simpa using hz2⟩;rw [←hset];have:=hA2.turned (s':=⟨((fsK ts rs s.fs k).set k (f+1)).set k 0,true,now,s.nd,s.pa⟩) (Turn.setG _ _) (set_fs hA2.r HL2.out hg2);rw [List.set_set]at this;exact this
      clear hset hA2 hS2 hT2;go_wp2;go_meet;exact HX.out
     ·have HX:Hid (L3 B ⟨D,S,.slice (some ⟨gF,0,none⟩) ts.length cF,vw,vm⟩ p (some ⟨tb,toff,none⟩) tc ts rs s c now w C k tr wc):=by
       have e:stepF tr rd f=f+1:=by unfold stepF;rw [hfd];rfl
       rw [e]at hset;refine⟨?_,hS2,hT2,hz2⟩;rw [←hset];exact hA2
      clear hset hA2 hS2 hT2;go_wp2;go_meet;exact HX.out
    case rest=>
     clear hA2 hS2 hT2 c2 q2 f2 hg2 HL2 hz2;have hf':=stepF_bd (t:=tr) (r:=rd) hfb1;have hgK1:(fsK ts rs s.fs (k+1))[k]? =some (stepF tr rd f):=by
      rw [←hset,Ys (by have:=HLL.out;omega)]
     have HL3:Hid (ts.length=(fsK ts rs s.fs (k+1)).length):=by unfold Hid;rw [fsK_len,hfl]
     obtain⟨c3,fz3,_⟩:=get_fs hcut.a.r HL3.out hgK1;have q3:=cel_of hcut.a.r;dsimp only at q3;have qfs:=q3.fs;have qaf:=q3.af;have qbk:=q3.bk;have qsh:=q3.sh;have qtl:=q3.tl;have k0:=hcut.tr.c0;have hwS:=wK_step (p:=p) (hv:=hv) (inF:=inF) htr hrd hf;have haS:=aK_step (b:=busy) (inF:=inF) htr hrd hf;have HwS:=zh hwS;have HaS:=zh haS;have HC:=zh hcut;clear hset fz3 q3 hwS haS hcut;go_upto_block 2 with fail
     go_cut [15,18] (fun nv nn wx=>nv=.bool (aK busy inF ts rs s.fs (k+1))∧nn=.int .i64 (stepN p hv inF tr rd (stepF tr rd f))∧L3 B ⟨D,S,.slice (some ⟨gF,0,none⟩) ts.length cF,vw,vm⟩ p (some ⟨tb,toff,none⟩) tc ts rs s c now w C k tr wx)
     case first=>
      by_cases hpos:0<stepF tr rd f
      ·have HAc:Hid (aK busy inF ts rs s.fs (k+1)=true):=by unfold Hid;rw [HaS.out];unfold stepA;simp [hpos]
       have HC2:Hid (L3 B ⟨D,S,.slice (some ⟨gF,0,none⟩) ts.length cF,vw,vm⟩ p (some ⟨tb,toff,none⟩) tc ts rs s c now w C k tr wc.drew):=⟨HC.out.a.below ⟨rfl,rfl,rfl,Xa _,fun _ _=>rfl⟩,HC.out.st.trans (WStep.of_below ⟨rfl,rfl,rfl,Xa _,fun _ _=>rfl⟩),drew_tr HC.out.tr,HC.out.lt⟩
       clear HaS HwS qsh qtl k0;by_cases haf:p.af=0
       ·have daf:(p.af !=0)=false:=by simp [haf]
        have HN:Hid (stepN p hv inF tr rd (stepF tr rd f)=hv):=by unfold Hid stepN;rw [if_pos hpos,if_neg (fun h=>h.1 haf)]
        clear haf
        as_aux_lemma=>
         go_wp2_with fail
         refine Tk.sb 21 (S:=fun w'=>w'.cell? ⟨D,7,none⟩=some (.int .i64 p.af)∧w'.cell? ⟨D,19,none⟩=some (.slice (some ⟨gF,0,none⟩) ts.length cF)∧w'.cell? ⟨gF,k,none⟩=some (.int .i64 (stepF tr rd f))) (⟨qaf,qfs,c3⟩) (fun hHeld=> ?_)
         iterate 21
          refine Tk.gn ?_
         refine wpAnyH_done (by kernel_rfl) ?_ _;go_wp2;go_meet;exact⟨by rw [HAc.out],by rw [HN.out],HC2.out⟩
       ·have daf:(p.af !=0)=true:=by simp [haf]
        by_cases hge:p.af≤stepF tr rd f
        ·have HN:Hid (stepN p hv inF tr rd (stepF tr rd f)=p.bk):=by unfold Hid stepN;rw [if_pos hpos,if_pos ⟨haf,hge⟩]
         have qbk2:wc.drew.cell? ⟨D,6,none⟩=some (.int .i64 p.bk):=qbk;clear haf
         as_aux_lemma=>
          go_wp2_with fail
          refine Tk.sb 21 (S:=fun w'=>w'.cell? ⟨D,7,none⟩=some (.int .i64 p.af)∧w'.cell? ⟨D,19,none⟩=some (.slice (some ⟨gF,0,none⟩) ts.length cF)∧w'.cell? ⟨gF,k,none⟩=some (.int .i64 (stepF tr rd f))) (⟨qaf,qfs,c3⟩) (fun hHeld=> ?_)
          iterate 21
           refine Tk.gn ?_
          refine wpAnyH_done (by kernel_rfl) ?_ _;go_wp2;go_meet;exact⟨by rw [HAc.out],by rw [HN.out],HC2.out⟩
        ·have HN:Hid (stepN p hv inF tr rd (stepF tr rd f)=hv):=by unfold Hid stepN;rw [if_pos hpos,if_neg (fun h=>hge h.2)]
         clear haf
         as_aux_lemma=>
          go_wp2_with fail
          refine Tk.sb 21 (S:=fun w'=>w'.cell? ⟨D,7,none⟩=some (.int .i64 p.af)∧w'.cell? ⟨D,19,none⟩=some (.slice (some ⟨gF,0,none⟩) ts.length cF)∧w'.cell? ⟨gF,k,none⟩=some (.int .i64 (stepF tr rd f))) (⟨qaf,qfs,c3⟩) (fun hHeld=> ?_)
          iterate 21
           refine Tk.gn ?_
          refine wpAnyH_done (by kernel_rfl) ?_ _;go_wp2;go_meet;exact⟨by rw [HAc.out],by rw [HN.out],HC2.out⟩
      ·obtain⟨rb2,roff2,la,lc,hra,hrbl,r0,r1,hrm,hrX⟩:=hR wc HC.out.st k rd hrd;cases hra;have hz:stepF tr rd f=0:=(by omega);have hff:failed tr rd=false:=by
        cases e:failed tr rd with
        |false=>rfl
        |true=>unfold stepF at hz;rw [e]at hz;simp at hz;omega
       have HZ:=zh hz;clear hz;go_upto_region 13 with fail
       go_cut [19,20] (fun pv ev wx=> ∃N:Nat,pv=.pointer (some ⟨N,0,none⟩)∧wx.cell? ⟨N,0,none⟩=some (.int .i64 (podsF inF tr rd))∧wx.cell? ⟨N,1,none⟩=some (.bool (stepA inF tr rd (stepF tr rd f)))∧L3 B ⟨D,S,.slice (some ⟨gF,0,none⟩) ts.length cF,vw,vm⟩ p (some ⟨tb,toff,none⟩) tc ts rs s c now w C k tr wx)
       case first=>
        as_aux_lemma=>
         have HP:Hid (stepA inF tr rd (stepF tr rd f)=actF inF tr rd):=by unfold Hid stepA actF;rw [HZ.out];simp
         have cN:=fun W hX=>need_right tr rd inF sec p.sh la lc W hTB hTU hff hs hsh hIn hrm hX;have hTc:=HC.out.tr;have hzc:=HC.out.lt;have hXc:Ned.IntsAt wc.drew la rd.n rd.X:=hrX;have HC2:Hid (L3 B ⟨D,S,.slice (some ⟨gF,0,none⟩) ts.length cF,vw,vm⟩ p (some ⟨tb,toff,none⟩) tc ts rs s c now w C k tr wc.drew):=⟨HC.out.a.below ⟨rfl,rfl,rfl,Xa _,fun _ _=>rfl⟩,HC.out.st.trans (WStep.of_below ⟨rfl,rfl,rfl,Xa _,fun _ _=>rfl⟩),drew_tr HC.out.tr,HC.out.lt⟩
         generalize podsF inF tr rd=PD at*;generalize actF inF tr rd=AC at*;refine wp_region_held_drew (S:=fun w'=>TrAt w' C 0 tr∧w'.cell? ⟨rb,roff+k*2,none⟩=some (.bool rd.f)∧w'.cell? ⟨rb,roff+k*2+1,none⟩=some (.slice la rd.n lc)∧w'.cell? ⟨D,8,none⟩=some (.int .i64 p.sh)) (by kernel_rfl) (⟨drew_tr hTc,r0,r1,qsh⟩) (fun hHeld=> ?_);refine Tk.gi 1 ?_;(try simp only [Act.put,ar,ag]);refine Tk.gi 2 ?_;(try simp only [Act.put,ar,ag]);refine Tk.gi 3 ?_;(try simp only [Act.put,ar,ag]);refine Tk.gi 5 ?_;(try simp only [Act.put,ar,ag]);refine Tk.gi 6 ?_;(try simp only [Act.put,ar,ag]);refine Tk.gi 7 ?_;(try simp only [Act.put,ar,ag]);refine Tk.gi 8 ?_;(try simp only [Act.put,ar,ag]);refine Tk.gi 9 ?_;(try simp only [Act.put,ar,ag]);refine Tk.gi 10 ?_;(try simp only [Act.put,ar,ag]);refine Tk.gi 4 ?_;(try simp only [Act.put,ar,ag]);refine Tk.gi 0 (v:=trV tr) ?_ (hy:=yieldsIf_load_mid (by rfl) 84 (.tmp 17) rfl C 0 (by with_unfolding_all rfl) [.int .i64 tr.k,.int .i64 tr.tg,.int .i64 tr.ac,.int .u64 tr.a.mi,.int .u64 tr.a.ho,.int .u64 tr.a.da,.int .u64 tr.a.mn,.int .u64 tr.a.we,.bool tr.a.ad,.bool tr.a.aw,.int .u64 tr.b.mi,.int .u64 tr.b.ho,.int .u64 tr.b.da,.int .u64 tr.b.mn,.int .u64 tr.b.we,.bool tr.b.ad,.bool tr.b.aw] _ (fun W h=>range_tr h.1) underlying84 rfl (by kernel_rfl));(try simp only [Act.put,ar,ag]);refine wpAnyH_ready (rs:=[11,15]) (by kernel_rfl) (by simp) ?_;refine AllReadyH.cons rfl (fun K hK=> ?_) (AllReadyH.cons rfl (fun K hK=> ?_) AllReadyH.nil)
         ·go_simp;go_wp2_with(go_at_call 128;(with_reducible refine zg (cN _ hXc) fun w8 hb8=>?_);have s8:=keep13 (w:=wc.drew) ⟨drew_tr hTc,r0,r1,qsh⟩ hb8)
          refine hK.out _ _ s8 (fun hHeld=> ?_);clear hK K;refine Tk.gi 12 ?_;(try simp only [Act.put,ar,ag]);refine Tk.gi 13 ?_;(try simp only [Act.put,ar,ag]);refine Tk.gi 14 ?_;(try simp only [Act.put,ar,ag]);refine Tk.r1 15 fun K hK=> ?_;go_simp;refine hK.out _ _ (keep13 s8 ((Below.refl _ _).alloc (Xa _) _)) (fun hHeld=> ?_);clear hK K;refine Tk.r1 16 fun K hK=> ?_;go_simp;refine hK.out _ _ (keep13 s8 ((Below.refl _ _).alloc (Xa _) _)) (fun hHeld=> ?_);clear hK K;refine Tk.gi 17 ?_;(try simp only [Act.put,ar,ag]);refine wpAnyH_done (by kernel_rfl) ?_ _;(try go_wp2);go_meet;exact⟨w8.heap.size,rfl,cellN rfl rfl,by rw [HP.out];exact cellN rfl rfl,(L3.below HC2.out hb8).below ((Below.refl _ _).alloc (Xa _) _)⟩
         ·go_simp;refine hK.out _ _ (keep13 (w:=wc) ⟨hTc,r0,r1,qsh⟩ (((Below.refl _ _).alloc (Xa _) _).drew)) (fun hHeld=> ?_);clear hK K;have hbD:Below wc.heap.size wc (wc.alloc (.cells #[.int .i64 0,.bool false] 178)).drew:=((Below.refl _ _).alloc (Xa _) _).drew;have hX2:Ned.IntsAt (wc.alloc (.cells #[.int .i64 0,.bool false] 178)).drew la rd.n rd.X:=hrX.below hbD (Xa _);have sD:=keep13 (w:=wc) ⟨hTc,r0,r1,qsh⟩ hbD;refine Tk.r1 11 fun K hK=> ?_;go_simp;go_wp2_with(go_at_call 128;(with_reducible refine zg (cN _ hX2) fun w8 hb8=>?_);have s8:=keep13 sD hb8)
          refine hK.out _ _ s8 (fun hHeld=> ?_);clear hK K;refine Tk.gi 12 ?_;(try simp only [Act.put,ar,ag]);refine Tk.gi 13 ?_;(try simp only [Act.put,ar,ag]);refine Tk.gi 14 ?_;(try simp only [Act.put,ar,ag]);have n0:w8.cell? ⟨wc.heap.size,0,none⟩=some (.int .i64 0):=(hb8.cell (by simp)).trans (cellN rfl rfl);have n1:w8.cell? ⟨wc.heap.size,1,none⟩=some (.bool false):=(hb8.cell (by simp)).trans (cellN rfl rfl);have z0:w8.frozen? ⟨wc.heap.size,0,none⟩=false:=(hb8.frozen (by simp)).trans (frozN rfl);have z1:w8.frozen? ⟨wc.heap.size,1,none⟩=false:=(hb8.frozen (by simp)).trans (frozN rfl);refine Tk.r1 16 fun K hK=> ?_;go_simp;refine hK.out _ _ (keep_put (keep_put s8 ⟨rb_lt r0,cd_lt hzc,rb_lt qsh⟩) ⟨rb_lt r0,cd_lt hzc,rb_lt qsh⟩) (fun hHeld=> ?_);clear hK K;refine Tk.gi 17 ?_;(try simp only [Act.put,ar,ag]);refine wpAnyH_done (by kernel_rfl) ?_ _;(try go_wp2);go_meet;have h8:=L3.below (L3.below HC.out hbD) hb8;obtain⟨m0,m1⟩:=Ned.set2 (.int .i64 PD) (.bool AC) n0 n1;exact⟨wc.heap.size,rfl,m0,by rw [HP.out];exact m1,L3.put HC.out (L3.put HC.out h8 (Xa _)) (Xa _)⟩
       case rest=>
        obtain⟨N,rfl,m0,m1,h13⟩:=hcut;have HAA:Hid (aK busy inF ts rs s.fs (k+1)=(aK busy inF ts rs s.fs k||stepA inF tr rd (stepF tr rd f))):=HaS.out;clear c3 qfs qaf qbk qsh qtl k0 r0 r1 hrX HC hrbl HaS HwS hrm;go_upto_region 14 with fail
        go_cut [15] (fun nv wx=>nv=.bool (aK busy inF ts rs s.fs (k+1))∧wx=wc)
        case first=>
         cases hak:aK busy inF ts rs s.fs k
         ·have HE:Hid (aK busy inF ts rs s.fs (k+1)=stepA inF tr rd (stepF tr rd f)):=by unfold Hid;rw [HAA.out,hak];rfl
          go_wp2;go_meet;exact⟨by rw [HE.out],rfl⟩
         ·have HE:Hid (aK busy inF ts rs s.fs (k+1)=true):=by unfold Hid;rw [HAA.out,hak];rfl
          go_wp2;go_meet;exact⟨by rw [HE.out],rfl⟩
        case rest=>
         obtain⟨rfl,hwx⟩:=hcut;subst hwx;clear HAA m1;have k0:=h13.tr.c0;have q3:=cel_of h13.a.r;dsimp only at q3;have qtl:=q3.tl;obtain⟨rb2,roff2,la,lc,hra,hrbl,r0,r1,hrm,hrX⟩:=hR wc h13.st k rd hrd;cases hra;have HC3:=zh h13;clear q3 hrbl h13;by_cases hk3:tr.k=3
         ·have d3:(tr.k !=3)=false:=by simp [hk3]
          have HN:Hid (stepN p hv inF tr rd (stepF tr rd f)=podsF inF tr rd):=by unfold Hid stepN podsF;rw [if_neg hpos,if_pos hk3,if_pos hk3]
          clear hk3;go_wp2;go_meet;exact⟨rfl,by rw [HN.out],HC3.out⟩
         ·have d3:(tr.k !=3)=true:=by simp [hk3]
          have HN:Hid (stepN p hv inF tr rd (stepF tr rd f)=Ned.wantF hv p.tl tr.k tr.tg rd.n rd.X):=by unfold Hid stepN;rw [if_neg hpos,if_neg hk3]
          have cW:=fun W hX=>want_right tr rd hv p.tl la lc W hTB hk3 hff hh hP.tl hrm hX;have hTc:=HC3.out.tr;have hXc:Ned.IntsAt wc.drew la rd.n rd.X:=hrX;have HC4:Hid (L3 B ⟨D,S,.slice (some ⟨gF,0,none⟩) ts.length cF,vw,vm⟩ p (some ⟨tb,toff,none⟩) tc ts rs s c now w C k tr wc.drew):=HC3.out.below ⟨rfl,rfl,rfl,Xa _,fun _ _=>rfl⟩;generalize Ned.wantF hv p.tl tr.k tr.tg rd.n rd.X=WF at*;clear hk3
          as_aux_lemma=>
           go_wp2_with fail
           refine wp_region_held_drew (S:=fun w'=>TrAt w' C 0 tr∧w'.cell? ⟨rb,roff+k*2,none⟩=some (.bool rd.f)∧w'.cell? ⟨rb,roff+k*2+1,none⟩=some (.slice la rd.n lc)∧w'.cell? ⟨D,5,none⟩=some (.int .i64 p.tl)) (by kernel_rfl) (⟨drew_tr hTc,r0,r1,qtl⟩) (fun hHeld=> ?_);refine Tk.gi 0 ?_;(try simp only [Act.put,ar,ag]);refine Tk.gi 1 ?_;(try simp only [Act.put,ar,ag]);refine Tk.gi 2 ?_;(try simp only [Act.put,ar,ag]);refine Tk.gi 3 ?_;(try simp only [Act.put,ar,ag]);refine Tk.gi 4 ?_;(try simp only [Act.put,ar,ag]);refine Tk.gi 5 ?_;(try simp only [Act.put,ar,ag]);refine Tk.gi 7 ?_;(try simp only [Act.put,ar,ag]);refine Tk.gi 8 ?_;(try simp only [Act.put,ar,ag]);refine Tk.gi 9 ?_;(try simp only [Act.put,ar,ag]);refine Tk.gi 10 ?_;(try simp only [Act.put,ar,ag]);refine Tk.gi 6 (v:=trV tr) ?_ (hy:=yieldsIf_load_mid (by rfl) 84 (.tmp 17) rfl C 0 (by with_unfolding_all rfl) [.int .i64 tr.k,.int .i64 tr.tg,.int .i64 tr.ac,.int .u64 tr.a.mi,.int .u64 tr.a.ho,.int .u64 tr.a.da,.int .u64 tr.a.mn,.int .u64 tr.a.we,.bool tr.a.ad,.bool tr.a.aw,.int .u64 tr.b.mi,.int .u64 tr.b.ho,.int .u64 tr.b.da,.int .u64 tr.b.mn,.int .u64 tr.b.we,.bool tr.b.ad,.bool tr.b.aw] _ (fun W h=>range_tr h.1) underlying84 rfl (by kernel_rfl));(try simp only [Act.put,ar,ag]);refine Tk.r1 11 fun K hK=> ?_;go_simp;go_wp2_with((go_at_call 129;(with_reducible refine zg (cW _ hXc) fun w8 hb8=>?_);have s8:=keep13 (w:=wc.drew) ⟨drew_tr hTc,r0,r1,qtl⟩ hb8))
           refine hK.out _ _ (s8) (fun hHeld=> ?_);clear hK K;refine Tk.gi 12 ?_;(try simp only [Act.put,ar,ag]);refine Tk.gi 13 ?_;(try simp only [Act.put,ar,ag]);refine Tk.gi 14 ?_;(try simp only [Act.put,ar,ag]);refine Tk.gi 15 ?_;(try simp only [Act.put,ar,ag]);refine wpAnyH_done (by kernel_rfl) ?_ _;(try go_wp2);go_meet;exact⟨rfl,by rw [HN.out],HC4.out.below hb8⟩
     case rest=>
      obtain⟨rfl,rfl,h22⟩:=hcut;have hk5:k<5:=by have:=hP.len;omega
      have HX:Hid (LwR B ⟨D,S,.slice (some ⟨gF,0,none⟩) ts.length cF,vw,vm⟩ p (some ⟨tb,toff,none⟩) tc ts rs s c hv now busy inF w (.int .i64 (max (wK p hv inF ts rs s.fs k) (stepN p hv inF tr rd (stepF tr rd f)))) (.bool (aK busy inF ts rs s.fs (k+1))) (.int .i64 ((k+1:Nat):Int)) wc):=⟨k+1,hlt,rfl,by rw [HwS.out],rfl,h22.a,h22.st⟩
      clear c3 qfs qaf qbk qsh qtl k0 HC HaS HwS h22;go_wp2;go_roundw
      case rel=>exact HX.out
      case measure=>simp [intOf];omega
  ·obtain rfl:k=ts.length:=by omega
   have q:=cel_of hAr.r;dsimp only at q;have qpa:=q.pa;have qmn:=q.mn;have qmx:=q.mx;have qnd:=q.nd;have qco:=q.co;have qst:=q.st;have f22:=hAr.r.fz 22;dsimp only at f22;have HR0:Hid (WAt wr B ⟨D,S,vF,vw,vm⟩ p ta tc ts ⟨fsK ts rs s.fs ts.length,true,now,s.nd,s.pa⟩ c∧WStep ⟨D,S,vF,vw,vm⟩ ⟨D,S,vF,vw,vm⟩ w wr):=⟨hAr,hSr⟩
   clear q hAr hSr;generalize hWK:wK p hv inF ts rs s.fs ts.length=WK at*;generalize hAK:aK busy inF ts rs s.fs ts.length=AK at*;by_cases hpa:0≤s.pa
   ·have HE:Hid (LookA B ⟨D,S,vF,vw,vm⟩ p ta tc ts rs s c now hv WK AK w (.returned (.tuple #[.int .i64 s.pa,.int .i64 0])) wr):=by
     refine⟨by unfold lookN;rw [if_pos hpa],vw,vm,?_,HR0.out.2⟩;unfold nextL nextC;rw [if_pos hpa,if_neg (fun h=>by have:=h.1;omega)];exact HR0.out.1
    clear hWK hAK;go_wp2;go_ret2;exact HE.out
   ·have hnp:s.pa<0:=(by omega);have hnL:nextL s ts rs now AK=⟨fsK ts rs s.fs ts.length,true,now,if AK=true then now else s.nd,s.pa⟩:=by
     unfold nextL;cases AK<;>simp [hnp]
    go_upto_if 193 with fail
    go_cut [21] (fun lo wx=>lo=.int .i64 (lowF p hv now s.nd AK)∧WAt wx B ⟨D,S,vF,vw,vm⟩ p ta tc ts (nextL s ts rs now AK) c∧WStep ⟨D,S,vF,vw,vm⟩ ⟨D,S,vF,vw,vm⟩ w wx)
    case first=>
     cases AK
     ·have HR1:Hid (WAt wr.drew B ⟨D,S,vF,vw,vm⟩ p ta tc ts (nextL s ts rs now false) c∧WStep ⟨D,S,vF,vw,vm⟩ ⟨D,S,vF,vw,vm⟩ w wr.drew):=by
       refine⟨?_,HR0.out.2.trans (WStep.of_below ⟨rfl,rfl,rfl,Xa _,fun _ _=>rfl⟩)⟩;rw [hnL];exact HR0.out.1.below ⟨rfl,rfl,rfl,Xa _,fun _ _=>rfl⟩
      have hn1:=hn.2;have hnd1:=hnd.1;have hnd2:=hnd.2;have hn0:0≤now:=(by omega);have hwr:IntKind.i64.wrap (now-s.nd)=now-s.nd:=by rw [IntKind.wrap_i64]<;>omega
      by_cases hco:now-s.nd<p.co
      ·have HL:Hid (lowF p hv now s.nd false=max p.mn (min hv 1)):=by unfold Hid lowF;rw [if_neg (by decide),if_pos hco]
       clear hnL hWK hAK;go_wp2_with fail
       refine Tk.sb 12 (S:=fun w'=>w'.cell? ⟨D,22,none⟩=some (.int .i64 s.nd)∧w'.cell? ⟨D,4,none⟩=some (.int .i64 p.co)) (⟨qnd,qco⟩) (fun hHeld=> ?_)
       iterate 12
        refine Tk.gn ?_
       refine wpAnyH_done (by kernel_rfl) ?_ _;go_wp2;go_meet;exact⟨by rw [HL.out],HR1.out⟩
      ·have HL:Hid (lowF p hv now s.nd false=p.mn):=by unfold Hid lowF;rw [if_neg (by decide),if_neg hco]
       clear hnL hWK hAK;go_wp2_with fail
       refine Tk.sb 12 (S:=fun w'=>w'.cell? ⟨D,22,none⟩=some (.int .i64 s.nd)∧w'.cell? ⟨D,4,none⟩=some (.int .i64 p.co)) (⟨qnd,qco⟩) (fun hHeld=> ?_)
       iterate 12
        refine Tk.gn ?_
       refine wpAnyH_done (by kernel_rfl) ?_ _;go_wp2;go_meet;exact⟨by rw [HL.out],HR1.out⟩
     ·have HR1:Hid (WAt (wr.setCell ⟨D,22,none⟩ (.int .i64 now)) B ⟨D,S,vF,vw,vm⟩ p ta tc ts (nextL s ts rs now true) c∧WStep ⟨D,S,vF,vw,vm⟩ ⟨D,S,vF,vw,vm⟩ w (wr.setCell ⟨D,22,none⟩ (.int .i64 now))):=by
       refine⟨?_,HR0.out.2.trans (WStep.of_turn (x:=⟨D,S,vF,vw,vm⟩) (Turn.setQ 22 (.int .i64 now)))⟩;rw [hnL];exact HR0.out.1.turned (s':=⟨fsK ts rs s.fs ts.length,true,now,now,s.pa⟩) (Turn.setQ 22 (.int .i64 now)) (set_nd HR0.out.1.r now)
      have HL:Hid (lowF p hv now s.nd true=max p.mn 1):=by unfold Hid lowF;rw [if_pos rfl]
      clear hnL hWK hAK;go_wp2;go_meet;exact⟨by rw [HL.out],HR1.out⟩
    case rest=>
     obtain⟨rfl,hAx,hSx⟩:=hcut;clear qpa qmn qmx qnd qco qst f22 HR0 hnL hWK hAK;have hfsN:(nextL s ts rs now AK).fs=fsK ts rs s.fs ts.length:=rfl;have q:=cel_of hAx.r;dsimp only at q;have qmx:=q.mx;have qst:=q.st;have hLK:lookN p s c now hv WK AK=toldF p (cN c now hv (askF p WK (lowF p hv now s.nd AK))) (lowF p hv now s.nd AK):=by unfold lookN;rw [if_neg hpa]
     have hNC:nextC p s c now hv WK AK=cS c now hv (askF p WK (lowF p hv now s.nd AK)):=by unfold nextC;rw [if_neg hpa]
     have cS:=fun W hA=>cset_any B S vw vm c now hv (askF p WK (lowF p hv now s.nd AK)) kC W hA hF hkC;generalize lowF p hv now s.nd AK=LOW at*;have HAsk:Hid (askF p WK LOW=min (max WK LOW) p.mx):=rfl;have HTo:Hid (∀n,toldF p n LOW=min (max n LOW) p.mx):=fun _=>rfl;have hAs:min (max WK LOW) p.mx=askF p WK LOW:=rfl;have HAx:Hid (WAt wc.drew B ⟨D,S,vF,vw,vm⟩ p ta tc ts (nextL s ts rs now AK) c∧WStep ⟨D,S,vF,vw,vm⟩ ⟨D,S,vF,vw,vm⟩ w wc.drew):=⟨hAx.below ⟨rfl,rfl,rfl,Xa _,fun _ _=>rfl⟩,hSx.trans (WStep.of_below ⟨rfl,rfl,rfl,Xa _,fun _ _=>rfl⟩)⟩
     generalize askF p WK LOW=ASK at*;clear q hfsN hAx hSx HAsk;go_wp2_with fail
     refine Tk.sb 21 (S:=fun w'=>w'.cell? ⟨D,18,none⟩=some (.pointer (some ⟨S,0,none⟩))∧w'.cell? ⟨D,2,none⟩=some (.int .i64 p.mx)) (⟨qst,qmx⟩) (fun hHeld=> ?_)
     iterate 15
      refine Tk.gn ?_
     refine Tk.rn 15 fun K hK=> ?_;go_simp;go_wp2_with((go_at_call 130;(with_reducible refine(cS _ HAx.out.1.c).mono ?_);rintro e w8 ⟨rfl,vw8,vm8,hA8,hT8⟩;have q8:=cel_of (HAx.out.1.calmed hT8 hA8).r;dsimp only at q8;have s18:=q8.st;have s2:=q8.mx;clear q8))
     refine hK.out _ _ (⟨s18,s2⟩) (fun hHeld=> ?_);clear hK K
     iterate 5
      refine Tk.gn ?_
     refine wpAnyH_done (by kernel_rfl) ?_ _;(try go_wp2);go_ret2;have hA9:=HAx.out.1.calmed hT8 hA8;have hS9:=HAx.out.2.trans (WStep.of_calm (x:=⟨D,S,vF,vw,vm⟩) hT8);refine⟨by rw [hLK,HTo.out];rfl,vw8,vm8,?_,hS9⟩;rw [hNC];exact hA9
