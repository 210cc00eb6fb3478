/- A part. -/
import Derived.Test.YthiapcajheepbaaGreatDoorPwLopWalks
import Derived.Test.YthiapcajheepbaaGreatDoorPwNeedWant3
import Derived.Test.YthiapcajheepbaaGreatDoorPwCronBits
import Derived.Deep.CutBlock
set_option linter.all false
open Go.Proofs.Tryz
set_option maxHeartbeats 32000000
set_option maxRecDepth 8000
namespace Go.Proofs.YthiapcajheepbaaGreatDoor
namespace Lop
open Go.RowKit Rw Rec Plain Pln Frm Lpp Crn
variable {w w' W:World} {b o j N C D rb o1 o2 o3 B tc:Nat} {t:Tr} {u v v1 v2 v3:Value} {cs:Array Value} {e:TypeId} {r:Rd} {x:Pl} {p:Pd} {ta:Option Addr} {ts:List Tr} {s:Lp}

theorem tr_set {g:Nat} (h:TrAt w b o t) (hn:g≠b):TrAt (w.setCell ⟨g,j,none⟩ u) b o t:=by
 have e: ∀i,(w.setCell ⟨g,j,none⟩ u).cell? ⟨b,i,none⟩=w.cell? ⟨b,i,none⟩:=fun i=>by
  rw [Xd (h:=fun e=>hn (congrArg Addr.block e))]
 exact⟨(e _).trans h.c0,(e _).trans h.c1,(e _).trans h.c2,(e _).trans h.c3,(e _).trans h.c4,(e _).trans h.c5,(e _).trans h.c6,(e _).trans h.c7,(e _).trans h.c8,(e _).trans h.c9,(e _).trans h.c10,(e _).trans h.c11,(e _).trans h.c12,(e _).trans h.c13,(e _).trans h.c14,(e _).trans h.c15,(e _).trans h.c16⟩
theorem tr_below {n:Nat} (h:TrAt w b o t) (hb:Below n w w') (hn:b<n):TrAt w' b o t:=
 ⟨(hb.cell hn).trans h.c0,(hb.cell hn).trans h.c1,(hb.cell hn).trans h.c2,(hb.cell hn).trans h.c3,(hb.cell hn).trans h.c4,(hb.cell hn).trans h.c5,(hb.cell hn).trans h.c6,(hb.cell hn).trans h.c7,(hb.cell hn).trans h.c8,(hb.cell hn).trans h.c9,(hb.cell hn).trans h.c10,(hb.cell hn).trans h.c11,(hb.cell hn).trans h.c12,(hb.cell hn).trans h.c13,(hb.cell hn).trans h.c14,(hb.cell hn).trans h.c15,(hb.cell hn).trans h.c16⟩
theorem drew_tr (h:TrAt w b o t):TrAt w.drew b o t:=⟨h.c0,h.c1,h.c2,h.c3,h.c4,h.c5,h.c6,h.c7,h.c8,h.c9,h.c10,h.c11,h.c12,h.c13,h.c14,h.c15,h.c16⟩
theorem cellN (hN:N=W.heap.size) (hj:cs[j]? =some v):(W.alloc (.cells cs e)).cell? ⟨N,j,none⟩=some v:=by
 subst hN;simpa using hj
theorem frozN (hN:N=W.heap.size):(W.alloc (.cells cs e)).frozen? ⟨N,j,none⟩=false:=by
 subst hN;simp
theorem rb_lt (h:w.cell? ⟨b,o,none⟩=some v):b≠w.heap.size:=by have:=Xj w _ h;simp only at this;omega
theorem cd_lt (h:b<w.heap.size):b≠w.heap.size:=by omega
theorem keep_put (h:TrAt w C 0 t∧w.cell? ⟨rb,o1,none⟩=some v1∧w.cell? ⟨rb,o2,none⟩=some v2∧w.cell? ⟨D,o3,none⟩=some v3) (hn:rb≠N∧C≠N∧D≠N):
  TrAt (w.setCell ⟨N,j,none⟩ u) C 0 t∧(w.setCell ⟨N,j,none⟩ u).cell? ⟨rb,o1,none⟩=some v1∧(w.setCell ⟨N,j,none⟩ u).cell? ⟨rb,o2,none⟩=some v2∧(w.setCell ⟨N,j,none⟩ u).cell? ⟨D,o3,none⟩=some v3:=by
 obtain⟨h1,h2,h3,h4⟩:=h;have e: ∀b o,b≠N→(w.setCell ⟨N,j,none⟩ u).cell? ⟨b,o,none⟩=w.cell? ⟨b,o,none⟩:=fun b o hb=>by
  rw [Xd (h:=fun e=>hb (congrArg Addr.block e).symm)]
 exact⟨tr_set h1 (fun e=>hn.2.1 e.symm),(e _ _ hn.1).trans h2,(e _ _ hn.1).trans h3,(e _ _ hn.2.2).trans h4⟩
theorem keep4 (h:TrAt w C 0 t∧w.cell? ⟨rb,o1,none⟩=some v1∧w.cell? ⟨rb,o2,none⟩=some v2∧w.cell? ⟨D,o3,none⟩=some v3) (hb:Below w.heap.size w w'):
  TrAt w' C 0 t∧w'.cell? ⟨rb,o1,none⟩=some v1∧w'.cell? ⟨rb,o2,none⟩=some v2∧w'.cell? ⟨D,o3,none⟩=some v3:=by
 obtain⟨h1,h2,h3,h4⟩:=h;exact⟨tr_below h1 hb (Xj w _ h1.c0),(hb.cell (Xj w _ h2)).trans h2,(hb.cell (Xj w _ h3)).trans h3,(hb.cell (Xj w _ h4)).trans h4⟩
def podsF (inF:Tr→Bool) (t:Tr) (r:Rd):Int:=if t.k=3 then(if inF t=true then t.tg else 0)else Ned.podF t.k t.tg r.n r.X
def actF (inF:Tr→Bool) (t:Tr) (r:Rd):Bool:=if t.k=3 then inF t else decide (t.ac<Ned.metF t.k r.n r.X)
theorem rd_not (hk:t.k≠3) (hff:failed t r=false):r.f=false:=by
 unfold failed at hff;have:(t.k !=3)=true:=by simp [hk]
 rw [this,Bool.and_true]at hff;exact hff
theorem need_right (t:Tr) (r:Rd) (inF:Tr→Bool) (sec sh:Int) (a:Option Addr) (cap:Nat) (w:World) (hBd:Lai.BdsAt w) (hB:trB t=true) (hU:TrU t) (hff:failed t r=false) (hs: -100000000000≤sec∧sec≤100000000000) (hh: -900≤sh∧sh≤900)
  (hin:t.k=3→(inF t=true↔InP (mt t.a) (mt t.b) (minOf sec sh) sh)) (hm:r.n≤maxLen) (hX:Ned.IntsAt w a r.n r.X):
  CB 177 #[trV t,Ned.rdV r.f a r.n cap,.int .i64 sec,.int .i64 sh] w (.tuple #[Ned.needV (podsF inF t r) (actF inF t r),.int .i64 0]):=by
 unfold podsF actF;by_cases hk:t.k=3
 ·obtain⟨h1,h2,h3⟩:=tr_span hB hk;rw [if_pos hk,if_pos hk];obtain⟨k,tg,ac,ka,kb⟩:=t;dsimp only at hk h1 h2 h3 hin hU;subst hk;have hin:=hin rfl
  have c := Ned.of_span tg ac ka kb r.f a r.n cap sec sh 0 (inF ⟨3, tg, ac, ka, kb⟩) w h1.1 (fun w' hb => by
   refine(sin_yes ka kb sec sh w' (hBd.below hb (Xa _)) hU.a hU.b h2 h3 ((Civ.tm_iff _).2 hs) ((Civ.sh_iff _).2 hh)).mono ?_;rintro e w'' ⟨r',rfl,hr,hb'⟩;refine⟨?_,hb'⟩;have:r'=inF ⟨3,tg,ac,ka,kb⟩:=by
    cases r'<;>cases h:inF ⟨3,tg,ac,ka,kb⟩<;>simp_all
   rw [this])
  refine c.mono ?_;rintro e w' ⟨rfl,hb⟩;refine⟨?_,hb⟩;cases inF ⟨3,tg,ac,ka,kb⟩<;>rfl
 ·obtain⟨h1,h2,h3⟩:=tr_cnt hB hk;rw [if_neg hk,if_neg hk,rd_not hk hff];exact Ned.of_pass t false a r.n cap sec sh _ 0 _ w h1 (fun w' hb=>Ned.ofr_yes t a r.n cap r.X w' h2.1 hm (hX.below hb (Xa _)))
theorem want_right (t:Tr) (r:Rd) (hv tl:Int) (a:Option Addr) (cap:Nat) (w:World) (hB:trB t=true) (hk:t.k≠3) (hff:failed t r=false) (hh:0≤hv∧hv≤50) (ht:0≤tl∧tl≤1000) (hm:r.n≤maxLen) (hX:Ned.IntsAt w a r.n r.X):
  CB 178 #[.int .i64 hv,.int .i64 tl,trV t,Ned.rdV r.f a r.n cap] w (.tuple #[.int .i64 (Ned.wantF hv tl t.k t.tg r.n r.X),.int .i64 0]):=by
 obtain⟨h1,h2,h3⟩:=tr_cnt hB hk;rw [rd_not hk hff];by_cases h0:hv=0
 ·subst h0;have e:Ned.wantF 0 tl t.k t.tg r.n r.X=Ned.podF t.k t.tg r.n r.X:=by unfold Ned.wantF;rw [if_neg (by omega)]
  rw [e];exact Ned.want_none tl t a r.n cap r.X w h1 ht.1 ht.2 h2.1 hm hX
 ·exact Ned.want_some hv tl t a r.n cap r.X w h1 (by omega) hh.2 ht.1 ht.2 h2.1 hm hX
theorem finN1 {fn:Func} {p:Tmp} {Q:Ending→World→Prop} (hres:fn.results=#[.cell p 178]) {ex:Exit} (hex:ex=.ret∨ex=.normal) {a:Act} {Wf:World} {pd:Int} {b:Bool} (hp:a.tmps[p]? =some (.pointer (some ⟨C,0,none⟩))) (ha:a.defers=[])
  (c0:Wf.cell? ⟨C,0,none⟩=some (.int .i64 pd)) (c1:Wf.cell? ⟨C,1,none⟩=some (.bool b)) (hQ:Q (.returned (Ned.needV pd b)) Wf):bodyPost prog fn Q ex a Wf:=by
 have hl:=run_loadVar_mid (P:=prog) Wf C 0 178 _ _ (Ned.range_need c0 c1) underlying178 rfl (by kernel_rfl);have hr:(results fn a.tmps).run prog Wf=.ok (Ned.needV pd b) Wf:=by
  simp only [results,hres];simp [hp,asAddr,hl,Ned.needV]
 rcases hex with rfl|rfl
 ·exact bodyPost_ret hr ha hQ
 ·exact bodyPost_end hr ha hQ
structure A1 (B:Nat) (x:Pl) (p:Pd) (ta:Option Addr) (tc:Nat) (ts:List Tr) (s:Lp) (st:Stb.St) (w:World) (rf:Bool) (sl:Value) (wx:World):Prop where
 a:LAt wx B x p ta tc ts s st
 b:Below w.heap.size w wx
 r0:wx.cell? ⟨w.heap.size,0,none⟩=some (.bool rf)
 r1:wx.cell? ⟨w.heap.size,1,none⟩=some sl
 n0:wx.cell? ⟨w.heap.size+1,0,none⟩=some (.int .i64 0)
 n1:wx.cell? ⟨w.heap.size+1,1,none⟩=some (.bool false)
 z: ∀j,wx.frozen? ⟨w.heap.size+1,j,none⟩=false
 lt:w.heap.size+1<wx.heap.size
theorem A1.below {B:Nat} {x:Pl} {p:Pd} {ta:Option Addr} {tc:Nat} {ts:List Tr} {s:Lp} {st:Stb.St} {w:World} {rf:Bool} {sl:Value} {wx wy:World} (h:A1 B x p ta tc ts s st w rf sl wx) (hb:Below wx.heap.size wx wy):A1 B x p ta tc ts s st w rf sl wy:=by
 have hl:=h.lt;exact⟨h.a.below hb,h.b.trans (hb.mono (by omega)),(hb.cell (p:=⟨w.heap.size,0,none⟩) (by show w.heap.size<_;omega)).trans h.r0,(hb.cell (p:=⟨w.heap.size,1,none⟩) (by show w.heap.size<_;omega)).trans h.r1,(hb.cell (p:=⟨w.heap.size+1,0,none⟩) hl).trans h.n0,(hb.cell (p:=⟨w.heap.size+1,1,none⟩) hl).trans h.n1,fun j=>(hb.frozen (p:=⟨w.heap.size+1,j,none⟩) hl).trans (h.z j),Xb hl hb.size⟩
theorem A1.mk2 {st:Stb.St} {rf:Bool} {sl:Value} {t1 t2:TypeId} (h:LAt w B x p ta tc ts s st):A1 B x p ta tc ts s st w rf sl ((w.alloc (.cells #[.bool rf,sl] t1)).alloc (.cells #[.int .i64 0,.bool false] t2)):=by
 have hb:Below w.heap.size w ((w.alloc (.cells #[.bool rf,sl] t1)).alloc (.cells #[.int .i64 0,.bool false] t2)):=((Below.refl _ _).alloc (Xa _) _).alloc (by simp) _;refine⟨h.below hb,hb,by simp [go_sem],by simp [go_sem],cellN (by simp) rfl,cellN (by simp) rfl,fun j=>frozN (by simp),by simp⟩
theorem one_any (B:Nat) (x:Pl) (p:Pd) (ta:Option Addr) (tc:Nat) (ts:List Tr) (s:Lp) (st:Stb.St) (k:Nat) (sec hv f:Int) (tr:Tr) (rd:Rd) (la:Option Addr) (lc:Nat) (inF:Tr→Bool) (w:World)
  (hA:LAt w B x p ta tc ts s st) (hBd:Lai.BdsAt w) (hP:PlOk p ts) (htr:ts[k]? =some tr) (hTU:TrU tr) (hf:s.fs[k]? =some f) (hff: ¬0<f→failed tr rd=false) (hs: -100000000000≤sec∧sec≤100000000000) (hh:0≤hv∧hv≤50)
  (hIn:tr.k=3→(inF tr=true↔InP (mt tr.a) (mt tr.b) (minOf sec p.sh) p.sh)) (hrm:rd.n≤maxLen) (hrX:Ned.IntsAt w la rd.n rd.X):
  CB 163 #[.pointer (some ⟨x.D,4,none⟩),.int .i64 (k:Int),.int .i64 sec,.int .i64 hv,Ned.rdV rd.f la rd.n lc] w (Ned.needV (stepN p hv inF tr rd f) (stepA inF tr rd f)):=by
 have hi:k<s.fs.length:=(Xe.1 hf).1;have hkt:k<ts.length:=(Xe.1 htr).1;have hi':(k:Int)<(s.fs.length:Int):=by omega
 have hkt':(k:Int)<(ts.length:Int):=by omega
 obtain⟨gF,cF,hvF⟩:=hA.form (by omega);obtain⟨D,vF,V,R⟩:=x;dsimp only at hvF;have hTB:=hP.tr tr (Xk htr);obtain⟨W,hW⟩: ∃W,W=(w.alloc (.cells #[.bool rd.f,.slice la rd.n lc] 149)).alloc (.cells #[.int .i64 0,.bool false] 178):=⟨_,rfl⟩
 have h1:A1 B ⟨D,vF,V,R⟩ p ta tc ts s st w rd.f (.slice la rd.n lc) W:=by rw [hW];exact A1.mk2 hA
 have HW:Hid (W=(w.alloc (.cells #[.bool rd.f,.slice la rd.n lc] 149)).alloc (.cells #[.int .i64 0,.bool false] 178)):=hW;have hX1:=hrX.below h1.b (Xa _);have hB1:=hBd.below h1.b (Xa _);obtain⟨c1,-,-⟩:=h1.a.getF hvF rfl hf;have q1:=h1.a.cF;dsimp only at q1;rw [hvF]at q1;have qtr:=LAtO.at h1.a 17 21 _ rfl;dsimp only at qtr;have H1:Hid (A1 B ⟨D,vF,V,R⟩ p ta tc ts s st w rd.f (.slice la rd.n lc) W):=h1;have cI:=fun W hA=>inst_any B ⟨D,vF,V,R⟩ p ta tc ts s st k hv f W hA hf;dsimp only at cI;obtain⟨tb,toff,rfl,htl,hTr⟩:=TrsAt.elem h1.a.t htr;have hm0:=h1.n0;have hm1:=h1.n1;have hz0:=h1.z 0;have hz1:=h1.z 1;have hRl:=h1.lt;have hNf:Hid (s.fs.length=s.fs.length):=rfl;unfold Ned.rdV;clear hW hA h1 hBd hrX htr;generalize s.fs.length=NF at*;go_enter func163,ntmps163;go_upto_region 1 with fail
 rw [←HW.out];clear HW hNf;by_cases hpos:0<f
 ·have HN:Hid (stepN p hv inF tr rd f=instF p hv f∧stepA inF tr rd f=true):=by unfold Hid stepN stepA instF;rw [if_pos hpos];simp [hpos]
  go_wp2_with(go_at_call 176;(with_reducible refine zg (cI _ H1.out.a) fun w8 hb8=>?_);have n0:=(hb8.cell (p:=⟨w.heap.size+1,0,none⟩) hRl).trans hm0;have n1:=(hb8.cell (p:=⟨w.heap.size+1,1,none⟩) hRl).trans hm1;have z0:=(hb8.frozen (p:=⟨w.heap.size+1,0,none⟩) hRl).trans hz0;have z1:=(hb8.frozen (p:=⟨w.heap.size+1,1,none⟩) hRl).trans hz1)
  obtain⟨m0,m1⟩:=Ned.set2 (.int .i64 (instF p hv f)) (.bool true) n0 n1;refine finN1 results163 (Or.inl rfl) rfl rfl m0 m1 ⟨by rw [HN.out.1,HN.out.2],?_⟩;have hb9:=H1.out.b.trans (hb8.mono H1.out.b.size);exact(hb9.setCell (p:=⟨w.heap.size+1,0,none⟩) (Xm _) _).setCell (p:=⟨w.heap.size+1,1,none⟩) (Xm _) _
 ·have hff':=hff hpos;have hsh:=hP.sh;obtain⟨W1,hW1⟩: ∃W1,W1=W.alloc (.cells (trC tr) 84):=⟨_,rfl⟩
  have hN:TrAt (W.alloc (.cells (trC tr) 84)) W.heap.size 0 tr:=TrAt.new W tr 84;have hT1:TrAt W1 W.heap.size 0 tr:=by rw [hW1];exact hN
  have hz1':W.heap.size<W1.heap.size:=by rw [hW1];simp
  have hb1:Below W.heap.size W W1:=by rw [hW1];exact(Below.refl _ _).alloc (Xa _) _
  have H2:Hid (A1 B ⟨D,vF,V,R⟩ p (some ⟨tb,toff,none⟩) tc ts s st w rd.f (.slice la rd.n lc) W1):=H1.out.below hb1;have hX2:=hX1.below hb1 (Xa _);have hB2:=hB1.below hb1 (Xa _);have HW1:Hid (W1=W.alloc (.cells (trC tr) 84)):=hW1;clear hW1 hm0 hm1 hz0 hz1 cI hb1
  go_upto_region 4 with (first
   |(with_reducible refine wp_tr hTr (by with_unfolding_all rfl) ?_)
   |(with_reducible refine wp_newTr hN (by with_unfolding_all rfl) (by with_unfolding_all rfl) ?_))
  rw [←HW1.out];clear HW1 hN hTr qtr c1 q1 hX1 hB1 H1;generalize hC:W.heap.size=C at*;have hCw:w.heap.size+1<C:=hRl;clear hC;(try simp only [Act.put]);go_cut [12] (fun pv wx=> ∃N:Nat,pv=.pointer (some ⟨N,0,none⟩)∧wx.cell? ⟨N,0,none⟩=some (.int .i64 (podsF inF tr rd))∧wx.cell? ⟨N,1,none⟩=some (.bool (actF inF tr rd))∧wx.frozen? ⟨N,0,none⟩=false∧W1.heap.size≤N∧N<wx.heap.size∧Below W1.heap.size W1 wx)
  case first=>
   as_aux_lemma=>
    obtain⟨wc,hwc⟩: ∃wc,wc=W1:=⟨_,rfl⟩
    subst hwc;have cN:=fun W hBd hX=>need_right tr rd inF sec p.sh la lc W hBd hTB hTU hff' hs hsh hIn hrm hX;have hTc:=hT1;have hzc:=hz1';have hXc:=hX2;have hBc:=hB2;have hXd:Ned.IntsAt wc.drew la rd.n rd.X:=hX2;have hBd:Lai.BdsAt wc.drew:=hB2;have r0:=H2.out.r0;have r1:=H2.out.r1;have qsh:=LAtO.at H2.out.a 8 12 _ rfl;dsimp only at qsh;clear H2 hX2 hB2 hT1;generalize podsF inF tr rd=PD at*;generalize actF inF tr rd=AC at*;refine Tk.sb 15 (S:=fun w'=>TrAt w' C 0 tr∧w'.cell? ⟨w.heap.size,0,none⟩=some (.bool rd.f)∧w'.cell? ⟨w.heap.size,1,none⟩=some (.slice la rd.n lc)∧w'.cell? ⟨D,12,none⟩=some (.int .i64 p.sh)) (⟨drew_tr hTc,r0,r1,qsh⟩) (fun hHeld=> ?_);refine Tk.gm 0 (v:=trV tr) ?_ (hy:=yieldsIf_load_mid (by rfl) 84 (.tmp 11) rfl C 0 (by with_unfolding_all rfl) [.int .i64 tr.k,.int .i64 tr.tg,.int .i64 tr.ac,.int .u64 tr.a.mi,.int .u64 tr.a.ho,.int .u64 tr.a.da,.int .u64 tr.a.mn,.int .u64 tr.a.we,.bool tr.a.ad,.bool tr.a.aw,.int .u64 tr.b.mi,.int .u64 tr.b.ho,.int .u64 tr.b.da,.int .u64 tr.b.mn,.int .u64 tr.b.we,.bool tr.b.ad,.bool tr.b.aw] _ (fun W h=>range_tr h.1) underlying84 rfl (by kernel_rfl))
    iterate 7
     refine Tk.gn ?_
    refine wpAnyH_ready (rs:=[8,12]) (by kernel_rfl) (by simp) ?_;refine AllReadyH.cons rfl (fun K hK=> ?_) (AllReadyH.cons rfl (fun K hK=> ?_) AllReadyH.nil)
    ·go_simp;go_wp2_with(go_at_call 177;(with_reducible refine zg (cN _ hBd hXd) fun w8 hb8=>?_);have s8:=keep4 (w:=wc.drew) ⟨drew_tr hTc,r0,r1,qsh⟩ hb8)
     refine hK.out _ _ s8 (fun hHeld=> ?_);clear hK K;(try simp only [ar])
     iterate 3
      refine Tk.gn ?_
     refine Tk.rn 12 fun K hK=> ?_;go_simp;refine hK.out _ _ (keep4 s8 ((Below.refl _ _).alloc (Xa _) _)) (fun hHeld=> ?_);clear hK K;refine Tk.rn 13 fun K hK=> ?_;go_simp;refine hK.out _ _ (keep4 s8 ((Below.refl _ _).alloc (Xa _) _)) (fun hHeld=> ?_);clear hK K;refine Tk.gm 14 ?_;refine wpAnyH_done (by kernel_rfl) ?_ _;(try go_wp2);go_meet;exact⟨w8.heap.size,rfl,cellN rfl rfl,cellN rfl rfl,frozN rfl,hb8.size,by simp,((bdrew wc).trans hb8).alloc hb8.size _⟩
    ·go_simp;refine hK.out _ _ (keep4 (w:=wc) ⟨hTc,r0,r1,qsh⟩ (((Below.refl _ _).alloc (Xa _) _).drew)) (fun hHeld=> ?_);clear hK K;(try simp only [ar]);have hbD:Below wc.heap.size wc (wc.alloc (.cells #[.int .i64 0,.bool false] 178)).drew:=((Below.refl _ _).alloc (Xa _) _).drew;have hX2:Ned.IntsAt (wc.alloc (.cells #[.int .i64 0,.bool false] 178)).drew la rd.n rd.X:=hXc.below hbD (Xa _);have hB2:Lai.BdsAt (wc.alloc (.cells #[.int .i64 0,.bool false] 178)).drew:=hBc.below hbD (Xa _);have sD:=keep4 (w:=wc) ⟨hTc,r0,r1,qsh⟩ hbD;refine Tk.rn 8 fun K hK=> ?_;go_simp;go_wp2_with(go_at_call 177;(with_reducible refine zg (cN _ hB2 hX2) fun w8 hb8=>?_);have s8:=keep4 sD hb8)
     refine hK.out _ _ s8 (fun hHeld=> ?_);clear hK K
     iterate 3
      refine Tk.gn ?_
     have n0:w8.cell? ⟨wc.heap.size,0,none⟩=some (.int .i64 0):=(hb8.cell (by simp)).trans (cellN rfl rfl);have n1:w8.cell? ⟨wc.heap.size,1,none⟩=some (.bool false):=(hb8.cell (by simp)).trans (cellN rfl rfl);have z0:w8.frozen? ⟨wc.heap.size,0,none⟩=false:=(hb8.frozen (by simp)).trans (frozN rfl);have z1:w8.frozen? ⟨wc.heap.size,1,none⟩=false:=(hb8.frozen (by simp)).trans (frozN rfl);refine Tk.rn 13 fun K hK=> ?_;go_simp;refine hK.out _ _ (keep_put (keep_put s8 ⟨rb_lt r0,cd_lt hzc,rb_lt qsh⟩) ⟨rb_lt r0,cd_lt hzc,rb_lt qsh⟩) (fun hHeld=> ?_);clear hK K;refine Tk.gm 14 ?_;refine wpAnyH_done (by kernel_rfl) ?_ _;(try go_wp2);go_meet;obtain⟨m0,m1⟩:=Ned.set2 (.int .i64 PD) (.bool AC) n0 n1;have hbE:Below wc.heap.size wc w8:=(zu hbD hb8)
     exact⟨wc.heap.size,rfl,m0,m1,by rw [Xi,Xi];exact z0,Xa _,by have:=Xj _ _ m0;exact this,(hbE.setCell (p:=⟨wc.heap.size,0,none⟩) (Xa _) _).setCell (p:=⟨wc.heap.size,1,none⟩) (Xa _) _⟩
  case rest=>
   obtain⟨N,rfl,m0,m1,m2,hNz,hNl,hbc⟩:=hcut;have h2:=H2.out.below hbc;have hTc:=tr_below hT1 hbc hz1';have hXc:=hX2.below hbc (Xa _);have HA:Hid (stepA inF tr rd f=actF inF tr rd):=by unfold Hid stepA actF;simp [hpos]
   have HB2:Hid (Below w.heap.size w W1∧w.heap.size≤W1.heap.size):=⟨H2.out.b,H2.out.b.size⟩
   have k0:=hTc.c0;have hDl:=H2.out.a.lt;dsimp only at hDl;have n0:=h2.n0;have n1:=h2.n1;have z0:=h2.z 0;have z1:=h2.z 1;have r0:=h2.r0;have r1:=h2.r1;have qtl:=LAtO.at h2.a 5 9 _ rfl;dsimp only at qtl;have hRc:=h2.lt;clear h2 H2;by_cases hk3:tr.k=3
   ·have d3:(tr.k !=3)=false:=by simp [hk3]
    have HN:Hid (stepN p hv inF tr rd f=podsF inF tr rd):=by unfold Hid stepN podsF;rw [if_neg hpos,if_pos hk3,if_pos hk3]
    clear hk3 hIn;generalize podsF inF tr rd=PD at*;generalize actF inF tr rd=AC at*;go_wp2;obtain⟨u0,u1⟩:=Ned.set2 (.int .i64 PD) (.bool AC) n0 n1;refine finN1 results163 (Or.inl rfl) rfl rfl u0 u1 ⟨by rw [HN.out,HA.out],?_⟩;exact((HB2.out.1.trans (hbc.mono HB2.out.2)).setCell (p:=⟨w.heap.size+1,0,none⟩) (Xm _) _).setCell (p:=⟨w.heap.size+1,1,none⟩) (Xm _) _
   ·have d3:(tr.k !=3)=true:=by simp [hk3]
    have HN:Hid (stepN p hv inF tr rd f=Ned.wantF hv p.tl tr.k tr.tg rd.n rd.X):=by unfold Hid stepN;rw [if_neg hpos,if_neg hk3]
    have cW:=fun W hX=>want_right tr rd hv p.tl la lc W hTB hk3 hff' hh hP.tl hrm hX;have hXd:Ned.IntsAt wc.drew la rd.n rd.X:=hXc;have hn1:N≠w.heap.size:=(by omega);have hn2:N≠C:=(by omega);have hn3:N≠D:=(by omega);have hn4:N≠w.heap.size+1:=(by omega);clear hk3 hIn;generalize podsF inF tr rd=PD at*;generalize actF inF tr rd=AC at*;generalize Ned.wantF hv p.tl tr.k tr.tg rd.n rd.X=WF at*;go_wp2_with fail
    refine Tk.sb 14 (S:=fun w'=>TrAt w' C 0 tr∧w'.cell? ⟨w.heap.size,0,none⟩=some (.bool rd.f)∧w'.cell? ⟨w.heap.size,1,none⟩=some (.slice la rd.n lc)∧w'.cell? ⟨D,9,none⟩=some (.int .i64 p.tl)) (⟨drew_tr hTc,r0,r1,qtl⟩) (fun hHeld=> ?_)
    iterate 6
     refine Tk.gn ?_
    refine Tk.gm 6 (v:=trV tr) ?_ (hy:=yieldsIf_load_mid (by rfl) 84 (.tmp 11) rfl C 0 (by with_unfolding_all rfl) [.int .i64 tr.k,.int .i64 tr.tg,.int .i64 tr.ac,.int .u64 tr.a.mi,.int .u64 tr.a.ho,.int .u64 tr.a.da,.int .u64 tr.a.mn,.int .u64 tr.a.we,.bool tr.a.ad,.bool tr.a.aw,.int .u64 tr.b.mi,.int .u64 tr.b.ho,.int .u64 tr.b.da,.int .u64 tr.b.mn,.int .u64 tr.b.we,.bool tr.b.ad,.bool tr.b.aw] _ (fun W h=>range_tr h.1) underlying84 rfl (by kernel_rfl));refine Tk.gm 7 ?_;refine Tk.rn 8 fun K hK=> ?_;go_simp;go_wp2_with((go_at_call 178;(with_reducible refine zg (cW _ hXd) fun w8 hb8=>?_);have s8:=keep4 (w:=wc.drew) ⟨drew_tr hTc,r0,r1,qtl⟩ hb8;have p0:=(hb8.cell (p:=⟨N,0,none⟩) hNl).trans m0;have p1:=(hb8.cell (p:=⟨N,1,none⟩) hNl).trans m1;have zN:=(hb8.frozen (p:=⟨N,0,none⟩) hNl).trans m2))
    refine hK.out _ _ (s8) (fun hHeld=> ?_);clear hK K
    iterate 4
     refine Tk.gn ?_
    refine Tk.rn 13 fun K hK=> ?_;go_simp;refine hK.out _ _ (keep_put s8 ⟨fun e=>hn1 e.symm,fun e=>hn2 e.symm,fun e=>hn3 e.symm⟩) (fun hHeld=> ?_);clear hK K;refine wpAnyH_done (by kernel_rfl) ?_ _;have e9: ∀b o,(b≠N∨o≠0)→(w8.setCell ⟨N,0,none⟩ (.int .i64 WF)).cell? ⟨b,o,none⟩=w8.cell? ⟨b,o,none⟩:=fun b o hb=>by
     rw [Xd (h:=fun e=>by have a:=congrArg Addr.block e;have b:=congrArg Addr.off e;simp at a b;omega)]
    have g0:(w8.setCell ⟨N,0,none⟩ (.int .i64 WF)).cell? ⟨N,0,none⟩=some (.int .i64 WF):=Xn _ _ _ p0;have g1:=(e9 N 1 (Or.inr (by decide))).trans p1;have n0':=(e9 (w.heap.size+1) 0 (Or.inl (by omega))).trans ((hb8.cell (p:=⟨w.heap.size+1,0,none⟩) hRc).trans n0);have n1':=(e9 (w.heap.size+1) 1 (Or.inl (by omega))).trans ((hb8.cell (p:=⟨w.heap.size+1,1,none⟩) hRc).trans n1);have z0':(w8.setCell ⟨N,0,none⟩ (.int .i64 WF)).frozen? ⟨w.heap.size+1,0,none⟩=false:=by rw [Xi];exact(hb8.frozen (p:=⟨w.heap.size+1,0,none⟩) hRc).trans z0
    have z1':(w8.setCell ⟨N,0,none⟩ (.int .i64 WF)).frozen? ⟨w.heap.size+1,1,none⟩=false:=by rw [Xi];exact(hb8.frozen (p:=⟨w.heap.size+1,1,none⟩) hRc).trans z1
    have hb9:Below w.heap.size w (w8.setCell ⟨N,0,none⟩ (.int .i64 WF)):=by
     have h5:=(HB2.out.1.trans (hbc.mono HB2.out.2)).drew.trans (hb8.mono (Xc HB2.out.2 hbc.size));exact h5.setCell (p:=⟨N,0,none⟩) (by show _≤N;omega) _
    have HB9:Hid (Below w.heap.size w (w8.setCell ⟨N,0,none⟩ (.int .i64 WF))):=hb9;clear hb9 e9 hHeld s8 p0 p1 hb8 z0 z1 n0 n1 m0 m1 m2;generalize w8.setCell ⟨N,0,none⟩ (.int .i64 WF)=W9 at*;go_wp2;obtain⟨u0,u1⟩:=Ned.set2 (.int .i64 WF) (.bool AC) n0' n1';refine finN1 results163 (Or.inl rfl) rfl rfl u0 u1 ⟨by rw [HN.out,HA.out],?_⟩;exact(HB9.out.setCell (p:=⟨w.heap.size+1,0,none⟩) (Xm _) _).setCell (p:=⟨w.heap.size+1,1,none⟩) (Xm _) _
theorem fsK_all: ∀ {ts:List Tr} {rs:List Rd} {fs:List Int} {n k:Nat} {t:Tr} {r:Rd} {f:Int},k<n→ts[k]? =some t→rs[k]? =some r→fs[k]? =some f→(fsK ts rs fs n)[k]? =some (stepF t r f)
 | [],_,_,_,_,_,_,_,_,h,_,_=>by simp at h
 |_::_,[],_,_,_,_,_,_,_,_,h,_=>by simp at h
 |_::_,_::_,[],_,_,_,_,_,_,_,_,h=>by simp at h
 |_::_,_::_,_::_,0,_,_,_,_,h,_,_,_=>by omega
 |x::ts,y::rs,g::fs,n+1,0,t,r,f,_,h1,h2,h3=>by
  simp at h1 h2 h3
  subst h1 h2 h3
  simp [fsK]
 |x::ts,y::rs,g::fs,n+1,k+1,t,r,f,h,h1,h2,h3=>by
  simp only [fsK,List.getElem?_cons_succ]
  exact fsK_all (by omega) (by simpa using h1) (by simpa using h2) (by simpa using h3)
theorem stepF_not {f:Int} (h0:0≤f) (h: ¬0<stepF t r f):failed t r=false:=by
 cases e:failed t r with
 |false=>rfl
 |true=>unfold stepF at h;rw [e]at h;simp at h;omega
theorem aK_or (b:Bool) (inF:Tr→Bool) (ts:List Tr) (rs:List Rd) (fs:List Int): ∀k,aK b inF ts rs fs k=(aK false inF ts rs fs k||b)
 |0=>by simp [aK]
 |k+1=>by
  have ih:=aK_or b inF ts rs fs k
  simp only [aK]
  split
  ·rw [ih];cases aK false inF ts rs fs k<;>cases b<;>simp
  ·exact ih
def LaR (B:Nat) (x:Pl) (p:Pd) (ta:Option Addr) (tc:Nat) (ts:List Tr) (rs:List Rd) (fs:List Int) (s:Lp) (st:Stb.St) (hv:Int) (inF:Tr→Bool) (w:World) (W N i:Value) (wr:World):Prop:=
 ∃k:Nat,k≤ts.length∧i=.int .i64 k∧W=.int .i64 (wK p hv inF ts rs fs k)∧N=.bool (aK false inF ts rs fs k)∧LAt wr B x p ta tc ts s st∧Below w.heap.size w wr
theorem ask_any (B:Nat) (x:Pl) (p:Pd) (ta ra:Option Addr) (tc rc:Nat) (ts:List Tr) (rs:List Rd) (fs:List Int) (s:Lp) (st:Stb.St) (sec hv:Int) (inF:Tr→Bool) (w:World)
  (hA:LAt w B x p ta tc ts s st) (hBd:Lai.BdsAt w) (hP:PlOk p ts) (hU: ∀t∈ts,TrU t) (hfs:s.fs=fsK ts rs fs ts.length) (hfl:fs.length=ts.length) (hfo:FsOk fs 1000000) (hR:RdsAt w ra rs) (hrl:rs.length=ts.length) (hs: -100000000000≤sec∧sec≤100000000000) (hh:0≤hv∧hv≤50)
  (hIF: ∀t∈ts,t.k=3→(inF t=true↔InP (mt t.a) (mt t.b) (minOf sec p.sh) p.sh)):
  CB 139 #[.pointer (some ⟨x.D,4,none⟩),.int .i64 sec,.int .i64 hv,.slice ra rs.length rc] w (.tuple #[.int .i64 (wK p hv inF ts rs fs ts.length),.bool (aK false inF ts rs fs ts.length)]):=by
 have qtr:=LAtO.at hA 17 21 _ rfl;rw [hrl];have hl5:=hP.len;have HA:Hid (LAt w B x p ta tc ts s st):=hA;clear hA;go_enter func139,ntmps139;go_wp2_with fail
 go_loopw [10,11,20] (fun W N i wr=>LaR B x p ta tc ts rs fs s st hv inF w W N i wr) (fun _ _ i _=>ts.length-(intOf i).toNat)
 case atStart=>exact⟨0,by omega,rfl,rfl,rfl,HA.out,Below.refl _ _⟩
 case round=>
  clear HA qtr;obtain⟨k,hk,rfl,rfl,rfl,hAr,hbr⟩:=hrel;by_cases hlt:k<ts.length
  ·have hlt':(k:Int)<(ts.length:Int):=by omega
   have hk5:k<5:=by omega
   obtain⟨tr,htr⟩: ∃tr,ts[k]? =some tr:=⟨ts[k],by simp [hlt]⟩
   obtain⟨rd,hrd⟩: ∃rd,rs[k]? =some rd:=⟨rs[k]'(by omega),by simp⟩
   obtain⟨f,hf⟩: ∃f,fs[k]? =some f:=⟨fs[k]'(by omega),by simp⟩
   have hfb:=hfo f (Xk hf);have hsf:s.fs[k]? =some (stepF tr rd f):=by rw [hfs];exact fsK_all hlt htr hrd hf
   have hRr:=hR.below hbr (Xa _);obtain⟨rb,roff,la,lc,rfl,hrbl,r0,r1,hrm,hrX⟩:=hRr k rd hrd;have c1:=one_any B x p ta tc ts s st k sec hv (stepF tr rd f) tr rd la lc inF wr hAr (hBd.below hbr (Xa _)) hP htr (hU tr (Xk htr)) hsf (stepF_not hfb.1) hs hh (hIF tr (Xk htr)) hrm hrX;unfold Ned.rdV at c1;have hw:=wK_step (p:=p) (hv:=hv) (inF:=inF) htr hrd hf;have ha:=aK_step (b:=false) (inF:=inF) htr hrd hf
   have HX:Hid (∀w2,Below wr.heap.size wr w2→LaR B x p ta tc ts rs fs s st hv inF w (.int .i64 (max (wK p hv inF ts rs fs k) (stepN p hv inF tr rd (stepF tr rd f)))) (.bool (aK false inF ts rs fs k||stepA inF tr rd (stepF tr rd f))) (.int .i64 ((k+1:Nat):Int)) w2):=fun w2 hb2=>
    ⟨k+1,hlt,rfl,by rw [hw],by rw [ha],hAr.below hb2,(zu hbr hb2)⟩
   clear hw ha hAr hbr hRr hsf hfb hR hrX hrm hrbl hfs;unfold Ned.needV at c1;generalize stepN p hv inF tr rd (stepF tr rd f)=NN at*;generalize stepA inF tr rd (stepF tr rd f)=AA at*;generalize wK p hv inF ts rs fs k=WW at*;cases hak:aK false inF ts rs fs k
   ·rw [hak]at HX;go_wp2_with(go_at_call 163;(with_reducible refine zg c1 fun w8 hb8=>?_))
    go_roundw
    case rel=>exact HX.out _ (hb8.alloc hb8.size _)
    case measure=>simp [intOf];omega
   ·rw [hak]at HX;go_wp2_with(go_at_call 163;(with_reducible refine zg c1 fun w8 hb8=>?_))
    go_roundw
    case rel=>exact HX.out _ (hb8.alloc hb8.size _)
    case measure=>simp [intOf];omega
  ·obtain rfl:k=ts.length:=by omega
   have HB:Hid (Below w.heap.size w wr):=hbr;clear hAr hbr hR;go_wp2;go_ret2;exact⟨rfl,HB.out⟩

theorem LAtO.setLk2 {st:Stb.St} (h:LAt w B x p ta tc ts s st) (now:Int):LAt ((w.setCell ⟨x.D,39,none⟩ (.int .i64 now)).setCell ⟨x.D,38,none⟩ (.bool true)) B x p ta tc ts ⟨s.fs,true,now,s.nd,s.pa⟩ st:=by
 obtain⟨z,hz1,hz2⟩:=h.pa
 have h1:LAt (w.setCell ⟨x.D,39,none⟩ (.int .i64 now)) B x p ta tc ts ⟨s.fs,s.lk,now,s.nd,s.pa⟩ st:=
  h.setN (by decide) (by decide) rfl (by simp [go_sem,h.lk]) (by simp [go_sem,h.la]) (by simp [go_sem,h.nd]) (by simp [go_sem,h.pd]) ⟨z,by simp [go_sem,hz1],hz2⟩
 exact h1.setN (by decide) (by decide) rfl (by simp [go_sem,h.lk]) (by simp [go_sem,h.la]) (by simp [go_sem,h.nd]) (by simp [go_sem,h.pd]) ⟨z,by simp [go_sem,hz1],hz2⟩
def lookP (p:Pd) (s:Lp) (st:Stb.St) (now hv WK:Int) (AK:Bool):Int:=if 0≤s.pa then s.pa else toldF p (Stb.setN st now hv (askF p WK (lowF p hv now s.nd AK))) (lowF p hv now s.nd AK)
def nextS (p:Pd) (s:Lp) (st:Stb.St) (now hv WK:Int) (AK:Bool):Stb.St:=if 0≤s.pa then st else Stb.setS st now hv (askF p WK (lowF p hv now s.nd AK))
def PLookA (B:Nat) (x:Pl) (p:Pd) (ta:Option Addr) (tc:Nat) (ts:List Tr) (rs:List Rd) (s:Lp) (st:Stb.St) (now hv WK:Int) (AK:Bool) (w:World) (e:Ending) (w':World):Prop:=
 e=.returned (.tuple #[.int .i64 (lookP p s st now hv WK AK),.int .i64 0])∧ ∃V',LAt w' B ⟨x.D,x.vF,V',x.R⟩ p ta tc ts (nextL s ts rs now AK) (nextS p s st now hv WK AK)∧Mv (blk x) (blk ⟨x.D,x.vF,V',x.R⟩) w w'
structure L4 (B:Nat) (x:Pl) (p:Pd) (ta:Option Addr) (tc:Nat) (ts:List Tr) (s:Lp) (st:Stb.St) (w wx:World):Prop where
 a:LAt wx B x p ta tc ts s st
 m:Mv (blk x) (blk x) w wx
 e:wx.cell? ⟨w.heap.size,0,none⟩=some (.pointer (some ⟨x.D,4,none⟩))
theorem L4.below {B:Nat} {x:Pl} {p:Pd} {ta:Option Addr} {tc:Nat} {ts:List Tr} {s:Lp} {st:Stb.St} {w wx wy:World} (h:L4 B x p ta tc ts s st w wx) (hb:Below wx.heap.size wx wy):L4 B x p ta tc ts s st w wy:=
 ⟨h.a.below hb,h.m.trans (Mv.of_below hb),(hb.cell (Xj wx _ h.e)).trans h.e⟩
theorem mv_cell {b b':Nat→Prop} (m:Mv b b' w w') (h:w.cell? ⟨C,j,none⟩=some v) (hn: ¬b C):w'.cell? ⟨C,j,none⟩=some v:=
 (Xf (w:=w) (a:=⟨C,j,none⟩) (m.block C (Xj w _ h) hn)).trans h
theorem L4.next {s':Lp} {st:Stb.St} {wx wy:World} (h:L4 B x p ta tc ts s st w wx) (ha:LAt wy B x p ta tc ts s' st) (m:Mv (blk x) (blk x) wx wy) (hn: ¬blk x w.heap.size):L4 B x p ta tc ts s' st w wy:=
 ⟨ha,h.m.trans m,mv_cell m h.e hn⟩
theorem plook_any (B:Nat) (x:Pl) (p:Pd) (ta ra:Option Addr) (tc rc:Nat) (ts:List Tr) (rs:List Rd) (s:Lp) (st:Stb.St) (now sec hv:Int) (busy:Bool) (inF:Tr→Bool) (w:World)
  (hA:LAt w B x p ta tc ts s st) (hBd: ∀wr,Mv (blk x) (blk x) w wr→Lai.BdsAt wr) (hP:PlOk p ts) (hU: ∀t∈ts,TrU t) (hfl:s.fs.length=ts.length) (hfo:FsOk s.fs 1000000) (hR: ∀wr,Mv (blk x) (blk x) w wr→RdsAt wr ra rs) (hrl:rs.length=ts.length)
  (hIF: ∀t∈ts,t.k=3→(inF t=true↔InP (mt t.a) (mt t.b) (minOf sec p.sh) p.sh)) (hn:s.la≤now∧now≤1099511627776) (hs: -100000000000≤sec∧sec≤100000000000) (hh:0≤hv∧hv≤50) (hnd:0≤s.nd∧s.nd≤1099511627776) (hl0:0≤s.la) (kC:Nat) (hF:Stb.Fit st kC) (hkC:kC≤900000):
  Calls prog 111 #[.pointer (some ⟨x.D,4,none⟩),.int .i64 now,.int .i64 sec,.int .i64 hv,.slice ra rs.length rc,.bool busy] w (PLookA B x p ta tc ts rs s st now hv (wK p hv inF ts rs s.fs ts.length) (aK busy inF ts rs s.fs ts.length) w):=by
 have hAX:=hA;obtain⟨D,vF,V,R⟩:=x;obtain⟨W0,hW0⟩: ∃W0,W0=w.alloc (.cells #[.pointer (some ⟨D,4,none⟩)] 41):=⟨_,rfl⟩
 have HW0:=zh hW0;have hb0:Below w.heap.size w W0:=by rw [hW0];exact(Below.refl _ _).alloc (Xa _) _
 have hE0:W0.cell? ⟨w.heap.size,0,none⟩=some (.pointer (some ⟨D,4,none⟩)):=by rw [hW0];exact cellN rfl rfl
 have HB0:=zh hb0;have hA0:=hAX.below hb0;have cI1:=itime_any B ⟨D,vF,V,R⟩ p ta tc ts s st now W0 hA0;have cI2:=fun w=>isec_any sec w;have cI3:=fun w=>lmay_any hv w;have qtr:=LAtO.at hA0 17 21 _ rfl;dsimp only at qtr cI1;rw [(rg_iff _ _ _).2 hn]at cI1;have cI2:=fun w=>(isec_any sec w)
 rw [(rg_iff _ _ _).2 hs]at cI2;rw [(rg_iff _ _ _).2 hh]at cI3;have hnb: ¬blk ⟨D,vF,V,R⟩ w.heap.size:=fun e=>by have:=(hAX.blt e).2;omega
 have qlk:=hA0.lk;have qla:=hA0.la;have f34:=hA0.fz 38;have f35:=hA0.fz 39;dsimp only at qlk qla f34 f35;have h0:L4 B ⟨D,vF,V,R⟩ p ta tc ts s st w W0:=⟨hA0,Mv.of_below hb0,hE0⟩
 have H0:=zh h0;have hl5:=hP.len;clear hA hAX hA0 hb0 hW0 h0;rw [hrl];go_enter func111,ntmps111;go_upto_region 1 with fail
 rw [←HW0.out];go_upto_region 3 with(first|(go_at_call 135;(with_reducible refine zq cI1 ?_))|(go_at_call 136;(with_reducible refine zq (cI2 _) ?_))|(go_at_call 137;(with_reducible refine zq (cI3 _) ?_)))
 clear cI1 cI2 cI3 qtr HW0 HB0;go_cut [] (fun wx=>L4 B ⟨D,vF,V,R⟩ p ta tc ts ⟨s.fs,true,now,s.nd,s.pa⟩ st w wx)
 case first=>
  have HG1:Hid (L4 B ⟨D,vF,V,R⟩ p ta tc ts ⟨s.fs,true,now,s.nd,s.pa⟩ st w (((W0.drew).setCell ⟨D,38,none⟩ (.bool true)).setCell ⟨D,39,none⟩ (.int .i64 now))):=(H0.out.below (bdrew _)).next ((H0.out.below (bdrew _)).a.setLk now) ((Mv.set (Or.inr (Or.inl rfl)) _).trans (Mv.set (Or.inr (Or.inl rfl)) _)) hnb;have HG2:Hid (L4 B ⟨D,vF,V,R⟩ p ta tc ts ⟨s.fs,true,now,s.nd,s.pa⟩ st w (((W0.drew).setCell ⟨D,39,none⟩ (.int .i64 now)).setCell ⟨D,38,none⟩ (.bool true))):=(H0.out.below (bdrew _)).next ((H0.out.below (bdrew _)).a.setLk2 now) ((Mv.set (Or.inr (Or.inl rfl)) _).trans (Mv.set (Or.inr (Or.inl rfl)) _)) hnb;clear H0;go_region
  all_goals
   go_wp2;go_meet
   first
    |exact HG1.out
    |exact HG2.out
 case rest=>
  clear qlk qla f34 f35 H0 hE0;have HC:=zh hcut;have cE:=hcut.e;have cF:=cfails_any B ⟨D,vF,V,R⟩ p ta ra tc rc ts rs ⟨s.fs,true,now,s.nd,s.pa⟩ st wc hcut.a hfl hfo (fun wr m=>hR wr (hcut.m.trans m)) hrl hl5;rw [hrl]at cF;dsimp only at cF cE;clear hcut;go_upto_region 5 with(go_at_call 138;(with_reducible refine cF.mono ?_);rintro e w1 ⟨rfl,hA1,hm1⟩;have h1:=HC.out.next hA1 hm1 hnb;clear hA1 hm1)
  clear HC cF cE;have cE:=h1.e;have qpd:=h1.a.pd;obtain⟨z,qpa,hz⟩:=h1.a.pa;dsimp only at cE qpd qpa hz;have H1:=zh h1;have hWK:=aK_or busy inF ts rs s.fs ts.length;by_cases hpa:0≤s.pa
  ·have dpa:decide (0≤s.pa)=true:=by simp [hpa]
   rw [dpa]at qpd;obtain rfl:=hz hpa;have HE:Hid (PLookA B ⟨D,vF,V,R⟩ p ta tc ts rs s st now hv (wK p hv inF ts rs s.fs ts.length) (aK busy inF ts rs s.fs ts.length) w (.returned (.tuple #[.int .i64 s.pa,.int .i64 0])) w1):=by
    refine⟨by unfold lookP;rw [if_pos hpa],V,?_,H1.out.m⟩;unfold nextL nextS;rw [if_pos hpa,if_neg (fun h=>by have:=h.1;omega)];exact H1.out.a
   clear hWK h1 hR hBd hIF;go_wp2;go_ret2;exact HE.out
  ·have dpa:decide (0≤s.pa)=false:=by simp;omega
   rw [dpa]at qpd;have hnp:s.pa<0:=by omega
   have cA:=ask_any B ⟨D,vF,V,R⟩ p ta ra tc rc ts rs s.fs ⟨fsK ts rs s.fs ts.length,true,now,s.nd,s.pa⟩ st sec hv inF w1 h1.a (hBd w1 h1.m) hP hU rfl hfl hfo (hR w1 h1.m) hrl hs hh hIF;rw [hrl]at cA;dsimp only at cA;have HWK:=zh hWK;generalize wK p hv inF ts rs s.fs ts.length=WK at*;generalize aK false inF ts rs s.fs ts.length=AF at*;clear hWK h1 hR hBd hIF hz qpa;go_upto_region 8 with(go_at_call 139;(with_reducible refine zg cA fun w2 hb2=>?_);have H2:Hid (L4 B ⟨D,vF,V,R⟩ p ta tc ts ⟨fsK ts rs s.fs ts.length,true,now,s.nd,s.pa⟩ st w w2):=H1.out.below hb2;clear hb2)
   clear cA H1 qpd cE;go_cut [15] (fun nv wx=>nv=.bool (AF||busy)∧wx=w2)
   case first=>
    cases AF
    ·go_wp2;go_meet;exact⟨rfl,rfl⟩
    ·go_wp2;go_meet;exact⟨rfl,rfl⟩
   case rest=>
    obtain⟨rfl,hwx⟩:=hcut;subst hwx;generalize (AF||busy)=AK at*;have hnL:nextL s ts rs now AK=⟨fsK ts rs s.fs ts.length,true,now,if AK=true then now else s.nd,s.pa⟩:=by
     unfold nextL;cases AK<;>simp [hnp]
    have cE:=H2.out.e;have qnd:=H2.out.a.nd;have f36:=H2.out.a.fz 40;dsimp only at cE qnd f36;have HNL:=zh hnL;clear hnL;go_upto_if 75 with fail
    go_cut [] (fun wx=>L4 B ⟨D,vF,V,R⟩ p ta tc ts (nextL s ts rs now AK) st w wx)
    case first=>
     cases AK
     ·have HX:Hid (L4 B ⟨D,vF,V,R⟩ p ta tc ts (nextL s ts rs now false) st w wc):=by unfold Hid;rw [HNL.out];exact H2.out
      clear HNL;go_wp2;go_meet;exact HX.out
     ·have HX:Hid (L4 B ⟨D,vF,V,R⟩ p ta tc ts (nextL s ts rs now true) st w (wc.setCell ⟨D,40,none⟩ (.int .i64 now))):=by
       unfold Hid;rw [HNL.out];exact H2.out.next (H2.out.a.setNd now) (Mv.set (Or.inr (Or.inl rfl)) _) hnb
      clear HNL;go_wp2;go_meet;exact HX.out
    case rest=>
     clear cE qnd f36 H2;have hn0:0≤now:=(by omega);have hlow:lowF p hv now (nextL s ts rs now AK).nd AK=lowF p hv now s.nd AK:=by
      rw [HNL.out];cases AK
      ·rfl
      ·unfold lowF;rw [if_pos rfl,if_pos rfl]
     have hndN:0≤(nextL s ts rs now AK).nd∧(nextL s ts rs now AK).nd≤1099511627776:=by
      rw [HNL.out];cases AK
      ·exact hnd
      ·exact⟨hn0,hn.2⟩
     have cL:=low_any B ⟨D,vF,V,R⟩ p ta tc ts (nextL s ts rs now AK) st now hv AK wc hcut.a hP ⟨hn0,hn.2⟩ hndN;rw [hlow]at cL;dsimp only at cL;have HC:=zh hcut;have cE:=hcut.e;dsimp only at cE;have hLK:lookP p s st now hv WK AK=toldF p (Stb.setN st now hv (askF p WK (lowF p hv now s.nd AK))) (lowF p hv now s.nd AK):=by unfold lookP;rw [if_neg (by omega)]
     have hNS:nextS p s st now hv WK AK=Stb.setS st now hv (askF p WK (lowF p hv now s.nd AK)):=by unfold nextS;rw [if_neg (by omega)]
     have HLS:Hid (lookP p s st now hv WK AK=toldF p (Stb.setN st now hv (askF p WK (lowF p hv now s.nd AK))) (lowF p hv now s.nd AK)∧nextS p s st now hv WK AK=Stb.setS st now hv (askF p WK (lowF p hv now s.nd AK))):=⟨hLK,hNS⟩
     clear hlow hndN hcut HNL hLK hNS;generalize lowF p hv now s.nd AK=LOW at*;go_upto_region 13 with(go_at_call 140;(with_reducible refine zg cL fun w3 hb3=>?_);have H3:Hid (L4 B ⟨D,vF,V,R⟩ p ta tc ts (nextL s ts rs now AK) st w w3):=HC.out.below hb3;have cE3:=H3.out.e;dsimp only at cE3;clear hb3)
     have hCn: ¬blk ⟨D,vF,V,R⟩ w3.heap.size:=fun e=>by have:=(H3.out.a.blt e).2;omega
     have h4:=H3.out.below ((Below.refl _ _).alloc (Xa _) (.cells #[.int .i64 LOW] 3));have cC:(w3.alloc (.cells #[.int .i64 LOW] 3)).cell? ⟨w3.heap.size,0,none⟩=some (.int .i64 LOW):=cellN rfl rfl;have cE4:=h4.e;have cM4:=LAtO.at h4.a 2 6 _ rfl;dsimp only at cE4 cM4;have H4:=zh h4;clear h4 H3 cE3 cE HC cL;generalize w3.alloc (.cells #[.int .i64 LOW] 3)=W4 at*;generalize w3.heap.size=C at*;have cB:=bound_any ⟨D,vF,V,R⟩ p WK LOW C w.heap.size W4.drew cM4 cC cE4;have cBn:=fun n W h1 h2 h3=>bound_any ⟨D,vF,V,R⟩ p n LOW C w.heap.size W h1 h2 h3;have hAs:toldF p WK LOW=askF p WK LOW:=rfl;rw [hAs]at cB;generalize askF p WK LOW=ASK at*;dsimp only at cB cBn;clear hAs
     as_aux_lemma=>
      refine Tk.sb 14 (S:=fun w'=>w'.cell? ⟨w.heap.size,0,none⟩=some (.pointer (some ⟨D,4,none⟩))) (cE4) (fun hHeld=> ?_)
      iterate 7
       refine Tk.gn ?_
      refine Tk.rn 7 fun K hK=> ?_;go_simp;go_wp2_with((go_at_call 141;(with_reducible refine zg cB fun w5 hb5=>?_);have H5:Hid (L4 B ⟨D,vF,V,R⟩ p ta tc ts (nextL s ts rs now AK) st w w5):=(H4.out.below (bdrew _)).below hb5;have cE5:=H5.out.e;dsimp only at cE5;have cC5:=(hb5.cell (Xj W4 _ cC)).trans cC))
      refine hK.out _ _ (cE5) (fun hHeld=> ?_);clear hK K;refine Tk.rn 8 fun K hK=> ?_;go_simp;go_wp2_with((go_at_call 142;(with_reducible refine(Stb.set_any B D 22 V st now hv ASK kC w5 H5.out.a.sa hF hkC).mono ?_);rintro e w6 ⟨rfl,V6,hs6,hm6⟩;have h6:=H5.out.a.stab hm6 hs6;have cE6:=mv_cell h6.2 cE5 hnb;have cC6:=mv_cell h6.2 cC5 hCn;have cM6:=LAtO.at h6.1 2 6 _ rfl;dsimp only at cM6))
      refine hK.out _ _ (cE6) (fun hHeld=> ?_);clear hK K
      iterate 5
       refine Tk.gn ?_
      refine wpAnyH_done (by kernel_rfl) ?_ _;(try go_wp2_with(go_at_call 141;(with_reducible refine zg (cBn _ _ cM6 cC6 cE6) fun w7 hb7=>?_)));go_ret2;refine⟨by rw [HWK.out,HLS.out.1];rfl,V6,?_,?_⟩
      ·rw [HWK.out,HLS.out.2];exact h6.1.below hb7
      ·exact H5.out.m.trans (h6.2.trans (Mv.of_below hb7))
