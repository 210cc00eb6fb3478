/- A part. -/
import Derived.Test.YtaekecgbdegemaaGreatDoorPtBackPlan
import Derived.Test.YtaekecgbdegemaaGreatDoorPtLopNew
import Derived.Test.YtaekecgbdegemaaGreatDoorPtDskDate
set_option linter.all false
open Go.Proofs.Tryz
set_option maxHeartbeats 32000000
set_option maxRecDepth 8000
namespace Go.Proofs.YtaekecgbdegemaaGreatDoor
namespace Dsk
open Go.RowKit Lai Crn Pln Pie Wld Lop Lpp
variable {B R C k:Nat} {rd:List UInt8→Option K} {a:Act} {Wf w0:World} {t:List UInt8} {f:Value} {z:Int}

structure Gv (w:World):Prop where
 g:Gd w
 e:EtAt w
 n:NeAt w
theorem Gv.below {w w':World} (h:Gv w) (hb:Below w.heap.size w w'):Gv w':=⟨h.g.below hb,h.e.below hb,h.n.below hb⟩
def GB (n:Nat) (w:World):Prop:= ∃w0,Gv w0∧w0.heap.size≤n∧Below w0.heap.size w0 w
theorem GB.gv {n:Nat} {w:World} (h:GB n w):Gv w:=by
 obtain⟨w0,a,_,d⟩:=h;exact a.below d
theorem GB.mv {n:Nat} {b b':Nat→Prop} {w w':World} (h:GB n w) (hb: ∀k,b k→n≤k) (m:Mm.Mv b b' w w'):GB n w':=by
 obtain⟨w0,a,e,d⟩:=h;exact⟨w0,a,e,d.trans (m.below (fun k hk=>Xc e (hb k hk)) d.size)⟩
theorem GB.bas {n:Nat} {w:World} (h:GB n w) (hB:n≤B):Bas B w:=by
 obtain⟨w0,a,e,d⟩:=h;exact⟨w0,a.g.b,Xc e hB,d⟩
structure DS where
 t:List UInt8
 w:Option (Pd×List Tr×WS)
def WoAt (w:World) (D:Nat):Option (Pd×List Tr×WS)→(Nat→Prop)→Prop
 |none,b=>w.cell? ⟨D,1,none⟩=some (.pointer none)∧b=(· =D)
 |some (p,ts,S),b=> ∃B c,w.cell? ⟨D,1,none⟩=some (.pointer (some ⟨c.x.D,0,none⟩))∧WAt w B c p ts S∧D<B∧b=fun k=>k=D∨bk c ts k
structure DAt (w:World) (D:Nat) (s:DS) (b:Nat→Prop):Prop where
 t:w.cell? ⟨D,0,none⟩=some (strV s.t)
 f: ∀j,w.frozen? ⟨D,j,none⟩=false
 g:GB D w
 w:WoAt w D s.w b
def DInv (s:DS) (n:Nat):Prop:=s.t.length≤2048∧ ∀p ts S,s.w=some (p,ts,S)→WI ts S n (1000*n)∧PlOk p ts∧ ∀t∈ts,TrU t
theorem DInv.more {s:DS} {n:Nat} (h:DInv s n):DInv s (n+1):=⟨h.1,fun p ts S e=>⟨(h.2 p ts S e).1.mono (by omega) (by omega),(h.2 p ts S e).2⟩⟩
section
variable {w w' : World} {D : Nat} {s : DS} {b b' : Nat → Prop}
theorem DAt.low (h:DAt w D s b): ∀k,b k→D≤k∧k<w.heap.size:=by
 have hD:=Xj w _ h.t;have hw:=h.w;intro k hk;match hs:s.w with
 |none=>rw [hs]at hw;rw [hw.2]at hk;subst hk;exact⟨Xa _,hD⟩
 |some (p,ts,S)=>
  rw [hs]at hw;obtain⟨B,c,_,hA,hB,rfl⟩:=hw;rcases hk with rfl|hk
  ·exact⟨Xa _,hD⟩
  ·exact⟨Xc (Xw hB) (hA.low hk).1,(hA.low hk).2⟩
theorem DAt.mem (h:DAt w D s b):b D:=by
 have hw:=h.w;match hs:s.w with
 |none=>rw [hs]at hw;rw [hw.2]
 |some (p,ts,S)=>
  rw [hs]at hw;obtain⟨B,c,_,hA,hB,rfl⟩:=hw;exact Or.inl rfl
theorem DAt.one (h:DAt w D s b): ∃u,w.cell? ⟨D,1,none⟩=some u:=by
 have hw:=h.w;match hs:s.w with
 |none=>rw [hs]at hw;exact⟨_,hw.1⟩
 |some (p,ts,S)=>rw [hs]at hw;obtain⟨B,c,h1,_⟩:=hw;exact⟨_,h1⟩
theorem DAt.below (h:DAt w D s b) (hb:Below w.heap.size w w'):DAt w' D s b:=by
 refine⟨Tk.kc h.t hb,fun j=>(hb.frozen (p:=⟨D,j,none⟩) (show D<w.heap.size from Xj w _ h.t)).trans (h.f j),h.g.mv (fun k hk=>(h.low k hk).1) (Mm.Mv.of_below (b:=b) hb),?_⟩;have hw:=h.w;match hs:s.w with
 |none=>rw [hs]at hw;exact⟨Tk.kc hw.1 hb,hw.2⟩
 |some (p,ts,S)=>
  rw [hs]at hw;obtain⟨B,c,h1,h2,h3,h4⟩:=hw;exact⟨B,c,Tk.kc h1 hb,h2.below hb,h3,h4⟩
theorem DAt.text (h:DAt w D s b) (t:List UInt8):DAt (w.setCell ⟨D,0,none⟩ (strV t)) D { s with t:=t } b∧Mm.Mv b b w (w.setCell ⟨D,0,none⟩ (strV t)):=by
 have hm:Mm.Mv b b w (w.setCell ⟨D,0,none⟩ (strV t)):=Mm.Mv.set h.mem _;refine⟨⟨Xn _ _ _ h.t,fun j=>by simp only [Xi];exact h.f j,h.g.mv (fun k hk=>(h.low k hk).1) hm,?_⟩,hm⟩;have hw:=h.w;match hs:s.w with
 |none=>rw [hs]at hw;exact⟨by rw [Xd (h:=fun e=>by cases e)];exact hw.1,hw.2⟩
 |some (p,ts,S)=>
  rw [hs]at hw;obtain⟨B,c,h1,h2,h3,h4⟩:=hw;exact⟨B,c,by rw [Xd (h:=fun e=>by cases e)];exact h1,h2.kept (fun k hk=>Below.heap_setCell w ⟨D,0,none⟩ _ k (fun e=>by have:=(h2.low hk).1;subst e;omega)) hm.size ((h.g.mv (fun k hk=>(h.low k hk).1) hm).bas (Xw h3)),h3,h4⟩
end
def Res (D:Nat) (b:Nat→Prop) (a:List UInt8) (er:Option (Int×Option Int)) (s:DS) (w:World) (e:Ending) (w':World):Prop:=
 e=.returned (.tuple #[strV a,erV er])∧ ∃b',DAt w' D s b'∧Mm.Mv b b' w w'

def planO (rd:List UInt8→Option K) (t:List UInt8):Sum (Int×Int) (Pd×List Tr):=
 match readL rd 0 (p0,[]) (pieces 10 t)with
 | .inl n=> .inl (3,n)
 | .inr (p,ts)=>if chkP p ts=0 then .inr (p,ts)else .inl (chkP p ts,0)
def PaA (r:Sum (Int×Int) (Pd×List Tr)) (e:Ending) (w':World):Prop:=match r with
 | .inl (E,n)=>E≠0∧e=.returned (.tuple #[pl0,.int .i64 n,.int .i64 E])
 | .inr (p,ts)=>chkP p ts=0∧ ∃a cap,e=.returned (.tuple #[planV p (.slice a ts.length cap),.int .i64 0,.int .i64 0])∧TrsAt w' a ts
theorem parse_o (hrd:RdOk rd) (t:List UInt8) (ht:t.length≤2048) (w:World) (hG:Gd w):Calls prog 91 #[strV t] w fun e w'=>PaA (planO rd t) e w'∧Below w.heap.size w w':=by
 refine(pparse_any hrd t w hG.b hG.m (by omega)).mono fun e w' h=>⟨?_,h.2⟩
 rcases h.1 with⟨h1,_⟩|⟨_,h1⟩
 ·omega
 ·unfold planO;cases hr:readL rd 0 (p0,[]) (pieces 10 t)with
  |inl n=>rw [hr]at h1;exact⟨by decide,h1⟩
  |inr q=>
   obtain⟨p,ts⟩:=q;rw [hr]at h1;rcases h1 with⟨h2,h3⟩|⟨h2,a,cap,h3,h4,_⟩
   ·simp only [if_neg h2];exact⟨h2,h3⟩
   ·simp only [if_pos h2];exact⟨h2,a,cap,h3,h4⟩
theorem finDp {p:Pd} {v x:Value} {Q:Ending→World→Prop} (hp:a.tmps[2]? =some (.pointer (some ⟨R,0,none⟩))) (h3:a.tmps[3]? =some x) (ha:a.defers=[]) (hX:BX Wf R p v) (hQ:Q (.returned (.tuple #[planV p v,x])) Wf):
  bodyPost prog f62 Q Exit.ret a Wf:=by
 refine bodyPost_ret (v:=.tuple #[planV p v,x]) ?_ ha hQ;have hl:=run_loadVar_mid (P:=prog) Wf R 0 111 _ _ (range_plan (PlAt.of hX.cel)) underlying111 rfl (by kernel_rfl);simp only [results,results62];simp [hp,h3,asAddr,hl]
def DpA (r:Sum (Int×Int) (Pd×List Tr)) (e:Ending) (w':World):Prop:=match r with
 | .inl (E,n)=>e=.returned (.tuple #[pl0,.iface 63 (lA E n)])
 | .inr (p,ts)=> ∃a cap,e=.returned (.tuple #[planV p (.slice a ts.length cap),.nilIface])∧TrsAt w' a ts
theorem bx_new (w:World):BX (w.alloc (.cells #[.string ⟨#[]⟩,.int .i64 0,.int .i64 0,.int .i64 0,.int .i64 0,.int .i64 0,.int .i64 0,.int .i64 0,.int .i64 0,.int .i64 0,.int .i64 0,.int .i64 0,.int .i64 0,.int .i64 0,.int .i64 0,.int .i64 0,.int .i64 0,.slice none 0 0] 111)) w.heap.size p0 (.slice none 0 0):=
 (⟨by simp,fun o=>by simp,fun o=>by simp⟩:BX (w.alloc (.cells (planC p0 (.slice none 0 0)) 111)) w.heap.size p0 (.slice none 0 0))
theorem trs_only {w w':World} {a:Option Addr} {ts:List Tr} (h:TrsAt w a ts) (hX:BX w R p0 (.slice none 0 0)) (ho:OnlyQ R w w'):TrsAt w' a ts:=by
 intro i t hi;obtain⟨b,off,ha,hb,hc⟩:=h i t hi;have hne:b≠R:=by
  rintro rfl;have h3:=hc 3 (by decide);rw [hX.cel]at h3;have e:(trC t)[3]? =some (.int .u64 t.a.mi):=rfl;rw [e]at h3;generalize off+(i*17+3)=n at h3;match n,h3 with
  |0,h3|1,h3|2,h3|3,h3|4,h3|5,h3|6,h3|7,h3|8,h3|9,h3|10,h3|11,h3|12,h3|13,h3|14,h3|15,h3|16,h3|17,h3=>cases h3
  |n+18,h3=>simp [planC]at h3
 exact⟨b,off,ha,Xb hb ho.size,fun j hj=>(ho.cell (a:=⟨b,off+(i*17+j),none⟩) hb hne).trans (hc j hj)⟩
theorem plan_d (hrd:RdOk rd) (D:Nat) (t:List UInt8) (ht:t.length≤2048) (w:World) (hG:Gd w) (hD:w.cell? ⟨D,0,none⟩=some (strV t)):Calls prog 62 #[.pointer (some ⟨D,0,none⟩)] w fun e w'=>DpA (planO rd t) e w'∧Below w.heap.size w w':=by
 have hB:Below w.heap.size w (w.alloc (.cells #[.string ⟨#[]⟩,.int .i64 0,.int .i64 0,.int .i64 0,.int .i64 0,.int .i64 0,.int .i64 0,.int .i64 0,.int .i64 0,.int .i64 0,.int .i64 0,.int .i64 0,.int .i64 0,.int .i64 0,.int .i64 0,.int .i64 0,.int .i64 0,.slice none 0 0] 111)):=balloc _ _;have hX:=bx_new w;have hW:=hX.lt;have c0:=parse_o hrd t ht _ (hG.below hB);have d0:=Tk.kc hD hB;cases hr:planO rd t with
 |inl q=>
  obtain⟨E,n⟩:=q;rw [hr]at c0;go_enter func62,ntmps62
  go_wp2_with (first
   |(go_at_call 91;(with_reducible refine c0.mono ?_);rintro e w1 ⟨⟨hE,rfl⟩,hb1⟩;have hX1:=hX.below hb1 hW;have HB1:Hid (Below w.heap.size w w1):=(zu hB hb1))
   |((with_reducible refine wp_newPl (w:=w1) (p':=p0) (v':=.slice none 0 0) rfl (by with_unfolding_all rfl) (by with_unfolding_all rfl) ?_);intro w2 hY2 hb2;have hX2:=hX1.below hb2 hX1.lt;have HB2:Hid (Below w.heap.size w w2):=(zu HB1.out hb2))
   |((with_reducible refine wp_setPl (p':=p0) (v':=.slice none 0 0) hX2 rfl (by with_unfolding_all rfl) (by with_unfolding_all rfl) ?_);intro w3 hX3 ho3))
  exact finDp rfl rfl rfl hX3 ⟨rfl,HB2.out.trans (ho3.below (Xa _) HB2.out.size)⟩
 |inr q=>
  obtain⟨p,ts⟩:=q;rw [hr]at c0;go_enter func62,ntmps62
  go_wp2_with (first
   |(go_at_call 91;(with_reducible refine c0.mono ?_);rintro e w1 ⟨⟨_,a,cap,rfl,hT⟩,hb1⟩;have hX1:=hX.below hb1 hW;have HB1:Hid (Below w.heap.size w w1):=(zu hB hb1))
   |((with_reducible refine wp_newPl (w:=w1) (p':=p) (v':=.slice a ts.length cap) rfl (by with_unfolding_all rfl) (by with_unfolding_all rfl) ?_);intro w2 hY2 hb2;have hX2:=hX1.below hb2 hX1.lt;have HB2:Hid (Below w.heap.size w w2):=(zu HB1.out hb2);have hT2:Hid (TrsAt w2 a ts):=hT.below hb2 (Xa _);have hQ2:=PlAt.of hY2.cel)
   |(with_reducible refine wp_plan hQ2 (by with_unfolding_all rfl) ?_)
   |((with_reducible refine wp_setPl (p':=p) (v':=.slice a ts.length cap) hX2 rfl (by with_unfolding_all rfl) (by with_unfolding_all rfl) ?_);intro w3 hX3 ho3))
  exact finDp rfl rfl rfl hX3 ⟨⟨a,cap,rfl,trs_only hT2.out hX2 ho3⟩,HB2.out.trans (ho3.below (Xa _) HB2.out.size)⟩

theorem asErr (E:Int) (w:World):CS 64 #[.int .i64 E] w (erV (if E=0 then none else some (E,none))):=by
 by_cases h:E=0
 ·rw [if_pos h];go_enter func64,ntmps64;go_wp2;go_ret;exact⟨rfl,rfl⟩
 ·rw [if_neg h];go_enter func64,ntmps64;go_wp2;go_ret;exact⟨rfl,rfl⟩
def showA (r:Sum (Int×Int) (Pd×List Tr)):List UInt8×Option (Int×Option Int):=match r with
 | .inl (E,n)=>([],some (E,some n))
 | .inr (p,ts)=>(planT kT p ts++ [111,107],none)
theorem planO_ok (hrd:RdOk rd) {p:Pd} {ts:List Tr} (h:planO rd t=.inr (p,ts)):chkP p ts=0∧PdI p∧ ∀t∈ts,TrU t:=by
 unfold planO at h;cases hr:readL rd 0 (p0,[]) (pieces 10 t)with
 |inl n=>rw [hr]at h;cases h
 |inr q=>
  obtain⟨p',ts'⟩:=q;rw [hr]at h;obtain⟨hg,hu⟩:=readL_ok (fun s c h=>(hrd.yes s c h).1) _ _ _ _ _ hr good0 (fun t ht=>by cases ht);simp only at h;split at h
  ·cases h;exact⟨by assumption,hg.1,hu⟩
  ·cases h
theorem planO_er (ht:t.length≤2048) {E n:Int} (h:planO rd t=.inl (E,n)):I E∧I n:=by
 unfold planO at h;cases hr:readL rd 0 (p0,[]) (pieces 10 t)with
 |inl k=>
  rw [hr]at h;cases h;have:=readL_le _ _ _ _ hr;rw [pieces_len]at this;have:=X6 (a:=(10:UInt8)) (l:=t);exact⟨⟨by decide,by decide⟩,by omega,by omega⟩
 |inr q=>
  obtain⟨p',ts'⟩:=q;rw [hr]at h;simp only at h;split at h
  ·cases h
  ·cases h;have:0≤chkP p' ts'∧chkP p' ts'≤10:=by unfold chkP;(repeat' split)<;>omega
   exact⟨⟨by omega,by omega⟩,by decide,by decide⟩
theorem show_any (hrd:RdOk rd) (D:Nat) (s:DS) (b:Nat→Prop) (w:World) (h:DAt w D s b) (ht:s.t.length≤2048) (x y:Value):
  Calls prog 37 #[.pointer (some ⟨D,0,none⟩),x,y] w (Res D b (showA (planO rd s.t)).1 (showA (planO rd s.t)).2 s w):=by
 have hG:=h.g.gv.g;have c0:=plan_d hrd D s.t ht w hG h.t;have HS:Hid (∀w1,Below w.heap.size w w1→Gd w1∧ ∃b',DAt w1 D s b'∧Mm.Mv b b' w w1):=fun w1 hb=>⟨hG.below hb,b,h.below hb,Mm.Mv.of_below hb⟩
 clear h hG;cases hr:planO rd s.t with
 |inl q=>
  obtain⟨E,n⟩:=q;rw [hr]at c0;simp only [showA];go_enter func37,ntmps37
  go_wp2_with (first
   |(go_at_call 62;(with_reducible refine c0.mono ?_);rintro e w1 ⟨rfl,hb1⟩)
   |((with_reducible refine wp_newPl (w:=w1) (p':=p0) (v':=.slice none 0 0) rfl (by with_unfolding_all rfl) (by with_unfolding_all rfl) ?_);intro w2 hY2 hb2;have HB2:Hid (Below w.heap.size w w2):=(zu hb1 hb2)))
  go_ret2;exact⟨rfl,(HS.out _ HB2.out).2⟩
 |inr q=>
  obtain⟨p,ts⟩:=q;obtain⟨hc,hi,hU⟩:=planO_ok hrd hr;rw [hr]at c0;simp only [showA];have hl:=planT_len hi hU hc;have c2:=fun a cap w' (g:Gd w') (hT:TrsAt w' a ts)=>print_ok p ts a cap w' g.b g.t g.p hi hT hU hc;generalize planT kT p ts=T at*;have c4:=fun w=>asErr 0 w;go_enter func37,ntmps37
  go_wp2_with (first
   |(go_at_call 62;(with_reducible refine c0.mono ?_);rintro e w1 ⟨⟨a,cap,rfl,hT⟩,hb1⟩)
   |((with_reducible refine wp_newPl (w:=w1) (p':=p) (v':=.slice a ts.length cap) rfl (by with_unfolding_all rfl) (by with_unfolding_all rfl) ?_);intro w2 hY2 hb2;have HB2:Hid (Below w.heap.size w w2):=(zu hb1 hb2);have hQ2:=PlAt.of hY2.cel;have c3:=c2 a cap w2 (HS.out _ HB2.out).1 (hT.below hb2 (Xa _)))
   |(with_reducible refine wp_plan hQ2 (by with_unfolding_all rfl) ?_)
   |(go_at_call 63;(with_reducible refine c3.mono ?_);rintro e w3 ⟨rfl,hb3⟩;have HB3:Hid (Below w.heap.size w w3):=(zu HB2.out hb3))
   |(go_at_call 64;(with_reducible refine(c4 _).mono ?_);rintro e w4 ⟨rfl,h9⟩;have h8:=h9.symm;clear h9;subst h8))
  go_ret2;exact⟨rfl,(HS.out _ HB3.out).2⟩

theorem DAt.turn {w:World} {D:Nat} {s:DS} {b:Nat→Prop} {p:Pd} {ts:List Tr} {S:WS} (h0:DAt w0 D s b) (hb:Below w0.heap.size w0 w) (hs:s.w=some (p,ts,S)):
  ∃B c,w.cell? ⟨D,1,none⟩=some (.pointer (some ⟨c.x.D,0,none⟩))∧WAt w B c p ts S∧(∀k,bk c ts k→D<k∧k<w0.heap.size)∧ ∀S' w',Wst B c p ts S' w w'→ ∃b',DAt w' D { s with w:=some (p,ts,S') } b'∧Mm.Mv b b' w0 w':=by
 have hw:=h0.w;rw [hs]at hw;obtain⟨B,c,h1,hA,hB,rfl⟩:=hw;have h:=h0.below hb;have hlow: ∀k,bk c ts k→D<k∧k<w0.heap.size:=fun k hk=>⟨Xb hB (hA.low hk).1,(hA.low hk).2⟩
 have hn: ¬bk c ts D:=fun e=>XL _ (hlow D e).1;have hD:D<w.heap.size:=Xj w _ h.t;have h1':=Tk.kc h1 hb;refine⟨B,c,h1',hA.below hb,hlow,fun S' w' ⟨c',hA',he,m⟩=>⟨fun k=>k=D∨bk c' ts k,?_,(Mm.Mv.of_below (b:=fun k=>k=D∨bk c ts k) hb).trans ?_⟩⟩
 ·refine⟨m.cell h.t hn,fun j=>(Xl (w:=w) (a:=⟨D,j,none⟩) (m.block D hD hn)).trans (h.f j),h.g.mv (fun k hk=>Xw (hlow k hk).1) m,B,c',?_,hA',hB,rfl⟩;rw [he];exact m.cell h1' hn
 ·refine⟨m.os,m.tape,m.output,m.size,fun k hk hn=>m.block k hk (fun e=>hn (Or.inr e)),fun k hk=> ?_⟩;rcases hk with rfl|hk
  ·exact Or.inl (Or.inl rfl)
  ·exact(m.loc k hk).imp Or.inr id
theorem Wst_cell {c:Pc} {p:Pd} {ts:List Tr} {S:WS} {w w':World} (h:Wst B c p ts S w w') {j:Nat} {v:Value} (h1:w.cell? ⟨C,j,none⟩=some v) (hn: ¬bk c ts C):w'.cell? ⟨C,j,none⟩=some v:=by
 obtain⟨c',_,_,m⟩:=h;exact m.cell h1 hn
def hapE (E:Int):Option (Int×Option Int):=if E=0 then none else some (E,none)
theorem hap_any (D:Nat) (s:DS) (b:Nat→Prop) (w:World) (h:DAt w D s b) (p:Pd) (ts:List Tr) (S:WS) (hs:s.w=some (p,ts,S)) (n:Nat) (hn:n≤200) (hI:DInv s n) (x a z:Int):
  Calls prog 43 #[.pointer (some ⟨D,0,none⟩),.agg #[.int .i64 x,.int .i64 a,.int .i64 z]] w (Res D b [111,107] (hapE (doE S x a z)) { s with w:=some (p,ts,doW p ts S x a z) } w):=by
 obtain⟨hWI,hP,hU⟩:=hI.2 p ts S hs;go_enter func43,ntmps43;go_upto_region 1 with fail
 obtain⟨W,hW⟩: ∃W,W=w.alloc (.cells #[.int .i64 x,.int .i64 a,.int .i64 z] 76):=⟨_,rfl⟩
 rw [←hW];have hbW:Below w.heap.size w W:=by rw [hW];exact balloc _ _
 obtain⟨B,c,h1,hA,hlow,hT⟩:=h.turn hbW.drew hs;have hnD: ¬bk c ts D:=fun e=>XL _ (hlow D e).1;have hnK: ¬bk c ts w.heap.size:=fun e=>XL _ (hlow _ e).2;have x0:W.drew.cell? ⟨w.heap.size,0,none⟩=some (.int .i64 x):=by rw [hW];show(w.alloc _).cell? _=_;simp
 have x1:W.drew.cell? ⟨w.heap.size,1,none⟩=some (.int .i64 a):=by rw [hW];show(w.alloc _).cell? _=_;simp
 have x2:W.drew.cell? ⟨w.heap.size,2,none⟩=some (.int .i64 z):=by rw [hW];show(w.alloc _).cell? _=_;simp
 have cD:=do_any B c p ts S n (1000*n) x a z W.drew hA hWI (by omega) (by omega) hP hU;have HT:=zh hT;have HN:Hid (¬bk c ts D∧ ¬bk c ts w.heap.size):=⟨hnD,hnK⟩
 clear hT hA hlow hI hWI hP hU hs hbW h hW hnD hnK;generalize w.heap.size=K at*;generalize c.x.D=Q at*;generalize doE S x a z=E at*;have cE: ∀w,CS 64 #[.int .i64 E] w (erV (hapE E)):=asErr E;generalize hapE E=er at*
 go_region_held (fun w' => w'.cell? ⟨D, 1, none⟩ = some (.pointer (some ⟨Q, 0, none⟩)) ∧ w'.cell? ⟨K, 0, none⟩ = some (.int .i64 x) ∧ w'.cell? ⟨K, 1, none⟩ = some (.int .i64 a) ∧ w'.cell? ⟨K, 2, none⟩ = some (.int .i64 z)) (with_reducible first | exact ⟨h1, x0, x1, x2⟩ | exact ⟨z0, z1, z2, z3⟩) (first
  |(go_at_call 70;(with_reducible refine zg cD fun w4 hW4=>?_);have z0:=Wst_cell hW4 h1 HN.out.1;have z1:=Wst_cell hW4 x0 HN.out.2;have z2:=Wst_cell hW4 x1 HN.out.2;have z3:=Wst_cell hW4 x2 HN.out.2)
  |(go_at_call 64;(with_reducible refine zq (cE _) ?_)))
 go_wp2;go_ret2;exact⟨rfl,HT.out _ _ hW4⟩

theorem Res.drew {D:Nat} {b:Nat→Prop} {a:List UInt8} {er:Option (Int×Option Int)} {s:DS} {w:World} {e:Ending} {w':World} (h:Res D b a er s w.drew e w'):Res D b a er s w e w':=
 h.imp id fun⟨b',h1,h2⟩=>⟨b',h1,(Mm.Mv.of_below (b:=b) (Mm.bdrew w)).trans h2⟩
section
variable (D : Nat) (s : DS) (b : Nat → Prop) (w : World) (h : DAt w D s b) (p : Pd) (ts : List Tr) (S : WS) (hs : s.w = some (p, ts, S)) (n : Nat) (hn : n ≤ 200) (hI : DInv s n) (g c K L : Nat) (x : Int) (v : Value) (hK : w.cell? ⟨K, 0, none⟩ = some (.pointer (some ⟨D, 0, none⟩))) (hL : w.cell? ⟨L, 0, none⟩ = some (.int .i64 x)) (nK : ¬ b K) (nL : ¬ b L) (nG : ¬ b g)
include h hs hn hI hK hL nK nL nG
theorem clo1_any (z:Int) (h0:w.cell? ⟨g,0,none⟩=some (.int .i64 z)):
  Calls prog 42 #[.slice (some ⟨g,0,none⟩) 1 c,v,.pointer (some ⟨K,0,none⟩),.pointer (some ⟨L,0,none⟩)] w (Res D b [111,107] (hapE (doE S x 0 z)) { s with w:=some (p,ts,doW p ts S x 0 z) } w):=by
 have cH:=hap_any D s b w.drew (h.below (Mm.bdrew w)) p ts S hs n hn hI x 0 z;generalize hapE (doE S x 0 z)=er at*;generalize ({ s with w:=some (p,ts,doW p ts S x 0 z) } :DS)=s' at*;have hK:=Tk.kc hK (Mm.bdrew w);have hL:=Tk.kc hL (Mm.bdrew w);have h0:=Tk.kc h0 (Mm.bdrew w);clear hI hs h;go_enter func42,ntmps42;go_upto_region 1 with fail
 go_region_held (fun w'=>w'.cell? ⟨K,0,none⟩=some (.pointer (some ⟨D,0,none⟩))∧w'.cell? ⟨L,0,none⟩=some (.int .i64 x)∧w'.cell? ⟨g,0,none⟩=some (.int .i64 z)) (with_reducible first|exact⟨hK,hL,h0⟩|exact⟨z0,z1,z2⟩) ((go_at_call 43;(with_reducible refine cH.mono ?_);rintro e w4 ⟨rfl,b',hD,hM⟩;have z0:=hM.cell hK nK;have z1:=hM.cell hL nL;have z2:=hM.cell h0 nG))
 go_wp2;go_ret2;exact Res.drew ⟨rfl,b',hD,hM⟩
theorem clo2_any (a z:Int) (h0:w.cell? ⟨g,0,none⟩=some (.int .i64 a)) (h1:w.cell? ⟨g,1,none⟩=some (.int .i64 z)):
  Calls prog 45 #[.slice (some ⟨g,0,none⟩) 2 c,v,.pointer (some ⟨K,0,none⟩),.pointer (some ⟨L,0,none⟩)] w (Res D b [111,107] (hapE (doE S x a z)) { s with w:=some (p,ts,doW p ts S x a z) } w):=by
 have cH:=hap_any D s b w.drew (h.below (Mm.bdrew w)) p ts S hs n hn hI x a z;generalize hapE (doE S x a z)=er at*;generalize ({ s with w:=some (p,ts,doW p ts S x a z) } :DS)=s' at*;have hK:=Tk.kc hK (Mm.bdrew w);have hL:=Tk.kc hL (Mm.bdrew w);have h0:=Tk.kc h0 (Mm.bdrew w);have h1:=Tk.kc h1 (Mm.bdrew w);clear hI hs h;go_enter func45,ntmps45;go_upto_region 1 with fail
 go_region_held (fun w'=>w'.cell? ⟨K,0,none⟩=some (.pointer (some ⟨D,0,none⟩))∧w'.cell? ⟨L,0,none⟩=some (.int .i64 x)∧w'.cell? ⟨g,0,none⟩=some (.int .i64 a)∧w'.cell? ⟨g,1,none⟩=some (.int .i64 z)) (with_reducible first|exact⟨hK,hL,h0,h1⟩|exact⟨z0,z1,z2,z3⟩) ((go_at_call 43;(with_reducible refine cH.mono ?_);rintro e w4 ⟨rfl,b',hD,hM⟩;have z0:=hM.cell hK nK;have z1:=hM.cell hL nL;have z2:=hM.cell h0 nG;have z3:=hM.cell h1 nG))
 go_wp2;go_ret2;exact Res.drew ⟨rfl,b',hD,hM⟩
end

theorem str_app (a b:List UInt8):(⟨a.toArray⟩++⟨b.toArray⟩:ByteArray)=⟨(a++b).toArray⟩:=by
 apply ByteArray.ext;simp
section
variable (D : Nat) (s : DS) (b : Nat → Prop) (w : World)
theorem clear_any (h:DAt w D s b) (x y:Value):Calls prog 36 #[.pointer (some ⟨D,0,none⟩),x,y] w (Res D b [111,107] none { s with t:=[] } w):=by
 have c0:=h.t;have f0:=h.f 0;have hX:=h.text [];have HX:=zh hX;clear h hX;go_enter func36,ntmps36;go_wp2;go_ret2;exact⟨rfl,b,HX.out⟩
def lineT (s:DS) (more:List (List UInt8)):List UInt8:=s.t++Lib.join more [32]++ [10]
def addS (s:DS) (more:List (List UInt8)):DS:=if(lineT s more).length≤2048 then { s with t:=lineT s more } else s
def addE (s:DS) (more:List (List UInt8)):List UInt8×Option (Int×Option Int):=if(lineT s more).length≤2048 then([111,107],none)else([],some (2,none))
theorem add_any (h:DAt w D s b) (ht:s.t.length≤2048) (x:Value) (more:List (List UInt8)) (A off c:Nat) (hT:TxAt w A off more) (hc:more.length≤c) (hn:more.length≤65536) (hk: ∀x∈more,x.length≤65536):
  Calls prog 35 #[.pointer (some ⟨D,0,none⟩),x,.slice (some ⟨A,off,none⟩) more.length c] w (Res D b (addE s more).1 (addE s more).2 (addS s more) w):=by
 have c0:w.drew.cell? ⟨D,0,none⟩=some (strV s.t):=h.t;have cJ:=join_tx more [32] w.drew A off c (hT.below (Mm.bdrew w) hT.1) hc hn hk (by decide);have hjl:=join_len [32] 65536 more hk;have hle:more.length*([32].length+65536)≤65536*65537:=Nat.mul_le_mul hn (by decide);have hjl:(Lib.join more [32]).length≤5000000000:=by omega
 have HT:Hid (lineT s more=s.t++Lib.join more [32]++ [10]):=rfl;have HA:=zh h;have HS:Hid (∀w1,Below w.drew.heap.size w.drew w1→DAt w1 D s b∧Mm.Mv b b w w1):=fun w1 hb=>by
  have hb1:=(Mm.bdrew w).trans hb;exact⟨h.below hb1,Mm.Mv.of_below hb1⟩
 clear h hT hk hle;generalize hst:s.t=t at*;generalize hjt:Lib.join more [32]=J at*;go_enter func35,ntmps35;go_upto_region 1 with fail
 go_region_held (fun w'=>w'.cell? ⟨D,0,none⟩=some (strV t)) (first|exact c0|exact c1) ((go_at_call 60;(with_reducible refine zg cJ fun w1 hb1=>?_);have c1:=Tk.kc c0 hb1))
 have hX:=HS.out w1 hb1;have e:(⟨t.toArray⟩++⟨J.toArray⟩++⟨#[10]⟩:ByteArray)=⟨(lineT s more).toArray⟩:=by
  rw [HT.out,str_app];exact str_app _ [10]
 rw [e];have f1:=hX.1.f 0;have hY:=hX.1.text (lineT s more);have HX:=zh hX;have HY:=zh hY;have hll:(lineT s more).length≤6000000000:=by rw [HT.out];simp;omega
 clear hX hY e hjl HS HA hb1 c0 cJ;by_cases hl:(lineT s more).length≤2048
 ·have ES:Hid (addS s more= { s with t:=lineT s more }):=if_pos hl;have EE:Hid (addE s more=([111,107],none)):=if_pos hl;generalize lineT s more=L at*;go_wp2;go_ret2;rw [ES.out,EE.out];exact⟨rfl,b,HY.out.1,HX.out.2.trans HY.out.2⟩
 ·have ES:Hid (addS s more=s):=if_neg hl;have EE:Hid (addE s more=([],some (2,none))):=if_neg hl;generalize lineT s more=L at*;go_wp2;go_ret2;rw [ES.out,EE.out];exact⟨rfl,b,HX.out⟩
end

theorem sp3 (T J:List UInt8):Value.string (⟨T.toArray⟩++(⟨#[32]⟩++⟨J.toArray⟩))=strV (T++32::J):=by
 show Value.string (⟨T.toArray⟩++(⟨[32].toArray⟩++⟨J.toArray⟩))=strV (T++([32]++J));rw [str_app,str_app]
def podT (q:Flt.Pd):List UInt8:=32::Lib.join ([q.id,q.st,q.ld].map Lib.itoa) [58]
def podsT (L:List Flt.Pd):List UInt8:=(L.map podT).flatten
def stA (S:WS):List UInt8:=Lib.join ([S.now,S.tg].map Lib.itoa) [32]++podsT S.F.L
theorem podsT_len {L:List Flt.Pd} (h: ∀q∈L,I q.id∧I q.st∧I q.ld):(podsT L).length≤101*L.length:=by
 induction L with
 |nil=>simp [podsT]
 |cons q L ih=>
  have h1:=ih fun q hq=>h q (Xy _ hq);have h0:=h q (XF ..);have h2:=join_l3 [58] (by decide) [q.id,q.st,q.ld] (Xa 3) (fun n hn=>by simp at hn;rcases hn with rfl|rfl|rfl;exact h0.1;exact h0.2.1;exact h0.2.2);unfold podsT at*;rw [XV,List.flatten_cons,Xg,Xr];unfold podT at*;rw [Xr];omega
theorem join2 (s:UInt8) (a b:Int) (hI: ∀n∈ [a,b],I n) (G:Nat) (X:World) (h:X.cell? ⟨G,0,none⟩=some (.int .i64 a)∧X.cell? ⟨G,1,none⟩=some (.int .i64 b)) (hP:PowAt X):
  CB 58 #[.string ⟨#[s]⟩,.slice (some ⟨G,0,none⟩) 2 2] X (strV (Lib.join ([a,b].map Lib.itoa) [s])):=
 join_any [s] [a,b] G 2 X (fun j n hj=>by rcases j with _|_|j<;>simp at hj<;>subst hj;exact h.1;exact h.2) (by simp) hI (by simp) hP
def StR (T:List UInt8) (L:List Flt.Pd) (w5:World) (v i:Value) (wr:World):Prop:= ∃k:Nat,k≤L.length∧v=strV (T++podsT (L.take k))∧i=.int .i64 k∧Below w5.heap.size w5 wr
theorem podsT_step {L:List Flt.Pd} {q:Flt.Pd} (h:L[k]? =some q):podsT (L.take (k+1))=podsT (L.take k)++podT q:=by
 unfold podsT;rw [XB,h];simp
theorem state_any (D:Nat) (s:DS) (b:Nat→Prop) (w:World) (h:DAt w D s b) (p:Pd) (ts:List Tr) (S:WS) (hs:s.w=some (p,ts,S)) (n:Nat) (hn:n≤200) (hI:DInv s n) (ht:I S.tg) (x y:Value):
  Calls prog 39 #[.pointer (some ⟨D,0,none⟩),x,y] w (Res D b (stA S) none s w):=by
 obtain⟨hWI,hP,hU⟩:=hI.2 p ts S hs;have hnow:I S.now:=⟨by have:=hWI.nw;omega,by have:=hWI.nw;omega⟩
 have hF:=hWI.f;have hlen:S.F.L.length≤10000000:=by have:=hF.len;have:=hWI.fb;omega
 have hpod: ∀q∈S.F.L,I q.id∧I q.st∧I q.ld:=fun q hq=>by
  have h1:=hF.bd q hq;have h2:=hF.m;have h3:=hWI.fb;unfold Flt.Okp at h1;refine⟨⟨by omega,by omega⟩,⟨by omega,by omega⟩,⟨by omega,by omega⟩⟩
 have HD:Hid (∀w1,Below w.heap.size w w1→PowAt w1∧ ∃b',DAt w1 D s b'∧Mm.Mv b b' w w1):=fun w1 hb=>⟨(h.g.gv.below hb).g.p,b,h.below hb,Mm.Mv.of_below hb⟩
 have hw:=h.w;rw [hs]at hw;obtain⟨B,c,h1,hA,_,_⟩:=hw;clear h hI hWI hP hU hs hF;have d1:w.drew.cell? ⟨D,1,none⟩=some (.pointer (some ⟨c.x.D,0,none⟩)):=h1;have cN:=now_any B c p ts S w.drew (hA.below (Mm.bdrew w));have cT:=target_any B c p ts S w.drew (hA.below (Mm.bdrew w));have HA:Hid (∀w1,Below w.heap.size w w1→w1.cell? ⟨D,1,none⟩=some (.pointer (some ⟨c.x.D,0,none⟩))∧WAt w1 B c p ts S):=fun w1 hb=>⟨Tk.kc h1 hb,hA.below hb⟩
 have cJ:=join2 32 S.now S.tg (fun n hn=>by simp at hn;rcases hn with rfl|rfl;exact hnow;exact ht);have hT0:=join_l3 [32] (by decide) [S.now,S.tg] (by simp) (fun n hn=>by simp at hn;rcases hn with rfl|rfl;exact hnow;exact ht);have HL:Hid (stA S=Lib.join ([S.now,S.tg].map Lib.itoa) [32]++podsT S.F.L):=rfl;have HX:Hid (∀w1,Below w.heap.size w w1→Calls prog 68 #[.pointer (some ⟨c.x.D,0,none⟩)] w1 fun e w'=>e=.returned (.slice (some ⟨w1.heap.size,0,none⟩) S.F.L.length S.F.L.length)∧Rec.RowAt Flt.pK w' (some ⟨w1.heap.size,0,none⟩) S.F.L∧Below w1.heap.size w1 w'):=fun w1 hb=>pods_any B c p ts S w1 (hA.below hb) (by omega);have HP:Hid (∀w1,Below w.heap.size w w1→PowAt w1):=fun w1 hb=>(HD.out w1 hb).1;generalize stA S=SA at*;generalize S.now=nw at*;generalize S.tg=tg at*;generalize S.F.L=L at*;generalize c.x.D=Q at*;clear hA;have d2:(w.alloc (.cells #[.int .i64 nw,.int .i64 tg] 3)).drew.cell? ⟨D,1,none⟩=some (.pointer (some ⟨Q,0,none⟩)):=cell_al h1 _;clear h1;generalize Lib.join ([nw,tg].map Lib.itoa) [32]=T0 at*;go_enter func39,ntmps39;go_upto_region 1 with fail
 go_region_held (fun w' => w'.cell? ⟨D, 1, none⟩ = some (.pointer (some ⟨Q, 0, none⟩))) (with_reducible first | exact d1 | exact d2 | exact k1) (first
  |(go_at_call 66;(with_reducible refine zq cN ?_))
  |(go_at_call 67;(with_reducible refine zq cT ?_))
  |(go_at_call 58;(with_reducible refine Calls.mono (cJ _ _ ?_ ?_) ?_);exact⟨by simp,by simp⟩;exact HP.out _ (((Mm.bdrew w)).alloc (Xa _) _);rintro e w4 ⟨rfl,hb4⟩;have hb5:=((Mm.bdrew w).alloc (Xa _) _).trans (hb4.mono (by simp));have k1:=(HA.out _ hb5).1))
 have HB4:=zh hb5;have c5:=HX.out w4 HB4.out;clear hb4 hb5 cN cT cJ d1 d2;go_wp2_with(go_at_call 68;(with_reducible refine c5.mono ?_);rintro e w5 ⟨rfl,hR,hb6⟩;have HB5:Hid (Below w.heap.size w w5∧Rec.RowAt Flt.pK w5 (some ⟨w4.heap.size,0,none⟩) L):=⟨(zu HB4.out hb6),hR⟩;clear hb6 hR c5)
 go_loopw [8,29] (fun v i wr=>StR T0 L w5 v i wr) (fun _ i _=>L.length-(intOf i).toNat)
 case atStart=>exact⟨0,by omega,by simp [podsT],rfl,Below.refl _ _⟩
 case round=>
  obtain⟨k,hk,rfl,rfl,hbq⟩:=hrel;by_cases hlt:k<L.length
  ·have hk':(k:Int)<(L.length:Int):=by omega
   obtain⟨q,hq⟩: ∃q,L[k]? =some q:=⟨_,Xz hlt⟩
   obtain⟨g5,e5,hg5,hc5⟩:=Flt.row_pod (HB5.out.2.below hbq) (by omega);cases e5;obtain⟨q0,q1,q2⟩:=hc5 k q hq;obtain⟨i0,i1,i2⟩:=hpod q (Xk hq);have hTk:=podsT_len (L:=L.take k) (fun x hx=>hpod x (List.mem_of_mem_take hx));rw [Xt]at hTk;have HQ:Hid (podsT (L.take (k+1))=podsT (L.take k)++podT q):=podsT_step hq;obtain⟨W,hW⟩: ∃W,W=wr.alloc (.cells #[.int .i64 q.id,.int .i64 q.st,.int .i64 q.ld] 123):=⟨_,rfl⟩
   have hbW:Below wr.heap.size wr W:=by rw [hW];exact balloc _ _
   have x0:W.cell? ⟨wr.heap.size,0,none⟩=some (.int .i64 q.id):=by rw [hW];simp
   have x1:W.cell? ⟨wr.heap.size,1,none⟩=some (.int .i64 q.st):=by rw [hW];simp
   have x2:W.cell? ⟨wr.heap.size,2,none⟩=some (.int .i64 q.ld):=by rw [hW];simp
   have HW:=zh hW;have HBW:Hid (Below w5.heap.size w5 W∧Below w.heap.size w W):=⟨(zu hbq hbW),(zu HB5.out.1 hbq).trans (hbW.mono (zu HB5.out.1 hbq).size)⟩
   have HT:Hid (T0++podsT (L.take k)++podT q=T0++podsT (L.take (k+1))):=(by rw [HQ.out,X4]:T0++podsT (L.take k)++podT q=T0++podsT (L.take (k+1)))
   generalize hT:T0++podsT (L.take k)=T at*;have hTl:T.length≤5000000000:=by rw [←hT,Xg];omega
   clear hT hTk hW hbW hbq hq hc5 hg5;go_upto_region 5 with fail
   rw [←HW.out];clear HW q0 q1 q2;have hJl:=join_l3 [58] (by decide) [q.id,q.st,q.ld] (Xa 3) (fun n hn=>by simp at hn;rcases hn with rfl|rfl|rfl;exact i0;exact i1;exact i2);have cK:=join3 58 q.id q.st q.ld (fun n hn=>by simp at hn;rcases hn with rfl|rfl|rfl;exact i0;exact i1;exact i2);have HJ:Hid (podT q=32::Lib.join ([q.id,q.st,q.ld].map Lib.itoa) [58]):=rfl;generalize Lib.join ([q.id,q.st,q.ld].map Lib.itoa) [58]=J at*;have n1: ¬9223372036854775807<1+J.length:=by omega
   have n2: ¬9223372036854775807<T.length+(1+J.length):=by omega
   generalize wr.heap.size=K at*;have HBx:Hid (∀o,Below W.heap.size W (W.alloc o)):=fun o=>balloc _ o;have HPx:Hid (∀o,PowAt (W.alloc o)):=fun o=>HP.out _ (HBW.out.2.trans ((balloc _ o).mono HBW.out.2.size));go_wp2_with(go_at_call 58;(with_reducible refine Calls.mono (cK _ _ ?_ ?_) ?_);exact⟨by simp,by simp,by simp⟩;exact HPx.out _;rintro e w6 ⟨rfl,hb7⟩;have HB7:Hid (Below w5.heap.size w5 w6):=(HBW.out.1.trans ((HBx.out _).mono HBW.out.1.size)).trans (hb7.mono (Xc HBW.out.1.size (HBx.out _).size)))
   go_roundw
   case rel=>exact⟨k+1,hlt,by rw [←HT.out,HJ.out];exact sp3 T J,rfl,HB7.out⟩
   case measure=>simp [intOf];omega
  ·obtain rfl:k=L.length:=by omega
   have HB6:=HD.out _ (zu HB5.out.1 hbq);rw [XC,←HL.out];clear hbq;go_wp2;go_ret2;exact⟨rfl,HB6.2⟩

def askT (r:Buf.Rq):List UInt8:=Lib.join ([r.src,r.fat].map Lib.itoa) [58]
def askA (S:WS):List UInt8:=if S.R=[]then [110,111,110,101]else Lib.join (S.R.map askT) [32]
theorem askT_len {r:Buf.Rq} (h:I r.src∧I r.fat):(askT r).length≤100:=
 join_l3 [58] (by decide) [r.src,r.fat] (by simp) (fun n hn=>by simp at hn;rcases hn with rfl|rfl;exact h.1;exact h.2)
def AkR (R:List Buf.Rq) (w5:World) (v i:Value) (wr:World):Prop:= ∃(k:Nat) (a:Option Addr) (c:Nat),k≤R.length∧v=.slice a k c∧i=.int .i64 k∧wr.ownsRow w5.heap.size 9 1 (.slice a k c) k (((R.take k).map askT).map strV)∧Below w5.heap.size w5 wr
theorem asks_any (D:Nat) (s:DS) (b:Nat→Prop) (w:World) (h:DAt w D s b) (p:Pd) (ts:List Tr) (S:WS) (hs:s.w=some (p,ts,S)) (n:Nat) (hI:DInv s n) (x y:Value):
  Calls prog 40 #[.pointer (some ⟨D,0,none⟩),x,y] w (Res D b (askA S) none s w):=by
 obtain⟨i0,hi,hz0,hz1,hz2⟩:=info_parts info_str;have hR:=(hI.2 p ts S hs).1.r;have hlen:=hR.len;have hI2: ∀r∈S.R,I r.src∧I r.fat:=fun q hq=>by
  have h1:=hR.bd q hq;unfold Buf.Okr at h1;exact⟨⟨by omega,by omega⟩,⟨by omega,by omega⟩⟩
 have HD:Hid (∀w1,Below w.heap.size w w1→PowAt w1∧ ∃b',DAt w1 D s b'∧Mm.Mv b b' w w1):=fun w1 hb=>⟨(h.g.gv.below hb).g.p,b,h.below hb,Mm.Mv.of_below hb⟩
 have hw:=h.w;rw [hs]at hw;obtain⟨B,c,h1,hA,hz⟩:=hw;clear hz;have HX:Hid (∀w1,Below w.heap.size w w1→Calls prog 69 #[.pointer (some ⟨c.x.D,0,none⟩)] w1 fun e w'=> ∃G,e=.returned (.slice (some ⟨G,0,none⟩) S.R.length S.R.length)∧w1.heap.size≤G∧Rec.RowAt Buf.rK w' (some ⟨G,0,none⟩) S.R∧Below w1.heap.size w1 w'):=fun w1 hb=>requests_any B c p ts S w1 (hA.below hb) hlen;have HP:Hid (∀w1,Below w.heap.size w w1→PowAt w1):=fun w1 hb=>(HD.out w1 hb).1;have HA:Hid (askA S=if S.R=[]then [110,111,110,101]else Lib.join (S.R.map askT) [32]):=rfl;clear h hI hs hR hA;generalize askA S=SA at*;generalize S.R=R at*;generalize c.x.D=Q at*;have c5:=HX.out w (Below.refl _ _);go_enter func40,ntmps40;go_wp2_with(go_at_call 69;(with_reducible refine c5.mono ?_);rintro e w5 ⟨G,rfl,_,hR,hb6⟩;have HB5:Hid (Below w.heap.size w w5∧Rec.RowAt Buf.rK w5 (some ⟨G,0,none⟩) R):=⟨hb6,hR⟩;clear hb6 hR c5)
 go_loopw [8,17] (fun v i wr=>AkR R w5 v i wr) (fun _ i _=>R.length-(intOf i).toNat)
 case atStart=>exact⟨0,none,0,by omega,rfl,rfl,XO _ _ _ _,Below.refl _ _⟩
 case round=>
  obtain⟨k,va,vc,hk,rfl,rfl,ho,hbq⟩:=hrel;by_cases hlt:k<R.length
  ·have hk':(k:Int)<(R.length:Int):=by omega
   obtain⟨q,hq⟩: ∃q,R[k]? =some q:=⟨_,Xz hlt⟩
   obtain⟨g5,e5,hg5,hc5⟩:=Buf.row_req (HB5.out.2.below hbq) (by omega);cases e5;obtain⟨q0,q1,q2,q3,q4⟩:=hc5 k q hq;obtain⟨j0,j1⟩:=hI2 q (Xk hq);obtain⟨W,hW⟩: ∃W,W=wr.alloc (.cells #[.int .i64 q.id,.int .i64 q.src,.int .i64 q.til,.int .i64 q.fat,.int .i64 q.pod] 127):=⟨_,rfl⟩
   have hbW:Below wr.heap.size wr W:=by rw [hW];exact balloc _ _
   have x1:W.cell? ⟨wr.heap.size,1,none⟩=some (.int .i64 q.src):=by rw [hW];simp
   have x3:W.cell? ⟨wr.heap.size,3,none⟩=some (.int .i64 q.fat):=by rw [hW];simp
   have HW:=zh hW;have HBW:Hid (Below w5.heap.size w5 W∧Below w.heap.size w W):=⟨(zu hbq hbW),(zu HB5.out.1 hbq).trans (hbW.mono (zu HB5.out.1 hbq).size)⟩
   have HO:Hid (W.ownsRow w5.heap.size 9 1 (.slice va k vc) k (((R.take k).map askT).map strV)∧wr.ownsRow w5.heap.size 9 1 (.slice va k vc) k (((R.take k).map askT).map strV)):=⟨ownB ho hbW,ho⟩
   have HN:=zh hq;clear hW hbW hbq hq hc5 hg5 ho;go_upto_region 5 with fail
   rw [←HW.out];clear HW q0 q1 q2 q3 q4;have cK:=join2 58 q.src q.fat (fun n hn=>by simp at hn;rcases hn with rfl|rfl;exact j0;exact j1);have HJ:Hid (askT q=Lib.join ([q.src,q.fat].map Lib.itoa) [58]):=rfl;generalize Lib.join ([q.src,q.fat].map Lib.itoa) [58]=J at*;generalize wr.heap.size=K at*;have HBx:Hid (∀o,Below W.heap.size W (W.alloc o)):=fun o=>balloc _ o;have HPx:Hid (∀o,PowAt (W.alloc o)):=fun o=>HP.out _ (HBW.out.2.trans ((balloc _ o).mono HBW.out.2.size))
   go_wp2_with (first
    |(go_at_call 58;(with_reducible refine Calls.mono (cK _ _ ?_ ?_) ?_);exact⟨by simp,by simp⟩;exact HPx.out _;rintro e w6 ⟨rfl,hb7⟩;have hb8:=(HBx.out _).trans (hb7.mono (HBx.out _).size);have HB7:Hid (Below w5.heap.size w5 w6):=(zu HBW.out.1 hb8);have ho1:=(ownB HO.out.1 hb8).alloc (.cells #[strV J] 9);have HBy:Hid (Below w5.heap.size w5 (w6.alloc (.cells #[strV J] 9))∧w5.heap.size≤w6.heap.size):=⟨HB7.out.alloc HB7.out.size _,HB7.out.size⟩;clear hb7 hb8 cK)
    | (at_builtin; refine wpList_append_own _ rfl _ _ 23 rfl w5.heap.size 9 i0 (.string ByteArray.empty) 1 16 underlying23 hi hz0 hz1 hz2 rfl (by decide) _ _ _ rfl ho1 ⟨w6.heap.size, 0, none⟩ 1 1 [strV J] rfl rfl (cell_1 _ _ _) (fun u hu => by simp at hu; subst hu; rfl) (by unfold maxLen; omega) (by omega) (by have := HBy.out.2; simp; omega) ?_; intro v' w9 hown hgrow hnil; obtain ⟨va9, vc9, rfl⟩ := own_sh hown; have HX : Hid (AkR R w5 (.slice va9 (k + 1) vc9) (.int .i64 ((k + 1 : Nat) : Int)) w9) := (by
      refine⟨k+1,va9,vc9,hlt,rfl,rfl,?_,HBy.out.1.grown hgrow HBy.out.1.size fun g hg=>(HO.out.2.lt g hg).1⟩;rw [XB,HN.out];simpa [HJ.out]using hown);clear hown hgrow hnil))
   go_roundw
   case rel=>exact HX.out
   case measure=>simp [intOf];omega
  ·obtain rfl:k=R.length:=by omega
   have HB6:=HD.out _ (zu HB5.out.1 hbq);rw [XC]at ho;by_cases hr:R=[]
   ·have HE:=HA.out;rw [if_pos hr]at HE;have hl0:(R.length:Int)=0:=by rw [hr];rfl
    have HE:=zh HE;clear ho hbq hr;go_wp2;go_ret2;rw [HE.out];exact⟨rfl,HB6.2⟩
   ·have HE:=HA.out;rw [if_neg hr]at HE;have HE:=zh HE;have hl0: ¬(R.length:Int)=0:=fun e=>hr (XW (by omega));have c1:=join_ow (R.map askT) [32] wr w5.heap.size va vc (by rw [XE];exact ho) (by rw [XE];omega) (fun x hx=>by obtain⟨r,hr,rfl⟩:=XS.1 hx;have:=askT_len (hI2 r hr);omega) (by simp);rw [XE]at c1;have HB8:Hid (Below w.heap.size w wr):=(zu HB5.out.1 hbq)
    clear ho hbq HB6;go_wp2_with(go_at_call 60;(with_reducible refine zg c1 fun w6 hb1=>?_))
    go_ret2;rw [HE.out];exact⟨rfl,(HD.out _ (zu HB8.out hb1)).2⟩

def cmdC (l:List UInt8):Nat:=if l==[100,97,116,101]then 1 else if l==[110,101,120,116]then 2 else if l==[112,108,97,110]then 3 else if l==[99,108,101,97,114]then 4 else if l==[115,104,111,119]then 5 else if l==[119,111,114,108,100]then 6 else if l==[115,116,97,116,101]then 7 else if l==[97,115,107,115]then 8 else if oneK l≠0 then 9 else if twoK l≠0 then 10 else 0
def nbC:Nat→Nat
 |1=>2|2=>2|6=>3|9=>1|10=>2|_=>0
def moC:Nat→Bool
 |2=>true|3=>true|_=>false
def neC:Nat→Bool
 |7=>true|8=>true|9=>true|10=>true|_=>false
def Clo (f:Nat) (B:Nat) (w:World) (D:Nat) (x:Int) (v:Value):Prop:= ∃K L,v=.func (.func f) #[] #[.pointer (some ⟨K,0,none⟩),.pointer (some ⟨L,0,none⟩)]∧B≤K∧B≤L∧w.cell? ⟨K,0,none⟩=some (.pointer (some ⟨D,0,none⟩))∧w.cell? ⟨L,0,none⟩=some (.int .i64 x)
def FnAt (B:Nat) (w:World) (D:Nat) (l:List UInt8):Nat→Value→Prop
 |1,f=>f=.func (.func 33) #[] #[]
 |2,f=>f=.func (.func 34) #[] #[]
 |3,f=>f=.func (.func 35) #[.pointer (some ⟨D,0,none⟩)] #[]
 |4,f=>f=.func (.func 36) #[.pointer (some ⟨D,0,none⟩)] #[]
 |5,f=>f=.func (.func 37) #[.pointer (some ⟨D,0,none⟩)] #[]
 |6,f=>f=.func (.func 38) #[.pointer (some ⟨D,0,none⟩)] #[]
 |7,f=>f=.func (.func 39) #[.pointer (some ⟨D,0,none⟩)] #[]
 |8,f=>f=.func (.func 40) #[.pointer (some ⟨D,0,none⟩)] #[]
 |9,f=>Clo 42 B w D (oneK l) f
 |10,f=>Clo 45 B w D (twoK l) f
 |_,f=>f=.nilFunc
def CmA (w:World) (D:Nat) (l:List UInt8) (C:Nat) (e:Ending) (w':World):Prop:= ∃f,e=.returned (.agg #[.int .i64 (nbC C),.bool (moC C),.bool (neC C),f])∧FnAt w.heap.size w' D l C f∧Below w.heap.size w w'
theorem range4 {w:World} {a b c d:Value} (h:w.cell? ⟨B,0,none⟩=some a∧w.cell? ⟨B,1,none⟩=some b∧w.cell? ⟨B,2,none⟩=some c∧w.cell? ⟨B,3,none⟩=some d):w.rangeAt B 0 [a,b,c,d]:=by
 intro j v hv;match j,hv with
 |0,hv=>simp at hv;subst hv;simpa using h.1
 |1,hv=>simp at hv;subst hv;simpa using h.2.1
 |2,hv=>simp at hv;subst hv;simpa using h.2.2.1
 |3,hv=>simp at hv;subst hv;simpa using h.2.2.2
 |j+4,hv=>simp at hv
theorem cell_nw {w:World} {v:Value} {t:TypeId} (hk:k=w.heap.size):(w.alloc (.cells #[v] t)).cell? ⟨k,0,none⟩=some v:=by
 subst hk;simp
theorem finC {w:World} {D N:Nat} {l:List UInt8} (hp:a.tmps[4]? =some (.pointer (some ⟨C,0,none⟩))) (ha:a.defers=[]) (hF:FnAt w.heap.size Wf D l N f) (hB:Below w.heap.size w Wf)
  (h:Wf.cell? ⟨C,0,none⟩=some (.int .i64 (nbC N))∧Wf.cell? ⟨C,1,none⟩=some (.bool (moC N))∧Wf.cell? ⟨C,2,none⟩=some (.bool (neC N))∧Wf.cell? ⟨C,3,none⟩=some f):bodyPost prog f26 (CmA w D l N) Exit.ret a Wf:=by
 have hl:=run_loadVar_mid (P:=prog) Wf C 0 56 _ _ (range4 h) underlying56 rfl (by kernel_rfl);have hr:(results f26 a.tmps).run prog Wf=.ok (.agg #[.int .i64 (nbC N),.bool (moC N),.bool (neC N),f]) Wf:=by
  simp only [results,results26];simp [hp,asAddr,hl]
 exact bodyPost_ret hr ha ⟨f,rfl,hF,hB⟩
theorem command_any (D:Nat) (l:List UInt8) (w:World):Calls prog 26 #[.pointer (some ⟨D,0,none⟩),strV l] w (CmA w D l (cmdC l)):=by
 have c1:=fun w=>one_any l w;have c2:=fun w=>two_any l w;obtain⟨C,hC⟩: ∃C,C=cmdC l:=⟨_,rfl⟩
 rw [←hC];unfold cmdC at hC;obtain⟨x1,H1⟩: ∃x,Hid (x=oneK l):=⟨_,rfl⟩
 obtain⟨x2,H2⟩: ∃x,Hid (x=twoK l):=⟨_,rfl⟩
 rw [←H1.out,←H2.out]at hC;simp only [←H1.out]at c1;simp only [←H2.out]at c2;(repeat' split at hC)<;>subst hC
 all_goals
  go_enter func26,ntmps26
  go_wp2_with (first
   |(go_at_call 41;(with_reducible refine zq (c1 _) ?_))
   |(go_at_call 44;(with_reducible refine zq (c2 _) ?_)))
  apply finC (C:=w.heap.size+1)
  ·exact rfl
  ·exact rfl
  ·first
    |exact rfl
    |exact⟨w.heap.size,w.heap.size+1+1,rfl,Xa _,by omega,cell_al (cell_al (cell_nw rfl) _) _,(cell_nw (by simp)).trans (by rw [H1.out])⟩
    |exact⟨w.heap.size,w.heap.size+1+1+1,rfl,Xa _,by omega,cell_al (cell_al (cell_al (cell_nw rfl) _) _) _,(cell_nw (by simp)).trans (by rw [H2.out])⟩
  ·first
    |exact(balloc _ _).alloc (by simp) _
    |exact((balloc _ _).alloc (by simp) _).alloc (by simp;omega) _
    |exact(((balloc _ _).alloc (by simp) _).alloc (by simp;omega) _).alloc (by simp;omega) _
  ·first
    |(refine⟨?_,?_,?_,?_⟩<;>simp [nbC,moC,neC]<;>done)
    |(refine⟨cell_al ?_ _,cell_al ?_ _,cell_al ?_ _,cell_al ?_ _⟩<;>simp [nbC,moC,neC]<;>done)
    |(refine⟨cell_al (cell_al ?_ _) _,cell_al (cell_al ?_ _) _,cell_al (cell_al ?_ _) _,cell_al (cell_al ?_ _) _⟩<;>simp [nbC,moC,neC]<;>done)

def readC (C:Nat) (ws:List (List UInt8)):Option (List Int×List (List UInt8)):=if C=0 then none else readP (nbC C) (moC C) ws
def ReadB (B0 C:Nat) (ws:List (List UInt8)) (A:Nat) (e:Ending) (w':World):Prop:=
 (readC C ws=none∧ ∃v1 v2,e=.returned (.tuple #[v1,v2,.bool false]))∨
 ∃ns more ao c off c',readC C ws=some (ns,more)∧more.length≤c'∧e=.returned (.tuple #[.slice ao ns.length c,.slice (some ⟨A,off,none⟩) more.length c',.bool true])∧(NumsAt w' ao ns∧ ∀g,ao=some ⟨g,0,none⟩→B0≤g)∧TxAt w' A off more
theorem fn_nil0 (w:World):(binOp .eql 54 .nilFunc .nilFunc).run prog w=.ok (.bool true) w:=by kernel_rfl
theorem read_nil (x:Value) (m n:Bool) (v:Value) (w:World):Calls prog 27 #[.agg #[x,.bool m,.bool n,.nilFunc],v] w fun e w'=>(∃v1 v2,e=.returned (.tuple #[v1,v2,.bool false]))∧Below w.heap.size w w':=by
 have hq:=fn_nil0;go_enter func27,ntmps27;go_wp2;go_ret3
 exact⟨⟨_,_,rfl⟩,balloc _ _⟩
theorem FnAt.fn {w:World} {D:Nat} {l:List UInt8} (h:FnAt B w D l C f) (hC:C≠0) (h10:C≤10): ∃g ca cb,f=.func (.func g) ca cb:=by
 rcases(by omega:C=1∨C=2∨C=3∨C=4∨C=5∨C=6∨C=7∨C=8∨C=9∨C=10)with rfl|rfl|rfl|rfl|rfl|rfl|rfl|rfl|rfl|rfl
 all_goals first
  |exact⟨_,_,_,h⟩
  |(obtain⟨K,L,h,_⟩:=h;exact⟨_,_,_,h⟩)
theorem cmdC_le (l:List UInt8):cmdC l≤10:=by unfold cmdC;(repeat' split)<;>omega
theorem nbC_le (C:Nat):nbC C≤3:=by unfold nbC;split<;>omega
theorem read_b {D:Nat} {l:List UInt8} (C:Nat) (h10:C≤10) (f:Value) (hF:FnAt B w0 D l C f) (ws:List (List UInt8)) (A off cap:Nat) (w:World) (hT:TxAt w A off ws) (hcap:ws.length≤cap∧cap≤65536) (hk: ∀x∈ws,x.length≤65536) (hg:NeAt w) (hP:PowAt w):
  Calls prog 27 #[.agg #[.int .i64 (nbC C),.bool (moC C),.bool (neC C),f],.slice (some ⟨A,off,none⟩) ws.length cap] w fun e w'=>ReadB w.heap.size C ws A e w'∧Below w.heap.size w w':=by
 by_cases hC:C=0
 ·subst hC;obtain rfl:f=.nilFunc:=hF;exact(read_nil _ _ _ _ w).mono fun e w' ⟨h,hb⟩=>⟨Or.inl ⟨if_pos rfl,h⟩,hb⟩
 ·obtain⟨g,ca,cb,rfl⟩:=hF.fn hC h10;refine(read_any (nbC C) (moC C) (neC C) g ca cb ws A off cap w hT (nbC_le C) hcap hk hg hP).mono fun e w' ⟨h,hb⟩=>⟨?_,hb⟩
  have e:readC C ws=readP (nbC C) (moC C) ws:=if_neg hC;unfold ReadB;rw [e];exact h

theorem read_n {D:Nat} {l:List UInt8} (C:Nat) (h10:C≤10) (f:Value) (hF:FnAt B w0 D l C f) (ws:List (List UInt8)) (A off cap:Nat) (w:World) (hT:TxAt w A off ws) (hcap:ws.length≤cap∧cap≤65536) (hk: ∀x∈ws,x.length≤65536) (hg:NeAt w) (hP:PowAt w) (hn:readC C ws=none):
  Calls prog 27 #[.agg #[.int .i64 (nbC C),.bool (moC C),.bool (neC C),f],.slice (some ⟨A,off,none⟩) ws.length cap] w fun e w'=>(∃v1 v2,e=.returned (.tuple #[v1,v2,.bool false]))∧Below w.heap.size w w':=
 (read_b C h10 f hF ws A off cap w hT hcap hk hg hP).mono fun e w' ⟨h, hb⟩ => ⟨(by
  rcases h with⟨_,h⟩|⟨ns,more,ao,c,off,c',h,_⟩
  ·exact h
  ·rw [hn]at h;cases h),hb⟩
theorem read_y {D:Nat} {l:List UInt8} (C:Nat) (h10:C≤10) (f:Value) (hF:FnAt B w0 D l C f) (ws:List (List UInt8)) (A off cap:Nat) (w:World) (hT:TxAt w A off ws) (hcap:ws.length≤cap∧cap≤65536) (hk: ∀x∈ws,x.length≤65536) (hg:NeAt w) (hP:PowAt w) (ns:List Int) (more:List (List UInt8)) (hn:readC C ws=some (ns,more)):
  Calls prog 27 #[.agg #[.int .i64 (nbC C),.bool (moC C),.bool (neC C),f],.slice (some ⟨A,off,none⟩) ws.length cap] w fun e w'=>(∃ao c off c',more.length≤c'∧e=.returned (.tuple #[.slice ao ns.length c,.slice (some ⟨A,off,none⟩) more.length c',.bool true])∧(NumsAt w' ao ns∧ ∀g,ao=some ⟨g,0,none⟩→w.heap.size≤g)∧TxAt w' A off more)∧Below w.heap.size w w':=
 (read_b C h10 f hF ws A off cap w hT hcap hk hg hP).mono fun e w' ⟨h, hb⟩ => ⟨(by
  rcases h with⟨h,_⟩|⟨ns',more',ao,c,off,c',h,h2⟩
  ·rw [hn]at h;cases h
  ·rw [hn]at h;cases h;exact⟨ao,c,off,c',h2⟩),hb⟩
theorem FnAt.two {w:World} {D:Nat} {l:List UInt8} (h:FnAt B w D l C f) (h10:C≤10):f=.nilFunc∨ ∃g ca cb,f=.func (.func g) ca cb:=by
 by_cases hC:C=0
 ·subst hC;exact Or.inl h
 ·exact Or.inr (h.fn hC h10)
theorem tail_tx {w:World} {A off cap:Nat} {l:List UInt8} {tl:List (List UInt8)} (hT:TxAt w A off (l::tl)) (hcap:tl.length+1≤cap): ∃off',(if cap=1 then some (⟨A,off,none⟩:Addr)else some ⟨A,off+1,none⟩)=some ⟨A,off',none⟩∧TxAt w A off' tl:=by
 obtain⟨off',hof,he⟩: ∃off',(off'=off+1∨tl=[])∧(if cap=1 then some (⟨A,off,none⟩:Addr)else some ⟨A,off+1,none⟩)=some ⟨A,off',none⟩:=by
  by_cases h:cap=1
  ·exact⟨off,Or.inr (XW (by omega)),by rw [if_pos h]⟩
  ·exact⟨off+1,Or.inl rfl,by rw [if_neg h]⟩
 refine⟨off',he,hT.1,fun j x hj=> ?_⟩;rcases hof with rfl|rfl
 ·rw [show off+1+j=off+(j+1) by omega];exact hT.2 (j+1) x hj
 ·simp at hj
section
variable (D : Nat) (s : DS) (b : Nat → Prop) (w : World) (h : DAt w D s b) (l : List UInt8) (tl : List (List UInt8)) (A off cap : Nat) (hT : TxAt w A off (l :: tl)) (hcap : tl.length + 1 ≤ cap ∧ cap ≤ 65536) (hk : ∀ x ∈ tl, x.length ≤ 65536)
include h hT hcap hk
theorem do_no (hR:readC (cmdC l) tl=none):Calls prog 14 #[.pointer (some ⟨D,0,none⟩),.slice (some ⟨A,off,none⟩) (tl.length+1) cap] w (Res D b [] (some (3,none)) s w):=by
 have cC:=command_any D l w;have hC10:=cmdC_le l;have hl0:=hT.2 0 l rfl;rw [XD]at hl0;obtain⟨off',he,hTl⟩:=tail_tx hT hcap.1;have HT:=zh hTl;have HD:=zh h;have HK:=zh hk;have HG:Hid (∀w1,Below w.heap.size w w1→NeAt w1∧PowAt w1):=fun w1 hb=>⟨(h.g.gv.below hb).n,(h.g.gv.below hb).g.p⟩
 clear hT hTl h hk;generalize hC:cmdC l=C at*;have cR:=fun f w1 w' (hF:FnAt w.heap.size w1 D l C f) (hb:Below w.heap.size w w')=>read_n C hC10 f hF tl A off' (cap-1) w' (HT.out.below hb HT.out.1) (by omega) HK.out (HG.out w' hb).1 (HG.out w' hb).2 hR;have HR:Hid (cap≤65536):=hcap.2;clear hR;go_enter func14,ntmps14;go_upto_region 2 with(go_at_call 26;(with_reducible refine cC.mono ?_);rintro e w1 ⟨f,rfl,hF,hb1⟩;rcases hF.two hC10 with rfl|⟨g,ca,cb,rfl⟩)
 all_goals
  first
   |generalize Value.func (.func g) ca cb=f at*
   |generalize Value.nilFunc=f at*
  obtain⟨W,hW⟩: ∃W,W=w1.alloc (.cells #[.int .i64 (nbC C),.bool (moC C),.bool (neC C),f] 56):=⟨_,rfl⟩
  rw [←hW];have hb2:Below w.heap.size w W.drew:=by rw [hW];exact(hb1.alloc hb1.size _).drew
  have x0:W.drew.cell? ⟨w1.heap.size,0,none⟩=some (.int .i64 (nbC C)):=by rw [hW];show(w1.alloc _).cell? _=_;simp
  have x1:W.drew.cell? ⟨w1.heap.size,1,none⟩=some (.bool (moC C)):=by rw [hW];show(w1.alloc _).cell? _=_;simp
  have x2:W.drew.cell? ⟨w1.heap.size,2,none⟩=some (.bool (neC C)):=by rw [hW];show(w1.alloc _).cell? _=_;simp
  have x3:W.drew.cell? ⟨w1.heap.size,3,none⟩=some f:=by rw [hW];show(w1.alloc _).cell? _=_;simp
  have c2:=cR f w1 W.drew hF hb2;have HB2:=zh hb2;clear hW hb2 hb1 hF cR cC;generalize w1.heap.size=K at*;go_region_held (fun w'=>w'.cell? ⟨K,0,none⟩=some (.int .i64 (nbC C))∧w'.cell? ⟨K,1,none⟩=some (.bool (moC C))∧w'.cell? ⟨K,2,none⟩=some (.bool (neC C))∧w'.cell? ⟨K,3,none⟩=some f) (with_reducible first|exact⟨x0,x1,x2,x3⟩|exact⟨z0,z1,z2,z3⟩) ((go_at_call 27;(with_reducible refine c2.mono ?_);rintro e w2 ⟨⟨v1,v2,rfl⟩,hb3⟩;have z0:=Tk.kc x0 hb3;have z1:=Tk.kc x1 hb3;have z2:=Tk.kc x2 hb3;have z3:=Tk.kc x3 hb3))
  have HB3:=HD.out.below (zu HB2.out hb3);have HM:Mm.Mv b b w w2:=Mm.Mv.of_below (zu HB2.out hb3);clear hb3;go_wp2;go_ret2;exact⟨rfl,b,HB3,HM⟩
end

theorem DAt.ptr {w:World} {D:Nat} {s:DS} {b:Nat→Prop} (h:DAt w D s b): ∃o,w.cell? ⟨D,1,none⟩=some (.pointer o)∧(s.w=none→o=none)∧(s.w≠none→ ∃Q,o=some ⟨Q,0,none⟩):=by
 have hw:=h.w;match hs:s.w with
 |none=>rw [hs]at hw;exact⟨none,hw.1,fun _=>rfl,fun h=>absurd rfl h⟩
 |some (p,ts,S)=>rw [hs]at hw;obtain⟨B,c,h1,_⟩:=hw;exact⟨_,h1,fun h=>by simp at h,fun _=>⟨_,rfl⟩⟩
theorem FnAt.below {w w':World} {D:Nat} {l:List UInt8} (h:FnAt B w D l C f) (hb:Below w.heap.size w w'):FnAt B w' D l C f:=by
 unfold FnAt at*;split at h
 all_goals first
  |exact h
  |(obtain⟨K,L,h1,h2,h3,h4,h5⟩:=h;exact⟨K,L,h1,h2,h3,Tk.kc h4 hb,Tk.kc h5 hb⟩)
section
variable (D : Nat) (s : DS) (b : Nat → Prop) (w : World) (h : DAt w D s b) (l : List UInt8) (tl : List (List UInt8)) (A off cap : Nat) (hT : TxAt w A off (l :: tl)) (hcap : tl.length + 1 ≤ cap ∧ cap ≤ 65536) (hk : ∀ x ∈ tl, x.length ≤ 65536)
include h hT hcap hk
theorem do_yes (ns:List Int) (more:List (List UInt8)) (hR:readC (cmdC l) tl=some (ns,more)) (a:List UInt8) (er:Option (Int×Option Int)) (s':DS)
  (H2:neC (cmdC l)=true→s.w=none→a=[]∧er=some (7,none)∧s'=s)
  (H3:(neC (cmdC l)=true→s.w≠none)→ ∀f w' ao c off c',Below w.heap.size w w'→DAt w' D s b→FnAt w.heap.size w' D l (cmdC l) f→NumsAt w' ao ns→(∀g,ao=some ⟨g,0,none⟩→w.heap.size≤g)→TxAt w' A off more→more.length≤c'→ ∀g ca cb,f=.func (.func g) ca cb→(∀args w,(callFunc g args).run prog w=.ok (.enter g args) w)∧Calls prog g (ca++(#[.slice ao ns.length c,.slice (some ⟨A,off,none⟩) more.length c']++cb)) w' (Res D b a er s' w')):
  Calls prog 14 #[.pointer (some ⟨D,0,none⟩),.slice (some ⟨A,off,none⟩) (tl.length+1) cap] w (Res D b a er s' w):=by
 have cC:=command_any D l w;have hC10:=cmdC_le l;have hC0:cmdC l≠0:=fun e=>by rw [e]at hR;cases hR
 have hl0:=hT.2 0 l rfl;rw [XD]at hl0;obtain⟨off',he,hTl⟩:=tail_tx hT hcap.1;have HT:=zh hTl;have HD:=zh h;have HK:=zh hk;have HG:Hid (∀w1,Below w.heap.size w w1→NeAt w1∧PowAt w1):=fun w1 hb=>⟨(h.g.gv.below hb).n,(h.g.gv.below hb).g.p⟩
 obtain⟨o,ho,o1,o2⟩:=h.ptr;have HO:Hid (∀w1,Below w.heap.size w w1→w1.cell? ⟨D,1,none⟩=some (.pointer o)):=fun w1 hb=>Tk.kc ho hb;clear hT hTl h hk ho;generalize hC:cmdC l=C at*;have cR:=fun f w1 w' (hF:FnAt w.heap.size w1 D l C f) (hb:Below w.heap.size w w')=>read_y C hC10 f hF tl A off' (cap-1) w' (HT.out.below hb HT.out.1) (by omega) HK.out (HG.out w' hb).1 (HG.out w' hb).2 ns more hR;have HR:Hid (cap≤65536):=hcap.2;have H2:=zh H2;have H3:=zh H3;clear hR;go_enter func14,ntmps14;go_upto_region 2 with(go_at_call 26;(with_reducible refine cC.mono ?_);rintro e w1 ⟨f,rfl,hF,hb1⟩;obtain⟨g,ca,cb,rfl⟩:=hF.fn hC0 hC10)
 obtain⟨W,hW⟩: ∃W,W=w1.alloc (.cells #[.int .i64 (nbC C),.bool (moC C),.bool (neC C),.func (.func g) ca cb] 56):=⟨_,rfl⟩
 rw [←hW];have hbw:Below w1.heap.size w1 W.drew:=by rw [hW];exact(balloc _ _).drew
 have x0:W.drew.cell? ⟨w1.heap.size,0,none⟩=some (.int .i64 (nbC C)):=by rw [hW];show(w1.alloc _).cell? _=_;simp
 have x1:W.drew.cell? ⟨w1.heap.size,1,none⟩=some (.bool (moC C)):=by rw [hW];show(w1.alloc _).cell? _=_;simp
 have x2:W.drew.cell? ⟨w1.heap.size,2,none⟩=some (.bool (neC C)):=by rw [hW];show(w1.alloc _).cell? _=_;simp
 have x3:W.drew.cell? ⟨w1.heap.size,3,none⟩=some (.func (.func g) ca cb):=by rw [hW];show(w1.alloc _).cell? _=_;simp
 have hb2:Below w.heap.size w W.drew:=(zu hb1 hbw)
 have c2:=cR _ w1 W.drew hF hb2;have HB2:=zh hb2;have H1:Hid (∀w2,Below W.drew.heap.size W.drew w2→FnAt w.heap.size w2 D l C (.func (.func g) ca cb)):=fun w2 hb=>hF.below (zu hbw hb);clear hW hb2 hb1 hF cR cC hbw;generalize w1.heap.size=K at*;go_region_held (fun w'=>w'.cell? ⟨K,0,none⟩=some (.int .i64 (nbC C))∧w'.cell? ⟨K,1,none⟩=some (.bool (moC C))∧w'.cell? ⟨K,2,none⟩=some (.bool (neC C))∧w'.cell? ⟨K,3,none⟩=some (.func (.func g) ca cb)) (with_reducible first|exact⟨x0,x1,x2,x3⟩|exact⟨z0,z1,z2,z3⟩) ((go_at_call 27;(with_reducible refine c2.mono ?_);rintro e w2 ⟨⟨ao,c,off2,c',hc',rfl,hN,hX⟩,hb3⟩;have z0:=Tk.kc x0 hb3;have z1:=Tk.kc x1 hb3;have z2:=Tk.kc x2 hb3;have z3:=Tk.kc x3 hb3))
 have HF:Hid (FnAt w.heap.size w2 D l C (.func (.func g) ca cb)):=H1.out _ hb3;have HB3:Hid (Below w.heap.size w w2):=(zu HB2.out hb3)
 have HN:Hid (NumsAt w2 ao ns∧(∀g,ao=some ⟨g,0,none⟩→w.heap.size≤g)∧TxAt w2 A off2 more∧more.length≤c'):=⟨hN.1,fun g hg=>Xc HB2.out.size (hN.2 g hg),hX,hc'⟩
 have hD1:=HO.out _ HB3.out;clear hb3 hN hX hc' H1 c2 x0 x1 x2 x3 z0 z1;have hrun:(neC C=true→s.w≠none)→(∀args w,(callFunc g args).run prog w=.ok (.enter g args) w)∧Calls prog g (ca++(#[.slice ao ns.length c,.slice (some ⟨A,off2,none⟩) more.length c']++cb)) w2 (Res D b a er s' w2):=fun hh=>H3.out hh _ w2 ao c off2 c' HB3.out (HD.out.below HB3.out) HF.out HN.out.1 HN.out.2.1 HN.out.2.2.1 HN.out.2.2.2 g ca cb rfl;by_cases hn:neC C=true
 ·by_cases hs:s.w=none
  ·obtain⟨rfl,rfl,rfl⟩:=H2.out hn hs;obtain rfl:=o1 hs;rw [hn]at z2;clear hrun;go_wp2;go_ret2;exact⟨rfl,b,HD.out.below HB3.out,Mm.Mv.of_below HB3.out⟩
  ·obtain⟨Q,rfl⟩:=o2 hs;obtain⟨eg,cr⟩:=hrun fun _=>hs;rw [hn]at z2;clear hrun;go_wp2_with(go_at_fn g;(with_reducible refine cr.mono ?_);rintro e w3 ⟨rfl,b',hD3,hM3⟩;have HE:Hid (DAt w3 D s' b'∧Mm.Mv b b' w2 w3):=⟨hD3,hM3⟩;clear hD3 hM3)
   go_ret2;exact⟨rfl,b',HE.out.1,(Mm.Mv.of_below (b:=b) HB3.out).trans HE.out.2⟩
 ·obtain⟨eg,cr⟩:=hrun fun h=>absurd h hn;have hn:neC C=false:=by simpa using hn
  rw [hn]at z2;clear hrun;go_wp2_with(go_at_fn g;(with_reducible refine cr.mono ?_);rintro e w3 ⟨rfl,b',hD3,hM3⟩;have HE:Hid (DAt w3 D s' b'∧Mm.Mv b b' w2 w3):=⟨hD3,hM3⟩;clear hD3 hM3)
  go_ret2;exact⟨rfl,b',HE.out.1,(Mm.Mv.of_below (b:=b) HB3.out).trans HE.out.2⟩
end

theorem nums3 {w:World} {ao:Option Addr} {x y:Int} (h:NumsAt w ao [x,y,z]): ∃g,ao=some ⟨g,0,none⟩∧w.cell? ⟨g,0,none⟩=some (.int .i64 x)∧w.cell? ⟨g,1,none⟩=some (.int .i64 y)∧w.cell? ⟨g,2,none⟩=some (.int .i64 z):=by
 obtain⟨g,rfl,h0⟩:=h 0 x rfl;obtain⟨g',e,h1⟩:=h 1 y rfl;cases e;obtain⟨g',e,h2⟩:=h 2 z rfl;cases e;exact⟨g,rfl,h0,h1,h2⟩
theorem DAt.world {w:World} {D:Nat} {s:DS} {b:Nat→Prop} {c:Pc} {p:Pd} {ts:List Tr} {S:WS} (h0:DAt w0 D s b) (hb:Below w0.heap.size w0 w) (hB:w0.heap.size≤B) (hA:WAt w B c p ts S):
  ∃b',DAt (w.setCell ⟨D,1,none⟩ (.pointer (some ⟨c.x.D,0,none⟩))) D { s with w:=some (p,ts,S) } b'∧Mm.Mv b b' w0 (w.setCell ⟨D,1,none⟩ (.pointer (some ⟨c.x.D,0,none⟩))):=by
 have h:=h0.below hb;have hD:D<w0.heap.size:=(h0.low D h0.mem).2;have hm:Mm.Mv b b w (w.setCell ⟨D,1,none⟩ (.pointer (some ⟨c.x.D,0,none⟩))):=Mm.Mv.set h.mem _;have hG:=h.g.mv (fun k hk=>(h.low k hk).1) hm;obtain⟨x,h1⟩:=h.one;refine⟨fun k=>k=D∨bk c ts k,⟨by rw [Xd (h:=fun e=>by cases e)];exact h.t,fun j=>by simp only [Xi];exact h.f j,hG,B,c,Xn _ _ _ h1,?_,by omega,rfl⟩,?_⟩
 ·exact hA.kept (fun k hk=>Below.heap_setCell w ⟨D,1,none⟩ _ k (fun e=>by have:=(hA.low hk).1;subst e;omega)) hm.size (hG.bas (by omega))
 ·have m:=(Mm.Mv.of_below (b:=b) hb).trans hm;refine⟨m.os,m.tape,m.output,m.size,m.block,fun k hk=> ?_⟩;rcases hk with rfl|hk
  ·exact Or.inl h0.mem
  ·exact Or.inr (Xc hB (hA.low hk).1)
def worldA (r:Sum (Int×Int) (Pd×List Tr)) (x z:Int):List UInt8×Option (Int×Option Int):=match r with
 | .inl (E,n)=>([],some (E,some n))
 | .inr (p,ts)=>if newE p ts x z=0 then([111,107],none)else([],some (newE p ts x z,none))
def worldS (r:Sum (Int×Int) (Pd×List Tr)) (x y z:Int) (s:DS):DS:=match r with
 | .inl _=>s
 | .inr (p,ts)=>if newE p ts x z=0 then { s with w:=some (noN p,ts,newW (noN p) ts x.toNat y z) } else s
theorem newE_0 {p:Pd} {ts:List Tr} {x:Int} (hc:chkP p ts=0) (h:newE p ts x z=0):(1≤x∧x≤20)∧(-10000000000≤z∧z≤10000000000):=by
 unfold newE at h;rw [if_neg (by simpa using hc)]at h;split at h
 ·assumption
 ·cases h
def NewB (p:Pd) (ts:List Tr) (x y z:Int) (w:World) (e:Ending) (w':World):Prop:= ∃P,e=.returned (.tuple #[.pointer P,.int .i64 (newE p ts x z)])∧(newE p ts x z=0→ ∃c:Pc,P=some ⟨c.x.D,0,none⟩∧WAt w' w.heap.size c (noN p) ts (newW (noN p) ts x.toNat y z))∧Below w.heap.size w w'
theorem new_b (p:Pd) (a:Option Addr) (cap:Nat) (ts:List Tr) (x y z:Int) (w:World) (hB:Lai.BdsAt w) (hi:PdI p) (hl:p.nm.length≤9223372036854775807) (hT:TrsAt w a ts) (hc:chkP p ts=0):
  Calls prog 65 #[planV p (.slice a ts.length cap),.int .i64 x,.int .i64 y,.int .i64 z] w (NewB p ts x y z w):=by
 by_cases h:newE p ts x z=0
 ·obtain⟨h1,h2⟩:=newE_0 hc h;obtain⟨n,rfl⟩: ∃n:Nat,x=(n:Int):=⟨x.toNat,by omega⟩
  exact(new_yes p a cap ts n y z w hB hi hl hT hc (by omega) h2).mono fun e w' ⟨c,h1,h2,h3⟩=>⟨_,by rw [h];exact h1,fun _=>⟨c,rfl,by simpa using h2⟩,h3⟩
 ·exact(new_no p a cap ts x y z w hB hi hl hT h).mono fun e w' ⟨h1,h2⟩=>⟨none,h1,fun g=>absurd g h,h2⟩

theorem new_any (hrd:RdOk rd) (D:Nat) (s:DS) (b:Nat→Prop) (w:World) (h:DAt w D s b) (ht:s.t.length≤2048) (x y z:Int) (g c:Nat) (v:Value) (h0:w.cell? ⟨g,0,none⟩=some (.int .i64 x)) (h1:w.cell? ⟨g,1,none⟩=some (.int .i64 y)) (h2:w.cell? ⟨g,2,none⟩=some (.int .i64 z)):
  Calls prog 38 #[.pointer (some ⟨D,0,none⟩),.slice (some ⟨g,0,none⟩) 3 c,v] w (Res D b (worldA (planO rd s.t) x z).1 (worldA (planO rd s.t) x z).2 (worldS (planO rd s.t) x y z s) w):=by
 have hG:=h.g.gv.g;have c0:=plan_d hrd D s.t ht w hG h.t;have HD:=zh h;have HG:Hid (∀w1,Below w.heap.size w w1→Gd w1):=fun w1 hb=>hG.below hb;have HN:Hid (w.cell? ⟨g,0,none⟩=some (.int .i64 x)∧w.cell? ⟨g,1,none⟩=some (.int .i64 y)∧w.cell? ⟨g,2,none⟩=some (.int .i64 z)):=⟨h0,h1,h2⟩
 clear h hG h0 h1 h2;cases hr:planO rd s.t with
 |inl q=>
  obtain⟨E,n⟩:=q;rw [hr]at c0;simp only [worldA,worldS];go_enter func38,ntmps38
  go_wp2_with (first
   |(go_at_call 62;(with_reducible refine c0.mono ?_);rintro e w1 ⟨rfl,hb1⟩)
   |((with_reducible refine wp_newPl (w:=w1) (p':=p0) (v':=.slice none 0 0) rfl (by with_unfolding_all rfl) (by with_unfolding_all rfl) ?_);intro w2 hY2 hb2;have HB2:Hid (Below w.heap.size w w2):=(zu hb1 hb2)))
  go_ret2;exact⟨rfl,b,HD.out.below HB2.out,Mm.Mv.of_below HB2.out⟩
 |inr q=>
  obtain⟨p,ts⟩:=q;obtain⟨hc,hi,hU⟩:=planO_ok hrd hr;have hl:p.nm.length≤9223372036854775807:=by have:=nm_len (chk_parts hc).1;omega
  rw [hr]at c0;have HE:Hid (worldA (.inr (p,ts)) x z=(if newE p ts x z=0 then([111,107],none)else([],some (newE p ts x z,none)))∧worldS (.inr (p,ts)) x y z s=(if newE p ts x z=0 then { s with w:=some (noN p,ts,newW (noN p) ts x.toNat y z) } else s)):=⟨rfl,rfl⟩
  go_enter func38,ntmps38
  go_upto_region 4 with (first
   |(go_at_call 62;(with_reducible refine c0.mono ?_);rintro e w1 ⟨⟨a,cap,rfl,hT⟩,hb1⟩)
   |((with_reducible refine wp_newPl (w:=w1) (p':=p) (v':=.slice a ts.length cap) rfl (by with_unfolding_all rfl) (by with_unfolding_all rfl) ?_);intro w2 hY2 hb2))
  have HB2:Hid (Below w.heap.size w w2):=(zu hb1 hb2)
  have hbd:Below w.heap.size w w2.drew:=HB2.out.drew;have cN:=new_b p a cap ts x y z w2.drew (HG.out _ hbd).b hi hl ((hT.below hb2 (Xa _)).below (Mm.bdrew w2) (Xa _)) hc;have hS: ∀X,Below w2.heap.size w2 X→X.rangeAt w1.heap.size 0 [.string ⟨p.nm.toArray⟩,.int .i64 p.mn,.int .i64 p.mx,.int .i64 p.po,.int .i64 p.co,.int .i64 p.tl,.int .i64 p.bk,.int .i64 p.af,.int .i64 p.sh,.int .i64 p.uw,.int .i64 p.up,.int .i64 p.uc,.int .i64 p.ue,.int .i64 p.dw,.int .i64 p.dp,.int .i64 p.dc,.int .i64 p.de,.slice a ts.length cap]∧X.cell? ⟨g,0,none⟩=some (.int .i64 x)∧X.cell? ⟨g,1,none⟩=some (.int .i64 y)∧X.cell? ⟨g,2,none⟩=some (.int .i64 z):=fun X hb=>⟨range_plan (PlAt.of (hY2.below hb hY2.lt).cel),Tk.kc (Tk.kc HN.out.1 HB2.out) hb,Tk.kc (Tk.kc HN.out.2.1 HB2.out) hb,Tk.kc (Tk.kc HN.out.2.2 HB2.out) hb⟩
  have HS:=zh hS;have HBD:Hid (Below w.heap.size w w2.drew∧Below w2.heap.size w2 w2.drew):=⟨hbd,Mm.bdrew w2⟩
  clear hS c0 hT hY2 hb2 hbd hb1 hi hl hc hU;refine wp_region_held_drew (S:=fun w'=>w'.rangeAt w1.heap.size 0 [.string ⟨p.nm.toArray⟩,.int .i64 p.mn,.int .i64 p.mx,.int .i64 p.po,.int .i64 p.co,.int .i64 p.tl,.int .i64 p.bk,.int .i64 p.af,.int .i64 p.sh,.int .i64 p.uw,.int .i64 p.up,.int .i64 p.uc,.int .i64 p.ue,.int .i64 p.dw,.int .i64 p.dp,.int .i64 p.dc,.int .i64 p.de,.slice a ts.length cap]∧w'.cell? ⟨g,0,none⟩=some (.int .i64 x)∧w'.cell? ⟨g,1,none⟩=some (.int .i64 y)∧w'.cell? ⟨g,2,none⟩=some (.int .i64 z)) (by kernel_rfl) (HS.out _ HBD.out.2) (fun hHeld=> ?_);generalize w2.drew=X at*;refine Tk.gi 0 (v:=planV p (.slice a ts.length cap)) ?_ (hy:=yieldsIf_load_mid (by rfl) 111 (.tmp 8) rfl w1.heap.size 0 (by with_unfolding_all rfl) [.string ⟨p.nm.toArray⟩,.int .i64 p.mn,.int .i64 p.mx,.int .i64 p.po,.int .i64 p.co,.int .i64 p.tl,.int .i64 p.bk,.int .i64 p.af,.int .i64 p.sh,.int .i64 p.uw,.int .i64 p.up,.int .i64 p.uc,.int .i64 p.ue,.int .i64 p.dw,.int .i64 p.dp,.int .i64 p.dc,.int .i64 p.de,.slice a ts.length cap] _ (fun w h=>h.1) underlying111 rfl (by kernel_rfl));(try simp only [Act.put,ar,ag]);refine Tk.gi 1 ?_;(try simp only [Act.put,ar,ag]);refine Tk.gi 2 ?_;(try simp only [Act.put,ar,ag]);refine Tk.gi 3 ?_;(try simp only [Act.put,ar,ag]);refine Tk.gi 4 ?_;(try simp only [Act.put,ar,ag]);refine Tk.gi 5 ?_;(try simp only [Act.put,ar,ag]);refine Tk.gi 6 ?_;(try simp only [Act.put,ar,ag]);refine Tk.gi 7 ?_;(try simp only [Act.put,ar,ag]);refine Tk.gi 8 ?_;(try simp only [Act.put,ar,ag]);refine Tk.gi 9 ?_;(try simp only [Act.put,ar,ag]);refine Tk.r1 10 fun K' hK=> ?_;go_simp;go_wp2_with(go_at_call 65;(with_reducible refine cN.mono ?_);rintro e w5 ⟨P,rfl,hP,hb5⟩)
  refine hK.out _ _ (HS.out _ (zu HBD.out.2 hb5)) (fun hHeld=> ?_);clear hK K';(try simp only [Act.put,ar,ag]);refine Tk.gi 11 ?_;(try simp only [Act.put,ar,ag]);refine Tk.gi 12 ?_;(try simp only [Act.put,ar,ag]);refine Tk.gi 13 ?_;(try simp only [Act.put,ar,ag]);refine Tk.gi 14 ?_;(try simp only [Act.put,ar,ag]);refine Tk.gi 15 ?_;(try simp only [Act.put,ar,ag]);refine wpAnyH_done (by kernel_rfl) ?_ _;have HB5:Hid (Below w.heap.size w w5):=(zu HBD.out.1 hb5)
  have HP:=zh hP;clear hP hb5 cN hHeld HS;by_cases hE:newE p ts x z=0
  ·obtain⟨c5,rfl,hA⟩:=HP.out hE;obtain⟨b',hD',hM'⟩:=HD.out.world HB5.out HBD.out.1.size hA;have HX:Hid (DAt (w5.setCell ⟨D,1,none⟩ (.pointer (some ⟨c5.x.D,0,none⟩))) D { s with w:=some (noN p,ts,newW (noN p) ts x.toNat y z) } b'∧Mm.Mv b b' w (w5.setCell ⟨D,1,none⟩ (.pointer (some ⟨c5.x.D,0,none⟩)))):=⟨hD',hM'⟩
   have d5:=HD.out.below HB5.out;have f1:=d5.f 1;have hx: ∃u,w5.cell? ⟨D,1,none⟩=some u:=d5.one;obtain⟨u,hu⟩:=hx;have HA:Hid (worldA (.inr (p,ts)) x z=([111,107],none)∧worldS (.inr (p,ts)) x y z s= { s with w:=some (noN p,ts,newW (noN p) ts x.toNat y z) }):=⟨by rw [HE.out.1,if_pos hE],by rw [HE.out.2,if_pos hE]⟩
   clear hD' hM' d5 hA HP;generalize c5.x.D=Q at*;go_wp2;go_ret2;rw [HA.out.1,HA.out.2];exact⟨rfl,b',HX.out⟩
  ·have HA:Hid (worldA (.inr (p,ts)) x z=([],some (newE p ts x z,none))∧worldS (.inr (p,ts)) x y z s=s):=⟨by rw [HE.out.1,if_neg hE],by rw [HE.out.2,if_neg hE]⟩
   clear HP;generalize newE p ts x z=E at*;go_wp2;go_ret2;rw [HA.out.1,HA.out.2];exact⟨rfl,b,HD.out.below HB5.out,Mm.Mv.of_below HB5.out⟩
end Dsk
namespace Dsk
open Go.RowKit Lai Crn Pln Pie

def nextA (E1 n:Int) (ok:Bool) (E2:Int):List UInt8×Option (Int×Option Int):=
 if E1≠0 then([],some (E1,none))else if E2≠0 then([],some (E2,none))else if ok then(Lib.itoa n,none)else([110,111,110,101],none)
theorem next_go (x y:Int) (g c:Nat) (more:List (List UInt8)) (A off c':Nat) (w:World) (h0:w.cell? ⟨g,0,none⟩=some (.int .i64 x)) (h1:w.cell? ⟨g,1,none⟩=some (.int .i64 y)) (hT:TxAt w A off more) (hc:more.length≤c') (hn:more.length≤65536) (hk: ∀x∈more,x.length≤65536)
  (mi ho da mn we:Int) (ad aw:Bool) (E1 n:Int) (ok:Bool) (E2:Int) (hG:Gd w) (hN:I n)
  (cP: ∀w,Gd w→CB 59 #[strV (Lib.join more [32])] w (.tuple #[cronV mi ho da mn we ad aw,.int .i64 E1]))
  (cN:E1=0→ ∀w,Gd w→CB 61 #[cronV mi ho da mn we ad aw,.int .i64 x,.int .i64 y] w (.tuple #[.int .i64 n,.bool ok,.int .i64 E2])):
  CB 34 #[.slice (some ⟨g,0,none⟩) 2 c,.slice (some ⟨A,off,none⟩) more.length c'] w (.tuple #[strV (nextA E1 n ok E2).1,erV (nextA E1 n ok E2).2]):=by
 have cJ:=join_tx more [32] w A off c' hT hc hn hk (by decide);generalize Lib.join more [32]=J at*;clear hT hk;unfold cronV at cP cN;have HG:Hid (∀w',Below w.heap.size w w'→Gd w'):=fun w' h=>hG.below h;have H0:Hid (w.cell? ⟨g,0,none⟩=some (.int .i64 x)∧w.cell? ⟨g,1,none⟩=some (.int .i64 y)):=⟨h0,h1⟩
 clear hG h0 h1;by_cases hE:E1=0
 ·have hg:=Xj w _ H0.out.1;have cN:=cN hE;go_enter func34,ntmps34
  go_upto_region 4 with (first
   |(go_at_call 60;(with_reducible refine zg cJ fun w1 hb1=>?_);have c2:=cP w1 (HG.out w1 hb1))
   |(go_at_call 59;(with_reducible refine zg c2 fun w2 hb2=>?_);have hb:Hid (Below w.heap.size w w2):=(zu hb1 hb2);clear c2))
  obtain⟨W,hW⟩: ∃W,W=w2.alloc (.cells #[.int .u64 mi,.int .u64 ho,.int .u64 da,.int .u64 mn,.int .u64 we,.bool ad,.bool aw] 101):=⟨_,rfl⟩
  rw [←hW];have hbW:Hid (Below w.heap.size w W):=by rw [hW];exact hb.out.alloc hb.out.size _
  have x0:W.drew.cell? ⟨w2.heap.size,0,none⟩=some (.int .u64 mi):=by rw [hW];show(w2.alloc _).cell? _=_;simp
  have x1:W.drew.cell? ⟨w2.heap.size,1,none⟩=some (.int .u64 ho):=by rw [hW];show(w2.alloc _).cell? _=_;simp
  have x2:W.drew.cell? ⟨w2.heap.size,2,none⟩=some (.int .u64 da):=by rw [hW];show(w2.alloc _).cell? _=_;simp
  have x3:W.drew.cell? ⟨w2.heap.size,3,none⟩=some (.int .u64 mn):=by rw [hW];show(w2.alloc _).cell? _=_;simp
  have x4:W.drew.cell? ⟨w2.heap.size,4,none⟩=some (.int .u64 we):=by rw [hW];show(w2.alloc _).cell? _=_;simp
  have x5:W.drew.cell? ⟨w2.heap.size,5,none⟩=some (.bool ad):=by rw [hW];show(w2.alloc _).cell? _=_;simp
  have x6:W.drew.cell? ⟨w2.heap.size,6,none⟩=some (.bool aw):=by rw [hW];show(w2.alloc _).cell? _=_;simp
  have y0:W.drew.cell? ⟨g,0,none⟩=some (.int .i64 x):=(hbW.out.cell (p:=⟨g,0,none⟩) hg).trans H0.out.1;have y1:W.drew.cell? ⟨g,1,none⟩=some (.int .i64 y):=(hbW.out.cell (p:=⟨g,1,none⟩) hg).trans H0.out.2;have hbd:Hid (Below w.heap.size w W.drew):=hbW.out.drew;have c3:=cN W.drew (HG.out _ hbd.out);clear hW cN cP cJ hb1 hb2;generalize w2.heap.size=K at*;go_region_held (fun w'=>(w'.cell? ⟨K,0,none⟩=some (.int .u64 mi)∧w'.cell? ⟨K,1,none⟩=some (.int .u64 ho)∧w'.cell? ⟨K,2,none⟩=some (.int .u64 da)∧w'.cell? ⟨K,3,none⟩=some (.int .u64 mn)∧w'.cell? ⟨K,4,none⟩=some (.int .u64 we)∧w'.cell? ⟨K,5,none⟩=some (.bool ad)∧w'.cell? ⟨K,6,none⟩=some (.bool aw))∧w'.cell? ⟨g,0,none⟩=some (.int .i64 x)∧w'.cell? ⟨g,1,none⟩=some (.int .i64 y)) (with_reducible first|exact⟨⟨x0,x1,x2,x3,x4,x5,x6⟩,y0,y1⟩|exact⟨⟨z0,z1,z2,z3,z4,z5,z6⟩,z7,z8⟩) ((go_at_call 61;(with_reducible refine zg c3 fun w4 hb4=>?_);have z0:=Tk.kc x0 hb4;have z1:=Tk.kc x1 hb4;have z2:=Tk.kc x2 hb4;have z3:=Tk.kc x3 hb4;have z4:=Tk.kc x4 hb4;have z5:=Tk.kc x5 hb4;have z6:=Tk.kc x6 hb4;have z7:=Tk.kc y0 hb4;have z8:=Tk.kc y1 hb4))
  have hb5:Hid (Below w.heap.size w w4):=(zu hbd.out hb4)
  have cI:=itoa_any n hN w4 (HG.out w4 hb5.out).p;have hE1: ¬E1≠0:=fun h=>h hE;clear x0 x1 x2 x3 x4 x5 x6 y0 y1 z0 z1 z2 z3 z4 z5 z6 z7 z8 c3 hb4;by_cases hE2:E2=0
  ·have hE3: ¬E2≠0:=fun h=>h hE2;cases ok
   ·have HA:Hid (nextA E1 n false E2=([110,111,110,101],none)):=by unfold nextA;rw [if_neg hE1,if_neg hE3];rfl
    clear hE1 hE3;go_wp2;go_ret2;rw [HA.out];exact⟨rfl,hb5.out⟩
   ·have HA:Hid (nextA E1 n true E2=(Lib.itoa n,none)):=by unfold nextA;rw [if_neg hE1,if_neg hE3];rfl
    clear hE1 hE3;go_wp2_with(go_at_call 30;(with_reducible refine zg cI fun w5 hb6=>?_))
    go_ret2;rw [HA.out];exact⟨rfl,(zu hb5.out hb6)⟩
  ·have HA:Hid (nextA E1 n ok E2=([],some (E2,none))):=by unfold nextA;rw [if_neg hE1,if_pos hE2];rfl
   clear hE1;go_wp2;go_ret2;rw [HA.out];exact⟨rfl,hb5.out⟩
 ·have HA:Hid (nextA E1 n ok E2=([],some (E1,none))):=if_pos hE;go_enter func34,ntmps34
  go_wp2_with (first
   |(go_at_call 60;(with_reducible refine zg cJ fun w1 hb1=>?_);have c2:=cP w1 (HG.out w1 hb1))
   |(go_at_call 59;(with_reducible refine zg c2 fun w2 hb2=>?_);have hb:=(zu hb1 hb2);clear c2))
  go_ret2;rw [HA.out];exact⟨rfl,hb.alloc hb.size _⟩
end Dsk
namespace Dsk
open Go.RowKit Lai Crn Pln Pie Civ Cal RCrn
variable {sh n E1 E2:Int} {ok:Bool}

theorem i_ofv {sec:Int} (ht:tmB sec=true) (hs:shB sh=true): ∀n∈ [yr (sc sec sh/86400),mo (sc sec sh/86400),dy (sc sec sh/86400),sc sec sh%86400/3600,sc sec sh%3600/60,sc sec sh%60,(sc sec sh/86400+6)%7],I n:=by
 have h1:=(tm_iff _).1 ht;have h2:=(sh_iff _).1 hs;obtain⟨d1,d2,d3,d4,d5⟩:=date_spec (sc sec sh/86400);have hy:=yr_mid (sc sec sh/86400) (by unfold sc;omega) (by unfold sc;omega);have hd:dim (yr (sc sec sh/86400)) (mo (sc sec sh/86400))≤31:=(dim_bd _ _).2;intro n hn;simp only [XG,List.not_mem_nil,or_false]at hn;unfold I;rcases hn with rfl|rfl|rfl|rfl|rfl|rfl|rfl<;>omega
theorem date_one (x y:Int): ∃(a:List UInt8) (er:Option (Int×Option Int)),a.length≤1000000∧ErI er∧ ∀(g c:Nat) (v:Value) (w:World),PowAt w→w.cell? ⟨g,0,none⟩=some (.int .i64 x)→w.cell? ⟨g,1,none⟩=some (.int .i64 y)→
  CB 33 #[.slice (some ⟨g,0,none⟩) 2 c,v] w (.tuple #[strV a,erV er]):=by
 by_cases h:tmB x=true∧shB y=true
 ·have hI:=i_ofv h.1 h.2;refine⟨_,none,?_,trivial,fun g c v w hP h0 h1=>(date_go x y g c v w h0 h1 _ _ _ _ _ _ _ 0 hI hP (fun w=>of_yes x y w h.1 h.2)).mono fun e w' ⟨he,hb⟩=>⟨he.2 rfl,hb⟩⟩;have l1:=join_l3 [45] (by decide) [yr (sc x y/86400),mo (sc x y/86400),dy (sc x y/86400)] (Xa 3) (fun n hn=>hI n (by simp at hn⊢;omega));have l2:=join_l3 [58] (by decide) [sc x y%86400/3600,sc x y%3600/60,sc x y%60] (Xa 3) (fun n hn=>hI n (by simp at hn⊢;omega));have l3:=itoa_len20 (hI ((sc x y/86400+6)%7) (by simp));simp only [Xg,Xr,XK];omega
 ·have h:tmB x=false∨shB y=false:=by
   cases h1:tmB x
   ·exact Or.inl rfl
   ·cases h2:shB y
    ·exact Or.inr rfl
    ·exact absurd ⟨h1,h2⟩ h
  exact⟨[],some (1,none),by simp,⟨by decide,by decide⟩,fun g c v w hP h0 h1=>(date_go x y g c v w h0 h1 0 0 0 0 0 0 0 1 (fun n hn=>by simp at hn;subst hn;exact⟨by decide,by decide⟩) hP (fun w=>of_no x y w h)).mono fun e w' ⟨he,hb⟩=>⟨he.1 (by decide),hb⟩⟩
theorem next_I {mi ho da mn we:Int} {ad aw:Bool} {U:Int} (h:NextIs mi ho da mn we ad aw U sh n ok):I n:=by
 rcases h with⟨_,u,_,h,_⟩|⟨_,h,_⟩
 ·have: -100000000000≤n∧n≤100000000000:=by unfold inT at h;simpa using h
  exact⟨by omega,by omega⟩
 ·subst h;exact⟨by decide,by decide⟩
theorem nextA_len (h:I n):(nextA E1 n ok E2).1.length≤1000000:=by
 have:=itoa_len20 h;unfold nextA;(repeat' split)<;>simp<;>omega
theorem nextA_er (h1:I E1) (h2:I E2):ErI (nextA E1 n ok E2).2:=by
 unfold nextA;(repeat' split)<;>first|exact h1|exact h2|exact trivial
theorem cnext_one (c:K) (hu:Us c) (hc:kc c=true) (x y:Int): ∃n ok E,I n∧(E=0∨E=1)∧ ∀w,Gd w→CB 61 #[kV c,.int .i64 x,.int .i64 y] w (.tuple #[.int .i64 n,.bool ok,.int .i64 E]):=by
 by_cases h:tmB x=true∧shB y=true
 ·have hN:=fun w (hG:Gd w)=>next_yes c.mi c.ho c.da c.mn c.we c.ad c.aw x y w hG.b hG.t hu.u0 hu.u1 hu.u2 hu.u3 hu.u4 hc h.1 h.2;by_cases hE: ∃n ok,NextIs c.mi c.ho c.da c.mn c.we c.ad c.aw (minOf x y) y n ok
  ·obtain⟨n,ok,hn⟩:=hE;exact⟨n,ok,0,next_I hn,Or.inl rfl,fun w hG=>(hN w hG).mono fun e w' ⟨n',ok',he,hn',hb⟩=>⟨by obtain⟨rfl,rfl⟩:=next_one hn hn';exact he,hb⟩⟩
  ·exact⟨0,false,0,⟨by decide,by decide⟩,Or.inl rfl,fun w hG=>(hN w hG).mono fun e w' ⟨n',ok',he,hn',hb⟩=>absurd ⟨n',ok',hn'⟩ hE⟩
 ·have h:tmB x=false∨shB y=false:=by
   cases h1:tmB x
   ·exact Or.inl rfl
   ·cases h2:shB y
    ·exact Or.inr rfl
    ·exact absurd ⟨h1,h2⟩ h
  exact⟨0,false,1,⟨by decide,by decide⟩,Or.inr rfl,fun w hG=>next_no c.mi c.ho c.da c.mn c.we c.ad c.aw x y w hG.b (Or.inr h)⟩
theorem next_det {rd:List UInt8→Option K} (hrd:RdOk rd) (x y:Int) (more:List (List UInt8)) (hn:more.length≤65536) (hk: ∀x∈more,x.length≤65536): ∃(a:List UInt8) (er:Option (Int×Option Int)),a.length≤1000000∧ErI er∧ ∀(g c A off c':Nat) (w:World),Gd w→w.cell? ⟨g,0,none⟩=some (.int .i64 x)→w.cell? ⟨g,1,none⟩=some (.int .i64 y)→TxAt w A off more→more.length≤c'→
  CB 34 #[.slice (some ⟨g,0,none⟩) 2 c,.slice (some ⟨A,off,none⟩) more.length c'] w (.tuple #[strV a,erV er]):=by
 cases hr:rd (Lib.join more [32])with
 |none=>
  obtain⟨E,hE,hA⟩:=hrd.no _ hr;have hI:I E:=⟨by omega,by omega⟩
  refine⟨_,_,nextA_len (E1:=E) (n:=0) (ok:=false) (E2:=0) ⟨by decide,by decide⟩,nextA_er hI ⟨by decide,by decide⟩,fun g c A off c' w hG h0 h1 hT hc=>next_go x y g c more A off c' w h0 h1 hT hc hn hk 0 0 0 0 0 false false E 0 false 0 hG ⟨by decide,by decide⟩ (fun w hG=>(parse_any _ w hG.b).mono fun e w' ⟨h,hb⟩=>⟨hA e h,hb⟩) (fun h=>by omega)⟩
 |some k=>
  obtain⟨hu,hc,_,hA⟩:=hrd.yes _ _ hr;obtain⟨n,ok,E,hn',hE,hN⟩:=cnext_one k hu hc x y;have hI:I E:=⟨by omega,by omega⟩
  exact⟨_,_,nextA_len (E1:=0) (n:=n) (ok:=ok) (E2:=E) hn',nextA_er ⟨by decide,by decide⟩ hI,fun g c A off c' w hG h0 h1 hT hc=>next_go x y g c more A off c' w h0 h1 hT hc hn hk k.mi k.ho k.da k.mn k.we k.ad k.aw 0 n ok E hG hn' (fun w hG=>(parse_any _ w hG.b).mono fun e w' ⟨h,hb⟩=>⟨hA e h,hb⟩) (fun _ w hG=>hN w hG)⟩
end Dsk
namespace Dsk
open Go.RowKit Lai Crn Pln Pie Wld Lop Lpp
variable {ns:List Int}

theorem Res.below {w w':World} {D:Nat} {s:DS} {b:Nat→Prop} {a:List UInt8} {er:Option (Int×Option Int)} {e:Ending} (h:DAt w D s b) (he:e=.returned (.tuple #[strV a,erV er])) (hb:Below w.heap.size w w'):Res D b a er s w e w':=
 ⟨he,b,h.below hb,Mm.Mv.of_below hb⟩
theorem readP_ok {N:Nat} {M:Bool} {ws:List (List UInt8)} {more:List (List UInt8)} (h:readP N M ws=some (ns,more)):ns.length=N∧more=ws.drop N∧ ∀n∈ns,I n:=by
 unfold readP at h;split at h
 ·rename_i hc;cases h;refine⟨?_,rfl,fun n hn=> ?_⟩
  ·have key: ∀l:List (List UInt8),(∀x∈l,numP x≠none)→(l.filterMap numP).length=l.length:=by
    intro l;induction l with
    |nil=>intro _;rfl
    |cons x l ih=>
     intro h;cases hx:numP x with
     |none=>exact absurd hx (h x (XF ..))
     |some v=>rw [List.filterMap_cons_some hx,Xr,Xr,ih fun y hy=>h y (Xy _ hy)]
   rw [key _ hc.2.1,Xt];omega
  ·obtain⟨x,_,hx⟩:=List.mem_filterMap.1 hn;unfold numP at hx;split at hx
   ·split at hx
    ·rename_i hv;cases hx;exact⟨by omega,by omega⟩
    ·cases hx
   ·cases hx
 ·cases h
theorem doE_bd (S:WS) (x a n:Int):0≤doE S x a n∧doE S x a n≤10:=by
 have h1: ∀m,0≤tickE S m∧tickE S m≤10:=fun m=>by unfold tickE;split<;>omega
 have h2:0≤makeE S a n∧makeE S a n≤10:=by unfold makeE;(repeat' split)<;>omega
 have h3:0≤takeE S a n∧takeE S a n≤10:=by unfold takeE;(repeat' split)<;>omega
 have h4:0≤putE S.qL n∧putE S.qL n≤10:=by unfold putE;(repeat' split)<;>omega
 have h5:0≤leaseE S.qL S.now n∧leaseE S.qL S.now n≤10:=by unfold leaseE;(repeat' split)<;>omega
 have h6:0≤ackE S.qL S.now n∧ackE S.qL S.now n≤10:=by unfold ackE;(repeat' split)<;>omega
 have h7:0≤failE S a n∧failE S a n≤10:=by unfold failE;(repeat' split)<;>omega
 have h8: ∀m,0≤Flt.turnE S.F.L n m∧Flt.turnE S.F.L n m≤10:=fun m=>by unfold Flt.turnE;(repeat' split)<;>omega
 have h10:0≤Flt.crashE S.F.L n∧Flt.crashE S.F.L n≤10:=by unfold Flt.crashE;(repeat' split)<;>omega
 have h11:0≤Buf.askE S.R S.now a n∧Buf.askE S.R S.now a n≤10:=by unfold Buf.askE;(repeat' split)<;>omega
 have h12:0≤Buf.doneE S.R n∧Buf.doneE S.R n≤10:=by unfold Buf.doneE;(repeat' split)<;>omega
 have h13:0≤pauseE n∧pauseE n≤10:=by unfold pauseE;(repeat' split)<;>omega
 have h8a:=h8 1;have h8b:=h8 2;have h1a:=h1 n;unfold doE;(repeat' split)<;>first|assumption|omega
theorem hapE_I (S:WS) (x a n:Int):ErI (hapE (doE S x a n)):=by
 have:=doE_bd S x a n;unfold hapE;split
 ·trivial
 ·exact⟨by omega,by omega⟩
structure DOk (s:DS) (n:Nat):Prop where
 i:DInv s n
 t: ∀p ts S,s.w=some (p,ts,S)→TgB S
theorem DOk.more {s:DS} {n:Nat} (h:DOk s n):DOk s (n+1):=⟨h.i.more,h.t⟩
theorem DOk.hap {s:DS} {n:Nat} (h:DOk s n) {p:Pd} {ts:List Tr} {S:WS} (hs:s.w=some (p,ts,S)) (x a z:Int):DOk { s with w:=some (p,ts,doW p ts S x a z) } (n+1):=by
 obtain⟨g,hP,hU⟩:=h.i.2 p ts S hs;refine⟨⟨h.i.1,fun p' ts' S' e=> ?_⟩,fun p' ts' S' e=> ?_⟩
 ·cases e;refine⟨?_,hP,hU⟩;have:=WI.do hP g x a z;rw [show 1000*(n+1)=1000*n+1000 by omega];exact this
 ·cases e;exact tg_do hP g (h.t p ts S hs) x a z
def RunIs (s:DS) (l:List UInt8) (C:Nat) (ns:List Int) (more:List (List UInt8)) (a:List UInt8) (er:Option (Int×Option Int)) (s':DS):Prop:=
 ∀(D:Nat) (b:Nat→Prop) (B:Nat) f (w':World) ao c A off c',DAt w' D s b→(∀k,b k→k<B)→FnAt B w' D l C f→NumsAt w' ao ns→(∀g,ao=some ⟨g,0,none⟩→B≤g)→TxAt w' A off more→more.length≤c'→ ∀g ca cb,f=.func (.func g) ca cb→(∀args w,(callFunc g args).run prog w=.ok (.enter g args) w)∧Calls prog g (ca++(#[.slice ao ns.length c,.slice (some ⟨A,off,none⟩) more.length c']++cb)) w' (Res D b a er s' w')
def RunE (s:DS) (n:Nat) (l:List UInt8) (C:Nat) (ns:List Int) (more:List (List UInt8)):Prop:= ∃a er s',a.length≤4000000000∧ErI er∧DOk s' (n+1)∧RunIs s l C ns more a er s'
theorem args0 (x y:Value):(#[]++(#[x,y]++ #[]):Array Value)=#[x,y]:=rfl
theorem args1 (p x y:Value):(#[p]++(#[x,y]++ #[]):Array Value)=#[p,x,y]:=rfl
theorem args2 (x y k l:Value):(#[]++(#[x,y]++ #[k,l]):Array Value)=#[x,y,k,l]:=rfl
theorem nums1 {w:World} {ao:Option Addr} {x:Int} (h:NumsAt w ao [x]): ∃g,ao=some ⟨g,0,none⟩∧w.cell? ⟨g,0,none⟩=some (.int .i64 x):=h 0 x rfl
theorem is_date (s : DS) (l : List UInt8) (more : List (List UInt8)) (x y : Int) (a : List UInt8) (er : Option (Int × Option Int)) (hC : ∀ (g c : Nat) (v : Value) (w : World), PowAt w → w.cell? ⟨g, 0, none⟩ = some (.int .i64 x) → w.cell? ⟨g, 1, none⟩ = some (.int .i64 y) →
  CB 33 #[.slice (some ⟨g,0,none⟩) 2 c,v] w (.tuple #[strV a,erV er])):RunIs s l 1 [x,y] more a er s:=by
 intro D b B f w' ao c A off c' h hb hF hN hg hT hc g ca cb e;obtain rfl:f=_:=hF;cases e;obtain⟨g0,rfl,h0,h1⟩:=nums2 hN;rw [args0];exact⟨enters_of func33 (by kernel_rfl) rfl,(hC g0 c _ w' h.g.gv.g.p h0 h1).mono fun e w'' ⟨he,hb⟩=>Res.below h he hb⟩
theorem is_next (s : DS) (l : List UInt8) (more : List (List UInt8)) (x y : Int) (a : List UInt8) (er : Option (Int × Option Int)) (hC : ∀ (g c A off c' : Nat) (w : World), Gd w → w.cell? ⟨g, 0, none⟩ = some (.int .i64 x) → w.cell? ⟨g, 1, none⟩ = some (.int .i64 y) → TxAt w A off more → more.length ≤ c' →
  CB 34 #[.slice (some ⟨g,0,none⟩) 2 c,.slice (some ⟨A,off,none⟩) more.length c'] w (.tuple #[strV a,erV er])):RunIs s l 2 [x,y] more a er s:=by
 intro D b B f w' ao c A off c' h hb hF hN hg hT hc g ca cb e;obtain rfl:f=_:=hF;cases e;obtain⟨g0,rfl,h0,h1⟩:=nums2 hN;rw [args0];exact⟨enters_of func34 (by kernel_rfl) rfl,(hC g0 c A off c' w' h.g.gv.g h0 h1 hT hc).mono fun e w'' ⟨he,hb⟩=>Res.below h he hb⟩
section
variable {rd : List UInt8 → Option K} (hrd : RdOk rd) (s : DS) (n : Nat) (hn : n ≤ 200) (hI : DOk s n) (l : List UInt8) (more : List (List UInt8)) (hm : more.length ≤ 65536) (hk : ∀ x ∈ more, x.length ≤ 65536)
include hI
theorem run_clear:RunE s n l 4 [] more:=by
 refine⟨[111,107],none, { s with t:=[] },by simp,trivial,⟨⟨by simp,fun p ts S e=>(hI.i.more.2 p ts S e)⟩,hI.t⟩,fun D b B f w' ao c A off c' h hb hF hN hg hT hc g ca cb e=> ?_⟩;obtain rfl:f=_:=hF;cases e;rw [args1];exact⟨enters_of func36 (by kernel_rfl) rfl,clear_any D s b w' h _ _⟩
theorem run_date (x y:Int):RunE s n l 1 [x,y] more:=by
 obtain⟨a,er,ha,hE,hC⟩:=date_one x y;exact⟨a,er,s,by omega,hE,hI.more,is_date s l more x y a er hC⟩
include hrd hm hk in
theorem run_next (x y:Int):RunE s n l 2 [x,y] more:=by
 obtain⟨a,er,ha,hE,hC⟩:=next_det hrd x y more hm hk;exact⟨a,er,s,by omega,hE,hI.more,is_next s l more x y a er hC⟩
include hm hk in
theorem run_plan:RunE s n l 3 [] more:=by
 have hJ:(addE s more).1.length≤4000000000∧ErI (addE s more).2∧DOk (addS s more) (n+1):=by
  unfold addE addS;split
  ·rename_i hl;exact⟨by simp,trivial,⟨⟨hl,fun p ts S e=>(hI.i.more.2 p ts S e)⟩,hI.t⟩⟩
  ·exact⟨by simp,⟨by decide,by decide⟩,hI.more⟩
 refine⟨_,_,_,hJ.1,hJ.2.1,hJ.2.2,fun D b B f w' ao c A off c' h hb hF hN hg hT hc g ca cb e=> ?_⟩;obtain rfl:f=_:=hF;cases e;rw [args1];exact⟨enters_of func35 (by kernel_rfl) rfl,add_any D s b w' h hI.i.1 _ more A off c' hT hc hm hk⟩
include hrd in
theorem run_show:RunE s n l 5 [] more:=by
 have hJ:(showA (planO rd s.t)).1.length≤4000000000∧ErI (showA (planO rd s.t)).2:=by
  cases hr:planO rd s.t with
  |inl q=>obtain⟨E,m⟩:=q;exact⟨by simp [showA],planO_er hI.i.1 hr⟩
  |inr q=>
   obtain⟨p,ts⟩:=q;obtain⟨hc,hi,hU⟩:=planO_ok hrd hr;have:=planT_len hi hU hc;exact⟨by simp only [showA,Xg,Xr,XK];omega,trivial⟩
 refine⟨_,_,_,hJ.1,hJ.2,hI.more,fun D b B f w' ao c A off c' h hb hF hN hg hT hc g ca cb e=> ?_⟩;obtain rfl:f=_:=hF;cases e;rw [args1];exact⟨enters_of func37 (by kernel_rfl) rfl,show_any hrd D s b w' h hI.i.1 _ _⟩
include hrd in
theorem run_world (x y z:Int):RunE s n l 6 [x,y,z] more:=by
 have hJ:(worldA (planO rd s.t) x z).1.length≤4000000000∧ErI (worldA (planO rd s.t) x z).2∧DOk (worldS (planO rd s.t) x y z s) (n+1):=by
  cases hr:planO rd s.t with
  |inl q=>obtain⟨E,m⟩:=q;exact⟨by simp [worldA],planO_er hI.i.1 hr,hI.more⟩
  |inr q=>
   obtain⟨p,ts⟩:=q;obtain⟨hc,hi,hU⟩:=planO_ok hrd hr;unfold worldA worldS;by_cases hE:newE p ts x z=0
   ·simp only [if_pos hE];obtain⟨h1,h2⟩:=newE_0 hc hE;refine⟨by simp,trivial,⟨hI.i.1,fun p' ts' S' e=> ?_⟩,fun p' ts' S' e=> ?_⟩
    ·cases e;exact⟨(WI.new (noN p) ts x.toNat y z (by omega) h2).mono (by omega) (by omega),ok_noN (plOk_of hc),hU⟩
    ·cases e;exact⟨Xu 0,(by decide:(0:Int)≤50)⟩
   ·simp only [if_neg hE];refine⟨by simp,?_,hI.more⟩;have:0≤newE p ts x z∧newE p ts x z≤1:=by unfold newE;rw [if_neg (by simpa using hc)];split<;>omega
    exact⟨by omega,by omega⟩
 refine⟨_,_,_,hJ.1,hJ.2.1,hJ.2.2,fun D b B f w' ao c A off c' h hb hF hN hg hT hc g ca cb e=> ?_⟩;obtain rfl:f=_:=hF;cases e;obtain⟨g0,rfl,h0,h1,h2⟩:=nums3 hN;rw [args1];exact⟨enters_of func38 (by kernel_rfl) rfl,new_any hrd D s b w' h hI.i.1 x y z g0 c _ h0 h1 h2⟩
include hn in
theorem run_state (hw:s.w≠none):RunE s n l 7 [] more:=by
 obtain⟨⟨p,ts,S⟩,hs⟩:=Option.ne_none_iff_exists'.1 hw;obtain⟨g,hP,hU⟩:=hI.i.2 p ts S hs;have ht:=hI.t p ts S hs;have htI:I S.tg:=⟨by have:=ht.1;omega,by have:=ht.2;omega⟩
 have hpod: ∀q∈S.F.L,I q.id∧I q.st∧I q.ld:=fun q hq=>by
  have h1:=g.f.bd q hq;have h2:=g.f.m;have h3:=g.fb;unfold Flt.Okp at h1;refine⟨⟨by omega,by omega⟩,⟨by omega,by omega⟩,⟨by omega,by omega⟩⟩
 have hlen:S.F.L.length≤10000000:=by have:=g.f.len;have:=g.fb;omega
 have h1:=podsT_len hpod;have hnow:I S.now:=⟨by have:=g.nw;omega,by have:=g.nw;omega⟩
 have h2:=join_l3 [32] (by decide) [S.now,S.tg] (by simp) (fun n hn=>by simp at hn;rcases hn with rfl|rfl;exact hnow;exact htI);refine⟨stA S,none,s,by unfold stA;rw [Xg];omega,trivial,hI.more,fun D b B f w' ao c A off c' h hb hF hN hg hT hc g ca cb e=> ?_⟩;obtain rfl:f=_:=hF;cases e;rw [args1];exact⟨enters_of func39 (by kernel_rfl) rfl,state_any D s b w' h p ts S hs n hn hI.i htI _ _⟩
theorem run_asks (hw:s.w≠none):RunE s n l 8 [] more:=by
 obtain⟨⟨p,ts,S⟩,hs⟩:=Option.ne_none_iff_exists'.1 hw;obtain⟨g,hP,hU⟩:=hI.i.2 p ts S hs;have hlen:=g.r.len;have h1:(askA S).length≤4000000000:=by
  unfold askA;split
  ·simp
  ·have h := join_len [32] 100 (S.R.map askT) (fun x hx => by
    obtain⟨r,hr,rfl⟩:=XS.1 hx;have h1:=g.r.bd r hr;unfold Buf.Okr at h1;exact askT_len ⟨⟨by omega,by omega⟩,⟨by omega,by omega⟩⟩)
   rw [XE]at h;have:S.R.length*([32].length+100)≤200*101:=Nat.mul_le_mul hlen (by decide);omega
 refine⟨askA S,none,s,h1,trivial,hI.more,fun D b B f w' ao c A off c' h hb hF hN hg hT hc g ca cb e=> ?_⟩;obtain rfl:f=_:=hF;cases e;rw [args1];exact⟨enters_of func40 (by kernel_rfl) rfl,asks_any D s b w' h p ts S hs n hI.i _ _⟩
include hn in
theorem run_1 (hw:s.w≠none) (z:Int):RunE s n l 9 [z] more:=by
 obtain⟨⟨p,ts,S⟩,hs⟩:=Option.ne_none_iff_exists'.1 hw;refine⟨[111,107],_,_,by simp,hapE_I S (oneK l) 0 z,hI.hap hs (oneK l) 0 z,fun D b B f w' ao c A off c' h hb hF hN hg hT hc g ca cb e=> ?_⟩;obtain⟨K,L,rfl,hK,hL,k1,l1⟩:=hF;cases e;obtain⟨g0,rfl,h0⟩:=nums1 hN;rw [args2];have hg0:=hg g0 rfl;exact⟨enters_of func42 (by kernel_rfl) rfl,clo1_any D s b w' h p ts S hs n hn hI.i g0 c K L (oneK l) _ k1 l1 (fun e=>by have:=hb _ e;omega) (fun e=>by have:=hb _ e;omega) (fun e=>by have:=hb _ e;omega) z h0⟩
include hn in
theorem run_2 (hw:s.w≠none) (x z:Int):RunE s n l 10 [x,z] more:=by
 obtain⟨⟨p,ts,S⟩,hs⟩:=Option.ne_none_iff_exists'.1 hw;refine⟨[111,107],_,_,by simp,hapE_I S (twoK l) x z,hI.hap hs (twoK l) x z,fun D b B f w' ao c A off c' h hb hF hN hg hT hc g ca cb e=> ?_⟩;obtain⟨K,L,rfl,hK,hL,k1,l1⟩:=hF;cases e;obtain⟨g0,rfl,h0,h1⟩:=nums2 hN;rw [args2];have hg0:=hg g0 rfl;exact⟨enters_of func45 (by kernel_rfl) rfl,clo2_any D s b w' h p ts S hs n hn hI.i g0 c K L (twoK l) _ k1 l1 (fun e=>by have:=hb _ e;omega) (fun e=>by have:=hb _ e;omega) (fun e=>by have:=hb _ e;omega) x z h0 h1⟩
end

def DoIs (s:DS) (l:List UInt8) (tl:List (List UInt8)) (a:List UInt8) (er:Option (Int×Option Int)) (s':DS):Prop:=
 ∀(D:Nat) (b:Nat→Prop) (w:World) (A off cap:Nat),DAt w D s b→TxAt w A off (l::tl)→tl.length+1≤cap→cap≤65536→Calls prog 14 #[.pointer (some ⟨D,0,none⟩),.slice (some ⟨A,off,none⟩) (tl.length+1) cap] w (Res D b a er s' w)
theorem len_2 {l:List Int} (h:l.length=2): ∃x y,l=[x,y]:=by
 match l,h with
 | [x,y],_=>exact⟨x,y,rfl⟩
theorem len_3 {l:List Int} (h:l.length=3): ∃x y z,l=[x,y,z]:=by
 match l,h with
 | [x,y,z],_=>exact⟨x,y,z,rfl⟩
theorem run_all {rd:List UInt8→Option K} (hrd:RdOk rd) (s:DS) (n:Nat) (hn:n≤200) (hI:DOk s n) (l:List UInt8) (ns:List Int) (more:List (List UInt8)) (hm:more.length≤65536) (hk: ∀x∈more,x.length≤65536) (C:Nat) (hC:1≤C∧C≤10) (hN:ns.length=nbC C) (hS:neC C=true→s.w≠none):RunE s n l C ns more:=by
 rcases(by omega:C=1∨C=2∨C=3∨C=4∨C=5∨C=6∨C=7∨C=8∨C=9∨C=10)with rfl|rfl|rfl|rfl|rfl|rfl|rfl|rfl|rfl|rfl
 ·obtain⟨x,y,rfl⟩:=len_2 hN;exact run_date s n hI l more x y
 ·obtain⟨x,y,rfl⟩:=len_2 hN;exact run_next hrd s n hI l more hm hk x y
 ·obtain rfl:=XW hN;exact run_plan s n hI l more hm hk
 ·obtain rfl:=XW hN;exact run_clear s n hI l more
 ·obtain rfl:=XW hN;exact run_show hrd s n hI l more
 ·obtain⟨x,y,z,rfl⟩:=len_3 hN;exact run_world hrd s n hI l more x y z
 ·obtain rfl:=XW hN;exact run_state s n hn hI l more (hS rfl)
 ·obtain rfl:=XW hN;exact run_asks s n hI l more (hS rfl)
 ·obtain⟨x,rfl⟩:=List.length_eq_one_iff.1 hN;exact run_1 s n hn hI l more (hS rfl) x
 ·obtain⟨x,y,rfl⟩:=len_2 hN;exact run_2 s n hn hI l more (hS rfl) x y
theorem do_run {s s':DS} {l a:List UInt8} {tl more:List (List UInt8)} {er:Option (Int×Option Int)} (hk: ∀x∈tl,x.length≤65536) (hR:readC (cmdC l) tl=some (ns,more)) (hS: ¬(neC (cmdC l)=true∧s.w=none)) (hU:RunIs s l (cmdC l) ns more a er s'):DoIs s l tl a er s':=
 fun D b w A off cap h hT g1 g2=>do_yes D s b w h l tl A off cap hT ⟨g1,g2⟩ hk ns more hR a er s' (fun h e=>absurd ⟨h,e⟩ hS) (fun _ f w' ao c off c' _ hD hF hN hg hX hc g ca cb e=>hU D b w.heap.size f w' ao c A off c' hD (fun k hk=>(h.low k hk).2) hF hN hg hX hc g ca cb e)
theorem do_ex {rd:List UInt8→Option K} (hrd:RdOk rd) (s:DS) (n:Nat) (hn:n≤200) (hI:DOk s n) (l:List UInt8) (tl:List (List UInt8)) (hm:tl.length≤65536) (hk: ∀x∈tl,x.length≤65536):
  ∃a er s',a.length≤4000000000∧ErI er∧DOk s' (n+1)∧DoIs s l tl a er s':=by
 cases hR:readC (cmdC l) tl with
 |none=>exact⟨[],some (3,none),s,by simp,⟨by decide,by decide⟩,hI.more,fun D b w A off cap h hT h1 h2=>do_no D s b w h l tl A off cap hT ⟨h1,h2⟩ hk hR⟩
 |some q=>
  obtain⟨ns,more⟩:=q;by_cases hS:neC (cmdC l)=true∧s.w=none
  ·exact⟨[],some (7,none),s,by simp,⟨by decide,by decide⟩,hI.more,fun D b w A off cap h hT h1 h2=>do_yes D s b w h l tl A off cap hT ⟨h1,h2⟩ hk ns more hR [] (some (7,none)) s (fun _ _=>⟨rfl,rfl,rfl⟩) (fun h=>absurd hS.2 (h hS.1))⟩
  ·have hC0:cmdC l≠0:=fun e=>by rw [e]at hR;cases hR
   have hC:=cmdC_le l;have hR':readP (nbC (cmdC l)) (moC (cmdC l)) tl=some (ns,more):=by unfold readC at hR;rw [if_neg hC0]at hR;exact hR
   obtain⟨h1,h2,_⟩:=readP_ok hR';obtain⟨a,er,s',ha,hE,hD,hU⟩:=run_all hrd s n hn hI l ns more (by rw [h2,XT];omega) (fun x hx=>hk x (List.mem_of_mem_drop (h2▸hx))) (cmdC l) ⟨by omega,hC⟩ h1 (fun h e=>hS ⟨h,e⟩);exact⟨a,er,s',ha,hE,hD,do_run hk hR hS hU⟩
end Dsk
namespace Dsk
open Go.RowKit

theorem str_loc {P:Program} (w:World) (base:Nat) (t u ty e:TypeId) (i:TypeInfo) (ht:P.underlying t=some (.slice e)) (hu:P.underlying u=some .string) (hi:P.info? e=some i) (hz:i.zero=some (.int .u8 0))
  (hsize:i.size=1) (hby:i.bytes=1) (v:Value) (n:Nat) (xs:List Value) (hown:w.ownsRowF base e 1 v n xs) (s:ByteArray)
  (h63:n+s.size≤maxLen) (hbytes:n+s.size≤140737488355328) (hbase:base≤w.heap.size):
  ∃v' w',(Builtin.append_ #[t,u] ty #[v,.string s]).run P w=.ok v' w'∧w'.ownsRowF base e 1 v' (n+s.size) (xs++Lib.strCells s)∧w.grownBy w' v.ownBlock∧(v'.ownBlock=v.ownBlock∨ ∃g,v'.ownBlock=some g∧w.heap.size≤g):=by
 obtain⟨v',w',hr,h1,h2,h3⟩:=Lib.run_append_own_stringF (P:=P) w base t u ty e i ht hu hi hz hsize hby v n xs hown s h63 hbytes hbase;refine⟨v',w',hr,h1,h2,?_⟩;rcases hown.2 with⟨rfl,rfl⟩|⟨g,cap,cur,fz,rfl,hbg,hg,hfz,hnc,hcm,hcs,htake⟩
 ·obtain⟨v2,w2,hr2,g1,_,_⟩:=Lib.run_append_own_stringF (P:=P) w w.heap.size t u ty e i ht hu hi hz hsize hby (.slice none 0 0) 0 xs ⟨hown.1,Or.inl ⟨rfl,rfl⟩⟩ s h63 hbytes (Xa _);rw [hr]at hr2;cases hr2;rcases g1.2 with⟨rfl,_⟩|⟨g,cap,cur,fz,rfl,hbg,_⟩
  ·exact Or.inl rfl
  ·exact Or.inr ⟨g,rfl,hbg⟩
 ·have hxl:xs.length=n:=by simpa using hown.1
  by_cases hroom:n+s.size≤cap
  ·have hcs':cur.size=cap:=by simpa using hcs
   have hr2:=Lib.run_append_room_stringF (P:=P) w t u ty e i ht hu hi hsize g n cap cur fz hg (by simpa using hfz) s hroom (by omega);rw [hr]at hr2;cases hr2;exact Or.inl rfl
  ·have holds: ∀j u,xs[j]? =some u→w.cell? ((⟨g,0,none⟩:Addr).add j)=some u:=hown.cells (g:=g) rfl;have hr2:=Lib.run_append_grow_string (P:=P) w t u ty e i (.int .u8 0) ht hu hi hz ⟨g,0,none⟩ n cap xs (by rw [hsize];simpa using hxl) holds s (by omega) (by simp only [maxLen]at h63;omega) (by rw [hby];exact growslice_fits (by omega) (by omega));rw [hr]at hr2;cases hr2;exact Or.inr ⟨_,rfl,Xa _⟩
end Dsk
namespace Dsk
open Go.RowKit Lai Crn Pln Pie Wld Lop Lpp
variable {w w':World} {b:Nat→Prop}

def bb (w:World) (K:Nat):Nat→Prop:=fun k=>k=K∨ ∃v,w.cell? ⟨K,1,none⟩=some v∧v.ownBlock=some k
theorem bb_same {K:Nat} (h:w'.cell? ⟨K,1,none⟩=w.cell? ⟨K,1,none⟩):bb w' K=bb w K:=by unfold bb;rw [h]
theorem wl_str {P:Program} {ops:Array Oper} {rest:List Oper} {o:Oper} {a:Act} {Q:Exit→Act→World→Prop} (hgd:o.guard=none) (sl x:Operand) (t u:TypeId)
  (ho:o.op=.call { callee:=.builtin .append,args:=#[sl,x],argTypes:=#[t,u] })
  (base:Nat) (e:TypeId) (i:TypeInfo) (ht:P.underlying t=some (.slice e)) (hu:P.underlying u=some .string) (hi:P.info? e=some i) (hz:i.zero=some (.int .u8 0))
  (hsize:i.size=1) (hby:i.bytes=1)
  (v:Value) (n:Nat) (xs:List Value) (hs:a.eval sl=v) (hown:w.ownsRow base e 1 v n xs) (s:ByteArray) (hx:a.eval x=.string s)
  (h63:n+s.size≤maxLen) (hbytes:n+s.size≤140737488355328) (hbase:base≤w.heap.size)
  (h: ∀v' w',w'.ownsRow base e 1 v' (n+s.size) (xs++Lib.strCells s)→w.grownBy w' v.ownBlock→(v'.ownBlock=v.ownBlock∨ ∃g,v'.ownBlock=some g∧w.heap.size≤g)→wpList P ops Q rest (a.put o.dst v') w'):wpList P ops Q (o::rest) a w:=by
 refine wpList_plain hgd fun K hK=> ?_;obtain⟨v',w',hr,h1,h2,_⟩:=Lib.run_append_own_string (P:=P) w base t u o.type e i ht hu hi hz hsize hby v n xs hown s h63 hbytes hbase;obtain⟨v2,w2,hr2,_,_,h3⟩:=str_loc (P:=P) w base t u o.type e i ht hu hi hz hsize hby v n xs (World.ownsRowF_of hown) s h63 hbytes hbase;rw [hr]at hr2;cases hr2;unfold Oper.wp execOp;simp only [ho,resolve,invoke,builtin,XX,X8,X9,Ym,XV,X5,hs,hx,hr];exact hK _ _ (h v' w' h1 h2 h3)
abbrev IsB (B K:Nat) (xs:List UInt8) (w:World):Prop:=Lib.IsBuilder 38 5 B K (Lib.byteCells xs) w
theorem ccheck_any (B K:Nat) (xs:List UInt8) (w:World) (h:IsB B K xs w):
  Calls prog 25 #[.pointer (some ⟨K,0,none⟩)] w fun e w1=>e=.returned (.tuple #[])∧Lib.BuilderAt 38 5 B K (.pointer (some ⟨K,0,none⟩)) (Lib.byteCells xs) w1∧Mm.Mv (bb w K) (bb w1 K) w w1:=by
 rcases h with h|h
 ·refine(Any.Builder_copyCheck_fresh { lays156 with } Builder_Extra_156.toX72 K w h.cell0 h.shape h.frozen0).mono ?_;rintro e w1 ⟨he,rfl⟩;refine⟨he,h.used _,?_⟩;rw [bb_same (Xd _ _ _ _ (fun e=>by cases e))];exact Mm.Mv.set (Or.inl rfl) _
 ·refine(Any.Builder_copyCheck_used { lays156 with } Builder_Extra_156.toX72 K w h.cell0).mono ?_;rintro e w1 ⟨he,rfl⟩;exact⟨he,h,Mm.Mv.refl _ _⟩
theorem info_u8:(prog.info? 5).map (fun i=>(i.zero,i.size,i.bytes))=some (some (.int .u8 0),1,1):=by kernel_rfl
theorem write_any (B K:Nat) (xs s:List UInt8) (w:World) (h:IsB B K xs w) (hl:xs.length+s.length≤140737488355328) (hB:B≤w.heap.size):
  Calls prog 13 #[.pointer (some ⟨K,0,none⟩),strV s] w fun e w'=>e=.returned (.tuple #[.int .i64 s.length,.nilIface])∧IsB B K (xs++s) w'∧Mm.Mv (bb w K) (bb w' K) w w':=by
 obtain⟨i0,hi,hz0,hz1,hz2⟩:=info_parts info_u8;have cc:=ccheck_any B K xs w h;go_enter func13,ntmps13
 go_wp2_with (first
  |(go_at_call 25;(with_reducible refine cc.mono ?_);rintro e w1 ⟨rfl,h1,hm1⟩;obtain⟨hBK,v,hk,hown,hne⟩:=h1;have c0:w1.cell? ⟨K,0,none⟩=some (.pointer (some ⟨K,0,none⟩)):=(by rw [Lib.cell_of_heap hk];rfl);have c1:w1.cell? ⟨K,1,none⟩=some v:=(by rw [Lib.cell_of_heap hk];rfl);have hs1:=hm1.size)
  |(at_builtin;refine wl_str rfl _ _ 36 9 rfl B 5 i0 underlying36 underlying9 hi hz0 hz1 hz2 _ _ _ rfl hown ⟨s.toArray⟩ rfl (by rw [Lib.byteCells_length];show xs.length+s.length≤_;unfold maxLen;omega) (by rw [Lib.byteCells_length];show xs.length+s.length≤_;omega) (by omega) ?_))
 intro v' w2 hown' hgrow hloc;have hlt:K<w1.heap.size:=Xj w1 _ c0;have hb2:w2.heap[K]? =some (.cells #[.pointer (some ⟨K,0,none⟩),v] 38 (0,0)):=by
  rw [hgrow.block K hlt (fun e=>hne e.symm)];exact hk
 have d0:w2.cell? ⟨K,0,none⟩=some (.pointer (some ⟨K,0,none⟩)):=by rw [Lib.cell_of_heap hb2];rfl
 have d1:w2.cell? ⟨K,1,none⟩=some v:=by rw [Lib.cell_of_heap hb2];rfl
 have f1:w2.frozen? ⟨K,1,none⟩=false:=Lib.frozen_of_heap hb2 1;have hm:Mm.Mv (bb w K) (bb (w2.setCell ⟨K,1,none⟩ v') K) w (w2.setCell ⟨K,1,none⟩ v'):=by
  refine hm1.trans ((show Mm.Mv (bb w1 K) (fun k=>k=K∨v'.ownBlock=some k) w1 w2 from⟨hgrow.os,hgrow.tape,hgrow.output,hgrow.size,fun k hk hn=>hgrow.block k hk (fun e=>hn (Or.inr ⟨v,c1,e.symm⟩)),fun k hk=> ?_⟩).trans ((Mm.Mv.set (k:=K) (j:=1) (Or.inl rfl) v').as (fun k=>Iff.rfl) (fun k=> ?_)))
  ·rcases hk with rfl|hk
   ·exact Or.inl (Or.inl rfl)
   ·rcases hloc with e|⟨g,e,hg⟩
    ·exact Or.inl (Or.inr ⟨v,c1,e▸hk⟩)
    ·rw [e]at hk;cases hk;exact Or.inr hg
  ·have e:(w2.setCell ⟨K,1,none⟩ v').cell? ⟨K,1,none⟩=some v':=Xn _ _ _ d1;unfold bb;rw [e];constructor
   ·rintro(h|h)
    ·exact Or.inl h
    ·exact Or.inr ⟨v',rfl,h⟩
   ·rintro(h|⟨x,h1,h2⟩)
    ·exact Or.inl h
    ·cases h1;exact Or.inr h2
 have hi2:IsB B K (xs++s) (w2.setCell ⟨K,1,none⟩ v'):=by
  have e:Lib.byteCells (xs++s)=Lib.byteCells xs++Lib.strCells ⟨s.toArray⟩:=by
   unfold Lib.byteCells Lib.strCells;rw [X2]
  refine Or.inr ?_;rw [e];exact Lib.BuilderAt.put hBK hb2 (by rw [Xg,Lib.strCells_length];exact hown') (by decide)
 have HM:Hid (IsB B K (xs++s) (w2.setCell ⟨K,1,none⟩ v')∧Mm.Mv (bb w K) (bb (w2.setCell ⟨K,1,none⟩ v') K) w (w2.setCell ⟨K,1,none⟩ v')):=⟨hi2,hm⟩
 obtain⟨ao,n',cap,rfl⟩: ∃ao n' cap,v'=.slice ao n' cap:=by
  rcases hown'.2 with⟨hv,_⟩|⟨g,cap,cur,hv,_⟩
  ·exact⟨_,_,_,hv⟩
  ·exact⟨_,_,_,hv⟩
 clear hm hi2 hown' hgrow hloc hm1 hk hb2 hown;go_wp2;go_ret2;exact⟨rfl,HM.out⟩
theorem DAt.off {D:Nat} {s:DS} {c c':Nat→Prop} (h:DAt w D s b) (m:Mm.Mv c c' w w') (hc: ∀k,c k→D<k∧ ¬b k):DAt w' D s b:=by
 have hD:=h.low D h.mem;have hb: ∀k,b k→w'.heap[k]? =w.heap[k]? :=fun k hk=>m.block k (h.low k hk).2 (fun e=>(hc k e).2 hk);have hg:GB D w':=h.g.mv (fun k hk=>Xw (hc k hk).1) m;have hcell: ∀j,w'.cell? ⟨D,j,none⟩=w.cell? ⟨D,j,none⟩:=fun j=>Xf (w:=w) (a:=⟨D,j,none⟩) (hb D h.mem);refine⟨(hcell 0).trans h.t,fun j=>(Xl (w:=w) (a:=⟨D,j,none⟩) (hb D h.mem)).trans (h.f j),hg,?_⟩;have hw:=h.w;match hs:s.w with
 |none=>rw [hs]at hw;exact⟨(hcell 1).trans hw.1,hw.2⟩
 |some (p,ts,S)=>
  rw [hs]at hw;obtain⟨B,q,h1,h2,h3,rfl⟩:=hw;exact⟨B,q,(hcell 1).trans h1,h2.kept (fun k hk=>hb k (Or.inr hk)) m.size (hg.bas (Xw h3)),h3,rfl⟩
theorem IsB.off {B K:Nat} {xs:List UInt8} {b':Nat→Prop} (h:IsB B K xs w) (m:Mm.Mv b b' w w') (hn: ∀k,bb w K k→ ¬b k):IsB B K xs w'∧bb w' K=bb w K:=by
 have hK:K<w.heap.size:=by rcases h with h|h<;>exact h.lt
 have hk:w'.heap[K]? =w.heap[K]? :=m.block K hK (hn K (Or.inl rfl));have hc:w'.cell? ⟨K,1,none⟩=w.cell? ⟨K,1,none⟩:=Xf (w:=w) (a:=⟨K,1,none⟩) hk;refine⟨?_,bb_same hc⟩;have key: ∀p,Lib.BuilderAt 38 5 B K p (Lib.byteCells xs) w→Lib.BuilderAt 38 5 B K p (Lib.byteCells xs) w':=by
  rintro p ⟨hB,v,h1,h2,h3⟩;have hv:w.cell? ⟨K,1,none⟩=some v:=by rw [Lib.cell_of_heap h1];rfl
  refine⟨hB,v,hk.trans h1,⟨h2.1,?_⟩,h3⟩;rcases h2.2 with hh|⟨g,cap,cur,rfl,hb,hg,hr⟩
  ·exact Or.inl hh
  ·have hgl:g<w.heap.size:=by
    rcases Nat.lt_or_ge g w.heap.size with h'|h'
    ·exact h'
    ·simp [Array.getElem?_eq_none h']at hg
   exact Or.inr ⟨g,cap,cur,rfl,hb,(m.block g hgl (hn g (Or.inr ⟨_,hv,rfl⟩))).trans hg,hr⟩
 exact h.imp (key _) (key _)
