/- A part. -/
import Derived.Test.YthiapcajheepbaaGreatDoorPwGlbAt
import Derived.Test.YthiapcajheepbaaGreatDoorPwWldHand
import Derived.Test.YthiapcajheepbaaGreatDoorPwLineWalks3
import Derived.Test.YthiapcajheepbaaGreatDoorPwCrewScale
import Derived.Test.YthiapcajheepbaaGreatDoorPwWatNew
set_option linter.all false
open Go.Proofs.Tryz
set_option maxHeartbeats 32000000
set_option maxRecDepth 8000
namespace Go.Proofs.YthiapcajheepbaaGreatDoor
namespace Glb
open Go.RowKit Plain Pln Frm Lpp Crn Wld
variable {w:World}

structure OnS (B:Nat) (c:Gc) (v:Gv) (p:Pd) (ts:List Tr) (S:WS) (k:Nat) (w:World) (g:Nat) (wr:World) (v1:Gv) (F:Flt.FS) (R:List Buf.Rq):Prop where
 a:GAt wr B c v1 p ts { S with F:=F,R:=R } k
 m:Mm.Mv (gbk c v) (gbk c v1) w wr
 e:onF g F R=onF S.R.length S.F S.R
 f:Flt.Inv F
 r:Buf.Inv R
 n:Buf.many (-1) 1 R≤g
 l:F.L.length≤1000000000
def OnR (B:Nat) (c:Gc) (v:Gv) (p:Pd) (ts:List Tr) (S:WS) (k:Nat) (w:World) (g:Nat) (wr:World):Prop:= ∃v1 F R,OnS B c v p ts S k w g wr v1 F R
theorem OnS.stop {B:Nat} {c:Gc} {v:Gv} {p:Pd} {ts:List Tr} {S:WS} {k:Nat} {g:Nat} {wr:World} {v1:Gv} {F:Flt.FS} {R:List Buf.Rq} (h:OnS B c v p ts S k w g wr v1 F R) (hn: ¬(Buf.nextB R=true∧Flt.giveE F=0)):Gst B c v p ts (onW S) k w wr:=by
 have e:=h.e;rw [on_stop hn]at e;refine⟨v1,?_,h.m⟩;unfold onW;rw [←e];exact h.a
structure Ptr (w:World) (G D T Q F H:Nat):Prop where
 p:w.cell? ⟨G,0,none⟩=some (.pointer (some ⟨D,0,none⟩))
 t:w.cell? ⟨G,1,none⟩=some (.pointer (some ⟨T,0,none⟩))
 q:w.cell? ⟨G,2,none⟩=some (.pointer (some ⟨Q,0,none⟩))
 f:w.cell? ⟨G,3,none⟩=some (.pointer (some ⟨F,0,none⟩))
 h:w.cell? ⟨G,4,none⟩=some (.pointer (some ⟨H,0,none⟩))
section
variable (B : Nat) (c : Gc) (v : Gv) (p : Pd) (ts : List Tr) (S : WS) (h k : Nat)
theorem GAt.ptr {B:Nat} {c:Gc} {v:Gv} {p:Pd} {ts:List Tr} {S:WS} {k:Nat} (h:GAt w B c v p ts S k):Ptr w c.G c.D c.T c.Q c.F c.H:=by
 have g:=h.cells.2.2;exact⟨g 0 _ rfl,g 1 _ rfl,g 2 _ rfl,g 3 _ rfl,g 4 _ rfl⟩
theorem on_any (w:World) (hA:GAt w B c v p ts S k) (hI:WI ts S h k) (hk:k≤1000000):
  Calls prog 44 #[.pointer (some ⟨c.G,0,none⟩)] w fun e w'=>e=.returned (.tuple #[])∧Gst B c v p ts (onW S) k w w':=by
 have hlen:S.F.L.length≤1000000000:=by have:=hI.len;omega
 have H0:Hid (OnS B c v p ts S k w S.R.length w v S.F S.R):=⟨hA,Mm.Mv.refl _ _,rfl,hI.f,hI.r,Yw,hlen⟩
 clear hA hI hlen;go_enter func44,ntmps44;go_wp2_with fail
 go_loopg [] S.R.length (fun gk wr=>OnR B c v p ts S k w gk wr)
 case atStart=>exact⟨v,S.F,S.R,H0.out⟩
 case round=>
  obtain⟨v1,F,R,hS⟩:=hrel;have HS:=zh hS;have pt:=hS.a.ptr;have qf:=pt.f;have qh:=pt.h;have cN:=Hal.hnext_any B c.H v1.b R wr (hS.a.pa 5 (by decide)) hS.r.len;clear hS pt;cases hn:Buf.nextB R with
  |false=>
   rw [hn]at cN;go_wp2_with(go_at_call 91;(with_reducible refine zq cN ?_))
   (try simp only [Exit.inBlock,Exit.then]);refine bodyPost_ret (results_none rfl _ _ _) rfl ?_;exact⟨rfl,HS.out.stop (by simp [hn])⟩
  |true=>
   rw [hn]at cN;have HN:=zh hn;clear hn;have hL:=HS.out.l;have hFi:=HS.out.f;have cG:=Flt.cgive_any F hFi hL B c.F v1.f wr (HS.out.a.pa 4 (by decide));by_cases hg:Flt.giveE F=0
   ·have HG:=zh hg;rw [hg]at cG;clear hg
    go_wp2_with (first
     |(go_at_call 91;(with_reducible refine zg cN fun w1 h9=>?_);have h8:=h9.symm;clear h9 cN;subst h8)
     |(go_at_call 92;(with_reducible refine cG.mono ?_);rintro e w2 ⟨rfl,u2,hf2,ht2⟩;clear cG;obtain⟨v2,a2,m2⟩:=HS.out.a.crew hf2 ht2;clear hf2 ht2;have HX2:Hid (GAt w2 B c v2 p ts { S with F:=Flt.giveS F,R:=R } k∧Mm.Mv (gbk c v1) (gbk c v2) wr w2):=⟨a2,m2⟩;have qh2:=a2.ptr.h;clear a2 m2)
     |(go_at_call 93;have cR:=Hal.hrun_any R (Buf.nextN R) (Flt.giveN F) HS.out.r B c.H v2.b w2 (HX2.out.1.pa 5 (by decide));(with_reducible refine cR.mono ?_);rintro e w3 ⟨rfl,u3,hb3,ht3⟩;clear cR;obtain⟨v3,a3,m3⟩:=HX2.out.1.hall hb3 ht3;clear hb3 ht3;have HX3:Hid (GAt w3 B c v3 p ts { S with F:=Flt.giveS F,R:=Buf.runL R (Buf.nextN R) (Flt.giveN F) } k∧Mm.Mv (gbk c v2) (gbk c v3) w2 w3):=⟨a3,m3⟩;clear a3 m3))
    have hm:=many_next HN.out (Flt.giveN F);have hgn:=HS.out.n;go_roundg (gk-1)
    case rel=>
     refine⟨v3,Flt.giveS F,Buf.runL R (Buf.nextN R) (Flt.giveN F),HX3.out.1,(HS.out.m.trans HX2.out.2).trans HX3.out.2,?_,Flt.give_inv hFi,Buf.run_inv HS.out.r _ _,by omega,by rw [give_len];exact hL⟩;rw [←HS.out.e,←on_step ⟨HN.out,HG.out⟩ (gk-1),show gk-1+1=gk by omega]
    case measure=>omega
   ·have HG:=zh hg;have hge:(Flt.giveE F !=0)=true:=by simp [hg]
    rw [give_no hg]at cG;clear hg
    go_wp2_with (first
     |(go_at_call 91;(with_reducible refine zg cN fun w1 h9=>?_);have h8:=h9.symm;clear h9 cN;subst h8)
     |(go_at_call 92;(with_reducible refine cG.mono ?_);rintro e w2 ⟨rfl,u2,hf2,ht2⟩;clear cG;obtain⟨v2,a2,m2⟩:=HS.out.a.crew hf2 ht2;clear hf2 ht2;have HX2:Hid (GAt w2 B c v2 p ts { S with F:=F,R:=R } k∧Mm.Mv (gbk c v1) (gbk c v2) wr w2):=⟨a2,m2⟩;clear a2 m2))
    (try simp only [Exit.inBlock,Exit.then]);refine bodyPost_ret (results_none rfl _ _ _) rfl ?_;have hs:=HS.out;exact⟨rfl,OnS.stop (v1:=v2) (F:=F) (R:=R) (g:=gk) ⟨HX2.out.1,hs.m.trans HX2.out.2,hs.e,hs.f,hs.r,hs.n,hs.l⟩ (fun e=>HG.out e.2)⟩
end
end Glb
namespace Glb
open Go.RowKit Plain Pln Frm Lpp Crn Wld Lop
set_option linter.all false

theorem cell_two (w:World) (e:TypeId) (a b:Value): ∀(j:Nat) (u:Value),[a,b][j]? =some u→(w.alloc (.cells #[a,b] e)).cell? ((⟨w.heap.size,0,none⟩:Addr).add j)=some u:=by
 intro j u h;match j,h with
 |0,h=>simp at h;subst h;simp [Addr.add]
 |1,h=>simp at h;subst h;simp [Addr.add]
 |j+2,h=>simp at h
section
variable (B : Nat) (c : Gc) (v0 v : Gv) (p : Pd) (ts : List Tr) (S : WS) (h k : Nat)
abbrev HoG (c:Gc) (sec now:Int) (w:World):Prop:=w.cell? ⟨c.G,0,none⟩=some (.pointer (some ⟨c.D,0,none⟩))∧w.cell? ⟨c.G,3,none⟩=some (.pointer (some ⟨c.F,0,none⟩))∧w.cell? ⟨c.G,6,none⟩=some (.int .i64 sec)∧w.cell? ⟨c.G,7,none⟩=some (.int .i64 now)
theorem gbk_wat {c:Gc} {v:Gv} {q:Nat} (e:Wat.blk (wx c v) q):gbk c v q:=⟨1,by decide,e⟩
theorem glook (u:Value) (ra:Option Addr) (rc:Nat) (L:List Re) (w0 w w4:World) (hR:RgR B c v0 p ts S k w0 ts.length u w v L) (hu:u=.slice ra ts.length rc) (hb:Below w.heap.size w w4) (hI:WI ts S h k) (hk:k≤100000) (hP:PlOk p ts) (hU: ∀t∈ts,TrU t):
  Calls prog 84 #[.pointer (some ⟨c.D,0,none⟩),.int .i64 S.now,.int .i64 (secW S),.int .i64 (Flt.cnt S.F.L),.slice ra ts.length rc,.bool (busyW S)] w4 fun e w'=>e=.returned (.tuple #[.int .i64 (toldW (noN p) ts S),.int .i64 0])∧
   Gst B c v p ts { readK S ts ts.length with lp:=nextL S.lp ts (rdsW ts S) S.now (needW (noN p) ts S),st:=Lop.nextS (noN p) S.lp S.st S.now (Flt.cnt S.F.L) (wantW (noN p) ts S) (needW (noN p) ts S) } (k+1) w4 w':=by
 have hl:=rds_len hI;have b1:=hI.nw;have b2:=hI.sc;have hA:=hR.a.below hb;obtain⟨C,hW,hs,hC⟩:=hA.pa 1 (by decide);have hD:Lop.DI p ts S.lp S.st C k:=⟨hI.lp,hs,hC⟩
 have hsec: -100000000000≤secW S∧secW S≤100000000000:=by unfold secW;omega
 have ew:wantW (noN p) ts S=wK p (Flt.cnt S.F.L) (inW (secW S) p.sh) ts (rdsW ts S) S.lp.fs ts.length:=Lop.wK_noN p _ _ _ _ _ _;have hX: ∀wr,Wat.WStep (wx c v) (wx c v) w4 wr→RdsAt wr ra (rdsW ts S):=fun wr m=>by
  obtain⟨ra',rc',e,r⟩:=hR.rds hl ((Mm.Mv.of_below (b:=Wat.blk (wx c v)) hb).trans ⟨m.os,m.tape,m.output,m.size,m.block,m.loc⟩) (fun q=>gbk_wat);rw [hu]at e;cases e;exact r
 have c1:=Wat.wlook_any B (wx c v) p c.ta ra c.tc rc ts (rdsW ts S) S.lp C S.now (secW S) (Flt.cnt S.F.L) (busyW S) (inW (secW S) p.sh) w4 hW hP hU hI.lp.fl (hI.lp.big (by omega)) hX hl (fun t _ _=>inW_iff _ _ t) ⟨hI.la,b1.2⟩ hsec ⟨by omega,hI.cn⟩ hI.lp.nd hI.lp.la.1 k hC (by omega);rw [hl]at c1;refine c1.mono ?_;rintro e w' ⟨rfl,vw,vm,hW2,m⟩;have hD2:=Lop.di_look (rs:=rdsW ts S) (WK:=wantW (noN p) ts S) (AK:=needW (noN p) ts S) hD (ok_noN hP) ⟨hI.la,b1.2⟩ ⟨(by omega:(0:Int)≤Flt.cnt S.F.L),hI.cn⟩;refine⟨?_,hA.watch (vw:=vw) (vm:=vm) hW2 ?_ ?_ m⟩
 ·rw [Lop.look_same hD,←ew];rfl
 ·rw [←ew];exact hD2.sm
 ·rw [←ew];exact hD2.cf
theorem busy_is (a b:Nat):(decide (0<a)||decide (0<b))=decide ((0:Int)<(a:Int)+(b:Int)):=by
 rw [←Bool.decide_or];exact decide_eq_decide.2 (by omega)
end
section
variable (B : Nat) (c : Gc) (v : Gv) (p : Pd) (ts : List Tr) (S : WS) (h k : Nat)
theorem gtick_no (w:World) (hA:GAt w B c v p ts S k) (hI:WI ts S h k) (hh:h≤1000) (hk:k≤100000) (hP:PlOk p ts) (hU: ∀t∈ts,TrU t) (hn:S.now+1≤1099511627776) (hdu:dueP (noN p) S.lp (S.now+1)=false):
  Calls prog 32 #[.pointer (some ⟨c.G,0,none⟩)] w fun e w'=>e=.returned (.tuple #[])∧Gst B c v p ts (tick1 (noN p) ts S) (k+1) w w':=by
 have hP':=ok_noN hP;have hl5:=hP.len;have ba:0≤S.now∧S.now+1≤1099511627776:=⟨hI.nw.1,hn⟩
 have HI:=zh hI;have HL:Hid (WI ts (lateW S) h k):=hI.late hn;have HW:Hid (dueW (noN p) ts (lateW S)=lateW S):=by
  unfold Hid dueW;rw [show dueP (noN p) (lateW S).lp (lateW S).now=false from hdu];rfl
 have q7:w.cell? ⟨c.G,7,none⟩=some (.int .i64 S.now):=hA.cells.2.2 7 _ rfl;have f7:=hA.cells.2.1 7;obtain⟨v1,a1,m1⟩:=hA.clock (S.now+1);have HX1:Hid (GAt (w.setCell ⟨c.G,7,none⟩ (.int .i64 (S.now+1))) B c v1 p ts { S with now:=S.now+1 } k∧Mm.Mv (gbk c v) (gbk c v1) w (w.setCell ⟨c.G,7,none⟩ (.int .i64 (S.now+1)))):=⟨a1,m1⟩
 clear hA hI a1 m1;go_enter func32,ntmps32;go_upto_region 1 with fail
 generalize w.setCell ⟨c.G,7,none⟩ (.int .i64 (S.now+1))=w1 at*;clear q7 f7;have cLt:=Hal.hlate_any B c.H v1.b S.R (S.now+1) w1.drew ((HX1.out.1.below (Mm.bdrew w1)).pa 5 (by decide)) HI.out.r (by omega) (by omega);have q1:=HX1.out.1.ptr.h;have n1:w1.cell? ⟨c.G,7,none⟩=some (.int .i64 (S.now+1)):=HX1.out.1.cells.2.2 7 _ rfl;refine Tk.sb 9 (S:=fun w'=>w'.cell? ⟨c.G,4,none⟩=some (.pointer (some ⟨c.H,0,none⟩))∧w'.cell? ⟨c.G,7,none⟩=some (.int .i64 (S.now+1))) ⟨q1,n1⟩ (fun hHeld=> ?_)
 iterate 8
  refine Tk.gn ?_
 refine Tk.rn 8 fun K hK=> ?_;go_simp;go_wp2_with(go_at_call 80;(with_reducible refine cLt.mono ?_);rintro e w2 ⟨o,rfl,ho2,hb2,ht2⟩;clear ho2 cLt;obtain⟨v2,a2,m2⟩:=(HX1.out.1.below (Mm.bdrew w1)).hall hb2 ht2;have HX2:Hid (GAt w2 B c v2 p ts (lateW S) k∧Mm.Mv (gbk c v1) (gbk c v2) w1.drew w2):=⟨a2,m2⟩;have q2:=a2.ptr.h;have n2:w2.cell? ⟨c.G,7,none⟩=some (.int .i64 (S.now+1)):=a2.cells.2.2 7 _ rfl;have d2:=a2.ptr.p;clear a2 m2 hb2 ht2)
 refine hK.out _ _ ⟨q2,n2⟩ (fun hHeld=> ?_);clear hK K;refine wpAnyH_done (by kernel_rfl) ?_ _;clear q1 n1 q2;obtain⟨C0,hw2,_,_⟩:=(HX2.out.1.below (Mm.bdrew w2)).pa 1 (by decide);have cD:=Wat.wdue_any B (wx c v2) p c.ta c.tc ts S.lp C0 (S.now+1) w2.drew hw2 ⟨HI.out.lp.la.1,Yc HI.out.la HI.out.nw.2⟩ (by omega);rw [due_same hP.po.1,hdu]at cD;clear hw2 hdu;dsimp only [wx]at cD;go_upto_region 2 with fail
 refine Tk.sb 9 (S:=fun w'=>w'.cell? ⟨c.G,0,none⟩=some (.pointer (some ⟨c.D,0,none⟩))∧w'.cell? ⟨c.G,7,none⟩=some (.int .i64 (S.now+1))) ⟨d2,n2⟩ (fun hHeld=> ?_)
 iterate 8
  refine Tk.gn ?_
 refine Tk.rn 8 fun K hK=> ?_;go_simp;go_wp2_with(go_at_call 81;(with_reducible refine zg cD fun w3 hb3=>?_);clear cD;have HX3:Hid (GAt w3 B c v2 p ts (lateW S) k∧Mm.Mv (gbk c v1) (gbk c v2) w1 w3):=⟨(HX2.out.1.below (Mm.bdrew w2)).below hb3,(Mm.Mv.of_below (Mm.bdrew w1)).trans (HX2.out.2.trans (Mm.Mv.of_below ((Mm.bdrew w2).trans (hb3.mono (Mm.bdrew w2).size))))⟩;have d3:=HX3.out.1.ptr.p;have n3:w3.cell? ⟨c.G,7,none⟩=some (.int .i64 (S.now+1)):=HX3.out.1.cells.2.2 7 _ rfl;clear hb3)
 refine hK.out _ _ ⟨d3,n3⟩ (fun hHeld=> ?_);clear hK K;refine wpAnyH_done (by kernel_rfl) ?_ _;clear d2 n2 d3 n3;have cO:=on_any B c v2 p ts (dueW (noN p) ts (lateW S)) h (k+1) w3 (by rw [HW.out];exact HX3.out.1.more (Xm k)) (HL.out.due hP') (by omega);go_wp2_with(go_at_call 44;(with_reducible refine cO.mono ?_);rintro e w9 ⟨rfl,v9,a9,m9⟩)
 go_end0;exact⟨rfl,v9,a9,(HX1.out.2.trans HX3.out.2).trans m9⟩
theorem gtick_yes (w:World) (hA:GAt w B c v p ts S k) (hI:WI ts S h k) (hh:h≤1000) (hk:k≤100000) (hP:PlOk p ts) (hU: ∀t∈ts,TrU t) (hn:S.now+1≤1099511627776) (hdu:dueP (noN p) S.lp (S.now+1)=true):
  Calls prog 32 #[.pointer (some ⟨c.G,0,none⟩)] w fun e w'=>e=.returned (.tuple #[])∧Gst B c v p ts (tick1 (noN p) ts S) (k+1) w w':=by
 have hP':=ok_noN hP;have hl5:=hP.len;have ba:0≤S.now∧S.now+1≤1099511627776:=⟨hI.nw.1,hn⟩
 have HI:=zh hI;have HL:Hid (WI ts (lateW S) h k):=hI.late hn;have HW:Hid (dueW (noN p) ts (lateW S)=lookW (noN p) ts (lateW S)):=by
  unfold Hid dueW;rw [show dueP (noN p) (lateW S).lp (lateW S).now=true from hdu];rfl
 have q7:w.cell? ⟨c.G,7,none⟩=some (.int .i64 S.now):=hA.cells.2.2 7 _ rfl;have f7:=hA.cells.2.1 7;obtain⟨v1,a1,m1⟩:=hA.clock (S.now+1);have HX1:Hid (GAt (w.setCell ⟨c.G,7,none⟩ (.int .i64 (S.now+1))) B c v1 p ts { S with now:=S.now+1 } k∧Mm.Mv (gbk c v) (gbk c v1) w (w.setCell ⟨c.G,7,none⟩ (.int .i64 (S.now+1)))):=⟨a1,m1⟩
 clear hA hI a1 m1;go_enter func32,ntmps32;go_upto_region 1 with fail
 generalize w.setCell ⟨c.G,7,none⟩ (.int .i64 (S.now+1))=w1 at*;clear q7 f7;have cLt:=Hal.hlate_any B c.H v1.b S.R (S.now+1) w1.drew ((HX1.out.1.below (Mm.bdrew w1)).pa 5 (by decide)) HI.out.r (by omega) (by omega);have q1:=HX1.out.1.ptr.h;have n1:w1.cell? ⟨c.G,7,none⟩=some (.int .i64 (S.now+1)):=HX1.out.1.cells.2.2 7 _ rfl;refine Tk.sb 9 (S:=fun w'=>w'.cell? ⟨c.G,4,none⟩=some (.pointer (some ⟨c.H,0,none⟩))∧w'.cell? ⟨c.G,7,none⟩=some (.int .i64 (S.now+1))) ⟨q1,n1⟩ (fun hHeld=> ?_)
 iterate 8
  refine Tk.gn ?_
 refine Tk.rn 8 fun K hK=> ?_;go_simp;go_wp2_with(go_at_call 80;(with_reducible refine cLt.mono ?_);rintro e w2 ⟨o,rfl,ho2,hb2,ht2⟩;clear ho2 cLt;obtain⟨v2,a2,m2⟩:=(HX1.out.1.below (Mm.bdrew w1)).hall hb2 ht2;have HX2:Hid (GAt w2 B c v2 p ts (lateW S) k∧Mm.Mv (gbk c v1) (gbk c v2) w1.drew w2):=⟨a2,m2⟩;have q2:=a2.ptr.h;have n2:w2.cell? ⟨c.G,7,none⟩=some (.int .i64 (S.now+1)):=a2.cells.2.2 7 _ rfl;have d2:=a2.ptr.p;clear a2 m2 hb2 ht2)
 refine hK.out _ _ ⟨q2,n2⟩ (fun hHeld=> ?_);clear hK K;refine wpAnyH_done (by kernel_rfl) ?_ _;clear q1 n1 q2;obtain⟨C0,hw2,_,_⟩:=(HX2.out.1.below (Mm.bdrew w2)).pa 1 (by decide);have cD:=Wat.wdue_any B (wx c v2) p c.ta c.tc ts S.lp C0 (S.now+1) w2.drew hw2 ⟨HI.out.lp.la.1,Yc HI.out.la HI.out.nw.2⟩ (by omega);rw [due_same hP.po.1,hdu]at cD;clear hw2 hdu;dsimp only [wx]at cD;go_upto_region 2 with fail
 refine Tk.sb 9 (S:=fun w'=>w'.cell? ⟨c.G,0,none⟩=some (.pointer (some ⟨c.D,0,none⟩))∧w'.cell? ⟨c.G,7,none⟩=some (.int .i64 (S.now+1))) ⟨d2,n2⟩ (fun hHeld=> ?_)
 iterate 8
  refine Tk.gn ?_
 refine Tk.rn 8 fun K hK=> ?_;go_simp;go_wp2_with(go_at_call 81;(with_reducible refine zg cD fun w3 hb3=>?_);clear cD;have HX3:Hid (GAt w3 B c v2 p ts (lateW S) k∧Mm.Mv (gbk c v1) (gbk c v2) w1 w3):=⟨(HX2.out.1.below (Mm.bdrew w2)).below hb3,(Mm.Mv.of_below (Mm.bdrew w1)).trans (HX2.out.2.trans (Mm.Mv.of_below ((Mm.bdrew w2).trans (hb3.mono (Mm.bdrew w2).size))))⟩;have d3:=HX3.out.1.ptr.p;have n3:w3.cell? ⟨c.G,7,none⟩=some (.int .i64 (S.now+1)):=HX3.out.1.cells.2.2 7 _ rfl;clear hb3)
 refine hK.out _ _ ⟨d3,n3⟩ (fun hHeld=> ?_);clear hK K;refine wpAnyH_done (by kernel_rfl) ?_ _;clear d2 n2 d3 n3;obtain⟨i0,hi,hz0,hz1,hz2⟩:=info_parts info_rd;have hB3:=HX3.out.1.base;go_wp2_with fail
 go_loopw [2,3] (fun r i wr=>RgL B c v2 p ts (lateW S) k w3 r i wr) (fun _ i _=>ts.length-(intOf i).toNat)
 case atStart=>exact⟨0,v2,[],by omega,rfl,RgR.zero HX3.out.1⟩
 case round=>
  obtain⟨j,v5,L,hj,rfl,hR⟩:=hrel;by_cases hlt:j<ts.length
  ·have hlt':(j:Int)<(ts.length:Int):=by omega
   obtain⟨t,ht⟩: ∃t,ts[j]? =some t:=⟨_,Xz hlt⟩
   obtain⟨f,hf⟩: ∃f,S.fl[j]? =some f:=⟨_,Xz (by rw [HI.out.fl];exact hlt)⟩
   have HT:Hid (ts[j]? =some t∧(lateW S).fl[j]? =some f):=⟨ht,hf⟩
   have HR:=zh hR;have q5:wr.cell? ⟨c.G,5,none⟩=some (.slice (some ⟨c.K,0,none⟩) ts.length ts.length):=hR.a.cells.2.2 5 _ rfl;have k5:wr.cell? ⟨c.K,j,none⟩=some (.bool f):=(hR.a.pa 6 (by decide)).2.2 j _ (by show(S.fl.map Value.bool)[j]? =_;rw [XQ,hf];rfl);clear hR ht hf;go_upto_region 8 with fail
   obtain⟨W1,hW⟩: ∃W1,W1=wr.alloc (.cells #[.bool f,.slice none 0 0] 149):=⟨_,rfl⟩
   have hbW:Below wr.heap.size wr W1:=by rw [hW];exact(Below.refl _ _).alloc (Xa _) _
   have x0:W1.cell? ⟨wr.heap.size,0,none⟩=some (.bool f):=by rw [hW];simp
   have x1:W1.cell? ⟨wr.heap.size,1,none⟩=some (.slice none 0 0):=by rw [hW];simp
   have xf:W1.frozen? ⟨wr.heap.size,1,none⟩=false:=by rw [hW];simp
   have hCl:wr.heap.size<W1.heap.size:=by rw [hW];simp
   rw [←hW];clear hW q5 k5;have hA1:GAt W1 B c v5 p ts (readK (lateW S) ts j) k:=HR.out.a.below hbW;have hCn: ¬gbk c v5 wr.heap.size:=fun e=>absurd (HR.out.a.low e).2 (XL _);have qd:=hA1.ptr.p;have qt:=hA1.ptr.t;have qq:=hA1.ptr.q;have qn:W1.cell? ⟨c.G,7,none⟩=some (.int .i64 (S.now+1)):=hA1.cells.2.2 7 _ rfl;obtain⟨C1,hw1,_,_⟩:=hA1.pa 1 (by decide);have qs:W1.cell? ⟨c.D,17,none⟩=some (.slice c.ta ts.length c.tc):=(Wat.cel_of hw1.r).tr;obtain⟨tb,toff,hta,_,hTr⟩:=TrsAt.elem hw1.t HT.out.1;have qk:=hTr.c0;rw [hta]at qs;clear hw1 hTr;have HA1:=zh hA1;have HWb:=zh hbW;by_cases h1:t.k=1
   ·have cL:=Top.bLags c.T c.P c.O S.n S.E S.O W1 (hA1.pa 2 (by decide)) HI.out.n.1 HI.out.n.2 (fun i hi=>by have:=HI.out.tb i hi;omega);rw [h1]at qk;go_upto_region 14 with(go_at_call 54;(with_reducible refine cL.mono ?_);rintro e w5 ⟨Lb,cb,rfl,hLb,hRow,hb5⟩;have y1:=hb5.cell hCl (p:=⟨wr.heap.size,1,none⟩)|>.trans x1;have yf:=(hb5.frozen (p:=⟨wr.heap.size,1,none⟩) hCl).trans xf)
    have HP:Hid (RgP B c v2 p ts (lateW S) k w3 j u2 wr v5 L t f v5 wr.heap.size (some ⟨Lb,0,none⟩) S.n cb (w5.setCell ⟨wr.heap.size,1,none⟩ (.slice (some ⟨Lb,0,none⟩) S.n cb))):=by
     have er:rdOf (readK (lateW S) ts j) t false=⟨false,S.n,Top.dif S.E S.O⟩:=by unfold rdOf;rw [if_pos h1];rfl
     have es:readT (readK (lateW S) ts j) t=readK (lateW S) ts j:=by unfold readT;rw [if_neg (by omega)]
     refine RgP.of HR.out HWb.out hCl x0 x1 (by rw [es];exact HA1.out.below hb5) (Mm.Mv.of_below hb5) (by rw [er]) HI.out.n.2 (by rw [er];exact IntsO.row hRow (fun i hi=>by have:=HI.out.tb i hi;show _≤S.E i-S.O i∧S.E i-S.O i≤_;omega) (fun e=>by have:=(HA1.out.low e).2;omega)) (fun g o _ e=>by cases e;exact hLb)
    generalize w5.setCell ⟨wr.heap.size,1,none⟩ (.slice (some ⟨Lb,0,none⟩) S.n cb)=wy at*;clear cL hLb hRow hb5 y1 yf qd qt qq qn qs qk x0 x1 xf hA1 hbW;have ho7: ∀o,(wy.alloc o).ownsRow w3.heap.size 149 2 u2 j (Rw.cels rdC L):=fun o=>HP.out.own.alloc o;have x0:=HP.out.c0;have x1:=HP.out.c1;have hz7:w3.heap.size≤wy.heap.size:=Xc HR.out.m.size HP.out.m.size;have HC:Hid (Rw.cels rdC L=Rw.cels rdC L):=rfl;generalize hC1:Rw.cels rdC L=C1 at ho7;go_wp2_with(at_builtin;refine wpList_append_own_at _ rfl _ _ 147 rfl w3.heap.size 149 i0 (.agg #[.bool false,.slice none 0 0]) 2 32 underlying147 hi hz0 hz1 hz2 rfl (by decide) _ j C1 rfl (ho7 _) ⟨wy.heap.size,0,none⟩ 1 1 [_,_] rfl rfl (cell_two _ _ _ _) (fun u hu=>by simp at hu;rcases hu with rfl|rfl<;>rfl) (by unfold maxLen;omega) (by omega) (by simp;omega) ?_;intro v' w7 hown7 hgrow7 _ hv7)
    subst hC1;go_roundw
    case rel=>exact HP.out.next hB3 HT.out.1 HT.out.2 hown7 hgrow7 hv7
    case measure=>simp [intOf];omega
   ·by_cases h2:t.k=2
    ·have cL:=Que.ldepth_yes B c.Q S.ql v5.q _ _ (S.now+1) W1.drew ((hA1.below (Mm.bdrew W1)).pa 3 (by decide)) (HL.out.readK j).q.len (by omega) (by omega) rfl;rw [h2]at qk;go_upto_region 12 with fail
     refine Tk.sb 14 (S:=fun w'=>w'.cell? ⟨c.G,2,none⟩=some (.pointer (some ⟨c.Q,0,none⟩))∧w'.cell? ⟨c.G,7,none⟩=some (.int .i64 (S.now+1))) ⟨qq,qn⟩ (fun hHeld=> ?_)
     iterate 8
      refine Tk.gn ?_
     refine Tk.rn 8 fun K hK=> ?_;go_simp;go_wp2_with(go_at_call 82;(with_reducible refine cL.mono ?_);rintro e w5 ⟨rfl,u5,hq5,ht5⟩;obtain⟨v6,a6,m6⟩:=(hA1.below (Mm.bdrew W1)).line hq5 ht5;have HX6:Hid (GAt w5 B c v6 p ts _ k∧Mm.Mv (gbk c v5) (gbk c v6) W1.drew w5):=⟨a6,m6⟩;have y1:=m6.cell x1 hCn;have yf:=(Xl (w:=W1.drew) (a:=⟨wr.heap.size,1,none⟩) (m6.block _ hCl hCn)).trans xf;have y2: ∀o,(w5.alloc o).cell? ⟨wr.heap.size,1,none⟩=some (.slice none 0 0):=fun o=>Tk.kc y1 ((Below.refl _ _).alloc (Xa _) o);have yf2: ∀o,(w5.alloc o).frozen? ⟨wr.heap.size,1,none⟩=false:=fun o=>(((Below.refl _ _).alloc (Xa _) o).frozen (Xj w5 _ y1)).trans yf;have q2:=a6.ptr.q;have n2:w5.cell? ⟨c.G,7,none⟩=some (.int .i64 (S.now+1)):=a6.cells.2.2 7 _ rfl;clear a6 m6 hq5 ht5)
     refine hK.out _ _ ⟨q2,n2⟩ (fun hHeld=> ?_);clear hK K
     iterate 5
      refine Tk.gn ?_
     refine wpAnyH_done (by kernel_rfl) ?_ _;go_upto_region 14 with fail
     have HP:Hid (RgP B c v2 p ts (lateW S) k w3 j u2 wr v5 L t f v6 wr.heap.size (some ⟨w5.heap.size,0,none⟩) 1 1 ((w5.alloc (.cells #[.int .i64 (Que.depth (Que.backL (S.now+1) (readK (lateW S) ts j).qL):Int)] 3)).setCell ⟨wr.heap.size,1,none⟩ (.slice (some ⟨w5.heap.size,0,none⟩) 1 1))):=by
      have er:rdOf (readK (lateW S) ts j) t false=⟨false,1,fun _=>(Que.depth (Que.backL (S.now+1) (readK (lateW S) ts j).qL):Int)⟩:=by unfold rdOf;rw [if_neg h1,if_pos h2];rfl
      have es:readT (readK (lateW S) ts j) t= { readK (lateW S) ts j with qL:=Que.backL (S.now+1) (readK (lateW S) ts j).qL } :=by unfold readT;rw [if_pos h2];rfl
      have hdl:(Que.depth (Que.backL (S.now+1) (readK (lateW S) ts j).qL):Int)≤200:=by
       have:Que.depth (Que.backL (S.now+1) (readK (lateW S) ts j).qL)≤(Que.backL (S.now+1) (readK (lateW S) ts j).qL).length:=Yw;have g:=((HL.out.readK j).q.back (S.now+1)).len;omega
      have hb7:=fun o=>(Below.refl w5.heap.size w5).alloc (Xa _) o
      refine RgP.of HR.out HWb.out hCl x0 x1 (by rw [es]; exact HX6.out.1.below (hb7 _)) (((Mm.Mv.of_below (Mm.bdrew W1)).trans HX6.out.2).trans (Mm.Mv.of_below (hb7 _))) (by rw [er]) (by decide) (by
       rw [er];refine⟨fun i hi=>⟨_,_,rfl,?_,?_,?_⟩,fun g o _ e=> ?_⟩
       ·simp
       ·obtain rfl:i=0:=by omega
        simp
       ·exact⟨by show _≤(Que.depth _:Int);omega,by show(Que.depth _:Int)≤_;omega⟩
       ·cases e;exact fun e=>absurd (HX6.out.1.low e).2 (by omega)) (fun g o _ e=>by cases e;exact Xc (Mm.bdrew W1).size HX6.out.2.size)
     generalize ((w5.alloc (.cells #[.int .i64 (Que.depth (Que.backL (S.now+1) (readK (lateW S) ts j).qL):Int)] 3)).setCell ⟨wr.heap.size,1,none⟩ (.slice (some ⟨w5.heap.size,0,none⟩) 1 1))=wy at*;clear cL qd qt qq qn qs qk x0 x1 xf hA1 hbW y1 yf y2 yf2 q2 n2 hHeld HX6;have ho7: ∀o,(wy.alloc o).ownsRow w3.heap.size 149 2 u2 j (Rw.cels rdC L):=fun o=>HP.out.own.alloc o;have x0:=HP.out.c0;have x1:=HP.out.c1;have hz7:w3.heap.size≤wy.heap.size:=Xc HR.out.m.size HP.out.m.size;have HC:Hid (Rw.cels rdC L=Rw.cels rdC L):=rfl;generalize hC1:Rw.cels rdC L=C1 at ho7;go_wp2_with(at_builtin;refine wpList_append_own_at _ rfl _ _ 147 rfl w3.heap.size 149 i0 (.agg #[.bool false,.slice none 0 0]) 2 32 underlying147 hi hz0 hz1 hz2 rfl (by decide) _ j C1 rfl (ho7 _) ⟨wy.heap.size,0,none⟩ 1 1 [_,_] rfl rfl (cell_two _ _ _ _) (fun u hu=>by simp at hu;rcases hu with rfl|rfl<;>rfl) (by unfold maxLen;omega) (by omega) (by simp;omega) ?_;intro v' w7 hown7 hgrow7 _ hv7)
     subst hC1;go_roundw
     case rel=>exact HP.out.next hB3 HT.out.1 HT.out.2 hown7 hgrow7 hv7
     case measure=>simp [intOf];omega
    ·go_upto_region 14 with fail
     have HP:Hid (RgP B c v2 p ts (lateW S) k w3 j u2 wr v5 L t f v5 wr.heap.size none 0 0 W1):=RgP.span HR.out HWb.out h1 h2 x0 x1;generalize hwy:W1=wy at*;clear qd qt qq qn qs qk x0 x1 xf hA1 hbW hwy;have ho7: ∀o,(wy.alloc o).ownsRow w3.heap.size 149 2 u2 j (Rw.cels rdC L):=fun o=>HP.out.own.alloc o;have x0:=HP.out.c0;have x1:=HP.out.c1;have hz7:w3.heap.size≤wy.heap.size:=Xc HR.out.m.size HP.out.m.size;have HC:Hid (Rw.cels rdC L=Rw.cels rdC L):=rfl;generalize hC1:Rw.cels rdC L=C1 at ho7;go_wp2_with(at_builtin;refine wpList_append_own_at _ rfl _ _ 147 rfl w3.heap.size 149 i0 (.agg #[.bool false,.slice none 0 0]) 2 32 underlying147 hi hz0 hz1 hz2 rfl (by decide) _ j C1 rfl (ho7 _) ⟨wy.heap.size,0,none⟩ 1 1 [_,_] rfl rfl (cell_two _ _ _ _) (fun u hu=>by simp at hu;rcases hu with rfl|rfl<;>rfl) (by unfold maxLen;omega) (by omega) (by simp;omega) ?_;intro v' w7 hown7 hgrow7 _ hv7)
     subst hC1;go_roundw
     case rel=>exact HP.out.next hB3 HT.out.1 HT.out.2 hown7 hgrow7 hv7
     case measure=>simp [intOf];omega
  ·obtain rfl:j=ts.length:=by omega
   obtain⟨ra,rc,rfl,_⟩:=hR.rds (rds_len HL.out) (Mm.Mv.refl (gbk c v5) wr) (fun _ e=>e);have HR:=zh hR;have q4:=hR.a.ptr.h;have q5:wr.cell? ⟨c.G,5,none⟩=some (.slice (some ⟨c.K,0,none⟩) ts.length ts.length):=hR.a.cells.2.2 5 _ rfl;have HA15:Hid (GAt wr.drew B c v5 p ts (readK (lateW S) ts ts.length) k):=hR.a.below (Mm.bdrew wr);have hwb:IntKind.i64.wrap ((Buf.many (-1) 1 (lateW S).R:Int)+(Buf.many (-1) 2 (lateW S).R:Int))=(Buf.many (-1) 1 (lateW S).R:Int)+(Buf.many (-1) 2 (lateW S).R:Int):=by
    have h1:Buf.many (-1) 1 (lateW S).R≤(lateW S).R.length:=Yw;have h2:Buf.many (-1) 2 (lateW S).R≤(lateW S).R.length:=Yw;have h3:=HL.out.r.len;rw [IntKind.wrap_i64]<;>omega
   have MF:Mm.Mv (gbk c v2) (gbk c v5) w3 wr:=⟨hR.m.os,hR.m.tape,hR.m.output,hR.m.size,hR.m.block,fun q e=>hR.m.loc q (Or.inl e)⟩
   clear hR;go_upto_region 15 with fail
   refine Tk.sb 13 (S:=fun w'=>w'.cell? ⟨c.G,4,none⟩=some (.pointer (some ⟨c.H,0,none⟩))) q4 (fun hHeld=> ?_)
   iterate 4
    refine Tk.gn ?_
   refine Tk.gm 5 ?_;refine Tk.gm 6 ?_;refine Tk.gm 7 ?_;refine Tk.gm 8 ?_;refine Tk.rn 4 fun K hK=> ?_;go_simp;go_wp2_with(go_at_call 83;have cM:=Hal.hmany_any B c.H v5.b (lateW S).R (-1) 1 wr.drew (HA15.out.pa 5 (by decide)) HL.out.r.len;(with_reducible refine cM.mono ?_);clear cM;rintro e w' ⟨rfl,h9⟩;have h8:=h9.symm;clear h9;subst h8)
   refine hK.out _ _ hHeld (fun hHeld=> ?_);clear hK K;refine Tk.rn 9 fun K hK=> ?_;go_simp;go_wp2_with(go_at_call 83;have cM:=Hal.hmany_any B c.H v5.b (lateW S).R (-1) 2 wr.drew (HA15.out.pa 5 (by decide)) HL.out.r.len;(with_reducible refine cM.mono ?_);clear cM;rintro e w' ⟨rfl,h9⟩;have h8:=h9.symm;clear h9;subst h8)
   refine hK.out _ _ hHeld (fun hHeld=> ?_);clear hK K
   iterate 3
    refine Tk.gn ?_
   refine wpAnyH_done (by kernel_rfl) ?_ _;go_upto_region 16 with fail
   have hbd:Below wr.heap.size wr wr.drew.drew:=(Mm.bdrew wr).drew;have hlen:S.F.L.length≤1000000000:=by have:=HI.out.len;omega
   have eb:busyW (lateW S)=decide ((0:Int)<(Buf.many (-1) 1 (lateW S).R:Int)+(Buf.many (-1) 2 (lateW S).R:Int)):=busy_is _ _;have s3:HoG c S.sec (S.now+1) wr.drew.drew:=⟨(HR.out.a.below hbd).ptr.p,(HR.out.a.below hbd).ptr.f,(HR.out.a.below hbd).cells.2.2 6 _ rfl,(HR.out.a.below hbd).cells.2.2 7 _ rfl⟩
   have bs:=HI.out.sc;have hwr:IntKind.i64.wrap (S.sec+(S.now+1))=S.sec+(S.now+1):=by rw [IntKind.wrap_i64]<;>omega
   have hmin:min (S.sec+(S.now+1)) 100000000000=secW (lateW S):=rfl;refine Tk.sb 33 (S:=fun w'=>HoG c S.sec (S.now+1) w') s3 (fun hHeld=> ?_)
   iterate 18
    refine Tk.gn ?_
   refine Tk.gm 18 (v:=.int .i64 (secW (lateW S))) ?_ (hy:=Or.inl ⟨by rfl,fun w' _=>by go_simp⟩)
   iterate 4
    refine Tk.gn ?_
   refine Tk.gm 24 ?_;refine Tk.gm 25 ?_;refine Tk.rn 23 fun K hK=> ?_;go_simp;go_wp2_with(go_at_call 85;have cC:=Flt.ccount_any B c.F v5.f S.F wr.drew.drew ((HR.out.a.below hbd).pa 4 (by decide)) hlen;(with_reducible refine cC.mono ?_);clear cC;rintro e w4 ⟨rfl,hb4⟩;have hb5:Below wr.heap.size wr w4:=(zu hbd hb4);have cK:=glook B c v2 v5 p ts (lateW S) h k _ ra rc L w3 wr w4 HR.out rfl hb5 HL.out hk hP hU;have HA4:=HR.out.a.below hb5;have s4:HoG c S.sec (S.now+1) w4:=⟨HA4.ptr.p,HA4.ptr.f,HA4.cells.2.2 6 _ rfl,HA4.cells.2.2 7 _ rfl⟩;rw [eb]at cK;simp only [show(lateW S).now=S.now+1 from rfl,show(lateW S).F=S.F from rfl]at cK)
   refine hK.out _ _ s4 (fun hHeld=> ?_);clear hK K;refine Tk.rn 26 fun K hK=> ?_;go_simp;go_wp2_with(go_at_call 84;(with_reducible refine cK.mono ?_);rintro e w5 ⟨rfl,v6,a6,m6⟩;clear cK;have s5:HoG c S.sec (S.now+1) w5:=⟨a6.ptr.p,a6.ptr.f,a6.cells.2.2 6 _ rfl,a6.cells.2.2 7 _ rfl⟩;have q8:=a6.cells.2.2 8 _ rfl;have f8:=a6.cells.2.1 8;have HX6:Hid (GAt w5 B c v6 p ts _ (k+1)∧Mm.Mv (gbk c v5) (gbk c v6) w4 w5):=⟨a6,m6⟩;clear a6 m6)
   refine hK.out _ _ s5 (fun hHeld=> ?_);clear hK K
   iterate 5
    refine Tk.gn ?_
   refine Tk.r1 32 fun K hK=> ?_;go_simp;obtain⟨v7,a7,m7⟩:=HX6.out.1.target (toldW (noN p) ts (lateW S));refine hK.out _ _ ⟨a7.ptr.p,a7.ptr.f,a7.cells.2.2 6 _ rfl,a7.cells.2.2 7 _ rfl⟩ (fun hHeld=> ?_);clear hK K hHeld;refine wpAnyH_done (by kernel_rfl) ?_ _;have HX7:Hid (GAt (w5.setCell ⟨c.G,8,none⟩ (.int .i64 (toldW (noN p) ts (lateW S)))) B c v7 p ts _ (k+1)∧Mm.Mv (gbk c v6) (gbk c v7) w5 (w5.setCell ⟨c.G,8,none⟩ (.int .i64 (toldW (noN p) ts (lateW S))))):=⟨a7,m7⟩
   have qe:=a7.cells.2.2 8 _ rfl;have qf:=a7.ptr.f;generalize (w5.setCell ⟨c.G,8,none⟩ (.int .i64 (toldW (noN p) ts (lateW S))))=w6 at*;clear a7 m7 q8 f8 s5 s4 s3;have cS:=Flt.cscale_any S.F (toldW (noN p) ts (lateW S)) HI.out.f (by have:=HI.out.fb;omega) B c.F v7.f w6.drew ((HX7.out.1.below (Mm.bdrew w6)).pa 4 (by decide));go_upto_region 17 with fail
   refine Tk.sb 9 (S:=fun w'=>w'.cell? ⟨c.G,3,none⟩=some (.pointer (some ⟨c.F,0,none⟩))∧w'.cell? ⟨c.G,8,none⟩=some (.int .i64 (toldW (noN p) ts (lateW S)))) ⟨qf,qe⟩ (fun hHeld=> ?_)
   iterate 8
    refine Tk.gn ?_
   refine Tk.rn 8 fun K hK=> ?_;go_simp;go_wp2_with(go_at_call 86;(with_reducible refine cS.mono ?_);rintro e w8 ⟨rfl,u8,hq8,ht8⟩;clear cS;obtain⟨v8,a8,m8⟩:=(HX7.out.1.below (Mm.bdrew w6)).crew hq8 ht8;clear hq8 ht8;have s8:w8.cell? ⟨c.G,3,none⟩=some (.pointer (some ⟨c.F,0,none⟩))∧w8.cell? ⟨c.G,8,none⟩=some (.int .i64 (toldW (noN p) ts (lateW S))):=⟨a8.ptr.f,a8.cells.2.2 8 _ rfl⟩;have HX8:Hid (GAt w8 B c v8 p ts (lookW (noN p) ts (lateW S)) (k+1)∧Mm.Mv (gbk c v7) (gbk c v8) w6.drew w8):=⟨by have e:=readK_all (lateW S) ts;rw [e]at a8;exact a8,m8⟩;clear a8 m8)
   refine hK.out _ _ s8 (fun hHeld=> ?_);clear hK K;refine wpAnyH_done (by kernel_rfl) ?_ _;have cO:=on_any B c v8 p ts (dueW (noN p) ts (lateW S)) h (k+1) w8 (by rw [HW.out];exact HX8.out.1) (HL.out.due hP') (by omega);go_wp2_with(go_at_call 44;(with_reducible refine cO.mono ?_);rintro e w9 ⟨rfl,v9,a9,m9⟩)
   go_end0;exact⟨rfl,v9,a9,((((((HX1.out.2.trans HX3.out.2).trans MF).trans (Mm.Mv.of_below hb5)).trans HX6.out.2).trans HX7.out.2).trans (Mm.Mv.of_below (Mm.bdrew w6))).trans (HX8.out.2.trans m9)⟩
end
end Glb
namespace Glb
open Go.RowKit Plain Pln Frm Lpp Crn Wld

section
variable (S : WS) (a n : Int)
theorem in_cs:(∃i:Nat,a=i∧i<S.n∧inN S a=true)∨(¬(0≤a∧a<(S.n:Int))∧inN S a=false):=by
 unfold inN;by_cases h:0≤a∧a<(S.n:Int)
 ·exact Or.inl ⟨a.toNat,by omega,by omega,by simp [h.1,h.2]⟩
 ·refine Or.inr ⟨h,?_⟩;by_cases g:0≤a<;>simp [g]
  omega
theorem make_cs:(∃i:Nat,a=i∧i<S.n∧(1≤n∧n≤100000)∧makeE S a n=0∧makeW S a n= { S with E:=Top.upd S.E i (S.E i+n) })∨(∃i:Nat,a=i∧i<S.n∧ ¬(1≤n∧n≤100000)∧makeE S a n=1∧makeW S a n=S)∨(¬(0≤a∧a<(S.n:Int))∧makeE S a n=4∧makeW S a n=S):=by
 unfold makeW makeE;rcases in_cs S a with⟨i,rfl,hi,e⟩|⟨hi,e⟩<;>rw [e]
 ·by_cases h:1≤n∧n≤100000
  ·exact Or.inl ⟨i,rfl,hi,h,by simp [h],by simp [h]⟩
  ·exact Or.inr (Or.inl ⟨i,rfl,hi,h,by simp [h],by simp [h]⟩)
 ·exact Or.inr (Or.inr ⟨hi,by simp,by simp⟩)
theorem take_cs:(∃i:Nat,a=i∧i<S.n∧(S.O i≤n∧n≤S.E i)∧takeE S a n=0∧takeW S a n= { S with O:=Top.upd S.O i n })∨(∃i:Nat,a=i∧i<S.n∧ ¬(S.O i≤n∧n≤S.E i)∧takeE S a n=1∧takeW S a n=S)∨(¬(0≤a∧a<(S.n:Int))∧takeE S a n=4∧takeW S a n=S):=by
 unfold takeW takeE;rcases in_cs S a with⟨i,rfl,hi,e⟩|⟨hi,e⟩<;>rw [e]
 ·by_cases h:S.O i≤n∧n≤S.E i
  ·exact Or.inl ⟨i,rfl,hi,h,by simp [h],by simp [h]⟩
  ·exact Or.inr (Or.inl ⟨i,rfl,hi,h,by simp [h],by simp [h]⟩)
 ·exact Or.inr (Or.inr ⟨hi,by simp,by simp⟩)
end
section
variable (B : Nat) (c : Gc) (v : Gv) (p : Pd) (ts : List Tr) (S : WS) (h k : Nat)
theorem makeG (a n:Int) (w:World) (hA:GAt w B c v p ts S k) (hI:WI ts S h k) (hh:h≤1000):
  Calls prog 33 #[.pointer (some ⟨c.T,0,none⟩),.int .i64 a,.int .i64 n] w fun e w'=>e=.returned (.int .i64 (makeE S a n))∧Gst B c v p ts (makeW S a n) k w w':=by
 have hb:=hA.pa 2 (by decide);rcases make_cs S a n with⟨i,rfl,hi,hn,e1,e2⟩|⟨i,rfl,hi,hn,e1,e2⟩|⟨hn,e1,e2⟩<;>rw [e1,e2]
 ·refine(Top.bMake_yes c.T c.P c.O S.n i S.E S.O n w hb hI.n.2 hi hn (by have:=hI.tb i hi;omega)).mono ?_;rintro e w' ⟨rfl,hq,ho⟩;exact⟨rfl,hA.board hq (Or.inl rfl) ho⟩
 ·refine(Top.bMake_arg c.T c.P c.O S.n S.E S.O i n w hb hI.n.2 (by omega) (by omega) hn).mono ?_;rintro e w' ⟨rfl,rfl⟩;exact⟨rfl,Gst.refl hA⟩
 ·refine(Top.bMake_none c.T c.P c.O S.n S.E S.O a n w hb hI.n.1 hI.n.2 hn).mono ?_;rintro e w' ⟨rfl,rfl⟩;exact⟨rfl,Gst.refl hA⟩
theorem takeG (a n:Int) (w:World) (hA:GAt w B c v p ts S k) (hI:WI ts S h k):
  Calls prog 34 #[.pointer (some ⟨c.T,0,none⟩),.int .i64 a,.int .i64 n] w fun e w'=>e=.returned (.int .i64 (takeE S a n))∧Gst B c v p ts (takeW S a n) k w w':=by
 have hb:=hA.pa 2 (by decide);rcases take_cs S a n with⟨i,rfl,hi,hn,e1,e2⟩|⟨i,rfl,hi,hn,e1,e2⟩|⟨hn,e1,e2⟩<;>rw [e1,e2]
 ·refine(Top.bTake_yes c.T c.P c.O S.n i S.E S.O n w hb hI.n.2 hi hn.1 hn.2).mono ?_;rintro e w' ⟨rfl,hq,ho⟩;exact⟨rfl,hA.board hq (Or.inr rfl) ho⟩
 ·refine(Top.bTake_no c.T c.P c.O S.n i S.E S.O n w hb hI.n.2 hi hn).mono ?_;rintro e w' ⟨rfl,q,rfl⟩;exact⟨rfl,hA.on (Top.below_drewN (Below.refl _ _) q)⟩
 ·refine(Top.bTake_none c.T c.P c.O S.n S.E S.O a n w hb hI.n.1 hI.n.2 hn).mono ?_;rintro e w' ⟨rfl,rfl⟩;exact⟨rfl,Gst.refl hA⟩
theorem putG (n:Int) (w:World) (hA:GAt w B c v p ts S k) (hI:WI ts S h k) (hh:h≤1000):
  Calls prog 35 #[.pointer (some ⟨c.Q,0,none⟩),.int .i64 n] w fun e w'=> ∃z,e=.returned (.tuple #[.int .i64 z,.int .i64 (putE S.qL n)])∧Gst B c v p ts (putW S n) k w w':=by
 have hl:=hI.q.len;have hb:=hI.qb;by_cases h1:n<1
 ·have e1:putE S.qL n=1:=by unfold putE;rw [if_pos h1]
  have e2:putW S n=S:=by unfold putW;rw [if_neg (by rw [e1];decide)]
  rw [e1,e2];refine(Que.lput_no c.Q n w h1).mono ?_;rintro e w' ⟨rfl,rfl⟩;exact⟨0,rfl,Gst.refl hA⟩
 ·by_cases h2:200<S.qL.length+n
  ·have e1:putE S.qL n=6:=by unfold putE;rw [if_neg h1,if_pos h2]
   have e2:putW S n=S:=by unfold putW;rw [if_neg (by rw [e1];decide)]
   rw [e1,e2];refine(Que.lput_full B c.Q S.ql v.q S.qL n w (hA.pa 3 (by decide)) hl (by omega) h2).mono ?_;rintro e w' ⟨rfl,rfl⟩;exact⟨0,rfl,Gst.refl hA⟩
  ·have e1:putE S.qL n=0:=by unfold putE;rw [if_neg h1,if_neg h2]
   obtain⟨i,rfl⟩: ∃i:Nat,n=(i:Int):=⟨n.toNat,by omega⟩
   have e2:putW S i= { S with ql:=S.ql+i,qL:=S.qL++Que.news S.ql i } :=by unfold putW;rw [if_pos e1];rfl
   rw [e1,e2];refine(Que.lput_yes B c.Q S.ql v.q S.qL i w (hA.pa 3 (by decide)) (by omega) (by omega) (by omega)).mono ?_;rintro e w' ⟨rfl,v',hq,ht⟩;exact⟨_,rfl,hA.line hq ht⟩
theorem leaseG (n:Int) (w:World) (hA:GAt w B c v p ts S k) (hI:WI ts S h k):
  Calls prog 36 #[.pointer (some ⟨c.Q,0,none⟩),.int .i64 S.now,.int .i64 n] w fun e w'=> ∃z,e=.returned (.tuple #[.int .i64 z,.int .i64 (leaseE S.qL S.now n)])∧Gst B c v p ts { S with qL:=leaseL S.qL S.now n } k w w':=by
 unfold leaseE leaseL;by_cases h1:1≤n∧n≤100000
 ·rw [if_neg (by simpa using h1),if_neg (by simpa using h1)];refine(Que.llease_yes B c.Q S.ql v.q S.qL _ S.now n w (hA.pa 3 (by decide)) hI.q.len h1.1 h1.2 hI.nw.1 hI.nw.2 rfl).mono ?_;rintro e w' ⟨L2,v',⟨g,rfl,rfl⟩|⟨i,m,g,g2,rfl,rfl⟩,h4,h5⟩<;>rw [g]
  ·exact⟨_,rfl,hA.line h4 h5⟩
  ·simp only [g2];exact⟨_,rfl,hA.line h4 h5⟩
 ·rw [if_pos h1,if_pos h1];refine(Que.llease_ticks c.Q S.now n w h1).mono ?_;rintro e w' ⟨rfl,rfl⟩;exact⟨_,rfl,Gst.refl hA⟩
theorem ackG (n:Int) (w:World) (hA:GAt w B c v p ts S k) (hI:WI ts S h k):
  Calls prog 37 #[.pointer (some ⟨c.Q,0,none⟩),.int .i64 S.now,.int .i64 n] w fun e w'=>e=.returned (.int .i64 (ackE S.qL S.now n))∧Gst B c v p ts { S with qL:=ackL S.qL S.now n } k w w':=by
 have hE:ackE S.qL S.now n=Que.ackE n (Que.backL S.now S.qL)∧ackL S.qL S.now n=Que.ackL n (Que.backL S.now S.qL):=by
  unfold ackE ackL;cases hf:(Que.backL S.now S.qL).findIdx? (Que.isId n)with
  |none=>obtain⟨e1,e2⟩:=Que.ack_none hf;exact⟨e1.symm,e2.symm⟩
  |some i=>
   obtain⟨m,hm,_⟩:=Que.find_get hf;obtain⟨e1,e2⟩:=Que.ack_some (hI.q.back S.now).nd hf hm;simp only [hm];cases ht:m.tk with
   |true=>obtain⟨e3,e4⟩:=e1 ht;exact⟨e3.symm,e4.symm⟩
   |false=>obtain⟨e3,e4⟩:=e2 ht;exact⟨e3.symm,e4.symm⟩
 rw [hE.1,hE.2];refine(Que.lack_yes B c.Q S.ql v.q S.qL _ S.now n w (hA.pa 3 (by decide)) hI.q.len hI.nw.1 hI.nw.2 rfl).mono ?_;rintro e w' ⟨rfl,v',h4,h5⟩;exact⟨rfl,hA.line h4 h5⟩
theorem turnG (n fr:Int) (w:World) (hA:GAt w B c v p ts S k) (hL:S.F.L.length≤1000000000) (hf:fr=1∨fr=2):
  Calls prog 38 #[.pointer (some ⟨c.F,0,none⟩),.int .i64 n,.int .i64 fr] w fun e w'=>e=.returned (.int .i64 (Flt.turnE S.F.L n fr))∧Gst B c v p ts { S with F:=Flt.turnS S.F n fr } k w w':=by
 refine(Flt.cturn_any S.F n fr hL hf B c.F v.f w (hA.pa 4 (by decide))).mono ?_;rintro e w' ⟨rfl,u,hq,ht⟩;exact⟨rfl,hA.crew hq ht⟩
theorem crashG (n:Int) (w:World) (hA:GAt w B c v p ts S k) (hI:Flt.Inv S.F) (hL:S.F.L.length≤1000000000):
  Calls prog 39 #[.pointer (some ⟨c.F,0,none⟩),.int .i64 n] w fun e w'=>e=.returned (.tuple #[.int .i64 (Flt.crashN S.F.L n),.int .i64 (Flt.crashE S.F.L n)])∧Gst B c v p ts { S with F:=Flt.crashS S.F n } k w w':=by
 refine(Flt.ccrash_any S.F n hI hL B c.F v.f w (hA.pa 4 (by decide))).mono ?_;rintro e w' ⟨rfl,u,hq,ht⟩;exact⟨rfl,hA.crew hq ht⟩
theorem fdoneG (n:Int) (w:World) (hA:GAt w B c v p ts S k) (hI:Flt.Inv S.F) (hL:S.F.L.length≤1000000000):
  Calls prog 43 #[.pointer (some ⟨c.F,0,none⟩),.int .i64 n] w fun e w'=>e=.returned (.int .i64 (Flt.doneE S.F.L n))∧Gst B c v p ts { S with F:=Flt.doneS S.F n } k w w':=by
 refine(Flt.cdone_any S.F n hI hL B c.F v.f w (hA.pa 4 (by decide))).mono ?_;rintro e w' ⟨rfl,u,hq,ht⟩;exact⟨rfl,hA.crew hq ht⟩
theorem askG (a n:Int) (w:World) (hA:GAt w B c v p ts S k) (hI:Buf.Inv S.R):
  Calls prog 41 #[.pointer (some ⟨c.H,0,none⟩),.int .i64 S.now,.int .i64 a,.int .i64 n] w fun e w'=>e=.returned (.tuple #[.int .i64 (Buf.askN S.R S.now a n),.int .i64 (Buf.askE S.R S.now a n)])∧Gst B c v p ts { S with R:=Buf.askL S.R S.now a n } k w w':=by
 refine(Hal.hask_any S.R S.now a n hI B c.H v.b w (hA.pa 5 (by decide))).mono ?_;rintro e w' ⟨rfl,u,hq,ht⟩;exact⟨rfl,hA.hall hq ht⟩
theorem doneG (n:Int) (w:World) (hA:GAt w B c v p ts S k) (hI:Buf.Inv S.R):
  Calls prog 42 #[.pointer (some ⟨c.H,0,none⟩),.int .i64 n] w fun e w'=>e=.returned (.tuple #[.int .i64 (Buf.doneN S.R n),.int .i64 (Buf.doneE S.R n)])∧Gst B c v p ts { S with R:=Buf.doneL S.R n } k w w':=by
 refine(Hal.hdone_any S.R n hI B c.H v.b w (hA.pa 5 (by decide))).mono ?_;rintro e w' ⟨rfl,u,hq,ht⟩;exact⟨rfl,hA.hall hq ht⟩
theorem lostG (n:Int) (w:World) (hA:GAt w B c v p ts S k) (hI:Buf.Inv S.R):
  Calls prog 40 #[.pointer (some ⟨c.H,0,none⟩),.int .i64 n] w fun e w'=> ∃o,e=.returned o∧Gst B c v p ts { S with R:=Buf.turnL (Buf.isAt n) 5 S.R } k w w':=by
 refine(Hal.hlost_any B c.H v.b S.R n w (hA.pa 5 (by decide)) hI).mono ?_;rintro e w' ⟨o,rfl,_,hq,ht⟩;exact⟨o,rfl,hA.hall hq ht⟩
end
end Glb
namespace Glb
open Go.RowKit Plain Pln Frm Lpp Crn Wld Lop
variable {v1:Gv} {S1:WS} {w w1:World}
set_option linter.all false

abbrev HdC (c:Gc) (X:Nat) (a n:Int) (l:Nat) (now:Int) (w:World):Prop:=w.cell? ⟨X,1,none⟩=some (.int .i64 a)∧w.cell? ⟨X,2,none⟩=some (.int .i64 n)∧w.cell? ⟨c.G,0,none⟩=some (.pointer (some ⟨c.D,0,none⟩))∧w.cell? ⟨c.G,1,none⟩=some (.pointer (some ⟨c.T,0,none⟩))∧w.cell? ⟨c.G,2,none⟩=some (.pointer (some ⟨c.Q,0,none⟩))∧w.cell? ⟨c.G,3,none⟩=some (.pointer (some ⟨c.F,0,none⟩))∧w.cell? ⟨c.G,4,none⟩=some (.pointer (some ⟨c.H,0,none⟩))∧w.cell? ⟨c.G,5,none⟩=some (.slice (some ⟨c.K,0,none⟩) l l)∧w.cell? ⟨c.G,7,none⟩=some (.int .i64 now)
theorem hd_of {B:Nat} {c:Gc} {v:Gv} {p:Pd} {ts:List Tr} {k X:Nat} {a n now:Int} (a1:GAt w1 B c v1 p ts S1 k) (m1:Mm.Mv (gbk c v) (gbk c v1) w w1) (h:HdC c X a n ts.length now w∧ ¬gbk c v X) (hn:S1.now=now):HdC c X a n ts.length now w1∧ ¬gbk c v1 X:=
 ⟨⟨m1.cell h.1.1 h.2,m1.cell h.1.2.1 h.2,a1.ptr.p,a1.ptr.t,a1.ptr.q,a1.ptr.f,a1.ptr.h,a1.cells.2.2 5 _ rfl,hn▸a1.cells.2.2 7 _ rfl⟩,m1.off (Xj w _ h.1.1) h.2⟩
theorem Gst.fin {B:Nat} {c:Gc} {v:Gv} {p:Pd} {ts:List Tr} {k:Nat} {w0:World} (m0:Mm.Mv (gbk c v) (gbk c v) w w0) (h:GAt w1 B c v1 p ts S1 k∧Mm.Mv (gbk c v) (gbk c v1) w0 w1):Gst B c v p ts S1 (k+1000) w w1:=
 ⟨v1,h.1.more (by omega),m0.trans h.2⟩
theorem GAt.pause {B:Nat} {c:Gc} {v:Gv} {p:Pd} {ts:List Tr} {S:WS} {k:Nat} (h:GAt w B c v p ts S k) (n:Int):Gst B c v p ts { S with lp:=⟨S.lp.fs,S.lp.lk,S.lp.la,S.lp.nd,n⟩ } k w (w.setCell ⟨c.D,23,none⟩ (.int .i64 n)):=by
 obtain⟨C,hW,hs,hC⟩:=h.pa 1 (by decide);exact h.watch (vw:=v.w) (vm:=v.m) (hW.turned (s':=⟨S.lp.fs,S.lp.lk,S.lp.la,S.lp.nd,n⟩) (Rec.Turn.setQ 23 (.int .i64 n)) (Wat.set_pa hW.r n)) hs hC (Wat.WStep.of_turn (x:=wx c v) (Rec.Turn.setQ 23 (.int .i64 n)))
theorem HidE {A B:Prop} (a:A) (b:B):Hid (A∧B):=⟨a,b⟩
def GkR (B:Nat) (c:Gc) (v:Gv) (p:Pd) (ts:List Tr) (S:WS) (k X m:Nat) (w:World) (i:Value) (wr:World):Prop:= ∃(j:Nat) (v1:Gv),j≤m∧i=.int .i64 j∧GAt wr B c v1 p ts (tickW (noN p) ts j S) (k+j)∧Mm.Mv (gbk c v) (gbk c v1) w wr∧wr.cell? ⟨X,2,none⟩=some (.int .i64 (m:Int))∧ ¬gbk c v1 X
theorem gtick_any {B:Nat} {c:Gc} {v:Gv} {p:Pd} {ts:List Tr} {S:WS} {h k:Nat} (hA:GAt w B c v p ts S k) (hI:WI ts S h k) (hh:h≤1000) (hk:k≤100000) (hP:PlOk p ts) (hU: ∀t∈ts,TrU t) (hn:S.now+1≤1099511627776):
  Calls prog 32 #[.pointer (some ⟨c.G,0,none⟩)] w fun e w'=>e=.returned (.tuple #[])∧Gst B c v p ts (tick1 (noN p) ts S) (k+1) w w':=by
 cases hd:dueP (noN p) S.lp (S.now+1)with
 |true=>exact gtick_yes B c v p ts S h k w hA hI hh hk hP hU hn hd
 |false=>exact gtick_no B c v p ts S h k w hA hI hh hk hP hU hn hd
section
variable (B : Nat) (c : Gc) (v : Gv) (p : Pd) (ts : List Tr) (S : WS) (h k : Nat)
theorem gdo_any (x a n:Int) (w:World) (hA:GAt w B c v p ts S k) (hI:WI ts S h k) (hh:h≤1000) (hk:k≤90000) (hP:PlOk p ts) (hU: ∀t∈ts,TrU t):
  Calls prog 9 #[.pointer (some ⟨c.G,0,none⟩),.agg #[.int .i64 x,.int .i64 a,.int .i64 n]] w fun e w'=>e=.returned (.int .i64 (doE S x a n))∧Gst B c v p ts (doW (noN p) ts S x a n) (k+1000) w w':=by
 obtain⟨W,hW⟩: ∃W,W=w.alloc (.cells #[.int .i64 x,.int .i64 a,.int .i64 n] 37):=⟨_,rfl⟩
 have hbW:Below w.heap.size w W:=by rw [hW];exact(Below.refl _ _).alloc (Xa _) _
 have x0:W.cell? ⟨w.heap.size,0,none⟩=some (.int .i64 x):=by rw [hW];simp
 have x1:W.cell? ⟨w.heap.size,1,none⟩=some (.int .i64 a):=by rw [hW];simp
 have x2:W.cell? ⟨w.heap.size,2,none⟩=some (.int .i64 n):=by rw [hW];simp
 have HW:=zh hW;have HA:Hid (GAt W B c v p ts S k):=hA.below hbW;have HB:Hid (Mm.Mv (gbk c v) (gbk c v) w W):=Mm.Mv.of_below hbW;have HS:Hid (HdC c w.heap.size a n ts.length S.now W∧ ¬gbk c v w.heap.size):=hd_of HA.out (Mm.Mv.refl _ _) ⟨⟨x1,x2,HA.out.ptr.p,HA.out.ptr.t,HA.out.ptr.q,HA.out.ptr.f,HA.out.ptr.h,HA.out.cells.2.2 5 _ rfl,HA.out.cells.2.2 7 _ rfl⟩,fun e=>absurd (hA.low e).2 (XL _)⟩ rfl;have HI:=zh hI;have hL:S.F.L.length≤1000000000:=by have:=hI.len;omega
 have HD:Hid (GAt W.drew B c v p ts S k∧Mm.Mv (gbk c v) (gbk c v) w W.drew∧HdC c w.heap.size a n ts.length S.now W.drew):=⟨HA.out.below (Mm.bdrew W),HB.out.trans (Mm.Mv.of_below (Mm.bdrew W)),HS.out.1⟩
 clear hA hI hbW hW;go_enter func9,ntmps9;go_upto_region 1 with fail
 rw [←HW.out];clear HW;generalize w.heap.size=X at*;go_upto_region 2 with fail
 by_cases hx:1≤x∧x≤13
 ·rcases(by omega:x=1∨x=2∨x=3∨x=4∨x=5∨x=6∨x=7∨x=8∨x=9∨x=10∨x=11∨x=12∨x=13)with rfl|rfl|rfl|rfl|rfl|rfl|rfl|rfl|rfl|rfl|rfl|rfl|rfl;all_goals clear hx
  ·
   have b1:=HI.out.nw;by_cases h1:1≤n∧n≤1000
   ·obtain⟨m,rfl⟩: ∃m:Nat,n=(m:Int):=⟨n.toNat,by omega⟩
    have cI:=fun w=>Que.rin_yes (m:Int) 1 1000 w h1.1 h1.2;have hwr:IntKind.i64.wrap (S.now+(m:Int))=S.now+(m:Int):=by rw [IntKind.wrap_i64]<;>omega
    by_cases h2:1099511627776<S.now+(m:Int)
    ·have e0:tickE S (m:Int)=1:=by unfold tickE;rw [if_neg (by omega)]
     have HE:=HidE (show doE S 1 a (m:Int)=1 from e0) (show doW (noN p) ts S 1 a (m:Int)=S by show(if tickE S (m:Int)=0 then _ else _)=_;rw [e0];rfl);go_upto_region 5 with fail
     refine Tk.sb 14 (S:=fun w'=>HdC c X a m ts.length S.now w') HD.out.2.2 (fun hHeld=> ?_)
     iterate 2
      refine Tk.gn ?_
     refine Tk.rn 2 fun K hK=> ?_;go_simp;go_wp2_with(go_at_call 6;(with_reducible refine zq (cI W.drew) ?_))
     refine hK.out _ _ hHeld (fun hHeld=> ?_);clear hK K
     iterate 11
      refine Tk.gn ?_
     refine wpAnyH_done (by kernel_rfl) ?_ _;go_wp2;go_ret;rw [HE.out.1,HE.out.2];exact⟨rfl,Gst.fin HD.out.2.1 ⟨HD.out.1,Mm.Mv.refl _ _⟩⟩
    ·have e0:tickE S (m:Int)=0:=by unfold tickE;rw [if_pos (by omega)]
     have HE:=HidE (show doE S 1 a m=0 from e0) (show doW (noN p) ts S 1 a m=tickW (noN p) ts m S by show(if tickE S m=0 then _ else _)=_;rw [e0];rfl);clear e0;go_upto_region 5 with fail
     refine Tk.sb 14 (S:=fun w'=>HdC c X a m ts.length S.now w') HD.out.2.2 (fun hHeld=> ?_)
     iterate 2
      refine Tk.gn ?_
     refine Tk.rn 2 fun K hK=> ?_;go_simp;go_wp2_with(go_at_call 6;(with_reducible refine zq (cI W.drew) ?_))
     refine hK.out _ _ hHeld (fun hHeld=> ?_);clear hK K
     iterate 11
      refine Tk.gn ?_
     refine wpAnyH_done (by kernel_rfl) ?_ _;go_wp2_with fail
     go_loopw [6] (fun i wr=>GkR B c v p ts S k X m w i wr) (fun i _=>m-(intOf i).toNat)
     case atStart=>exact⟨0,v,by omega,rfl,HD.out.1,HD.out.2.1,HD.out.2.2.2.1,HS.out.2⟩
     case round=>
      obtain⟨j,v1,hj,rfl,hA1,hm1,y2,hX1⟩:=hrel;by_cases hlt:j<m
      ·have hlt':(j:Int)<(m:Int):=(by omega);have cT:=gtick_any hA1 (HI.out.ticks (ok_noN hP) j (by omega)) hh (by omega) hP hU (by rw [tickW_now];omega);have HM:Hid (Mm.Mv (gbk c v) (gbk c v1) w wr∧ ¬gbk c v1 X):=⟨hm1,hX1⟩
       clear hA1 hm1 hX1;go_wp2_with(go_at_call 32;(with_reducible refine cT.mono ?_);rintro e w4 ⟨rfl,v4,a4,m4⟩;clear cT;have z2:=m4.cell y2 HM.out.2;have HX4:Hid (GAt w4 B c v4 p ts (tickW (noN p) ts (j+1) S) (k+(j+1))∧Mm.Mv (gbk c v) (gbk c v4) w w4∧ ¬gbk c v4 X):=⟨by rw [tickW_succ];exact a4,HM.out.1.trans m4,m4.off (Xj wr _ y2) HM.out.2⟩;clear a4 m4)
       go_roundw
       case rel=>exact⟨j+1,v4,hlt,rfl,HX4.out.1,HX4.out.2.1,z2,HX4.out.2.2⟩
       case measure=>simp [intOf];omega
      ·obtain rfl:j=m:=by omega
       go_wp2;go_ret;rw [HE.out.1,HE.out.2];exact⟨rfl,v1,hA1.more (by omega),hm1⟩
   ·have cI:=fun w=>Que.rin_no n 1 1000 w h1;have e0:tickE S n=1:=by unfold tickE;rw [if_neg (fun e=>h1 e.1)]
    have HE:=HidE (show doE S 1 a n=1 from e0) (show doW (noN p) ts S 1 a n=S by show(if tickE S n=0 then _ else _)=_;rw [e0];rfl);go_upto_region 5 with fail
    refine Tk.sb 14 (S:=fun w'=>HdC c X a n ts.length S.now w') HD.out.2.2 (fun hHeld=> ?_)
    iterate 2
     refine Tk.gn ?_
    refine Tk.rn 2 fun K hK=> ?_;go_simp;go_wp2_with(go_at_call 6;(with_reducible refine zq (cI W.drew) ?_))
    refine hK.out _ _ hHeld (fun hHeld=> ?_);clear hK K
    iterate 11
     refine Tk.gn ?_
    refine wpAnyH_done (by kernel_rfl) ?_ _;go_wp2;go_ret;rw [HE.out.1,HE.out.2];exact⟨rfl,Gst.fin HD.out.2.1 ⟨HD.out.1,Mm.Mv.refl _ _⟩⟩
  ·
   go_upto_region 13 with fail
   refine Tk.sb 10 (S:=fun w'=>HdC c X a n ts.length S.now w') HD.out.2.2 (fun hHeld=> ?_)
   iterate 8
    refine Tk.gn ?_
   refine Tk.rn 8 fun K hK=> ?_;go_simp;go_wp2_with(go_at_call 33;have cX:=makeG B c v p ts S h k a n W.drew HD.out.1 HI.out hh;(with_reducible refine cX.mono ?_);rintro e w1 ⟨rfl,v1,a1,m1⟩;clear cX;have HX1:Hid (GAt w1 B c v1 p ts (makeW S a n) k∧Mm.Mv (gbk c v) (gbk c v1) W.drew w1):=⟨a1,m1⟩;have hs1:=hd_of a1 m1 ⟨HD.out.2.2,HS.out.2⟩ (make_now S a n);clear a1 m1)
   refine hK.out _ _ hs1.1 (fun hHeld=> ?_);clear hK K;refine Tk.gn ?_;refine wpAnyH_done (by kernel_rfl) ?_ _;go_wp2;go_ret;exact⟨rfl,Gst.fin HD.out.2.1 HX1.out⟩
  ·
   go_upto_region 15 with fail
   refine Tk.sb 10 (S:=fun w'=>HdC c X a n ts.length S.now w') HD.out.2.2 (fun hHeld=> ?_)
   iterate 8
    refine Tk.gn ?_
   refine Tk.rn 8 fun K hK=> ?_;go_simp;go_wp2_with(go_at_call 34;have cX:=takeG B c v p ts S h k a n W.drew HD.out.1 HI.out;(with_reducible refine cX.mono ?_);rintro e w1 ⟨rfl,v1,a1,m1⟩;clear cX;have HX1:Hid (GAt w1 B c v1 p ts (takeW S a n) k∧Mm.Mv (gbk c v) (gbk c v1) W.drew w1):=⟨a1,m1⟩;have hs1:=hd_of a1 m1 ⟨HD.out.2.2,HS.out.2⟩ (take_now S a n);clear a1 m1)
   refine hK.out _ _ hs1.1 (fun hHeld=> ?_);clear hK K;refine Tk.gn ?_;refine wpAnyH_done (by kernel_rfl) ?_ _;go_wp2;go_ret;exact⟨rfl,Gst.fin HD.out.2.1 HX1.out⟩
  ·
   go_upto_region 17 with fail
   refine Tk.sb 11 (S:=fun w'=>HdC c X a n ts.length S.now w') HD.out.2.2 (fun hHeld=> ?_)
   iterate 6
    refine Tk.gn ?_
   refine Tk.rn 6 fun K hK=> ?_;go_simp;go_wp2_with(go_at_call 35;have cX:=putG B c v p ts S h k n W.drew HD.out.1 HI.out hh;(with_reducible refine cX.mono ?_);rintro e w1 ⟨z,rfl,v1,a1,m1⟩;clear cX;have HX1:Hid (GAt w1 B c v1 p ts (putW S n) k∧Mm.Mv (gbk c v) (gbk c v1) W.drew w1):=⟨a1,m1⟩;have hs1:=hd_of a1 m1 ⟨HD.out.2.2,HS.out.2⟩ (put_now S n);clear a1 m1)
   refine hK.out _ _ hs1.1 (fun hHeld=> ?_);clear hK K
   iterate 4
    refine Tk.gn ?_
   refine wpAnyH_done (by kernel_rfl) ?_ _;go_wp2;go_ret;exact⟨rfl,Gst.fin HD.out.2.1 HX1.out⟩
  ·
   go_upto_region 20 with fail
   refine Tk.sb 15 (S:=fun w'=>HdC c X a n ts.length S.now w') HD.out.2.2 (fun hHeld=> ?_)
   iterate 10
    refine Tk.gn ?_
   refine Tk.rn 10 fun K hK=> ?_;go_simp;go_wp2_with(go_at_call 36;have cX:=leaseG B c v p ts S h k n W.drew HD.out.1 HI.out;(with_reducible refine cX.mono ?_);rintro e w1 ⟨z,rfl,v1,a1,m1⟩;clear cX;have HX1:Hid (GAt w1 B c v1 p ts { S with qL:=leaseL S.qL S.now n } k∧Mm.Mv (gbk c v) (gbk c v1) W.drew w1):=⟨a1,m1⟩;have hs1:=hd_of a1 m1 ⟨HD.out.2.2,HS.out.2⟩ rfl;clear a1 m1)
   refine hK.out _ _ hs1.1 (fun hHeld=> ?_);clear hK K
   iterate 4
    refine Tk.gn ?_
   refine wpAnyH_done (by kernel_rfl) ?_ _;go_wp2;go_ret;exact⟨rfl,Gst.fin HD.out.2.1 HX1.out⟩
  ·
   go_upto_region 23 with fail
   refine Tk.sb 12 (S:=fun w'=>HdC c X a n ts.length S.now w') HD.out.2.2 (fun hHeld=> ?_)
   iterate 10
    refine Tk.gn ?_
   refine Tk.rn 10 fun K hK=> ?_;go_simp;go_wp2_with(go_at_call 37;have cX:=ackG B c v p ts S h k n W.drew HD.out.1 HI.out;(with_reducible refine cX.mono ?_);rintro e w1 ⟨rfl,v1,a1,m1⟩;clear cX;have HX1:Hid (GAt w1 B c v1 p ts { S with qL:=ackL S.qL S.now n } k∧Mm.Mv (gbk c v) (gbk c v1) W.drew w1):=⟨a1,m1⟩;have hs1:=hd_of a1 m1 ⟨HD.out.2.2,HS.out.2⟩ rfl;clear a1 m1)
   refine hK.out _ _ hs1.1 (fun hHeld=> ?_);clear hK K;refine Tk.gn ?_;refine wpAnyH_done (by kernel_rfl) ?_ _;go_wp2;go_ret;exact⟨rfl,Gst.fin HD.out.2.1 HX1.out⟩
  ·
   have hfl:=HI.out.fl;have hl5:=hP.len;have hw7:IntKind.i64.wrap ((ts.length:Int)-1)=(ts.length:Int)-1:=by rw [IntKind.wrap_i64]<;>omega
   by_cases hp:0≤a∧a<(S.fl.length:Int)
   ·obtain⟨i,rfl⟩: ∃i:Nat,a=(i:Int):=⟨a.toNat,by omega⟩
    have cI:=fun w=>Que.rin_yes (i:Int) 0 ((ts.length:Int)-1) w (by omega) (by omega);have hi:i<S.fl.length:=(by omega);have hi1: ¬(i:Int)<0:=(by omega);have hi2:(i:Int)<(ts.length:Int):=(by omega);go_upto_region 30 with fail
    refine Tk.sb 10 (S:=fun w'=>HdC c X i n ts.length S.now w') HD.out.2.2 (fun hHeld=> ?_)
    iterate 8
     refine Tk.gn ?_
    refine Tk.rn 8 fun K hK=> ?_;go_simp;go_wp2_with(go_at_call 6;(with_reducible refine zq (cI W.drew) ?_))
    refine hK.out _ _ hHeld (fun hHeld=> ?_);clear hK K;refine Tk.gn ?_;refine wpAnyH_done (by kernel_rfl) ?_ _;by_cases hq:n=0∨n=1
    ·have cJ:=fun w=>Que.rin_yes n 0 1 w (by omega) (by omega);have e1:doE S 7 i n=0:=by show failE S i n=0;unfold failE;rw [if_pos hp,if_pos hq]
     have e2:doW (noN p) ts S 7 i n= { S with fl:=S.fl.set i (n==1) } :=by show failW S i n=_;unfold failW;rw [if_pos (show failE S i n=0 from e1)];rfl
     have HA1:Hid (GAt W.drew.drew B c v p ts S k):=HD.out.1.below (Mm.bdrew _);have HM1:Hid (Mm.Mv (gbk c v) (gbk c v) w W.drew.drew):=HD.out.2.1.trans (Mm.Mv.of_below (Mm.bdrew _));have HS1:Hid (HdC c X i n ts.length S.now W.drew.drew∧True):=⟨HD.out.2.2,trivial⟩
     have q23:W.drew.drew.cell? ⟨c.K,i,none⟩=some (.bool S.fl[i]):=(HA1.out.pa 6 (by decide)).2.2 i _ (by rw [XQ,Xz hi];rfl);have f23:W.drew.drew.frozen? ⟨c.K,i,none⟩=false:=(HA1.out.pa 6 (by decide)).2.1 i;have HE:=HidE e1 e2;clear e1 e2;clear hfl hp hq;go_upto_region 34 with(go_at_call 6;(with_reducible refine zq (cJ _) ?_))
     refine Tk.sb 11 (S:=fun w'=>HdC c X i n ts.length S.now w') HS1.out.1 (fun hHeld=> ?_)
     iterate 10
      refine Tk.gn ?_
     refine Tk.r1 10 fun K hK=> ?_;go_simp;obtain⟨v1,a1,m1⟩:=HA1.out.fails i (n==1);have hs1:=hd_of a1 m1 ⟨HS1.out.1,HS.out.2⟩ rfl;refine hK.out _ _ hs1.1 (fun hHeld=> ?_);clear hK K;refine wpAnyH_done (by kernel_rfl) ?_ _;go_wp2;go_ret;rw [HE.out.1,HE.out.2];exact⟨rfl,Gst.fin HM1.out ⟨a1,m1⟩⟩
    ·have cJ:=fun w=>Que.rin_no n 0 1 w (by omega);have e1:doE S 7 i n=1:=by show failE S i n=1;unfold failE;rw [if_pos hp,if_neg hq]
     have e2:doW (noN p) ts S 7 i n=S:=by show failW S i n=_;unfold failW;rw [if_neg (by rw [show failE S i n=1 from e1];decide)]
     have HE:=HidE e1 e2;clear e1 e2;go_wp2_with(go_at_call 6;(with_reducible refine zq (cJ _) ?_))
     go_ret;rw [HE.out.1,HE.out.2];exact⟨rfl,Gst.fin HD.out.2.1 ⟨HD.out.1,Mm.Mv.refl _ _⟩⟩
   ·have cI:=fun w=>Que.rin_no a 0 ((ts.length:Int)-1) w (by omega);have e1:doE S 7 a n=4:=by show failE S a n=4;unfold failE;rw [if_neg hp]
    have e2:doW (noN p) ts S 7 a n=S:=by show failW S a n=_;unfold failW;rw [if_neg (by rw [show failE S a n=4 from e1];decide)]
    have HE:=HidE e1 e2;clear e1 e2;go_upto_region 30 with fail
    refine Tk.sb 10 (S:=fun w'=>HdC c X a n ts.length S.now w') HD.out.2.2 (fun hHeld=> ?_)
    iterate 8
     refine Tk.gn ?_
    refine Tk.rn 8 fun K hK=> ?_;go_simp;go_wp2_with(go_at_call 6;(with_reducible refine zq (cI W.drew) ?_))
    refine hK.out _ _ hHeld (fun hHeld=> ?_);clear hK K;refine Tk.gn ?_;refine wpAnyH_done (by kernel_rfl) ?_ _;go_wp2;go_ret;rw [HE.out.1,HE.out.2];exact⟨rfl,Gst.fin HD.out.2.1 ⟨HD.out.1,Mm.Mv.refl _ _⟩⟩
  ·
   go_upto_region 37 with fail
   refine Tk.sb 8 (S:=fun w'=>HdC c X a n ts.length S.now w') HD.out.2.2 (fun hHeld=> ?_)
   iterate 6
    refine Tk.gn ?_
   refine Tk.rn 6 fun K hK=> ?_;go_simp;go_wp2_with(go_at_call 38;have cX:=turnG B c v p ts S k n 1 W.drew HD.out.1 hL (Or.inl rfl);(with_reducible refine cX.mono ?_);rintro e w1 ⟨rfl,v1,a1,m1⟩;clear cX;have HX1:Hid (GAt w1 B c v1 p ts { S with F:=Flt.turnS S.F n 1 } k∧Mm.Mv (gbk c v) (gbk c v1) W.drew w1):=⟨a1,m1⟩;have hs1:=hd_of a1 m1 ⟨HD.out.2.2,HS.out.2⟩ rfl;clear a1 m1)
   refine hK.out _ _ hs1.1 (fun hHeld=> ?_);clear hK K;refine Tk.gn ?_;refine wpAnyH_done (by kernel_rfl) ?_ _;go_wp2;go_ret;exact⟨rfl,Gst.fin HD.out.2.1 HX1.out⟩
  ·
   go_upto_region 39 with fail
   refine Tk.sb 8 (S:=fun w'=>HdC c X a n ts.length S.now w') HD.out.2.2 (fun hHeld=> ?_)
   iterate 6
    refine Tk.gn ?_
   refine Tk.rn 6 fun K hK=> ?_;go_simp;go_wp2_with(go_at_call 38;have cX:=turnG B c v p ts S k n 2 W.drew HD.out.1 hL (Or.inr rfl);(with_reducible refine cX.mono ?_);rintro e w1 ⟨rfl,v1,a1,m1⟩;clear cX;have HX1:Hid (GAt w1 B c v1 p ts { S with F:=Flt.turnS S.F n 2 } k∧Mm.Mv (gbk c v) (gbk c v1) W.drew w1):=⟨a1,m1⟩;have hs1:=hd_of a1 m1 ⟨HD.out.2.2,HS.out.2⟩ rfl;clear a1 m1)
   refine hK.out _ _ hs1.1 (fun hHeld=> ?_);clear hK K;refine Tk.gn ?_;refine wpAnyH_done (by kernel_rfl) ?_ _;by_cases he:Flt.turnE S.F.L n 2=0
   ·have hq:(Flt.turnE S.F.L n 2==0)=true:=by simp [he]
    have HW9:Hid (doW (noN p) ts S 9 a n=onW { S with F:=Flt.turnS S.F n 2 }):=by show readyW S n=_;unfold readyW;rw [if_pos he]
    clear he;go_wp2_with(go_at_call 44;have cO:=on_any B c v1 p ts { S with F:=Flt.turnS S.F n 2 } h k w1 HX1.out.1 (HI.out.ready n 2 (Or.inr rfl)) (by omega);(with_reducible refine cO.mono ?_);rintro e w9 ⟨rfl,v9,a9,m9⟩;clear cO;have HX9:Hid (GAt w9 B c v9 p ts (onW { S with F:=Flt.turnS S.F n 2 }) k∧Mm.Mv (gbk c v) (gbk c v9) W.drew w9):=⟨a9,HX1.out.2.trans m9⟩;clear a9 m9)
    go_ret;rw [HW9.out];exact⟨rfl,Gst.fin HD.out.2.1 HX9.out⟩
   ·have hq:(Flt.turnE S.F.L n 2==0)=false:=by simp [he]
    have HW9:Hid (doW (noN p) ts S 9 a n= { S with F:=Flt.turnS S.F n 2 }):=by show readyW S n=_;unfold readyW;rw [if_neg he,turn_same he]
    clear he;go_wp2;go_ret;rw [HW9.out];exact⟨rfl,Gst.fin HD.out.2.1 HX1.out⟩
  ·
   go_upto_region 41 with fail
   refine Tk.sb 11 (S:=fun w'=>HdC c X a n ts.length S.now w') HD.out.2.2 (fun hHeld=> ?_)
   iterate 6
    refine Tk.gn ?_
   refine Tk.rn 6 fun K hK=> ?_;go_simp;go_wp2_with(go_at_call 39;have cX:=crashG B c v p ts S k n W.drew HD.out.1 HI.out.f hL;(with_reducible refine cX.mono ?_);rintro e w1 ⟨rfl,v1,a1,m1⟩;clear cX;have HX1:Hid (GAt w1 B c v1 p ts { S with F:=Flt.crashS S.F n } k∧Mm.Mv (gbk c v) (gbk c v1) W.drew w1):=⟨a1,m1⟩;have hs1:=hd_of a1 m1 ⟨HD.out.2.2,HS.out.2⟩ rfl;clear a1 m1)
   refine hK.out _ _ hs1.1 (fun hHeld=> ?_);clear hK K
   iterate 4
    refine Tk.gn ?_
   refine wpAnyH_done (by kernel_rfl) ?_ _;by_cases he:Flt.crashE S.F.L n=0
   ·have hq:(Flt.crashE S.F.L n==0)=true:=by simp [he]
    have HW9:Hid (doW (noN p) ts S 10 a n=onW { S with F:=Flt.crashS S.F n,R:=Buf.turnL (Buf.isAt n) 5 S.R }):=by show crashW S n=_;unfold crashW;rw [if_pos he]
    clear he;go_upto_region 43 with fail
    refine Tk.sb 7 (S:=fun w'=>HdC c X a n ts.length S.now w') hs1.1 (fun hHeld=> ?_)
    iterate 6
     refine Tk.gn ?_
    refine Tk.rn 6 fun K hK=> ?_;go_simp;go_wp2_with(go_at_call 40;have cX:=lostG B c v1 p ts { S with F:=Flt.crashS S.F n } k n w1.drew (HX1.out.1.below (Mm.bdrew w1)) HI.out.r;(with_reducible refine cX.mono ?_);rintro e w2 ⟨o,rfl,v2,a2,m2⟩;clear cX;have HX2:Hid (GAt w2 B c v2 p ts { S with F:=Flt.crashS S.F n,R:=Buf.turnL (Buf.isAt n) 5 S.R } k∧Mm.Mv (gbk c v) (gbk c v2) W.drew w2):=⟨a2,(HX1.out.2.trans (Mm.Mv.of_below (Mm.bdrew w1))).trans m2⟩;have hs2:=hd_of a2 m2 ⟨hs1.1,hs1.2⟩ rfl;clear a2 m2)
    refine hK.out _ _ hs2.1 (fun hHeld=> ?_);clear hK K;refine wpAnyH_done (by kernel_rfl) ?_ _;go_wp2_with(go_at_call 44;have cO:=on_any B c v2 p ts { S with F:=Flt.crashS S.F n,R:=Buf.turnL (Buf.isAt n) 5 S.R } h k w2 HX2.out.1 (HI.out.crash n) (by omega);(with_reducible refine cO.mono ?_);rintro e w9 ⟨rfl,v9,a9,m9⟩;clear cO;have HX9:Hid (GAt w9 B c v9 p ts (onW { S with F:=Flt.crashS S.F n,R:=Buf.turnL (Buf.isAt n) 5 S.R }) k∧Mm.Mv (gbk c v) (gbk c v9) W.drew w9):=⟨a9,HX2.out.2.trans m9⟩;clear a9 m9)
    go_ret;rw [HW9.out];exact⟨rfl,Gst.fin HD.out.2.1 HX9.out⟩
   ·have hq:(Flt.crashE S.F.L n==0)=false:=by simp [he]
    have HW9:Hid (doW (noN p) ts S 10 a n= { S with F:=Flt.crashS S.F n }):=by show crashW S n=_;unfold crashW;rw [if_neg he,crash_same he]
    clear he;go_wp2;go_ret;rw [HW9.out];exact⟨rfl,Gst.fin HD.out.2.1 HX1.out⟩
  ·
   go_upto_region 45 with fail
   refine Tk.sb 17 (S:=fun w'=>HdC c X a n ts.length S.now w') HD.out.2.2 (fun hHeld=> ?_)
   iterate 12
    refine Tk.gn ?_
   refine Tk.rn 12 fun K hK=> ?_;go_simp;go_wp2_with(go_at_call 41;have cX:=askG B c v p ts S k a n W.drew HD.out.1 HI.out.r;(with_reducible refine cX.mono ?_);rintro e w1 ⟨rfl,v1,a1,m1⟩;clear cX;have HX1:Hid (GAt w1 B c v1 p ts { S with R:=Buf.askL S.R S.now a n } k∧Mm.Mv (gbk c v) (gbk c v1) W.drew w1):=⟨a1,m1⟩;have hs1:=hd_of a1 m1 ⟨HD.out.2.2,HS.out.2⟩ rfl;clear a1 m1)
   refine hK.out _ _ hs1.1 (fun hHeld=> ?_);clear hK K
   iterate 4
    refine Tk.gn ?_
   refine wpAnyH_done (by kernel_rfl) ?_ _;by_cases he:Buf.askE S.R S.now a n=0
   ·have hq:(Buf.askE S.R S.now a n==0)=true:=by simp [he]
    have HW9:Hid (doW (noN p) ts S 11 a n=onW { S with R:=Buf.askL S.R S.now a n }):=by show askW S a n=_;unfold askW;rw [if_pos he]
    clear he;go_wp2_with(go_at_call 44;have cO:=on_any B c v1 p ts { S with R:=Buf.askL S.R S.now a n } h k w1 HX1.out.1 (HI.out.ask a n) (by omega);(with_reducible refine cO.mono ?_);rintro e w9 ⟨rfl,v9,a9,m9⟩;clear cO;have HX9:Hid (GAt w9 B c v9 p ts (onW { S with R:=Buf.askL S.R S.now a n }) k∧Mm.Mv (gbk c v) (gbk c v9) W.drew w9):=⟨a9,HX1.out.2.trans m9⟩;clear a9 m9)
    go_ret;rw [HW9.out];exact⟨rfl,Gst.fin HD.out.2.1 HX9.out⟩
   ·have hq:(Buf.askE S.R S.now a n==0)=false:=by simp [he]
    have HW9:Hid (doW (noN p) ts S 11 a n= { S with R:=Buf.askL S.R S.now a n }):=by show askW S a n=_;unfold askW;rw [if_neg he,ask_same he]
    clear he;go_wp2;go_ret;rw [HW9.out];exact⟨rfl,Gst.fin HD.out.2.1 HX1.out⟩
  ·
   go_upto_region 48 with fail
   refine Tk.sb 12 (S:=fun w'=>HdC c X a n ts.length S.now w') HD.out.2.2 (fun hHeld=> ?_)
   iterate 6
    refine Tk.gn ?_
   refine Tk.rn 6 fun K hK=> ?_;go_simp;go_wp2_with(go_at_call 42;have cX:=doneG B c v p ts S k n W.drew HD.out.1 HI.out.r;(with_reducible refine cX.mono ?_);rintro e w1 ⟨rfl,v1,a1,m1⟩;clear cX;have HX1:Hid (GAt w1 B c v1 p ts { S with R:=Buf.doneL S.R n } k∧Mm.Mv (gbk c v) (gbk c v1) W.drew w1):=⟨a1,m1⟩;have hs1:=hd_of a1 m1 ⟨HD.out.2.2,HS.out.2⟩ rfl;clear a1 m1)
   refine hK.out _ _ hs1.1 (fun hHeld=> ?_);clear hK K
   iterate 5
    refine Tk.gn ?_
   refine wpAnyH_done (by kernel_rfl) ?_ _;by_cases he:Buf.doneE S.R n=0
   ·have hq:(Buf.doneE S.R n==0)=true:=by simp [he]
    have HW9:Hid (doW (noN p) ts S 12 a n=onW { S with R:=Buf.doneL S.R n,F:=Flt.doneS S.F (Buf.doneN S.R n) }):=by show doneW S n=_;unfold doneW;rw [if_pos he]
    clear he;go_upto_region 51 with(go_at_call 43;have cX:=fdoneG B c v1 p ts { S with R:=Buf.doneL S.R n } k (Buf.doneN S.R n) w1 HX1.out.1 HI.out.f hL;(with_reducible refine cX.mono ?_);rintro e w2 ⟨rfl,v2,a2,m2⟩;clear cX;have HX2:Hid (GAt w2 B c v2 p ts { S with R:=Buf.doneL S.R n,F:=Flt.doneS S.F (Buf.doneN S.R n) } k∧Mm.Mv (gbk c v) (gbk c v2) W.drew w2):=⟨a2,HX1.out.2.trans m2⟩;clear a2 m2)
    go_wp2_with(go_at_call 44;have cO:=on_any B c v2 p ts { S with R:=Buf.doneL S.R n,F:=Flt.doneS S.F (Buf.doneN S.R n) } h k w2 HX2.out.1 (HI.out.done n) (by omega);(with_reducible refine cO.mono ?_);rintro e w9 ⟨rfl,v9,a9,m9⟩;clear cO;have HX9:Hid (GAt w9 B c v9 p ts (onW { S with R:=Buf.doneL S.R n,F:=Flt.doneS S.F (Buf.doneN S.R n) }) k∧Mm.Mv (gbk c v) (gbk c v9) W.drew w9):=⟨a9,HX2.out.2.trans m9⟩;clear a9 m9)
    go_ret;rw [HW9.out];exact⟨rfl,Gst.fin HD.out.2.1 HX9.out⟩
   ·have hq:(Buf.doneE S.R n==0)=false:=by simp [he]
    have HW9:Hid (doW (noN p) ts S 12 a n= { S with R:=Buf.doneL S.R n }):=by show doneW S n=_;unfold doneW;rw [if_neg he,done_same he]
    clear he;go_wp2;go_ret;rw [HW9.out];exact⟨rfl,Gst.fin HD.out.2.1 HX1.out⟩
  ·
   by_cases hp: -1≤n∧n≤50
   ·have cI:=fun w=>Que.rin_yes n (-1) 50 w hp.1 hp.2;have e1:doE S 13 a n=0:=by show pauseE n=0;unfold pauseE;rw [if_pos hp]
    have e2:doW (noN p) ts S 13 a n= { S with lp:=⟨S.lp.fs,S.lp.lk,S.lp.la,S.lp.nd,n⟩ } :=by show pauseW S n=_;unfold pauseW;rw [if_pos (show pauseE n=0 from e1)]
    have HA1:Hid (GAt W.drew B c v p ts S k):=HD.out.1;have HM1:Hid (Mm.Mv (gbk c v) (gbk c v) w W.drew):=HD.out.2.1;have HS1:Hid (HdC c X a n ts.length S.now W.drew∧True):=⟨HD.out.2.2,trivial⟩
    obtain⟨C,hW,_,_⟩:=HA1.out.pa 1 (by decide);have q23:=hW.r.cQ 23 _ rfl;have f23:=hW.r.fz 23;simp only [Xv]at q23;have HE:=HidE e1 e2;clear e1 e2;clear hW;go_upto_region 27 with(go_at_call 6;(with_reducible refine zq (cI _) ?_))
    dsimp only [wx]at q23 f23;refine Tk.sb 9 (S:=fun w'=>HdC c X a n ts.length S.now w') HS1.out.1 (fun hHeld=> ?_)
    iterate 8
     refine Tk.gn ?_
    refine Tk.r1 8 fun K hK=> ?_;go_simp;obtain⟨v1,a1,m1⟩:=HA1.out.pause n;have hs1:=hd_of a1 m1 ⟨HS1.out.1,HS.out.2⟩ rfl;refine hK.out _ _ hs1.1 (fun hHeld=> ?_);clear hK K;refine wpAnyH_done (by kernel_rfl) ?_ _;go_wp2;go_ret;rw [HE.out.1,HE.out.2];exact⟨rfl,Gst.fin HM1.out ⟨a1,m1⟩⟩
   ·have cI:=fun w=>Que.rin_no n (-1) 50 w hp;have e1:doE S 13 a n=1:=by show pauseE n=1;unfold pauseE;rw [if_neg hp]
    have e2:doW (noN p) ts S 13 a n=S:=by show pauseW S n=_;unfold pauseW;rw [if_neg (by rw [show pauseE n=1 from e1];decide)]
    have HE:=HidE e1 e2;clear e1 e2;go_wp2_with(go_at_call 6;(with_reducible refine zq (cI _) ?_))
    go_ret;rw [HE.out.1,HE.out.2];exact⟨rfl,Gst.fin HB.out ⟨HA.out,Mm.Mv.refl _ _⟩⟩
 ·have e1:doE S x a n=1:=by unfold doE;repeat rw [if_neg (by omega)]
  have e2:doW (noN p) ts S x a n=S:=by unfold doW;repeat rw [if_neg (by omega)]
  have HE:=HidE e1 e2;have k1:(x==1)=false:=by simp;omega
  have k2:(x==2)=false:=by simp;omega
  have k3:(x==3)=false:=by simp;omega
  have k4:(x==4)=false:=by simp;omega
  have k5:(x==5)=false:=by simp;omega
  have k6:(x==6)=false:=by simp;omega
  have k7:(x==7)=false:=by simp;omega
  have k8:(x==8)=false:=by simp;omega
  have k9:(x==9)=false:=by simp;omega
  have k10:(x==10)=false:=by simp;omega
  have k11:(x==11)=false:=by simp;omega
  have k12:(x==12)=false:=by simp;omega
  have k13:(x==13)=false:=by simp;omega
  clear e1 e2 hx;go_wp2;go_ret;rw [HE.out.1,HE.out.2];exact⟨rfl,Gst.fin HB.out ⟨HA.out,Mm.Mv.refl _ _⟩⟩
end
end Glb
set_option linter.all false
namespace Tk
open Go.RowKit
variable {l:Array Bool}
section
variable {P : Program} {md : Region.Mode} {ops : Array Oper} {Q : Exit → Act → World → Prop} {S : World → Prop}
theorem letter {f:Nat} {a:Act} {w:World} (h: ∀A,A=a→wpAnyH P md ops Q S f l A w):wpAnyH P md ops Q S f l a w:=h a rfl
theorem inv {f:Nat} {I:Nat→Array Bool→Act→World→Prop} (hz: ∀l a w,I 0 l a w→S w→wpAnyH P md ops Q S f l a w)
  (hs: ∀m l a w,I (m+1) l a w→S w→Region.ready md ops l≠ []∧ ∀i∈Region.ready md ops l,∃o,ops[i]? =some o∧ ∀K':Act→World→Prop,Shut (∀a w,S w→(S w→I m (l.setIfInBounds i true) a w)→K' a w)→if Region.wanted o (yielded ops a.tmps)=true then Oper.wp P o a w K' Q else K' (a.put o.dst undef) w):
  ∀m l a w,S w→I m l a w→wpAnyH P md ops Q S (f+m) l a w
 |0,l,a,w,hS,h=>hz l a w h hS
 | m + 1, l, a, w, hS, h => ⟨fun e => absurd e (hs m l a w h hS).1, fun i hi => by
  obtain⟨o,ho,hk⟩:=(hs m l a w h hS).2 i hi
  exact wpOp_step ho (fun K' hK=>hk K' (fun a w hS2 hW=>hK a w ⟨hS2,inv hz hs m _ a w hS2 (hW hS2)⟩))⟩
theorem nrd (h:Region.ready md ops l=[]) (i:Nat) {o:Oper} (ho:ops[i]? =some o) (ha: ∀e∈o.after,Region.binds md e=true→l.getD e.on false=true):l.getD i true=true:=by
 cases e:l.getD i true with
 |true=>rfl
 |false=>exact absurd (mem_ready.2 ⟨e,o,ho,ha⟩) (by rw [h];simp)
end
end Tk
namespace Glb
open Go.RowKit Plain Pln Frm Lpp Crn Wld Lop
variable {N i B:Nat} {x:Obj} {mk:Nat→Value} {L:List Value} {A:Array Value} {e:TypeId}

abbrev sl (n N:Nat):Value:=.slice (some ⟨N,0,none⟩) n n
abbrev pt (N:Nat):Value:=.pointer (some ⟨N,0,none⟩)
def cz (b:Bool):Nat:=cond b 0 1
def Ob (W w:World) (o:Nat→Nat) (i:Nat) (y:Value) (mk:Nat→Value) (x:Obj):Prop:= ∃N,y=mk N∧W.heap.size≤N∧o N=i∧w.heap[N]? =some x
theorem Ob.lt {w:World} (h:w.heap[N]? =some x):N<w.heap.size:=(XM.1 h).1
theorem Ob.step {W w w':World} {o o':Nat→Nat} {y:Value} (h:Ob W w o i y mk x) (hb:Below w.heap.size w w') (ho: ∀q,q<w.heap.size→o' q=o q):Ob W w' o' i y mk x:=by
 obtain⟨N,a,b,c,d⟩:=h;have hl:=(XM.1 d).1;exact⟨N,a,b,(ho N hl).trans c,(hb.block N hl).trans d⟩
def oN (w:World) (o:Nat→Nat) (i:Nat):Nat→Nat:=fun q=>if q<w.heap.size then o q else i
theorem Ob.new {W w:World} {o:Nat→Nat} (hz:W.heap.size≤w.heap.size):Ob W (w.alloc x) (oN w o i) i (mk w.heap.size) mk x:=
 ⟨_,rfl,hz,by simp [oN],by show(w.heap.push x)[w.heap.size]? =some x;simp⟩
theorem oN_lt {w:World} {o:Nat→Nat} : ∀q,q<w.heap.size→oN w o i q=o q:=fun q h=>by simp [oN,h]
theorem oN_ge {w:World} {o:Nat→Nat} {q:Nat} (h:w.heap.size≤q):oN w o i q=i:=by simp [oN];omega
theorem wat_low {w:World} {A:Nat} {y:Wat.Pl} {p:Pd} {ta:Option Addr} {tc:Nat} {ts:List Tr} {s:Lp} {c:Stb.Cm} (h:Wat.WAt w B y p ta tc ts s c) (hAB:A≤B) (ht:0<ts.length→ ∀b off,ta=some ⟨b,off,none⟩→b<A):Wat.WAt w A y p ta tc ts s c:=by
 have q:=h.r;exact⟨⟨q.lt,Xc hAB q.bQ,q.cQ,q.cS,q.fz,rows_low q.own hAB,q.ne⟩,Wat.cat_base h.c hAB,h.t,ht,h.aD,h.aF⟩
structure NwI (W w:World) (p:Pd) (ta:Option Addr) (tc:Nat) (ts:List Tr) (n:Nat) (mo:Int) (o:Nat→Nat) (b1 b3 b5 b6 b7 b9 b14 b16 b20:Bool) (y10 y12 y14 y15 y16 y18 y23 y25 y29:Value):Prop where
 bl:Below W.heap.size W w
 c:b1=true→ ∃D Z vF,y10=pt D∧Wat.WAt w W.heap.size ⟨D,Z,vF,.slice none 0 0,.slice none 0 0⟩ p ta tc ts (Wat.newL ts.length) ⟨Stb.clP (nU p),Stb.clP (nD p),0,[],[]⟩∧ ∀q,Wat.blk ⟨D,Z,vF,.slice none 0 0,.slice none 0 0⟩ q→o q=1
 u:b6=true→b3=true∧b5=true∧y15=.agg #[y12,y14]
 t6:b7=true→b6=true
 m1:b3=true→Ob W w o 3 y12 (sl n) (.cells (madeCells #[.int .i64 0] n) 3)
 m2:b5=true→Ob W w o 5 y14 (sl n) (.cells (madeCells #[.int .i64 0] n) 3)
 t:b7=true→Ob W w o 7 y16 (pt) (.cells #[y12,y14] 90)
 q:b9=true→Ob W w o 9 y18 (pt) (.cells #[.slice none 0 0,.int .i64 0] 93)
 f:b14=true→Ob W w o 14 y23 (pt) (.cells #[.slice none 0 0,.int .i64 0,.int .i64 mo] 96)
 h:b16=true→Ob W w o 16 y25 (pt) (.cells #[.slice none 0 0] 99)
 k:b20=true→Ob W w o 20 y29 (sl ts.length) (.cells (madeCells #[.bool false] ts.length) 4)
section
variable {W w w' : World} {p : Pd} {ta : Option Addr} {tc : Nat} {ts : List Tr} {n : Nat} {mo : Int} {o o' : Nat → Nat} {b1 b3 b5 b6 b7 b9 b14 b16 b20 : Bool} {y10 y12 y14 y15 y16 y18 y23 y25 y29 : Value}
theorem NwI.step (h:NwI W w p ta tc ts n mo o b1 b3 b5 b6 b7 b9 b14 b16 b20 y10 y12 y14 y15 y16 y18 y23 y25 y29) (hb:Below w.heap.size w w') (ho: ∀q,q<w.heap.size→o' q=o q):NwI W w' p ta tc ts n mo o' b1 b3 b5 b6 b7 b9 b14 b16 b20 y10 y12 y14 y15 y16 y18 y23 y25 y29:=
 ⟨h.bl.trans (hb.mono h.bl.size), fun e => by
  obtain⟨D,Z,vF,a,b,c⟩:=h.c e
  exact⟨D,Z,vF,a,b.below hb,fun q hq=>(ho q (b.blt hq).2).trans (c q hq)⟩,h.u,h.t6,fun e=>(h.m1 e).step hb ho,fun e=>(h.m2 e).step hb ho,fun e=>(h.t e).step hb ho,fun e=>(h.q e).step hb ho,fun e=>(h.f e).step hb ho,fun e=>(h.h e).step hb ho,fun e=>(h.k e).step hb ho⟩
end
def NwS (W:World) (p:Pd) (ta:Option Addr) (tc:Nat) (ts:List Tr) (n:Nat) (mo:Int) (A:Act) (m:Nat) (l:Array Bool) (a:Act) (w:World):Prop:=
 ∃(b1 b3 b5 b6 b7 b9 b14 b16 b20:Bool) (y10 y12 y14 y15 y16 y18 y23 y25 y29:Value) (o:Nat→Nat),l=#[true,b1,true,b3,true,b5,b6,b7,true,b9,true,true,true,true,b14,true,b16,true,true,true,b20,true,false,false,false]∧a=(((((((((A.put (some 10) y10).put (some 12) y12).put (some 14) y14).put (some 15) y15).put (some 16) y16).put (some 18) y18).put (some 23) y23).put (some 25) y25).put (some 29) y29)∧m=cz b1+cz b3+cz b5+cz b6+cz b7+cz b9+cz b14+cz b16+cz b20∧NwI W w p ta tc ts n mo o b1 b3 b5 b6 b7 b9 b14 b16 b20 y10 y12 y14 y15 y16 y18 y23 y25 y29
theorem cz0 {b:Bool} (h:cz b=0):b=true:=by cases b<;>simp [cz]at h⊢
theorem cl_of {w:World} (h:w.heap[N]? =some (.cells A e)) (hA:A.toList=L):ClAt w N L:=
 ⟨(XM.1 h).1,fun j=>by simp [World.frozen?,h],fun j u hu=>by subst hA;simpa [World.cell?,h]using hu⟩
theorem made_b (m:Nat):(madeCells #[Value.bool false] m).toList=(List.replicate m false).map Value.bool:=by
 apply Yo;intro j;by_cases hj:j<m
 ·simp [madeCells,hj,Nat.mod_one]
 ·simp [madeCells,hj]
theorem hidI {A:Prop} (h:A):Hid A:=h
def cls (x:Nat):Nat:=if x=1 then 1 else if x=3∨x=5∨x=7 then 2 else if x=9 then 3 else if x=14 then 4 else if x=16 then 5 else if x=20 then 6 else 0
theorem row_of {w:World} {n:Nat} (h:w.heap[N]? =some (.cells (madeCells #[.int .i64 0] n) 3)):Top.Row1 w N n (fun _=>0):=by
 have c:=cl_of h rfl;exact⟨c.1,fun i hi=>c.2.2 i _ (Top.made1 n i hi),c.2.1⟩
theorem rat_of {α:Type} {K:Rec.Kd α} {w:World} {e':TypeId} {oS:Nat} (h:w.heap[N]? =some (.cells A e)) (hA:A.toList=L) (hS:L[oS]? =some (.slice none 0 0)) (hB:B≤N):Rec.RAt K w e' B N 0 oS L (.slice none 0 0) []:=by
 have c:=cl_of h hA;exact⟨c.1,hB,fun j u hu=>by rw [Xv];exact c.2.2 j u hu,hS,c.2.1,XO _ _ _ _,by simp [Value.ownBlock]⟩
theorem gnew_at {W w:World} {p:Pd} {ta:Option Addr} {tc:Nat} {ts:List Tr} {n D Z N3 N5 N7 N9 N14 N16 N20:Nat} {most sec:Int} {vF:Value} {o:Nat→Nat} (e:TypeId) (hB:B≤W.heap.size) (htb:0<ts.length→ ∀b off,ta=some ⟨b,off,none⟩→b<B) (hba:Bas B W) (hb:Below W.heap.size W w)
  (hW:Wat.WAt w W.heap.size ⟨D,Z,vF,.slice none 0 0,.slice none 0 0⟩ p ta tc ts (Wat.newL ts.length) ⟨Stb.clP (nU p),Stb.clP (nD p),0,[],[]⟩) (hD: ∀q,Wat.blk ⟨D,Z,vF,.slice none 0 0,.slice none 0 0⟩ q→o q=1) (l3:W.heap.size≤N3) (o3:o N3=3) (h3:w.heap[N3]? =some (.cells (madeCells #[.int .i64 0] n) 3)) (l5:W.heap.size≤N5) (o5:o N5=5) (h5:w.heap[N5]? =some (.cells (madeCells #[.int .i64 0] n) 3)) (l7:W.heap.size≤N7) (o7:o N7=7) (h7:w.heap[N7]? =some (.cells #[(sl n N3),(sl n N5)] 90)) (l9:W.heap.size≤N9) (o9:o N9=9) (h9:w.heap[N9]? =some (.cells #[.slice none 0 0,.int .i64 0] 93)) (l14:W.heap.size≤N14) (o14:o N14=14) (h14:w.heap[N14]? =some (.cells #[.slice none 0 0,.int .i64 0,.int .i64 (Flt.mostN most)] 96)) (l16:W.heap.size≤N16) (o16:o N16=16) (h16:w.heap[N16]? =some (.cells #[.slice none 0 0] 99)) (l20:W.heap.size≤N20) (o20:o N20=20) (h20:w.heap[N20]? =some (.cells (madeCells #[.bool false] ts.length) 4)):
  GAt (w.alloc (.cells #[pt D,pt N7,pt N9,pt N14,pt N16,sl ts.length N20,.int .i64 sec,.int .i64 0,.int .i64 0,.int .i64 0,.int .i64 0] e)) B ⟨w.heap.size,D,Z,vF,ta,tc,N7,N3,N5,N9,N14,N16,N20⟩ ⟨.slice none 0 0,.slice none 0 0,.slice none 0 0,.slice none 0 0,.slice none 0 0⟩ p ts (newW (noN p) ts n most sec) 0∧ ∀q,gbk ⟨w.heap.size,D,Z,vF,ta,tc,N7,N3,N5,N9,N14,N16,N20⟩ ⟨.slice none 0 0,.slice none 0 0,.slice none 0 0,.slice none 0 0,.slice none 0 0⟩ q→W.heap.size≤q:=by
 have hx: ∀x,Below w.heap.size w (w.alloc x):=fun x=>(Below.refl _ _).alloc (Xa _) _;generalize hy:(Obj.cells #[pt D,pt N7,pt N9,pt N14,pt N16,sl ts.length N20,.int .i64 sec,.int .i64 0,.int .i64 0,.int .i64 0,.int .i64 0] e)=y;have k: ∀ {N:Nat} {x:Obj},w.heap[N]? =some x→(w.alloc y).heap[N]? =some x:=fun h=>((hx y).block _ (Ob.lt h)).trans h;have hG:(w.alloc y).heap[w.heap.size]? =some (.cells #[pt D,pt N7,pt N9,pt N14,pt N16,sl ts.length N20,.int .i64 sec,.int .i64 0,.int .i64 0,.int .i64 0,.int .i64 0] e):=by rw [←hy];show(w.heap.push _)[w.heap.size]? =some _;simp
 have hz:=hb.size;have hz2:(w.alloc y).heap.size=w.heap.size+1:=by simp
 clear hy;have key: ∀i q,i<7→gp ⟨w.heap.size,D,Z,vF,ta,tc,N7,N3,N5,N9,N14,N16,N20⟩ ⟨.slice none 0 0,.slice none 0 0,.slice none 0 0,.slice none 0 0,.slice none 0 0⟩ i q→(if q<w.heap.size then cls (o q)else 0)=i∧W.heap.size≤q∧q<w.heap.size+1:=by
  intro i q hi hq;rcases i with _|_|_|_|_|_|_|i
  ·have:q=w.heap.size:=hq;subst this;exact⟨by simp,hz,by omega⟩
  ·have h1:=hW.blt hq;exact⟨by rw [if_pos h1.2,hD q hq];rfl,h1.1,by omega⟩
  ·rcases hq with e|e|e
   ·have:q=N7:=e;subst this;exact⟨by rw [if_pos (Ob.lt h7),o7];rfl,l7,by have:=Ob.lt h7;omega⟩
   ·have:q=N3:=e;subst this;exact⟨by rw [if_pos (Ob.lt h3),o3];rfl,l3,by have:=Ob.lt h3;omega⟩
   ·have:q=N5:=e;subst this;exact⟨by rw [if_pos (Ob.lt h5),o5];rfl,l5,by have:=Ob.lt h5;omega⟩
  ·rcases hq with e|e
   ·have:q=N9:=e;subst this;exact⟨by rw [if_pos (Ob.lt h9),o9];rfl,l9,by have:=Ob.lt h9;omega⟩
   ·cases e
  ·rcases hq with e|e
   ·have:q=N14:=e;subst this;exact⟨by rw [if_pos (Ob.lt h14),o14];rfl,l14,by have:=Ob.lt h14;omega⟩
   ·cases e
  ·rcases hq with e|e
   ·have:q=N16:=e;subst this;exact⟨by rw [if_pos (Ob.lt h16),o16];rfl,l16,by have:=Ob.lt h16;omega⟩
   ·cases e
  ·have:q=N20:=hq;subst this;exact⟨by rw [if_pos (Ob.lt h20),o20];rfl,l20,by have:=Ob.lt h20;omega⟩
  ·omega
 have a7:=cl_of (k h7) rfl;have a9:=cl_of (k h9) rfl
 refine ⟨⟨six (cl_of hG rfl) ⟨_, (wat_low hW hB htb).below (hx y), Stb.Sim.new _ _, ⟨Stb.clP_ok _, Stb.clP_ok _, ⟨Xu 0, by simp⟩, by simp, by simp, by simp, by simp⟩⟩ ⟨fun e => ?_, fun e => ?_, fun e => ?_, a7.1, a7.2.2 0 _ rfl, a7.2.2 1 _ rfl, row_of (k h3), row_of (k h5)⟩
  ⟨a9.1,Xc hB l9,a9.2.2 1 _ rfl,a9.2.2 0 _ rfl,a9.2.1,XO _ _ _ _,by simp [Value.ownBlock]⟩ (rat_of (k h14) rfl rfl (Xc hB l14)) (rat_of (k h16) rfl rfl (Xc hB l16)) (cl_of (k h20) (made_b _)),⟨fun i q hi hq=> ?_,fun i j q hi hj hne hq hn=> ?_⟩,((hba.below (hb.mono (Xa _))).below (hx y))⟩,fun q ⟨i,hi,hq⟩=>(key i q hi hq).2.1⟩
 ·have e:N7=N3:=e;subst e;rw [o3]at o7;cases o7
 ·have e:N7=N5:=e;subst e;rw [o5]at o7;cases o7
 ·have e:N3=N5:=e;subst e;rw [o5]at o3;cases o3
 ·have:=key i q hi hq;rw [hz2];exact⟨Xc hB this.2.1,this.2.2⟩
 ·exact hne ((key i q hi hq).1.symm.trans (key j q hj hn).1)
section
variable (p : Pd) (ta : Option Addr) (tc : Nat) (ts : List Tr) (n : Nat) (most sec : Int)
theorem madeB (w:World) (m:Nat) (h:m≤20):(Instr.makeSlice 100 (.int .i64 (m:Int)) (.int .i64 (m:Int))).run prog w=.ok (.slice (some ⟨w.heap.size,0,none⟩) m m) (w.alloc (.cells (madeCells #[.bool false] m) 4)):=by
 obtain⟨i,hi,hz0,hz1,hz2⟩:=info_parts (show(prog.info? 4).map (fun i=>(i.zero,i.size,i.bytes))=some (some (.bool false),1,1) by kernel_rfl);have hr:=run_make (P:=prog) w 100 4 i _ underlying100 hi hz0 .i64 .i64 (m:Int) (m:Int) (by omega) (Xu _) (by rw [hz2];omega) (by omega);rw [hz1,Nat.mul_one,XI]at hr;exact hr
def NewGA (B:Nat) (w:World) (e:Ending) (w':World):Prop:= ∃g v,e=.returned (.pointer (some ⟨g.G,0,none⟩))∧GAt w' B g v p ts (newW (noN p) ts n most sec) 0∧w.heap.size≤g.G∧(∀q,gbk g v q→w.heap.size≤q)∧Below w.heap.size w w'
theorem gnew_any (B:Nat) (w:World) (hl5:ts.length≤5) (hT:TrsAt w ta ts) (hn:1≤n∧n≤20) (hB:B≤w.heap.size) (htb:0<ts.length→ ∀b off,ta=some ⟨b,off,none⟩→b<B) (hba:Bas B w):
  Calls prog 7 #[planV p (.slice ta ts.length tc),.int .i64 (n:Int),.int .i64 most,.int .i64 sec] w (NewGA p ts n most sec B w):=by
 obtain⟨W,hW⟩: ∃W,W=w.alloc (.cells (planC p (.slice ta ts.length tc)) 26):=⟨_,rfl⟩
 have hPl:PlAt W w.heap.size p (.slice ta ts.length tc):=by rw [hW];exact plan_new _ _ _ _
 have hbW:Below w.heap.size w W:=by rw [hW];exact(Below.refl _ _).alloc (Xa _) _
 have hzW:w.heap.size<W.heap.size:=by rw [hW];simp
 have HW:=zh hW;have HT:Hid (TrsAt W ta ts):=hT.below hbW (Xa _);have hTb:0<ts.length→ ∀b off,ta=some ⟨b,off,none⟩→b<W.heap.size:=fun hp b off e=>by
  obtain⟨t,ht⟩: ∃t,ts[0]? =some t:=⟨ts[0],by simp⟩
  obtain⟨b',off',e',hlt,_⟩:=HT.out 0 t ht;rw [e]at e';cases e';exact hlt
 have HN:=hidI (fun(w1:World) (D Z:Nat) (vF:Value) (o:Nat→Nat) hb hWt hD N3 l3 o3 h3 N5 l5 o5 h5 N7 l7 o7 h7 N9 l9 o9 h9 N14 l14 o14 h14 N16 l16 o16 h16 N20 l20 o20 h20=>gnew_at (W:=W) (w:=w1) (D:=D) (Z:=Z) (vF:=vF) (o:=o) (n:=n) (most:=most) (sec:=sec) (p:=p) (tc:=tc) (N3:=N3) (N5:=N5) (N7:=N7) (N9:=N9) (N14:=N14) (N16:=N16) (N20:=N20) 102 (Xc hB hbW.size) htb (hba.below hbW) hb hWt hD l3 o3 h3 l5 o5 h5 l7 o7 h7 l9 o9 h9 l14 o14 h14 l16 o16 h16 l20 o20 h20);have HZ:Hid (Below w.heap.size w W∧w.heap.size<W.heap.size):=⟨hbW,hzW⟩
 have hmi:=fun w=>Top.run_made w n hn.2;have hmb:=fun w=>madeB w ts.length (by omega);have hmo:min (max most 1) 100=Flt.mostN most:=by
  unfold Flt.mostN;split
  ·omega
  ·split<;>omega
 clear hW hbW hT;go_enter func7,ntmps7;go_upto_region 1 with fail
 rw [←HW.out];clear HW;refine wp_region_held_drew (S:=fun w'=>PlAt w' w.heap.size p (.slice ta ts.length tc)) (by kernel_rfl) (plan_drew hPl) (fun hHeld=> ?_);refine Tk.gi 2 ?_;(try simp only [Tk.nx,Act.put,ar,ag]);refine Tk.gi 4 ?_;(try simp only [Tk.nx,Act.put,ar,ag]);refine Tk.gi 8 ?_;(try simp only [Tk.nx,Act.put,ar,ag]);refine Tk.gi 10 ?_;(try simp only [Tk.nx,Act.put,ar,ag]);refine Tk.gi 11 ?_;(try simp only [Tk.nx,Act.put,ar,ag]);refine Tk.gi 12 ?_;(try simp only [Tk.nx,Act.put,ar,ag]);refine Tk.gi 13 ?_;(try simp only [Tk.nx,Act.put,ar,ag]);refine Tk.gi 15 ?_;(try simp only [Tk.nx,Act.put,ar,ag]);refine Tk.gi 17 ?_;(try simp only [Tk.nx,Act.put,ar,ag]);refine Tk.gi 18 (v:=.slice ta ts.length tc) ?_ (hy:=Or.inl ⟨by rfl,fun w' hSw=>by have a17:=hSw.c17;go_simp⟩);(try simp only [Tk.nx,Act.put,ar,ag]);refine Tk.gi 19 ?_;(try simp only [Tk.nx,Act.put,ar,ag]);refine Tk.gi 21 ?_;(try simp only [Tk.nx,Act.put,ar,ag]);refine Tk.gi 0 (v:=planV p (.slice ta ts.length tc)) ?_ (hy:=yieldsIf_load_mid (by rfl) 26 (.tmp 4) rfl w.heap.size 0 (by with_unfolding_all rfl) [.string ⟨p.nm.toArray⟩,.int .i64 p.mn,.int .i64 p.mx,.int .i64 p.po,.int .i64 p.co,.int .i64 p.tl,.int .i64 p.bk,.int .i64 p.af,.int .i64 p.sh,.int .i64 p.uw,.int .i64 p.up,.int .i64 p.uc,.int .i64 p.ue,.int .i64 p.dw,.int .i64 p.dp,.int .i64 p.dc,.int .i64 p.de,.slice ta ts.length tc] _ (fun W h=>range_plan h) underlying26 rfl (by kernel_rfl));(try simp only [Tk.nx,Act.put,ar,ag]);refine Tk.letter fun A hA=> ?_;refine Tk.inv (f:=3) (I:=NwS W p ta tc ts n (Flt.mostN most) A) ?_ ?_ 9 _ _ _ hHeld ?_
 ·rintro l a w1 ⟨b1,b3,b5,b6,b7,b9,b14,b16,b20,y10,y12,y14,y15,y16,y18,y23,y25,y29,o,rfl,rfl,hm,hN⟩ hS;obtain rfl:b1=true:=cz0 (by omega);obtain rfl:b3=true:=cz0 (by omega);obtain rfl:b5=true:=cz0 (by omega);obtain rfl:b6=true:=cz0 (by omega);obtain rfl:b7=true:=cz0 (by omega);obtain rfl:b9=true:=cz0 (by omega);obtain rfl:b14=true:=cz0 (by omega);obtain rfl:b16=true:=cz0 (by omega);obtain rfl:b20=true:=cz0 (by omega);obtain⟨D,Z,vF,rfl,hWt,hD⟩:=hN.c rfl;obtain⟨_,_,rfl⟩:=hN.u rfl;obtain⟨N3,rfl,l3,o3,h3⟩:=hN.m1 rfl;obtain⟨N5,rfl,l5,o5,h5⟩:=hN.m2 rfl;obtain⟨N7,rfl,l7,o7,h7⟩:=hN.t rfl;obtain⟨N9,rfl,l9,o9,h9⟩:=hN.q rfl;obtain⟨N14,rfl,l14,o14,h14⟩:=hN.f rfl;obtain⟨N16,rfl,l16,o16,h16⟩:=hN.h rfl;obtain⟨N20,rfl,l20,o20,h20⟩:=hN.k rfl;have HB:Hid (Below W.heap.size W w1):=hN.bl;have HF:=hidI (HN.out w1 D Z vF o hN.bl hWt hD N3 l3 o3 h3 N5 l5 o5 h5 N7 l7 o7 h7 N9 l9 o9 h9 N14 l14 o14 h14 N16 l16 o16 h16 N20 l20 o20 h20);clear hN hm hWt hD l3 o3 h3 l5 o5 h5 l7 o7 h7 l9 o9 h9 l14 o14 h14 l16 o16 h16 l20 o20 h20;subst hA;simp only [Act.put,ar];refine Tk.gi 22 ?_;(try simp only [Tk.nx,Act.put,ar,ag]);refine Tk.r1 23 fun K hK=> ?_;go_simp;refine hK.out _ _ (hS.on ((Below.refl w1.heap.size w1).alloc (Xa _) _) (Xb HZ.out.2 HB.out.size)) (fun hHeld=> ?_);clear hK K;(try simp only [ar]);refine Tk.gi 24 ?_;(try simp only [Tk.nx,Act.put,ar,ag]);refine wpAnyH_done (by kernel_rfl) ?_ _;go_wp2;go_ret;exact⟨_,_,rfl,HF.out.1,Xw (Xb HZ.out.2 HB.out.size),fun q hq=>Xw (Xb HZ.out.2 (HF.out.2 q hq)),(zu HZ.out.1 HB.out).trans (((Below.refl w1.heap.size w1).alloc (Xa _) _).mono (Xc HZ.out.1.size HB.out.size))⟩
 ·rintro m l a w1 ⟨b1,b3,b5,b6,b7,b9,b14,b16,b20,y10,y12,y14,y15,y16,y18,y23,y25,y29,o,rfl,rfl,hm,hN⟩ hS;refine⟨fun e=> ?_,fun i hi=> ?_⟩
  ·exfalso;obtain rfl:b1=true:=Tk.nrd e 1 rfl (by simp);obtain rfl:b3=true:=Tk.nrd e 3 rfl (by simp);obtain rfl:b5=true:=Tk.nrd e 5 rfl (by simp);obtain rfl:b6=true:=Tk.nrd e 6 rfl (by simp);obtain rfl:b7=true:=Tk.nrd e 7 rfl (by simp);obtain rfl:b9=true:=Tk.nrd e 9 rfl (by simp);obtain rfl:b14=true:=Tk.nrd e 14 rfl (by simp);obtain rfl:b16=true:=Tk.nrd e 16 rfl (by simp);obtain rfl:b20=true:=Tk.nrd e 20 rfl (by simp);cases hm
  ·obtain⟨hu,oi,ho,hd⟩:=mem_ready.1 hi;have hlt:i<25:=(XM.1 ho).1;have hz1:=hN.bl.size;have hlw:=Xb hzW hz1;subst hA;rcases(by decide: ∀i,i<25→(i=0∨i=1∨i=2∨i=3∨i=4∨i=5∨i=6∨i=7∨i=8∨i=9∨i=10∨i=11∨i=12∨i=13∨i=14∨i=15∨i=16∨i=17∨i=18∨i=19∨i=20∨i=21∨i=22∨i=23∨i=24)) i hlt with rfl|rfl|rfl|rfl|rfl|rfl|rfl|rfl|rfl|rfl|rfl|rfl|rfl|rfl|rfl|rfl|rfl|rfl|rfl|rfl|rfl|rfl|rfl|rfl|rfl;all_goals(try simp at hu)
   ·subst hu;refine⟨_,rfl,fun K hK=> ?_⟩;go_simp;go_wp2_with(go_at_call 18;have cX:=Wat.wnew_any p ta tc ts w1 hl5 (HT.out.below hN.bl (Xa _));(with_reducible refine cX.mono ?_);clear cX;rintro e w2 ⟨D,Z,vF,rfl,hW2,hb2⟩)
    have h2:=hN.step (o':=oN w1 o 1) hb2 oN_lt;refine hK.out _ _ (hS.on hb2 hlw) (fun _=>⟨true,b3,b5,b6,b7,b9,b14,b16,b20,_,y12,y14,y15,y16,y18,y23,y25,y29,oN w1 o 1,by simp,(by simp only [Act.put,ar]),?_,⟨h2.bl,(fun _=>⟨D,Z,vF,rfl,wat_low hW2 hz1 hTb,fun q hq=>oN_ge (hW2.blt hq).1⟩),h2.u,h2.t6,h2.m1,h2.m2,h2.t,h2.q,h2.f,h2.h,h2.k⟩⟩);simp [cz]at hm⊢;omega
   ·subst hu;have h2:=hN.step (o':=oN w1 o 3) ((Below.refl w1.heap.size w1).alloc (Xa _) (.cells (madeCells #[.int .i64 0] n) 3)) oN_lt;refine⟨_,rfl,fun K hK=> ?_⟩;go_simp;refine hK.out _ _ (hS.on ((Below.refl w1.heap.size w1).alloc (Xa _) _) hlw) (fun _=>⟨b1,true,b5,b6,b7,b9,b14,b16,b20,y10,_,y14,y15,y16,y18,y23,y25,y29,oN w1 o 3,by simp,(by simp only [Act.put,ar]),?_,⟨h2.bl,h2.c,(fun e=>absurd (hN.u e).1 (by decide)),h2.t6,(fun _=>Ob.new hz1),h2.m2,(fun e=>absurd (hN.u (hN.t6 e)).1 (by decide)),h2.q,h2.f,h2.h,h2.k⟩⟩);simp [cz]at hm⊢;omega
   ·subst hu;have h2:=hN.step (o':=oN w1 o 5) ((Below.refl w1.heap.size w1).alloc (Xa _) (.cells (madeCells #[.int .i64 0] n) 3)) oN_lt;refine⟨_,rfl,fun K hK=> ?_⟩;go_simp;refine hK.out _ _ (hS.on ((Below.refl w1.heap.size w1).alloc (Xa _) _) hlw) (fun _=>⟨b1,b3,true,b6,b7,b9,b14,b16,b20,y10,y12,_,y15,y16,y18,y23,y25,y29,oN w1 o 5,by simp,(by simp only [Act.put,ar]),?_,⟨h2.bl,h2.c,(fun e=>absurd (hN.u e).2.1 (by decide)),h2.t6,h2.m1,(fun _=>Ob.new hz1),(fun e=>absurd (hN.u (hN.t6 e)).2.1 (by decide)),h2.q,h2.f,h2.h,h2.k⟩⟩);simp [cz]at hm⊢;omega
   ·obtain rfl:=XZ ho;obtain rfl:b3=true:=hd ⟨3,.data⟩ (by simp) rfl;obtain rfl:b5=true:=hd ⟨5,.data⟩ (by simp) rfl;obtain⟨N3,rfl,_⟩:=hN.m1 rfl;obtain⟨N5,rfl,_⟩:=hN.m2 rfl;subst hu;refine⟨_,rfl,fun K hK=> ?_⟩;go_simp;refine hK.out _ _ hS (fun _=>⟨b1,true,true,true,b7,b9,b14,b16,b20,y10,_,_,_,y16,y18,y23,y25,y29,o,by simp,(by simp only [Act.put,ar]),?_,⟨hN.bl,hN.c,(fun _=>⟨rfl,rfl,rfl⟩),(fun _=>rfl),hN.m1,hN.m2,hN.t,hN.q,hN.f,hN.h,hN.k⟩⟩);simp [cz]at hm⊢;omega
   ·obtain rfl:=XZ ho;obtain rfl:b6=true:=hd ⟨6,.data⟩ (by simp) rfl;obtain⟨rfl,rfl,rfl⟩:=hN.u rfl;subst hu;have h2:=hN.step (o':=oN w1 o 7) ((Below.refl w1.heap.size w1).alloc (Xa _) (.cells #[y12,y14] 90)) oN_lt;refine⟨_,rfl,fun K hK=> ?_⟩;go_simp;refine hK.out _ _ (hS.on ((Below.refl w1.heap.size w1).alloc (Xa _) _) hlw) (fun _=>⟨b1,true,true,true,true,b9,b14,b16,b20,y10,y12,y14,_,_,y18,y23,y25,y29,oN w1 o 7,by simp,(by simp only [Act.put,ar]),?_,⟨h2.bl,h2.c,h2.u,(fun _=>rfl),h2.m1,h2.m2,(fun _=>Ob.new hz1),h2.q,h2.f,h2.h,h2.k⟩⟩);simp [cz]at hm⊢;omega
   ·subst hu;have h2:=hN.step (o':=oN w1 o 9) ((Below.refl w1.heap.size w1).alloc (Xa _) (.cells #[.slice none 0 0,.int .i64 0] 93)) oN_lt;refine⟨_,rfl,fun K hK=> ?_⟩;go_simp;refine hK.out _ _ (hS.on ((Below.refl w1.heap.size w1).alloc (Xa _) _) hlw) (fun _=>⟨b1,b3,b5,b6,b7,true,b14,b16,b20,y10,y12,y14,y15,y16,_,y23,y25,y29,oN w1 o 9,by simp,(by simp only [Act.put,ar]),?_,⟨h2.bl,h2.c,h2.u,h2.t6,h2.m1,h2.m2,h2.t,(fun _=>Ob.new hz1),h2.f,h2.h,h2.k⟩⟩);simp [cz]at hm⊢;omega
   ·subst hu;have h2:=hN.step (o':=oN w1 o 14) ((Below.refl w1.heap.size w1).alloc (Xa _) (.cells #[.slice none 0 0,.int .i64 0,.int .i64 (Flt.mostN most)] 96)) oN_lt;refine⟨_,rfl,fun K hK=> ?_⟩;go_simp;refine hK.out _ _ (hS.on ((Below.refl w1.heap.size w1).alloc (Xa _) _) hlw) (fun _=>⟨b1,b3,b5,b6,b7,b9,true,b16,b20,y10,y12,y14,y15,y16,y18,_,y25,y29,oN w1 o 14,by simp,(by simp only [Act.put,ar]),?_,⟨h2.bl,h2.c,h2.u,h2.t6,h2.m1,h2.m2,h2.t,h2.q,(fun _=>Ob.new hz1),h2.h,h2.k⟩⟩);simp [cz]at hm⊢;omega
   ·subst hu;have h2:=hN.step (o':=oN w1 o 16) ((Below.refl w1.heap.size w1).alloc (Xa _) (.cells #[.slice none 0 0] 99)) oN_lt;refine⟨_,rfl,fun K hK=> ?_⟩;go_simp;refine hK.out _ _ (hS.on ((Below.refl w1.heap.size w1).alloc (Xa _) _) hlw) (fun _=>⟨b1,b3,b5,b6,b7,b9,b14,true,b20,y10,y12,y14,y15,y16,y18,y23,_,y29,oN w1 o 16,by simp,(by simp only [Act.put,ar]),?_,⟨h2.bl,h2.c,h2.u,h2.t6,h2.m1,h2.m2,h2.t,h2.q,h2.f,(fun _=>Ob.new hz1),h2.k⟩⟩);simp [cz]at hm⊢;omega
   ·subst hu;have h2:=hN.step (o':=oN w1 o 20) ((Below.refl w1.heap.size w1).alloc (Xa _) (.cells (madeCells #[.bool false] ts.length) 4)) oN_lt;refine⟨_,rfl,fun K hK=> ?_⟩;go_simp;refine hK.out _ _ (hS.on ((Below.refl w1.heap.size w1).alloc (Xa _) _) hlw) (fun _=>⟨b1,b3,b5,b6,b7,b9,b14,b16,true,y10,y12,y14,y15,y16,y18,y23,y25,_,oN w1 o 20,by simp,(by simp only [Act.put,ar]),?_,⟨h2.bl,h2.c,h2.u,h2.t6,h2.m1,h2.m2,h2.t,h2.q,h2.f,h2.h,(fun _=>Ob.new hz1)⟩⟩);simp [cz]at hm⊢;omega
   ·obtain rfl:=XZ ho;obtain rfl:b1=true:=hd ⟨1,.data⟩ (by simp) rfl;obtain rfl:b7=true:=hd ⟨7,.data⟩ (by simp) rfl;obtain rfl:b9=true:=hd ⟨9,.data⟩ (by simp) rfl;obtain rfl:b14=true:=hd ⟨14,.data⟩ (by simp) rfl;obtain rfl:b16=true:=hd ⟨16,.data⟩ (by simp) rfl;obtain rfl:b20=true:=hd ⟨20,.data⟩ (by simp) rfl;obtain rfl:=hN.t6 rfl;obtain⟨rfl,rfl,_⟩:=hN.u rfl;cases hm
   ·obtain rfl:=XZ ho;exact absurd (show(false:Bool)=true from hd ⟨22,.data⟩ (by simp) rfl) Bool.false_ne_true
   ·obtain rfl:=XZ ho;exact absurd (show(false:Bool)=true from hd ⟨23,.data⟩ (by simp) rfl) Bool.false_ne_true
 ·refine⟨false,false,false,false,false,false,false,false,false,undef,undef,undef,undef,undef,undef,undef,undef,undef,fun _=>0,rfl,(by simp only [hA,Act.put,ar]),rfl,⟨Mm.bdrew W,(fun e=>by cases e),(fun e=>by cases e),(fun e=>by cases e),(fun e=>by cases e),(fun e=>by cases e),(fun e=>by cases e),(fun e=>by cases e),(fun e=>by cases e),(fun e=>by cases e),(fun e=>by cases e)⟩⟩
end
