/- A part. -/
import Derived.Test.YthiapcajheepbaaGreatDoorPwLopAt
import Derived.Test.YthiapcajheepbaaGreatDoorPwTak
set_option linter.all false
open Go.Proofs.Tryz
set_option maxHeartbeats 32000000
set_option maxRecDepth 8000
namespace Go.Proofs.YthiapcajheepbaaGreatDoor
namespace Lop
open Go.RowKit Rw Rec Plain Pln Frm Lpp

def rgB (lo hi n:Int):Bool:=decide (lo≤n)&&decide (n≤hi)
theorem rg_iff (lo hi n:Int):rgB lo hi n=true↔(lo≤n∧n≤hi):=by simp [rgB]
theorem isec_any (n:Int) (w:World):CS 136 #[.int .i64 n] w (.bool (rgB (-100000000000) 100000000000 n)):=by
 by_cases h1:(-100000000000)≤n
 ·have d1:decide ((-100000000000)≤n)=true:=by simp [h1]
  have HM:Hid (rgB (-100000000000) 100000000000 n=decide (n≤100000000000)):=by unfold Hid rgB;rw [d1];rfl
  go_enter func136,ntmps136;go_wp2;go_ret;exact⟨by rw [HM.out];rfl,rfl⟩
 ·have d1:decide ((-100000000000)≤n)=false:=by simp;omega
  have HM:Hid (rgB (-100000000000) 100000000000 n=false):=by unfold Hid rgB;rw [d1];rfl
  go_enter func136,ntmps136;go_wp2;go_ret;exact⟨by rw [HM.out];rfl,rfl⟩
theorem lmay_any (n:Int) (w:World):CS 137 #[.int .i64 n] w (.bool (rgB 0 50 n)):=by
 by_cases h1:0≤n
 ·have d1:decide (0≤n)=true:=by simp [h1]
  have HM:Hid (rgB 0 50 n=decide (n≤50)):=by unfold Hid rgB;rw [d1];rfl
  go_enter func137,ntmps137;go_wp2;go_ret;exact⟨by rw [HM.out];rfl,rfl⟩
 ·have d1:decide (0≤n)=false:=by simp;omega
  have HM:Hid (rgB 0 50 n=false):=by unfold Hid rgB;rw [d1];rfl
  go_enter func137,ntmps137;go_wp2;go_ret;exact⟨by rw [HM.out];rfl,rfl⟩
section
variable (B : Nat) (x : Pl) (p : Pd) (ta : Option Addr) (tc : Nat) (ts : List Tr) (s : Lp) (st : Stb.St)
theorem itime_any (n:Int) (w:World) (hA:LAt w B x p ta tc ts s st):CS 135 #[.pointer (some ⟨x.D,4,none⟩),.int .i64 n] w (.bool (rgB s.la 1099511627776 n)):=by
 obtain⟨D,vF,V,R⟩:=x;have qla:=hA.la;dsimp only at qla;clear hA;by_cases h1:s.la≤n
 ·have d1:decide (s.la≤n)=true:=by simp [h1]
  have HM:Hid (rgB s.la 1099511627776 n=decide (n≤1099511627776)):=by unfold Hid rgB;rw [d1];rfl
  go_enter func135,ntmps135;go_wp2;go_ret;exact⟨by rw [HM.out];rfl,rfl⟩
 ·have d1:decide (s.la≤n)=false:=by simp;omega
  have HM:Hid (rgB s.la 1099511627776 n=false):=by unfold Hid rgB;rw [d1];rfl
  go_enter func135,ntmps135;go_wp2;go_ret;exact⟨by rw [HM.out];rfl,rfl⟩
def dueP (p:Pd) (s:Lp) (now:Int):Bool:= !s.lk||decide (s.la+p.po≤now)
theorem due_any (now:Int) (w:World) (hA:LAt w B x p ta tc ts s st) (hl:0≤s.la∧s.la≤1099511627776) (hP:1≤p.po∧p.po≤100000):
  CB 63 #[.pointer (some ⟨x.D,4,none⟩),.int .i64 now] w (.bool (dueP p s now)):=by
 obtain⟨D,vF,V,R⟩:=x;have qlk:=hA.lk;have qla:=hA.la;have qpo:=LAtO.at hA 3 7 _ rfl;dsimp only at qlk qla qpo;have hwr:IntKind.i64.wrap (s.la+p.po)=s.la+p.po:=by rw [IntKind.wrap_i64]<;>omega
 clear hA hl;unfold dueP;have hbd:=bdrew w;generalize s.lk=LKV at*;cases LKV
 ·go_enter func63,ntmps63;go_wp2_with fail
  refine Tk.sb 20 (S:=fun w'=>w'.cell? ⟨D,38,none⟩=some (.bool false)∧w'.cell? ⟨D,39,none⟩=some (.int .i64 s.la)∧w'.cell? ⟨D,7,none⟩=some (.int .i64 p.po)) (⟨qlk,qla,qpo⟩) (fun hHeld=> ?_)
  iterate 6
   refine Tk.gn ?_
  iterate 12
   refine Tk.tk (v:=undef) rfl (by kernel_rfl) (fun _ _ _ h=>h) (Or.inr ⟨by rfl,rfl⟩) (by assumption) ?_;(try simp only [Tk.nx,Act.put,ar,ag])
  iterate 2
   refine Tk.gn ?_
  refine wpAnyH_done (by kernel_rfl) ?_ _;(try go_wp2);go_ret;exact⟨rfl,hbd⟩
 ·go_enter func63,ntmps63;go_wp2_with fail
  refine Tk.sb 20 (S:=fun w'=>w'.cell? ⟨D,38,none⟩=some (.bool true)∧w'.cell? ⟨D,39,none⟩=some (.int .i64 s.la)∧w'.cell? ⟨D,7,none⟩=some (.int .i64 p.po)) (⟨qlk,qla,qpo⟩) (fun hHeld=> ?_)
  iterate 20
   refine Tk.gn ?_
  refine wpAnyH_done (by kernel_rfl) ?_ _;(try go_wp2);go_ret;exact⟨by simp,hbd⟩
theorem pause_no (n:Int) (w:World) (h: ¬(-1≤n∧n≤50)):CS 31 #[.pointer (some ⟨x.D,4,none⟩),.int .i64 n] w (.int .i64 1):=by
 by_cases h1:n< -1
 ·clear h;go_enter func31,ntmps31;go_wp2;go_ret;exact⟨rfl,rfl⟩
 ·have h2:50<n:=by omega
  clear h;go_enter func31,ntmps31;go_wp2;go_ret;exact⟨rfl,rfl⟩
theorem pause_yes (n:Int) (w:World) (hA:LAt w B x p ta tc ts s st) (h1: -1≤n) (h2:n≤50):Calls prog 31 #[.pointer (some ⟨x.D,4,none⟩),.int .i64 n] w fun e w'=>e=.returned (.int .i64 0)∧LAt w' B x p ta tc ts ⟨s.fs,s.lk,s.la,s.nd,n⟩ st∧Mv (blk x) (blk x) w w':=by
 have HG:Hid (LAt ((w.setCell ⟨x.D,41,none⟩ (.bool (n != -1))).setCell ⟨x.D,42,none⟩ (.int .i64 n)) B x p ta tc ts ⟨s.fs,s.lk,s.la,s.nd,n⟩ st∧Mv (blk x) (blk x) w ((w.setCell ⟨x.D,41,none⟩ (.bool (n != -1))).setCell ⟨x.D,42,none⟩ (.int .i64 n))):=⟨hA.setPa n h1,(Mv.set (Or.inr (Or.inl rfl)) _).trans (Mv.set (Or.inr (Or.inl rfl)) _)⟩
 obtain⟨D,vF,V,R⟩:=x;have qpd:=hA.pd;obtain⟨z,qpa,-⟩:=hA.pa;have f37:=hA.fz 41;have f38:=hA.fz 42;dsimp only at qpd qpa f37 f38;have n1: ¬n< -1:=by omega
 have n2: ¬50<n:=by omega
 generalize decide (0≤s.pa)=PDV at qpd;clear hA;go_enter func31,ntmps31;go_wp2;go_ret;exact⟨rfl,HG.out⟩
theorem low_any (now hv:Int) (need:Bool) (w:World) (hA:LAt w B x p ta tc ts s st) (hP:PlOk p ts) (hn:0≤now∧now≤1099511627776) (hnd:0≤s.nd∧s.nd≤1099511627776):
  CB 140 #[.pointer (some ⟨x.D,4,none⟩),.int .i64 now,.int .i64 hv,.bool need] w (.int .i64 (lowF p hv now s.nd need)):=by
 obtain⟨D,vF,V,R⟩:=x;have qnd:=hA.nd;have qco:=LAtO.at hA 4 8 _ rfl;have qmn:=LAtO.at hA 1 5 _ rfl;dsimp only at qnd qco qmn;have hmn:=hP.mn.1;have hbd:=bdrew w;have hwr:IntKind.i64.wrap (now-s.nd)=now-s.nd:=by rw [IntKind.wrap_i64]<;>omega
 clear hA hP;cases need
 ·by_cases hco:now-s.nd<p.co
  ·have HL:Hid (lowF p hv now s.nd false=max p.mn (min hv 1)):=by unfold Hid lowF;rw [if_neg (by decide),if_pos hco]
   go_enter func140,ntmps140;go_wp2_with fail
   refine Tk.sb 12 (S:=fun w'=>w'.cell? ⟨D,40,none⟩=some (.int .i64 s.nd)∧w'.cell? ⟨D,8,none⟩=some (.int .i64 p.co)) (⟨qnd,qco⟩) (fun hHeld=> ?_)
   iterate 12
    refine Tk.gn ?_
   refine wpAnyH_done (by kernel_rfl) ?_ _;go_wp2;go_ret;exact⟨by rw [HL.out];rfl,hbd⟩
  ·have HL:Hid (lowF p hv now s.nd false=max p.mn 0):=by unfold Hid lowF;rw [if_neg (by decide),if_neg hco];omega
   go_enter func140,ntmps140;go_wp2_with fail
   refine Tk.sb 12 (S:=fun w'=>w'.cell? ⟨D,40,none⟩=some (.int .i64 s.nd)∧w'.cell? ⟨D,8,none⟩=some (.int .i64 p.co)) (⟨qnd,qco⟩) (fun hHeld=> ?_)
   iterate 12
    refine Tk.gn ?_
   refine wpAnyH_done (by kernel_rfl) ?_ _;go_wp2;go_ret;exact⟨by rw [HL.out];rfl,hbd⟩
 ·have HL:Hid (lowF p hv now s.nd true=max p.mn 1):=by unfold Hid lowF;rw [if_pos rfl]
  go_enter func140,ntmps140;go_wp2;go_ret;exact⟨by rw [HL.out];rfl,Below.refl _ _⟩
def instF (p:Pd) (hv f:Int):Int:=if p.af≠0∧p.af≤f then p.bk else hv
theorem inst_any (i:Nat) (hv f:Int) (w:World) (hA:LAt w B x p ta tc ts s st) (hf:s.fs[i]? =some f):
  CB 176 #[.pointer (some ⟨x.D,4,none⟩),.int .i64 (i:Int),.int .i64 hv] w (.int .i64 (instF p hv f)):=by
 have hi:i<s.fs.length:=(Xe.1 hf).1;obtain⟨g,cap,hvf⟩:=hA.form (by omega);obtain⟨c1,-,-⟩:=hA.getF hvf rfl hf;obtain⟨D,vF,V,R⟩:=x;have qaf:=LAtO.at hA 7 11 _ rfl;have qbk:=LAtO.at hA 6 10 _ rfl;have qF:=hA.cF;dsimp only at qaf qbk qF hvf;rw [hvf]at qF;have hbd:=bdrew w;have hi':(i:Int)<(s.fs.length:Int):=by omega
 generalize s.fs.length=N at*;clear hA hf hvf;by_cases ha:p.af=0
 ·have d1:(p.af !=0)=false:=by simp [ha]
  have HE:Hid (instF p hv f=hv):=by unfold Hid instF;rw [if_neg (fun h=>h.1 ha)]
  clear ha;go_enter func176,ntmps176;go_wp2_with fail
  refine Tk.sb 21 (S:=fun w'=>w'.cell? ⟨D,11,none⟩=some (.int .i64 p.af)∧w'.cell? ⟨D,37,none⟩=some (.slice (some ⟨g,0,none⟩) N cap)∧w'.cell? ⟨g,i,none⟩=some (.int .i64 f)) (⟨qaf,qF,c1⟩) (fun hHeld=> ?_)
  iterate 7
   refine Tk.gn ?_
  iterate 13
   refine Tk.tk (v:=undef) rfl (by kernel_rfl) (fun _ _ _ h=>h) (Or.inr ⟨by rfl,rfl⟩) (by assumption) ?_;(try simp only [Tk.nx,Act.put,ar,ag])
  iterate 1
   refine Tk.gn ?_
  refine wpAnyH_done (by kernel_rfl) ?_ _;go_wp2;go_ret;exact⟨by rw [HE.out];rfl,hbd⟩
 ·have d1:(p.af !=0)=true:=by simp [ha]
  by_cases hb:p.af≤f
  ·have HE:Hid (instF p hv f=p.bk):=by unfold Hid instF;rw [if_pos ⟨ha,hb⟩]
   clear ha;go_enter func176,ntmps176;go_wp2_with fail
   refine Tk.sb 21 (S:=fun w'=>w'.cell? ⟨D,11,none⟩=some (.int .i64 p.af)∧w'.cell? ⟨D,37,none⟩=some (.slice (some ⟨g,0,none⟩) N cap)∧w'.cell? ⟨g,i,none⟩=some (.int .i64 f)) (⟨qaf,qF,c1⟩) (fun hHeld=> ?_)
   iterate 21
    refine Tk.gn ?_
   refine wpAnyH_done (by kernel_rfl) ?_ _;go_wp2;go_ret;exact⟨by rw [HE.out];rfl,hbd⟩
  ·have HE:Hid (instF p hv f=hv):=by unfold Hid instF;rw [if_neg (fun h=>hb h.2)]
   clear ha;go_enter func176,ntmps176;go_wp2_with fail
   refine Tk.sb 21 (S:=fun w'=>w'.cell? ⟨D,11,none⟩=some (.int .i64 p.af)∧w'.cell? ⟨D,37,none⟩=some (.slice (some ⟨g,0,none⟩) N cap)∧w'.cell? ⟨g,i,none⟩=some (.int .i64 f)) (⟨qaf,qF,c1⟩) (fun hHeld=> ?_)
   iterate 21
    refine Tk.gn ?_
   refine wpAnyH_done (by kernel_rfl) ?_ _;go_wp2;go_ret;exact⟨by rw [HE.out];rfl,hbd⟩
theorem bound_any (n low:Int) (C E:Nat) (w:World) (qmx:w.cell? ⟨x.D,6,none⟩=some (.int .i64 p.mx)) (hC:w.cell? ⟨C,0,none⟩=some (.int .i64 low)) (hE:w.cell? ⟨E,0,none⟩=some (.pointer (some ⟨x.D,4,none⟩))):
  CB 141 #[.int .i64 n,.pointer (some ⟨C,0,none⟩),.pointer (some ⟨E,0,none⟩)] w (.int .i64 (toldF p n low)):=by
 obtain⟨D,vF,V,R⟩:=x;dsimp only at qmx hE;have hbd:=bdrew w;unfold toldF;go_enter func141,ntmps141;go_wp2_with fail
 refine Tk.sb 10 (S:=fun w'=>w'.cell? ⟨D,6,none⟩=some (.int .i64 p.mx)∧w'.cell? ⟨C,0,none⟩=some (.int .i64 low)∧w'.cell? ⟨E,0,none⟩=some (.pointer (some ⟨D,4,none⟩))) (⟨qmx,hC,hE⟩) (fun hHeld=> ?_)
 iterate 10
  refine Tk.gn ?_
 refine wpAnyH_done (by kernel_rfl) ?_ _;(try go_wp2);go_ret;exact⟨rfl,hbd⟩
end

def LfR (B:Nat) (x:Pl) (p:Pd) (ta:Option Addr) (tc:Nat) (ts:List Tr) (rs:List Rd) (s:Lp) (st:Stb.St) (w:World) (i:Value) (wr:World):Prop:=
 ∃k:Nat,k≤ts.length∧i=.int .i64 k∧LAt wr B x p ta tc ts ⟨fsK ts rs s.fs k,s.lk,s.la,s.nd,s.pa⟩ st∧Mv (blk x) (blk x) w wr
theorem cfails_any (B:Nat) (x:Pl) (p:Pd) (ta ra:Option Addr) (tc rc:Nat) (ts:List Tr) (rs:List Rd) (s:Lp) (st:Stb.St) (w:World) (hA:LAt w B x p ta tc ts s st) (hfl:s.fs.length=ts.length) (hfo:FsOk s.fs 1000000)
  (hR: ∀wr,Mv (blk x) (blk x) w wr→RdsAt wr ra rs) (hrl:rs.length=ts.length) (hl5:ts.length≤5):
  Calls prog 138 #[.pointer (some ⟨x.D,4,none⟩),.slice ra rs.length rc] w fun e w'=>e=.returned (.tuple #[])∧LAt w' B x p ta tc ts ⟨fsK ts rs s.fs ts.length,s.lk,s.la,s.nd,s.pa⟩ st∧Mv (blk x) (blk x) w w':=by
 obtain⟨D,vF,V,R⟩:=x;have qtr:=LAtO.at hA 17 21 _ rfl;dsimp only at qtr;rw [hrl];have hA0:LAt w B ⟨D,vF,V,R⟩ p ta tc ts ⟨fsK ts rs s.fs 0,s.lk,s.la,s.nd,s.pa⟩ st:=by rw [fsK_zero];exact hA
 clear hA;go_enter func138,ntmps138;go_wp2_with fail
 go_loopw [12] (fun i wr=>LfR B ⟨D,vF,V,R⟩ p ta tc ts rs s st w i wr) (fun i _=>ts.length-(intOf i).toNat)
 case atStart=>exact⟨0,by omega,rfl,hA0,Mv.refl _ _⟩
 case round=>
  clear hA0 qtr;obtain⟨k,hk,rfl,hAr,hSr⟩:=hrel;by_cases hlt:k<ts.length
  ·have hlt':(k:Int)<(ts.length:Int):=by omega
   have hk5:k<5:=by omega
   obtain⟨tr,htr⟩: ∃tr,ts[k]? =some tr:=⟨ts[k],by simp [hlt]⟩
   obtain⟨rd,hrd⟩: ∃rd,rs[k]? =some rd:=⟨rs[k]'(by omega),by simp⟩
   obtain⟨f,hf⟩: ∃f,s.fs[k]? =some f:=⟨s.fs[k]'(by omega),by simp⟩
   have hfb:=hfo f (Xk hf);have hgK:=fsK_get (ts:=ts) (rs:=rs) hf;have hll:ts.length=(fsK ts rs s.fs k).length:=by rw [fsK_len,hfl]
   obtain⟨gF,cF,hvF⟩: ∃gF cF,vF=.slice (some ⟨gF,0,none⟩) ts.length cF:=by
    obtain⟨g,cap,he⟩:=hAr.form (by dsimp only;omega);dsimp only at he;rw [←hll]at he;exact⟨g,cap,he⟩
   subst hvF;obtain⟨tb,toff,rfl,htl,hTr⟩:=TrsAt.elem hAr.t htr;obtain⟨W1,hW1⟩: ∃W1,W1=wr.alloc (.cells (trC tr) 84):=⟨_,rfl⟩
   have hN:TrAt (wr.alloc (.cells (trC tr) 84)) wr.heap.size 0 tr:=TrAt.new wr tr 84;have hT1:TrAt W1 wr.heap.size 0 tr:=by rw [hW1];exact hN
   have hb1:Below wr.heap.size wr W1:=by rw [hW1];exact(Below.refl _ _).alloc (Xa _) _
   have hA1:=hAr.below hb1;have hS1:=hSr.trans (Mv.of_below hb1);obtain⟨c1,fz1,hgD⟩:=hA1.getF rfl hll hgK;dsimp only at hgD;have q1:=hA1.cF;dsimp only at q1;have f1:=fz1 k;have hset:=fsK_step htr hrd hf;obtain⟨rb,roff,la,lc,rfl,hrbl,r0,r1,hrm,hrX⟩:=hR W1 hS1 k rd hrd;have HA1:=zh hA1;have HS1:=zh hS1;have HW1:=zh hW1;have HLL:=zh hll;have HSet:=zh hset;have HGK:=zh hgK;have hfb1:=hfb.1;have hfb2:=hfb.2;clear hW1 hAr hSr hA1 hS1 fz1 hb1 hll hset hR hrX r1 hrm hrbl hfb hgK hrd hf
   go_upto_region 3 with (first
    |(with_reducible refine wp_tr hTr (by with_unfolding_all rfl) ?_)
    |(with_reducible refine wp_newTr hN (by with_unfolding_all rfl) (by with_unfolding_all rfl) ?_))
   rw [←HW1.out];clear HW1 hN hTr;generalize wr.heap.size=C at*;have k0:=hT1.c0;have HF:Hid (stepF tr rd f=if(rd.f&&tr.k !=3)=true then f+1 else 0):=rfl;cases hrf:rd.f
   ·rw [hrf]at r0;have HE:Hid (stepF tr rd f=0):=by unfold Hid;rw [HF.out,hrf];rfl
    have HX:Hid (LfR B ⟨D,.slice (some ⟨gF,0,none⟩) ts.length cF,V,R⟩ p (some ⟨tb,toff,none⟩) tc ts rs s st w (.int .i64 ((k+1:Nat):Int)) (W1.setCell ⟨gF,k,none⟩ (.int .i64 0))):=by
     refine⟨k+1,hlt,rfl,?_,HS1.out.trans (Mv.set (Or.inl rfl) _)⟩;rw [←HSet.out,HE.out];exact HA1.out.setF (f':=0) rfl HLL.out HGK.out
    go_wp2;go_roundw
    case rel=>exact HX.out
    case measure=>simp [intOf];omega
   ·rw [hrf]at r0;cases hk3:(tr.k !=3)
    ·have HE:Hid (stepF tr rd f=0):=by unfold Hid;rw [HF.out,hrf,hk3];rfl
     have HX:Hid (LfR B ⟨D,.slice (some ⟨gF,0,none⟩) ts.length cF,V,R⟩ p (some ⟨tb,toff,none⟩) tc ts rs s st w (.int .i64 ((k+1:Nat):Int)) (W1.setCell ⟨gF,k,none⟩ (.int .i64 0))):=by
      refine⟨k+1,hlt,rfl,?_,HS1.out.trans (Mv.set (Or.inl rfl) _)⟩;rw [←HSet.out,HE.out];exact HA1.out.setF (f':=0) rfl HLL.out HGK.out
     go_wp2;go_roundw
     case rel=>exact HX.out
     case measure=>simp [intOf];omega
    ·have HE:Hid (stepF tr rd f=f+1):=by unfold Hid;rw [HF.out,hrf,hk3];rfl
     have HX:Hid (LfR B ⟨D,.slice (some ⟨gF,0,none⟩) ts.length cF,V,R⟩ p (some ⟨tb,toff,none⟩) tc ts rs s st w (.int .i64 ((k+1:Nat):Int)) (W1.setCell ⟨gF,k,none⟩ (.int .i64 (f+1)))):=by
      refine⟨k+1,hlt,rfl,?_,HS1.out.trans (Mv.set (Or.inl rfl) _)⟩;rw [←HSet.out,HE.out];exact HA1.out.setF (f':=(f+1)) rfl HLL.out HGK.out
     go_wp2;go_roundw
     case rel=>exact HX.out
     case measure=>simp [intOf];omega
  ·obtain rfl:k=ts.length:=by omega
   have HX:Hid (LAt wr B ⟨D,vF,V,R⟩ p ta tc ts ⟨fsK ts rs s.fs ts.length,s.lk,s.la,s.nd,s.pa⟩ st∧Mv (blk ⟨D,vF,V,R⟩) (blk ⟨D,vF,V,R⟩) w wr):=⟨hAr,hSr⟩
   clear hAr hSr;go_wp2;go_end0;exact⟨rfl,HX.out⟩
