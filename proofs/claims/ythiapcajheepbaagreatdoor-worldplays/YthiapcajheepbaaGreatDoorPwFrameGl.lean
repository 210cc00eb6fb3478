/- A part. -/
import Derived.Test.YthiapcajheepbaaGreatDoorPwFrame
import Derived.Test.YthiapcajheepbaaGreatDoorPwNeedTr
set_option linter.all false
open Go.Proofs.Tryz
namespace Go.Proofs.YthiapcajheepbaaGreatDoor
namespace Frm
open Go.ChangeShapes Go.WideShapes Go.Deep Go.RowKit

structure Rd where
 f:Bool
 n:Nat
 X:Nat→Int
def RdsAt (w:World) (a:Option Addr) (rs:List Rd):Prop:=
 ∀(i:Nat) (r:Rd),rs[i]? =some r→ ∃b off la lc,a=some ⟨b,off,none⟩∧b<w.heap.size∧w.cell? ⟨b,off+i*2,none⟩=some (.bool r.f)∧w.cell? ⟨b,off+i*2+1,none⟩=some (.slice la r.n lc)∧r.n≤maxLen∧Ned.IntsAt w la r.n r.X
theorem RdsAt.below {w w':World} {a:Option Addr} {rs:List Rd} {n:Nat} (h:RdsAt w a rs) (hb:Below n w w') (hn:w.heap.size≤n):RdsAt w' a rs:=by
 intro i r hr;obtain⟨b,off,la,lc,rfl,hl,c0,c1,hm,hX⟩:=h i r hr;refine⟨b,off,la,lc,rfl,Xb hl hb.size,?_,?_,hm,hX.below hb hn⟩
 ·rw [hb.cell (Xb hl hn)];exact c0
 ·rw [hb.cell (Xb hl hn)];exact c1
structure Gl where
 kd:Int
 now:Int
 sec:Int
 hv:Int
 n:Int
 rs:List Rd
 busy:Bool
structure GlB (g:Gl):Prop where
 kd: -9223372036854775808≤g.kd∧g.kd≤9223372036854775807
 now: -9223372036854775808≤g.now∧g.now≤9223372036854775807
 sec: -9223372036854775808≤g.sec∧g.sec≤9223372036854775807
 hv: -9223372036854775808≤g.hv∧g.hv≤9223372036854775807
 n: -9223372036854775808≤g.n∧g.n≤9223372036854775807
 rs:g.rs.length≤maxLen
def GlsAt (w:World) (a:Option Addr) (gs:List Gl):Prop:=
 ∀(i:Nat) (g:Gl),gs[i]? =some g→GlB g∧ ∃b off ra rc,a=some ⟨b,off,none⟩∧b<w.heap.size∧w.cell? ⟨b,off+i*7,none⟩=some (.int .i64 g.kd)∧w.cell? ⟨b,off+i*7+1,none⟩=some (.int .i64 g.now)∧w.cell? ⟨b,off+i*7+2,none⟩=some (.int .i64 g.sec)∧w.cell? ⟨b,off+i*7+3,none⟩=some (.int .i64 g.hv)∧w.cell? ⟨b,off+i*7+4,none⟩=some (.int .i64 g.n)∧w.cell? ⟨b,off+i*7+5,none⟩=some (.slice ra g.rs.length rc)∧w.cell? ⟨b,off+i*7+6,none⟩=some (.bool g.busy)∧RdsAt w ra g.rs
theorem GlsAt.below {w w':World} {a:Option Addr} {gs:List Gl} {n:Nat} (h:GlsAt w a gs) (hb:Below n w w') (hn:w.heap.size≤n):GlsAt w' a gs:=by
 intro i g hg;obtain⟨hB,b,off,ra,rc,rfl,hl,c0,c1,c2,c3,c4,c5,c6,hR⟩:=h i g hg;have hc: ∀o,w'.cell? ⟨b,o,none⟩=w.cell? ⟨b,o,none⟩:=fun o=>hb.cell (Xb hl hn);exact⟨hB,b,off,ra,rc,rfl,Xb hl hb.size,(hc _).trans c0,(hc _).trans c1,(hc _).trans c2,(hc _).trans c3,(hc _).trans c4,(hc _).trans c5,(hc _).trans c6,hR.below hb hn⟩
section
variable {H : Type} {enc : TypeId × Value → H} {P : Program} {w : World} {base : Nat} {spare : Nat → Bool} {held : Bool} {e : TypeId}
end
def BlsAt (w:World) (a:Option Addr) (len:Nat) (X:Nat→Bool):Prop:= ∀i,i<len→ ∃b off,a=some ⟨b,off,none⟩∧b<w.heap.size∧w.cell? ⟨b,off+i,none⟩=some (.bool (X i))
theorem BlsAt.below {w w':World} {a:Option Addr} {len n:Nat} {X:Nat→Bool} (h:BlsAt w a len X) (hb:Below n w w') (hn:w.heap.size≤n):BlsAt w' a len X:=by
 intro i hi;obtain⟨b,off,rfl,hl,hc⟩:=h i hi;exact⟨b,off,rfl,Xb hl hb.size,(hb.cell (Xb hl hn)).trans hc⟩
end Frm
namespace Lpp
open Plain Pln Ned Frm Crn

structure Lp where
 fs:List Int
 lk:Bool
 la:Int
 nd:Int
 pa:Int
def failed (t:Tr) (r:Rd):Bool:=r.f&&t.k !=3
def stepF (t:Tr) (r:Rd) (f:Int):Int:=if failed t r then f+1 else 0
def stepN (p:Pd) (hv:Int) (inF:Tr→Bool) (t:Tr) (r:Rd) (f:Int):Int:=
 if 0<f then(if p.af≠0∧p.af≤f then p.bk else hv)
 else if t.k=3 then(if inF t=true then t.tg else 0)else wantF hv p.tl t.k t.tg r.n r.X
def stepA (inF:Tr→Bool) (t:Tr) (r:Rd) (f:Int):Bool:=
 decide (0<f)||(if t.k=3 then inF t else decide (t.ac<metF t.k r.n r.X))
def fsK:List Tr→List Rd→List Int→Nat→List Int
 |t::ts,r::rs,f::fs,k+1=>stepF t r f::fsK ts rs fs k
 |_,_,fs,_=>fs
theorem fsK_len: ∀(ts:List Tr) (rs:List Rd) (fs:List Int) (k:Nat),(fsK ts rs fs k).length=fs.length
 |t::ts,r::rs,f::fs,k+1=>by simp [fsK,fsK_len ts rs fs k]
 | [],_,_,_=>by simp [fsK]
 |_::_,[],_,_=>by simp [fsK]
 |_::_,_::_,[],_=>by simp [fsK]
 |_::_,_::_,_::_,0=>by simp [fsK]
theorem fsK_zero (ts:List Tr) (rs:List Rd) (fs:List Int):fsK ts rs fs 0=fs:=by
 cases ts<;>cases rs<;>cases fs<;>simp [fsK]
theorem fsK_get: ∀ {ts:List Tr} {rs:List Rd} {fs:List Int} {k:Nat} {f:Int},fs[k]? =some f→(fsK ts rs fs k)[k]? =some f
 | [],_,_,_,_,h=>by simpa [fsK]using h
 |_::_,[],_,_,_,h=>by simpa [fsK]using h
 |_::_,_::_,[],_,_,h=>by simp at h
 |_::_,_::_,_::_,0,_,h=>by simpa [fsK]using h
 |t::ts,r::rs,g::fs,k+1,f,h=>by
  simp only [fsK,List.getElem?_cons_succ]
  exact fsK_get (by simpa using h)
theorem fsK_step: ∀ {ts:List Tr} {rs:List Rd} {fs:List Int} {k:Nat} {t:Tr} {r:Rd} {f:Int},ts[k]? =some t→rs[k]? =some r→fs[k]? =some f→(fsK ts rs fs k).set k (stepF t r f)=fsK ts rs fs (k+1)
 | [],_,_,_,_,_,_,h,_,_=>by simp at h
 |_::_,[],_,_,_,_,_,_,h,_=>by simp at h
 |_::_,_::_,[],_,_,_,_,_,_,h=>by simp at h
 |x::ts,y::rs,g::fs,0,t,r,f,h1,h2,h3=>by
  simp at h1 h2 h3
  subst h1 h2 h3
  simp only [fsK,ar,fsK_zero]
 |x::ts,y::rs,g::fs,k+1,t,r,f,h1,h2,h3=>by
  simp only [fsK,ar]
  rw [fsK_step (ts:=ts) (rs:=rs) (fs:=fs) (k:=k) (by simpa using h1) (by simpa using h2) (by simpa using h3)]
def wK (p:Pd) (hv:Int) (inF:Tr→Bool) (ts:List Tr) (rs:List Rd) (fs:List Int):Nat→Int
 |0=>0
 |k+1=>match ts[k]?,rs[k]?,fs[k]? with
  |some t,some r,some f=>max (wK p hv inF ts rs fs k) (stepN p hv inF t r (stepF t r f))
  |_,_,_=>wK p hv inF ts rs fs k
def aK (b:Bool) (inF:Tr→Bool) (ts:List Tr) (rs:List Rd) (fs:List Int):Nat→Bool
 |0=>b
 |k+1=>match ts[k]?,rs[k]?,fs[k]? with
  |some t,some r,some f=>aK b inF ts rs fs k||stepA inF t r (stepF t r f)
  |_,_,_=>aK b inF ts rs fs k
section
variable {p : Pd} {hv : Int} {b : Bool} {inF : Tr → Bool} {ts : List Tr} {rs : List Rd} {fs : List Int} {k : Nat} {t : Tr} {r : Rd} {f : Int}
theorem wK_step (h1:ts[k]? =some t) (h2:rs[k]? =some r) (h3:fs[k]? =some f):wK p hv inF ts rs fs (k+1)=max (wK p hv inF ts rs fs k) (stepN p hv inF t r (stepF t r f)):=by
 show (match ts[k]?, rs[k]?, fs[k]? with
  |some t,some r,some f=>max (wK p hv inF ts rs fs k) (stepN p hv inF t r (stepF t r f))
  |_,_,_=>wK p hv inF ts rs fs k)=_
 rw [h1,h2,h3]
theorem aK_step (h1:ts[k]? =some t) (h2:rs[k]? =some r) (h3:fs[k]? =some f):aK b inF ts rs fs (k+1)=(aK b inF ts rs fs k||stepA inF t r (stepF t r f)):=by
 show (match ts[k]?, rs[k]?, fs[k]? with
  |some t,some r,some f=>aK b inF ts rs fs k||stepA inF t r (stepF t r f)
  |_,_,_=>aK b inF ts rs fs k)=_
 rw [h1,h2,h3]
end
def lowF (p:Pd) (hv now nd:Int) (need:Bool):Int:=if need=true then max p.mn 1 else if now-nd<p.co then max p.mn (min hv 1)else p.mn
def askF (p:Pd) (W low:Int):Int:=min (max W low) p.mx
def toldF (p:Pd) (n low:Int):Int:=min (max n low) p.mx
def nextL (s:Lp) (ts:List Tr) (rs:List Rd) (now:Int) (need:Bool):Lp:=⟨fsK ts rs s.fs ts.length,true,now,if s.pa<0∧need=true then now else s.nd,s.pa⟩
theorem stepF_bd {t:Tr} {r:Rd} {f:Int} (h:0≤f):0≤stepF t r f∧stepF t r f≤f+1:=by unfold stepF;split<;>omega
def FsOk (fs:List Int) (n:Int):Prop:= ∀f∈fs,0≤f∧f≤n
theorem fsK_ok: ∀ {ts:List Tr} {rs:List Rd} {fs:List Int} {k:Nat} {n:Int},FsOk fs n→FsOk (fsK ts rs fs k) (n+1)
 | [],_,fs,_,n,h=>by intro f hf;simp [fsK]at hf;have:=h f hf;omega
 |_::_,[],fs,_,n,h=>by intro f hf;simp [fsK]at hf;have:=h f hf;omega
 |_::_,_::_,[],_,n,h=>by intro f hf;simp [fsK]at hf
 |_::_,_::_,_::_,0,n,h=>by intro f hf;simp only [fsK]at hf;have:=h f hf;omega
 |t::ts,r::rs,g::fs,k+1,n,h=>by
  intro f hf
  simp only [fsK,XG]at hf
  rcases hf with rfl|hf
  ·have h1:=h g (by simp)
   have h2:=stepF_bd (t:=t) (r:=r) h1.1
   omega
  ·exact fsK_ok (fun x hx=>h x (by simp [hx])) f hf
structure PlOk (p:Pd) (ts:List Tr):Prop where
 mn:0≤p.mn∧p.mn≤50
 mx:1≤p.mx∧p.mn≤p.mx∧p.mx≤50
 po:1≤p.po∧p.po≤100000
 co:1≤p.co∧p.co≤100000
 tl:0≤p.tl∧p.tl≤1000
 bk:0≤p.bk∧p.bk≤50
 af:0≤p.af∧p.af≤100
 sh: -900≤p.sh∧p.sh≤900
 len:ts.length≤5
 tr: ∀t∈ts,trB t=true
theorem plOk_of {p:Pd} {ts:List Tr} (h:chkP p ts=0):PlOk p ts:=by
 unfold chkP at h;split at h
 ·cases h
 split at h
 ·cases h
 split at h
 ·cases h
 split at h
 ·cases h
 rename_i h1 h2 h3 h4;have h3':okP p=true:=by cases e:okP p;exact absurd e h3;rfl
 have h4':ts.all trB=true:=by cases e:ts.all trB;exact absurd e h4;rfl
 unfold okP numB rg at h3';simp at h3';rw [Ye]at h4';refine⟨by omega,by omega,by omega,by omega,by omega,by omega,by omega,by omega,by omega,h4'⟩
theorem tr_span {t:Tr} (h:trB t=true) (hk:t.k=3):(1≤t.tg∧t.tg≤50)∧kc t.a=true∧kc t.b=true:=by
 unfold trB rg at h;rw [if_pos hk]at h;simp at h;exact⟨h.1,h.2.2.1,h.2.2.2⟩
theorem tr_cnt {t:Tr} (h:trB t=true) (hk:t.k≠3):(t.k=1∨t.k=2)∧(1≤t.tg∧t.tg≤1000000)∧(0≤t.ac∧t.ac≤1000000):=by
 unfold trB rg at h;rw [if_neg hk]at h;simp at h;exact⟨h.1,h.2.1,h.2.2.1⟩
end Lpp
namespace Lop
open Go.RowKit Pln Crn
variable {W:World} {a:Option Addr} {X:Nat→Nat→Value}

theorem tr_of {len:Nat} (h:Frm.CellsIn W a len 17 X) (hk:Frm.LeavesIn len [.i64,.i64,.i64,.u64,.u64,.u64,.u64,.u64,.bool,.bool,.u64,.u64,.u64,.u64,.u64,.bool,.bool] X) (i:Nat) (hi:i<len): ∃t:Tr,TrU t∧ ∃b off,a=some ⟨b,off,none⟩∧b<W.heap.size∧ ∀j,j<17→W.cell? ⟨b,off+(i*17+j),none⟩=(trC t)[j]? :=by
 obtain⟨z0,e0,b0⟩:=hk i hi 0 _ rfl;obtain⟨z1,e1,b1⟩:=hk i hi 1 _ rfl;obtain⟨z2,e2,b2⟩:=hk i hi 2 _ rfl;obtain⟨z3,e3,b3⟩:=hk i hi 3 _ rfl;obtain⟨z4,e4,b4⟩:=hk i hi 4 _ rfl;obtain⟨z5,e5,b5⟩:=hk i hi 5 _ rfl;obtain⟨z6,e6,b6⟩:=hk i hi 6 _ rfl;obtain⟨z7,e7,b7⟩:=hk i hi 7 _ rfl;obtain⟨z8,e8⟩:=hk i hi 8 _ rfl;obtain⟨z9,e9⟩:=hk i hi 9 _ rfl;obtain⟨z10,e10,b10⟩:=hk i hi 10 _ rfl;obtain⟨z11,e11,b11⟩:=hk i hi 11 _ rfl;obtain⟨z12,e12,b12⟩:=hk i hi 12 _ rfl;obtain⟨z13,e13,b13⟩:=hk i hi 13 _ rfl;obtain⟨z14,e14,b14⟩:=hk i hi 14 _ rfl;obtain⟨z15,e15⟩:=hk i hi 15 _ rfl;obtain⟨z16,e16⟩:=hk i hi 16 _ rfl;obtain⟨b,off,ha,hlt,hc⟩:=h i hi;refine⟨⟨z0,z1,z2,⟨z3,z4,z5,z6,z7,z8,z9⟩,⟨z10,z11,z12,z13,z14,z15,z16⟩⟩,⟨b0,b1,b2,⟨b3,b4,b5,b6,b7⟩,⟨b10,b11,b12,b13,b14⟩⟩,b,off,ha,hlt,fun j hj=> ?_⟩;rw [hc j hj];match j,hj with
 |0,_=>rw [e0];simp
 |1,_=>rw [e1];simp
 |2,_=>rw [e2];simp
 |3,_=>rw [e3];simp
 |4,_=>rw [e4];simp
 |5,_=>rw [e5];simp
 |6,_=>rw [e6];simp
 |7,_=>rw [e7];simp
 |8,_=>rw [e8];simp
 |9,_=>rw [e9];simp
 |10,_=>rw [e10];simp
 |11,_=>rw [e11];simp
 |12,_=>rw [e12];simp
 |13,_=>rw [e13];simp
 |14,_=>rw [e14];simp
 |15,_=>rw [e15];simp
 |16,_=>rw [e16];simp
 |j+17,hj=>omega
theorem trs_of {len:Nat} (h:Frm.CellsIn W a len 17 X) (hk:Frm.LeavesIn len [.i64,.i64,.i64,.u64,.u64,.u64,.u64,.u64,.bool,.bool,.u64,.u64,.u64,.u64,.u64,.bool,.bool] X): ∃ts:List Tr,ts.length=len∧TrsAt W a ts∧ ∀t∈ts,TrU t:=by
 classical
 let f:Nat→Tr:=fun i=>if hi:i<len then Classical.choose (tr_of h hk i hi)else⟨0,0,0,⟨0,0,0,0,0,false,false⟩,⟨0,0,0,0,0,false,false⟩⟩
 have hf: ∀i,i<len→TrU (f i)∧ ∃b off,a=some ⟨b,off,none⟩∧b<W.heap.size∧ ∀j,j<17→W.cell? ⟨b,off+(i*17+j),none⟩=(trC (f i))[j]? :=fun i hi=>by
  have:=Classical.choose_spec (tr_of h hk i hi);simp only [f,dif_pos hi];exact this
 refine⟨(List.range len).map f,by simp,fun i t ht=> ?_,fun t ht=> ?_⟩
 ·have hlt:i<len:=by have:=(Xe.1 ht).1;simpa using this
  rw [XQ,List.getElem?_range hlt]at ht;obtain rfl:f i=t:=by simpa using ht
  exact(hf i hlt).2
 ·obtain⟨i,hi,rfl⟩:=XS.1 ht;exact(hf i (List.mem_range.1 hi)).1
