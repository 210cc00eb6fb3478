/- A part. -/
import Derived.Test.YtaekecgbdegemaaGreatDoorPtFrame
import Derived.Test.YtaekecgbdegemaaGreatDoorPtPlanCheck
set_option linter.all false
open Go.Proofs.Tryz
namespace Go.Proofs.YtaekecgbdegemaaGreatDoor
namespace Frm
open Go.ChangeShapes Go.WideShapes Go.Deep Go.RowKit

structure Rd where
 f:Bool
 n:Nat
 X:Nat→Int
def RdsAt (w:World) (a:Option Addr) (rs:List Rd):Prop:=
 ∀(i:Nat) (r:Rd),rs[i]? =some r→ ∃b off la lc,a=some ⟨b,off,none⟩∧b<w.heap.size∧w.cell? ⟨b,off+i*2,none⟩=some (.bool r.f)∧w.cell? ⟨b,off+i*2+1,none⟩=some (.slice la r.n lc)∧r.n≤maxLen∧Ned.IntsAt w la r.n r.X
theorem RdsAt.below {w w':World} {a:Option Addr} {rs:List Rd} {n:Nat} (h:RdsAt w a rs) (hb:Below n w w') (hn:w.heap.size≤n):RdsAt w' a rs:=by
 intro i r hr;obtain⟨b,off,la,lc,rfl,hl,c0,c1,hm,hX⟩:=h i r hr;refine⟨b,off,la,lc,rfl,Xb hl hb.size,?_,?_,hm,hX.below hb hn⟩
 ·rw [hb.cell (Xb hl hn)];exact c0
 ·rw [hb.cell (Xb hl hn)];exact c1
structure Gl where
 kd:Int
 now:Int
 sec:Int
 hv:Int
 n:Int
 rs:List Rd
 busy:Bool
structure GlB (g:Gl):Prop where
 kd: -9223372036854775808≤g.kd∧g.kd≤9223372036854775807
 now: -9223372036854775808≤g.now∧g.now≤9223372036854775807
 sec: -9223372036854775808≤g.sec∧g.sec≤9223372036854775807
 hv: -9223372036854775808≤g.hv∧g.hv≤9223372036854775807
 n: -9223372036854775808≤g.n∧g.n≤9223372036854775807
 rs:g.rs.length≤maxLen
def GlsAt (w:World) (a:Option Addr) (gs:List Gl):Prop:=
 ∀(i:Nat) (g:Gl),gs[i]? =some g→GlB g∧ ∃b off ra rc,a=some ⟨b,off,none⟩∧b<w.heap.size∧w.cell? ⟨b,off+i*7,none⟩=some (.int .i64 g.kd)∧w.cell? ⟨b,off+i*7+1,none⟩=some (.int .i64 g.now)∧w.cell? ⟨b,off+i*7+2,none⟩=some (.int .i64 g.sec)∧w.cell? ⟨b,off+i*7+3,none⟩=some (.int .i64 g.hv)∧w.cell? ⟨b,off+i*7+4,none⟩=some (.int .i64 g.n)∧w.cell? ⟨b,off+i*7+5,none⟩=some (.slice ra g.rs.length rc)∧w.cell? ⟨b,off+i*7+6,none⟩=some (.bool g.busy)∧RdsAt w ra g.rs
theorem GlsAt.below {w w':World} {a:Option Addr} {gs:List Gl} {n:Nat} (h:GlsAt w a gs) (hb:Below n w w') (hn:w.heap.size≤n):GlsAt w' a gs:=by
 intro i g hg;obtain⟨hB,b,off,ra,rc,rfl,hl,c0,c1,c2,c3,c4,c5,c6,hR⟩:=h i g hg;have hc: ∀o,w'.cell? ⟨b,o,none⟩=w.cell? ⟨b,o,none⟩:=fun o=>hb.cell (Xb hl hn);exact⟨hB,b,off,ra,rc,rfl,Xb hl hb.size,(hc _).trans c0,(hc _).trans c1,(hc _).trans c2,(hc _).trans c3,(hc _).trans c4,(hc _).trans c5,(hc _).trans c6,hR.below hb hn⟩
section
variable {H : Type} {enc : TypeId × Value → H} {P : Program} {w : World} {base : Nat} {spare : Nat → Bool} {held : Bool} {e : TypeId}
end
def BlsAt (w:World) (a:Option Addr) (len:Nat) (X:Nat→Bool):Prop:= ∀i,i<len→ ∃b off,a=some ⟨b,off,none⟩∧b<w.heap.size∧w.cell? ⟨b,off+i,none⟩=some (.bool (X i))
theorem BlsAt.below {w w':World} {a:Option Addr} {len n:Nat} {X:Nat→Bool} (h:BlsAt w a len X) (hb:Below n w w') (hn:w.heap.size≤n):BlsAt w' a len X:=by
 intro i hi;obtain⟨b,off,rfl,hl,hc⟩:=h i hi;exact⟨b,off,rfl,Xb hl hb.size,(hb.cell (Xb hl hn)).trans hc⟩
end Frm
namespace Lpp
open Plain Pln Ned Frm Crn

structure Lp where
 fs:List Int
 lk:Bool
 la:Int
 nd:Int
 pa:Int
def failed (t:Tr) (r:Rd):Bool:=r.f&&t.k !=3
def stepF (t:Tr) (r:Rd) (f:Int):Int:=if failed t r then f+1 else 0
def stepN (p:Pd) (hv:Int) (inF:Tr→Bool) (t:Tr) (r:Rd) (f:Int):Int:=
 if 0<f then(if p.af≠0∧p.af≤f then p.bk else hv)
 else if t.k=3 then(if inF t=true then t.tg else 0)else wantF hv p.tl t.k t.tg r.n r.X
def stepA (inF:Tr→Bool) (t:Tr) (r:Rd) (f:Int):Bool:=
 decide (0<f)||(if t.k=3 then inF t else decide (t.ac<metF t.k r.n r.X))
def fsK:List Tr→List Rd→List Int→Nat→List Int
 |t::ts,r::rs,f::fs,k+1=>stepF t r f::fsK ts rs fs k
 |_,_,fs,_=>fs
theorem fsK_len: ∀(ts:List Tr) (rs:List Rd) (fs:List Int) (k:Nat),(fsK ts rs fs k).length=fs.length
 |t::ts,r::rs,f::fs,k+1=>by simp [fsK,fsK_len ts rs fs k]
 | [],_,_,_=>by simp [fsK]
 |_::_,[],_,_=>by simp [fsK]
 |_::_,_::_,[],_=>by simp [fsK]
 |_::_,_::_,_::_,0=>by simp [fsK]
theorem fsK_zero (ts:List Tr) (rs:List Rd) (fs:List Int):fsK ts rs fs 0=fs:=by
 cases ts<;>cases rs<;>cases fs<;>simp [fsK]
theorem fsK_get: ∀ {ts:List Tr} {rs:List Rd} {fs:List Int} {k:Nat} {f:Int},fs[k]? =some f→(fsK ts rs fs k)[k]? =some f
 | [],_,_,_,_,h=>by simpa [fsK]using h
 |_::_,[],_,_,_,h=>by simpa [fsK]using h
 |_::_,_::_,[],_,_,h=>by simp at h
 |_::_,_::_,_::_,0,_,h=>by simpa [fsK]using h
 |t::ts,r::rs,g::fs,k+1,f,h=>by
  simp only [fsK,List.getElem?_cons_succ]
  exact fsK_get (by simpa using h)
theorem fsK_step: ∀ {ts:List Tr} {rs:List Rd} {fs:List Int} {k:Nat} {t:Tr} {r:Rd} {f:Int},ts[k]? =some t→rs[k]? =some r→fs[k]? =some f→(fsK ts rs fs k).set k (stepF t r f)=fsK ts rs fs (k+1)
 | [],_,_,_,_,_,_,h,_,_=>by simp at h
 |_::_,[],_,_,_,_,_,_,h,_=>by simp at h
 |_::_,_::_,[],_,_,_,_,_,_,h=>by simp at h
 |x::ts,y::rs,g::fs,0,t,r,f,h1,h2,h3=>by
  simp at h1 h2 h3
  subst h1 h2 h3
  simp only [fsK,ar,fsK_zero]
 |x::ts,y::rs,g::fs,k+1,t,r,f,h1,h2,h3=>by
  simp only [fsK,ar]
  rw [fsK_step (ts:=ts) (rs:=rs) (fs:=fs) (k:=k) (by simpa using h1) (by simpa using h2) (by simpa using h3)]
def wK (p:Pd) (hv:Int) (inF:Tr→Bool) (ts:List Tr) (rs:List Rd) (fs:List Int):Nat→Int
 |0=>0
 |k+1=>match ts[k]?,rs[k]?,fs[k]? with
  |some t,some r,some f=>max (wK p hv inF ts rs fs k) (stepN p hv inF t r (stepF t r f))
  |_,_,_=>wK p hv inF ts rs fs k
def aK (b:Bool) (inF:Tr→Bool) (ts:List Tr) (rs:List Rd) (fs:List Int):Nat→Bool
 |0=>b
 |k+1=>match ts[k]?,rs[k]?,fs[k]? with
  |some t,some r,some f=>aK b inF ts rs fs k||stepA inF t r (stepF t r f)
  |_,_,_=>aK b inF ts rs fs k
section
variable {p : Pd} {hv : Int} {b : Bool} {inF : Tr → Bool} {ts : List Tr} {rs : List Rd} {fs : List Int} {k : Nat} {t : Tr} {r : Rd} {f : Int}
theorem wK_step (h1:ts[k]? =some t) (h2:rs[k]? =some r) (h3:fs[k]? =some f):wK p hv inF ts rs fs (k+1)=max (wK p hv inF ts rs fs k) (stepN p hv inF t r (stepF t r f)):=by
 show (match ts[k]?, rs[k]?, fs[k]? with
  |some t,some r,some f=>max (wK p hv inF ts rs fs k) (stepN p hv inF t r (stepF t r f))
  |_,_,_=>wK p hv inF ts rs fs k)=_
 rw [h1,h2,h3]
theorem aK_step (h1:ts[k]? =some t) (h2:rs[k]? =some r) (h3:fs[k]? =some f):aK b inF ts rs fs (k+1)=(aK b inF ts rs fs k||stepA inF t r (stepF t r f)):=by
 show (match ts[k]?, rs[k]?, fs[k]? with
  |some t,some r,some f=>aK b inF ts rs fs k||stepA inF t r (stepF t r f)
  |_,_,_=>aK b inF ts rs fs k)=_
 rw [h1,h2,h3]
end
def lowF (p:Pd) (hv now nd:Int) (need:Bool):Int:=if need=true then max p.mn 1 else if now-nd<p.co then max p.mn (min hv 1)else p.mn
def askF (p:Pd) (W low:Int):Int:=min (max W low) p.mx
def toldF (p:Pd) (n low:Int):Int:=min (max n low) p.mx
def nextL (s:Lp) (ts:List Tr) (rs:List Rd) (now:Int) (need:Bool):Lp:=⟨fsK ts rs s.fs ts.length,true,now,if s.pa<0∧need=true then now else s.nd,s.pa⟩
theorem stepF_bd {t:Tr} {r:Rd} {f:Int} (h:0≤f):0≤stepF t r f∧stepF t r f≤f+1:=by unfold stepF;split<;>omega
def FsOk (fs:List Int) (n:Int):Prop:= ∀f∈fs,0≤f∧f≤n
theorem fsK_ok: ∀ {ts:List Tr} {rs:List Rd} {fs:List Int} {k:Nat} {n:Int},FsOk fs n→FsOk (fsK ts rs fs k) (n+1)
 | [],_,fs,_,n,h=>by intro f hf;simp [fsK]at hf;have:=h f hf;omega
 |_::_,[],fs,_,n,h=>by intro f hf;simp [fsK]at hf;have:=h f hf;omega
 |_::_,_::_,[],_,n,h=>by intro f hf;simp [fsK]at hf
 |_::_,_::_,_::_,0,n,h=>by intro f hf;simp only [fsK]at hf;have:=h f hf;omega
 |t::ts,r::rs,g::fs,k+1,n,h=>by
  intro f hf
  simp only [fsK,XG]at hf
  rcases hf with rfl|hf
  ·have h1:=h g (by simp)
   have h2:=stepF_bd (t:=t) (r:=r) h1.1
   omega
  ·exact fsK_ok (fun x hx=>h x (by simp [hx])) f hf
structure PlOk (p:Pd) (ts:List Tr):Prop where
 mn:0≤p.mn∧p.mn≤50
 mx:1≤p.mx∧p.mn≤p.mx∧p.mx≤50
 po:1≤p.po∧p.po≤100000
 co:1≤p.co∧p.co≤100000
 tl:0≤p.tl∧p.tl≤1000
 bk:0≤p.bk∧p.bk≤50
 af:0≤p.af∧p.af≤100
 sh: -900≤p.sh∧p.sh≤900
 len:ts.length≤5
 tr: ∀t∈ts,trB t=true
theorem plOk_of {p:Pd} {ts:List Tr} (h:chkP p ts=0):PlOk p ts:=by
 unfold chkP at h;split at h
 ·cases h
 split at h
 ·cases h
 split at h
 ·cases h
 split at h
 ·cases h
 rename_i h1 h2 h3 h4;have h3':okP p=true:=by cases e:okP p;exact absurd e h3;rfl
 have h4':ts.all trB=true:=by cases e:ts.all trB;exact absurd e h4;rfl
 unfold okP numB rg at h3';simp at h3';rw [Ye]at h4';refine⟨by omega,by omega,by omega,by omega,by omega,by omega,by omega,by omega,by omega,h4'⟩
theorem tr_span {t:Tr} (h:trB t=true) (hk:t.k=3):(1≤t.tg∧t.tg≤50)∧kc t.a=true∧kc t.b=true:=by
 unfold trB rg at h;rw [if_pos hk]at h;simp at h;exact⟨h.1,h.2.2.1,h.2.2.2⟩
theorem tr_cnt {t:Tr} (h:trB t=true) (hk:t.k≠3):(t.k=1∨t.k=2)∧(1≤t.tg∧t.tg≤1000000)∧(0≤t.ac∧t.ac≤1000000):=by
 unfold trB rg at h;rw [if_neg hk]at h;simp at h;exact⟨h.1,h.2.1,h.2.2.1⟩
