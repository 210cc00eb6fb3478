/- A part. -/
import Derived.Test.YthiapcajheepbaaGreatDoorPwRefNeedS
import Derived.Test.YthiapcajheepbaaGreatDoorPwFrameGl
import Derived.Test.YthiapcajheepbaaGreatDoorPwRecMem
import Derived.Test.YthiapcajheepbaaGreatDoorPwPlanCheck
import Derived.Test.YthiapcajheepbaaGreatDoorPwStbKnow
set_option linter.all false
open Go.Proofs.Tryz
set_option maxHeartbeats 32000000
set_option maxRecDepth 8000
namespace Go.Proofs.YthiapcajheepbaaGreatDoor
namespace Wat
open Go.RowKit Rw Rec Plain Pln Frm Lpp Stb
variable {i D S g cap:Nat} {vw' vm' vF:Value} {fs:List Int} {f:Int}

abbrev rD:Nat→Prop:=fun _=>True
def nK:Kd Int:=⟨fun n=> [.int .i64 n],1,fun _=>rfl,fun m u hu=>by simp at hu;subst hu;rfl,by decide⟩
def wC (p:Pd) (sl:Value) (S:Nat) (vF:Value) (s:Lp):List Value:=[.string ⟨p.nm.toArray⟩,.int .i64 p.mn,.int .i64 p.mx,.int .i64 p.po,.int .i64 p.co,.int .i64 p.tl,.int .i64 p.bk,.int .i64 p.af,.int .i64 p.sh,.int .i64 p.uw,.int .i64 p.up,.int .i64 p.uc,.int .i64 p.ue,.int .i64 p.dw,.int .i64 p.dp,.int .i64 p.dc,.int .i64 p.de,sl,.pointer (some ⟨S,0,none⟩),vF,.bool s.lk,.int .i64 s.la,.int .i64 s.nd,.int .i64 s.pa]
theorem pos_of {α:Type} {l:List α} {x:α} (h:l[i]? =some x):0<l.length:=by have:=(Xe.1 h).1;omega
structure Pl where
 D:Nat
 S:Nat
 vF:Value
 vw:Value
 vm:Value
def blk (x:Pl) (k:Nat):Prop:=k=x.D∨x.vF.ownBlock=some k∨cblk x.S x.vw x.vm k
structure WAt (w:World) (B:Nat) (x:Pl) (p:Pd) (ta:Option Addr) (tc:Nat) (ts:List Tr) (s:Lp) (c:Cm):Prop where
 r:RAt nK w 3 B x.D 0 19 (wC p (.slice ta ts.length tc) x.S x.vF s) x.vF s.fs
 c:CAt w B x.S x.vw x.vm c
 t:TrsAt w ta ts
 tb:0<ts.length→ ∀b off,ta=some ⟨b,off,none⟩→b<B
 aD: ¬cblk x.S x.vw x.vm x.D
 aF: ∀g,x.vF.ownBlock=some g→ ¬cblk x.S x.vw x.vm g
structure WStep (x x':Pl) (w w':World):Prop where
 os:w'.os=w.os
 tape:w'.tape=w.tape
 output:w'.output=w.output
 size:w.heap.size≤w'.heap.size
 block: ∀k,k<w.heap.size→ ¬blk x k→w'.heap[k]? =w.heap[k]?
 loc: ∀k,blk x' k→blk x k∨w.heap.size≤k
section
variable {w w' w'' : World} {B : Nat} {x x' x'' : Pl} {p : Pd} {ta : Option Addr} {tc : Nat} {ts : List Tr} {s : Lp} {c : Cm}
theorem WStep.refl (x:Pl) (w:World):WStep x x w w:=⟨rfl,rfl,rfl,Xa _,fun _ _ _=>rfl,fun _ h=>Or.inl h⟩
theorem WStep.trans (h:WStep x x' w w') (g:WStep x' x'' w' w''):WStep x x'' w w'':=by
 refine⟨g.os.trans h.os,g.tape.trans h.tape,g.output.trans h.output,Xc h.size g.size,fun k hk hn=> ?_,fun k hk=> ?_⟩
 ·refine(g.block k (Xb hk h.size) (fun e=> ?_)).trans (h.block k hk hn);rcases h.loc k e with a|a
  ·exact hn a
  ·omega
 ·rcases g.loc k hk with a|a
  ·exact h.loc k a
  ·exact Or.inr (Xc h.size a)
theorem WStep.of_below (hb:Below w.heap.size w w'):WStep x x w w':=⟨hb.os,hb.tape,hb.output,hb.size,fun k hk _=>hb.block k hk,fun _ h=>Or.inl h⟩
theorem WStep.of_turn (h:Turn rD x.D x.vF x.vF w w'):WStep x x w w':=⟨h.os,h.tape,h.output,h.size,fun k hk hn=>h.block k hk (fun e=>hn (Or.inl e)) (fun e=>hn (Or.inr (Or.inl e.symm))),fun _ h=>Or.inl h⟩
theorem WStep.of_calm (h:CStep x.S x.vw x.vm vw' vm' w w'):WStep x ⟨x.D,x.S,x.vF,vw',vm'⟩ w w':=
 ⟨h.os, h.tape, h.output, h.size, fun k hk hn => h.block k hk (fun e => hn (Or.inr (Or.inr e))), fun k hk => by
  rcases hk with a|a|a
  ·exact Or.inl (Or.inl a)
  ·exact Or.inl (Or.inr (Or.inl a))
  ·rcases h.loc k a with b|b
   ·exact Or.inl (Or.inr (Or.inr b))
   ·exact Or.inr b⟩
theorem WAt.blt (h:WAt w B x p ta tc ts s c) {k:Nat} (hk:blk x k):B≤k∧k<w.heap.size:=by
 rcases hk with rfl|a|a
 ·exact⟨h.r.bQ,h.r.lt⟩
 ·exact⟨h.r.rowB k a,h.r.rowLt k a⟩
 ·exact h.c.blt a
theorem WStep.below (h:WStep x x' w w') (hA:WAt w B x p ta tc ts s c):Below B w w':=
 ⟨h.os,h.tape,h.output,h.size,fun k hk=>h.block k (by have:=hA.r.bQ;have:=hA.r.lt;omega) (fun e=>by have:=(hA.blt e).1;omega)⟩
theorem WAt.kept (h:WAt w B x p ta tc ts s c) (hb: ∀k,k<B∨blk x k→w'.heap[k]? =w.heap[k]?) (hz:w.heap.size≤w'.heap.size):WAt w' B x p ta tc ts s c:=by
 refine⟨h.r.kept (hb _ (Or.inr (Or.inl rfl))) (fun g hg=>hb g (Or.inr (Or.inr (Or.inl hg)))),h.c.kept (fun k hk=>hb k (Or.inr (Or.inr (Or.inr hk)))),?_,h.tb,h.aD,h.aF⟩;intro i t hi;obtain⟨b,off,rfl,hlt,hc⟩:=h.t i t hi;refine⟨b,off,rfl,Xb hlt hz,fun j hj=> ?_⟩;rw [←hc j hj];exact Xf (w:=w) (a:=⟨b,off+(i*17+j),none⟩) (hb b (Or.inl (h.tb (pos_of hi) b off rfl)))
theorem WAt.below (h:WAt w B x p ta tc ts s c) (hb:Below w.heap.size w w'):WAt w' B x p ta tc ts s c:=
 h.kept (fun k hk=>hb.block k (by rcases hk with a|a;have:=h.r.bQ;have:=h.r.lt;omega;exact(h.blt a).2)) hb.size
theorem WAt.turned {s':Lp} (h:WAt w B x p ta tc ts s c) (t:Turn rD x.D x.vF x.vF w w') (hr:RAt nK w' 3 B x.D 0 19 (wC p (.slice ta ts.length tc) x.S x.vF s') x.vF s'.fs):WAt w' B x p ta tc ts s' c:=by
 have hBs:B≤w.heap.size:=by have:=h.r.bQ;have:=h.r.lt;omega
 refine⟨hr,h.c.kept (fun k hk=>t.block k (h.c.blt hk).2 (fun e=>h.aD (e▸hk)) (fun e=>h.aF k e.symm hk)),?_,h.tb,h.aD,h.aF⟩;intro i tr hi;obtain⟨b,off,rfl,hlt,hc⟩:=h.t i tr hi;have hbB:=h.tb (pos_of hi) b off rfl;refine⟨b,off,rfl,Xb hlt t.size,fun j hj=> ?_⟩;rw [←hc j hj];exact Xf (w:=w) (a:=⟨b,off+(i*17+j),none⟩) (t.block b hlt (fun e=>by have:=h.r.bQ;omega) (fun e=>by have:=h.r.rowB b e.symm;omega))
theorem WAt.calmed {c':Cm} (h:WAt w B x p ta tc ts s c) (t:CStep x.S x.vw x.vm vw' vm' w w') (hc:CAt w' B x.S vw' vm' c'):WAt w' B ⟨x.D,x.S,x.vF,vw',vm'⟩ p ta tc ts s c':=by
 have hBs:B≤w.heap.size:=by have:=h.r.bQ;have:=h.r.lt;omega
 have off: ∀k,k<w.heap.size→ ¬cblk x.S x.vw x.vm k→ ¬cblk x.S vw' vm' k:=fun k hk hn e=>by
  rcases t.loc k e with a|a
  ·exact hn a
  ·omega
 refine⟨h.r.kept (t.block _ h.r.lt h.aD) (fun g hg=>t.block g (h.r.rowLt g hg) (h.aF g hg)),hc,?_,h.tb,off _ h.r.lt h.aD,fun g hg=>off g (h.r.rowLt g hg) (h.aF g hg)⟩;intro i tr hi;obtain⟨b,o,rfl,hlt,hcl⟩:=h.t i tr hi;have hbB:=h.tb (pos_of hi) b o rfl;refine⟨b,o,rfl,Xb hlt t.size,fun j hj=> ?_⟩;rw [←hcl j hj];exact Xf (w:=w) (a:=⟨b,o+(i*17+j),none⟩) (t.block b hlt (fun e=>by have:=(h.c.blt e).1;omega))
end
structure Cel (w:World) (D S:Nat) (vF sl:Value) (p:Pd) (s:Lp):Prop where
 mn:w.cell? ⟨D,1,none⟩=some (.int .i64 p.mn)
 mx:w.cell? ⟨D,2,none⟩=some (.int .i64 p.mx)
 po:w.cell? ⟨D,3,none⟩=some (.int .i64 p.po)
 co:w.cell? ⟨D,4,none⟩=some (.int .i64 p.co)
 tl:w.cell? ⟨D,5,none⟩=some (.int .i64 p.tl)
 bk:w.cell? ⟨D,6,none⟩=some (.int .i64 p.bk)
 af:w.cell? ⟨D,7,none⟩=some (.int .i64 p.af)
 sh:w.cell? ⟨D,8,none⟩=some (.int .i64 p.sh)
 tr:w.cell? ⟨D,17,none⟩=some sl
 st:w.cell? ⟨D,18,none⟩=some (.pointer (some ⟨S,0,none⟩))
 fs:w.cell? ⟨D,19,none⟩=some vF
 lk:w.cell? ⟨D,20,none⟩=some (.bool s.lk)
 la:w.cell? ⟨D,21,none⟩=some (.int .i64 s.la)
 nd:w.cell? ⟨D,22,none⟩=some (.int .i64 s.nd)
 pa:w.cell? ⟨D,23,none⟩=some (.int .i64 s.pa)
theorem cel_of {w:World} {B:Nat} {sl:Value} {p:Pd} {s:Lp} (h:RAt nK w 3 B D 0 19 (wC p sl S vF s) vF fs):Cel w D S vF sl p s:=
 ⟨h.cQ 1 _ rfl,h.cQ 2 _ rfl,h.cQ 3 _ rfl,h.cQ 4 _ rfl,h.cQ 5 _ rfl,h.cQ 6 _ rfl,h.cQ 7 _ rfl,h.cQ 8 _ rfl,h.cQ 17 _ rfl,h.cQ 18 _ rfl,h.cQ 19 _ rfl,h.cQ 20 _ rfl,h.cQ 21 _ rfl,h.cQ 22 _ rfl,h.cQ 23 _ rfl⟩
theorem set_lk {w:World} {B:Nat} {sl:Value} {p:Pd} {s:Lp} (h:RAt nK w 3 B D 0 19 (wC p sl S vF s) vF s.fs) (now:Int):RAt nK ((w.setCell ⟨D,20,none⟩ (.bool true)).setCell ⟨D,21,none⟩ (.int .i64 now)) 3 B D 0 19 (wC p sl S vF ⟨s.fs,true,now,s.nd,s.pa⟩) vF s.fs:=
 (h.setN 20 (.bool true) (by decide)).setN 21 (.int .i64 now) (by decide)
theorem set_nd {w:World} {B:Nat} {sl:Value} {p:Pd} {s:Lp} (h:RAt nK w 3 B D 0 19 (wC p sl S vF s) vF s.fs) (now:Int):RAt nK (w.setCell ⟨D,22,none⟩ (.int .i64 now)) 3 B D 0 19 (wC p sl S vF ⟨s.fs,s.lk,s.la,now,s.pa⟩) vF s.fs:=
 h.setN 22 (.int .i64 now) (by decide)
theorem set_pa {w:World} {B:Nat} {sl:Value} {p:Pd} {s:Lp} (h:RAt nK w 3 B D 0 19 (wC p sl S vF s) vF s.fs) (n:Int):RAt nK (w.setCell ⟨D,23,none⟩ (.int .i64 n)) 3 B D 0 19 (wC p sl S vF ⟨s.fs,s.lk,s.la,s.nd,n⟩) vF s.fs:=
 h.setN 23 (.int .i64 n) (by decide)
theorem set_fs {w:World} {B n:Nat} {sl:Value} {p:Pd} {s:Lp} {f':Int} (h:RAt nK w 3 B D 0 19 (wC p sl S (.slice (some ⟨g,0,none⟩) n cap) s) (.slice (some ⟨g,0,none⟩) n cap) fs) (hn:n=fs.length) (hf:fs[i]? =some f):
  RAt nK (w.setCell ⟨g,i,none⟩ (.int .i64 f')) 3 B D 0 19 (wC p sl S (.slice (some ⟨g,0,none⟩) n cap) s) (.slice (some ⟨g,0,none⟩) n cap) (fs.set i f'):=by
 have:=RAt.put (j:=0) (m':=f') (u:=.int .i64 f') h hn hf (by decide) rfl;simpa [nK]using this
theorem get_fs {w:World} {B n:Nat} {sl:Value} {p:Pd} {s:Lp} (h:RAt nK w 3 B D 0 19 (wC p sl S (.slice (some ⟨g,0,none⟩) n cap) s) (.slice (some ⟨g,0,none⟩) n cap) fs) (hn:n=fs.length) (hf:fs[i]? =some f):
  w.cell? ⟨g,i,none⟩=some (.int .i64 f)∧(∀j,w.frozen? ⟨g,j,none⟩=false)∧g≠D:=by
 have:=h.cells hn hf 0 _ rfl;exact⟨by simpa [nK]using this,h.fzG hn,fun e=>h.ne (by rw [e];rfl)⟩
end Wat
namespace Wat
open Go.RowKit Rw Rec Plain Pln Frm Lpp Stb Crn

def dueF (p:Pd) (s:Lp) (now:Int):Bool:= !s.lk||(decide (s.la<now)&&decide (p.po≤now-s.la))
theorem wdue_any (B:Nat) (x:Pl) (p:Pd) (ta:Option Addr) (tc:Nat) (ts:List Tr) (s:Lp) (c:Cm) (now:Int) (w:World) (hA:WAt w B x p ta tc ts s c) (hl:0≤s.la∧s.la≤1099511627776) (hn:now≤9223372036854775807):
  CB 81 #[.pointer (some ⟨x.D,0,none⟩),.int .i64 now] w (.bool (dueF p s now)):=by
 obtain⟨D,S,vF,vw,vm⟩:=x;have q:=cel_of hA.r;dsimp only at q;have qlk:=q.lk;have qla:=q.la;have qpo:=q.po;have hl0:=hl.1;have hl1:=hl.2;clear q hA hl;unfold dueF;have hbd:Below w.heap.size w w.drew:=⟨rfl,rfl,rfl,Xa _,fun _ _=>rfl⟩
 generalize s.lk=LKV at*;cases LKV
 ·go_enter func81,ntmps81;go_wp2_with fail
  refine Tk.sb 28 (S:=fun w'=>w'.cell? ⟨D,20,none⟩=some (.bool false)∧w'.cell? ⟨D,21,none⟩=some (.int .i64 s.la)∧w'.cell? ⟨D,3,none⟩=some (.int .i64 p.po)) (⟨qlk,qla,qpo⟩) (fun hHeld=> ?_)
  iterate 28
   refine Tk.gn ?_
  refine wpAnyH_done (by kernel_rfl) ?_ _;(try go_wp2);go_ret;exact⟨rfl,hbd⟩
 ·by_cases hlt:s.la<now
  ·have hwr:IntKind.i64.wrap (now-s.la)=now-s.la:=by rw [IntKind.wrap_i64]<;>omega
   have d1:decide (s.la<now)=true:=by simp [hlt]
   rw [d1];go_enter func81,ntmps81;go_wp2_with fail
   refine Tk.sb 28 (S:=fun w'=>w'.cell? ⟨D,20,none⟩=some (.bool true)∧w'.cell? ⟨D,21,none⟩=some (.int .i64 s.la)∧w'.cell? ⟨D,3,none⟩=some (.int .i64 p.po)) (⟨qlk,qla,qpo⟩) (fun hHeld=> ?_)
   iterate 28
    refine Tk.gn ?_
   refine wpAnyH_done (by kernel_rfl) ?_ _;(try go_wp2);go_ret;exact⟨by simp,hbd⟩
  ·have d1:decide (s.la<now)=false:=by simp;omega
   rw [d1];go_enter func81,ntmps81;go_wp2_with fail
   refine Tk.sb 28 (S:=fun w'=>w'.cell? ⟨D,20,none⟩=some (.bool true)∧w'.cell? ⟨D,21,none⟩=some (.int .i64 s.la)∧w'.cell? ⟨D,3,none⟩=some (.int .i64 p.po)) (⟨qlk,qla,qpo⟩) (fun hHeld=> ?_)
   iterate 28
    refine Tk.gn ?_
   refine wpAnyH_done (by kernel_rfl) ?_ _;(try go_wp2);go_ret;exact⟨rfl,hbd⟩
