/- A part. -/
import Derived.Test.YthiapcajheepbaaGreatDoorPwFltChoose
import Derived.Deep.Onto
import Derived.BigQuiet
set_option linter.all false
open Go.Proofs.Tryz
set_option maxHeartbeats 32000000
set_option maxRecDepth 8000
namespace Go.Proofs.YthiapcajheepbaaGreatDoor
namespace Flt
open Go.RowKit Rw Rec
variable {g cap i k:Nat} {m:Pd} {id:Int} {L:List Pd}

abbrev rD:Nat→Prop:=fun _=>True
def DAt (w:World) (B Q:Nat) (v:Value) (F:FS):Prop:=RAt pK w 118 B Q 0 0 [v,.int .i64 F.last,.int .i64 F.most] v F.L
section
variable {w w' : World} {B Q : Nat} {v v' : Value} {F : FS}
theorem DAt.lt (h:DAt w B Q v F):Q<w.heap.size:=RAt.lt h
theorem DAt.ne (h:DAt w B Q v F):v.ownBlock≠some Q:=RAt.ne h
theorem DAt.cM (h:DAt w B Q v F):w.cell? ⟨Q,2,none⟩=some (.int .i64 F.most):=RAt.cQ h 2 _ rfl
theorem DAt.cN (h:DAt w B Q v F):w.cell? ⟨Q,1,none⟩=some (.int .i64 F.last):=RAt.cQ h 1 _ rfl
theorem DAt.cV (h:DAt w B Q v F):w.cell? ⟨Q,0,none⟩=some v:=RAt.cQ h 0 _ rfl
theorem DAt.fz (h:DAt w B Q v F): ∀j,w.frozen? ⟨Q,j,none⟩=false:=RAt.fz h
theorem DAt.rowLt (h:DAt w B Q v F): ∀g,v.ownBlock=some g→g<w.heap.size:=RAt.rowLt h
theorem DAt.below (h:DAt w B Q v F) (hb:Below w.heap.size w w'):DAt w' B Q v F:=RAt.below h hb
theorem DAt.alloc (h:DAt w B Q v F) (o:Obj):DAt (w.alloc o) B Q v F:=RAt.alloc h o
theorem DAt.drew (h:DAt w B Q v F):DAt w.drew B Q v F:=RAt.drew h
theorem DAt.form (h:DAt w B Q v F): ∃ao cap,v=.slice ao F.L.length cap∧F.L.length≤cap∧cap≤maxLen∧(0<F.L.length→ ∃g,ao=some ⟨g,0,none⟩):=RAt.form h
theorem DAt.pod {n:Nat} (h:DAt w B Q (.slice (some ⟨g,0,none⟩) n cap) F) (hn:n=F.L.length) (hm:F.L[i]? =some m):
  w.cell? ⟨g,i*3,none⟩=some (.int .i64 m.id)∧w.cell? ⟨g,i*3+1,none⟩=some (.int .i64 m.st)∧w.cell? ⟨g,i*3+2,none⟩=some (.int .i64 m.ld)∧ ∀j,w.frozen? ⟨g,j,none⟩=false:=
 ⟨RAt.cells h hn hm 0 _ rfl,RAt.cells h hn hm 1 _ rfl,RAt.cells h hn hm 2 _ rfl,RAt.fzG h hn⟩
theorem DAt.row {ao:Option Addr} {cap:Nat} (h:DAt w B Q (.slice ao F.L.length cap) F):RowAt pK w ao F.L:=RAt.row h
theorem DAt.gQ {n:Nat} (h:DAt w B Q (.slice (some ⟨g,0,none⟩) n cap) F):g≠Q:=fun e=>h.ne (by rw [e];rfl)
theorem DAt.setN (h:DAt w B Q v F) (x:Int):DAt (w.setCell ⟨Q,1,none⟩ (.int .i64 x)) B Q v ⟨F.most,x,F.L⟩:=RAt.setN h 1 _ (by decide)
theorem DAt.regrown {L':List Pd} (h:DAt w B Q v F) (hQ:w'.heap[Q]? =w.heap[Q]?) (hown:w'.ownsRow B 118 3 v' L'.length (cels pK.c L')) (hv:v'.ownBlock≠some Q):DAt (w'.setCell ⟨Q,0,none⟩ v') B Q v' ⟨F.most,F.last,L'⟩:=RAt.regrown h hQ hown hv
end
def Doth (f:Nat) (args:Nat→Array Value) (F F':FS) (e:Ending):Prop:=
 ∀(B Q:Nat) (v:Value) (w:World),DAt w B Q v F→Calls prog f (args Q) w fun e' w'=>e'=e∧ ∃v',DAt w' B Q v' F'∧Turn rD Q v v' w w'

theorem ccount_any (B Q:Nat) (v:Value) (F:FS) (w:World) (hA:DAt w B Q v F) (hL:F.L.length≤1000000000):
  CB 85 #[.pointer (some ⟨Q,0,none⟩)] w (.int .i64 (cnt F.L:Int)):=by
 obtain⟨ao,cap,rfl,hc1,hc2,hao⟩:=hA.form;have cV:=hA.cV;have hQl:=hA.lt;have hR:=hA.row;generalize F.L=L at*;clear hA;go_enter func85,ntmps85;go_wp2;go_loopw [3,4] (fun d i wr=>CnR L w d i wr) (fun _ i _=>L.length-(intOf i).toNat)
 case atStart=>exact⟨0,by omega,rfl,by simp [cnt],Below.refl _ _⟩
 case round=>
  obtain⟨k,hk,rfl,rfl,hb⟩:=hrel;have cVr:=(zk cV hb)
  by_cases hlt:k<L.length
  ·have hlt':(k:Int)<(L.length:Int):=by omega
   obtain⟨g,rfl,hg,hc⟩:=row_pod (hR.below hb) (by omega);obtain⟨m,hm⟩: ∃m,L[k]? =some m:=⟨L[k],by simp [hlt]⟩
   obtain⟨c0,c1,c2⟩:=hc k m hm;have hs:=cnt_step hm;have hd:cnt (L.take k)≤1000000000:=Xc (cnt_le _) (by rw [Xt];omega);clear hc hR cV;cases hm2:stays m
   ·have h4:(m.st !=4)=false:=hm2;simp only [hm2,XU,if_false,XD]at hs;go_wp2;go_roundw
    case rel=>exact⟨k+1,by omega,rfl,by rw [hs],hb⟩
    case measure=>simp [intOf];omega
   ·have h4:(m.st !=4)=true:=hm2;simp only [hm2,if_true]at hs;go_wp2;go_roundw
    case rel=>exact⟨k+1,by omega,rfl,by rw [hs];simp,hb⟩
    case measure=>simp [intOf];omega
  ·obtain rfl:k=L.length:=by omega
   go_wp2;go_ret;exact⟨by rw [XC];rfl,hb⟩
theorem cfind_none (B Q:Nat) (v:Value) (F:FS) (id:Int) (w:World) (hA:DAt w B Q v F) (hL:F.L.length≤1000000000) (hn:F.L.findIdx? (isId id)=none):
  CB 89 #[.pointer (some ⟨Q,0,none⟩),.int .i64 id] w (.int .i64 (-1)):=by
 obtain⟨ao,cap,rfl,hc1,hc2,hao⟩:=hA.form;have hA1:=hA.alloc (.cells #[.int .i64 id] 3);have cV:=hA1.cV;have c2:=cid_none ao cap w.heap.size id F.L _ hA1.row hL (cell_one rfl rfl) hn;clear hn hao hA1 hA;go_enter func89,ntmps89;go_wp2_with(go_at_call 131;(with_reducible refine zg c2 fun w2 hb2=>?_))
 go_ret;exact⟨rfl,((Below.refl _ _).alloc (Xa _) _).trans (hb2.mono (by simp))⟩
theorem cfind_some (B Q:Nat) (v:Value) (F:FS) (id:Int) (i:Nat) (w:World) (hA:DAt w B Q v F) (hL:F.L.length≤1000000000) (hn:F.L.findIdx? (isId id)=some i):
  CB 89 #[.pointer (some ⟨Q,0,none⟩),.int .i64 id] w (.int .i64 (i:Int)):=by
 obtain⟨ao,cap,rfl,hc1,hc2,hao⟩:=hA.form;have hA1:=hA.alloc (.cells #[.int .i64 id] 3);have cV:=hA1.cV;have c2:=cid_some ao cap w.heap.size id F.L _ hA1.row hL (cell_one rfl rfl) hn;clear hn hao hA1 hA;go_enter func89,ntmps89;go_wp2_with(go_at_call 131;(with_reducible refine zg c2 fun w2 hb2=>?_))
 go_ret;exact⟨rfl,((Below.refl _ _).alloc (Xa _) _).trans (hb2.mono (by simp))⟩

def outL (id:Int) (L:List Pd):List Pd:=L.filter (fun p=>p.id !=id)
theorem outL_step (h:L[k]? =some m):outL id (L.take (k+1))=outL id (L.take k)++if(m.id !=id)=true then [m]else []:=by
 unfold outL;rw [XB,h,List.filter_append];congr 1;cases hk:(m.id !=id)<;>simp [hk]
theorem outL_le (id:Int) (L:List Pd):(outL id L).length≤L.length:=List.length_filter_le _ _
theorem outL_at {p:Pd} (h:L.Pairwise (fun p q=>p.id<q.id)) (hp:L[i]? =some p):outL p.id L=L.eraseIdx i:=by
 have hs:=split_at hp;have h2:=h;rw [hs,X3]at h2;obtain⟨_,hB,hAB⟩:=h2;have hA: ∀x∈L.take i,(x.id !=p.id)=true:=fun x hx=>by have:=hAB x hx p (by simp);simp;omega
 have hD: ∀x∈L.drop (i+1),(x.id !=p.id)=true:=fun x hx=>by have:=(List.pairwise_cons.1 hB).1 x hx;simp;omega
 unfold outL;conv=>lhs;rw [hs]
 rw [List.filter_append,List.filter_cons,List.filter_eq_self.2 hA,List.filter_eq_self.2 hD,erase_at];simp
def OutR (id:Int) (L:List Pd) (w:World) (v i:Value) (wr:World):Prop:=
 ∃k:Nat,k≤L.length∧i=.int .i64 k∧wr.ownsRow w.heap.size 118 3 v (outL id (L.take k)).length (cels pK.c (outL id (L.take k)))∧Below w.heap.size w wr
theorem outR_add {w wr w3:World} {v v':Value} {o:Obj} (hk:k<L.length) (hm:L[k]? =some m) (hp:(m.id !=id)=true) (hb:Below w.heap.size w wr) (hown:wr.ownsRow w.heap.size 118 3 v (outL id (L.take k)).length (cels pK.c (outL id (L.take k))))
  (hown3:w3.ownsRow w.heap.size 118 3 v' ((outL id (L.take k)).length+1) (cels pK.c (outL id (L.take k))++pcel m)) (hg:(wr.alloc o).grownBy w3 v.ownBlock) (i:Value) (hi:i=.int .i64 ((k+1:Nat):Int)):OutR id L w v' i w3:=by
 refine⟨k+1,by omega,hi,?_,(hb.alloc hb.size o).grown hg (by simp;have:=hb.size;omega) (fun q hq=>(hown.lt q hq).1)⟩;have e1:outL id (L.take (k+1))=outL id (L.take k)++ [m]:=by rw [outL_step hm,hp];rfl
 rw [e1,Xg,cels_append];have:cels pK.c [m]=pcel m:=by simp [cels];rfl
 rw [this];exact hown3
theorem out_any (B Q:Nat) (v:Value) (F:FS) (id:Int) (w:World) (hA:DAt w B Q v F) (hL:F.L.length≤1000000000):
  Calls prog 90 #[.pointer (some ⟨Q,0,none⟩),.int .i64 id] w fun e w'=>e=.returned (.tuple #[])∧ ∃v',DAt w' B Q v' ⟨F.most,F.last,outL id F.L⟩∧Turn rD Q v v' w w':=by
 obtain⟨i0,hi,hz0,hz1,hz2⟩:=info_parts info_pod;obtain⟨ao,cap,rfl,hc1,hc2,hao⟩:=hA.form;go_enter func90,ntmps90;go_wp2;go_loopw [4,5] (fun v i wr=>OutR id F.L w v i wr) (fun _ i _=>F.L.length-(intOf i).toNat)
 case atStart=>exact⟨0,by omega,rfl,XO _ _ _ _,Below.refl _ _⟩
 case round=>
  obtain⟨k,hk,rfl,hown,hbw⟩:=hrel;have hAr:=hA.below hbw;have cV:=hAr.cV;have hQl:=hAr.lt;by_cases hlt:k<F.L.length
  ·have hlt':(k:Int)<(F.L.length:Int):=by omega
   obtain⟨g,rfl⟩:=hao (by omega);obtain⟨m,hm⟩: ∃m,F.L[k]? =some m:=⟨F.L[k],by simp [hlt]⟩
   obtain⟨d0,d1,d2,fz⟩:=hAr.pod rfl hm;have hLk:(outL id (F.L.take k)).length≤1000000000:=Xc (outL_le _ _) (by rw [Xt];omega);have hsz:=hbw.size;have HO:=zh hown;have HB:=zh hbw;clear hAr fz hown hbw hA;have HR:Hid (∀(v':Value) (w3:World) (o:Obj) (i:Value),(m.id !=id)=true→w3.ownsRow w.heap.size 118 3 v' ((outL id (F.L.take k)).length+1) (cels pK.c (outL id (F.L.take k))++pcel m)→(wr.alloc o).grownBy w3 u4.ownBlock→i=.int .i64 ((k+1:Nat):Int)→OutR id F.L w v' i w3):=fun v' w3 o i hp h1 h2 hi=>outR_add hlt hm hp HB.out HO.out h1 h2 i hi;have HN:Hid ((m.id !=id)=false→ ∀(i:Value),i=.int .i64 ((k+1:Nat):Int)→OutR id F.L w u4 i wr):=by
    intro hp i hi;have e1:outL id (F.L.take (k+1))=outL id (F.L.take k):=by rw [outL_step hm,hp];simp
    exact⟨k+1,by omega,hi,by rw [e1];exact HO.out,HB.out⟩
   clear hm;generalize (outL id (F.L.take k)).length=N0 at*;generalize cels pK.c (outL id (F.L.take k))=C0 at*;cases hid:(m.id !=id)
   ·go_wp2;go_roundw
    case rel=>exact HN.out hid _ (by first|rfl|simp)
    case measure=>simp [intOf];omega
   ·go_wp2_with(at_builtin;refine wpList_append_own _ rfl _ _ 65 rfl w.heap.size 118 i0 (.agg #[.int .i64 0,.int .i64 0,.int .i64 0]) 3 24 underlying65 hi hz0 hz1 hz2 rfl (by decide) _ N0 C0 rfl (HO.out.alloc _) ⟨wr.heap.size,0,none⟩ 1 1 [.int .i64 m.id,.int .i64 m.st,.int .i64 m.ld] rfl rfl (cell_three _ _ _ _ _) (fun u hu=>by simp at hu;rcases hu with rfl|rfl|rfl<;>rfl) (by unfold maxLen;omega) (by omega) (by simp;omega) ?_;intro v' w3 hown3 hgrow3 _)
    go_wp2;go_roundw
    case rel=>exact HR.out _ _ _ _ hid hown3 hgrow3 (by first|rfl|simp)
    case measure=>simp [intOf];omega
  ·obtain rfl:k=F.L.length:=by omega
   rw [XC]at hown;have hbQ:B≤w.heap.size:=by have:=RAt.bQ hA;have:=hA.lt;omega
   have hfS:=hAr.fz 0;have hlt1:=hA.lt;have hv:u4.ownBlock≠some Q:=fun e=>by have:=(hown.lt Q e).1;omega
   have hA5:=DAt.regrown hAr rfl (hown.mono hbQ) hv;have hT5:Turn rD Q (.slice ao F.L.length cap) u4 w wr:=by
    have h1:=Turn.of_below (r:=rD) (Q:=Q) (v:=.slice ao F.L.length cap) hbw;exact⟨h1.os,h1.tape,h1.output,h1.size,h1.block,fun g hg=>Or.inr (by have:=(hown.lt g hg).1;omega),h1.rest⟩
   obtain⟨bo,bn,bc,hu4⟩: ∃bo bn bc,u4=.slice bo bn bc:=by
    rcases hown.2 with⟨h0,_⟩|⟨_,_,_,h0,_⟩<;>exact⟨_,_,_,h0⟩
   subst hu4;clear hown hAr hA;go_wp2;go_end0;exact⟨rfl,_,hA5,hT5.setRow 0 _⟩

theorem cturn_any (F:FS) (id fr:Int) (hL:F.L.length≤1000000000) (hf:fr=1∨fr=2):Doth 38 (fun Q=> #[.pointer (some ⟨Q,0,none⟩),.int .i64 id,.int .i64 fr]) F (turnS F id fr) (.returned (.int .i64 (turnE F.L id fr))):=by
 intro B Q v w hA;unfold turnS;have hf1:1≤fr:=by omega
 have hf2:fr≤2:=by omega
 clear hf;cases hn:F.L.findIdx? (isId id)with
 |none=>
  obtain⟨e1,e2⟩:=turn_none (fr:=fr) hn;rw [e1,e2];have c:=cfind_none B Q v F id w hA hL hn;clear hn e1 e2;go_enter func38,ntmps38;go_wp2_with(go_at_call 89;(with_reducible refine zg c fun w2 hb2=>?_))
  go_ret;exact⟨rfl,v,hA.below hb2,Turn.of_below hb2⟩
 |some i=>
  obtain⟨m,hm,_⟩:=find_get hn;have c:=cfind_some B Q v F id i w hA hL hn;have hi:i<F.L.length:=(Xe.1 hm).1;have hi':(i:Int)<(F.L.length:Int):=by omega
  have hi0: ¬(i:Int)<0:=by omega
  obtain⟨ao,cap,rfl,hc1,hc2,hao⟩:=hA.form;obtain⟨g,rfl⟩:=hao (by omega);by_cases hs:m.st=fr
  ·obtain⟨e1,e2⟩:=turn_ok hn hm hs;rw [e1,e2];have h9:(m.st !=fr)=false:=by simp [hs]
   have HM:=zh hm;have HA:=zh hA;clear hn e1 e2 hs hm hA;go_enter func38,ntmps38;go_wp2_with(go_at_call 89;(with_reducible refine zg c fun w2 hb2=>?_);have hA2:=HA.out.below hb2;have cV:=hA2.cV;obtain⟨d0,d1,d2,fz⟩:=hA2.pod rfl HM.out;have f1:=fz (i*3+1))
   go_ret;exact⟨rfl,_,RAt.put (j:=1) hA2 rfl HM.out (by decide) rfl,(Turn.of_below hb2).trans (Turn.setG _ _)⟩
  ·obtain⟨e1,e2⟩:=turn_state hn hm hs;rw [e1,e2];have h9:(m.st !=fr)=true:=by simp [hs]
   have HM:=zh hm;have HA:=zh hA;clear hn e1 e2 hs hm hA;go_enter func38,ntmps38;go_wp2_with(go_at_call 89;(with_reducible refine zg c fun w2 hb2=>?_);have hA2:=HA.out.below hb2;have cV:=hA2.cV;obtain⟨d0,d1,d2,fz⟩:=hA2.pod rfl HM.out;have f1:=fz (i*3+1))
   go_ret;exact⟨rfl,_,hA2,Turn.of_below hb2⟩
theorem ccrash_any (F:FS) (id:Int) (hI:Inv F) (hL:F.L.length≤1000000000):Doth 39 (fun Q=> #[.pointer (some ⟨Q,0,none⟩),.int .i64 id]) F (crashS F id) (.returned (.tuple #[.int .i64 (crashN F.L id),.int .i64 (crashE F.L id)])):=by
 intro B Q v w hA;unfold crashS;cases hn:F.L.findIdx? (isId id)with
 |none=>
  obtain⟨e1,e2,e3⟩:=crash_none hn;rw [e1,e2,e3];have c:=cfind_none B Q v F id w hA hL hn;clear hn e1 e2 e3;go_enter func39,ntmps39;go_wp2_with(go_at_call 89;(with_reducible refine zg c fun w2 hb2=>?_))
  go_ret2;exact⟨rfl,v,hA.below hb2,Turn.of_below hb2⟩
 |some i=>
  obtain⟨m,hm,_⟩:=find_get hn;obtain⟨e1,e2,e3⟩:=crash_some hn hm;rw [e1,e2,e3];have c:=cfind_some B Q v F id i w hA hL hn;have hi:i<F.L.length:=(Xe.1 hm).1;have hi':(i:Int)<(F.L.length:Int):=by omega
  have hi0: ¬(i:Int)<0:=by omega
  have hid:m.id=id:=by obtain⟨m',hm',hp⟩:=find_get hn;rw [hm]at hm';cases hm';simpa [isId]using hp
  have hout:=outL_at hI.srt hm;rw [hid]at hout;obtain⟨ao,cap,rfl,hc1,hc2,hao⟩:=hA.form;have cout:=fun w h=>out_any B Q (.slice ao F.L.length cap) F id w h hL;rw [hout]at cout;obtain⟨g,rfl⟩:=hao (by omega);have HM:=zh hm;have HA:=zh hA;clear hn e1 e2 e3 hm hA hout hid;go_enter func39,ntmps39
  go_wp2_with (first
   |(go_at_call 89;(with_reducible refine zg c fun w2 hb2=>?_);have hA2:=HA.out.below hb2;have cV:=hA2.cV;obtain⟨d0,d1,d2,fz⟩:=hA2.pod rfl HM.out;have HA2:=zh hA2;clear hA2)
   |(go_at_call 90;(with_reducible refine(cout w2 HA2.out).mono ?_);rintro e w3 ⟨rfl,v3,hA3,hT3⟩))
  go_ret2;exact⟨rfl,v3,hA3,(Turn.of_below hb2).trans hT3⟩

theorem cdone_any (F:FS) (id:Int) (hI:Inv F) (hL:F.L.length≤1000000000):Doth 43 (fun Q=> #[.pointer (some ⟨Q,0,none⟩),.int .i64 id]) F (doneS F id) (.returned (.int .i64 (doneE F.L id))):=by
 intro B Q v w hA;unfold doneS;cases hn:F.L.findIdx? (isId id)with
 |none=>
  obtain⟨e1,e2⟩:=done_none hn;rw [e1,e2];have c:=cfind_none B Q v F id w hA hL hn;clear hn e1 e2;go_enter func43,ntmps43;go_wp2_with(go_at_call 89;(with_reducible refine zg c fun w2 hb2=>?_))
  go_ret;exact⟨rfl,v,hA.below hb2,Turn.of_below hb2⟩
 |some i=>
  obtain⟨m,hm,_⟩:=find_get hn;have c:=cfind_some B Q v F id i w hA hL hn;have hi:i<F.L.length:=(Xe.1 hm).1;have hi':(i:Int)<(F.L.length:Int):=by omega
  have hi0: ¬(i:Int)<0:=by omega
  have hbd:=hI.at hm;have hmo:=hI.m;unfold Okp at hbd;have hl1:0≤m.ld:=by omega
  have hl2:m.ld≤100:=by omega
  clear hbd hmo;obtain⟨ao,cap,rfl,hc1,hc2,hao⟩:=hA.form;obtain⟨g,rfl⟩:=hao (by omega);have HM:=zh hm;have HA:=zh hA;by_cases hs:m.ld=0
  ·obtain⟨e1,e2⟩:=done_state hn hm hs;rw [e1,e2];have h9:(m.ld==0)=true:=by simp [hs]
   clear hn e1 e2 hs hm hA;go_enter func43,ntmps43;go_wp2_with(go_at_call 89;(with_reducible refine zg c fun w2 hb2=>?_);have hA2:=HA.out.below hb2;have cV:=hA2.cV;obtain⟨d0,d1,d2,fz⟩:=hA2.pod rfl HM.out;have f2:=fz (i*3+2))
   go_ret;exact⟨rfl,_,hA2,Turn.of_below hb2⟩
  ·obtain⟨e1,e2⟩:=done_ok hn hm hs;rw [e1,e2];have h9:(m.ld==0)=false:=by simp [hs]
   unfold doneL1;by_cases h1:m.ld=1
   ·have h8:(m.ld-1==0)=true:=by simp;omega
    by_cases h4:m.st=4
    ·have h5:(m.st==4)=true:=by simp [h4]
     rw [if_pos ⟨h1,h4⟩];have hid:m.id=id:=by obtain⟨m',hm',hp⟩:=find_get hn;rw [hm]at hm';cases hm';simpa [isId]using hp
     subst hid;have hil:(F.L.set i ⟨m.id,m.st,m.ld-1⟩)[i]? =some ⟨m.id,m.st,m.ld-1⟩:=by simp [hi]
     have hout:=outL_at (srt_set (q:=⟨m.id,m.st,m.ld-1⟩) hI.srt hm rfl) hil;simp only at hout;have c4:=fun w h=>out_any B Q (.slice (some ⟨g,0,none⟩) F.L.length cap) ⟨F.most,F.last,F.L.set i ⟨m.id,m.st,m.ld-1⟩⟩ m.id w h (by simpa using hL);simp only at c4;rw [hout]at c4;clear hn e1 e2 hs hm hA h1 h4 hout hil;go_enter func43,ntmps43
     go_wp2_with (first
      |(go_at_call 89;(with_reducible refine zg c fun w2 hb2=>?_);have hA2:=HA.out.below hb2;have cV:=hA2.cV;obtain⟨d0,d1,d2,fz⟩:=hA2.pod rfl HM.out;have f2:=fz (i*3+2);have hgQ:=hA2.gQ;have HA3:Hid (DAt (w2.setCell ⟨g,i*3+2,none⟩ (.int .i64 (m.ld-1))) B Q (.slice (some ⟨g,0,none⟩) F.L.length cap) ⟨F.most,F.last,F.L.set i ⟨m.id,m.st,m.ld-1⟩⟩):=RAt.put (j:=2) hA2 rfl HM.out (by decide) rfl;clear hA2)
      |(go_at_call 90;(with_reducible refine(c4 _ HA3.out).mono ?_);rintro e w5 ⟨rfl,v5,hA5,hT5⟩))
     go_ret;exact⟨rfl,v5,hA5,((Turn.of_below hb2).trans (Turn.setG _ _)).trans hT5⟩
    ·have h5:(m.st==4)=false:=by simp [h4]
     rw [if_neg (fun h=>h4 h.2)];clear hn e1 e2 hs hm hA h1 h4;go_enter func43,ntmps43;go_wp2_with(go_at_call 89;(with_reducible refine zg c fun w2 hb2=>?_);have hA2:=HA.out.below hb2;have cV:=hA2.cV;obtain⟨d0,d1,d2,fz⟩:=hA2.pod rfl HM.out;have f2:=fz (i*3+2);have hgQ:=hA2.gQ;have HA3:Hid (DAt (w2.setCell ⟨g,i*3+2,none⟩ (.int .i64 (m.ld-1))) B Q (.slice (some ⟨g,0,none⟩) F.L.length cap) ⟨F.most,F.last,F.L.set i ⟨m.id,m.st,m.ld-1⟩⟩):=RAt.put (j:=2) hA2 rfl HM.out (by decide) rfl;clear hA2)
     go_ret;exact⟨rfl,_,HA3.out,(Turn.of_below hb2).trans (Turn.setG _ _)⟩
   ·have h8:(m.ld-1==0)=false:=by rw [beq_eq_false_iff_ne];omega
    rw [if_neg (fun h=>h1 h.1)];clear hn e1 e2 hs hm hA h1;go_enter func43,ntmps43;go_wp2_with(go_at_call 89;(with_reducible refine zg c fun w2 hb2=>?_);have hA2:=HA.out.below hb2;have cV:=hA2.cV;obtain⟨d0,d1,d2,fz⟩:=hA2.pod rfl HM.out;have f2:=fz (i*3+2);have hgQ:=hA2.gQ;have HA3:Hid (DAt (w2.setCell ⟨g,i*3+2,none⟩ (.int .i64 (m.ld-1))) B Q (.slice (some ⟨g,0,none⟩) F.L.length cap) ⟨F.most,F.last,F.L.set i ⟨m.id,m.st,m.ld-1⟩⟩):=RAt.put (j:=2) hA2 rfl HM.out (by decide) rfl;clear hA2)
    go_ret;exact⟨rfl,_,HA3.out,(Turn.of_below hb2).trans (Turn.setG _ _)⟩


def cgiv (p q:Pd):Bool:=decide (p.ld<q.ld)
theorem cgiv_same {F:FS} (h:Inv F):pick (room F.most) cgiv F.L 0 none=pick (room F.most) given F.L 0 none:=by
 refine pick_same F.L 0 none ?_ (fun x hx=>by cases hx);refine h.srt.imp ?_;intro q p hlt _ _;unfold cgiv given;split
 ·rfl
 ·rename_i hn;simp at hn;rw [hn];have: ¬p.id<q.id:=by omega
  simp [this]
def CgR (L:List Pd) (most:Int) (w:World) (b i:Value) (wr:World):Prop:=
 ∃(k:Nat) (bo:Option (Nat×Pd)),k≤L.length∧i=.int .i64 k∧b=.int .i64 (pickV bo)∧In (room most) L k bo∧pick (room most) cgiv (L.drop k) k bo=pick (room most) cgiv L 0 none∧Below w.heap.size w wr
theorem CgR.next {L:List Pd} {most:Int} {w w':World} {k:Nat} {bo bo':Option (Nat×Pd)} {m:Pd} {b i:Value} (hk:k<L.length) (hm:L[k]? =some m) (hIn:In (room most) L k bo) (hP:pick (room most) cgiv (L.drop k) k bo=pick (room most) cgiv L 0 none) (hn:nxt (room most) cgiv m k bo=bo')
  (hi:i=.int .i64 ((k+1:Nat):Int)) (hb:b=.int .i64 (pickV bo')) (hB:Below w.heap.size w w'):CgR L most w b i w':=by
 refine⟨k+1,bo',by omega,hi,hb,?_,?_,hB⟩
 ·rw [←hn];exact hIn.next hm
 ·rw [←hP,pick_step bo hm,hn]
theorem cgive_any (F:FS) (hI:Inv F) (hL:F.L.length≤1000000000):Doth 92 (fun Q=> #[.pointer (some ⟨Q,0,none⟩)]) F (giveS F) (.returned (.tuple #[.int .i64 (giveN F),.int .i64 (giveE F)])):=by
 intro B Q v w hA;obtain⟨ao,cap,rfl,hc1,hc2,hao⟩:=hA.form;have hQl:=hA.lt;have HA:=zh hA;have HI:=zh hI;clear hA hI;go_enter func92,ntmps92;go_wp2;go_loopw [4,5] (fun b i wr=>CgR F.L F.most w b i wr) (fun _ i _=>F.L.length-(intOf i).toNat)
 case atStart=>exact⟨0,none,by omega,rfl,rfl,In.none _ _ _,rfl,Below.refl _ _⟩
 case round=>
  obtain⟨k,bo,hk,rfl,rfl,hIn,hP,hb⟩:=hrel;have hAr:=HA.out.below hb;have cV:=hAr.cV;have cM:=hAr.cM;have hQr:=hAr.lt;by_cases hlt:k<F.L.length
  ·have hlt':(k:Int)<(F.L.length:Int):=by omega
   obtain⟨g,rfl⟩:=hao (by omega);obtain⟨m,hm⟩: ∃m,F.L[k]? =some m:=⟨F.L[k],by simp [hlt]⟩
   obtain⟨d0,d1,d2,fz⟩:=hAr.pod rfl hm;have HN:Hid (∀(bo':Option (Nat×Pd)) (b i:Value) (w':World),nxt (room F.most) cgiv m k bo=bo'→i=.int .i64 ((k+1:Nat):Int)→b=.int .i64 (pickV bo')→Below w.heap.size w w'→CgR F.L F.most w b i w'):=fun bo' b i w' a1 a2 a3 a4=>CgR.next hlt hm hIn hP a1 a2 a3 a4;have HB:=zh hb;cases h3:(m.st==3)
   ·have hn:nxt (room F.most) cgiv m k bo=bo:=by unfold nxt room;rw [h3];simp
    have HE:=zh hn;clear hn hAr fz hP hIn hb hm;go_wp2_with fail
    go_quiet (fail)
    go_wp2;go_roundw
    case rel=>exact HN.out _ _ _ _ HE.out rfl (by first|rfl|assumption) (quiet_below HB.out _)
    case measure=>simp [intOf];omega
   ·by_cases hlm:m.ld<F.most
    ·cases bo with
     |none=>
      have hn:nxt (room F.most) cgiv m k none=some (k,m):=by unfold nxt room beats;rw [h3];simp [hlm]
      have HE:=zh hn;clear hn hAr fz hP hIn hb hm;simp only [pickV];go_wp2_with fail
      go_quiet (fail)
      go_wp2;go_roundw
      case rel=>exact HN.out _ _ _ _ HE.out rfl rfl (quiet_below HB.out _)
      case measure=>simp [intOf];omega
     |some x=>
      obtain⟨j,q⟩:=x;obtain⟨hj,hq,_⟩:=hIn (j,q) rfl;simp only at hj hq;obtain⟨e0,e1,e2,_⟩:=hAr.pod rfl hq;have hjl:j<F.L.length:=(Xe.1 hq).1;have hjl':(j:Int)<(F.L.length:Int):=(by omega);have hj0: ¬(j:Int)<0:=(by omega);by_cases hlq:m.ld<q.ld
      ·have hn:nxt (room F.most) cgiv m k (some (j,q))=some (k,m):=by unfold nxt room beats cgiv;rw [h3];simp [hlm,hlq]
       have HE:=zh hn;clear hn hAr fz hP hIn hb hm hq;simp only [pickV];go_wp2_with fail
       go_quiet (fail)
       go_wp2;go_roundw
       case rel=>exact HN.out _ _ _ _ HE.out rfl rfl (quiet_below HB.out _)
       case measure=>simp [intOf];omega
      ·have hn:nxt (room F.most) cgiv m k (some (j,q))=some (j,q):=by unfold nxt room beats cgiv;rw [h3];simp [hlm,hlq]
       have HE:=zh hn;clear hn hAr fz hP hIn hb hm hq;simp only [pickV];go_wp2_with fail
       go_quiet (fail)
       go_wp2;go_roundw
       case rel=>exact HN.out _ _ _ _ HE.out rfl rfl (quiet_below HB.out _)
       case measure=>simp [intOf];omega
    ·have hn:nxt (room F.most) cgiv m k bo=bo:=by unfold nxt room;rw [h3];simp [hlm]
     have HE:=zh hn;have hlm':decide (m.ld<F.most)=false:=by simp [hlm]
     clear hn hAr fz hP hIn hb hm;go_wp2_with fail
     go_quiet (fail)
     go_wp2;go_roundw
     case rel=>exact HN.out _ _ _ _ HE.out rfl (by first|rfl|assumption) (quiet_below HB.out _)
     case measure=>simp [intOf];omega
  ·obtain rfl:k=F.L.length:=by omega
   rw [List.drop_length]at hP;have hP2:bo=pick (room F.most) given F.L 0 none:=by rw [←cgiv_same HI.out,←hP];rfl
   have HB:=zh hb;cases hp:pick (room F.most) given F.L 0 none with
   |none=>
    obtain⟨e1,e2,e3⟩:=give_none hp;rw [hp]at hP2;subst hP2;have HG:Hid (giveS F=F∧giveN F=0∧giveE F=4):=⟨e1,e2,e3⟩
    clear e1 e2 e3 hP hp hIn hb;simp only [pickV];go_wp2;go_ret2;rw [HG.out.1,HG.out.2.1,HG.out.2.2];exact⟨rfl,_,hAr,Turn.of_below HB.out⟩
   |some x=>
    obtain⟨i,m⟩:=x;obtain⟨hi,hm,_⟩:=pick_mem hp;simp only at hi hm;obtain⟨e1,e2,e3⟩:=give_some hp;rw [hp]at hP2;subst hP2;have HG:Hid (giveS F=⟨F.most,F.last,F.L.set i ⟨m.id,m.st,m.ld+1⟩⟩∧giveN F=m.id∧giveE F=0):=⟨e1,e2,e3⟩
    obtain⟨g,rfl⟩:=hao (by omega);obtain⟨d0,d1,d2,fz⟩:=hAr.pod rfl hm;have f2:=fz (i*3+2);have hgQ:=hAr.gQ;have hi':(i:Int)<(F.L.length:Int):=(by omega);have hi0: ¬(i:Int)<0:=(by omega);have hbd:=HI.out.at hm;have hmo:=HI.out.m;unfold Okp at hbd;have hl1:0≤m.ld:=(by omega);have hl2:m.ld≤100:=(by omega);have HA2:Hid (DAt (wr.setCell ⟨g,i*3+2,none⟩ (.int .i64 (m.ld+1))) B Q (.slice (some ⟨g,0,none⟩) F.L.length cap) ⟨F.most,F.last,F.L.set i ⟨m.id,m.st,m.ld+1⟩⟩):=RAt.put (j:=2) hAr rfl hm (by decide) rfl;clear e1 e2 e3 hP hp hIn hb hbd hmo hAr fz hm;simp only [pickV];go_wp2;go_ret2;rw [HG.out.1,HG.out.2.1,HG.out.2.2];exact⟨rfl,_,HA2.out,(Turn.of_below HB.out).trans (Turn.setG _ _)⟩
