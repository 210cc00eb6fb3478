/- A part. -/
import Derived.Test.YthiapcajheepbaaGreatDoorPwQuePut
import Derived.Deep.Onto
set_option linter.all false
open Go.Proofs.Tryz
set_option maxHeartbeats 32000000
set_option maxRecDepth 8000
namespace Go.Proofs.YthiapcajheepbaaGreatDoor
namespace Que
open Go.RowKit
variable {L:List M} {w:World}

theorem akR_add {id:Int} {wr w3:World} {k:Nat} {m:M} {v v':Value} {o:Obj} (hk:k<L.length) (hm:L[k]? =some m) (hp:keepP id m=true) (hb:Below w.heap.size w wr) (hown:wr.ownsRow w.heap.size 128 3 v (ackL id (L.take k)).length (cels (ackL id (L.take k))))
  (hown3:w3.ownsRow w.heap.size 128 3 v' ((ackL id (L.take k)).length+1) (cels (ackL id (L.take k))++cel m)) (hg:(wr.alloc o).grownBy w3 v.ownBlock) (e i:Value) (he:e=.int .i64 (ackE id (L.take (k+1)))) (hi:i=.int .i64 ((k+1:Nat):Int)):AkR id L w v' e i w3:=by
 refine⟨k+1,by omega,hi,he,?_,(hb.alloc hb.size o).grown hg (by simp;have:=hb.size;omega) (fun q hq=>(hown.lt q hq).1)⟩;have e1:ackL id (L.take (k+1))=ackL id (L.take k)++ [m]:=by rw [ackL_step hm,hp];rfl
 rw [e1,Xg,cels_append];exact hown3
theorem lack_yes (B Q:Nat) (last:Int) (v:Value) (L L1:List M) (now id:Int) (w:World) (hA:QAt w 128 B Q 1 0 last v L) (hL:L.length≤200) (h3:0≤now) (h4:now≤1099511627776) (hb:backL now L=L1):
  Calls prog 37 #[.pointer (some ⟨Q,0,none⟩),.int .i64 now,.int .i64 id] w fun e w'=>e=.returned (.int .i64 (ackE id L1))∧ ∃v',QAt w' 128 B Q 1 0 last v' (ackL id L1)∧Turn rL Q v v' w w':=by
 obtain⟨i0,hi,hz0,hz1,hz2⟩:=info_parts info_msg;have hl:L1.length≤200:=by rw [←hb,backL_len];exact hL
 have hll:L1.length=L.length:=by rw [←hb,backL_len]
 obtain⟨ao,cap,rfl,hc1,hc2,hao⟩:=hA.form;have c2:=atS B Q cap ao last L L1 now w hA h3 h4 hL hb;clear hA hb;go_enter func37,ntmps37;go_wp2_with(go_at_call 88;(with_reducible refine c2.mono ?_);rintro e w1 ⟨rfl,hA1,hT1⟩)
 go_loopw [7,8,9] (fun v e i wr=>AkR id L1 w1 v e i wr) (fun _ _ i _=>L1.length-(intOf i).toNat)
 case atStart=>exact⟨0,by omega,rfl,rfl,XO _ _ _ _,Below.refl _ _⟩
 case round=>
  obtain⟨k,hk,rfl,rfl,hown,hbw⟩:=hrel;have hAr:=hA1.below hbw;have cS:=hAr.cS;have hQl:=hAr.lt;by_cases hlt:k<L1.length
  ·have hlt':(k:Int)<(L1.length:Int):=by omega
   obtain⟨g,rfl⟩:=hao (by omega);obtain⟨m,hm⟩: ∃m,L1[k]? =some m:=⟨L1[k],by simp [hlt]⟩
   obtain⟨d0,d1,d2,fz⟩:=hAr.cells rfl hm;have hES:=ackE_step (id:=id) hm;have hLk:(ackL id (L1.take k)).length≤200:=Xc (ackL_le _ _) (by rw [Xt];omega);have hsz:=hbw.size;have HO:=zh hown;have HB:=zh hbw;clear hAr fz hown hbw;obtain⟨id',till,tk⟩:=m;simp only at d0 d1 d2 hES;have HR:Hid (∀(v':Value) (w3:World) (o:Obj) (e i:Value),keepP id ⟨id',till,tk⟩=true→w3.ownsRow w1.heap.size 128 3 v' ((ackL id (L1.take k)).length+1) (cels (ackL id (L1.take k))++cel ⟨id',till,tk⟩)→(wr.alloc o).grownBy w3 u7.ownBlock→e=.int .i64 (ackE id (L1.take (k+1)))→i=.int .i64 ((k+1:Nat):Int)→AkR id L1 w1 v' e i w3):=fun v' w3 o e i hp h1 h2 he hi=>akR_add hlt hm hp HB.out HO.out h1 h2 e i he hi;have HN:Hid (keepP id ⟨id',till,tk⟩=false→ ∀(e i:Value),e=.int .i64 (ackE id (L1.take (k+1)))→i=.int .i64 ((k+1:Nat):Int)→AkR id L1 w1 u7 e i wr):=by
    intro hp e i he hi;have e1:ackL id (L1.take (k+1))=ackL id (L1.take k):=by rw [ackL_step hm,hp];simp
    exact⟨k+1,by omega,hi,he,by rw [e1];exact HO.out,HB.out⟩
   have HE:=zh hES;clear hES hm;generalize (ackL id (L1.take k)).length=N0 at*;generalize cels (ackL id (L1.take k))=C0 at*;generalize ackE id (L1.take k)=E0 at*;generalize ackE id (L1.take (k+1))=E1 at*;by_cases hid:id'=id
   ·subst hid;cases tk
    ·have hE1:E1=7:=by have:=HE.out;simpa using this
     go_wp2_with(at_builtin;refine wpList_append_own _ rfl _ _ 60 rfl w1.heap.size 128 i0 (.agg #[.int .i64 0,.int .i64 0,.bool false]) 3 24 underlying60 hi hz0 hz1 hz2 rfl (by decide) _ N0 C0 rfl (HO.out.alloc _) ⟨wr.heap.size,0,none⟩ 1 1 [.int .i64 id',.int .i64 till,.bool false] rfl rfl (cell_three _ _ _ _ _) (fun u hu=>by simp at hu;rcases hu with rfl|rfl|rfl<;>rfl) (by unfold maxLen;omega) (by omega) (by simp;omega) ?_;intro v' w3 hown3 hgrow3 _)
     go_wp2;go_roundw
     case rel=>exact HR.out _ _ _ _ _ (by simp [keepP]) hown3 hgrow3 (by rw [hE1]) (by first|rfl|simp)
     case measure=>simp [intOf];omega
    ·have hE1:E1=0:=by have:=HE.out;simpa using this
     go_wp2;go_roundw
     case rel=>exact HN.out (by simp [keepP]) _ _ (by rw [hE1]) (by first|rfl|simp)
     case measure=>simp [intOf];omega
   ·have hid2:(id'==id)=false:=by simpa using hid
    have hE1:E1=E0:=by have:=HE.out;simpa [hid]using this
    have hkp:keepP id ⟨id',till,tk⟩=true:=by simp [keepP,hid]
    go_wp2_with(at_builtin;refine wpList_append_own _ rfl _ _ 60 rfl w1.heap.size 128 i0 (.agg #[.int .i64 0,.int .i64 0,.bool false]) 3 24 underlying60 hi hz0 hz1 hz2 rfl (by decide) _ N0 C0 rfl (HO.out.alloc _) ⟨wr.heap.size,0,none⟩ 1 1 [.int .i64 id',.int .i64 till,.bool tk] rfl rfl (cell_three _ _ _ _ _) (fun u hu=>by simp at hu;rcases hu with rfl|rfl|rfl<;>rfl) (by unfold maxLen;omega) (by omega) (by simp;omega) ?_;intro v' w3 hown3 hgrow3 _)
    go_wp2;go_roundw
    case rel=>exact HR.out _ _ _ _ _ hkp hown3 hgrow3 (by rw [hE1]) (by first|rfl|simp)
    case measure=>simp [intOf];omega
  ·obtain rfl:k=L1.length:=by omega
   rw [XC]at hown;have hbQ:B≤w1.heap.size:=by have:=hA1.bQ;have:=hA1.lt;omega
   have hfS:=hAr.fz 0;have hlt1:=hA1.lt;have hv:u7.ownBlock≠some Q:=fun e=>by have:=(hown.lt Q e).1;omega
   have hA5:=hAr.regrown (by decide) rfl (hown.mono hbQ) hv;have hT5:Turn rL Q (.slice ao L.length cap) u7 w wr:=by
    have h1:=hT1.trans (Turn.of_below (Q:=Q) (v:=.slice ao L1.length cap) hbw);have hs1:=hT1.size;exact⟨h1.os,h1.tape,h1.output,h1.size,h1.block,fun g hg=>Or.inr (by have:=(hown.lt g hg).1;omega),h1.rest⟩
   have hone:u7.cells=#[u7]:=by
    rcases hown.2 with⟨h0,_⟩|⟨_,_,_,h0,_⟩<;>rw [h0]<;>rfl
   obtain⟨bo,bn,bc,hu7⟩: ∃bo bn bc,u7=.slice bo bn bc:=by
    rcases hown.2 with⟨h0,_⟩|⟨_,_,_,h0,_⟩<;>exact⟨_,_,_,h0⟩
   subst hu7;clear hown hAr hA1 hT1 hone;rw [XC];go_wp2;go_ret;exact⟨rfl,_,hA5,hT5.setRow 0 _⟩

theorem wpList_append_copy {P:Program} {ops:Array Oper} {rest:List Oper} {o:Oper} {a:Act} {Q:Exit→Act→World→Prop} (hgd:o.guard=none) (s x:Operand) (t:TypeId)
  (ho:o.op=.call { callee:=.builtin .append,args:=#[s,x],argTypes:=#[t,t] })
  (e:TypeId) (i:TypeInfo) (z:Value) (size bytes:Nat) (ht:P.underlying t=some (.slice e)) (hi:P.info? e=some i) (hz:i.zero=some z)
  (hsize:i.size=size) (hby:i.bytes=bytes) (hzs:z.cells.size=size) (hsz:0<size) (hs:a.eval s=.slice none 0 0)
  (ao:Option Addr) (n c:Nat) (cs:List Value) (hx:a.eval x=.slice ao n c) (hl:cs.length=n*size) (hsrc:0<n→ ∃ad,ao=some ad∧ ∀j u,cs[j]? =some u→w.cell? (ad.add j)=some u) (hnil:ao=none→c=0) (h1: ∀u∈cs,u.oneCell'=true)
  (h63:n≤maxLen) (hbytes:n*bytes≤140737488355328)
  (h: ∀bo c' w',w'.ownsRow w.heap.size e size (.slice bo n c') n cs→Below w.heap.size w w'→wpList P ops Q rest (a.put o.dst (.slice bo n c')) w'):wpList P ops Q (o::rest) a w:=by
 refine wpList_plain hgd fun K hK=> ?_;cases ao with
 |none=>
  have hn:n=0:=by
   by_cases g:n=0
   ·exact g
   ·obtain⟨ad,h0,_⟩:=hsrc (by omega);cases h0
  subst hn;have hcs:cs=[]:=XW (by simpa using hl);subst hcs;have hc:=hnil rfl;subst hc;have hr:=run_append_owned_none (P:=P) w w.heap.size t o.type e i size ht hi (.slice none 0 0) 0 [] (XO _ _ _ _);unfold Oper.wp execOp;simp only [ho,resolve,invoke,builtin,XX,X8,X9,Ym,XV,X5,hs,hx,hr];exact hK _ _ (h none 0 w (XO _ _ _ _) (Below.refl _ _))
 |some ad=>
  have hnews: ∀j u,cs[j]? =some u→w.cell? (ad.add j)=some u:=by
   by_cases g:n=0
   ·subst g;have hcs:cs=[]:=XW (by simpa using hl);subst hcs;intro j u hu;simp at hu
   ·obtain⟨ad',h0,h2⟩:=hsrc (by omega);cases h0;exact h2
  obtain⟨v',w',hr,g2,g3,_⟩:=run_append_own (P:=P) w w.heap.size t o.type e i z size bytes ht hi hz hsize hby hzs hsz (.slice none 0 0) 0 [] (XO _ _ _ _) ad n c cs hl hnews h1 (by omega) (by rw [Xv];exact hbytes) (Xa _);rw [Xv,Yf]at g2;have hb:Below w.heap.size w w':=(Below.refl _ _).grown g3 (Xa _) (fun _ h=>by cases h);obtain⟨bo,c',hv⟩: ∃bo c',v'=.slice bo n c':=by
   rcases g2.2 with⟨h0,h0'⟩|⟨_,_,_,h0,_⟩
   ·exact⟨none,0,by rw [h0,h0']⟩
   ·exact⟨_,_,h0⟩
  subst hv;unfold Oper.wp execOp;simp only [ho,resolve,invoke,builtin,XX,X8,X9,Ym,XV,X5,hs,hx,hr];exact hK _ _ (h bo c' w' g2 hb)
theorem row_of_own {B c:Nat} {e:TypeId} {bo:Option Addr} (h:w.ownsRow B e 3 (.slice bo L.length c) L.length (cels L)):RowAt w bo L:=by
 intro hl;rcases h.2 with⟨h0,h1⟩|⟨g,cap,cur,h0,_⟩
 ·omega
 ·cases h0;refine⟨g,rfl,(h.lt g rfl).2,fun i m hm=> ?_⟩;have hi:i<L.length:=(Xe.1 hm).1;obtain⟨a,b,c⟩:=cels_get L i m hm;exact⟨(h.cellAt _ (by omega)).trans a,(h.cellAt _ (by omega)).trans b,(h.cellAt _ (by omega)).trans c⟩

theorem lall_yes (B Q:Nat) (last:Int) (v:Value) (L L1:List M) (now:Int) (w:World) (hA:QAt w 128 B Q 1 0 last v L) (hL:L.length≤200) (h3:0≤now) (h4:now≤1099511627776) (hb:backL now L=L1):
  Calls prog 45 #[.pointer (some ⟨Q,0,none⟩),.int .i64 now] w fun e w'=> ∃bo c,e=.returned (.tuple #[.slice bo L1.length c,.int .i64 0])∧RowAt w' bo L1∧(∀g,bo=some ⟨g,0,none⟩→w.heap.size≤g)∧ ∃v',(∀g,bo=some ⟨g,0,none⟩→v'.ownBlock≠some g)∧QAt w' 128 B Q 1 0 last v' L1∧Turn rL Q v v' w w':=by
 obtain⟨i0,hi,hz0,hz1,hz2⟩:=info_parts info_msg;have hl:L1.length≤200:=by rw [←hb,backL_len];exact hL
 have hnil: ∀ao cap,v=.slice ao L.length cap→ao=none→cap=0:=by
  intro ao cap hv h0;rcases hA.own.2 with⟨g0,_⟩|⟨g,cap',cur,g0,_⟩
  ·rw [hv]at g0;exact(Value.slice.inj g0).2.2
  ·rw [hv,h0]at g0;cases g0
 obtain⟨ao,cap,rfl,hc1,hc2,hao⟩:=hA.form;have hnil2:=hnil ao cap rfl;have c:=atS B Q cap ao last L L1 now w hA h3 h4 hL hb;clear hA hb hao hc1 hc2 hnil;go_enter func45,ntmps45
 go_wp2_with (first
  |(go_at_call 88;(with_reducible refine c.mono ?_);rintro e w1 ⟨rfl,hA1,hT1⟩;have cS1:=hA1.cS)
  |(at_builtin;(refine wpList_append_copy rfl (.const (.slice none 0 0)) (.tmp 13) 60 rfl 128 i0 (.agg #[.int .i64 0,.int .i64 0,.bool false]) 3 24 underlying60 hi hz0 hz1 hz2 rfl (by decide) rfl ao L1.length cap (cels L1) rfl (cels_len L1) (row_src hA1) hnil2 (cels_one L1) (by unfold maxLen;omega) (by omega) ?_);intro bo c' w2 hown2 hb2))
 go_ret2;refine⟨bo,c',rfl,row_of_own hown2,fun g hg=> ?_,_,fun g hg e=> ?_,hA1.below hb2,hT1.trans (Turn.of_below hb2)⟩
 ·subst hg;exact Xc hT1.size (hown2.lt g rfl).1
 ·subst hg;have h1:=(hown2.lt g rfl).1;have h2:=hA1.rowLt g e;omega

theorem ldepth_yes (B Q:Nat) (last:Int) (v:Value) (L L1:List M) (now:Int) (w:World) (hA:QAt w 128 B Q 1 0 last v L) (hL:L.length≤200) (h3:0≤now) (h4:now≤1099511627776) (hb:backL now L=L1):
  Calls prog 82 #[.pointer (some ⟨Q,0,none⟩),.int .i64 now] w fun e w'=>e=.returned (.tuple #[.int .i64 (depth L1:Int),.int .i64 0])∧ ∃v',QAt w' 128 B Q 1 0 last v' L1∧Turn rL Q v v' w w':=by
 have hl:L1.length≤200:=by rw [←hb,backL_len];exact hL
 have c:=lall_yes B Q last v L L1 now w hA hL h3 h4 hb;clear hA hb;go_enter func82,ntmps82;go_wp2_with(go_at_call 45;(with_reducible refine c.mono ?_);rintro e w1 ⟨bo,cb,rfl,hR1,_,v1,_,hA1,hT1⟩)
 go_loopw [8,9] (fun d i wr=>DpR L1 w1 d i wr) (fun _ i _=>L1.length-(intOf i).toNat)
 case atStart=>exact⟨0,by omega,rfl,by simp [depth],Below.refl _ _⟩
 case round=>
  obtain⟨k,hk,rfl,rfl,hb⟩:=hrel;by_cases hlt:k<L1.length
  ·have hlt':(k:Int)<(L1.length:Int):=by omega
   obtain⟨g,rfl,hg,hc⟩:=hR1.below hb (by omega);obtain⟨m,hm⟩: ∃m,L1[k]? =some m:=⟨L1[k],by simp [hlt]⟩
   obtain⟨c0,c1,c2⟩:=hc k m hm;have hs:=depth_step hm;have hd:depth (L1.take k)≤200:=Xc (depth_le _) (by rw [Xt];omega);clear hc hR1;obtain⟨id,till,tk⟩:=m;simp only at c0 c1 c2;cases tk
   ·simp only [free,Bool.not_false,if_true]at hs;go_wp2;go_roundw
    case rel=>exact⟨k+1,by omega,rfl,by rw [hs];simp,hb⟩
    case measure=>simp [intOf];omega
   ·simp only [free,Bool.not_true,XU,if_false,XD]at hs;go_wp2;go_roundw
    case rel=>exact⟨k+1,by omega,rfl,by rw [hs],hb⟩
    case measure=>simp [intOf];omega
  ·obtain rfl:k=L1.length:=by omega
   go_wp2;go_ret2;exact⟨by rw [XC];rfl,_,hA1.below hb,hT1.trans (Turn.of_below hb)⟩
