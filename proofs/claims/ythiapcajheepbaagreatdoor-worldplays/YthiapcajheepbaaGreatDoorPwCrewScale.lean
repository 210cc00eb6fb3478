/- A part. -/
import Derived.Test.YthiapcajheepbaaGreatDoorPwCrewWalks
import Derived.Deep.LoopGhost
set_option linter.all false
open Go.Proofs.Tryz
set_option maxHeartbeats 32000000
set_option maxRecDepth 8000
namespace Go.Proofs.YthiapcajheepbaaGreatDoor
namespace Flt
open Go.RowKit Rw Rec
variable {may:Pd→Bool} {ah:Pd→Pd→Bool} {m:Pd} {k:Nat} {b:Option (Nat×Pd)}

theorem rin_yes (n lo hi:Int) (w:World) (h1:lo≤n) (h2:n≤hi):
  CS 6 #[.int .i64 n,.int .i64 lo,.int .i64 hi] w (.bool true):=by
 have d1:decide (lo≤n)=true:=by simp [h1]
 have d2:decide (n≤hi)=true:=by simp [h2]
 go_enter func6,ntmps6;go_wp2;go_ret;exact⟨rfl,rfl⟩
theorem rin_no (n lo hi:Int) (w:World) (h: ¬(lo≤n∧n≤hi)):
  CS 6 #[.int .i64 n,.int .i64 lo,.int .i64 hi] w (.bool false):=by
 by_cases h1:lo≤n
 ·have d1:decide (lo≤n)=true:=by simp [h1]
  have d2:decide (n≤hi)=false:=by simp;omega
  clear h;go_enter func6,ntmps6;go_wp2;go_ret;exact⟨rfl,rfl⟩
 ·have d1:decide (lo≤n)=false:=by simp;omega
  clear h;go_enter func6,ntmps6;go_wp2;go_ret;exact⟨rfl,rfl⟩
theorem cscale_arg (Q:Nat) (n:Int) (w:World) (h: ¬(0≤n∧n≤50)):
  CS 86 #[.pointer (some ⟨Q,0,none⟩),.int .i64 n] w (.int .i64 1):=by
 have c:=fun w=>rin_no n 0 50 w h;clear h;go_enter func86,ntmps86;go_wp2_with(go_at_call 6;(with_reducible refine(c _).mono ?_);rintro e w' ⟨rfl,rfl⟩)
 go_ret;exact⟨rfl,rfl⟩

def cgo (p q:Pd):Bool:=decide (p.st<q.st)||(p.st==q.st&&(p.st !=3||decide (p.ld≤q.ld)))
theorem cgo_same {F:FS} (h:Inv F):pick stays cgo F.L 0 none=pick stays goes F.L 0 none:=by
 refine pick_same F.L 0 none ?_ (fun x hx=>by cases hx);refine List.Pairwise.imp_of_mem (fun {q p} hq hp hlt h1 h2=> ?_) h.srt;have bq:=h.bd q hq;have bp:=h.bd p hp;unfold Okp at bq bp;simp [stays]at h1 h2;unfold cgo goes;by_cases hs:p.st=q.st
 ·by_cases hl:p.ld=q.ld
  ·simp [hs,hl];omega
  ·by_cases h3:q.st=3
   ·simp [hs,hl,h3];omega
   ·exfalso;have:p.ld=0:=(by omega);have:q.ld=0:=(by omega);omega
 ·simp [hs]
def CoR2 (L:List Pd) (w:World) (b i:Value) (wr:World):Prop:=
 ∃(k:Nat) (bo:Option (Nat×Pd)),k≤L.length∧i=.int .i64 k∧b=.int .i64 (pickV bo)∧In stays L k bo∧pick stays cgo (L.drop k) k bo=pick stays cgo L 0 none∧Below w.heap.size w wr
theorem CoR2.next {L:List Pd} {w w':World} {k:Nat} {bo bo':Option (Nat×Pd)} {m:Pd} {b i:Value} (hk:k<L.length) (hm:L[k]? =some m) (hIn:In stays L k bo) (hP:pick stays cgo (L.drop k) k bo=pick stays cgo L 0 none) (hn:nxt stays cgo m k bo=bo')
  (hi:i=.int .i64 ((k+1:Nat):Int)) (hb:b=.int .i64 (pickV bo')) (hB:Below w.heap.size w w'):CoR2 L w b i w':=by
 refine⟨k+1,bo',by omega,hi,hb,?_,?_,hB⟩
 ·rw [←hn];exact hIn.next hm
 ·rw [←hP,pick_step bo hm,hn]

theorem nxt_yes (h1:may m=true) (h2:beats ah m b=true):nxt may ah m k b=some (k,m):=by unfold nxt;rw [h1,h2];rfl
theorem nxt_no (h2:beats ah m b=false):nxt may ah m k b=b:=by unfold nxt;rw [h2];simp
theorem nxt_off (h1:may m=false):nxt may ah m k b=b:=by unfold nxt;rw [h1];simp
def CGrR (B Q:Nat) (F:FS) (N:Nat) (v:Value) (w:World) (gk:Nat) (wr:World):Prop:=
 ∃(k:Nat) (v':Value),gk+k=N∧DAt wr B Q v' ⟨F.most,F.last+k,F.L++news F.last k⟩∧Turn rD Q v v' w wr
def CShR (B Q:Nat) (most last:Int) (L1:List Pd) (M:Nat) (v:Value) (w:World) (gk:Nat) (wr:World):Prop:=
 ∃(v':Value) (L:List Pd),gk≤M∧DAt wr B Q v' ⟨most,last,L⟩∧Turn rD Q v v' w wr∧shrink gk L=shrink M L1∧cnt L+M=cnt L1+gk∧Inv ⟨most,last,L⟩
theorem CShR.next {B Q:Nat} {most last:Int} {L1 L:List Pd} {M gk:Nat} {v v1 v2:Value} {w wr w3:World} {x:Nat×Pd} (hk:gk+1≤M) (hT:Turn rD Q v v1 w wr) (hS:shrink (gk+1) L=shrink M L1) (hC:cnt L+M=cnt L1+(gk+1)) (hI:Inv ⟨most,last,L⟩) (hp:pick stays goes L 0 none=some x)
  (hA:DAt w3 B Q v2 ⟨most,last,letgo L x.1 x.2⟩) (hT3:Turn rD Q v1 v2 wr w3):CShR B Q most last L1 M v w gk w3:=by
 obtain⟨_,h2,h3⟩:=pick_mem hp;refine⟨v2,_,by omega,hA,hT.trans hT3,?_,by have:=letgo_cnt h2 h3;omega,hI.letgo h2⟩;rw [←hS,shrink_step hp]
theorem cscale_yes (F:FS) (n:Int) (hI:Inv F) (hl:F.last≤900000000) (h0:0≤n) (h1:n≤50):Doth 86 (fun Q=> #[.pointer (some ⟨Q,0,none⟩),.int .i64 n]) F (scaleS F n) (.returned (.int .i64 0)):=by
 intro B Q v w hA;obtain⟨i0,hi,hz0,hz1,hz2⟩:=info_parts info_pod;have hlen:=hI.len;have hcl:=cnt_le F.L;have hl0:=hI.l0;have cI:=fun w=>rin_yes n 0 50 w h0 h1;unfold scaleS;obtain⟨N,hN⟩: ∃N,N=scN F.L n:=⟨_,rfl⟩
 obtain⟨M,hM⟩: ∃M,M=scM F.L n:=⟨_,rfl⟩
 rw [←hN,←hM];have hN2:(N:Int)=max (n-cnt F.L) 0:=by rw [hN];unfold scN;omega
 have hNb:N≤50:=by omega
 have hMN:((cnt F.L+N:Nat):Int)-n=M:=by rw [hM];unfold scM;omega
 have HI:=zh hI;have HA:=zh hA;clear hN hM hI hA;generalize hcn:cnt F.L=C at*;have HN2:=zh hN2;clear hN2;go_enter func86,ntmps86;go_wp2_with(go_at_call 6;(with_reducible refine zq (cI _) ?_))
 go_loopg [] N (fun gk wr=>CGrR B Q F N v w gk wr)
 case atStart=>exact⟨0,v,by omega,by simpa [news_zero]using HA.out,Turn.refl _ _ _⟩
 case round=>
  obtain⟨k,v1,hk,hA,hT⟩:=hrel;have hlenk:(F.L++news F.last k).length=F.L.length+k:=by rw [Xg,news_len]
  have cc:=ccount_any B Q v1 _ wr hA (by rw [hlenk];omega);have hcn1:cnt (F.L++news F.last k)=C+k:=by rw [cnt_append,news_cnt,hcn]
  simp only [hcn1]at cc;by_cases hlt:k<N
  ·have hlt':((C+k:Nat):Int)<n:=by have:=HN2.out;omega
   have HA0:=zh hA;have HT0:=zh hT;clear hA hT;go_wp2_with(go_at_call 85;(with_reducible refine zg cc fun w2 hb2=>?_);have hA2:=HA0.out.below hb2;have cV:=hA2.cV;have cN:w2.cell? ⟨Q,1,none⟩=some (.int .i64 (F.last+k)):=hA2.cN;have f0:=hA2.fz 0;have f1:=hA2.fz 1;have hQl:=hA2.lt;have HA2:=zh hA2;clear hA2)
   have hA1:=DAt.setN HA2.out (F.last+k+1);have hT1:=(HT0.out.trans (Turn.of_below hb2)).trans (Turn.setQ 1 (.int .i64 (F.last+k+1)));clear cc cI;simp only at hA1;have cV1:=hA1.cV;have cN1:(w2.setCell ⟨Q,1,none⟩ (.int .i64 (F.last+k+1))).cell? ⟨Q,1,none⟩=some (.int .i64 (F.last+k+1)):=hA1.cN;have f01:=hA1.fz 0;generalize w2.setCell ⟨Q,1,none⟩ (.int .i64 (F.last+k+1))=w1 at*;have hQ1:=hA1.lt;have hBs:B≤w1.heap.size:=by have:=RAt.bQ hA1;omega
   have hown:=RAt.own hA1;simp only at hown;rw [hlenk]at hown;have HA1:=zh hA1;have HT:=zh hT1;clear hA1 hT1 cV cN f0 f1;go_region_law (refine step_own_at rfl (.tmp 27) (.tmp 33) 65 rfl B 118 i0 (.agg #[.int .i64 0,.int .i64 0,.int .i64 0]) 3 24 underlying65 hi hz0 hz1 hz2 rfl (by decide) _ (F.L.length+k) (cels pK.c (F.L++news F.last k)) rfl ((hown.drew).alloc _) ⟨w1.heap.size,0,none⟩ 1 1 [.int .i64 (F.last+k+1),.int .i64 1,.int .i64 0] rfl rfl (cell_three _ _ _ _ _) (fun u hu=>by simp at hu;rcases hu with rfl|rfl|rfl<;>rfl) (by unfold maxLen;omega) (by omega) (by simp;omega) ?_;intro v' w3 hown3 hgrow3 hloc3;obtain⟨g3,cap3,rfl⟩:=own_succ hown3;have hQ3:=RAt.appended HA1.out hgrow3;have cS3:w3.cell? ⟨Q,0,none⟩=some v1:=(Xf (w:=w1) (a:=⟨Q,0,none⟩) hQ3).trans cV1;have f13:w3.frozen? ⟨Q,0,none⟩=false:=(Xl (w:=w1) (a:=⟨Q,0,none⟩) hQ3).trans f01)
   all_goals
    have hL':(F.L++news F.last (k+1)).length=F.L.length+k+1:=by rw [Xg,news_len];omega
    have hC':cels pK.c (F.L++news F.last k)++ [.int .i64 (F.last+k+1),.int .i64 1,.int .i64 0]=cels pK.c (F.L++news F.last (k+1)):=by
     rw [←news_step,←X4,cels_append (F.L++news F.last k),show F.last+1+(k:Int)=F.last+k+1 by omega];rfl
    rw [hC',←hL']at hown3;have hA3:=DAt.regrown HA1.out hQ3 hown3 (own_off HA1.out hloc3);rw [hL']at hA3;have hT3:=(HT.out.trans (Turn.appended hgrow3 hloc3)).setRow 0 (.slice (some ⟨g3,0,none⟩) (F.L.length+k+1) cap3);go_wp2;go_roundg (gk-1)
    case rel=>exact⟨k+1,_,by omega,by rw [show F.last+((k+1:Nat):Int)=F.last+k+1 by omega];exact hA3,hT3⟩
    case measure=>omega
  ·obtain rfl:k=N:=by omega
   obtain rfl:gk=0:=by omega
   have hlt': ¬((C+k:Nat):Int)<n:=by have:=HN2.out;omega
   have hI1:=HI.out.grow k;have hlen1:(F.L++news F.last k).length≤1000000000:=by rw [hlenk];omega
   have HA1:=zh hA;have HT1:=zh hT;have HI1:=zh hI1;have hlast:F.last+k≤1000000000:=by omega
   clear hA hT hI1;generalize hq1:F.L++news F.last k=L1 at*;generalize hq2:F.last+(k:Int)=last1 at*;generalize hq3:F.most=most at*;have HQ1:=zh hq1;have HQ2:=zh hq2;have HQ3:=zh hq3;have HC1:=zh hcn1;clear hq1 hq2 hq3 hcn1 cI;go_wp2_with(go_at_call 85;(with_reducible refine zg cc fun w4 hb4=>?_))
   clear cc;go_loopg [] M (fun gk wr=>CShR B Q most last1 L1 M v w gk wr)
   case atStart=>exact⟨v1,L1,Xa _,HA1.out.below hb4,HT1.out.trans (Turn.of_below hb4),rfl,rfl,HI1.out⟩
   case round=>
    obtain⟨v5,L5,hg5,hA5,hT5,hS5,hC5,hI5⟩:=hrel;have hl5:=hI5.len;simp only at hl5;have hL5:L5.length≤1000000000:=(by omega);have cc:=ccount_any B Q v5 _ _ hA5 hL5;simp only at cc;have hcl5:=cnt_le L5;have hc5:(cnt L5:Int)-n=gk:=by have:=HC1.out;omega
    cases gk with
    |zero=>
     have hlt5: ¬(cnt L5:Int)>n:=(by omega);have HG:Hid (DAt wr B Q v5 ⟨most,last1,shrink M L1⟩∧Turn rD Q v v5 w wr):=⟨by rw [←hS5];exact hA5,hT5⟩
     clear hA5 hT5 hS5 hI5 hC5 hc5;go_wp2_with(go_at_call 85;(with_reducible refine zg cc fun w6 hb6=>?_))
     go_ret;refine⟨rfl,v5,?_⟩;rw [HQ1.out,HQ2.out,HQ3.out];exact⟨HG.out.1.below hb6,HG.out.2.trans (Turn.of_below hb6)⟩
    |succ g'=>
     have hlt5:(cnt L5:Int)>n:=(by omega);obtain⟨x,hx⟩:=cnt_pos (L:=L5) (by omega);obtain⟨hx1,hx2,hx3⟩:=pick_mem hx;have hxs:pick stays cgo L5 0 none=some x:=(cgo_same hI5).trans hx;have hxo:=hI5.at hx2;have HX:Hid (∀(v2:Value) (w3:World),DAt w3 B Q v2 ⟨most,last1,letgo L5 x.1 x.2⟩→Turn rD Q v5 v2 wr w3→CShR B Q most last1 L1 M v w g' w3):=fun v2 w3 a b=>CShR.next hg5 hT5 hS5 hC5 hI5 hx a b;have HA5:=zh hA5;have HS5:Hid (L5.Pairwise (fun p q=>p.id<q.id)):=hI5.srt;have HXS:=zh hxs;have HXO:=zh hxo;have HX3:=zh hx3;clear hA5 hT5 hS5 hI5 hC5 hc5 hx hxs hxo hx3;go_wp2_with(go_at_call 85;(with_reducible refine zg cc fun w6 hb6=>?_))
     clear cc;have HA6:Hid (DAt w6 B Q v5 ⟨most,last1,L5⟩):=HA5.out.below hb6;have HT6:Hid (Turn rD Q v5 v5 wr w6):=Turn.of_below hb6;clear hb6 HA5;obtain⟨ao,cap,hv5,hc1,hc2,hao⟩:=HA6.out.form;simp only at hv5 hc1 hao;subst hv5;have HX':Hid (∀(v2:Value) (w3:World),DAt w3 B Q v2 ⟨most,last1,letgo L5 x.1 x.2⟩→Turn rD Q (.slice ao L5.length cap) v2 w6 w3→CShR B Q most last1 L1 M v w g' w3):=fun v2 w3 a b=>HX.out v2 w3 a (HT6.out.trans b);clear HX HT6;go_loopw [5,6] (fun b i wr=>CoR2 L5 w6 b i wr) (fun _ i _=>L5.length-(intOf i).toNat)
     case atStart=>exact⟨0,none,by omega,rfl,rfl,In.none _ _ _,rfl,Below.refl _ _⟩
     case round=>
      obtain⟨k,bo,hk,rfl,rfl,hIn,hP,hb⟩:=hrel;have hAr:=HA6.out.below hb;have cV:=hAr.cV;have hQr:=hAr.lt;by_cases hlt:k<L5.length
      ·have hlt':(k:Int)<(L5.length:Int):=(by omega);obtain⟨g,rfl⟩:=hao (by omega);obtain⟨m,hm⟩: ∃m,L5[k]? =some m:=⟨L5[k],by simp [hlt]⟩
       obtain⟨d0,d1,d2,fz⟩:=hAr.pod rfl hm;have hgl:=hAr.rowLt g rfl;have HN:Hid (∀(bo':Option (Nat×Pd)) (b i:Value) (w':World),nxt stays cgo m k bo=bo'→i=.int .i64 ((k+1:Nat):Int)→b=.int .i64 (pickV bo')→Below w6.heap.size w6 w'→CoR2 L5 w6 b i w'):=fun bo' b i w' a1 a2 a3 a4=>CoR2.next hlt hm hIn hP a1 a2 a3 a4;have HB:=zh hb;obtain⟨W,hW⟩: ∃W,W=wr.alloc (.cells #[.int .i64 m.id,.int .i64 m.st,.int .i64 m.ld] 118):=⟨_,rfl⟩
       have bW:Below wr.heap.size wr W:=by rw [hW];exact(Below.refl _ _).alloc (Xa _) _
       have cW:=(zk cV bW)
       have n0:W.cell? ⟨wr.heap.size,0,none⟩=some (.int .i64 m.id):=by rw [hW];simp
       have n1:W.cell? ⟨wr.heap.size,1,none⟩=some (.int .i64 m.st):=by rw [hW];simp
       have n2:W.cell? ⟨wr.heap.size,2,none⟩=some (.int .i64 m.ld):=by rw [hW];simp
       have HBW:Hid (Below w6.heap.size w6 W):=by unfold Hid;rw [hW];exact hb.alloc hb.size _
       have HW:=zh hW;clear hW;cases h4:(m.st==4)
       ·have h4':(m.st !=4)=true:=by simp at h4⊢;exact h4
        cases bo with
        |none=>
         have HE:Hid (nxt stays cgo m k none=some (k,m)):=nxt_yes h4' rfl;clear hAr fz hP hIn hb hm;simp only [pickV];go_wp2_with fail
         rw [←HW.out];clear HW;go_quiet (fail)
         go_wp2;go_roundw
         case rel=>exact HN.out _ _ _ _ HE.out rfl rfl (quiet_below HBW.out _)
         case measure=>simp [intOf];omega
        |some y=>
         obtain⟨j,q⟩:=y;obtain⟨hj,hq,_⟩:=hIn (j,q) rfl;simp only at hj hq;obtain⟨e0,e1,e2,_⟩:=hAr.pod rfl hq;have e0:=(zk e0 bW)
         have e1:=(zk e1 bW)
         have e2:=(zk e2 bW)
         have hjl:j<L5.length:=(Xe.1 hq).1;have hjl':(j:Int)<(L5.length:Int):=(by omega);have hj0: ¬(j:Int)<0:=(by omega);clear hq;by_cases ha:m.st<q.st
         ·have ha2:decide (m.st<q.st)=true:=by simp [ha]
          have HE:Hid (nxt stays cgo m k (some (j,q))=some (k,m)):=nxt_yes h4' (by unfold beats cgo;simp [ha]);clear hAr fz hP hIn hb hm;simp only [pickV];go_wp2_with fail
          rw [←HW.out];clear HW;refine Tk.sb 46 (S:=fun w'=>w'.cell? ⟨wr.heap.size,0,none⟩=some (.int .i64 m.id)∧w'.cell? ⟨wr.heap.size,1,none⟩=some (.int .i64 m.st)∧w'.cell? ⟨wr.heap.size,2,none⟩=some (.int .i64 m.ld)∧w'.cell? ⟨g,j*3+1,none⟩=some (.int .i64 q.st)∧w'.cell? ⟨g,j*3+2,none⟩=some (.int .i64 q.ld)∧w'.cell? ⟨Q,0,none⟩=some (.slice (some ⟨g,0,none⟩) L5.length cap)) (⟨n0,n1,n2,e1,e2,cW⟩) (fun hHeld=> ?_)
          iterate 46
           refine Tk.gn ?_
          refine wpAnyH_done (by kernel_rfl) ?_ _;go_wp2;go_roundw
          case rel=>exact HN.out _ _ _ _ HE.out rfl rfl (HBW.out.drew)
          case measure=>simp [intOf];omega
         ·have ha':decide (m.st<q.st)=false:=by simp [ha]
          cases hbq:(m.st==q.st)
          ·have HE:Hid (nxt stays cgo m k (some (j,q))=some (j,q)):=nxt_no (by show cgo m q=false;unfold cgo;rw [ha',hbq];rfl);clear hAr fz hP hIn hb hm;simp only [pickV];go_wp2_with fail
           rw [←HW.out];clear HW;refine Tk.sb 46 (S:=fun w'=>w'.cell? ⟨wr.heap.size,0,none⟩=some (.int .i64 m.id)∧w'.cell? ⟨wr.heap.size,1,none⟩=some (.int .i64 m.st)∧w'.cell? ⟨wr.heap.size,2,none⟩=some (.int .i64 m.ld)∧w'.cell? ⟨g,j*3+1,none⟩=some (.int .i64 q.st)∧w'.cell? ⟨g,j*3+2,none⟩=some (.int .i64 q.ld)∧w'.cell? ⟨Q,0,none⟩=some (.slice (some ⟨g,0,none⟩) L5.length cap)) (⟨n0,n1,n2,e1,e2,cW⟩) (fun hHeld=> ?_)
           iterate 46
            refine Tk.gn ?_
           refine wpAnyH_done (by kernel_rfl) ?_ _;go_wp2;go_roundw
           case rel=>exact HN.out _ _ _ _ HE.out rfl rfl (HBW.out.drew)
           case measure=>simp [intOf];omega
          ·cases hc3:(m.st !=3)
           ·by_cases hl:m.ld≤q.ld
            ·have HE:Hid (nxt stays cgo m k (some (j,q))=some (k,m)):=nxt_yes h4' (by show cgo m q=true;unfold cgo;rw [ha',hbq,hc3];simp [hl]);clear hAr fz hP hIn hb hm;simp only [pickV];go_wp2_with fail
             rw [←HW.out];clear HW;refine Tk.sb 46 (S:=fun w'=>w'.cell? ⟨wr.heap.size,0,none⟩=some (.int .i64 m.id)∧w'.cell? ⟨wr.heap.size,1,none⟩=some (.int .i64 m.st)∧w'.cell? ⟨wr.heap.size,2,none⟩=some (.int .i64 m.ld)∧w'.cell? ⟨g,j*3+1,none⟩=some (.int .i64 q.st)∧w'.cell? ⟨g,j*3+2,none⟩=some (.int .i64 q.ld)∧w'.cell? ⟨Q,0,none⟩=some (.slice (some ⟨g,0,none⟩) L5.length cap)) (⟨n0,n1,n2,e1,e2,cW⟩) (fun hHeld=> ?_)
             iterate 46
              refine Tk.gn ?_
             refine wpAnyH_done (by kernel_rfl) ?_ _;go_wp2;go_roundw
             case rel=>exact HN.out _ _ _ _ HE.out rfl rfl (HBW.out.drew)
             case measure=>simp [intOf];omega
            ·have HE:Hid (nxt stays cgo m k (some (j,q))=some (j,q)):=nxt_no (by show cgo m q=false;unfold cgo;rw [ha',hbq,hc3];simp;omega);clear hAr fz hP hIn hb hm;simp only [pickV];go_wp2_with fail
             rw [←HW.out];clear HW;refine Tk.sb 46 (S:=fun w'=>w'.cell? ⟨wr.heap.size,0,none⟩=some (.int .i64 m.id)∧w'.cell? ⟨wr.heap.size,1,none⟩=some (.int .i64 m.st)∧w'.cell? ⟨wr.heap.size,2,none⟩=some (.int .i64 m.ld)∧w'.cell? ⟨g,j*3+1,none⟩=some (.int .i64 q.st)∧w'.cell? ⟨g,j*3+2,none⟩=some (.int .i64 q.ld)∧w'.cell? ⟨Q,0,none⟩=some (.slice (some ⟨g,0,none⟩) L5.length cap)) (⟨n0,n1,n2,e1,e2,cW⟩) (fun hHeld=> ?_)
             iterate 46
              refine Tk.gn ?_
             refine wpAnyH_done (by kernel_rfl) ?_ _;go_wp2;go_roundw
             case rel=>exact HN.out _ _ _ _ HE.out rfl rfl (HBW.out.drew)
             case measure=>simp [intOf];omega
           ·have HE:Hid (nxt stays cgo m k (some (j,q))=some (k,m)):=nxt_yes h4' (by show cgo m q=true;unfold cgo;rw [ha',hbq,hc3];rfl);clear hAr fz hP hIn hb hm;simp only [pickV];go_wp2_with fail
            rw [←HW.out];clear HW;refine Tk.sb 46 (S:=fun w'=>w'.cell? ⟨wr.heap.size,0,none⟩=some (.int .i64 m.id)∧w'.cell? ⟨wr.heap.size,1,none⟩=some (.int .i64 m.st)∧w'.cell? ⟨wr.heap.size,2,none⟩=some (.int .i64 m.ld)∧w'.cell? ⟨g,j*3+1,none⟩=some (.int .i64 q.st)∧w'.cell? ⟨g,j*3+2,none⟩=some (.int .i64 q.ld)∧w'.cell? ⟨Q,0,none⟩=some (.slice (some ⟨g,0,none⟩) L5.length cap)) (⟨n0,n1,n2,e1,e2,cW⟩) (fun hHeld=> ?_)
            iterate 46
             refine Tk.gn ?_
            refine wpAnyH_done (by kernel_rfl) ?_ _;go_wp2;go_roundw
            case rel=>exact HN.out _ _ _ _ HE.out rfl rfl (HBW.out.drew)
            case measure=>simp [intOf];omega
       ·have h4':(m.st !=4)=false:=by simp at h4⊢;exact h4
        have HE:Hid (nxt stays cgo m k bo=bo):=nxt_off h4';clear hAr fz hP hIn hb hm;simp only [pickV];go_wp2;go_roundw
        case rel=>exact HN.out _ _ _ _ HE.out rfl rfl (HB.out.alloc HB.out.size _)
        case measure=>simp [intOf];omega
      ·obtain rfl:k=L5.length:=by omega
       rw [List.drop_length]at hP;have hP2:bo=some x:=by rw [←HXS.out,←hP];rfl
       subst hP2;obtain⟨i,m⟩:=x;simp only at hx1 hx2;have HB:=zh hb;have hxo:=HXO.out;have hx3:=HX3.out;unfold Okp at hxo;simp [stays]at hx3;simp only at hxo;obtain⟨g,rfl⟩:=hao (by omega);obtain⟨d0,d1,d2,fz⟩:=hAr.pod rfl hx2;have f1:=fz (i*3+1);have hgQ:=hAr.gQ;have hi':(i:Int)<(L5.length:Int):=(by omega);by_cases hl:m.ld>0
       ·have h3:(m.st==3)=true:=by simp;omega
        have HA7:Hid (DAt (wr.setCell ⟨g,i*3+1,none⟩ (.int .i64 4)) B Q (.slice (some ⟨g,0,none⟩) L5.length cap) ⟨most,last1,letgo L5 i m⟩):=by
         unfold Hid letgo;rw [if_pos hl];exact RAt.put (j:=1) hAr rfl hx2 (by decide) rfl
        clear hP hIn hb hAr fz hxo hx3 hx2;simp only [pickV];go_wp2;go_roundg g'
        case rel=>exact HX'.out _ _ HA7.out ((Turn.of_below HB.out).trans (Turn.setG _ _))
        case measure=>omega
       ·have hout:outL m.id L5=letgo L5 i m:=by unfold letgo;rw [if_neg hl];exact outL_at HS5.out hx2
        have co:=out_any B Q (.slice (some ⟨g,0,none⟩) L5.length cap) ⟨most,last1,L5⟩ m.id wr hAr hL5;simp only at co;rw [hout]at co;clear hP hIn hb hAr fz hxo hx3 hx2 hout;simp only [pickV];cases h3:(m.st==3)
        ·go_wp2_with(go_at_call 90;(with_reducible refine co.mono ?_);rintro e w8 ⟨rfl,v8,hA8,hT8⟩)
         go_roundg g'
         case rel=>exact HX'.out _ _ hA8 ((Turn.of_below HB.out).trans hT8)
         case measure=>omega
        ·go_wp2_with(go_at_call 90;(with_reducible refine co.mono ?_);rintro e w8 ⟨rfl,v8,hA8,hT8⟩)
         go_roundg g'
         case rel=>exact HX'.out _ _ hA8 ((Turn.of_below HB.out).trans hT8)
         case measure=>omega
theorem cscale_any (F:FS) (n:Int) (hI:Inv F) (hl:F.last≤900000000):Doth 86 (fun Q=> #[.pointer (some ⟨Q,0,none⟩),.int .i64 n]) F (scaleF F n) (.returned (.int .i64 (scaleE n))):=by
 unfold scaleF scaleE;by_cases h:0≤n∧n≤50
 ·rw [if_pos h,if_pos h];exact cscale_yes F n hI hl h.1 h.2
 ·rw [if_neg h,if_neg h];intro B Q v w hA;refine(cscale_arg Q n w h).mono ?_;rintro e w' ⟨rfl,rfl⟩;exact⟨rfl,v,hA,Turn.refl _ _ _⟩
