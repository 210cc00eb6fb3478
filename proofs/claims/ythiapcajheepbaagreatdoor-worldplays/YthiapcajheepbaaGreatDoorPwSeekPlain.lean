/- A part. -/
import Derived.Test.YthiapcajheepbaaGreatDoorPwCronBits
set_option linter.all false
open Go.Proofs.Tryz
set_option maxHeartbeats 32000000
set_option maxRecDepth 8000
namespace Go.Proofs.YthiapcajheepbaaGreatDoor
namespace RCrn
open Go.RowKit Lai Civ Cal Crn RCiv Rst
variable {k x:Int}

theorem seek_start (sec shift:Int) (ht:tmB sec=true) (hs:shB shift=true): ∃(y0 m0 d0 H M S k0 dd D0:Int),(∀w,CB 156 #[.int .i64 sec,.int .i64 shift] w (.tuple #[civ y0 m0 d0 H M S k0,.int .i64 0]))∧
  (0≤H∧H≤23)∧(0≤M∧M≤59)∧(0≤S∧S≤59)∧sec-(H*60+M)*60-S=dd∧dd+shift*60=(D0-2180498)*86400∧(1020000≤D0∧D0≤3340000)∧minOf sec shift/1440=D0:=by
 have h1:=(tm_iff _).1 ht;have h2:=(sh_iff _).1 hs;refine⟨_,_,_,_,_,_,_,_,_,fun w=>rof_yes sec shift w ht hs,?_,?_,?_,rfl,?_,?_,rfl⟩
 ·unfold sc;omega
 ·unfold sc;omega
 ·unfold sc;omega
 ·unfold minOf sc;omega
 ·unfold minOf sc;omega
section
variable (mi ho da mn we : Int) (ad aw : Bool)
theorem seek_match (b0:U mi) (b1:U ho) (b2:U da) (b3:U mn) (b4:U we) (D n s y:Int) (w:World) (hn:0≤n∧n<1440):
  CB 191 #[cronV mi ho da mn we ad aw,civ y (Cal.mo D) (dy D) (n/60) (n%60) s ((D+6)%7)] w (.bool (mtN mi ho da mn we ad aw (D*1440+n))):=by
 have:=rmatch_any mi ho da mn we ad aw y (Cal.mo D) (dy D) (n/60) (n%60) s ((D+6)%7) w b0 b1 b2 b3 b4
 rwa [show mtB mi ho da mn we ad aw (Cal.mo D) (dy D) (n / 60) (n % 60) ((D + 6) % 7) = mtN mi ho da mn we ad aw (D * 1440 + n) by
  unfold mtN okM mtB fitN;rw [show(D*1440+n)/1440=D by omega,show(D*1440+n)%1440=n by omega]]at this
theorem seek_full (b2:U da) (b3:U mn) (b4:U we) (D n s y:Int) (w:World) (hn:0≤n∧n<1440):
  CB 191 #[cronV 1152921504606846975 16777215 da mn we ad aw,civ y (Cal.mo D) (dy D) (n/60) (n%60) s ((D+6)%7)] w (.bool (fitN da mn we ad aw D)):=by
 have:=rmatch_any 1152921504606846975 16777215 da mn we ad aw y (Cal.mo D) (dy D) (n/60) (n%60) s ((D+6)%7) w (by unfold U;decide) (by unfold U;decide) b2 b3 b4
 rwa [show mtB 1152921504606846975 16777215 da mn we ad aw (Cal.mo D) (dy D) (n / 60) (n % 60) ((D + 6) % 7) = fitN da mn we ad aw D by
  unfold mtB fitN;rw [show inS 16777215 (n/60)=true by rw [show(16777215:Int)=fHour from rfl,full_hour,decide_eq_true_eq];omega,show inS 1152921504606846975 (n%60)=true by rw [show(1152921504606846975:Int)=fMin from rfl,full_min,decide_eq_true_eq];omega];simp]at this
end
theorem seek_date (D:Int) (w:World) (h:1010000≤D∧D≤3350000):CB 172 #[.int .i64 (D-2180498)] w (.tuple #[.int .i64 (yr D),.int .i64 (Cal.mo D),.int .i64 (dy D)]):=by
 have:=rdate_any (D-2180498) w (by omega) (by omega);rwa [show D-2180498+2180498=D by omega]at this
theorem seek_rest (D:Int) (w:World):CS 171 #[.int .i64 (D-2180498+4),.int .i64 7] w (.int .i64 ((D+6)%7)):=by
 have:=rest_any (D-2180498+4) 7 w (by omega) (by omega);rwa [show(D-2180498+4)%7=(D+6)%7 by omega]at this
theorem tdiv_ex (x q:Int) (h:x=q*86400):x.tdiv 86400=q:=by rw [h,Int.mul_tdiv_cancel _ (by decide)]
theorem tmod_ex (x q:Int) (h:x=q*86400):x.tmod 86400=0:=by rw [h];exact Int.mul_tmod_left ..

def SeekW (mi ho da mn we:Int) (ad aw:Bool) (Bt:Nat) (D h m:Int) (w wr:World):Prop:=w.heap.size<Bt∧Bt<wr.heap.size∧(∀o,wr.cell? ⟨w.heap.size,o,none⟩=(#[Value.int .u64 mi,.int .u64 ho,.int .u64 da,.int .u64 mn,.int .u64 we,.bool ad,.bool aw])[o]?)∧(∀o,wr.cell? ⟨Bt,o,none⟩=(#[Value.int .i64 (yr D),.int .i64 (Cal.mo D),.int .i64 (dy D),.int .i64 h,.int .i64 m,.int .i64 0,.int .i64 ((D+6)%7)])[o]?)∧(∀o,wr.frozen? ⟨Bt,o,none⟩=false)∧Below w.heap.size w wr
theorem set34 {W:World} {B:Nat} {a0 a1 a2 a3 a4 a5 a6:Value} (x y:Value) (h: ∀o,W.cell? ⟨B,o,none⟩=(#[a0,a1,a2,a3,a4,a5,a6])[o]?): ∀o,((W.setCell ⟨B,3,none⟩ x).setCell ⟨B,4,none⟩ y).cell? ⟨B,o,none⟩=(#[a0,a1,a2,x,y,a5,a6])[o]? :=by
 intro o;match o with
 |0=>simp [go_sem,h]
 |1=>simp [go_sem,h]
 |2=>simp [go_sem,h]
 |3=>simp [go_sem,h]
 |4=>simp [go_sem,h]
 |5=>simp [go_sem,h]
 |6=>simp [go_sem,h]
 |n+7=>simp [go_sem,h]
section
variable {mi ho da mn we : Int} {ad aw : Bool} {Bt : Nat} {D h m : Int} {w W : World}
theorem seekW_set (hS:SeekW mi ho da mn we ad aw Bt D h m w W) (h' m':Int):SeekW mi ho da mn we ad aw Bt D h' m' w ((W.setCell ⟨Bt,3,none⟩ (.int .i64 h')).setCell ⟨Bt,4,none⟩ (.int .i64 m')):=by
 obtain⟨h1,h2,h3,h4,h5,h6⟩:=hS;have b:Below Bt W ((W.setCell ⟨Bt,3,none⟩ (.int .i64 h')).setCell ⟨Bt,4,none⟩ (.int .i64 m')):=((Below.refl Bt W).setCell (Xa _) _).setCell (Xa _) _;refine⟨h1,Xb h2 b.size,fun o=>(b.cell (p:=⟨w.heap.size,o,none⟩) h1).trans (h3 o),set34 _ _ h4,fun o=> ?_,(h6.setCell (Xw h1) _).setCell (Xw h1) _⟩;simp [h5]
theorem seekW_call (hS:SeekW mi ho da mn we ad aw Bt D h m w W) {W':World} (hb:Below W.heap.size W W'):SeekW mi ho da mn we ad aw Bt D h m w W':=by
 obtain⟨h1,h2,h3,h4,h5,h6⟩:=hS;exact⟨h1,Xb h2 hb.size,fun o=>(hb.cell (p:=⟨w.heap.size,o,none⟩) (Nat.lt_trans h1 h2)).trans (h3 o),fun o=>(hb.cell (p:=⟨Bt,o,none⟩) h2).trans (h4 o),fun o=>(hb.frozen (p:=⟨Bt,o,none⟩) h2).trans (h5 o),h6.trans (hb.mono (by omega))⟩
end

section
variable {mi ho da mn we : Int} {ad aw : Bool} {sec shift dd D0 D i : Int}
end


def SeekDownAns (mi ho da mn we:Int) (ad aw:Bool) (sec shift:Int) (w:World) (e:Ending) (w':World):Prop:= ∃n ok,e=.returned (.tuple #[.int .i64 n,.bool ok])∧LastIs mi ho da mn we ad aw (minOf sec shift) shift n ok∧Below w.heap.size w w'
def SeekDownR (mi ho da mn we:Int) (ad aw:Bool) (sec shift D:Int) (Bt:Nat) (w:World) (kk:Value) (wr:World):Prop:= ∃k h m:Int,0≤k∧k≤1440∧kk=.int .i64 k∧(∀v,v≤minOf sec shift→D*1440+1440-k≤v→mtN mi ho da mn we ad aw v=false)∧SeekW mi ho da mn we ad aw Bt D h m w wr
section
variable {mi ho da mn we : Int} {ad aw : Bool} {sec shift dd D0 D i : Int}
theorem seekDown_at (HD:dd+shift*60=(D0-2180498)*86400) (hDi:D=D0-i) (n:Int):at60 (D*1440+n) shift=dd+ -i*86400+n*60:=by unfold at60;omega
theorem seekDown_g (HD:dd+shift*60=(D0-2180498)*86400) (hDi:D=D0-i) (n:Int):D*1440+n≤minOf sec shift↔dd+ -i*86400+n*60≤sec:=by unfold minOf sc;omega
theorem seekDown_found (HD:dd+shift*60=(D0-2180498)*86400) (hDi:D=D0-i) (hi:i≤3000) (hi0:0≤i) (HU:minOf sec shift/1440=D0) {n:Int} (hk:0≤k∧k<1440) (hn:n=1439-k) (hx:x=dd+ -i*86400+n*60) (hK: ∀v,v≤minOf sec shift→D*1440+1440-k≤v→mtN mi ho da mn we ad aw v=false) (g:x≤sec) (hm:mtN mi ho da mn we ad aw (D*1440+n)=true) (b:Bool) (hb:inT x=b):
  LastIs mi ho da mn we ad aw (minOf sec shift) shift (if b=true then x else 0) b:=by
 have e:=seekDown_at HD hDi n;have g2:=(seekDown_g (sec:=sec) HD hDi n).2 (by omega);have hF:LastN mi ho da mn we ad aw (minOf sec shift) (D*1440+n):=⟨g2,by omega,hm,fun v q1 q2=>hK v q2 (by omega)⟩
 cases b
 ·exact Or.inr ⟨rfl,rfl,Or.inr ⟨D*1440+n,by rw [e,←hx];exact hb,hF⟩⟩
 ·exact Or.inl ⟨rfl,D*1440+n,by rw [e,←hx];rfl,hb,hF⟩
theorem seekDown_on (HD:dd+shift*60=(D0-2180498)*86400) (hDi:D=D0-i) {n:Int} (hn:n=1439-k) (hx:x=dd+ -i*86400+n*60) (hK: ∀v,v≤minOf sec shift→D*1440+1440-k≤v→mtN mi ho da mn we ad aw v=false) (g:x≤sec→mtN mi ho da mn we ad aw (D*1440+n)=false): ∀v,v≤minOf sec shift→D*1440+1440-(k+1)≤v→mtN mi ho da mn we ad aw v=false:=by
 intro v q1 q2;by_cases c:v=D*1440+n
 ·rw [c];have e:=(seekDown_g (sec:=sec) HD hDi n).1 (by omega);exact g (by omega)
 ·exact hK v q1 (by omega)
theorem seekDown_off (hDi:D=D0-i) (hK: ∀v,v≤minOf sec shift→D*1440+1440-0≤v→mtN mi ho da mn we ad aw v=false) (hf:fitN da mn we ad aw D=false): ∀v,v≤minOf sec shift→(D0-(i+1)+1)*1440≤v→mtN mi ho da mn we ad aw v=false:=by
 intro v q1 q2;by_cases c:v/1440=D
 ·exact mtN_no1 (by rw [c];exact hf)
 ·exact hK v q1 (by omega)
end

theorem seekDown (mi ho da mn we:Int) (ad aw:Bool) (sec shift:Int) (w:World) (b0:U mi) (b1:U ho) (b2:U da) (b3:U mn) (b4:U we) (ht:tmB sec=true) (hs:shB shift=true):
  Calls prog 173 #[cronV mi ho da mn we ad aw,.int .i64 sec,.int .i64 shift,.int .i64 (-1)] w (SeekDownAns mi ho da mn we ad aw sec shift w):=by
 have h1:=(tm_iff _).1 ht;have h2:=(sh_iff _).1 hs;obtain⟨y0,m0,d0,H,M,S,k0,dd,D0,c1,bH,bM,bS,hdd,hD,bD,hU⟩:=seek_start sec shift ht hs;have cM:=fun D n s y w hn=>seek_match mi ho da mn we ad aw b0 b1 b2 b3 b4 D n s y w hn;have cF:=fun D n s y w hn=>seek_full da mn we ad aw b2 b3 b4 D n s y w hn;have bdd: -100000100000≤dd∧dd≤100000100000:=by omega
 have HU:=zh hU;have HD:=zh hD;clear b0 b1 b2 b3 b4 ht hs hU hD;go_enter func173,ntmps173;go_wp2_with(go_at_call 156;(with_reducible refine zg (c1 _) fun w1 hb1=>?_);obtain⟨hc1,hf1⟩:=bcell hb1;have hz1:w.heap.size<w1.heap.size:=(by have:=hb1.size;simp at this;omega);have hw1:Hid (Below w.heap.size w w1):=(balloc _).trans (hb1.mono (by simp)))
 clear hdd;go_loopw [13] (fun i wr=> ∃j:Int,0≤j∧j≤3001∧i=.int .i64 j∧(∀v,v≤minOf sec shift→(D0-j+1)*1440≤v→mtN mi ho da mn we ad aw v=false)∧w.heap.size<wr.heap.size∧(∀o,wr.cell? ⟨w.heap.size,o,none⟩=(#[Value.int .u64 mi,.int .u64 ho,.int .u64 da,.int .u64 mn,.int .u64 we,.bool ad,.bool aw])[o]?)∧Below w.heap.size w wr) (fun i _=>(3001-intOf i).toNat)
 case atStart=>
  refine⟨0,by omega,by omega,rfl,fun v g1 g2=> ?_,by simp;omega,fun o=> ?_,bstep hw1 (balloc _)⟩
  ·have:=HU.out;omega
  ·rw [(bcell (balloc _)).1 _ _ hz1,hc1 _ _ (by simp)];simp
 case round=>
  clear hc1 hf1 hb1 hz1 hw1;obtain⟨i,hi0,hi1,rfl,hKo0,hzr,hC,hb0⟩:=hrel;have hKo:=zh hKo0;have hb:=zh hb0;clear hKo0 hb0;by_cases hlt:i≤3000
  ·obtain⟨D,hDi⟩: ∃D,D=D0-i:=⟨_,rfl⟩
   have hq:(dd+ -i*86400+shift*60).tdiv 86400=D-2180498:=tdiv_ex _ _ (by have:=HD.out;omega);have hm:(dd+ -i*86400+shift*60).tmod 86400=0:=tmod_ex _ (D-2180498) (by have:=HD.out;omega);have HDi:=zh hDi;have bD2:1010000≤D∧D≤3350000:=by omega
   have cD:=fun w=>seek_date D w bD2;have cR:=fun w=>seek_rest D w;clear hDi
   go_wp2_with (first
    |(go_at_call 172;(with_reducible refine zg (cD _) fun w2 hb2=>?_);have hz2:w.heap.size<w2.heap.size:=(by have:=hb2.size;omega);have hC2: ∀o,w2.cell? ⟨w.heap.size,o,none⟩=(#[Value.int .u64 mi,.int .u64 ho,.int .u64 da,.int .u64 mn,.int .u64 we,.bool ad,.bool aw])[o]? :=(fun o=>((bcell hb2).1 _ _ hzr).trans (hC o));have hw2:Hid (Below w.heap.size w w2):=bstep hb hb2)
    |(go_at_call 171;(with_reducible refine zq (cR _) ?_)))
   clear cD cR hb2 hC hzr hb hq hm;go_loopw [20] (fun kk wr=>SeekDownR mi ho da mn we ad aw sec shift D w2.heap.size w kk wr) (fun kk _=>(1440-intOf kk).toNat)
   case atStart=>
    refine⟨0,0,0,by omega,by omega,rfl,fun v q1 q2=>hKo.out v q1 (by have:=HDi.out;omega),hz2,by simp,fun o=> ?_,fun o=> ?_,fun o=> ?_,bstep hw2 (balloc _)⟩
    ·rw [(bcell (balloc _)).1 _ _ hz2];exact hC2 o
    ·simp
    ·simp
   case round=>
    clear hz2 hC2 hw2 hKo;obtain⟨k,hh,mm,hk0,hk1,rfl,hK0,hS0⟩:=hrel;have hK:=zh hK0;have hS:=zh hS0;obtain⟨hs1,hs2,hs3,hs4,hs5,hs6⟩:=hS0;clear hK0 hs6;by_cases hlk:k<1440
    ·by_cases hkz:k=0
     ·subst hkz;have cM0:=fun s y w=>cM D 1439 s y w (by omega);rw [show(1439:Int)/60=23 from rfl,show(1439:Int)%60=59 from rfl]at cM0;have cF0:=fun s y w=>cF D 1439 s y w (by omega);rw [show(1439:Int)/60=23 from rfl,show(1439:Int)%60=59 from rfl]at cF0;clear cM cF;by_cases g:dd+ -i*86400+86340≤sec
      ·cases hmt:mtN mi ho da mn we ad aw (D*1440+1439)
       ·rw [hmt]at cM0;have HMT:=zh hmt;clear hmt;cases hft:fitN da mn we ad aw D
        ·rw [hft]at cF0;have HFT:=zh hft;clear hft;go_wp2_with(first|(go_at_call 191;(with_reducible refine zg (cM0 _ _ _) fun w3 hb3=>?_);have hS3:Hid (SeekW mi ho da mn we ad aw w2.heap.size D 23 59 w w3):=seekW_call (seekW_set hS.out 23 59) hb3;obtain⟨ht1,ht2,ht3,ht4,ht5,ht6⟩:=hS3.out;clear ht6 hb3)|(go_at_call 191;(with_reducible refine zg (cF0 _ _ _) fun w4 hb4=>?_);have hS4:Hid (SeekW mi ho da mn we ad aw w2.heap.size D 23 59 w w4):=seekW_call hS3.out hb4;clear hb4))
         go_roundw
         case rel=>exact⟨i+1,by omega,by omega,rfl,seekDown_off HDi.out hK.out HFT.out,by have:=hS4.out.1;have:=hS4.out.2.1;omega,hS4.out.2.2.1,hS4.out.2.2.2.2.2⟩
         case measure=>simp [intOf];omega
        ·rw [hft]at cF0;clear hft;go_wp2_with(first|(go_at_call 191;(with_reducible refine zg (cM0 _ _ _) fun w3 hb3=>?_);have hS3:Hid (SeekW mi ho da mn we ad aw w2.heap.size D 23 59 w w3):=seekW_call (seekW_set hS.out 23 59) hb3;obtain⟨ht1,ht2,ht3,ht4,ht5,ht6⟩:=hS3.out;clear ht6 hb3)|(go_at_call 191;(with_reducible refine zg (cF0 _ _ _) fun w4 hb4=>?_);have hS4:Hid (SeekW mi ho da mn we ad aw w2.heap.size D 23 59 w w4):=seekW_call hS3.out hb4;clear hb4))
         go_roundw
         case rel=>exact⟨0+1,23,59,by omega,by omega,rfl,seekDown_on (mi:=mi) (ho:=ho) (k:=0) (n:=1439) (x:=dd+ -i*86400+86340) HD.out HDi.out (by omega) (by omega) hK.out (fun _=>HMT.out),hS4.out⟩
         case measure=>simp [intOf]
       ·rw [hmt]at cM0;have HMT:=zh hmt;clear hmt;cases hin:inT (dd+ -i*86400+86340)
        all_goals
         have cI:=fun w=>in_any (dd+ -i*86400+86340) (-100000000000) 100000000000 w;rw [show inB (dd+ -i*86400+86340) (-100000000000) 100000000000=_ from hin]at cI;have HIN:=zh hin;clear hin;go_wp2_with(first|(go_at_call 191;(with_reducible refine zg (cM0 _ _ _) fun w3 hb3=>?_);have hS3:Hid (SeekW mi ho da mn we ad aw w2.heap.size D 23 59 w w3):=seekW_call (seekW_set hS.out 23 59) hb3;obtain⟨ht1,ht2,ht3,ht4,ht5,ht6⟩:=hS3.out;clear ht6 hb3)|(go_at_call 6;(with_reducible refine zq (cI _) ?_)))
         go_ret2
         first
          |exact⟨dd+ -i*86400+86340,true,rfl,seekDown_found HD.out HDi.out hlt hi0 HU.out (k:=0) (n:=1439) (x:=dd+ -i*86400+86340) (by omega) (by omega) (by omega) hK.out g HMT.out true HIN.out,hS3.out.2.2.2.2.2⟩
          |exact⟨0,false,rfl,seekDown_found HD.out HDi.out hlt hi0 HU.out (k:=0) (n:=1439) (x:=dd+ -i*86400+86340) (by omega) (by omega) (by omega) hK.out g HMT.out false HIN.out,hS3.out.2.2.2.2.2⟩
      ·have g2:sec<dd+ -i*86400+86340:=(by omega);clear g;cases hft:fitN da mn we ad aw D
       ·rw [hft]at cF0;have HFT:=zh hft;clear hft;go_wp2_with(first|(go_at_call 191;(with_reducible refine zg (cF0 _ _ _) fun w4 hb4=>?_);have hS4:Hid (SeekW mi ho da mn we ad aw w2.heap.size D 23 59 w w4):=seekW_call (seekW_set hS.out 23 59) hb4;clear hb4))
        go_roundw
        case rel=>exact⟨i+1,by omega,by omega,rfl,seekDown_off HDi.out hK.out HFT.out,by have:=hS4.out.1;have:=hS4.out.2.1;omega,hS4.out.2.2.1,hS4.out.2.2.2.2.2⟩
        case measure=>simp [intOf];omega
       ·rw [hft]at cF0;clear hft;go_wp2_with(first|(go_at_call 191;(with_reducible refine zg (cF0 _ _ _) fun w4 hb4=>?_);have hS4:Hid (SeekW mi ho da mn we ad aw w2.heap.size D 23 59 w w4):=seekW_call (seekW_set hS.out 23 59) hb4;clear hb4))
        go_roundw
        case rel=>exact⟨0+1,23,59,by omega,by omega,rfl,seekDown_on (mi:=mi) (ho:=ho) (k:=0) (n:=1439) (x:=dd+ -i*86400+86340) HD.out HDi.out (by omega) (by omega) hK.out (fun q=>absurd q (by omega)),hS4.out⟩
        case measure=>simp [intOf]
     ·have hkp:0<k:=(by omega);have cM0:=fun s y w=>cM D (1439-k) s y w (by omega);clear cM cF;by_cases g:dd+ -i*86400+(1439-k)*60≤sec
      ·cases hmt:mtN mi ho da mn we ad aw (D*1440+(1439-k))
       ·rw [hmt]at cM0;have HMT:=zh hmt;clear hmt;go_wp2_with(first|(go_at_call 191;(with_reducible refine zg (cM0 _ _ _) fun w3 hb3=>?_);have hS3:Hid (SeekW mi ho da mn we ad aw w2.heap.size D ((1439-k)/60) ((1439-k)%60) w w3):=seekW_call (seekW_set hS.out ((1439-k)/60) ((1439-k)%60)) hb3;obtain⟨ht1,ht2,ht3,ht4,ht5,ht6⟩:=hS3.out;clear ht6 hb3))
        go_roundw
        case rel=>exact⟨k+1,((1439-k)/60),((1439-k)%60),by omega,by omega,rfl,seekDown_on (mi:=mi) (ho:=ho) (k:=k) (n:=(1439-k)) (x:=dd+ -i*86400+(1439-k)*60) HD.out HDi.out (by omega) (by omega) hK.out (fun _=>HMT.out),hS3.out⟩
        case measure=>simp [intOf];omega
       ·rw [hmt]at cM0;have HMT:=zh hmt;clear hmt;cases hin:inT (dd+ -i*86400+(1439-k)*60)
        all_goals
         have cI:=fun w=>in_any (dd+ -i*86400+(1439-k)*60) (-100000000000) 100000000000 w;rw [show inB (dd+ -i*86400+(1439-k)*60) (-100000000000) 100000000000=_ from hin]at cI;have HIN:=zh hin;clear hin;go_wp2_with(first|(go_at_call 191;(with_reducible refine zg (cM0 _ _ _) fun w3 hb3=>?_);have hS3:Hid (SeekW mi ho da mn we ad aw w2.heap.size D ((1439-k)/60) ((1439-k)%60) w w3):=seekW_call (seekW_set hS.out ((1439-k)/60) ((1439-k)%60)) hb3;obtain⟨ht1,ht2,ht3,ht4,ht5,ht6⟩:=hS3.out;clear ht6 hb3)|(go_at_call 6;(with_reducible refine zq (cI _) ?_)))
         go_ret2
         first
          |exact⟨dd+ -i*86400+(1439-k)*60,true,rfl,seekDown_found HD.out HDi.out hlt hi0 HU.out (k:=k) (n:=(1439-k)) (x:=dd+ -i*86400+(1439-k)*60) (by omega) (by omega) (by omega) hK.out g HMT.out true HIN.out,hS3.out.2.2.2.2.2⟩
          |exact⟨0,false,rfl,seekDown_found HD.out HDi.out hlt hi0 HU.out (k:=k) (n:=(1439-k)) (x:=dd+ -i*86400+(1439-k)*60) (by omega) (by omega) (by omega) hK.out g HMT.out false HIN.out,hS3.out.2.2.2.2.2⟩
      ·have g2:sec<dd+ -i*86400+(1439-k)*60:=(by omega);clear g;go_wp2;go_roundw
       case rel=>exact⟨k+1,((1439-k)/60),((1439-k)%60),by omega,by omega,rfl,seekDown_on (mi:=mi) (ho:=ho) (k:=k) (n:=(1439-k)) (x:=dd+ -i*86400+(1439-k)*60) HD.out HDi.out (by omega) (by omega) hK.out (fun q=>absurd q (by omega)),seekW_set hS.out ((1439-k)/60) ((1439-k)%60)⟩
       case measure=>simp [intOf];omega
    ·obtain rfl:k=1440:=by omega
     go_wp2;go_roundw
     case rel=>exact⟨i+1,by omega,by omega,rfl,fun v q1 q2=>hK.out v q1 (by have:=HDi.out;omega),by omega,hs3,hS.out.2.2.2.2.2⟩
     case measure=>simp [intOf];omega
  ·have hi:i=3001:=by omega
   subst hi;go_wp2;go_ret2;exact⟨0,false,rfl,Or.inr ⟨rfl,rfl,Or.inl (fun v q1 q2=>hKo.out v q1 (by have:=HU.out;omega))⟩,hb⟩
