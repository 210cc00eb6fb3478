/- A part. -/
import Derived.Test.YthiapcajheepbaaGreatDoorPwStbRow
import Derived.Deep.DeepCutAuto
import Derived.Test.YthiapcajheepbaaGreatDoorPwNumWalks
set_option linter.all false
open Go.Proofs.Tryz
set_option maxHeartbeats 32000000
set_option maxRecDepth 8000
namespace Go.Proofs.YthiapcajheepbaaGreatDoor
namespace Stb
open Rw Go.RowKit

def KnA (B Q O:Nat) (V:Nat→Value) (s:St) (now want:Int) (w:World) (e:Ending) (w':World):Prop:=
 e=.returned (.tuple #[])∧ ∃V',SAt w' B Q O V' (know s now want)∧Step Q O V V' w w'

def KnC (B Q O C:Nat) (V:Nat→Value) (s:St) (now want:Int) (w wx:World):Prop:=
 ∃V',SAt wx B Q O V' { s with lo:=fol (geq want) s.lo ⟨now,want⟩ } ∧Step Q O V V' w wx∧wx.cell? ⟨C,0,none⟩=some (.int .i64 want)∧ ¬blk Q V' C
theorem step_cell {Q O C:Nat} {V V':Nat→Value} {w w':World} {x:Value} (h:Step Q O V V' w w') (hc:w.cell? ⟨C,0,none⟩=some x) (hb: ¬blk Q V C):w'.cell? ⟨C,0,none⟩=some x∧ ¬blk Q V' C:=by
 have hl:=Xj w _ hc;refine⟨(Xf (a:=⟨C,0,none⟩) (h.block C hl hb)).trans hc,fun e=> ?_⟩;rcases h.loc C e with a|a
 ·exact hb a
 ·simp only at hl;omega
theorem know_any (B Q O:Nat) (V:Nat→Value) (s:St) (now want:Int) (k:Nat) (w:World) (hA:SAt w B Q O V s) (hF:Fit s k) (hk:k≤1000000) (hB:B≤w.heap.size) (hl:s.last=now):
  Calls prog 165 #[.pointer (some ⟨Q,O,none⟩),.int .i64 now,.int .i64 want] w (KnA B Q O V s now want w):=by
 have hlt:=hA.lt;have l1:=hF.lol;have l2:=hF.hil;have hA1:=hA.alloc (.cells #[.int .i64 want] 3);have hS1:Step Q O V V w (w.alloc (.cells #[.int .i64 want] 3)):=(Step.refl Q O V w).alloc hlt _;have hC1:(w.alloc (.cells #[.int .i64 want] 3)).cell? ⟨w.heap.size,0,none⟩=some (.int .i64 want):=by simp
 have hB1:B≤(w.alloc (.cells #[.int .i64 want] 3)).heap.size:=by simp;omega
 have hCb: ¬blk Q V w.heap.size:=fun e=>by have:=(hA.blt e).2;omega
 have hCl:w.heap.size<(w.alloc (.cells #[.int .i64 want] 3)).heap.size:=by simp
 go_enter func165,ntmps165;go_upto_region 1 with fail
 generalize w.alloc (.cells #[.int .i64 want] 3)=w1 at*;generalize w.heap.size=C at*;go_cut [] (fun wx=>KnC B Q O C V s now want w wx)
 case first=>
  have c9:=hA1.row 0 (by decide);obtain⟨ao,cap,hv,-⟩:=(hA1.own 0 (by decide)).form;simp only [pos]at c9;rw [hv]at c9;have f:=fol1_any B C (V 0) s.lo now want want w1.drew (hA1.drew.own 0 (by decide)) (by omega) hB1 hC1;rw [hv]at f;have HA1:=zh hA1;have HV:=zh hv;have hQ1:=hA1.lt;clear hA1 hA hv;go_region_with (go_at_call 179;(with_reducible refine f.mono ?_);rintro e w2 ⟨v2,rfl,hO2,hg2,hl2⟩;obtain⟨ao2,cap2,rfl,-⟩:=hO2.form;rw [←HV.out]at hg2 hl2;obtain⟨hA2,hS2,c92,f92⟩:=HA1.out.drew.newL rfl hg2 hO2 hl2)
  all_goals
   have hS3:=(hS1.drew).trans hS2;obtain⟨hC3,hb3⟩:=step_cell hS2 hC1 hCb;have HG:Hid (KnC B Q O C V s now want w _):=⟨_,hA2,hS3,hC3,hb3⟩
   clear hA2 hS2 hS3 hC3 hb3;go_wp2_with fail
   go_meet;exact HG.out
 case rest=>
  obtain⟨V1,hA1,hS1,hC1,hCb⟩:=hcut;have c9:=hA1.row 1 (by decide);obtain⟨ao,cap,hv,-⟩:=(hA1.own 1 (by decide)).form;simp only [pos]at c9;rw [hv]at c9;have hBc:B≤wc.drew.heap.size:=Xc hA1.bQ (Xw hA1.lt);have f:=fol2_any B C (V1 1) s.hi now want want wc.drew (hA1.drew.own 1 (by decide)) (by omega) hBc hC1;rw [hv]at f;have HA1:=zh hA1;have HV:=zh hv;have HS1:=zh hS1;have hQ1:=hA1.lt;have HE:Hid (({ ({ s with lo:=fol (geq want) s.lo ⟨now,want⟩ } :St)with hi:=fol (leq want) s.hi ⟨now,want⟩ } :St)=know s now want):=by unfold Hid know;rw [←hl]
  clear hA1 hA hv hl hS1;go_wp2_with fail
  go_region_with (go_at_call 179;(with_reducible refine f.mono ?_);rintro e w2 ⟨v2,rfl,hO2,hg2,hl2⟩;obtain⟨ao2,cap2,rfl,-⟩:=hO2.form;rw [←HV.out]at hg2 hl2;obtain⟨hA2,hS2,c92,f92⟩:=HA1.out.drew.newH rfl hg2 hO2 hl2)
  all_goals
   have hS3:=(HS1.out.drew).trans hS2;rw [HE.out]at hA2;have HG:Hid (KnA B Q O V s now want w (.returned (.tuple #[])) _):=⟨rfl,_,hA2,hS3⟩
   clear hA2 hS2 hS3;go_wp2;go_end0;exact HG.out

def FoC (B Q O:Nat) (V:Nat→Value) (s:St) (w wx:World):Prop:= ∃V',SAt wx B Q O V' s∧Step Q O V V' w wx
def SfA (B Q O:Nat) (V:Nat→Value) (s:St) (now:Int) (w:World) (e:Ending) (w':World):Prop:=
 e=.returned (.tuple #[])∧ ∃V',SAt w' B Q O V' (forget s now)∧Step Q O V V' w w'
theorem grown_refl (w:World) (r:Option Nat):w.grownBy w r:=⟨rfl,rfl,rfl,Xa _,fun _ _ _=>rfl⟩
theorem wrap_sub {x:Int} (h1: -9223372036854775808≤x) (h2:x≤9223372036854775807):IntKind.i64.wrap x=x:=by
 rw [IntKind.wrap_i64];omega
def fg1 (s:St) (now:Int):St:= { s with lo:=abv s.lo (now-s.u.w) }
def fg2 (s:St) (now:Int):St:= { s with hi:=abv s.hi (now-s.d.w) }
def fg3 (s:St) (now:Int):St:= { s with gr:=s.gr.forget (now-s.u.p) }
theorem sforget_any (B Q O:Nat) (V:Nat→Value) (s:St) (now:Int) (k:Nat) (w:World) (hA:SAt w B Q O V s) (hF:Fit s k) (hk:k≤1000000) (h0:0≤now) (h1:now≤1099511627776):
  Calls prog 166 #[.pointer (some ⟨Q,O,none⟩),.int .i64 now] w (SfA B Q O V s now w):=by
 have l1:=hF.lol;have l2:=hF.hil;have uw:=hF.u.w;have up:=hF.u.p;have dw:=hF.d.w;have dp:=hF.d.p;have HFg:Hid (TaOk s.gr k):=hF.gr;have HFs:Hid (TaOk s.sh k):=hF.sh;clear hF;go_enter func166,ntmps166;go_upto_region 0 with fail
 go_cut [] (fun wx=>FoC B Q O V (fg1 s now) w wx)
 case first=>
  have c9:=hA.row 0 (by decide);have c0:=hA.num 0 (Or.inl (by decide));obtain⟨ao,cap,hv,-⟩:=(hA.own 0 (by decide)).form;simp only [pos]at c9;simp only [num,XD]at c0;rw [hv]at c9;have HW:Hid (IntKind.i64.wrap (now-s.u.w)=now-s.u.w):=wrap_sub (by omega) (by omega);have f:=above_any B (V 0) s.lo (IntKind.i64.wrap (now-s.u.w)) w.drew (hA.drew.own 0 (by decide)) (by omega);rw [hv]at f;have HA:=zh hA;have HV:=zh hv;have hQ:=hA.lt;have f9:=hA.fz (O+9);clear hA hv;go_region_with (go_at_call 182;(with_reducible refine f.mono ?_);rintro e w2 ⟨v2,rfl,hO2,hb2,h9⟩;have h8:=h9.symm;clear h9;subst h8;rw [HW.out]at hO2;obtain⟨ao2,cap2,rfl,-⟩:=hO2.form;rw [←HV.out]at hb2;obtain⟨hA2,hS2,c92,f92⟩:=HA.out.drew.newL rfl (grown_refl _ _) hO2 (Or.inl hb2))
  all_goals
   have HG:Hid (FoC B Q O V (fg1 s now) w _):=⟨_,hA2,(Step.refl Q O V w).drew.trans hS2⟩
   clear hA2 hS2;go_wp2_with fail
   go_meet;exact HG.out
 case rest=>
  obtain⟨V1,hA,hS1⟩:=hcut;have HS1:=zh hS1;clear hS1;go_upto_region 1 with fail
  go_cut [] (fun wx=>FoC B Q O V (fg2 (fg1 s now) now) w wx)
  case first=>
   have c9:=hA.row 1 (by decide);have c0:=hA.num 4 (Or.inl (by decide));obtain⟨ao,cap,hv,-⟩:=(hA.own 1 (by decide)).form;simp only [pos]at c9;simp only [num,fg1]at c0;rw [hv]at c9;have HW:Hid (IntKind.i64.wrap (now-s.d.w)=now-s.d.w):=wrap_sub (by omega) (by omega);have f:=above_any B (V1 1) s.hi (IntKind.i64.wrap (now-s.d.w)) wc.drew (hA.drew.own 1 (by decide)) (by omega);rw [hv]at f;have HA:=zh hA;have HV:=zh hv;have hQ:=hA.lt;have f9:=hA.fz (O+10);clear hA hv;go_region_with (go_at_call 182;(with_reducible refine f.mono ?_);rintro e w2 ⟨v2,rfl,hO2,hb2,h9⟩;have h8:=h9.symm;clear h9;subst h8;rw [HW.out]at hO2;obtain⟨ao2,cap2,rfl,-⟩:=hO2.form;rw [←HV.out]at hb2;obtain⟨hA2,hS2,c92,f92⟩:=HA.out.drew.newH rfl (grown_refl _ _) hO2 (Or.inl hb2))
   all_goals
    have HG:Hid (FoC B Q O V (fg2 (fg1 s now) now) w _):=⟨_,hA2,(HS1.out).drew.trans hS2⟩
    clear hA2 hS2;go_wp2_with fail
    go_meet;exact HG.out
  case rest=>
   obtain⟨V2,hA,hS2⟩:=hcut;have HS2:=zh hS2;clear hS2;go_upto_region 2 with fail
   go_cut [] (fun wx=>FoC B Q O V (fg3 (fg2 (fg1 s now) now) now) w wx)
   case first=>
    have c0:=hA.num 3 (Or.inl (by decide));simp only [num,fg1,fg2]at c0;have HW:Hid (IntKind.i64.wrap (now-s.u.p)=now-s.u.p):=wrap_sub (by omega) (by omega);have f:=forget_any B Q (O+11) (V2 2) s.gr (IntKind.i64.wrap (now-s.u.p)) k wc.drew (hA.drew.talG) HFg.out hk;have HA:=zh hA;have hQ:=hA.lt;clear hA;go_region_with (go_at_call 183;(with_reducible refine f.mono ?_);rintro e w2 ⟨rfl,v2,hT2,hb2,hW2⟩;rw [HW.out]at hT2;obtain⟨hA2,hS2⟩:=HA.out.drew.newG hT2 (Or.inl hb2) (hW2.any _))
    all_goals
     have HG:Hid (FoC B Q O V (fg3 (fg2 (fg1 s now) now) now) w _):=⟨_,hA2,(HS2.out).drew.trans hS2⟩
     clear hA2 hS2;go_wp2_with fail
     go_meet;exact HG.out
   case rest=>
    obtain⟨V3,hA,hS3⟩:=hcut;have HS3:=zh hS3;clear hS3;go_upto_region 3 with fail
    have c0:=hA.num 7 (Or.inl (by decide));simp only [num,fg1,fg2,fg3]at c0;have HW:Hid (IntKind.i64.wrap (now-s.d.p)=now-s.d.p):=wrap_sub (by omega) (by omega);have f:=forget_any B Q (O+13) (V3 3) s.sh (IntKind.i64.wrap (now-s.d.p)) k wc.drew (hA.drew.talS) HFs.out hk;have HA:=zh hA;have hQ:=hA.lt;clear hA;go_region_with (go_at_call 183;(with_reducible refine f.mono ?_);rintro e w2 ⟨rfl,v2,hT2,hb2,hW2⟩;rw [HW.out]at hT2;obtain⟨hA2,hS2⟩:=HA.out.drew.newS hT2 (Or.inl hb2) (hW2.any _))
    all_goals
     have HG:Hid (SfA B Q O V s now w (.returned (.tuple #[])) _):=⟨rfl,_,hA2,(HS3.out).drew.trans hS2⟩
     clear hA2 hS2;go_wp2;go_end0;exact HG.out
end Stb
namespace Stb
open Rw Go.RowKit Plain Num

def mb (n:Int):Bool:=decide (0≤n)&&decide (n≤50)
theorem mb_iff (n:Int):mb n=true↔0≤n∧n≤50:=by simp [mb]
theorem mayBe_any (n:Int) (w:World):CS 164 #[.int .i64 n] w (.bool (mb n)):=by
 by_cases h1:0≤n
 ·have d1:decide (0≤n)=true:=by simp [h1]
  have HM:Hid (mb n=decide (n≤50)):=by unfold Hid mb;rw [d1];rfl
  go_enter func164,ntmps164;go_wp2;go_ret;exact⟨by rw [HM.out];rfl,rfl⟩
 ·have d1:decide (0≤n)=false:=by simp [h1]
  have HM:Hid (mb n=false):=by unfold Hid mb;rw [d1];rfl
  go_enter func164,ntmps164;go_wp2;go_ret;exact⟨by rw [HM.out];rfl,rfl⟩
def pcV (p:Pc):Value:=.agg #[.int .i64 p.w,.int .i64 p.n,.int .i64 p.c,.int .i64 p.p]
theorem bounds_any (p:Pc) (w:World):CB 184 #[pcV p] w (.bool (bnd p)):=by
 obtain⟨pw,pn,pc,pp⟩:=p;unfold pcV;by_cases h1:pp=0
 ·have d1:(pp !=0)=false:=by simp [h1]
  have HM:Hid (bnd ⟨pw,pn,pc,pp⟩=false):=by unfold Hid bnd;rw [d1];rfl
  clear h1;go_enter func184,ntmps184;go_wp2;go_ret;exact⟨by rw [HM.out];rfl,(Below.refl _ _).alloc (Xa _) _⟩
 ·have d1:(pp !=0)=true:=by simp [h1]
  by_cases h2:pn=0
  ·have d2:(pn !=0)=false:=by simp [h2]
   have HM:Hid (bnd ⟨pw,pn,pc,pp⟩=(pc !=0)):=by unfold Hid bnd;rw [d1,d2];rfl
   clear h1 h2;go_enter func184,ntmps184;go_wp2;go_ret;exact⟨by rw [HM.out];rfl,(Below.refl _ _).alloc (Xa _) _⟩
  ·have d2:(pn !=0)=true:=by simp [h2]
   have HM:Hid (bnd ⟨pw,pn,pc,pp⟩=true):=by unfold Hid bnd;rw [d1,d2];rfl
   clear h1 h2;go_enter func184,ntmps184;go_wp2;go_ret;exact⟨by rw [HM.out];rfl,(Below.refl _ _).alloc (Xa _) _⟩

def MoA (B Q O:Nat) (V:Nat→Value) (s':St) (n:Int) (w:World) (e:Ending) (w':World):Prop:=
 e=.returned (.int .i64 n)∧ ∃V',SAt w' B Q O V' s'∧Step Q O V V' w w'
theorem partU_bd (s:St) (b:Int) (h0:0≤b) (h1:0≤s.u.c):0≤partU s b∧partU s b≤1000000000000001:=by
 unfold partU;have hm:0≤clip (mulc (clip b) (clip s.u.c)):=by
  have a:0≤clip b:=by unfold clip;repeat (first|omega|split)
  have c:0≤clip s.u.c:=by unfold clip;repeat (first|omega|split)
  have m:0≤clip b*clip s.u.c:=Int.mul_nonneg a c;have m2:0≤mulc (clip b) (clip s.u.c):=by unfold mulc;generalize clip b*clip s.u.c=x at m;unfold clip;repeat (first|omega|split)
  generalize mulc (clip b) (clip s.u.c)=x at m2;unfold clip;repeat (first|omega|split)
 have hb:=clip_bd (mulc (clip b) (clip s.u.c));have h100:clip 100=100:=by decide
 rw [h100];refine⟨?_,(up_bd _ 100 (by decide) hb).2⟩;have:=(up_ok (clip (mulc (clip b) (clip s.u.c))) 100 (by decide)).1;omega
theorem partD_bd (s:St) (b:Int) (_h0:0≤b) (_h1:0≤s.d.c):0≤partD s b∧partD s b≤1000000000000001:=by
 unfold partD share;have ha:=atz_bd _ (clip_bd b);have hm:=atz_bd _ (clip_bd (10*s.d.c));have hp:0≤atz (clip b)*atz (clip (10*s.d.c)):=Int.mul_nonneg ha.1 hm.1;have hq:0≤atz (clip b)*atz (clip (10*s.d.c))/1000:=Int.ediv_nonneg hp (by decide);generalize atz (clip b)*atz (clip (10*s.d.c))/1000=x at hq;have:=clip_bd x;refine⟨?_,by omega⟩;unfold clip;repeat (first|omega|split)
theorem more_any (B Q O:Nat) (V:Nat→Value) (s:St) (now hv want:Int) (k:Nat) (w:World) (hA:SAt w B Q O V s) (hF:Fit s k) (hk:k≤1000000) (h0:0≤hv∧hv≤50) (h1:0≤want∧want≤50):
  Calls prog 167 #[.pointer (some ⟨Q,O,none⟩),.int .i64 now,.int .i64 hv,.int .i64 want] w (MoA B Q O V (more s now hv want) (nU s hv want) w):=by
 have hnb:=nU_bd hF h0 h1;have hhd:=hd_bd hF.lo h1;have hgs:=hF.gr.ge;have hgl:=hF.gr.le;have un:=hF.u.n;have uc:=hF.u.c;have c9:=hA.row 0 (by decide);simp only [pos]at c9;obtain⟨ao,cap,hvv,hc1,hc2,hao,-⟩:=(hA.own 0 (by decide)).form;rw [hvv]at c9;have k0:=hA.num 0 (Or.inl (by decide));have k1:=hA.num 1 (Or.inl (by decide));have k2:=hA.num 2 (Or.inl (by decide));have k3:=hA.num 3 (Or.inl (by decide));simp only [num,XD]at k0 k1 k2 k3;have hQ:=hA.lt;have cB:=fun w=>bounds_any s.u w;unfold pcV at cB;have hO:=hA.own 0 (by decide);rw [hvv]at hO;have HA:=zh hA;have HT:Hid (TaOk s.gr k):=hF.gr;have hll:(rws s 0).length=s.lo.length:=rfl;obtain⟨n0,hn0⟩: ∃n0,hd s.lo want=n0:=⟨_,rfl⟩
 rw [hn0]at hhd;obtain⟨N,hN⟩: ∃N,nU s hv want=N:=⟨_,rfl⟩
 rw [hN]at hnb⊢;have hBw:B≤w.heap.size:=Xc hA.bQ (Xw hQ);clear hvv hA hF;by_cases hl: ¬0<s.lo.length
 ·have hq: ¬(0:Int)<((rws s 0).length:Int):=by omega
  have hw0:want=n0:=by
   cases hx:s.lo with
   |nil=>rw [hx]at hn0;exact hn0
   |cons a b=>rw [hx]at hl;simp at hl
  subst hw0;clear hO hao;cases hb:bnd s.u
  ·have hfold:max want hv=N:=by rw [←hN];simp only [nU,hb,hn0];rfl
   have hfold2:(if want<hv then hv else want)=N:=by rw [←hfold];split<;>omega
   clear hfold;have HE:Hid (more s now hv want=s):=by unfold Hid more;rw [hb];rfl
   rw [hb]at cB;clear hN hn0 hll;go_enter func167,ntmps167;go_wp2_with(go_at_call 184;(with_reducible refine zg (cB _) fun wb hbb=>?_))
   go_ret;exact⟨rfl,V,by rw [HE.out];exact HA.out.below hbb,Step.of_below hbb hQ⟩
  ·obtain⟨b,hbb⟩: ∃b,max (hv-s.gr.s) 0=b:=⟨_,rfl⟩
   obtain⟨pt,hpt⟩: ∃pt,partU s b=pt:=⟨_,rfl⟩
   have hb0:0≤b∧b≤60000000:=by omega
   have hpb:0≤pt∧pt≤1000000000000001:=by rw [←hpt];exact partU_bd s _ (by omega) (by omega)
   obtain⟨q,hq'⟩: ∃q,max s.u.n pt=q:=⟨_,rfl⟩
   have hqb:0≤q∧q≤1000000000000001:=by omega
   obtain⟨r,hr⟩: ∃r,min want (b+q)=r:=⟨_,rfl⟩
   have hfold:max r hv=N:=by rw [←hN,←hr,←hq',←hpt,←hbb];simp only [nU,baseU,hb,hn0,if_true]
   have e2:(if s.u.n<pt then pt else s.u.n)=q:=by rw [←hq'];split<;>omega
   have e3:(if b+q<want then b+q else want)=r:=by rw [←hr];split<;>omega
   have e4:(if r<hv then hv else r)=N:=by rw [←hfold];split<;>omega
   have e1:(if hv-s.gr.s<0 then(0:Int)else hv-s.gr.s)=b:=by rw [←hbb];split<;>omega
   have HE:Hid (more s now hv want= { s with gr:=s.gr.add now (N-hv) }):=by unfold Hid more;rw [hb,hN];rfl
   clear hq' hr hfold hbb;obtain⟨x,hx⟩: ∃x,mulc (clip b) (clip s.u.c)=x:=⟨_,rfl⟩
   have cM:=fun w=>mul_any b s.u.c w;have cC:=fun w=>ceil_yes x 100 w (by decide);rw [hx]at cM;have hpt':up (clip x) (clip 100)=pt:=by rw [←hx];exact hpt
   rw [hpt']at cC;clear hpt hpt' hx;rw [hb]at cB;clear hN hn0 hll;go_enter func167,ntmps167
   go_wp2_with (first
    |(go_at_call 184;(with_reducible refine zg (cB _) fun wb hbb=>?_);have hAb:=HA.out.below hbb;have j1:=hAb.num 1 (Or.inl (by decide));have j2:=hAb.num 2 (Or.inl (by decide));have jt:=hAb.num 12 (Or.inr (Or.inl rfl));simp only [num]at j1 j2 jt;have HB:=zh hAb;have HSb:Hid (Step Q O V V w wb):=Step.of_below hbb hQ;have hBb:B≤wb.heap.size:=Xc hBw hbb.size;clear hAb hbb)
    |(go_at_call 186;(with_reducible refine zq (cM _) ?_))
    |(go_at_call 185;(with_reducible refine zq (cC _) ?_))
    |(go_at_call 187;(with_reducible refine(add_any B Q (O+11) (V 2) s.gr now (N-hv) k _ HB.out.talG HT.out hk (by omega) (by omega) hBb).mono ?_);rintro e w2 ⟨rfl,v2,hT2,hl2,hW2⟩;obtain⟨hA2,hS2⟩:=HB.out.newG hT2 hl2 hW2;rw [←HE.out]at hA2;have HF:Hid (∃V',SAt w2 B Q O V' (more s now hv want)∧Step Q O V V' w w2):=⟨_,hA2,HSb.out.trans hS2⟩;clear hT2 hl2 hW2 hA2 hS2))
   go_ret;exact⟨rfl,HF.out⟩
 ·have hl':0<s.lo.length:=by omega
  have hq:(0:Int)<((rws s 0).length:Int):=by omega
  obtain⟨g,off,rfl⟩:=hao (by omega);obtain⟨m,hm,hmp⟩: ∃m,s.lo[0]? =some m∧m.p=n0:=by
   cases hx:s.lo with
   |nil=>rw [hx]at hl';simp at hl'
   |cons a b=>rw [hx]at hn0;exact⟨a,rfl,hn0⟩
  obtain⟨e0,e1,-,-,hg⟩:=own_mo hO rfl (i:=0) hm;simp only [Nat.zero_mul,XD]at e0 e1;rw [hmp]at e1;clear hO hao;cases hb:bnd s.u
  ·have hfold:max n0 hv=N:=by rw [←hN];simp only [nU,hb,hn0];rfl
   have hfold2:(if n0<hv then hv else n0)=N:=by rw [←hfold];split<;>omega
   clear hfold;have HE:Hid (more s now hv want=s):=by unfold Hid more;rw [hb];rfl
   rw [hb]at cB;clear hN hn0 hll;go_enter func167,ntmps167;go_wp2_with(go_at_call 184;(with_reducible refine zg (cB _) fun wb hbb=>?_))
   go_ret;exact⟨rfl,V,by rw [HE.out];exact HA.out.below hbb,Step.of_below hbb hQ⟩
  ·obtain⟨b,hbb⟩: ∃b,max (hv-s.gr.s) 0=b:=⟨_,rfl⟩
   obtain⟨pt,hpt⟩: ∃pt,partU s b=pt:=⟨_,rfl⟩
   have hb0:0≤b∧b≤60000000:=by omega
   have hpb:0≤pt∧pt≤1000000000000001:=by rw [←hpt];exact partU_bd s _ (by omega) (by omega)
   obtain⟨q,hq'⟩: ∃q,max s.u.n pt=q:=⟨_,rfl⟩
   have hqb:0≤q∧q≤1000000000000001:=by omega
   obtain⟨r,hr⟩: ∃r,min n0 (b+q)=r:=⟨_,rfl⟩
   have hfold:max r hv=N:=by rw [←hN,←hr,←hq',←hpt,←hbb];simp only [nU,baseU,hb,hn0,if_true]
   have e2:(if s.u.n<pt then pt else s.u.n)=q:=by rw [←hq'];split<;>omega
   have e3:(if b+q<n0 then b+q else n0)=r:=by rw [←hr];split<;>omega
   have e4:(if r<hv then hv else r)=N:=by rw [←hfold];split<;>omega
   have e1:(if hv-s.gr.s<0 then(0:Int)else hv-s.gr.s)=b:=by rw [←hbb];split<;>omega
   have HE:Hid (more s now hv want= { s with gr:=s.gr.add now (N-hv) }):=by unfold Hid more;rw [hb,hN];rfl
   clear hq' hr hfold hbb;obtain⟨x,hx⟩: ∃x,mulc (clip b) (clip s.u.c)=x:=⟨_,rfl⟩
   have cM:=fun w=>mul_any b s.u.c w;have cC:=fun w=>ceil_yes x 100 w (by decide);rw [hx]at cM;have hpt':up (clip x) (clip 100)=pt:=by rw [←hx];exact hpt
   rw [hpt']at cC;clear hpt hpt' hx;rw [hb]at cB;clear hN hn0 hll;go_enter func167,ntmps167
   go_wp2_with (first
    |(go_at_call 184;(with_reducible refine zg (cB _) fun wb hbb=>?_);have hAb:=HA.out.below hbb;have j1:=hAb.num 1 (Or.inl (by decide));have j2:=hAb.num 2 (Or.inl (by decide));have jt:=hAb.num 12 (Or.inr (Or.inl rfl));simp only [num]at j1 j2 jt;have HB:=zh hAb;have HSb:Hid (Step Q O V V w wb):=Step.of_below hbb hQ;have hBb:B≤wb.heap.size:=Xc hBw hbb.size;clear hAb hbb)
    |(go_at_call 186;(with_reducible refine zq (cM _) ?_))
    |(go_at_call 185;(with_reducible refine zq (cC _) ?_))
    |(go_at_call 187;(with_reducible refine(add_any B Q (O+11) (V 2) s.gr now (N-hv) k _ HB.out.talG HT.out hk (by omega) (by omega) hBb).mono ?_);rintro e w2 ⟨rfl,v2,hT2,hl2,hW2⟩;obtain⟨hA2,hS2⟩:=HB.out.newG hT2 hl2 hW2;rw [←HE.out]at hA2;have HF:Hid (∃V',SAt w2 B Q O V' (more s now hv want)∧Step Q O V V' w w2):=⟨_,hA2,HSb.out.trans hS2⟩;clear hT2 hl2 hW2 hA2 hS2))
   go_ret;exact⟨rfl,HF.out⟩
theorem fewer_any (B Q O:Nat) (V:Nat→Value) (s:St) (now hv want:Int) (k:Nat) (w:World) (hA:SAt w B Q O V s) (hF:Fit s k) (hk:k≤1000000) (h0:0≤hv∧hv≤50) (h1:0≤want∧want≤50):
  Calls prog 168 #[.pointer (some ⟨Q,O,none⟩),.int .i64 now,.int .i64 hv,.int .i64 want] w (MoA B Q O V (fewer s now hv want) (nD s hv want) w):=by
 have hnb:=nD_bd hF h0 h1;have hhd:=hd_bd hF.hi h1;have hgs:=hF.sh.ge;have hgl:=hF.sh.le;have un:=hF.d.n;have uc:=hF.d.c;have c9:=hA.row 1 (by decide);simp only [pos]at c9;obtain⟨ao,cap,hvv,hc1,hc2,hao,-⟩:=(hA.own 1 (by decide)).form;rw [hvv]at c9;have k0:=hA.num 4 (Or.inl (by decide));have k1:=hA.num 5 (Or.inl (by decide));have k2:=hA.num 6 (Or.inl (by decide));have k3:=hA.num 7 (Or.inl (by decide));simp only [num]at k0 k1 k2 k3;have hQ:=hA.lt;have cB:=fun w=>bounds_any s.d w;unfold pcV at cB;have hO:=hA.own 1 (by decide);rw [hvv]at hO;have HA:=zh hA;have HT:Hid (TaOk s.sh k):=hF.sh;have hll:(rws s 1).length=s.hi.length:=rfl;obtain⟨n0,hn0⟩: ∃n0,hd s.hi want=n0:=⟨_,rfl⟩
 rw [hn0]at hhd;obtain⟨N,hN⟩: ∃N,nD s hv want=N:=⟨_,rfl⟩
 rw [hN]at hnb⊢;have hBw:B≤w.heap.size:=Xc hA.bQ (Xw hQ);clear hvv hA hF;by_cases hl: ¬0<s.hi.length
 ·have hq: ¬(0:Int)<((rws s 1).length:Int):=by omega
  have hw0:want=n0:=by
   cases hx:s.hi with
   |nil=>rw [hx]at hn0;exact hn0
   |cons a b=>rw [hx]at hl;simp at hl
  subst hw0;clear hO hao;cases hb:bnd s.d
  ·have hfold:min want hv=N:=by rw [←hN];simp only [nD,hb,hn0];rfl
   have hfold2:(if hv<want then hv else want)=N:=by rw [←hfold];split<;>omega
   clear hfold;have HE:Hid (fewer s now hv want=s):=by unfold Hid fewer;rw [hb];rfl
   rw [hb]at cB;clear hN hn0 hll;go_enter func168,ntmps168;go_wp2_with(go_at_call 184;(with_reducible refine zg (cB _) fun wb hbb=>?_))
   go_ret;exact⟨rfl,V,by rw [HE.out];exact HA.out.below hbb,Step.of_below hbb hQ⟩
  ·obtain⟨b,hbb⟩: ∃b,hv+s.sh.s=b:=⟨_,rfl⟩
   obtain⟨pt,hpt⟩: ∃pt,partD s b=pt:=⟨_,rfl⟩
   have hb0:0≤b∧b≤60000000:=by omega
   have hpb:0≤pt∧pt≤1000000000000001:=by rw [←hpt];exact partD_bd s _ (by omega) (by omega)
   obtain⟨q,hq'⟩: ∃q,max s.d.n pt=q:=⟨_,rfl⟩
   have hqb:0≤q∧q≤1000000000000001:=by omega
   obtain⟨r,hr⟩: ∃r,max want (b-q)=r:=⟨_,rfl⟩
   have hfold:min r hv=N:=by rw [←hN,←hr,←hq',←hpt,←hbb];simp only [nD,hb,hn0,if_true]
   have e2:(if s.d.n<pt then pt else s.d.n)=q:=by rw [←hq'];split<;>omega
   have e3:(if want<b-q then b-q else want)=r:=by rw [←hr];split<;>omega
   have e4:(if hv<r then hv else r)=N:=by rw [←hfold];split<;>omega
   have e1:hv+s.sh.s=b:=hbb;have HE:Hid (fewer s now hv want= { s with sh:=s.sh.add now (hv-N) }):=by unfold Hid fewer;rw [hb,hN];rfl
   clear hq' hr hfold hbb;have cS:=fun w=>share_any b (10*s.d.c) w;have hpt':share (atz (clip b)) (atz (clip (10*s.d.c)))=pt:=hpt;rw [hpt']at cS;clear hpt hpt';rw [hb]at cB;clear hN hn0 hll;go_enter func168,ntmps168
   go_wp2_with (first
    |(go_at_call 184;(with_reducible refine zg (cB _) fun wb hbb=>?_);have hAb:=HA.out.below hbb;have j1:=hAb.num 5 (Or.inl (by decide));have j2:=hAb.num 6 (Or.inl (by decide));have jt:=hAb.num 14 (Or.inr (Or.inr rfl));simp only [num]at j1 j2 jt;have HB:=zh hAb;have HSb:Hid (Step Q O V V w wb):=Step.of_below hbb hQ;have hBb:B≤wb.heap.size:=Xc hBw hbb.size;clear hAb hbb)
    |(go_at_call 188;(with_reducible refine zq (cS _) ?_))
    |(go_at_call 187;(with_reducible refine(add_any B Q (O+13) (V 3) s.sh now (hv-N) k _ HB.out.talS HT.out hk (by omega) (by omega) hBb).mono ?_);rintro e w2 ⟨rfl,v2,hT2,hl2,hW2⟩;obtain⟨hA2,hS2⟩:=HB.out.newS hT2 hl2 hW2;rw [←HE.out]at hA2;have HF:Hid (∃V',SAt w2 B Q O V' (fewer s now hv want)∧Step Q O V V' w w2):=⟨_,hA2,HSb.out.trans hS2⟩;clear hT2 hl2 hW2 hA2 hS2))
   go_ret;exact⟨rfl,HF.out⟩
 ·have hl':0<s.hi.length:=by omega
  have hq:(0:Int)<((rws s 1).length:Int):=by omega
  obtain⟨g,off,rfl⟩:=hao (by omega);obtain⟨m,hm,hmp⟩: ∃m,s.hi[0]? =some m∧m.p=n0:=by
   cases hx:s.hi with
   |nil=>rw [hx]at hl';simp at hl'
   |cons a b=>rw [hx]at hn0;exact⟨a,rfl,hn0⟩
  obtain⟨e0,e1,-,-,hg⟩:=own_mo hO rfl (i:=0) hm;simp only [Nat.zero_mul,XD]at e0 e1;rw [hmp]at e1;clear hO hao;cases hb:bnd s.d
  ·have hfold:min n0 hv=N:=by rw [←hN];simp only [nD,hb,hn0];rfl
   have hfold2:(if hv<n0 then hv else n0)=N:=by rw [←hfold];split<;>omega
   clear hfold;have HE:Hid (fewer s now hv want=s):=by unfold Hid fewer;rw [hb];rfl
   rw [hb]at cB;clear hN hn0 hll;go_enter func168,ntmps168;go_wp2_with(go_at_call 184;(with_reducible refine zg (cB _) fun wb hbb=>?_))
   go_ret;exact⟨rfl,V,by rw [HE.out];exact HA.out.below hbb,Step.of_below hbb hQ⟩
  ·obtain⟨b,hbb⟩: ∃b,hv+s.sh.s=b:=⟨_,rfl⟩
   obtain⟨pt,hpt⟩: ∃pt,partD s b=pt:=⟨_,rfl⟩
   have hb0:0≤b∧b≤60000000:=by omega
   have hpb:0≤pt∧pt≤1000000000000001:=by rw [←hpt];exact partD_bd s _ (by omega) (by omega)
   obtain⟨q,hq'⟩: ∃q,max s.d.n pt=q:=⟨_,rfl⟩
   have hqb:0≤q∧q≤1000000000000001:=by omega
   obtain⟨r,hr⟩: ∃r,max n0 (b-q)=r:=⟨_,rfl⟩
   have hfold:min r hv=N:=by rw [←hN,←hr,←hq',←hpt,←hbb];simp only [nD,hb,hn0,if_true]
   have e2:(if s.d.n<pt then pt else s.d.n)=q:=by rw [←hq'];split<;>omega
   have e3:(if n0<b-q then b-q else n0)=r:=by rw [←hr];split<;>omega
   have e4:(if hv<r then hv else r)=N:=by rw [←hfold];split<;>omega
   have e1:hv+s.sh.s=b:=hbb;have HE:Hid (fewer s now hv want= { s with sh:=s.sh.add now (hv-N) }):=by unfold Hid fewer;rw [hb,hN];rfl
   clear hq' hr hfold hbb;have cS:=fun w=>share_any b (10*s.d.c) w;have hpt':share (atz (clip b)) (atz (clip (10*s.d.c)))=pt:=hpt;rw [hpt']at cS;clear hpt hpt';rw [hb]at cB;clear hN hn0 hll;go_enter func168,ntmps168
   go_wp2_with (first
    |(go_at_call 184;(with_reducible refine zg (cB _) fun wb hbb=>?_);have hAb:=HA.out.below hbb;have j1:=hAb.num 5 (Or.inl (by decide));have j2:=hAb.num 6 (Or.inl (by decide));have jt:=hAb.num 14 (Or.inr (Or.inr rfl));simp only [num]at j1 j2 jt;have HB:=zh hAb;have HSb:Hid (Step Q O V V w wb):=Step.of_below hbb hQ;have hBb:B≤wb.heap.size:=Xc hBw hbb.size;clear hAb hbb)
    |(go_at_call 188;(with_reducible refine zq (cS _) ?_))
    |(go_at_call 187;(with_reducible refine(add_any B Q (O+13) (V 3) s.sh now (hv-N) k _ HB.out.talS HT.out hk (by omega) (by omega) hBb).mono ?_);rintro e w2 ⟨rfl,v2,hT2,hl2,hW2⟩;obtain⟨hA2,hS2⟩:=HB.out.newS hT2 hl2 hW2;rw [←HE.out]at hA2;have HF:Hid (∃V',SAt w2 B Q O V' (fewer s now hv want)∧Step Q O V V' w w2):=⟨_,hA2,HSb.out.trans hS2⟩;clear hT2 hl2 hW2 hA2 hS2))
   go_ret;exact⟨rfl,HF.out⟩
end Stb
namespace Stb
open Rw Go.RowKit

def SeA (B Q O:Nat) (V:Nat→Value) (s:St) (now hv want:Int) (w:World) (e:Ending) (w':World):Prop:=
 e=.returned (.tuple #[.int .i64 (setN s now hv want),.int .i64 (setE s now hv want)])∧ ∃V',SAt w' B Q O V' (setS s now hv want)∧Step Q O V V' w w'
theorem sea_no {B Q O:Nat} {V:Nat→Value} {s:St} {now hv want:Int} {w:World} (hA:SAt w B Q O V s) (h: ¬(s.last≤now∧now≤1099511627776∧0≤hv∧hv≤50∧0≤want∧want≤50)):SeA B Q O V s now hv want w (.returned (.tuple #[.int .i64 0,.int .i64 1])) w:=by
 have ho:okArg s.last now hv want=false:=by simp only [okArg,decide_eq_false_iff_not];exact h
 refine⟨?_,V,?_,Step.refl _ _ _ _⟩
 ·simp [setN,setE,ho]
 ·simpa [setS,ho]using hA
theorem set_no (B Q O:Nat) (V:Nat→Value) (s:St) (now hv want:Int) (w:World) (hA:SAt w B Q O V s) (h: ¬(s.last≤now∧now≤1099511627776∧0≤hv∧hv≤50∧0≤want∧want≤50)):
  Calls prog 142 #[.pointer (some ⟨Q,O,none⟩),.int .i64 now,.int .i64 hv,.int .i64 want] w (SeA B Q O V s now hv want w):=by
 have HN:Hid (SeA B Q O V s now hv want w (.returned (.tuple #[.int .i64 0,.int .i64 1])) w):=sea_no hA h;have k8:=hA.num 8 (Or.inl (by decide));simp only [num]at k8;have hQ:=hA.lt;have m1:=fun w=>mayBe_any hv w;have m2:=fun w=>mayBe_any want w;by_cases h1:now<s.last
 ·clear h hA;go_enter func142,ntmps142;go_wp2;go_ret2;exact HN.out
 ·by_cases h2:1099511627776<now
  ·clear h hA;go_enter func142,ntmps142;go_wp2;go_ret2;exact HN.out
  ·cases h3:mb hv
   ·rw [h3]at m1;clear h hA;go_enter func142,ntmps142;go_wp2_with(go_at_call 164;(with_reducible refine zq (m1 _) ?_))
    go_ret2;exact HN.out
   ·cases h4:mb want
    ·have hne:hv≠want:=fun e=>by rw [e,h4]at h3;cases h3
     rw [h3]at m1;rw [h4]at m2;clear h hA;go_enter func142,ntmps142
     go_wp2_with (first
      |(go_at_call 164;(with_reducible refine zq (m1 _) ?_))
      |(go_at_call 164;(with_reducible refine zq (m2 _) ?_)))
     go_ret2;exact HN.out
    ·exfalso;rw [mb_iff]at h3 h4;exact h ⟨by omega,by omega,h3.1,h3.2,h4.1,h4.2⟩
theorem set_yes (B Q O:Nat) (V:Nat→Value) (s:St) (now hv want:Int) (k:Nat) (w:World) (hA:SAt w B Q O V s) (hF:Fit s k) (hk:k≤900000) (h1:s.last≤now) (h2:now≤1099511627776) (h3:0≤hv∧hv≤50) (h4:0≤want∧want≤50):
  Calls prog 142 #[.pointer (some ⟨Q,O,none⟩),.int .i64 now,.int .i64 hv,.int .i64 want] w (SeA B Q O V s now hv want w):=by
 have ho:okArg s.last now hv want=true:=by simp only [okArg,decide_eq_true_eq];omega
 have hl0:=hF.last;have k8:=hA.num 8 (Or.inl (by decide));simp only [num]at k8;have hQ:=hA.lt;have f8:=hA.fz (O+8);have m1:=fun w=>mayBe_any hv w;have m2:=fun w=>mayBe_any want w;rw [(mb_iff hv).2 h3]at m1;rw [(mb_iff want).2 h4]at m2;have hn1: ¬now<s.last:=by omega
 have hn2: ¬1099511627776<now:=by omega
 obtain⟨hA1,hS1⟩:=hA.setLast now;have hF1:Fit { s with last:=now } k:= { hF with last:=⟨show 0≤now by omega,h2⟩ }
 have hB1:B≤(w.setCell ⟨Q,O+8,none⟩ (.int .i64 now)).heap.size:=Xc hA1.bQ (Xw hA1.lt);have cK:=know_any B Q O V { s with last:=now } now want k _ hA1 hF1 (by omega) hB1 rfl;have hF2:Fit (know s now want) (k+1):=hF.know ⟨by omega,h2⟩ h4;have hF3:Fit (forget (know s now want) now) (k+1):=hF2.forget now;have HF3:=zh hF3;have HF2:=zh hF2;have HS1:=zh hS1;have HO:=zh ho;have h0n:0≤now:=by omega
 clear hA hA1 hS1 hF hF1 hF2 hF3 ho hB1;by_cases ha:hv<want
 ·have HN:Hid (setN s now hv want=nU (forget (know s now want) now) hv want∧setE s now hv want=0∧setS s now hv want=more (forget (know s now want) now) now hv want):=by
   refine⟨?_,?_,?_⟩
   ·rw [setN,if_pos HO.out,if_pos ha]
   ·rw [setE,if_pos HO.out]
   ·rw [setS,if_pos HO.out,if_pos ha]
  go_enter func142,ntmps142
  go_wp2_with (first
   |(go_at_call 164;(with_reducible refine zq (m1 _) ?_))
   |(go_at_call 164;(with_reducible refine zq (m2 _) ?_))
   |(go_at_call 165;(with_reducible refine cK.mono ?_);rintro e w3 ⟨rfl,V3,hA3,hS3⟩;have HA3:=zh hA3;have HS3:Hid (Step Q O V V3 w w3):=HS1.out.trans hS3;clear hA3 hS3)
   |(go_at_call 166;(with_reducible refine(sforget_any B Q O V3 (know s now want) now (k+1) _ HA3.out HF2.out (by omega) h0n h2).mono ?_);rintro e w4 ⟨rfl,V4,hA4,hS4⟩;have HA4:=zh hA4;have HS4:Hid (Step Q O V V4 w w4):=HS3.out.trans hS4;clear hA4 hS4)
   |(go_at_call 167;(with_reducible refine(more_any B Q O V4 (forget (know s now want) now) now hv want (k+1) _ HA4.out HF3.out (by omega) h3 h4).mono ?_);rintro e w5 ⟨rfl,V5,hA5,hS5⟩;have HA5:=zh hA5;have HS5:Hid (Step Q O V V5 w w5):=HS4.out.trans hS5;clear hA5 hS5))
  go_ret2;exact⟨by rw [HN.out.1,HN.out.2.1];rfl,V5,by rw [HN.out.2.2];exact HA5.out,HS5.out⟩
 ·by_cases hb:want<hv
  ·have HN:Hid (setN s now hv want=nD (forget (know s now want) now) hv want∧setE s now hv want=0∧setS s now hv want=fewer (forget (know s now want) now) now hv want):=by
    refine⟨?_,?_,?_⟩
    ·rw [setN,if_pos HO.out,if_neg ha,if_pos hb]
    ·rw [setE,if_pos HO.out]
    ·rw [setS,if_pos HO.out,if_neg ha,if_pos hb]
   go_enter func142,ntmps142
   go_wp2_with (first
    |(go_at_call 164;(with_reducible refine zq (m1 _) ?_))
    |(go_at_call 164;(with_reducible refine zq (m2 _) ?_))
    |(go_at_call 165;(with_reducible refine cK.mono ?_);rintro e w3 ⟨rfl,V3,hA3,hS3⟩;have HA3:=zh hA3;have HS3:Hid (Step Q O V V3 w w3):=HS1.out.trans hS3;clear hA3 hS3)
    |(go_at_call 166;(with_reducible refine(sforget_any B Q O V3 (know s now want) now (k+1) _ HA3.out HF2.out (by omega) h0n h2).mono ?_);rintro e w4 ⟨rfl,V4,hA4,hS4⟩;have HA4:=zh hA4;have HS4:Hid (Step Q O V V4 w w4):=HS3.out.trans hS4;clear hA4 hS4)
    |(go_at_call 168;(with_reducible refine(fewer_any B Q O V4 (forget (know s now want) now) now hv want (k+1) _ HA4.out HF3.out (by omega) h3 h4).mono ?_);rintro e w5 ⟨rfl,V5,hA5,hS5⟩;have HA5:=zh hA5;have HS5:Hid (Step Q O V V5 w w5):=HS4.out.trans hS5;clear hA5 hS5))
   go_ret2;exact⟨by rw [HN.out.1,HN.out.2.1];rfl,V5,by rw [HN.out.2.2];exact HA5.out,HS5.out⟩
  ·have HN:Hid (setN s now hv want=hv∧setE s now hv want=0∧setS s now hv want=forget (know s now want) now):=by
    refine⟨?_,?_,?_⟩
    ·rw [setN,if_pos HO.out,if_neg ha,if_neg hb]
    ·rw [setE,if_pos HO.out]
    ·rw [setS,if_pos HO.out,if_neg ha,if_neg hb]
   go_enter func142,ntmps142
   go_wp2_with (first
    |(go_at_call 164;(with_reducible refine zq (m1 _) ?_))
    |(go_at_call 164;(with_reducible refine zq (m2 _) ?_))
    |(go_at_call 165;(with_reducible refine cK.mono ?_);rintro e w3 ⟨rfl,V3,hA3,hS3⟩;have HA3:=zh hA3;have HS3:Hid (Step Q O V V3 w w3):=HS1.out.trans hS3;clear hA3 hS3)
    |(go_at_call 166;(with_reducible refine(sforget_any B Q O V3 (know s now want) now (k+1) _ HA3.out HF2.out (by omega) h0n h2).mono ?_);rintro e w4 ⟨rfl,V4,hA4,hS4⟩;have HA4:=zh hA4;have HS4:Hid (Step Q O V V4 w w4):=HS3.out.trans hS4;clear hA4 hS4))
   go_ret2;exact⟨by rw [HN.out.1,HN.out.2.1];rfl,V4,by rw [HN.out.2.2];exact HA4.out,HS4.out⟩
theorem set_any (B Q O:Nat) (V:Nat→Value) (s:St) (now hv want:Int) (k:Nat) (w:World) (hA:SAt w B Q O V s) (hF:Fit s k) (hk:k≤900000):
  Calls prog 142 #[.pointer (some ⟨Q,O,none⟩),.int .i64 now,.int .i64 hv,.int .i64 want] w (SeA B Q O V s now hv want w):=by
 by_cases h:s.last≤now∧now≤1099511627776∧0≤hv∧hv≤50∧0≤want∧want≤50
 ·obtain⟨a,b,c,d,e,f⟩:=h;exact set_yes B Q O V s now hv want k w hA hF hk a b ⟨c,d⟩ ⟨e,f⟩
 ·exact set_no B Q O V s now hv want w hA h
end Stb
namespace Stb
open Rw Go.RowKit Plain Num
variable {B D:Nat} {vw vm v':Value} {c:Cm} {now:Int} {w w3:World} {x:Obj}

theorem rin_yes (n lo hi:Int) (w:World) (h1:lo≤n) (h2:n≤hi):
  CS 6 #[.int .i64 n,.int .i64 lo,.int .i64 hi] w (.bool true):=by
 have d1:decide (lo≤n)=true:=by simp [h1]
 have d2:decide (n≤hi)=true:=by simp [h2]
 go_enter func6,ntmps6;go_wp2;go_ret;exact⟨rfl,rfl⟩
theorem rin_no (n lo hi:Int) (w:World) (h: ¬(lo≤n∧n≤hi)):
  CS 6 #[.int .i64 n,.int .i64 lo,.int .i64 hi] w (.bool false):=by
 by_cases h1:lo≤n
 ·have d1:decide (lo≤n)=true:=by simp [h1]
  have d2:decide (n≤hi)=false:=by simp;omega
  clear h;go_enter func6,ntmps6;go_wp2;go_ret;exact⟨rfl,rfl⟩
 ·have d1:decide (lo≤n)=false:=by simp;omega
  clear h;go_enter func6,ntmps6;go_wp2;go_ret;exact⟨rfl,rfl⟩
theorem info_ma:(prog.info? 203).map (fun i=>(i.zero,i.size,i.bytes))=some (some (.agg #[.int .i64 0,.int .i64 0]),2,16):=by kernel_rfl
def CeA (B D:Nat) (vw vm:Value) (c:Cm) (now hv want:Int) (w:World) (e:Ending) (w':World):Prop:=
 e=.returned (.tuple #[.int .i64 (cN c now hv want),.int .i64 (cE c now hv want)])∧ ∃vw' vm',CAt w' B D vw' vm' (cS c now hv want)∧CStep D vw vm vw' vm' w w'
structure CFit (c:Cm) (k:Nat):Prop where
 u:PcOk c.u
 d:PcOk c.d
 last:0≤c.last∧c.last≤1099511627776
 ws: ∀m∈c.ws,0≤m.p∧m.p≤50
 ms: ∀m∈c.ms,-50≤m.p∧m.p≤50
 wl:c.ws.length≤k
 ml:c.ms.length≤k
theorem cset_no (B D:Nat) (vw vm:Value) (c:Cm) (now hv want:Int) (w:World) (hA:CAt w B D vw vm c) (h: ¬(c.last≤now∧now≤1099511627776∧0≤hv∧hv≤50∧0≤want∧want≤50)):
  Calls prog 130 #[.pointer (some ⟨D,0,none⟩),.int .i64 now,.int .i64 hv,.int .i64 want] w (CeA B D vw vm c now hv want w):=by
 have HN:Hid (CeA B D vw vm c now hv want w (.returned (.tuple #[.int .i64 0,.int .i64 1])) w):=by
  have ho:okArg c.last now hv want=false:=by simp only [okArg,decide_eq_false_iff_not];exact h
  refine⟨?_,vw,vm,?_,CStep.refl _ _ _ _⟩
  ·simp [cN,cE,ho]
  ·simpa [cS,ho]using hA
 have k8:=hA.num 8 (by decide);simp only [cnum]at k8;have hQ:=hA.lt;by_cases h1:c.last≤now∧now≤1099511627776
 ·have c1:=fun w=>rin_yes now c.last 1099511627776 w h1.1 h1.2;by_cases h2:0≤hv∧hv≤50
  ·have c2:=fun w=>rin_yes hv 0 50 w h2.1 h2.2;have h3: ¬(0≤want∧want≤50):=fun h3=>h ⟨h1.1,h1.2,h2.1,h2.2,h3.1,h3.2⟩;have c3:=fun w=>rin_no want 0 50 w h3;have hne:hv≠want:=fun e=>h3 (e▸h2);clear h hA h3;go_enter func130,ntmps130
   go_wp2_with (first
    |(go_at_call 6;(with_reducible refine zq (c1 _) ?_))
    |(go_at_call 6;(with_reducible refine zq (c2 _) ?_))
    |(go_at_call 6;(with_reducible refine zq (c3 _) ?_)))
   go_ret2;exact HN.out
  ·have c2:=fun w=>rin_no hv 0 50 w h2;clear h hA h2;go_enter func130,ntmps130
   go_wp2_with (first
    |(go_at_call 6;(with_reducible refine zq (c1 _) ?_))
    |(go_at_call 6;(with_reducible refine zq (c2 _) ?_)))
   go_ret2;exact HN.out
 ·have c1:=fun w=>rin_no now c.last 1099511627776 w h1;clear h hA h1;go_enter func130,ntmps130;go_wp2_with(go_at_call 6;(with_reducible refine zq (c1 _) ?_))
  go_ret2;exact HN.out
theorem app_w {want:Int} (hA:CAt w B D vw vm c)
  (hO:Own w3 B 203 2 v' (c.ws.length+1) (cels mc c.ws++ [.int .i64 now,.int .i64 want])) (hg:((w.setCell ⟨D,8,none⟩ (.int .i64 now)).alloc x).grownBy w3 vw.ownBlock) (hl:v'.ownBlock=vw.ownBlock∨v'.ownBlock=some ((w.setCell ⟨D,8,none⟩ (.int .i64 now)).alloc x).heap.size):
  Hid (CAt (w3.setCell ⟨D,9,none⟩ v') B D v' vm ⟨c.u,c.d,now,c.ws++ [⟨now,want⟩],c.ms⟩∧CStep D vw vm v' vm w (w3.setCell ⟨D,9,none⟩ v'))∧w3.cell? ⟨D,9,none⟩=some vw∧w3.frozen? ⟨D,9,none⟩=false:=by
 obtain⟨h1,s1⟩:=hA.setLast now;have h2:=h1.alloc x;have s2:CStep D vw vm vw vm (w.setCell ⟨D,8,none⟩ (.int .i64 now)) ((w.setCell ⟨D,8,none⟩ (.int .i64 now)).alloc x):=CStep.of_below ((Below.refl _ _).alloc (Xa _) _);have hO':Own w3 B 203 2 v' (c.ws++ [(⟨now,want⟩:Mo)]).length (cels mc (c.ws++ [(⟨now,want⟩:Mo)])):=by
  rw [cels_append,Xg];exact hO
 obtain⟨h3,s3,c9,f9⟩:=h2.newW hg hO' (hl.imp id fun e=>⟨_,e,Xa _⟩);exact⟨⟨h3,(s1.trans s2).trans s3⟩,c9,f9⟩
theorem app_m {d:Int} (hA:CAt w B D vw vm c)
  (hO:Own w3 B 203 2 v' (c.ms.length+1) (cels mc c.ms++ [.int .i64 now,.int .i64 d])) (hg:(w.alloc x).grownBy w3 vm.ownBlock) (hl:v'.ownBlock=vm.ownBlock∨v'.ownBlock=some (w.alloc x).heap.size):
  Hid (CAt (w3.setCell ⟨D,10,none⟩ v') B D vw v' ⟨c.u,c.d,c.last,c.ws,c.ms++ [⟨now,d⟩]⟩∧CStep D vw vm vw v' w (w3.setCell ⟨D,10,none⟩ v'))∧w3.cell? ⟨D,10,none⟩=some vm∧w3.frozen? ⟨D,10,none⟩=false:=by
 have h2:=hA.alloc x;have s2:CStep D vw vm vw vm w (w.alloc x):=CStep.of_below ((Below.refl _ _).alloc (Xa _) _);have hO':Own w3 B 203 2 v' (c.ms++ [(⟨now,d⟩:Mo)]).length (cels mc (c.ms++ [(⟨now,d⟩:Mo)])):=by
  rw [cels_append,Xg];exact hO
 obtain⟨h3,s3,c9,f9⟩:=h2.newM hg hO' (hl.imp id fun e=>⟨_,e,Xa _⟩);exact⟨⟨h3,s2.trans s3⟩,c9,f9⟩
theorem fold_step (up:Bool) (t n:Int) (L:List Mo) (i:Nat) (m:Mo) (hm:L[i]? =some m):(L.take (i+1)).foldl (stF up t) n=stF up t ((L.take i).foldl (stF up t) n) m:=by
 obtain⟨hl,he⟩:=Xe.1 hm;rw [←List.take_append_getElem hl,List.foldl_append,he];rfl
theorem stF_up (t n:Int) (m:Mo):stF true t n m≤n:=by unfold stF;simp only [if_true];split<;>omega
theorem stF_dn (t n:Int) (m:Mo):n≤stF false t n m:=by unfold stF;simp only [XU,if_false];split<;>omega
theorem fold_bd (up:Bool) (t:Int) (L:List Mo) (n:Int) (h: ∀m∈L,0≤m.p∧m.p≤50) (hn:0≤n∧n≤50):0≤L.foldl (stF up t) n∧L.foldl (stF up t) n≤50∧(up=true→L.foldl (stF up t) n≤n)∧(up=false→n≤L.foldl (stF up t) n):=by
 induction L generalizing n with
 |nil=>exact⟨hn.1,hn.2,fun _=>Xu _,fun _=>Xu _⟩
 |cons a L ih=>
  have ha:=h a (by simp);have h2:0≤stF up t n a∧stF up t n a≤50:=by unfold stF;split<;>omega
  have h3:=ih (stF up t n a) (fun m hm=>h m (by simp [hm])) h2;have h4:(up=true→stF up t n a≤n)∧(up=false→n≤stF up t n a):=⟨fun e=>by rw [e];exact stF_up t n a,fun e=>by rw [e];exact stF_dn t n a⟩
  simp only [List.foldl_cons];refine⟨h3.1,h3.2.1,fun e=> ?_,fun e=> ?_⟩
  ·have a:=h3.2.2.1 e;have b:=h4.1 e;omega
  ·have a:=h3.2.2.2 e;have b:=h4.2 e;omega
theorem sumF_step (f:Int→Int) (t:Int) (L:List Mo) (i:Nat) (m:Mo) (hm:L[i]? =some m):sumF f (L.take (i+1)) t=sumF f (L.take i) t+(if t<m.t then f m.p else 0):=by
 obtain⟨hl,he⟩:=Xe.1 hm;rw [←List.take_append_getElem hl,sumF_append,he];simp only [sumF];omega
theorem sumF_bd (f:Int→Int) (hf: ∀x,-50≤x→x≤50→0≤f x∧f x≤50) (t:Int) (L:List Mo) (h: ∀m∈L,-50≤m.p∧m.p≤50):0≤sumF f L t∧sumF f L t≤50*L.length:=by
 induction L with
 |nil=>simp [sumF]
 |cons a L ih=>
  have ha:=h a (by simp);have h1:=hf a.p ha.1 ha.2;have h2:=ih (fun m hm=>h m (by simp [hm]));simp only [sumF,Xr];split<;>omega
theorem fup_bd (x:Int) (h1: -50≤x) (h2:x≤50):0≤fup x∧fup x≤50:=by unfold fup;omega
theorem fdn_bd (x:Int) (h1: -50≤x) (h2:x≤50):0≤fdn x∧fdn x≤50:=by unfold fdn;omega
def L1R (up:Bool) (t want:Int) (L:List Mo) (wa:World) (vn vi:Value) (wr:World):Prop:=
 ∃i:Nat,i≤L.length∧vi=.int .i64 i∧vn=.int .i64 ((L.take i).foldl (stF up t) want)∧Below wa.heap.size wa wr
def L2R (f:Int→Int) (t:Int) (L:List Mo) (wa:World) (vm vi:Value) (wr:World):Prop:=
 ∃i:Nat,i≤L.length∧vi=.int .i64 i∧vm=.int .i64 (sumF f (L.take i) t)∧Below wa.heap.size wa wr
theorem cell_new {W:World} {cs:Array Value} {e:TypeId} {N j:Nat} {v:Value} (hN:N=W.heap.size) (hj:cs[j]? =some v):(W.alloc (.cells cs e)).cell? ⟨N,j,none⟩=some v:=by
 subst hN;simpa using hj
theorem last_of (ws:List Mo) (x:Mo) (i:Nat) (m:Mo) (h:(ws++ [x])[i]? =some m) (hi:i=ws.length):m=x:=by
 subst hi;simp at h;exact h.symm

theorem cset_up (B D:Nat) (vw vm:Value) (c:Cm) (now hv want:Int) (k:Nat) (w:World) (hA:CAt w B D vw vm c) (hF:CFit c k) (hk:k≤200000) (h1:c.last≤now) (h2:now≤1099511627776) (h3:0≤hv∧hv≤50) (h4:0≤want∧want≤50) (hlt:hv<want):
  Calls prog 130 #[.pointer (some ⟨D,0,none⟩),.int .i64 now,.int .i64 hv,.int .i64 want] w (CeA B D vw vm c now hv want w):=by
 obtain⟨i0,hi,hz0,hz1,hz2⟩:=info_parts info_ma;have hl0:=hF.last;have c1:=fun w=>rin_yes now c.last 1099511627776 w h1 h2;have c2:=fun w=>rin_yes hv 0 50 w h3.1 h3.2;have c3:=fun w=>rin_yes want 0 50 w h4.1 h4.2;have hww:=hF.ws;have hmm:=hF.ms;have hwl:=hF.wl;have hml:=hF.ml;have pw:=hF.u.w;have pn:=hF.u.n;have pc:=hF.u.c;have pp:=hF.u.p;obtain⟨ao,cap,rfl,hc1,hc2,hao,-⟩:=hA.oW.form;obtain⟨mo,mcap,rfl,hm1,hm2,hmo,-⟩:=hA.oM.form;have k8:=hA.num 8 (by decide);simp only [cnum]at k8;have f8:=hA.fz 8;have r9:=hA.rW;have hQ:=hA.lt;have hB1:B≤w.heap.size:=Xc hA.bD (Xw hA.lt);obtain⟨hA1,hS1⟩:=hA.setLast now;have r91:=hA1.rW;have hO1:=hA1.oW;have HA:=zh hA;clear hA hA1 hS1 hF;go_enter func130,ntmps130
 go_upto_region 12 with (first
  |(go_at_call 6;(with_reducible refine zq (c1 _) ?_))
  |(go_at_call 6;(with_reducible refine zq (c2 _) ?_))
  |(go_at_call 6;(with_reducible refine zq (c3 _) ?_))
  |(at_builtin;refine wpList_at rfl _ _ 169 rfl B 203 i0 (.agg #[.int .i64 0,.int .i64 0]) 2 16 underlying169 hi hz0 hz1 hz2 rfl _ _ _ rfl (Own.alloc hO1 _) ⟨w.heap.size,0,none⟩ 1 1 [.int .i64 now,.int .i64 want] rfl rfl (cell_twoN _ _ _ (by simp)) (fun u hu=>by simp at hu;rcases hu with rfl|rfl<;>rfl) (by decide) (by unfold maxLen;omega) (by omega) (by simp;omega) ?_;intro v' w3 hown3 hgrow3 hloc3;obtain⟨ao3,cap3,rfl,-,-,hao3,-⟩:=hown3.form;obtain⟨g,off,rfl⟩:=hao3 (by omega);clear hao3;obtain⟨HF,cM3,fM3⟩:=app_w HA.out hown3 hgrow3 hloc3;have j0:=HF.out.1.num 0 (by decide);have j1:=HF.out.1.num 1 (by decide);have j2:=HF.out.1.num 2 (by decide);have j3:=HF.out.1.num 3 (by decide);have j4:=HF.out.1.num 4 (by decide);have j5:=HF.out.1.num 5 (by decide);have j6:=HF.out.1.num 6 (by decide);have j7:=HF.out.1.num 7 (by decide);simp only [cnum]at j0 j1 j2 j3 j4 j5 j6 j7;have hD3:D<w3.heap.size:=(by simpa using HF.out.1.lt)))
 have hA4:=HF.out.1.alloc (.cells #[.int .i64 c.u.w,.int .i64 c.u.n,.int .i64 c.u.c,.int .i64 c.u.p] 23);have hS4:=HF.out.2.trans (CStep.of_below (D:=D) (vw:=.slice (some ⟨g,off,none⟩) (c.ws.length+1) cap3) (vm:=.slice mo c.ms.length mcap) (((Below.refl _ _).alloc (Xa _) _:Below _ (w3.setCell ⟨D,9,none⟩ (.slice (some ⟨g,off,none⟩) (c.ws.length+1) cap3)) ((w3.setCell ⟨D,9,none⟩ (.slice (some ⟨g,off,none⟩) (c.ws.length+1) cap3)).alloc (.cells #[.int .i64 c.u.w,.int .i64 c.u.n,.int .i64 c.u.c,.int .i64 c.u.p] 23)))));have P0:((w3.setCell ⟨D,9,none⟩ (.slice (some ⟨g,off,none⟩) (c.ws.length+1) cap3)).alloc (.cells #[.int .i64 c.u.w,.int .i64 c.u.n,.int .i64 c.u.c,.int .i64 c.u.p] 23)).cell? ⟨w3.heap.size,0,none⟩=some (.int .i64 c.u.w):=cell_new (by simp) rfl;have P1:((w3.setCell ⟨D,9,none⟩ (.slice (some ⟨g,off,none⟩) (c.ws.length+1) cap3)).alloc (.cells #[.int .i64 c.u.w,.int .i64 c.u.n,.int .i64 c.u.c,.int .i64 c.u.p] 23)).cell? ⟨w3.heap.size,1,none⟩=some (.int .i64 c.u.n):=cell_new (by simp) rfl;have P2:((w3.setCell ⟨D,9,none⟩ (.slice (some ⟨g,off,none⟩) (c.ws.length+1) cap3)).alloc (.cells #[.int .i64 c.u.w,.int .i64 c.u.n,.int .i64 c.u.c,.int .i64 c.u.p] 23)).cell? ⟨w3.heap.size,2,none⟩=some (.int .i64 c.u.c):=cell_new (by simp) rfl;have P3:((w3.setCell ⟨D,9,none⟩ (.slice (some ⟨g,off,none⟩) (c.ws.length+1) cap3)).alloc (.cells #[.int .i64 c.u.w,.int .i64 c.u.n,.int .i64 c.u.c,.int .i64 c.u.p] 23)).cell? ⟨w3.heap.size,3,none⟩=some (.int .i64 c.u.p):=cell_new (by simp) rfl;have hPl:w3.heap.size<((w3.setCell ⟨D,9,none⟩ (.slice (some ⟨g,off,none⟩) (c.ws.length+1) cap3)).alloc (.cells #[.int .i64 c.u.w,.int .i64 c.u.n,.int .i64 c.u.c,.int .i64 c.u.p] 23)).heap.size:=by simp
 have hDP:D≠w3.heap.size:=by omega
 generalize (w3.setCell ⟨D,9,none⟩ (.slice (some ⟨g,off,none⟩) (c.ws.length+1) cap3)).alloc (.cells #[.int .i64 c.u.w,.int .i64 c.u.n,.int .i64 c.u.c,.int .i64 c.u.p] 23)=wa at*;generalize w3.heap.size=P at*;have hBa:B≤wa.heap.size:=Xc hA4.bD (Xw hA4.lt);have hrow:=hA4.rW;have HA4:=zh hA4;have HS4:=zh hS4;clear hA4 hS4 HF j0 j1 j2 j3 j4 j5 j6 j7 cM3 fM3 hown3 hgrow3 hloc3 HA r9 r91 hO1 c1 c2 c3 k8 f8 hao hc1 hc2 hQ hB1 hrow hD3;have ho:okArg c.last now hv want=true:=okArg_iff.2 ⟨h1,h2,h3.1,h3.2,h4.1,h4.2⟩;obtain⟨N,hN⟩: ∃N,cU c now hv want=N:=⟨_,rfl⟩
 have hcn:cN c now hv want=N:=by unfold cN;rw [if_pos ho,if_pos hlt];exact hN
 have HCE:Hid (cE c now hv want=0):=by unfold Hid cE;rw [if_pos ho]
 have HCS:Hid (cS c now hv want=⟨c.u,c.d,now,c.ws++ [⟨now,want⟩],mov c.ms now (N-hv)⟩):=by unfold Hid cS;rw [if_pos ho,hcn]
 have HCN:=zh hcn;clear hcn ho;obtain⟨L,hL⟩: ∃L,c.ws++ [(⟨now,want⟩:Mo)]=L:=⟨_,rfl⟩
 have hLl:L.length=c.ws.length+1:=by rw [←hL];simp
 have hLast: ∀i m,L[i]? =some m→i=c.ws.length→m.p=want:=fun i m hm hi=>by rw [←hL]at hm;rw [last_of _ _ i m hm hi]
 have hLp: ∀m∈L,0≤m.p∧m.p≤50:=by
  intro m hm;rw [←hL]at hm;rcases Xp.1 hm with a|a
  ·exact hww m a
  ·simp only [XA]at a;subst a;exact h4
 have hn1:cU1 c now want=L.foldl (stF true (now-c.u.w)) want:=by rw [←hL];rfl
 rw [hL]at HA4 HCS;go_wp2_with fail
 go_loopw [10,13] (fun vn vi wr=>L1R true (now-c.u.w) want L wa vn vi wr) (fun _ i _=>L.length-(intOf i).toNat)
 case atStart=>exact⟨0,by omega,rfl,rfl,Below.refl _ _⟩
 case round=>
  obtain⟨i,hil,rfl,rfl,hb⟩:=hrel;have hAr:=HA4.out.below hb;have r9:=hAr.rW;have hDl:=hAr.lt;have q0:=(zk P0 hb)
  have q1:=(zk P1 hb)
  have q2:=(zk P2 hb)
  have q3:=(zk P3 hb)
  have hPr:=Xb hPl hb.size;have hfb:=fold_bd true (now-c.u.w) (L.take i) want (fun m hm=>hLp m (List.mem_of_mem_take hm)) h4;by_cases hlt2:i<L.length
  ·have hlt3:(i:Int)<(c.ws.length:Int)+1:=by omega
   obtain⟨m,hm⟩: ∃m,L[i]? =some m:=⟨L[i],by simp [hlt2]⟩
   obtain⟨e0,e1,-,-,hg⟩:=own_mo hAr.oW hLl.symm hm;have hst:=fold_step true (now-c.u.w) want L i m hm;have hla:=hLast i m hm;have hle:=hfb.2.2.1 rfl;clear hfb;generalize (L.take i).foldl (stF true (now-c.u.w)) want=nn at*;have HR: ∀x,stF true (now-c.u.w) nn m=x→Hid (L1R true (now-c.u.w) want L wa (.int .i64 x) (.int .i64 ((i:Int)+1)) (wr.alloc (.cells #[.int .i64 m.t,.int .i64 m.p] 203))):=fun x hx=>⟨i+1,by omega,by simp,by rw [hst,hx],hb.alloc hb.size _⟩
   clear hst hAr hLast hn1 hL hN hLp;by_cases d1:now-c.u.w<m.t
   ·by_cases d2:m.p<nn
    ·have HR1:=HR m.p (by unfold stF;simp [d1,d2]);clear HR hb;go_wp2;go_roundw
     case rel=>exact HR1.out
     case measure=>simp [intOf];omega
    ·have HR1:=HR nn (by unfold stF;simp [d2]);clear HR hb;go_wp2;go_roundw
     case rel=>exact HR1.out
     case measure=>simp [intOf];omega
   ·have HR1:=HR nn (by unfold stF;simp [d1]);clear HR hb;by_cases d3:m.t=now
    ·have d3':(m.t==now)=true:=by simp [d3]
     by_cases d4:i=c.ws.length
     ·have hmw:=hla d4;have d5:((i:Int)==(c.ws.length:Int))=true:=by simp [d4]
      have d2: ¬m.p<nn:=(by omega);clear hla d3 d4 hmw;go_wp2;go_roundw
      case rel=>exact HR1.out
      case measure=>simp [intOf];omega
     ·have d5:((i:Int)==(c.ws.length:Int))=false:=by simp;omega
      clear hla d3;go_wp2;go_roundw
      case rel=>exact HR1.out
      case measure=>simp [intOf];omega
    ·have d3':(m.t==now)=false:=by simp [d3]
     clear hla d3;go_wp2;go_roundw
     case rel=>exact HR1.out
     case measure=>simp [intOf];omega
  ·obtain rfl:i=L.length:=by omega
   rw [XC]at hfb⊢;rw [←hn1]at hfb⊢;have hLi:((L.length:Nat):Int)=(c.ws.length:Int)+1:=by omega
   rw [hLi];have hlt3: ¬(c.ws.length:Int)+1<(c.ws.length:Int)+1:=by omega
   obtain⟨n1,hn1'⟩: ∃n1,cU1 c now want=n1:=⟨_,rfl⟩
   rw [hn1']at hfb⊢;clear hLast hLp hn1 hL;have HB:=zh hb;clear hAr hb;go_upto_region 19 with fail
   go_cut [140] (fun v wx=>v=.bool (bnd c.u)∧wx=wr)
   case first=>
    by_cases h5:c.u.p=0
    ·have d1:(c.u.p !=0)=false:=by simp [h5]
     have HM:Hid (bnd c.u=false):=by unfold Hid bnd;rw [d1];rfl
     clear h5;go_wp2_with fail
     go_meet;exact⟨by rw [HM.out],rfl⟩
    ·have d1:(c.u.p !=0)=true:=by simp [h5]
     by_cases h6:c.u.n=0
     ·have d2:(c.u.n !=0)=false:=by simp [h6]
      have HM:Hid (bnd c.u=(c.u.c !=0)):=by unfold Hid bnd;rw [d1,d2];rfl
      clear h5 h6;go_wp2_with fail
      go_meet;exact⟨by rw [HM.out],rfl⟩
     ·have d2:(c.u.n !=0)=true:=by simp [h6]
      have HM:Hid (bnd c.u=true):=by unfold Hid bnd;rw [d1,d2];rfl
      clear h5 h6;go_wp2_with fail
      go_meet;exact⟨by rw [HM.out],rfl⟩
   case rest=>
    obtain⟨hv9,hw9⟩:=hcut;subst hv9;have hw8:=hw9.symm;clear hw9;subst hw8;cases hb5:bnd c.u
    ·have hNf:max n1 hv=N:=by rw [←hN,←hn1'];simp only [cU,cU2,hb5];rfl
     have e5:(if n1<hv then hv else n1)=N:=by rw [←hNf];split<;>omega
     have hNb:0≤N∧N≤50:=(by omega);have HBt:Hid (Below wa.heap.size wa wr):=HB.out;clear hN hn1' hNf q0 q1 q2 q3;have hAt:=HA4.out.below HBt.out;have rMt:=hAt.rM;have fMt:=hAt.fz 10;have hDt:=hAt.lt;have hBt:B≤wr.heap.size:=Xc hBa HBt.out.size;have hSt:CStep D (.slice ao c.ws.length cap) (.slice mo c.ms.length mcap) (.slice (some ⟨g,off,none⟩) (c.ws.length+1) cap3) (.slice mo c.ms.length mcap) w wr:=HS4.out.trans (CStep.of_below HBt.out);by_cases hz:N=hv
     ·have hz':(N !=hv)=false:=by simp [hz]
      have HT:Hid (CeA B D (.slice ao c.ws.length cap) (.slice mo c.ms.length mcap) c now hv want w (.returned (.tuple #[.int .i64 N,.int .i64 0])) wr):=by
       refine⟨by rw [HCN.out,HCE.out],_,_,?_,hSt⟩;rw [HCS.out,mov,if_pos (by omega)];exact hAt
      clear hz hAt hSt;go_wp2;go_ret2;exact HT.out
     ·have hz':(N !=hv)=true:=by simp [hz]
      have hOm:Own wr B 203 2 (.slice mo c.ms.length mcap) c.ms.length (cels mc c.ms):=hAt.oM;have HT:Hid (∀(v5:Value) (w5:World),CAt w5 B D (.slice (some ⟨g,off,none⟩) (c.ws.length+1) cap3) v5 ⟨c.u,c.d,now,L,c.ms++ [⟨now,N-hv⟩]⟩→CStep D (.slice (some ⟨g,off,none⟩) (c.ws.length+1) cap3) (.slice mo c.ms.length mcap) (.slice (some ⟨g,off,none⟩) (c.ws.length+1) cap3) v5 wr w5→CeA B D (.slice ao c.ws.length cap) (.slice mo c.ms.length mcap) c now hv want w (.returned (.tuple #[.int .i64 N,.int .i64 0])) w5):=by
       intro v5 w5 h5 s5;refine⟨by rw [HCN.out,HCE.out],_,v5,?_,hSt.trans s5⟩;rw [HCS.out,mov,if_neg (by omega)];exact h5
      have HAt:=zh hAt;clear hz hAt hSt;go_wp2_with(at_builtin;refine wpList_at rfl _ _ 169 rfl B 203 i0 (.agg #[.int .i64 0,.int .i64 0]) 2 16 underlying169 hi hz0 hz1 hz2 rfl _ _ _ rfl (Own.alloc hOm _) ⟨wr.heap.size,0,none⟩ 1 1 [.int .i64 now,.int .i64 (N-hv)] rfl rfl (cell_twoN _ _ _ rfl) (fun u hu=>by simp at hu;rcases hu with rfl|rfl<;>rfl) (by decide) (by unfold maxLen;omega) (by omega) (by simp;omega) ?_;intro v5 w5 hown5 hgrow5 hloc5;obtain⟨ao5,cap5,rfl,-⟩:=hown5.form;obtain⟨HF5,c95,f95⟩:=app_m HAt.out hown5 hgrow5 hloc5;have HT5:Hid (CeA B D (.slice ao c.ws.length cap) (.slice mo c.ms.length mcap) c now hv want w (.returned (.tuple #[.int .i64 N,.int .i64 0])) (w5.setCell ⟨D,10,none⟩ (.slice ao5 (c.ms.length+1) cap5))):=HT.out _ _ HF5.out.1 HF5.out.2)
      go_ret2;exact HT5.out
    ·obtain⟨S,hS⟩: ∃S,sumF fup c.ms (now-c.u.p)=S:=⟨_,rfl⟩
     go_wp2_with fail
     go_loopw [15,16] (fun vs vi wr2=>L2R fup (now-c.u.p) c.ms wr vs vi wr2) (fun _ i _=>c.ms.length-(intOf i).toNat)
     case atStart=>exact⟨0,by omega,rfl,rfl,Below.refl _ _⟩
     case round=>
      obtain⟨i,hil,rfl,rfl,hb⟩:=hrel;have hbb:=(zu HB.out hb)
      have hAr:=HA4.out.below hbb;have r10:=hAr.rM;have hDl:=hAr.lt;have p1:=(zk P1 hbb)
      have p2:=(zk P2 hbb)
      have p3:=(zk P3 hbb)
      have hPr2:=Xb hPl hbb.size;have hsb:=sumF_bd fup fup_bd (now-c.u.p) (c.ms.take i) (fun m hm=>hmm m (List.mem_of_mem_take hm));have htl:(c.ms.take i).length≤200000:=by simp;omega
      by_cases hlt2:i<c.ms.length
      ·have hlt3:(i:Int)<(c.ms.length:Int):=(by omega);obtain⟨g2,off2,rfl⟩:=hmo (by omega);obtain⟨m,hm⟩: ∃m,c.ms[i]? =some m:=⟨c.ms[i],by simp [hlt2]⟩
       obtain⟨e0,e1,-,-,hg⟩:=own_mo hAr.oM rfl hm;have hst:=sumF_step fup (now-c.u.p) c.ms i m hm;have hmp:=hmm m (Xk hm);generalize sumF fup (c.ms.take i) (now-c.u.p)=Si at*;have HR: ∀x,Si+(if now-c.u.p<m.t then fup m.p else 0)=x→Hid (L2R fup (now-c.u.p) c.ms _ (.int .i64 x) (.int .i64 ((i:Int)+1)) (wr.alloc (.cells #[.int .i64 m.t,.int .i64 m.p] 203))):=fun x hx=>⟨i+1,by omega,by simp,by rw [hst,hx],hb.alloc hb.size _⟩
       clear hst hAr hN hS hmm hbb;by_cases d1:now-c.u.p<m.t
       ·by_cases d2:0<m.p
        ·have HR1:=HR (Si+m.p) (by rw [if_pos d1];unfold fup;omega);clear HR hb;go_wp2;go_roundw
         case rel=>exact HR1.out
         case measure=>simp [intOf];omega
        ·have HR1:=HR Si (by rw [if_pos d1];unfold fup;omega);clear HR hb;go_wp2;go_roundw
         case rel=>exact HR1.out
         case measure=>simp [intOf];omega
       ·have HR1:=HR Si (by rw [if_neg d1];omega);clear HR hb;go_wp2;go_roundw
        case rel=>exact HR1.out
        case measure=>simp [intOf];omega
      ·obtain rfl:i=c.ms.length:=by omega
       rw [XC]at hsb⊢;rw [hS]at hsb⊢;have hml2:(c.ms.length:Int)≤200000:=(by omega);obtain⟨b,hbv⟩: ∃b,max (hv-S) 0=b:=⟨_,rfl⟩
       have hb0:0≤b∧b≤11000000:=(by omega);have e1:(if hv-S<0 then(0:Int)else hv-S)=b:=by rw [←hbv];split<;>omega
       obtain⟨x,hx⟩: ∃x,b*c.u.c=x:=⟨_,rfl⟩
       have hx0:0≤x∧x≤1100000000000:=by
        rw [←hx];refine⟨Int.mul_nonneg hb0.1 pc.1,?_⟩;exact Yc (Int.mul_le_mul hb0.2 pc.2 pc.1 (by decide)) (by decide)
       have hwr1:IntKind.i64.wrap (b*c.u.c)=x:=by rw [hx];exact wrap_sub (by omega) (by omega)
       obtain⟨pt,hpt⟩: ∃pt,up (clip x) (clip 100)=pt:=⟨_,rfl⟩
       have cC:=fun w=>rceil_any x 100 w (by decide);rw [hpt]at cC;have hptb: -1000000000000000≤pt∧pt≤1000000000000001:=by rw [←hpt];exact up_bd _ _ (by decide) (clip_bd _)
       obtain⟨q,hq⟩: ∃q,max c.u.n pt=q:=⟨_,rfl⟩
       have hqb:0≤q∧q≤1000000000000001:=(by omega);have e2:(if c.u.n<pt then pt else c.u.n)=q:=by rw [←hq];split<;>omega
       have hwr2:IntKind.i64.wrap (b+q)=b+q:=wrap_sub (by omega) (by omega);obtain⟨n2,hn2⟩: ∃n2,min n1 (b+q)=n2:=⟨_,rfl⟩
       have e3:(if b+q<n1 then b+q else n1)=n2:=by rw [←hn2];split<;>omega
       have hNf:max n2 hv=N:=by
        rw [←hN,←hn2,←hq,←hpt,←hx,←hbv,←hS,←hn1'];simp only [cU,cU2,cUb,hb5,if_true]
       have e5:(if n2<hv then hv else n2)=N:=by rw [←hNf];split<;>omega
       have hNb: -1000000100000000≤N∧N≤1000000100000000:=(by omega);have hn2b: -1000000100000000≤n2∧n2≤1000000100000000:=(by omega);have HBr:=zh hbb;clear hN hn1' hNf hn2 hq hpt hbv hS hx hAr hb hbb hmm;go_upto_region 32 with fail
       go_cut [10] (fun v wx=>v=.int .i64 n2∧Below wr.heap.size wr wx)
       case first=>
        go_region_with (go_at_call 159;(with_reducible refine zq (cC _) ?_))
        all_goals
         go_wp2_with fail
         go_meet;exact⟨rfl,(Below.refl _ _).drew⟩
       case rest=>
        obtain⟨hv9,hb9⟩:=hcut;subst hv9;have HBt:Hid (Below wa.heap.size wa wc):=(zu HBr.out hb9)
        clear hb9 q0 q1 q2 q3 p1 p2 p3 cC;have hAt:=HA4.out.below HBt.out;have rMt:=hAt.rM;have fMt:=hAt.fz 10;have hDt:=hAt.lt;have hBt:B≤wc.heap.size:=Xc hBa HBt.out.size;have hSt:CStep D (.slice ao c.ws.length cap) (.slice mo c.ms.length mcap) (.slice (some ⟨g,off,none⟩) (c.ws.length+1) cap3) (.slice mo c.ms.length mcap) w wc:=HS4.out.trans (CStep.of_below HBt.out);by_cases hz:N=hv
        ·have hz':(N !=hv)=false:=by simp [hz]
         have HT:Hid (CeA B D (.slice ao c.ws.length cap) (.slice mo c.ms.length mcap) c now hv want w (.returned (.tuple #[.int .i64 N,.int .i64 0])) wc):=by
          refine⟨by rw [HCN.out,HCE.out],_,_,?_,hSt⟩;rw [HCS.out,mov,if_pos (by omega)];exact hAt
         clear hz hAt hSt;go_wp2;go_ret2;exact HT.out
        ·have hz':(N !=hv)=true:=by simp [hz]
         have hOm:Own wc B 203 2 (.slice mo c.ms.length mcap) c.ms.length (cels mc c.ms):=hAt.oM;have HT:Hid (∀(v5:Value) (w5:World),CAt w5 B D (.slice (some ⟨g,off,none⟩) (c.ws.length+1) cap3) v5 ⟨c.u,c.d,now,L,c.ms++ [⟨now,N-hv⟩]⟩→CStep D (.slice (some ⟨g,off,none⟩) (c.ws.length+1) cap3) (.slice mo c.ms.length mcap) (.slice (some ⟨g,off,none⟩) (c.ws.length+1) cap3) v5 wc w5→CeA B D (.slice ao c.ws.length cap) (.slice mo c.ms.length mcap) c now hv want w (.returned (.tuple #[.int .i64 N,.int .i64 0])) w5):=by
          intro v5 w5 h5 s5;refine⟨by rw [HCN.out,HCE.out],_,v5,?_,hSt.trans s5⟩;rw [HCS.out,mov,if_neg (by omega)];exact h5
         have HAt:=zh hAt;clear hz hAt hSt;go_wp2_with(at_builtin;refine wpList_at rfl _ _ 169 rfl B 203 i0 (.agg #[.int .i64 0,.int .i64 0]) 2 16 underlying169 hi hz0 hz1 hz2 rfl _ _ _ rfl (Own.alloc hOm _) ⟨wc.heap.size,0,none⟩ 1 1 [.int .i64 now,.int .i64 (N-hv)] rfl rfl (cell_twoN _ _ _ rfl) (fun u hu=>by simp at hu;rcases hu with rfl|rfl<;>rfl) (by decide) (by unfold maxLen;omega) (by omega) (by simp;omega) ?_;intro v5 w5 hown5 hgrow5 hloc5;obtain⟨ao5,cap5,rfl,-⟩:=hown5.form;obtain⟨HF5,c95,f95⟩:=app_m HAt.out hown5 hgrow5 hloc5;have HT5:Hid (CeA B D (.slice ao c.ws.length cap) (.slice mo c.ms.length mcap) c now hv want w (.returned (.tuple #[.int .i64 N,.int .i64 0])) (w5.setCell ⟨D,10,none⟩ (.slice ao5 (c.ms.length+1) cap5))):=HT.out _ _ HF5.out.1 HF5.out.2)
         go_ret2;exact HT5.out

theorem cset_dn (B D:Nat) (vw vm:Value) (c:Cm) (now hv want:Int) (k:Nat) (w:World) (hA:CAt w B D vw vm c) (hF:CFit c k) (hk:k≤200000) (h1:c.last≤now) (h2:now≤1099511627776) (h3:0≤hv∧hv≤50) (h4:0≤want∧want≤50) (hlt:want<hv):
  Calls prog 130 #[.pointer (some ⟨D,0,none⟩),.int .i64 now,.int .i64 hv,.int .i64 want] w (CeA B D vw vm c now hv want w):=by
 obtain⟨i0,hi,hz0,hz1,hz2⟩:=info_parts info_ma;have hl0:=hF.last;have c1:=fun w=>rin_yes now c.last 1099511627776 w h1 h2;have c2:=fun w=>rin_yes hv 0 50 w h3.1 h3.2;have c3:=fun w=>rin_yes want 0 50 w h4.1 h4.2;have hww:=hF.ws;have hmm:=hF.ms;have hwl:=hF.wl;have hml:=hF.ml;have pw:=hF.d.w;have pn:=hF.d.n;have pc:=hF.d.c;have pp:=hF.d.p;obtain⟨ao,cap,rfl,hc1,hc2,hao,-⟩:=hA.oW.form;obtain⟨mo,mcap,rfl,hm1,hm2,hmo,-⟩:=hA.oM.form;have k8:=hA.num 8 (by decide);simp only [cnum]at k8;have f8:=hA.fz 8;have r9:=hA.rW;have hQ:=hA.lt;have hB1:B≤w.heap.size:=Xc hA.bD (Xw hA.lt);obtain⟨hA1,hS1⟩:=hA.setLast now;have r91:=hA1.rW;have hO1:=hA1.oW;have HA:=zh hA;clear hA hA1 hS1 hF;go_enter func130,ntmps130
 go_upto_region 12 with (first
  |(go_at_call 6;(with_reducible refine zq (c1 _) ?_))
  |(go_at_call 6;(with_reducible refine zq (c2 _) ?_))
  |(go_at_call 6;(with_reducible refine zq (c3 _) ?_))
  |(at_builtin;refine wpList_at rfl _ _ 169 rfl B 203 i0 (.agg #[.int .i64 0,.int .i64 0]) 2 16 underlying169 hi hz0 hz1 hz2 rfl _ _ _ rfl (Own.alloc hO1 _) ⟨w.heap.size,0,none⟩ 1 1 [.int .i64 now,.int .i64 want] rfl rfl (cell_twoN _ _ _ (by simp)) (fun u hu=>by simp at hu;rcases hu with rfl|rfl<;>rfl) (by decide) (by unfold maxLen;omega) (by omega) (by simp;omega) ?_;intro v' w3 hown3 hgrow3 hloc3;obtain⟨ao3,cap3,rfl,-,-,hao3,-⟩:=hown3.form;obtain⟨g,off,rfl⟩:=hao3 (by omega);clear hao3;obtain⟨HF,cM3,fM3⟩:=app_w HA.out hown3 hgrow3 hloc3;have j0:=HF.out.1.num 0 (by decide);have j1:=HF.out.1.num 1 (by decide);have j2:=HF.out.1.num 2 (by decide);have j3:=HF.out.1.num 3 (by decide);have j4:=HF.out.1.num 4 (by decide);have j5:=HF.out.1.num 5 (by decide);have j6:=HF.out.1.num 6 (by decide);have j7:=HF.out.1.num 7 (by decide);simp only [cnum]at j0 j1 j2 j3 j4 j5 j6 j7;have hD3:D<w3.heap.size:=(by simpa using HF.out.1.lt)))
 have hA4:=HF.out.1.alloc (.cells #[.int .i64 c.d.w,.int .i64 c.d.n,.int .i64 c.d.c,.int .i64 c.d.p] 23);have hS4:=HF.out.2.trans (CStep.of_below (D:=D) (vw:=.slice (some ⟨g,off,none⟩) (c.ws.length+1) cap3) (vm:=.slice mo c.ms.length mcap) (((Below.refl _ _).alloc (Xa _) _:Below _ (w3.setCell ⟨D,9,none⟩ (.slice (some ⟨g,off,none⟩) (c.ws.length+1) cap3)) ((w3.setCell ⟨D,9,none⟩ (.slice (some ⟨g,off,none⟩) (c.ws.length+1) cap3)).alloc (.cells #[.int .i64 c.d.w,.int .i64 c.d.n,.int .i64 c.d.c,.int .i64 c.d.p] 23)))));have P0:((w3.setCell ⟨D,9,none⟩ (.slice (some ⟨g,off,none⟩) (c.ws.length+1) cap3)).alloc (.cells #[.int .i64 c.d.w,.int .i64 c.d.n,.int .i64 c.d.c,.int .i64 c.d.p] 23)).cell? ⟨w3.heap.size,0,none⟩=some (.int .i64 c.d.w):=cell_new (by simp) rfl;have P1:((w3.setCell ⟨D,9,none⟩ (.slice (some ⟨g,off,none⟩) (c.ws.length+1) cap3)).alloc (.cells #[.int .i64 c.d.w,.int .i64 c.d.n,.int .i64 c.d.c,.int .i64 c.d.p] 23)).cell? ⟨w3.heap.size,1,none⟩=some (.int .i64 c.d.n):=cell_new (by simp) rfl;have P2:((w3.setCell ⟨D,9,none⟩ (.slice (some ⟨g,off,none⟩) (c.ws.length+1) cap3)).alloc (.cells #[.int .i64 c.d.w,.int .i64 c.d.n,.int .i64 c.d.c,.int .i64 c.d.p] 23)).cell? ⟨w3.heap.size,2,none⟩=some (.int .i64 c.d.c):=cell_new (by simp) rfl;have P3:((w3.setCell ⟨D,9,none⟩ (.slice (some ⟨g,off,none⟩) (c.ws.length+1) cap3)).alloc (.cells #[.int .i64 c.d.w,.int .i64 c.d.n,.int .i64 c.d.c,.int .i64 c.d.p] 23)).cell? ⟨w3.heap.size,3,none⟩=some (.int .i64 c.d.p):=cell_new (by simp) rfl;have hPl:w3.heap.size<((w3.setCell ⟨D,9,none⟩ (.slice (some ⟨g,off,none⟩) (c.ws.length+1) cap3)).alloc (.cells #[.int .i64 c.d.w,.int .i64 c.d.n,.int .i64 c.d.c,.int .i64 c.d.p] 23)).heap.size:=by simp
 have hDP:D≠w3.heap.size:=by omega
 generalize (w3.setCell ⟨D,9,none⟩ (.slice (some ⟨g,off,none⟩) (c.ws.length+1) cap3)).alloc (.cells #[.int .i64 c.d.w,.int .i64 c.d.n,.int .i64 c.d.c,.int .i64 c.d.p] 23)=wa at*;generalize w3.heap.size=P at*;have hBa:B≤wa.heap.size:=Xc hA4.bD (Xw hA4.lt);have hrow:=hA4.rW;have HA4:=zh hA4;have HS4:=zh hS4;clear hA4 hS4 HF j0 j1 j2 j3 j4 j5 j6 j7 cM3 fM3 hown3 hgrow3 hloc3 HA r9 r91 hO1 c1 c2 c3 k8 f8 hao hc1 hc2 hQ hB1 hrow hD3;have ho:okArg c.last now hv want=true:=okArg_iff.2 ⟨h1,h2,h3.1,h3.2,h4.1,h4.2⟩;obtain⟨N,hN⟩: ∃N,cD c now hv want=N:=⟨_,rfl⟩
 have hcn:cN c now hv want=N:=by unfold cN;rw [if_pos ho,if_neg (by omega),if_pos hlt];exact hN
 have HCE:Hid (cE c now hv want=0):=by unfold Hid cE;rw [if_pos ho]
 have HCS:Hid (cS c now hv want=⟨c.u,c.d,now,c.ws++ [⟨now,want⟩],mov c.ms now (N-hv)⟩):=by unfold Hid cS;rw [if_pos ho,hcn]
 have HCN:=zh hcn;clear hcn ho;obtain⟨L,hL⟩: ∃L,c.ws++ [(⟨now,want⟩:Mo)]=L:=⟨_,rfl⟩
 have hLl:L.length=c.ws.length+1:=by rw [←hL];simp
 have hLast: ∀i m,L[i]? =some m→i=c.ws.length→m.p=want:=fun i m hm hi=>by rw [←hL]at hm;rw [last_of _ _ i m hm hi]
 have hLp: ∀m∈L,0≤m.p∧m.p≤50:=by
  intro m hm;rw [←hL]at hm;rcases Xp.1 hm with a|a
  ·exact hww m a
  ·simp only [XA]at a;subst a;exact h4
 have hn1:cD1 c now want=L.foldl (stF false (now-c.d.w)) want:=by rw [←hL];rfl
 rw [hL]at HA4 HCS;go_wp2_with fail
 go_loopw [10,13] (fun vn vi wr=>L1R false (now-c.d.w) want L wa vn vi wr) (fun _ i _=>L.length-(intOf i).toNat)
 case atStart=>exact⟨0,by omega,rfl,rfl,Below.refl _ _⟩
 case round=>
  obtain⟨i,hil,rfl,rfl,hb⟩:=hrel;have hAr:=HA4.out.below hb;have r9:=hAr.rW;have hDl:=hAr.lt;have q0:=(zk P0 hb)
  have q1:=(zk P1 hb)
  have q2:=(zk P2 hb)
  have q3:=(zk P3 hb)
  have hPr:=Xb hPl hb.size;have hfb:=fold_bd false (now-c.d.w) (L.take i) want (fun m hm=>hLp m (List.mem_of_mem_take hm)) h4;by_cases hlt2:i<L.length
  ·have hlt3:(i:Int)<(c.ws.length:Int)+1:=by omega
   obtain⟨m,hm⟩: ∃m,L[i]? =some m:=⟨L[i],by simp [hlt2]⟩
   obtain⟨e0,e1,-,-,hg⟩:=own_mo hAr.oW hLl.symm hm;have hst:=fold_step false (now-c.d.w) want L i m hm;have hla:=hLast i m hm;have hle:=hfb.2.2.2 rfl;clear hfb;generalize (L.take i).foldl (stF false (now-c.d.w)) want=nn at*;have HR: ∀x,stF false (now-c.d.w) nn m=x→Hid (L1R false (now-c.d.w) want L wa (.int .i64 x) (.int .i64 ((i:Int)+1)) (wr.alloc (.cells #[.int .i64 m.t,.int .i64 m.p] 203))):=fun x hx=>⟨i+1,by omega,by simp,by rw [hst,hx],hb.alloc hb.size _⟩
   clear hst hAr hLast hn1 hL hN hLp;by_cases d1:now-c.d.w<m.t
   ·by_cases d2:nn<m.p
    ·have HR1:=HR m.p (by unfold stF;simp [d1,d2]);clear HR hb;go_wp2;go_roundw
     case rel=>exact HR1.out
     case measure=>simp [intOf];omega
    ·have HR1:=HR nn (by unfold stF;simp [d2]);clear HR hb;go_wp2;go_roundw
     case rel=>exact HR1.out
     case measure=>simp [intOf];omega
   ·have HR1:=HR nn (by unfold stF;simp [d1]);clear HR hb;by_cases d3:m.t=now
    ·have d3':(m.t==now)=true:=by simp [d3]
     by_cases d4:i=c.ws.length
     ·have hmw:=hla d4;have d5:((i:Int)==(c.ws.length:Int))=true:=by simp [d4]
      have d2: ¬nn<m.p:=(by omega);clear hla d3 d4 hmw;go_wp2;go_roundw
      case rel=>exact HR1.out
      case measure=>simp [intOf];omega
     ·have d5:((i:Int)==(c.ws.length:Int))=false:=by simp;omega
      clear hla d3;go_wp2;go_roundw
      case rel=>exact HR1.out
      case measure=>simp [intOf];omega
    ·have d3':(m.t==now)=false:=by simp [d3]
     clear hla d3;go_wp2;go_roundw
     case rel=>exact HR1.out
     case measure=>simp [intOf];omega
  ·obtain rfl:i=L.length:=by omega
   rw [XC]at hfb⊢;rw [←hn1]at hfb⊢;have hLi:((L.length:Nat):Int)=(c.ws.length:Int)+1:=by omega
   rw [hLi];have hlt3: ¬(c.ws.length:Int)+1<(c.ws.length:Int)+1:=by omega
   obtain⟨n1,hn1'⟩: ∃n1,cD1 c now want=n1:=⟨_,rfl⟩
   rw [hn1']at hfb⊢;clear hLast hLp hn1 hL;have HB:=zh hb;clear hAr hb;go_upto_region 19 with fail
   go_cut [140] (fun v wx=>v=.bool (bnd c.d)∧wx=wr)
   case first=>
    by_cases h5:c.d.p=0
    ·have d1:(c.d.p !=0)=false:=by simp [h5]
     have HM:Hid (bnd c.d=false):=by unfold Hid bnd;rw [d1];rfl
     clear h5;go_wp2_with fail
     go_meet;exact⟨by rw [HM.out],rfl⟩
    ·have d1:(c.d.p !=0)=true:=by simp [h5]
     by_cases h6:c.d.n=0
     ·have d2:(c.d.n !=0)=false:=by simp [h6]
      have HM:Hid (bnd c.d=(c.d.c !=0)):=by unfold Hid bnd;rw [d1,d2];rfl
      clear h5 h6;go_wp2_with fail
      go_meet;exact⟨by rw [HM.out],rfl⟩
     ·have d2:(c.d.n !=0)=true:=by simp [h6]
      have HM:Hid (bnd c.d=true):=by unfold Hid bnd;rw [d1,d2];rfl
      clear h5 h6;go_wp2_with fail
      go_meet;exact⟨by rw [HM.out],rfl⟩
   case rest=>
    obtain⟨hv9,hw9⟩:=hcut;subst hv9;have hw8:=hw9.symm;clear hw9;subst hw8;cases hb5:bnd c.d
    ·have hNf:min n1 hv=N:=by rw [←hN,←hn1'];simp only [cD,cD2,hb5];rfl
     have e5:(if hv<n1 then hv else n1)=N:=by rw [←hNf];split<;>omega
     have hNb:0≤N∧N≤50:=(by omega);have HBt:Hid (Below wa.heap.size wa wr):=HB.out;clear hN hn1' hNf q0 q1 q2 q3;have hAt:=HA4.out.below HBt.out;have rMt:=hAt.rM;have fMt:=hAt.fz 10;have hDt:=hAt.lt;have hBt:B≤wr.heap.size:=Xc hBa HBt.out.size;have hSt:CStep D (.slice ao c.ws.length cap) (.slice mo c.ms.length mcap) (.slice (some ⟨g,off,none⟩) (c.ws.length+1) cap3) (.slice mo c.ms.length mcap) w wr:=HS4.out.trans (CStep.of_below HBt.out);by_cases hz:N=hv
     ·have hz':(N !=hv)=false:=by simp [hz]
      have HT:Hid (CeA B D (.slice ao c.ws.length cap) (.slice mo c.ms.length mcap) c now hv want w (.returned (.tuple #[.int .i64 N,.int .i64 0])) wr):=by
       refine⟨by rw [HCN.out,HCE.out],_,_,?_,hSt⟩;rw [HCS.out,mov,if_pos (by omega)];exact hAt
      clear hz hAt hSt;go_wp2;go_ret2;exact HT.out
     ·have hz':(N !=hv)=true:=by simp [hz]
      have hOm:Own wr B 203 2 (.slice mo c.ms.length mcap) c.ms.length (cels mc c.ms):=hAt.oM;have HT:Hid (∀(v5:Value) (w5:World),CAt w5 B D (.slice (some ⟨g,off,none⟩) (c.ws.length+1) cap3) v5 ⟨c.u,c.d,now,L,c.ms++ [⟨now,N-hv⟩]⟩→CStep D (.slice (some ⟨g,off,none⟩) (c.ws.length+1) cap3) (.slice mo c.ms.length mcap) (.slice (some ⟨g,off,none⟩) (c.ws.length+1) cap3) v5 wr w5→CeA B D (.slice ao c.ws.length cap) (.slice mo c.ms.length mcap) c now hv want w (.returned (.tuple #[.int .i64 N,.int .i64 0])) w5):=by
       intro v5 w5 h5 s5;refine⟨by rw [HCN.out,HCE.out],_,v5,?_,hSt.trans s5⟩;rw [HCS.out,mov,if_neg (by omega)];exact h5
      have HAt:=zh hAt;clear hz hAt hSt;go_wp2_with(at_builtin;refine wpList_at rfl _ _ 169 rfl B 203 i0 (.agg #[.int .i64 0,.int .i64 0]) 2 16 underlying169 hi hz0 hz1 hz2 rfl _ _ _ rfl (Own.alloc hOm _) ⟨wr.heap.size,0,none⟩ 1 1 [.int .i64 now,.int .i64 (N-hv)] rfl rfl (cell_twoN _ _ _ rfl) (fun u hu=>by simp at hu;rcases hu with rfl|rfl<;>rfl) (by decide) (by unfold maxLen;omega) (by omega) (by simp;omega) ?_;intro v5 w5 hown5 hgrow5 hloc5;obtain⟨ao5,cap5,rfl,-⟩:=hown5.form;obtain⟨HF5,c95,f95⟩:=app_m HAt.out hown5 hgrow5 hloc5;have HT5:Hid (CeA B D (.slice ao c.ws.length cap) (.slice mo c.ms.length mcap) c now hv want w (.returned (.tuple #[.int .i64 N,.int .i64 0])) (w5.setCell ⟨D,10,none⟩ (.slice ao5 (c.ms.length+1) cap5))):=HT.out _ _ HF5.out.1 HF5.out.2)
      go_ret2;exact HT5.out
    ·obtain⟨S,hS⟩: ∃S,sumF fdn c.ms (now-c.d.p)=S:=⟨_,rfl⟩
     go_wp2_with fail
     go_loopw [15,16] (fun vs vi wr2=>L2R fdn (now-c.d.p) c.ms wr vs vi wr2) (fun _ i _=>c.ms.length-(intOf i).toNat)
     case atStart=>exact⟨0,by omega,rfl,rfl,Below.refl _ _⟩
     case round=>
      obtain⟨i,hil,rfl,rfl,hb⟩:=hrel;have hbb:=(zu HB.out hb)
      have hAr:=HA4.out.below hbb;have r10:=hAr.rM;have hDl:=hAr.lt;have p1:=(zk P1 hbb)
      have p2:=(zk P2 hbb)
      have p3:=(zk P3 hbb)
      have hPr2:=Xb hPl hbb.size;have hsb:=sumF_bd fdn fdn_bd (now-c.d.p) (c.ms.take i) (fun m hm=>hmm m (List.mem_of_mem_take hm));have htl:(c.ms.take i).length≤200000:=by simp;omega
      by_cases hlt2:i<c.ms.length
      ·have hlt3:(i:Int)<(c.ms.length:Int):=(by omega);obtain⟨g2,off2,rfl⟩:=hmo (by omega);obtain⟨m,hm⟩: ∃m,c.ms[i]? =some m:=⟨c.ms[i],by simp [hlt2]⟩
       obtain⟨e0,e1,-,-,hg⟩:=own_mo hAr.oM rfl hm;have hst:=sumF_step fdn (now-c.d.p) c.ms i m hm;have hmp:=hmm m (Xk hm);generalize sumF fdn (c.ms.take i) (now-c.d.p)=Si at*;have HR: ∀x,Si+(if now-c.d.p<m.t then fdn m.p else 0)=x→Hid (L2R fdn (now-c.d.p) c.ms _ (.int .i64 x) (.int .i64 ((i:Int)+1)) (wr.alloc (.cells #[.int .i64 m.t,.int .i64 m.p] 203))):=fun x hx=>⟨i+1,by omega,by simp,by rw [hst,hx],hb.alloc hb.size _⟩
       clear hst hAr hN hS hmm hbb;by_cases d1:now-c.d.p<m.t
       ·by_cases d2:m.p<0
        ·have HR1:=HR (Si-m.p) (by rw [if_pos d1];unfold fdn;omega);clear HR hb;go_wp2;go_roundw
         case rel=>exact HR1.out
         case measure=>simp [intOf];omega
        ·have HR1:=HR Si (by rw [if_pos d1];unfold fdn;omega);clear HR hb;go_wp2;go_roundw
         case rel=>exact HR1.out
         case measure=>simp [intOf];omega
       ·have HR1:=HR Si (by rw [if_neg d1];omega);clear HR hb;go_wp2;go_roundw
        case rel=>exact HR1.out
        case measure=>simp [intOf];omega
      ·obtain rfl:i=c.ms.length:=by omega
       rw [XC]at hsb⊢;rw [hS]at hsb⊢;have hml2:(c.ms.length:Int)≤200000:=(by omega);obtain⟨b,hbv⟩: ∃b,hv+S=b:=⟨_,rfl⟩
       have hb0:0≤b∧b≤11000000:=(by omega);have hwr1:IntKind.i64.wrap (c.d.c*10)=c.d.c*10:=wrap_sub (by omega) (by omega);have e1:hv+S=b:=hbv;obtain⟨pt,hpt⟩: ∃pt,share (atz (clip b)) (atz (clip (c.d.c*10)))=pt:=⟨_,rfl⟩
       have cC:=fun w=>rshare_any b (c.d.c*10) w;rw [hpt]at cC;have hptb: -1000000000000000≤pt∧pt≤1000000000000001:=by rw [←hpt];unfold share;have:=clip_bd (atz (clip b)*atz (clip (c.d.c*10))/1000);omega
       obtain⟨q,hq⟩: ∃q,max c.d.n pt=q:=⟨_,rfl⟩
       have hqb:0≤q∧q≤1000000000000001:=(by omega);have e2:(if c.d.n<pt then pt else c.d.n)=q:=by rw [←hq];split<;>omega
       have hwr2:IntKind.i64.wrap (b-q)=b-q:=wrap_sub (by omega) (by omega);obtain⟨n2,hn2⟩: ∃n2,max n1 (b-q)=n2:=⟨_,rfl⟩
       have e3:(if n1<b-q then b-q else n1)=n2:=by rw [←hn2];split<;>omega
       have hNf:min n2 hv=N:=by
        rw [←hN,←hn2,←hq,←hpt,←hbv,←hS,←hn1'];simp only [cD,cD2,cDb,hb5,if_true]
       have e5:(if hv<n2 then hv else n2)=N:=by rw [←hNf];split<;>omega
       have hNb: -1000000100000000≤N∧N≤1000000100000000:=(by omega);have hn2b: -1000000100000000≤n2∧n2≤1000000100000000:=(by omega);have HBr:=zh hbb;clear hN hn1' hNf hn2 hq hpt hbv hS hAr hb hbb hmm;go_upto_region 34 with fail
       go_cut [10] (fun v wx=>v=.int .i64 n2∧Below wr.heap.size wr wx)
       case first=>
        go_region_with (go_at_call 161;(with_reducible refine zq (cC _) ?_))
        all_goals
         go_wp2_with fail
         go_meet;exact⟨rfl,(Below.refl _ _).drew⟩
       case rest=>
        obtain⟨hv9,hb9⟩:=hcut;subst hv9;have HBt:Hid (Below wa.heap.size wa wc):=(zu HBr.out hb9)
        clear hb9 q0 q1 q2 q3 p1 p2 p3 cC;have hAt:=HA4.out.below HBt.out;have rMt:=hAt.rM;have fMt:=hAt.fz 10;have hDt:=hAt.lt;have hBt:B≤wc.heap.size:=Xc hBa HBt.out.size;have hSt:CStep D (.slice ao c.ws.length cap) (.slice mo c.ms.length mcap) (.slice (some ⟨g,off,none⟩) (c.ws.length+1) cap3) (.slice mo c.ms.length mcap) w wc:=HS4.out.trans (CStep.of_below HBt.out);by_cases hz:N=hv
        ·have hz':(N !=hv)=false:=by simp [hz]
         have HT:Hid (CeA B D (.slice ao c.ws.length cap) (.slice mo c.ms.length mcap) c now hv want w (.returned (.tuple #[.int .i64 N,.int .i64 0])) wc):=by
          refine⟨by rw [HCN.out,HCE.out],_,_,?_,hSt⟩;rw [HCS.out,mov,if_pos (by omega)];exact hAt
         clear hz hAt hSt;go_wp2;go_ret2;exact HT.out
        ·have hz':(N !=hv)=true:=by simp [hz]
         have hOm:Own wc B 203 2 (.slice mo c.ms.length mcap) c.ms.length (cels mc c.ms):=hAt.oM;have HT:Hid (∀(v5:Value) (w5:World),CAt w5 B D (.slice (some ⟨g,off,none⟩) (c.ws.length+1) cap3) v5 ⟨c.u,c.d,now,L,c.ms++ [⟨now,N-hv⟩]⟩→CStep D (.slice (some ⟨g,off,none⟩) (c.ws.length+1) cap3) (.slice mo c.ms.length mcap) (.slice (some ⟨g,off,none⟩) (c.ws.length+1) cap3) v5 wc w5→CeA B D (.slice ao c.ws.length cap) (.slice mo c.ms.length mcap) c now hv want w (.returned (.tuple #[.int .i64 N,.int .i64 0])) w5):=by
          intro v5 w5 h5 s5;refine⟨by rw [HCN.out,HCE.out],_,v5,?_,hSt.trans s5⟩;rw [HCS.out,mov,if_neg (by omega)];exact h5
         have HAt:=zh hAt;clear hz hAt hSt;go_wp2_with(at_builtin;refine wpList_at rfl _ _ 169 rfl B 203 i0 (.agg #[.int .i64 0,.int .i64 0]) 2 16 underlying169 hi hz0 hz1 hz2 rfl _ _ _ rfl (Own.alloc hOm _) ⟨wc.heap.size,0,none⟩ 1 1 [.int .i64 now,.int .i64 (N-hv)] rfl rfl (cell_twoN _ _ _ rfl) (fun u hu=>by simp at hu;rcases hu with rfl|rfl<;>rfl) (by decide) (by unfold maxLen;omega) (by omega) (by simp;omega) ?_;intro v5 w5 hown5 hgrow5 hloc5;obtain⟨ao5,cap5,rfl,-⟩:=hown5.form;obtain⟨HF5,c95,f95⟩:=app_m HAt.out hown5 hgrow5 hloc5;have HT5:Hid (CeA B D (.slice ao c.ws.length cap) (.slice mo c.ms.length mcap) c now hv want w (.returned (.tuple #[.int .i64 N,.int .i64 0])) (w5.setCell ⟨D,10,none⟩ (.slice ao5 (c.ms.length+1) cap5))):=HT.out _ _ HF5.out.1 HF5.out.2)
         go_ret2;exact HT5.out

theorem cset_eq (B D:Nat) (vw vm:Value) (c:Cm) (now want:Int) (k:Nat) (w:World) (hA:CAt w B D vw vm c) (hF:CFit c k) (hk:k≤200000) (h1:c.last≤now) (h2:now≤1099511627776) (h4:0≤want∧want≤50):
  Calls prog 130 #[.pointer (some ⟨D,0,none⟩),.int .i64 now,.int .i64 want,.int .i64 want] w (CeA B D vw vm c now want want w):=by
 obtain⟨i0,hi,hz0,hz1,hz2⟩:=info_parts info_ma;have hl0:=hF.last;have c1:=fun w=>rin_yes now c.last 1099511627776 w h1 h2;have hnl: ¬want<want:=by omega
 have c3:=fun w=>rin_yes want 0 50 w h4.1 h4.2;have hwl:=hF.wl;obtain⟨ao,cap,rfl,hc1,hc2,hao,-⟩:=hA.oW.form;obtain⟨mo,mcap,rfl,hm1,hm2,hmo,-⟩:=hA.oM.form;have k8:=hA.num 8 (by decide);simp only [cnum]at k8;have f8:=hA.fz 8;have r9:=hA.rW;have hQ:=hA.lt;have hB1:B≤w.heap.size:=Xc hA.bD (Xw hA.lt);obtain⟨hA1,hS1⟩:=hA.setLast now;have r91:=hA1.rW;have hO1:=hA1.oW;have HA:=zh hA;clear hA hA1 hS1 hF;go_enter func130,ntmps130
 go_wp2_with (first
  |(go_at_call 6;(with_reducible refine zq (c1 _) ?_))
  |(go_at_call 6;(with_reducible refine zq (c3 _) ?_))
  |(at_builtin;refine wpList_at rfl _ _ 169 rfl B 203 i0 (.agg #[.int .i64 0,.int .i64 0]) 2 16 underlying169 hi hz0 hz1 hz2 rfl _ _ _ rfl (Own.alloc hO1 _) ⟨w.heap.size,0,none⟩ 1 1 [.int .i64 now,.int .i64 want] rfl rfl (cell_twoN _ _ _ (by simp)) (fun u hu=>by simp at hu;rcases hu with rfl|rfl<;>rfl) (by decide) (by unfold maxLen;omega) (by omega) (by simp;omega) ?_;intro v' w3 hown3 hgrow3 hloc3;obtain⟨ao3,cap3,rfl,-,-,hao3,-⟩:=hown3.form;obtain⟨g,off,rfl⟩:=hao3 (by omega);clear hao3;obtain⟨HF,cM3,fM3⟩:=app_w HA.out hown3 hgrow3 hloc3;have j0:=HF.out.1.num 0 (by decide);have j1:=HF.out.1.num 1 (by decide);have j2:=HF.out.1.num 2 (by decide);have j3:=HF.out.1.num 3 (by decide);have j4:=HF.out.1.num 4 (by decide);have j5:=HF.out.1.num 5 (by decide);have j6:=HF.out.1.num 6 (by decide);have j7:=HF.out.1.num 7 (by decide);simp only [cnum]at j0 j1 j2 j3 j4 j5 j6 j7;have hD3:D<w3.heap.size:=(by simpa using HF.out.1.lt)))
 go_ret2;have ho:okArg c.last now want want=true:=okArg_iff.2 ⟨h1,h2,h4.1,h4.2,h4.1,h4.2⟩;have hcn:cN c now want want=want:=by unfold cN;rw [if_pos ho,if_neg (by omega),if_neg (by omega)]
 have hce:cE c now want want=0:=by unfold cE;rw [if_pos ho]
 have hcs:cS c now want want=⟨c.u,c.d,now,c.ws++ [⟨now,want⟩],c.ms⟩:=by unfold cS;rw [if_pos ho,hcn,mov,if_pos (by omega)]
 refine⟨by rw [hcn,hce];rfl,_,_,?_,HF.out.2.trans (CStep.of_below ((Below.refl _ _).alloc (Xa _) _))⟩;rw [hcs];exact HF.out.1.alloc _
theorem cset_any (B D:Nat) (vw vm:Value) (c:Cm) (now hv want:Int) (k:Nat) (w:World) (hA:CAt w B D vw vm c) (hF:CFit c k) (hk:k≤200000):
  Calls prog 130 #[.pointer (some ⟨D,0,none⟩),.int .i64 now,.int .i64 hv,.int .i64 want] w (CeA B D vw vm c now hv want w):=by
 by_cases h:c.last≤now∧now≤1099511627776∧0≤hv∧hv≤50∧0≤want∧want≤50
 ·obtain⟨a,b,d,e,f,g⟩:=h;by_cases h1:hv<want
  ·exact cset_up B D vw vm c now hv want k w hA hF hk a b ⟨d,e⟩ ⟨f,g⟩ h1
  ·by_cases h2:want<hv
   ·exact cset_dn B D vw vm c now hv want k w hA hF hk a b ⟨d,e⟩ ⟨f,g⟩ h2
   ·obtain rfl:hv=want:=by omega
    exact cset_eq B D vw vm c now hv k w hA hF hk a b ⟨f,g⟩
 ·exact cset_no B D vw vm c now hv want w hA h
end Stb
namespace Stb
open Plain
variable {H L:List Mo} {W now want:Int} {s:St} {c:Cm} {k:Nat}

theorem fold_up (t:Int) (L:List Mo) (n:Int):(L.foldl (stF true t) n=n∨ ∃m∈L,t<m.t∧L.foldl (stF true t) n=m.p)∧L.foldl (stF true t) n≤n∧ ∀m∈L,t<m.t→L.foldl (stF true t) n≤m.p:=by
 induction L generalizing n with
 |nil=>exact⟨Or.inl rfl,Xu _,by simp⟩
 |cons a L ih=>
  simp only [List.foldl_cons];obtain⟨h1,h2,h3⟩:=ih (stF true t n a);have hle:=stF_up t n a;have hc:stF true t n a=n∨(t<a.t∧stF true t n a=a.p):=by
   unfold stF;simp only [if_true];split
   ·rename_i h;exact Or.inr ⟨h.1,rfl⟩
   ·exact Or.inl rfl
  have ha:t<a.t→stF true t n a≤a.p:=by
   intro ht;unfold stF;simp only [if_true];split<;>omega
  refine⟨?_,by omega,fun m hm ht=> ?_⟩
  ·rcases h1 with e|⟨m,hm,ht,e⟩
   ·rcases hc with e2|⟨ht,e2⟩
    ·exact Or.inl (e.trans e2)
    ·exact Or.inr ⟨a,by simp,ht,e.trans e2⟩
   ·exact Or.inr ⟨m,by simp [hm],ht,e⟩
  ·rcases XG.1 hm with rfl|hm
   ·have:=ha ht;omega
   ·exact h3 m hm ht
theorem fold_dn (t:Int) (L:List Mo) (n:Int):(L.foldl (stF false t) n=n∨ ∃m∈L,t<m.t∧L.foldl (stF false t) n=m.p)∧n≤L.foldl (stF false t) n∧ ∀m∈L,t<m.t→m.p≤L.foldl (stF false t) n:=by
 induction L generalizing n with
 |nil=>exact⟨Or.inl rfl,Xu _,by simp⟩
 |cons a L ih=>
  simp only [List.foldl_cons];obtain⟨h1,h2,h3⟩:=ih (stF false t n a);have hle:=stF_dn t n a;have hc:stF false t n a=n∨(t<a.t∧stF false t n a=a.p):=by
   unfold stF;simp only [XU,if_false];split
   ·rename_i h;exact Or.inr ⟨h.1,rfl⟩
   ·exact Or.inl rfl
  have ha:t<a.t→a.p≤stF false t n a:=by
   intro ht;unfold stF;simp only [XU,if_false];split<;>omega
  refine⟨?_,by omega,fun m hm ht=> ?_⟩
  ·rcases h1 with e|⟨m,hm,ht,e⟩
   ·rcases hc with e2|⟨ht,e2⟩
    ·exact Or.inl (e.trans e2)
    ·exact Or.inr ⟨a,by simp,ht,e.trans e2⟩
   ·exact Or.inr ⟨m,by simp [hm],ht,e⟩
  ·rcases XG.1 hm with rfl|hm
   ·have:=ha ht;omega
   ·exact h3 m hm ht
structure Sim (s:St) (c:Cm):Prop where
 u:c.u=s.u
 d:c.d=s.d
 l:c.last=s.last
 si:SI c.ws s
 mi:MI c.ms s
theorem hd_up (h:LoI kid (H++ [⟨now,want⟩]) L (now-W) now):hd L want=(H++ [(⟨now,want⟩:Mo)]).foldl (stF true (now-W)) want:=by
 obtain⟨f1,f2,f3⟩:=fold_up (now-W) (H++ [⟨now,want⟩]) want;rcases h.least (d:=want)with⟨_,e,hno⟩|⟨m,hm,ht,e,hmin⟩
 ·rw [e];rcases f1 with g|⟨x,hx,hxt,_⟩
  ·exact g.symm
  ·exact absurd hxt (hno x hx)
 ·rw [e];have hmt:=h.le m hm;have hnew:=hmin ⟨now,want⟩ (by simp) (by show now-W<now;omega);have h1:=f3 m hm ht;unfold kid at hnew hmin;simp only at hnew;rcases f1 with g|⟨x,hx,hxt,g⟩
  ·omega
  ·have:=hmin x hx hxt;omega
theorem hd_dn (h:LoI kneg (H++ [⟨now,want⟩]) L (now-W) now):hd L want=(H++ [(⟨now,want⟩:Mo)]).foldl (stF false (now-W)) want:=by
 obtain⟨f1,f2,f3⟩:=fold_dn (now-W) (H++ [⟨now,want⟩]) want;rcases h.least (d:=want)with⟨_,e,hno⟩|⟨m,hm,ht,e,hmin⟩
 ·rw [e];rcases f1 with g|⟨x,hx,hxt,_⟩
  ·exact g.symm
  ·exact absurd hxt (hno x hx)
 ·rw [e];have hmt:=h.le m hm;have hnew:=hmin ⟨now,want⟩ (by simp) (by show now-W<now;omega);have h1:=f3 m hm ht;unfold kneg at hnew hmin;simp only at hnew;rcases f1 with g|⟨x,hx,hxt,g⟩
  ·omega
  ·have:=hmin x hx hxt;omega
theorem clip_id {n:Int} (h0:0≤n) (h1:n≤1000000000):clip n=n:=clip_in (by omega) (by omega)
theorem Sim.n (h:Sim s c) (hF:Fit s k) (now hv want:Int):cN c now hv want=setN s now hv want∧cE c now hv want=setE s now hv want:=by
 have hl:=h.l;refine⟨?_,by unfold cE setE;rw [hl]⟩;unfold cN setN;rw [hl];by_cases ho:okArg s.last now hv want=true
 ·obtain⟨a,b,hc,hd',he,hf'⟩:=okArg_iff.1 ho;have hs:=h.si.step hF (now:=now) (want:=want) a;have hm:=h.mi.step (now:=now) (want:=want) a;have hl0:=hF.last;have hf:Fit (forget (know s now want) now) (k+1):=(hF.know ⟨by omega,b⟩ ⟨he,hf'⟩).forget now;rw [if_pos ho,if_pos ho];have hu1:(forget (know s now want) now).u=c.u:=h.u.symm;have hd1:(forget (know s now want) now).d=c.d:=h.d.symm;have hlo:LoI kid (c.ws++ [⟨now,want⟩]) (forget (know s now want) now).lo (now-c.u.w) now:=by rw [←hu1];exact hs.lo
  have hhi:LoI kneg (c.ws++ [⟨now,want⟩]) (forget (know s now want) now).hi (now-c.d.w) now:=by rw [←hd1];exact hs.hi
  have hlast:(forget (know s now want) now).last=now:=rfl;generalize forget (know s now want) now=s1 at*;split
  ·unfold cU cU2 nU;have e1:hd s1.lo want=cU1 c now want:=hd_up hlo;rw [←hu1];cases hb:bnd s1.u
   ·simp only [XU,if_false];rw [e1]
   ·simp only [if_true];have hg:=(hm.g hb).sum hf.gr;rw [hlast]at hg;have eb:cUb c now hv=baseU s1 hv:=by unfold cUb baseU;rw [hg,hu1]
    have hgs:=hf.gr.ge;have hb0:0≤baseU s1 hv∧baseU s1 hv≤50:=by unfold baseU;omega
    have ep:up (clip (cUb c now hv*s1.u.c)) (clip 100)=partU s1 (baseU s1 hv):=by
     unfold partU mulc;rw [eb,clip_id hb0.1 (by omega),clip_id hf.u.c.1 (by have:=hf.u.c.2;omega),clip_clip]
    rw [e1,ep,eb]
  ·split
   ·unfold cD cD2 nD;have e1:hd s1.hi want=cD1 c now want:=hd_dn hhi;rw [←hd1];cases hb:bnd s1.d
    ·simp only [XU,if_false];rw [e1]
    ·simp only [if_true];have hg:=(hm.d hb).sum hf.sh;rw [hlast]at hg;have eb:cDb c now hv=hv+s1.sh.s:=by unfold cDb;rw [hg,hd1]
     have ep:share (atz (clip (cDb c now hv))) (atz (clip (s1.d.c*10)))=partD s1 (hv+s1.sh.s):=by
      unfold partD;rw [eb,Int.mul_comm]
     rw [e1,ep,eb]
   ·rfl
 ·rw [if_neg ho,if_neg ho]
theorem Sim.step (h:Sim s c) (hF:Fit s k) (now hv want:Int):Sim (setS s now hv want) (cS c now hv want):=by
 have hn:=(h.n hF now hv want).1;have hp:=setS_pace s now hv want;by_cases ho:okArg s.last now hv want=true
 ·have ho':okArg c.last now hv want=true:=by rw [h.l];exact ho
  have e:cS c now hv want=⟨c.u,c.d,now,c.ws++ [⟨now,want⟩],mov c.ms now (setN s now hv want-hv)⟩:=by unfold cS;rw [if_pos ho',hn]
  rw [e];exact⟨h.u.trans hp.1.symm,h.d.trans hp.2.symm,(setS_last ho).symm,h.si.set hF ho,h.mi.set hF ho⟩
 ·have ho': ¬okArg c.last now hv want=true:=by rw [h.l];exact ho
  have e:cS c now hv want=c:=by unfold cS;rw [if_neg ho']
  have e2:setS s now hv want=s:=by unfold setS;rw [if_neg ho]
  rw [e,e2];exact h
theorem Sim.new (u d:Pc):Sim (⟨u,d,0,[],[],⟨[],0⟩,⟨[],0⟩⟩:St) ⟨u,d,0,[],[]⟩:=⟨rfl,rfl,rfl,⟨LoI.nil _ _ _,LoI.nil _ _ _⟩,⟨fun _=>TI.nil _ _ _,fun _=>TI.nil _ _ _⟩⟩
theorem cfit_step {l:Nat} (h:Sim s c) (hF:Fit s k) (hC:CFit c l) (now hv want:Int):CFit (cS c now hv want) (l+1):=by
 have hn:=(h.n hF now hv want).1;by_cases ho:okArg s.last now hv want=true
 ·have ho':okArg c.last now hv want=true:=by rw [h.l];exact ho
  have hb:=between h.si hF ho;obtain⟨a,b,c1,d1,e1,f1⟩:=okArg_iff.1 ho;have hl0:=hF.last;unfold cS;rw [if_pos ho',hn];generalize setN s now hv want=N at*;refine⟨hC.u,hC.d,⟨by simp only;omega,b⟩,fun m hm=> ?_,fun m hm=> ?_,by have:=hC.wl;simp;omega,?_⟩
  ·rcases Xp.1 hm with x|x
   ·exact hC.ws m x
   ·simp only [XA]at x;subst x;exact⟨e1,f1⟩
  ·simp only [mov]at hm;split at hm
   ·exact hC.ms m hm
   ·rcases Xp.1 hm with x|x
    ·exact hC.ms m x
    ·simp only [XA]at x;subst x;simp only;omega
  ·have:=hC.ml;simp only [mov];split
   ·omega
   ·simp;omega
 ·have ho': ¬okArg c.last now hv want=true:=by rw [h.l];exact ho
  unfold cS;rw [if_neg ho'];exact⟨hC.u,hC.d,hC.last,hC.ws,hC.ms,by have:=hC.wl;omega,by have:=hC.ml;omega⟩
