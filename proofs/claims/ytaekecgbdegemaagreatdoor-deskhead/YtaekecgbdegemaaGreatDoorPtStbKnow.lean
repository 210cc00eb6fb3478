/- A part. -/
import Derived.Test.YtaekecgbdegemaaGreatDoorPtStbRow
import Derived.Deep.DeepCutAuto
import Derived.Test.YtaekecgbdegemaaGreatDoorPtCivilWalks
set_option linter.all false
open Go.Proofs.Tryz
set_option maxHeartbeats 32000000
set_option maxRecDepth 8000
namespace Go.Proofs.YtaekecgbdegemaaGreatDoor
namespace Stb
open Rw Go.RowKit

def KnA (B Q O:Nat) (V:Nat→Value) (s:St) (now want:Int) (w:World) (e:Ending) (w':World):Prop:=
 e=.returned (.tuple #[])∧ ∃V',SAt w' B Q O V' (know s now want)∧Step Q O V V' w w'

def KnC (B Q O C:Nat) (V:Nat→Value) (s:St) (now want:Int) (w wx:World):Prop:=
 ∃V',SAt wx B Q O V' { s with lo:=fol (geq want) s.lo ⟨now,want⟩ } ∧Step Q O V V' w wx∧wx.cell? ⟨C,0,none⟩=some (.int .i64 want)∧ ¬blk Q V' C
theorem step_cell {Q O C:Nat} {V V':Nat→Value} {w w':World} {x:Value} (h:Step Q O V V' w w') (hc:w.cell? ⟨C,0,none⟩=some x) (hb: ¬blk Q V C):w'.cell? ⟨C,0,none⟩=some x∧ ¬blk Q V' C:=by
 have hl:=Xj w _ hc;refine⟨(Xf (a:=⟨C,0,none⟩) (h.block C hl hb)).trans hc,fun e=> ?_⟩;rcases h.loc C e with a|a
 ·exact hb a
 ·simp only at hl;omega
theorem know_any (B Q O:Nat) (V:Nat→Value) (s:St) (now want:Int) (k:Nat) (w:World) (hA:SAt w B Q O V s) (hF:Fit s k) (hk:k≤1000000) (hB:B≤w.heap.size) (hl:s.last=now):
  Calls prog 244 #[.pointer (some ⟨Q,O,none⟩),.int .i64 now,.int .i64 want] w (KnA B Q O V s now want w):=by
 have hlt:=hA.lt;have l1:=hF.lol;have l2:=hF.hil;have hA1:=hA.alloc (.cells #[.int .i64 want] 3);have hS1:Step Q O V V w (w.alloc (.cells #[.int .i64 want] 3)):=(Step.refl Q O V w).alloc hlt _;have hC1:(w.alloc (.cells #[.int .i64 want] 3)).cell? ⟨w.heap.size,0,none⟩=some (.int .i64 want):=by simp
 have hB1:B≤(w.alloc (.cells #[.int .i64 want] 3)).heap.size:=by simp;omega
 have hCb: ¬blk Q V w.heap.size:=fun e=>by have:=(hA.blt e).2;omega
 have hCl:w.heap.size<(w.alloc (.cells #[.int .i64 want] 3)).heap.size:=by simp
 go_enter func244,ntmps244;go_upto_region 1 with fail
 generalize w.alloc (.cells #[.int .i64 want] 3)=w1 at*;generalize w.heap.size=C at*;go_cut [] (fun wx=>KnC B Q O C V s now want w wx)
 case first=>
  have c9:=hA1.row 0 (by decide);obtain⟨ao,cap,hv,-⟩:=(hA1.own 0 (by decide)).form;simp only [pos]at c9;rw [hv]at c9;have f:=fol1_any B C (V 0) s.lo now want want w1.drew (hA1.drew.own 0 (by decide)) (by omega) hB1 hC1;rw [hv]at f;have HA1:=zh hA1;have HV:=zh hv;have hQ1:=hA1.lt;clear hA1 hA hv;go_region_with (go_at_call 255;(with_reducible refine f.mono ?_);rintro e w2 ⟨v2,rfl,hO2,hg2,hl2⟩;obtain⟨ao2,cap2,rfl,-⟩:=hO2.form;rw [←HV.out]at hg2 hl2;obtain⟨hA2,hS2,c92,f92⟩:=HA1.out.drew.newL rfl hg2 hO2 hl2)
  all_goals
   have hS3:=(hS1.drew).trans hS2;obtain⟨hC3,hb3⟩:=step_cell hS2 hC1 hCb;have HG:Hid (KnC B Q O C V s now want w _):=⟨_,hA2,hS3,hC3,hb3⟩
   clear hA2 hS2 hS3 hC3 hb3;go_wp2_with fail
   go_meet;exact HG.out
 case rest=>
  obtain⟨V1,hA1,hS1,hC1,hCb⟩:=hcut;have c9:=hA1.row 1 (by decide);obtain⟨ao,cap,hv,-⟩:=(hA1.own 1 (by decide)).form;simp only [pos]at c9;rw [hv]at c9;have hBc:B≤wc.drew.heap.size:=Xc hA1.bQ (Xw hA1.lt);have f:=fol2_any B C (V1 1) s.hi now want want wc.drew (hA1.drew.own 1 (by decide)) (by omega) hBc hC1;rw [hv]at f;have HA1:=zh hA1;have HV:=zh hv;have HS1:=zh hS1;have hQ1:=hA1.lt;have HE:Hid (({ ({ s with lo:=fol (geq want) s.lo ⟨now,want⟩ } :St)with hi:=fol (leq want) s.hi ⟨now,want⟩ } :St)=know s now want):=by unfold Hid know;rw [←hl]
  clear hA1 hA hv hl hS1;go_wp2_with fail
  go_region_with (go_at_call 255;(with_reducible refine f.mono ?_);rintro e w2 ⟨v2,rfl,hO2,hg2,hl2⟩;obtain⟨ao2,cap2,rfl,-⟩:=hO2.form;rw [←HV.out]at hg2 hl2;obtain⟨hA2,hS2,c92,f92⟩:=HA1.out.drew.newH rfl hg2 hO2 hl2)
  all_goals
   have hS3:=(HS1.out.drew).trans hS2;rw [HE.out]at hA2;have HG:Hid (KnA B Q O V s now want w (.returned (.tuple #[])) _):=⟨rfl,_,hA2,hS3⟩
   clear hA2 hS2 hS3;go_wp2;go_end0;exact HG.out

def FoC (B Q O:Nat) (V:Nat→Value) (s:St) (w wx:World):Prop:= ∃V',SAt wx B Q O V' s∧Step Q O V V' w wx
def SfA (B Q O:Nat) (V:Nat→Value) (s:St) (now:Int) (w:World) (e:Ending) (w':World):Prop:=
 e=.returned (.tuple #[])∧ ∃V',SAt w' B Q O V' (forget s now)∧Step Q O V V' w w'
theorem grown_refl (w:World) (r:Option Nat):w.grownBy w r:=⟨rfl,rfl,rfl,Xa _,fun _ _ _=>rfl⟩
theorem wrap_sub {x:Int} (h1: -9223372036854775808≤x) (h2:x≤9223372036854775807):IntKind.i64.wrap x=x:=by
 rw [IntKind.wrap_i64];omega
def fg1 (s:St) (now:Int):St:= { s with lo:=abv s.lo (now-s.u.w) }
def fg2 (s:St) (now:Int):St:= { s with hi:=abv s.hi (now-s.d.w) }
def fg3 (s:St) (now:Int):St:= { s with gr:=s.gr.forget (now-s.u.p) }
theorem sforget_any (B Q O:Nat) (V:Nat→Value) (s:St) (now:Int) (k:Nat) (w:World) (hA:SAt w B Q O V s) (hF:Fit s k) (hk:k≤1000000) (h0:0≤now) (h1:now≤1099511627776):
  Calls prog 245 #[.pointer (some ⟨Q,O,none⟩),.int .i64 now] w (SfA B Q O V s now w):=by
 have l1:=hF.lol;have l2:=hF.hil;have uw:=hF.u.w;have up:=hF.u.p;have dw:=hF.d.w;have dp:=hF.d.p;have HFg:Hid (TaOk s.gr k):=hF.gr;have HFs:Hid (TaOk s.sh k):=hF.sh;clear hF;go_enter func245,ntmps245;go_upto_region 0 with fail
 go_cut [] (fun wx=>FoC B Q O V (fg1 s now) w wx)
 case first=>
  have c9:=hA.row 0 (by decide);have c0:=hA.num 0 (Or.inl (by decide));obtain⟨ao,cap,hv,-⟩:=(hA.own 0 (by decide)).form;simp only [pos]at c9;simp only [num,XD]at c0;rw [hv]at c9;have HW:Hid (IntKind.i64.wrap (now-s.u.w)=now-s.u.w):=wrap_sub (by omega) (by omega);have f:=above_any B (V 0) s.lo (IntKind.i64.wrap (now-s.u.w)) w.drew (hA.drew.own 0 (by decide)) (by omega);rw [hv]at f;have HA:=zh hA;have HV:=zh hv;have hQ:=hA.lt;have f9:=hA.fz (O+9);clear hA hv;go_region_with (go_at_call 258;(with_reducible refine f.mono ?_);rintro e w2 ⟨v2,rfl,hO2,hb2,h9⟩;have h8:=h9.symm;clear h9;subst h8;rw [HW.out]at hO2;obtain⟨ao2,cap2,rfl,-⟩:=hO2.form;rw [←HV.out]at hb2;obtain⟨hA2,hS2,c92,f92⟩:=HA.out.drew.newL rfl (grown_refl _ _) hO2 (Or.inl hb2))
  all_goals
   have HG:Hid (FoC B Q O V (fg1 s now) w _):=⟨_,hA2,(Step.refl Q O V w).drew.trans hS2⟩
   clear hA2 hS2;go_wp2_with fail
   go_meet;exact HG.out
 case rest=>
  obtain⟨V1,hA,hS1⟩:=hcut;have HS1:=zh hS1;clear hS1;go_upto_region 1 with fail
  go_cut [] (fun wx=>FoC B Q O V (fg2 (fg1 s now) now) w wx)
  case first=>
   have c9:=hA.row 1 (by decide);have c0:=hA.num 4 (Or.inl (by decide));obtain⟨ao,cap,hv,-⟩:=(hA.own 1 (by decide)).form;simp only [pos]at c9;simp only [num,fg1]at c0;rw [hv]at c9;have HW:Hid (IntKind.i64.wrap (now-s.d.w)=now-s.d.w):=wrap_sub (by omega) (by omega);have f:=above_any B (V1 1) s.hi (IntKind.i64.wrap (now-s.d.w)) wc.drew (hA.drew.own 1 (by decide)) (by omega);rw [hv]at f;have HA:=zh hA;have HV:=zh hv;have hQ:=hA.lt;have f9:=hA.fz (O+10);clear hA hv;go_region_with (go_at_call 258;(with_reducible refine f.mono ?_);rintro e w2 ⟨v2,rfl,hO2,hb2,h9⟩;have h8:=h9.symm;clear h9;subst h8;rw [HW.out]at hO2;obtain⟨ao2,cap2,rfl,-⟩:=hO2.form;rw [←HV.out]at hb2;obtain⟨hA2,hS2,c92,f92⟩:=HA.out.drew.newH rfl (grown_refl _ _) hO2 (Or.inl hb2))
   all_goals
    have HG:Hid (FoC B Q O V (fg2 (fg1 s now) now) w _):=⟨_,hA2,(HS1.out).drew.trans hS2⟩
    clear hA2 hS2;go_wp2_with fail
    go_meet;exact HG.out
  case rest=>
   obtain⟨V2,hA,hS2⟩:=hcut;have HS2:=zh hS2;clear hS2;go_upto_region 2 with fail
   go_cut [] (fun wx=>FoC B Q O V (fg3 (fg2 (fg1 s now) now) now) w wx)
   case first=>
    have c0:=hA.num 3 (Or.inl (by decide));simp only [num,fg1,fg2]at c0;have HW:Hid (IntKind.i64.wrap (now-s.u.p)=now-s.u.p):=wrap_sub (by omega) (by omega);have f:=forget_any B Q (O+11) (V2 2) s.gr (IntKind.i64.wrap (now-s.u.p)) k wc.drew (hA.drew.talG) HFg.out hk;have HA:=zh hA;have hQ:=hA.lt;clear hA;go_region_with (go_at_call 259;(with_reducible refine f.mono ?_);rintro e w2 ⟨rfl,v2,hT2,hb2,hW2⟩;rw [HW.out]at hT2;obtain⟨hA2,hS2⟩:=HA.out.drew.newG hT2 (Or.inl hb2) (hW2.any _))
    all_goals
     have HG:Hid (FoC B Q O V (fg3 (fg2 (fg1 s now) now) now) w _):=⟨_,hA2,(HS2.out).drew.trans hS2⟩
     clear hA2 hS2;go_wp2_with fail
     go_meet;exact HG.out
   case rest=>
    obtain⟨V3,hA,hS3⟩:=hcut;have HS3:=zh hS3;clear hS3;go_upto_region 3 with fail
    have c0:=hA.num 7 (Or.inl (by decide));simp only [num,fg1,fg2,fg3]at c0;have HW:Hid (IntKind.i64.wrap (now-s.d.p)=now-s.d.p):=wrap_sub (by omega) (by omega);have f:=forget_any B Q (O+13) (V3 3) s.sh (IntKind.i64.wrap (now-s.d.p)) k wc.drew (hA.drew.talS) HFs.out hk;have HA:=zh hA;have hQ:=hA.lt;clear hA;go_region_with (go_at_call 259;(with_reducible refine f.mono ?_);rintro e w2 ⟨rfl,v2,hT2,hb2,hW2⟩;rw [HW.out]at hT2;obtain⟨hA2,hS2⟩:=HA.out.drew.newS hT2 (Or.inl hb2) (hW2.any _))
    all_goals
     have HG:Hid (SfA B Q O V s now w (.returned (.tuple #[])) _):=⟨rfl,_,hA2,(HS3.out).drew.trans hS2⟩
     clear hA2 hS2;go_wp2;go_end0;exact HG.out
end Stb
namespace Stb
open Rw Go.RowKit Plain Num

def mb (n:Int):Bool:=decide (0≤n)&&decide (n≤50)
theorem mb_iff (n:Int):mb n=true↔0≤n∧n≤50:=by simp [mb]
theorem mayBe_any (n:Int) (w:World):CS 243 #[.int .i64 n] w (.bool (mb n)):=by
 by_cases h1:0≤n
 ·have d1:decide (0≤n)=true:=by simp [h1]
  have HM:Hid (mb n=decide (n≤50)):=by unfold Hid mb;rw [d1];rfl
  go_enter func243,ntmps243;go_wp2;go_ret;exact⟨by rw [HM.out];rfl,rfl⟩
 ·have d1:decide (0≤n)=false:=by simp [h1]
  have HM:Hid (mb n=false):=by unfold Hid mb;rw [d1];rfl
  go_enter func243,ntmps243;go_wp2;go_ret;exact⟨by rw [HM.out];rfl,rfl⟩
def pcV (p:Pc):Value:=.agg #[.int .i64 p.w,.int .i64 p.n,.int .i64 p.c,.int .i64 p.p]
theorem bounds_any (p:Pc) (w:World):CB 260 #[pcV p] w (.bool (bnd p)):=by
 obtain⟨pw,pn,pc,pp⟩:=p;unfold pcV;by_cases h1:pp=0
 ·have d1:(pp !=0)=false:=by simp [h1]
  have HM:Hid (bnd ⟨pw,pn,pc,pp⟩=false):=by unfold Hid bnd;rw [d1];rfl
  clear h1;go_enter func260,ntmps260;go_wp2;go_ret;exact⟨by rw [HM.out];rfl,(Below.refl _ _).alloc (Xa _) _⟩
 ·have d1:(pp !=0)=true:=by simp [h1]
  by_cases h2:pn=0
  ·have d2:(pn !=0)=false:=by simp [h2]
   have HM:Hid (bnd ⟨pw,pn,pc,pp⟩=(pc !=0)):=by unfold Hid bnd;rw [d1,d2];rfl
   clear h1 h2;go_enter func260,ntmps260;go_wp2;go_ret;exact⟨by rw [HM.out];rfl,(Below.refl _ _).alloc (Xa _) _⟩
  ·have d2:(pn !=0)=true:=by simp [h2]
   have HM:Hid (bnd ⟨pw,pn,pc,pp⟩=true):=by unfold Hid bnd;rw [d1,d2];rfl
   clear h1 h2;go_enter func260,ntmps260;go_wp2;go_ret;exact⟨by rw [HM.out];rfl,(Below.refl _ _).alloc (Xa _) _⟩

def MoA (B Q O:Nat) (V:Nat→Value) (s':St) (n:Int) (w:World) (e:Ending) (w':World):Prop:=
 e=.returned (.int .i64 n)∧ ∃V',SAt w' B Q O V' s'∧Step Q O V V' w w'
theorem partU_bd (s:St) (b:Int) (h0:0≤b) (h1:0≤s.u.c):0≤partU s b∧partU s b≤1000000000000001:=by
 unfold partU;have hm:0≤clip (mulc (clip b) (clip s.u.c)):=by
  have a:0≤clip b:=by unfold clip;repeat (first|omega|split)
  have c:0≤clip s.u.c:=by unfold clip;repeat (first|omega|split)
  have m:0≤clip b*clip s.u.c:=Int.mul_nonneg a c;have m2:0≤mulc (clip b) (clip s.u.c):=by unfold mulc;generalize clip b*clip s.u.c=x at m;unfold clip;repeat (first|omega|split)
  generalize mulc (clip b) (clip s.u.c)=x at m2;unfold clip;repeat (first|omega|split)
 have hb:=clip_bd (mulc (clip b) (clip s.u.c));have h100:clip 100=100:=by decide
 rw [h100];refine⟨?_,(up_bd _ 100 (by decide) hb).2⟩;have:=(up_ok (clip (mulc (clip b) (clip s.u.c))) 100 (by decide)).1;omega
theorem partD_bd (s:St) (b:Int) (_h0:0≤b) (_h1:0≤s.d.c):0≤partD s b∧partD s b≤1000000000000001:=by
 unfold partD share;have ha:=atz_bd _ (clip_bd b);have hm:=atz_bd _ (clip_bd (10*s.d.c));have hp:0≤atz (clip b)*atz (clip (10*s.d.c)):=Int.mul_nonneg ha.1 hm.1;have hq:0≤atz (clip b)*atz (clip (10*s.d.c))/1000:=Int.ediv_nonneg hp (by decide);generalize atz (clip b)*atz (clip (10*s.d.c))/1000=x at hq;have:=clip_bd x;refine⟨?_,by omega⟩;unfold clip;repeat (first|omega|split)
theorem more_any (B Q O:Nat) (V:Nat→Value) (s:St) (now hv want:Int) (k:Nat) (w:World) (hA:SAt w B Q O V s) (hF:Fit s k) (hk:k≤1000000) (h0:0≤hv∧hv≤50) (h1:0≤want∧want≤50):
  Calls prog 246 #[.pointer (some ⟨Q,O,none⟩),.int .i64 now,.int .i64 hv,.int .i64 want] w (MoA B Q O V (more s now hv want) (nU s hv want) w):=by
 have hnb:=nU_bd hF h0 h1;have hhd:=hd_bd hF.lo h1;have hgs:=hF.gr.ge;have hgl:=hF.gr.le;have un:=hF.u.n;have uc:=hF.u.c;have c9:=hA.row 0 (by decide);simp only [pos]at c9;obtain⟨ao,cap,hvv,hc1,hc2,hao,-⟩:=(hA.own 0 (by decide)).form;rw [hvv]at c9;have k0:=hA.num 0 (Or.inl (by decide));have k1:=hA.num 1 (Or.inl (by decide));have k2:=hA.num 2 (Or.inl (by decide));have k3:=hA.num 3 (Or.inl (by decide));simp only [num,XD]at k0 k1 k2 k3;have hQ:=hA.lt;have cB:=fun w=>bounds_any s.u w;unfold pcV at cB;have hO:=hA.own 0 (by decide);rw [hvv]at hO;have HA:=zh hA;have HT:Hid (TaOk s.gr k):=hF.gr;have hll:(rws s 0).length=s.lo.length:=rfl;obtain⟨n0,hn0⟩: ∃n0,hd s.lo want=n0:=⟨_,rfl⟩
 rw [hn0]at hhd;obtain⟨N,hN⟩: ∃N,nU s hv want=N:=⟨_,rfl⟩
 rw [hN]at hnb⊢;have hBw:B≤w.heap.size:=Xc hA.bQ (Xw hQ);clear hvv hA hF;by_cases hl: ¬0<s.lo.length
 ·have hq: ¬(0:Int)<((rws s 0).length:Int):=by omega
  have hw0:want=n0:=by
   cases hx:s.lo with
   |nil=>rw [hx]at hn0;exact hn0
   |cons a b=>rw [hx]at hl;simp at hl
  subst hw0;clear hO hao;cases hb:bnd s.u
  ·have hfold:max want hv=N:=by rw [←hN];simp only [nU,hb,hn0];rfl
   have hfold2:(if want<hv then hv else want)=N:=by rw [←hfold];split<;>omega
   clear hfold;have HE:Hid (more s now hv want=s):=by unfold Hid more;rw [hb];rfl
   rw [hb]at cB;clear hN hn0 hll;go_enter func246,ntmps246;go_wp2_with(go_at_call 260;(with_reducible refine zg (cB _) fun wb hbb=>?_))
   go_ret;exact⟨rfl,V,by rw [HE.out];exact HA.out.below hbb,Step.of_below hbb hQ⟩
  ·obtain⟨b,hbb⟩: ∃b,max (hv-s.gr.s) 0=b:=⟨_,rfl⟩
   obtain⟨pt,hpt⟩: ∃pt,partU s b=pt:=⟨_,rfl⟩
   have hb0:0≤b∧b≤60000000:=by omega
   have hpb:0≤pt∧pt≤1000000000000001:=by rw [←hpt];exact partU_bd s _ (by omega) (by omega)
   obtain⟨q,hq'⟩: ∃q,max s.u.n pt=q:=⟨_,rfl⟩
   have hqb:0≤q∧q≤1000000000000001:=by omega
   obtain⟨r,hr⟩: ∃r,min want (b+q)=r:=⟨_,rfl⟩
   have hfold:max r hv=N:=by rw [←hN,←hr,←hq',←hpt,←hbb];simp only [nU,baseU,hb,hn0,if_true]
   have e2:(if s.u.n<pt then pt else s.u.n)=q:=by rw [←hq'];split<;>omega
   have e3:(if b+q<want then b+q else want)=r:=by rw [←hr];split<;>omega
   have e4:(if r<hv then hv else r)=N:=by rw [←hfold];split<;>omega
   have e1:(if hv-s.gr.s<0 then(0:Int)else hv-s.gr.s)=b:=by rw [←hbb];split<;>omega
   have HE:Hid (more s now hv want= { s with gr:=s.gr.add now (N-hv) }):=by unfold Hid more;rw [hb,hN];rfl
   clear hq' hr hfold hbb;obtain⟨x,hx⟩: ∃x,mulc (clip b) (clip s.u.c)=x:=⟨_,rfl⟩
   have cM:=fun w=>mul_any b s.u.c w;have cC:=fun w=>ceil_yes x 100 w (by decide);rw [hx]at cM;have hpt':up (clip x) (clip 100)=pt:=by rw [←hx];exact hpt
   rw [hpt']at cC;clear hpt hpt' hx;rw [hb]at cB;clear hN hn0 hll;go_enter func246,ntmps246
   go_wp2_with (first
    |(go_at_call 260;(with_reducible refine zg (cB _) fun wb hbb=>?_);have hAb:=HA.out.below hbb;have j1:=hAb.num 1 (Or.inl (by decide));have j2:=hAb.num 2 (Or.inl (by decide));have jt:=hAb.num 12 (Or.inr (Or.inl rfl));simp only [num]at j1 j2 jt;have HB:=zh hAb;have HSb:Hid (Step Q O V V w wb):=Step.of_below hbb hQ;have hBb:B≤wb.heap.size:=Xc hBw hbb.size;clear hAb hbb)
    |(go_at_call 262;(with_reducible refine zq (cM _) ?_))
    |(go_at_call 261;(with_reducible refine zq (cC _) ?_))
    |(go_at_call 263;(with_reducible refine(add_any B Q (O+11) (V 2) s.gr now (N-hv) k _ HB.out.talG HT.out hk (by omega) (by omega) hBb).mono ?_);rintro e w2 ⟨rfl,v2,hT2,hl2,hW2⟩;obtain⟨hA2,hS2⟩:=HB.out.newG hT2 hl2 hW2;rw [←HE.out]at hA2;have HF:Hid (∃V',SAt w2 B Q O V' (more s now hv want)∧Step Q O V V' w w2):=⟨_,hA2,HSb.out.trans hS2⟩;clear hT2 hl2 hW2 hA2 hS2))
   go_ret;exact⟨rfl,HF.out⟩
 ·have hl':0<s.lo.length:=by omega
  have hq:(0:Int)<((rws s 0).length:Int):=by omega
  obtain⟨g,off,rfl⟩:=hao (by omega);obtain⟨m,hm,hmp⟩: ∃m,s.lo[0]? =some m∧m.p=n0:=by
   cases hx:s.lo with
   |nil=>rw [hx]at hl';simp at hl'
   |cons a b=>rw [hx]at hn0;exact⟨a,rfl,hn0⟩
  obtain⟨e0,e1,-,-,hg⟩:=own_mo hO rfl (i:=0) hm;simp only [Nat.zero_mul,XD]at e0 e1;rw [hmp]at e1;clear hO hao;cases hb:bnd s.u
  ·have hfold:max n0 hv=N:=by rw [←hN];simp only [nU,hb,hn0];rfl
   have hfold2:(if n0<hv then hv else n0)=N:=by rw [←hfold];split<;>omega
   clear hfold;have HE:Hid (more s now hv want=s):=by unfold Hid more;rw [hb];rfl
   rw [hb]at cB;clear hN hn0 hll;go_enter func246,ntmps246;go_wp2_with(go_at_call 260;(with_reducible refine zg (cB _) fun wb hbb=>?_))
   go_ret;exact⟨rfl,V,by rw [HE.out];exact HA.out.below hbb,Step.of_below hbb hQ⟩
  ·obtain⟨b,hbb⟩: ∃b,max (hv-s.gr.s) 0=b:=⟨_,rfl⟩
   obtain⟨pt,hpt⟩: ∃pt,partU s b=pt:=⟨_,rfl⟩
   have hb0:0≤b∧b≤60000000:=by omega
   have hpb:0≤pt∧pt≤1000000000000001:=by rw [←hpt];exact partU_bd s _ (by omega) (by omega)
   obtain⟨q,hq'⟩: ∃q,max s.u.n pt=q:=⟨_,rfl⟩
   have hqb:0≤q∧q≤1000000000000001:=by omega
   obtain⟨r,hr⟩: ∃r,min n0 (b+q)=r:=⟨_,rfl⟩
   have hfold:max r hv=N:=by rw [←hN,←hr,←hq',←hpt,←hbb];simp only [nU,baseU,hb,hn0,if_true]
   have e2:(if s.u.n<pt then pt else s.u.n)=q:=by rw [←hq'];split<;>omega
   have e3:(if b+q<n0 then b+q else n0)=r:=by rw [←hr];split<;>omega
   have e4:(if r<hv then hv else r)=N:=by rw [←hfold];split<;>omega
   have e1:(if hv-s.gr.s<0 then(0:Int)else hv-s.gr.s)=b:=by rw [←hbb];split<;>omega
   have HE:Hid (more s now hv want= { s with gr:=s.gr.add now (N-hv) }):=by unfold Hid more;rw [hb,hN];rfl
   clear hq' hr hfold hbb;obtain⟨x,hx⟩: ∃x,mulc (clip b) (clip s.u.c)=x:=⟨_,rfl⟩
   have cM:=fun w=>mul_any b s.u.c w;have cC:=fun w=>ceil_yes x 100 w (by decide);rw [hx]at cM;have hpt':up (clip x) (clip 100)=pt:=by rw [←hx];exact hpt
   rw [hpt']at cC;clear hpt hpt' hx;rw [hb]at cB;clear hN hn0 hll;go_enter func246,ntmps246
   go_wp2_with (first
    |(go_at_call 260;(with_reducible refine zg (cB _) fun wb hbb=>?_);have hAb:=HA.out.below hbb;have j1:=hAb.num 1 (Or.inl (by decide));have j2:=hAb.num 2 (Or.inl (by decide));have jt:=hAb.num 12 (Or.inr (Or.inl rfl));simp only [num]at j1 j2 jt;have HB:=zh hAb;have HSb:Hid (Step Q O V V w wb):=Step.of_below hbb hQ;have hBb:B≤wb.heap.size:=Xc hBw hbb.size;clear hAb hbb)
    |(go_at_call 262;(with_reducible refine zq (cM _) ?_))
    |(go_at_call 261;(with_reducible refine zq (cC _) ?_))
    |(go_at_call 263;(with_reducible refine(add_any B Q (O+11) (V 2) s.gr now (N-hv) k _ HB.out.talG HT.out hk (by omega) (by omega) hBb).mono ?_);rintro e w2 ⟨rfl,v2,hT2,hl2,hW2⟩;obtain⟨hA2,hS2⟩:=HB.out.newG hT2 hl2 hW2;rw [←HE.out]at hA2;have HF:Hid (∃V',SAt w2 B Q O V' (more s now hv want)∧Step Q O V V' w w2):=⟨_,hA2,HSb.out.trans hS2⟩;clear hT2 hl2 hW2 hA2 hS2))
   go_ret;exact⟨rfl,HF.out⟩
theorem fewer_any (B Q O:Nat) (V:Nat→Value) (s:St) (now hv want:Int) (k:Nat) (w:World) (hA:SAt w B Q O V s) (hF:Fit s k) (hk:k≤1000000) (h0:0≤hv∧hv≤50) (h1:0≤want∧want≤50):
  Calls prog 247 #[.pointer (some ⟨Q,O,none⟩),.int .i64 now,.int .i64 hv,.int .i64 want] w (MoA B Q O V (fewer s now hv want) (nD s hv want) w):=by
 have hnb:=nD_bd hF h0 h1;have hhd:=hd_bd hF.hi h1;have hgs:=hF.sh.ge;have hgl:=hF.sh.le;have un:=hF.d.n;have uc:=hF.d.c;have c9:=hA.row 1 (by decide);simp only [pos]at c9;obtain⟨ao,cap,hvv,hc1,hc2,hao,-⟩:=(hA.own 1 (by decide)).form;rw [hvv]at c9;have k0:=hA.num 4 (Or.inl (by decide));have k1:=hA.num 5 (Or.inl (by decide));have k2:=hA.num 6 (Or.inl (by decide));have k3:=hA.num 7 (Or.inl (by decide));simp only [num]at k0 k1 k2 k3;have hQ:=hA.lt;have cB:=fun w=>bounds_any s.d w;unfold pcV at cB;have hO:=hA.own 1 (by decide);rw [hvv]at hO;have HA:=zh hA;have HT:Hid (TaOk s.sh k):=hF.sh;have hll:(rws s 1).length=s.hi.length:=rfl;obtain⟨n0,hn0⟩: ∃n0,hd s.hi want=n0:=⟨_,rfl⟩
 rw [hn0]at hhd;obtain⟨N,hN⟩: ∃N,nD s hv want=N:=⟨_,rfl⟩
 rw [hN]at hnb⊢;have hBw:B≤w.heap.size:=Xc hA.bQ (Xw hQ);clear hvv hA hF;by_cases hl: ¬0<s.hi.length
 ·have hq: ¬(0:Int)<((rws s 1).length:Int):=by omega
  have hw0:want=n0:=by
   cases hx:s.hi with
   |nil=>rw [hx]at hn0;exact hn0
   |cons a b=>rw [hx]at hl;simp at hl
  subst hw0;clear hO hao;cases hb:bnd s.d
  ·have hfold:min want hv=N:=by rw [←hN];simp only [nD,hb,hn0];rfl
   have hfold2:(if hv<want then hv else want)=N:=by rw [←hfold];split<;>omega
   clear hfold;have HE:Hid (fewer s now hv want=s):=by unfold Hid fewer;rw [hb];rfl
   rw [hb]at cB;clear hN hn0 hll;go_enter func247,ntmps247;go_wp2_with(go_at_call 260;(with_reducible refine zg (cB _) fun wb hbb=>?_))
   go_ret;exact⟨rfl,V,by rw [HE.out];exact HA.out.below hbb,Step.of_below hbb hQ⟩
  ·obtain⟨b,hbb⟩: ∃b,hv+s.sh.s=b:=⟨_,rfl⟩
   obtain⟨pt,hpt⟩: ∃pt,partD s b=pt:=⟨_,rfl⟩
   have hb0:0≤b∧b≤60000000:=by omega
   have hpb:0≤pt∧pt≤1000000000000001:=by rw [←hpt];exact partD_bd s _ (by omega) (by omega)
   obtain⟨q,hq'⟩: ∃q,max s.d.n pt=q:=⟨_,rfl⟩
   have hqb:0≤q∧q≤1000000000000001:=by omega
   obtain⟨r,hr⟩: ∃r,max want (b-q)=r:=⟨_,rfl⟩
   have hfold:min r hv=N:=by rw [←hN,←hr,←hq',←hpt,←hbb];simp only [nD,hb,hn0,if_true]
   have e2:(if s.d.n<pt then pt else s.d.n)=q:=by rw [←hq'];split<;>omega
   have e3:(if want<b-q then b-q else want)=r:=by rw [←hr];split<;>omega
   have e4:(if hv<r then hv else r)=N:=by rw [←hfold];split<;>omega
   have e1:hv+s.sh.s=b:=hbb;have HE:Hid (fewer s now hv want= { s with sh:=s.sh.add now (hv-N) }):=by unfold Hid fewer;rw [hb,hN];rfl
   clear hq' hr hfold hbb;have cS:=fun w=>share_any b (10*s.d.c) w;have hpt':share (atz (clip b)) (atz (clip (10*s.d.c)))=pt:=hpt;rw [hpt']at cS;clear hpt hpt';rw [hb]at cB;clear hN hn0 hll;go_enter func247,ntmps247
   go_wp2_with (first
    |(go_at_call 260;(with_reducible refine zg (cB _) fun wb hbb=>?_);have hAb:=HA.out.below hbb;have j1:=hAb.num 5 (Or.inl (by decide));have j2:=hAb.num 6 (Or.inl (by decide));have jt:=hAb.num 14 (Or.inr (Or.inr rfl));simp only [num]at j1 j2 jt;have HB:=zh hAb;have HSb:Hid (Step Q O V V w wb):=Step.of_below hbb hQ;have hBb:B≤wb.heap.size:=Xc hBw hbb.size;clear hAb hbb)
    |(go_at_call 264;(with_reducible refine zq (cS _) ?_))
    |(go_at_call 263;(with_reducible refine(add_any B Q (O+13) (V 3) s.sh now (hv-N) k _ HB.out.talS HT.out hk (by omega) (by omega) hBb).mono ?_);rintro e w2 ⟨rfl,v2,hT2,hl2,hW2⟩;obtain⟨hA2,hS2⟩:=HB.out.newS hT2 hl2 hW2;rw [←HE.out]at hA2;have HF:Hid (∃V',SAt w2 B Q O V' (fewer s now hv want)∧Step Q O V V' w w2):=⟨_,hA2,HSb.out.trans hS2⟩;clear hT2 hl2 hW2 hA2 hS2))
   go_ret;exact⟨rfl,HF.out⟩
 ·have hl':0<s.hi.length:=by omega
  have hq:(0:Int)<((rws s 1).length:Int):=by omega
  obtain⟨g,off,rfl⟩:=hao (by omega);obtain⟨m,hm,hmp⟩: ∃m,s.hi[0]? =some m∧m.p=n0:=by
   cases hx:s.hi with
   |nil=>rw [hx]at hl';simp at hl'
   |cons a b=>rw [hx]at hn0;exact⟨a,rfl,hn0⟩
  obtain⟨e0,e1,-,-,hg⟩:=own_mo hO rfl (i:=0) hm;simp only [Nat.zero_mul,XD]at e0 e1;rw [hmp]at e1;clear hO hao;cases hb:bnd s.d
  ·have hfold:min n0 hv=N:=by rw [←hN];simp only [nD,hb,hn0];rfl
   have hfold2:(if hv<n0 then hv else n0)=N:=by rw [←hfold];split<;>omega
   clear hfold;have HE:Hid (fewer s now hv want=s):=by unfold Hid fewer;rw [hb];rfl
   rw [hb]at cB;clear hN hn0 hll;go_enter func247,ntmps247;go_wp2_with(go_at_call 260;(with_reducible refine zg (cB _) fun wb hbb=>?_))
   go_ret;exact⟨rfl,V,by rw [HE.out];exact HA.out.below hbb,Step.of_below hbb hQ⟩
  ·obtain⟨b,hbb⟩: ∃b,hv+s.sh.s=b:=⟨_,rfl⟩
   obtain⟨pt,hpt⟩: ∃pt,partD s b=pt:=⟨_,rfl⟩
   have hb0:0≤b∧b≤60000000:=by omega
   have hpb:0≤pt∧pt≤1000000000000001:=by rw [←hpt];exact partD_bd s _ (by omega) (by omega)
   obtain⟨q,hq'⟩: ∃q,max s.d.n pt=q:=⟨_,rfl⟩
   have hqb:0≤q∧q≤1000000000000001:=by omega
   obtain⟨r,hr⟩: ∃r,max n0 (b-q)=r:=⟨_,rfl⟩
   have hfold:min r hv=N:=by rw [←hN,←hr,←hq',←hpt,←hbb];simp only [nD,hb,hn0,if_true]
   have e2:(if s.d.n<pt then pt else s.d.n)=q:=by rw [←hq'];split<;>omega
   have e3:(if n0<b-q then b-q else n0)=r:=by rw [←hr];split<;>omega
   have e4:(if hv<r then hv else r)=N:=by rw [←hfold];split<;>omega
   have e1:hv+s.sh.s=b:=hbb;have HE:Hid (fewer s now hv want= { s with sh:=s.sh.add now (hv-N) }):=by unfold Hid fewer;rw [hb,hN];rfl
   clear hq' hr hfold hbb;have cS:=fun w=>share_any b (10*s.d.c) w;have hpt':share (atz (clip b)) (atz (clip (10*s.d.c)))=pt:=hpt;rw [hpt']at cS;clear hpt hpt';rw [hb]at cB;clear hN hn0 hll;go_enter func247,ntmps247
   go_wp2_with (first
    |(go_at_call 260;(with_reducible refine zg (cB _) fun wb hbb=>?_);have hAb:=HA.out.below hbb;have j1:=hAb.num 5 (Or.inl (by decide));have j2:=hAb.num 6 (Or.inl (by decide));have jt:=hAb.num 14 (Or.inr (Or.inr rfl));simp only [num]at j1 j2 jt;have HB:=zh hAb;have HSb:Hid (Step Q O V V w wb):=Step.of_below hbb hQ;have hBb:B≤wb.heap.size:=Xc hBw hbb.size;clear hAb hbb)
    |(go_at_call 264;(with_reducible refine zq (cS _) ?_))
    |(go_at_call 263;(with_reducible refine(add_any B Q (O+13) (V 3) s.sh now (hv-N) k _ HB.out.talS HT.out hk (by omega) (by omega) hBb).mono ?_);rintro e w2 ⟨rfl,v2,hT2,hl2,hW2⟩;obtain⟨hA2,hS2⟩:=HB.out.newS hT2 hl2 hW2;rw [←HE.out]at hA2;have HF:Hid (∃V',SAt w2 B Q O V' (fewer s now hv want)∧Step Q O V V' w w2):=⟨_,hA2,HSb.out.trans hS2⟩;clear hT2 hl2 hW2 hA2 hS2))
   go_ret;exact⟨rfl,HF.out⟩
end Stb
namespace Stb
open Rw Go.RowKit

def SeA (B Q O:Nat) (V:Nat→Value) (s:St) (now hv want:Int) (w:World) (e:Ending) (w':World):Prop:=
 e=.returned (.tuple #[.int .i64 (setN s now hv want),.int .i64 (setE s now hv want)])∧ ∃V',SAt w' B Q O V' (setS s now hv want)∧Step Q O V V' w w'
theorem sea_no {B Q O:Nat} {V:Nat→Value} {s:St} {now hv want:Int} {w:World} (hA:SAt w B Q O V s) (h: ¬(s.last≤now∧now≤1099511627776∧0≤hv∧hv≤50∧0≤want∧want≤50)):SeA B Q O V s now hv want w (.returned (.tuple #[.int .i64 0,.int .i64 1])) w:=by
 have ho:okArg s.last now hv want=false:=by simp only [okArg,decide_eq_false_iff_not];exact h
 refine⟨?_,V,?_,Step.refl _ _ _ _⟩
 ·simp [setN,setE,ho]
 ·simpa [setS,ho]using hA
theorem set_no (B Q O:Nat) (V:Nat→Value) (s:St) (now hv want:Int) (w:World) (hA:SAt w B Q O V s) (h: ¬(s.last≤now∧now≤1099511627776∧0≤hv∧hv≤50∧0≤want∧want≤50)):
  Calls prog 224 #[.pointer (some ⟨Q,O,none⟩),.int .i64 now,.int .i64 hv,.int .i64 want] w (SeA B Q O V s now hv want w):=by
 have HN:Hid (SeA B Q O V s now hv want w (.returned (.tuple #[.int .i64 0,.int .i64 1])) w):=sea_no hA h;have k8:=hA.num 8 (Or.inl (by decide));simp only [num]at k8;have hQ:=hA.lt;have m1:=fun w=>mayBe_any hv w;have m2:=fun w=>mayBe_any want w;by_cases h1:now<s.last
 ·clear h hA;go_enter func224,ntmps224;go_wp2;go_ret2;exact HN.out
 ·by_cases h2:1099511627776<now
  ·clear h hA;go_enter func224,ntmps224;go_wp2;go_ret2;exact HN.out
  ·cases h3:mb hv
   ·rw [h3]at m1;clear h hA;go_enter func224,ntmps224;go_wp2_with(go_at_call 243;(with_reducible refine zq (m1 _) ?_))
    go_ret2;exact HN.out
   ·cases h4:mb want
    ·have hne:hv≠want:=fun e=>by rw [e,h4]at h3;cases h3
     rw [h3]at m1;rw [h4]at m2;clear h hA;go_enter func224,ntmps224
     go_wp2_with (first
      |(go_at_call 243;(with_reducible refine zq (m1 _) ?_))
      |(go_at_call 243;(with_reducible refine zq (m2 _) ?_)))
     go_ret2;exact HN.out
    ·exfalso;rw [mb_iff]at h3 h4;exact h ⟨by omega,by omega,h3.1,h3.2,h4.1,h4.2⟩
theorem set_yes (B Q O:Nat) (V:Nat→Value) (s:St) (now hv want:Int) (k:Nat) (w:World) (hA:SAt w B Q O V s) (hF:Fit s k) (hk:k≤900000) (h1:s.last≤now) (h2:now≤1099511627776) (h3:0≤hv∧hv≤50) (h4:0≤want∧want≤50):
  Calls prog 224 #[.pointer (some ⟨Q,O,none⟩),.int .i64 now,.int .i64 hv,.int .i64 want] w (SeA B Q O V s now hv want w):=by
 have ho:okArg s.last now hv want=true:=by simp only [okArg,decide_eq_true_eq];omega
 have hl0:=hF.last;have k8:=hA.num 8 (Or.inl (by decide));simp only [num]at k8;have hQ:=hA.lt;have f8:=hA.fz (O+8);have m1:=fun w=>mayBe_any hv w;have m2:=fun w=>mayBe_any want w;rw [(mb_iff hv).2 h3]at m1;rw [(mb_iff want).2 h4]at m2;have hn1: ¬now<s.last:=by omega
 have hn2: ¬1099511627776<now:=by omega
 obtain⟨hA1,hS1⟩:=hA.setLast now;have hF1:Fit { s with last:=now } k:= { hF with last:=⟨show 0≤now by omega,h2⟩ }
 have hB1:B≤(w.setCell ⟨Q,O+8,none⟩ (.int .i64 now)).heap.size:=Xc hA1.bQ (Xw hA1.lt);have cK:=know_any B Q O V { s with last:=now } now want k _ hA1 hF1 (by omega) hB1 rfl;have hF2:Fit (know s now want) (k+1):=hF.know ⟨by omega,h2⟩ h4;have hF3:Fit (forget (know s now want) now) (k+1):=hF2.forget now;have HF3:=zh hF3;have HF2:=zh hF2;have HS1:=zh hS1;have HO:=zh ho;have h0n:0≤now:=by omega
 clear hA hA1 hS1 hF hF1 hF2 hF3 ho hB1;by_cases ha:hv<want
 ·have HN:Hid (setN s now hv want=nU (forget (know s now want) now) hv want∧setE s now hv want=0∧setS s now hv want=more (forget (know s now want) now) now hv want):=by
   refine⟨?_,?_,?_⟩
   ·rw [setN,if_pos HO.out,if_pos ha]
   ·rw [setE,if_pos HO.out]
   ·rw [setS,if_pos HO.out,if_pos ha]
  go_enter func224,ntmps224
  go_wp2_with (first
   |(go_at_call 243;(with_reducible refine zq (m1 _) ?_))
   |(go_at_call 243;(with_reducible refine zq (m2 _) ?_))
   |(go_at_call 244;(with_reducible refine cK.mono ?_);rintro e w3 ⟨rfl,V3,hA3,hS3⟩;have HA3:=zh hA3;have HS3:Hid (Step Q O V V3 w w3):=HS1.out.trans hS3;clear hA3 hS3)
   |(go_at_call 245;(with_reducible refine(sforget_any B Q O V3 (know s now want) now (k+1) _ HA3.out HF2.out (by omega) h0n h2).mono ?_);rintro e w4 ⟨rfl,V4,hA4,hS4⟩;have HA4:=zh hA4;have HS4:Hid (Step Q O V V4 w w4):=HS3.out.trans hS4;clear hA4 hS4)
   |(go_at_call 246;(with_reducible refine(more_any B Q O V4 (forget (know s now want) now) now hv want (k+1) _ HA4.out HF3.out (by omega) h3 h4).mono ?_);rintro e w5 ⟨rfl,V5,hA5,hS5⟩;have HA5:=zh hA5;have HS5:Hid (Step Q O V V5 w w5):=HS4.out.trans hS5;clear hA5 hS5))
  go_ret2;exact⟨by rw [HN.out.1,HN.out.2.1];rfl,V5,by rw [HN.out.2.2];exact HA5.out,HS5.out⟩
 ·by_cases hb:want<hv
  ·have HN:Hid (setN s now hv want=nD (forget (know s now want) now) hv want∧setE s now hv want=0∧setS s now hv want=fewer (forget (know s now want) now) now hv want):=by
    refine⟨?_,?_,?_⟩
    ·rw [setN,if_pos HO.out,if_neg ha,if_pos hb]
    ·rw [setE,if_pos HO.out]
    ·rw [setS,if_pos HO.out,if_neg ha,if_pos hb]
   go_enter func224,ntmps224
   go_wp2_with (first
    |(go_at_call 243;(with_reducible refine zq (m1 _) ?_))
    |(go_at_call 243;(with_reducible refine zq (m2 _) ?_))
    |(go_at_call 244;(with_reducible refine cK.mono ?_);rintro e w3 ⟨rfl,V3,hA3,hS3⟩;have HA3:=zh hA3;have HS3:Hid (Step Q O V V3 w w3):=HS1.out.trans hS3;clear hA3 hS3)
    |(go_at_call 245;(with_reducible refine(sforget_any B Q O V3 (know s now want) now (k+1) _ HA3.out HF2.out (by omega) h0n h2).mono ?_);rintro e w4 ⟨rfl,V4,hA4,hS4⟩;have HA4:=zh hA4;have HS4:Hid (Step Q O V V4 w w4):=HS3.out.trans hS4;clear hA4 hS4)
    |(go_at_call 247;(with_reducible refine(fewer_any B Q O V4 (forget (know s now want) now) now hv want (k+1) _ HA4.out HF3.out (by omega) h3 h4).mono ?_);rintro e w5 ⟨rfl,V5,hA5,hS5⟩;have HA5:=zh hA5;have HS5:Hid (Step Q O V V5 w w5):=HS4.out.trans hS5;clear hA5 hS5))
   go_ret2;exact⟨by rw [HN.out.1,HN.out.2.1];rfl,V5,by rw [HN.out.2.2];exact HA5.out,HS5.out⟩
  ·have HN:Hid (setN s now hv want=hv∧setE s now hv want=0∧setS s now hv want=forget (know s now want) now):=by
    refine⟨?_,?_,?_⟩
    ·rw [setN,if_pos HO.out,if_neg ha,if_neg hb]
    ·rw [setE,if_pos HO.out]
    ·rw [setS,if_pos HO.out,if_neg ha,if_neg hb]
   go_enter func224,ntmps224
   go_wp2_with (first
    |(go_at_call 243;(with_reducible refine zq (m1 _) ?_))
    |(go_at_call 243;(with_reducible refine zq (m2 _) ?_))
    |(go_at_call 244;(with_reducible refine cK.mono ?_);rintro e w3 ⟨rfl,V3,hA3,hS3⟩;have HA3:=zh hA3;have HS3:Hid (Step Q O V V3 w w3):=HS1.out.trans hS3;clear hA3 hS3)
    |(go_at_call 245;(with_reducible refine(sforget_any B Q O V3 (know s now want) now (k+1) _ HA3.out HF2.out (by omega) h0n h2).mono ?_);rintro e w4 ⟨rfl,V4,hA4,hS4⟩;have HA4:=zh hA4;have HS4:Hid (Step Q O V V4 w w4):=HS3.out.trans hS4;clear hA4 hS4))
   go_ret2;exact⟨by rw [HN.out.1,HN.out.2.1];rfl,V4,by rw [HN.out.2.2];exact HA4.out,HS4.out⟩
theorem set_any (B Q O:Nat) (V:Nat→Value) (s:St) (now hv want:Int) (k:Nat) (w:World) (hA:SAt w B Q O V s) (hF:Fit s k) (hk:k≤900000):
  Calls prog 224 #[.pointer (some ⟨Q,O,none⟩),.int .i64 now,.int .i64 hv,.int .i64 want] w (SeA B Q O V s now hv want w):=by
 by_cases h:s.last≤now∧now≤1099511627776∧0≤hv∧hv≤50∧0≤want∧want≤50
 ·obtain⟨a,b,c,d,e,f⟩:=h;exact set_yes B Q O V s now hv want k w hA hF hk a b ⟨c,d⟩ ⟨e,f⟩
 ·exact set_no B Q O V s now hv want w hA h
