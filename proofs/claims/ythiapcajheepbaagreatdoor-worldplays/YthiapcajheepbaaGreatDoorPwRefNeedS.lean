/- A part. -/
import Derived.Test.YthiapcajheepbaaGreatDoorPwRefNeed
import Derived.Test.YthiapcajheepbaaGreatDoorPwRefSpan
set_option linter.all false
open Go.Proofs.Tryz
set_option maxHeartbeats 32000000
set_option maxRecDepth 8000
namespace Go.Proofs.YthiapcajheepbaaGreatDoor
namespace Ned
open Go.RowKit Plain Num Pln Civ Crn Lai RCiv RCrn

theorem rneed_span (t:Tr) (f:Bool) (a:Option Addr) (len cap:Nat) (sec shift:Int) (r:Bool) (w:World) (hk:t.k=3) (h:1≤t.tg) (ua:Us t.a) (ub:Us t.b) (ha:kc t.a=true) (hb:kc t.b=true) (ht:tmB sec=true) (hs:shB shift=true) (hr:InQ r t.a t.b (minOf sec shift) shift):
  CB 128 #[trV t,rdV f a len cap,.int .i64 sec,.int .i64 shift] w (.tuple #[needV (if r=true then t.tg else 0) r,.int .i64 0]):=by
 obtain⟨W,hW⟩: ∃W,W=((w.alloc (.cells (trC t) 84)).alloc (.cells #[.bool f,.slice a len cap] 149)).alloc (.cells #[.int .i64 0,.bool false] 178):=⟨_,rfl⟩
 have hK:BoxAt w W t f (.slice a len cap):=by rw [hW];exact BoxAt.mk3 w t f _ _ _ _
 have HW:=zh hW;have cI:=fun w=>in_any t.k 1 3 w;have hin:inB t.k 1 3=true:=by unfold inB;rw [hk];decide
 rw [hin]at cI;have cS:=fun w=>rspan_yes t.a t.b w ua ub ha hb;have cO:=fun w=>rof_yes sec shift w ht hs;have hA:=hK.tr;have k0:=hK.tr.c0;have k1:=hK.tr.c1;have h1: ¬t.tg<1:=by omega
 have d3:(t.k==3)=true:=by rw [hk];rfl
 unfold ofv civ at cO;cases r
 ·have cW:=fun w=>rw_false t.a t.b sec shift w ua ub ht hs (fun h=>by have:=hr.2 h;cases this);rw [if_neg (by decide)];clear hW hin hr ua ub ha hb ht hs h hk;go_enter func128,ntmps128;go_upto_region 1 with fail
  rw [←HW.out];clear HW
  go_wp2_with (first
   |(go_at_call 6;(with_reducible refine zq (cI _) ?_))
   |(with_reducible refine wp_span hA (by with_unfolding_all rfl) ?_)
   |(go_at_call 17;(with_reducible refine zg (cS _) fun w1 hb1=>?_);have hK1:=hK.next hb1;clear hb1)
   |(go_at_call 156;(with_reducible refine zg (cO _) fun w2 hb2=>?_);have hK2:=fun o=>(hK1.next hb2).next (balloc (w:=w2) o);clear hb2)
   |(with_reducible refine wp_span (hK2 _).tr (by with_unfolding_all rfl) ?_)
   |(go_at_call 157;(with_reducible refine zg (cW _) fun w3 hb3=>?_);have hK3:=(hK2 _).next hb3;have n0:=hK3.n0;have n1:=hK3.n1;have fz:=hK3.fz;have q1:=hK3.tr.c1;clear hb3))
  first
   |exact finL (B:=w.heap.size+1+1) results128 rfl rfl rfl n0 n1 rfl (Xc (Xm _) (Xm _)) hK3.bw
   |exact finN (B:=w.heap.size+1+1) results128 rfl rfl rfl n0 n1 ⟨rfl,hK3.bw⟩
 ·have cW:=fun w=>rw_true t.a t.b sec shift w ua ub ht hs (hr.1 rfl);rw [if_pos rfl];clear hW hin hr ua ub ha hb ht hs h hk;go_enter func128,ntmps128;go_upto_region 1 with fail
  rw [←HW.out];clear HW
  go_wp2_with (first
   |(go_at_call 6;(with_reducible refine zq (cI _) ?_))
   |(with_reducible refine wp_span hA (by with_unfolding_all rfl) ?_)
   |(go_at_call 17;(with_reducible refine zg (cS _) fun w1 hb1=>?_);have hK1:=hK.next hb1;clear hb1)
   |(go_at_call 156;(with_reducible refine zg (cO _) fun w2 hb2=>?_);have hK2:=fun o=>(hK1.next hb2).next (balloc (w:=w2) o);clear hb2)
   |(with_reducible refine wp_span (hK2 _).tr (by with_unfolding_all rfl) ?_)
   |(go_at_call 157;(with_reducible refine zg (cW _) fun w3 hb3=>?_);have hK3:=(hK2 _).next hb3;have n0:=hK3.n0;have n1:=hK3.n1;have fz:=hK3.fz;have q1:=hK3.tr.c1;clear hb3))
  exact finL (B:=w.heap.size+1+1) results128 rfl rfl rfl n0 n1 rfl (Xc (Xm _) (Xm _)) hK3.bw
