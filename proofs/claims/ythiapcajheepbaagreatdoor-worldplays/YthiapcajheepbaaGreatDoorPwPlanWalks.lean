/- A part. -/
import Derived.Test.YthiapcajheepbaaGreatDoorPwCronWalks
import Derived.Lib.ConvBytes
set_option linter.all false
open Go.Proofs.Tryz
set_option maxHeartbeats 32000000
set_option maxRecDepth 8000
namespace Go.Proofs.YthiapcajheepbaaGreatDoor
namespace Pln
open Go.RowKit Lai Civ Crn
variable {t:List UInt8}

theorem rg_iff {n lo hi:Int} :rg n lo hi=true↔lo≤n∧n≤hi:=by unfold rg;rw [decide_eq_true_eq]
theorem within_any (n lo hi:Int) (w:World):
  CS 133 #[.int .i64 n,.int .i64 lo,.int .i64 hi] w (.bool (rg n lo hi)):=by
 by_cases h1:lo≤n
 ·have d:decide (lo≤n)=true:=by simp [h1]
  have HT:Hid (rg n lo hi=decide (n≤hi)):=by unfold Hid rg;rw [decide_eq_decide];omega
  go_enter func133,ntmps133;go_wp2;go_ret;exact⟨by rw [HT.out];rfl,rfl⟩
 ·have d:decide (lo≤n)=false:=by simp;omega
  have HT:Hid (rg n lo hi=false):=by unfold Hid rg;rw [decide_eq_false_iff_not];omega
  go_enter func133,ntmps133;go_wp2;go_ret;exact⟨by rw [HT.out];rfl,rfl⟩
theorem ret_b {a b:Bool} (h:a=b):Ending.returned (.bool a)=.returned (.bool b):=by rw [h]
theorem ret_n {a b:Int} (h:a=b):Ending.returned (.int .i64 a)=.returned (.int .i64 b):=by rw [h]

theorem bytes0 (w:World) (t:List UInt8): ∃(W:World) (cap:Nat),
  (convert 9 185 (.string ⟨t.toArray⟩)).run prog w=.ok (.slice (some ⟨w.heap.size,0,none⟩) t.length cap) W∧
  (∀(j:Nat) x,t[j]? =some x→W.cell? ⟨w.heap.size,j,none⟩=some (.int .u8 x.toNat))∧Below w.heap.size w W∧w.heap.size<W.heap.size:=by
 have h1:=Lib.run_convert_string_bytes (P:=prog) w 9 185 5 ⟨t.toArray⟩ underlying9 underlying185 underlying5;have hsz:(⟨t.toArray⟩:ByteArray).size=t.length:=rfl;rw [hsz]at h1;refine⟨_,_,h1,fun j x hx=> ?_,⟨rfl,rfl,rfl,?_,fun k hk=> ?_⟩,?_⟩
 ·have hj:j<t.length:=(Xe.1 hx).1;rw [Lib.bytesWorld_cell w 5 ⟨t.toArray⟩ j hj];have e:(t.getD j 0)=x:=by rw [Yq,hx];rfl
  show some (Value.int .u8 ((t.getD j 0).toNat))=_;rw [e]
 ·rw [Lib.bytesWorld_size];omega
 ·exact Lib.bytesWorld_at_old _ _ _ _ hk
 ·rw [Lib.bytesWorld_size];omega
def NmR (t:List UInt8) (W:World) (i:Value) (wr:World):Prop:= ∃k:Nat,k≤t.length∧i=.int .i64 k∧(∀j x,j<k→t[j]? =some x→nmC x=true)∧wr=W
theorem nm_no' {x:UInt8} {k:Nat} (h:t[k]? =some x) (hx:nmC x=false):nmB t=false:=by
 unfold nmB;rw [Yb];right;rw [List.all_eq_false];exact⟨x,Xk h,by rw [hx];decide⟩
theorem nm_yes (hl:1≤t.length∧t.length≤16) (h: ∀j x,j<t.length→t[j]? =some x→nmC x=true):nmB t=true:=by
 unfold nmB;rw [Xq,decide_eq_true_eq];refine⟨hl,Ye.2 fun x hx=> ?_⟩;obtain⟨j,hj⟩:=Yr.1 hx;exact h j x (Xe.1 hj).1 hj
theorem nmC_cases (x:UInt8):(nmC x=true∧((97≤(x.toNat:Int)∧(x.toNat:Int)≤122)∨(48≤(x.toNat:Int)∧(x.toNat:Int)≤57)∨(x.toNat:Int)=45))∨
  (nmC x=false∧((x.toNat:Int)<45∨(45<(x.toNat:Int)∧(x.toNat:Int)<48)∨(57<(x.toNat:Int)∧(x.toNat:Int)<97)∨122<(x.toNat:Int))):=by
 cases h:nmC x
 ·right;refine⟨rfl,?_⟩;unfold nmC at h;simp only [Bool.or_eq_false_iff,decide_eq_false_iff_not]at h;omega
 ·left;refine⟨rfl,?_⟩;unfold nmC at h;simp only [Bool.or_eq_true,decide_eq_true_eq]at h;omega
theorem isName_any (t:List UInt8) (w:World) (hl:t.length≤9223372036854775807):
  CB 98 #[.string ⟨t.toArray⟩] w (.bool (nmB t)):=by
 have hsz:(⟨t.toArray⟩:ByteArray).size=t.length:=rfl;have c0:=fun w=>within_any (t.length:Int) 1 16 w;by_cases h:1≤t.length∧t.length≤16
 ·rw [show rg (t.length:Int) 1 16=true from rg_iff.2 (by omega)]at c0;obtain⟨W,cap,hk,hc,hb,hz⟩:=bytes0 w t;go_enter func98,ntmps98;go_wp2_with(go_at_call 133;(with_reducible refine zq (c0 _) ?_))
  go_loopw [12] (fun i wr=>NmR t W i wr) (fun i _=>t.length-(intOf i).toNat)
  case atStart=>exact⟨0,Xx _,rfl,(fun j x hj=>absurd hj (by omega)),rfl⟩
  case round=>
   obtain⟨k,hk1,rfl,hd0,h9⟩:=hrel;have h8:=h9.symm;clear h9;subst h8;have HD:=zh hd0;clear hd0;by_cases hlt:k<t.length
   ·have hlt':(k:Int)<t.length:=(by omega);obtain⟨x,hx⟩: ∃x,t[k]? =some x:=⟨t[k],by simp [hlt]⟩
    have cx:=hc k x hx;have HX:=zh hx;have hxu:(x.toNat:Int)≤255:=by have:=x.toNat_lt;omega
    have hx0:0≤(x.toNat:Int):=(by omega);clear hx;rcases nmC_cases x with⟨hn0,hq⟩|⟨hn0,hq⟩
    ·have HN:=zh hn0;clear hn0;have rel:NmR t W (.int .i64 (((k+1:Nat)):Int)) W:=by
      refine⟨k+1,by omega,rfl,fun j y hj hy=> ?_,rfl⟩;by_cases e:j=k
      ·subst e;rw [HX.out]at hy;cases hy;exact HN.out
      ·exact HD.out j y (by omega) hy
     have HR:=zh rel;clear rel hc;rcases hq with hq|hq|hq
     all_goals
      go_wp2;go_roundw
      case rel=>exact HR.out
      case measure=>simp [intOf];omega
    ·have HN:Hid (nmB t=false):=nm_no' HX.out hn0;clear hn0 hc;have hne:((x.toNat:Int) !=45)=true:=by rw [bne_iff_ne];omega
     rcases hq with hq|hq|hq|hq
     all_goals
      go_wp2;go_ret;exact⟨ret_b HN.out.symm,hb⟩
   ·obtain rfl:k=t.length:=by omega
    have HN:Hid (nmB t=true):=nm_yes h HD.out;go_wp2;go_ret;exact⟨ret_b HN.out.symm,hb⟩
 ·rw [show rg (t.length:Int) 1 16=false by unfold rg;rw [decide_eq_false_iff_not];omega]at c0;have HN:Hid (nmB t=false):=by unfold Hid nmB;rw [Yb];left;rw [decide_eq_false_iff_not];exact h
  go_enter func98,ntmps98;go_wp2_with(go_at_call 133;(with_reducible refine(c0 _).mono ?_);rintro e w1 ⟨rfl,rfl⟩)
  go_ret;exact⟨ret_b HN.out.symm,Below.refl _ _⟩

theorem numbers_any (p:Pd) (sl:Value) (w:World) (hi:PdI p):
  CB 99 #[planV p sl] w (.bool (numB p)):=by
 obtain⟨nm,mn,mx,po,co,tl,bk,af,sh,uw,up,uc,ue,dw,dp,dc,de⟩:=p;have HN:Hid (numB ⟨nm,mn,mx,po,co,tl,bk,af,sh,uw,up,uc,ue,dw,dp,dc,de⟩=(rg mn 0 50&&(rg mx (max 1 mn) 50&&(rg po 1 100000&&(rg co 1 100000&&(rg tl 0 1000&&(rg bk 0 50&&(rg af 0 100&&rg sh (-900) 900)))))))):=rfl;have c:=fun n lo hi w=>within_any n lo hi w;clear hi;go_enter func99,ntmps99;go_wp2_with(go_at_call 133;(with_reducible refine(c _ _ _ _).mono ?_);rintro e w1 ⟨rfl,rfl⟩)
 all_goals
  go_ret;clear c;exact⟨ret_b (by rw [HN.out];simp [*]),(Below.refl _ _).alloc (Xa _) _⟩
theorem pace_any (a b c d:Int) (w:World):
  CB 100 #[.agg #[.int .i64 a,.int .i64 b,.int .i64 c,.int .i64 d]] w (.bool (paceB a b c d)):=by
 have HN:Hid (paceB a b c d=(rg a 0 100000&&(rg b 0 50&&(rg c 0 1000&&rg d 0 100000)))):=rfl;have cw:=fun n lo hi w=>within_any n lo hi w;go_enter func100,ntmps100;go_wp2_with(go_at_call 133;(with_reducible refine(cw _ _ _ _).mono ?_);rintro e w1 ⟨rfl,rfl⟩)
 all_goals
  go_ret;clear cw;exact⟨ret_b (by rw [HN.out];simp [*]),(Below.refl _ _).alloc (Xa _) _⟩

theorem scheck_any (a b:K) (w:World) (hB:BdsAt w):CB 134 #[spanV a b] w (.int .i64 (if kc a=true∧kc b=true then 0 else 1)):=by
 by_cases h:kc a=true∧kc b=true
 ·rw [if_pos h];exact scheck_yes a b w hB h.1 h.2
 ·rw [if_neg h];refine scheck_no a b w hB ?_;cases ha:kc a
  ·exact Or.inl rfl
  ·cases hb:kc b
   ·exact Or.inr rfl
   ·exact absurd ⟨ha,hb⟩ h
def trE (t:Tr):Int:=if trB t=true then 0 else 1
theorem ctrig_span (t:Tr) (w:World) (hB:BdsAt w) (hk:t.k=3):
  CB 101 #[trV t] w (.int .i64 (trE t)):=by
 obtain⟨k,tg,ac,a,b⟩:=t;dsimp only at hk;subst hk;have HN:Hid (trE ⟨3,tg,ac,a,b⟩=if rg tg 1 50=true∧ac=0∧kc a=true∧kc b=true then 0 else 1):=by
  unfold Hid trE trB;dsimp only;rw [if_pos rfl];simp only [Xq,decide_eq_true_eq]
 have cw:=fun n lo hi w=>within_any n lo hi w;have cs:=fun w hB=>scheck_any a b w hB;have hB2:=fun o=>hB.below (balloc o) (Xa _);by_cases hac:ac=0
 ·subst hac;go_enter func101,ntmps101
  go_wp2_with (first
   |(go_at_call 133;(with_reducible refine(cw _ _ _ _).mono ?_);rintro e w1 ⟨rfl,rfl⟩)
   |(go_at_call 134;(with_reducible refine zg (cs _ (hB2 _)) fun w1 hb1=>?_)))
  all_goals
   go_ret;clear cw cs hB2
   first
    |exact⟨ret_n (by rw [HN.out];simp [*]),balloc _⟩
    |exact⟨ret_n (by rw [HN.out];simp [*]),(balloc _).trans (hb1.mono (by simp))⟩
 ·have hne:(ac !=0)=true:=by rw [bne_iff_ne];exact hac
  go_enter func101,ntmps101
  go_wp2_with (first
   |(go_at_call 133;(with_reducible refine(cw _ _ _ _).mono ?_);rintro e w1 ⟨rfl,rfl⟩)
   |(go_at_call 134;(with_reducible refine zg (cs _ (hB2 _)) fun w1 hb1=>?_)))
  all_goals
   go_ret;clear cw cs hB2;exact⟨ret_n (by rw [HN.out];simp [*]),balloc _⟩
theorem ctrig_two (k tg ac:Int) (a b:K) (w:World) (hk:k=1∨k=2):
  CB 101 #[trV ⟨k,tg,ac,a,b⟩] w (.int .i64 (trE ⟨k,tg,ac,a,b⟩)):=by
 have HN:Hid (trE ⟨k,tg,ac,a,b⟩=if rg tg 1 1000000=true∧rg ac 0 1000000=true∧zK a=true∧zK b=true then 0 else 1):=by
  unfold Hid trE trB;dsimp only;rw [if_neg (show¬k=3 by omega)];simp only [Xq,decide_eq_true_eq];simp only [hk,true_and]
 have cw:=fun n lo hi w=>within_any n lo hi w;obtain⟨a0,a1,a2,a3,a4,a5,a6⟩:=a;obtain⟨b0,b1,b2,b3,b4,b5,b6⟩:=b;go_enter func101,ntmps101;rcases hk with rfl|rfl
 all_goals
  go_wp2_with (first
   |(go_at_call 133;(with_reducible refine(cw _ _ _ _).mono ?_);rintro e w1 ⟨rfl,rfl⟩))
  all_goals
   go_ret;clear cw;exact⟨ret_n (by rw [HN.out];simp [zK, *]),balloc _⟩
theorem ctrig_other (k tg ac:Int) (a b:K) (w:World) (h1:k≠1) (h2:k≠2) (h3:k≠3):
  CB 101 #[trV ⟨k,tg,ac,a,b⟩] w (.int .i64 (trE ⟨k,tg,ac,a,b⟩)):=by
 have HN:Hid (trE ⟨k,tg,ac,a,b⟩=1):=by
  unfold Hid trE trB;dsimp only;rw [if_neg h3];simp [h1,h2]
 have d1:(k==1)=false:=by rw [beq_eq_false_iff_ne];exact h1
 have d2:(k==2)=false:=by rw [beq_eq_false_iff_ne];exact h2
 have d3:(k==3)=false:=by rw [beq_eq_false_iff_ne];exact h3
 go_enter func101,ntmps101;go_wp2;go_ret;exact⟨ret_n HN.out.symm,balloc _⟩
theorem ctrig_any (t:Tr) (w:World) (hB:BdsAt w):
  CB 101 #[trV t] w (.int .i64 (trE t)):=by
 by_cases h3:t.k=3
 ·exact ctrig_span t w hB h3
 ·obtain⟨k,tg,ac,a,b⟩:=t;by_cases h1:k=1
  ·exact ctrig_two k tg ac a b w (Or.inl h1)
  ·by_cases h2:k=2
   ·exact ctrig_two k tg ac a b w (Or.inr h2)
   ·exact ctrig_other k tg ac a b w h1 h2 h3
