/- What cron.Match answers. What cron.Match answers: whole. A cron as one thing; what span.Check answers. What plan.Check answers: the functions, the leaves first. What plan.Check answers: triggers. What plan.Check answers. What plan.Check answers, of every plan. A trigger that is laid into a new block, by one step of a walk. -/
import Derived.Test.YtddabkmppobcdaaGreatDoorPsCronWalks
import Derived.Deep.QuietTactic
import Derived.BigQuiet
import Derived.Test.YtddabkmppobcdaaGreatDoorPsCronPlain
import Derived.Test.YtddabkmppobcdaaGreatDoorPsAr
import Derived.Lib.ConvBytes
import Derived.Deep.MidRow
set_option maxHeartbeats 32000000
set_option maxRecDepth 8000
namespace Go.Proofs.YtddabkmppobcdaaGreatDoor
namespace Crn
open Go.RowKit Lai Civ


theorem bdrewN {n:Nat} {a b:World} (h:Below n a b): ∀k,Below n a (b.drewN k)
 |0=>h
 |k+1=>(bdrewN h k).drew

theorem either_any (mi ho da mo we:Int) (ad aw:Bool) (w:World):
  Calls Tryz.prog 221 #[cronV mi ho da mo we ad aw] w fun e w'=>e=.returned (.bool (!ad&& !aw))∧Below w.heap.size w w':=by
 cases ad<;>cases aw
 all_goals
  go_enter Tryz.func221,Tryz.ntmps221
  go_wp2
  go_ret
  exact⟨rfl,(Below.refl _ _).alloc (Nat.le_refl _) _⟩

set_option maxRecDepth 20000 in
theorem day_any (mi ho da mo we:Int) (ad aw:Bool) (y m d h i s k:Int) (w:World) (b2:U da) (b3:U mo) (b4:U we) (bm:I m) (bd:I d) (bk:I k):
  Calls Tryz.prog 213 #[cronV mi ho da mo we ad aw,civ y m d h i s k] w fun e w'=>e=.returned (.bool (dayB da mo we ad aw m d k))∧Below w.heap.size w w':=by
 unfold dayB
 cases h1:inS da d<;>cases h2:inS we k<;>cases h3:inS mo m<;>cases h4:(!ad&& !aw)
 all_goals
  have c1:=has_any da d (h0:=b2) (hn:=bd)
  have c2:=has_any we k (h0:=b4) (hn:=bk)
  have c3:=has_any mo m (h0:=b3) (hn:=bm)
  have c4:=either_any mi ho da mo we ad aw
  rw [h1]at c1;rw [h2]at c2;rw [h3]at c3;rw [h4]at c4
  clear h1 h2 h3 h4
  go_enter Tryz.func213,Tryz.ntmps213
  go_wp2
  go_quiet (first|(go_at_call 220;with_reducible refine Calls.quiet_of_same (c1 _))|(go_at_call 220;with_reducible refine Calls.quiet_of_same (c2 _)))
  go_wp2_with (first
   |(go_at_call 220;with_reducible refine(c3 _).mono ?_;rintro e w1 ⟨rfl,rfl⟩)
   |(go_at_call 221;with_reducible refine(c4 _).mono ?_;rintro e w1 ⟨rfl,hb1⟩))
  go_ret
  first
   |exact⟨rfl,bdrewN (((Below.refl _ _).alloc (Nat.le_refl _) _).alloc (by simp) _) _⟩
   |exact⟨rfl,(bdrewN (((Below.refl _ _).alloc (Nat.le_refl _) _).alloc (by simp) _) _).trans (hb1.mono (by simp;omega))⟩
end Crn
namespace Crn
open Go.RowKit Lai Civ

theorem check_no (mi ho da mo we:Int) (ad aw:Bool) (w:World) (hB:BdsAt w) (h:chkB mi ho da mo we ad aw=false):
  Calls Tryz.prog 82 #[cronV mi ho da mo we ad aw] w fun e w'=>e=.returned (.int .i64 1)∧Below w.heap.size w w':=by
 have:=check_any mi ho da mo we ad aw w hB
 rwa [show chkE mi ho da mo we ad aw=1 by unfold chkE;rw [h];rfl]at this
theorem check_yes (mi ho da mo we:Int) (ad aw:Bool) (w:World) (hB:BdsAt w) (h:chkB mi ho da mo we ad aw=true):
  Calls Tryz.prog 82 #[cronV mi ho da mo we ad aw] w fun e w'=>e=.returned (.int .i64 0)∧Below w.heap.size w w':=by
 have:=check_any mi ho da mo we ad aw w hB
 rwa [show chkE mi ho da mo we ad aw=0 by unfold chkE;rw [h];rfl]at this

theorem balloc {w:World} (o:Obj):Below w.heap.size w (w.alloc o):=(Below.refl _ _).alloc (Nat.le_refl _) _
theorem balloc2 {w:World} (o p:Obj):Below w.heap.size w ((w.alloc o).alloc p):=((Below.refl _ _).alloc (Nat.le_refl _) _).alloc (by simp) _
theorem ballocs {w w1:World} {o p:Obj} (h:Below ((w.alloc o).alloc p).heap.size ((w.alloc o).alloc p) w1):Below w.heap.size w w1:=(balloc2 o p).trans (h.mono (by simp;omega))

end Crn
namespace Crn
open Go.RowKit Lai Civ

section
variable (a b : K) (w : World)
theorem scheck_yes (hB:BdsAt w) (ha:kc a=true) (hb:kc b=true):
  Calls Tryz.prog 79 #[spanV a b] w fun e w'=>e=.returned (.int .i64 0)∧Below w.heap.size w w':=by
 have c1:=fun w hB=>check_yes a.mi a.ho a.da a.mn a.we a.ad a.aw w hB ha
 have c2:=fun w hB=>check_yes b.mi b.ho b.da b.mn b.we b.ad b.aw w hB hb
 clear ha hb
 go_enter Tryz.func79,Tryz.ntmps79
 go_wp2_with (first
  |(go_at_call 82;(with_reducible refine(c1 _ (hB.below (balloc _) (Nat.le_refl _))).mono ?_);rintro e w1 ⟨rfl,hb1⟩;have hB1:BdsAt w1:=(hB.below (balloc _) (Nat.le_refl _)).below hb1 (Nat.le_refl _);have hw1:Hid (Below w.heap.size w w1):=(balloc _).trans (hb1.mono (by simp));obtain⟨hc1,hf1⟩:=bcell hb1)
  |(go_at_call 82;(with_reducible refine(c2 _ hB1).mono ?_);rintro e w2 ⟨rfl,hb2⟩))
 go_ret
 exact⟨rfl,bstep hw1 hb2⟩
theorem scheck_no (hB:BdsAt w) (h:kc a=false∨kc b=false):
  Calls Tryz.prog 79 #[spanV a b] w fun e w'=>e=.returned (.int .i64 1)∧Below w.heap.size w w':=by
 cases ha:kc a
 ·have c1:=fun w hB=>check_no a.mi a.ho a.da a.mn a.we a.ad a.aw w hB ha
  clear h ha
  go_enter Tryz.func79,Tryz.ntmps79
  go_wp2_with (first
   |(go_at_call 82;(with_reducible refine(c1 _ (hB.below (balloc _) (Nat.le_refl _))).mono ?_);rintro e w1 ⟨rfl,hb1⟩;have hw1:Hid (Below w.heap.size w w1):=(balloc _).trans (hb1.mono (by simp))))
  go_ret
  exact⟨rfl,hw1⟩
 ·have hb:kc b=false:=by rcases h with h|h;(rw [ha]at h;cases h);exact h
  have c1:=fun w hB=>check_yes a.mi a.ho a.da a.mn a.we a.ad a.aw w hB ha
  have c2:=fun w hB=>check_no b.mi b.ho b.da b.mn b.we b.ad b.aw w hB hb
  clear ha hb h
  go_enter Tryz.func79,Tryz.ntmps79
  go_wp2_with (first
   |(go_at_call 82;(with_reducible refine(c1 _ (hB.below (balloc _) (Nat.le_refl _))).mono ?_);rintro e w1 ⟨rfl,hb1⟩;have hB1:BdsAt w1:=(hB.below (balloc _) (Nat.le_refl _)).below hb1 (Nat.le_refl _);have hw1:Hid (Below w.heap.size w w1):=(balloc _).trans (hb1.mono (by simp));obtain⟨hc1,hf1⟩:=bcell hb1)
   |(go_at_call 82;(with_reducible refine(c2 _ hB1).mono ?_);rintro e w2 ⟨rfl,hb2⟩))
  go_ret
  exact⟨rfl,bstep hw1 hb2⟩
end
end Crn
namespace Pln
open Go.RowKit Lai Civ Crn

theorem rg_iff {n lo hi:Int} :rg n lo hi=true↔lo≤n∧n≤hi:=by unfold rg;rw [decide_eq_true_eq]
theorem within_any (n lo hi:Int) (w:World):
  Calls Tryz.prog 78 #[.int .i64 n,.int .i64 lo,.int .i64 hi] w fun e w'=>e=.returned (.bool (rg n lo hi))∧w'=w:=by
 by_cases h1:lo≤n
 ·have d:decide (lo≤n)=true:=by simp [h1]
  have HT:Hid (rg n lo hi=decide (n≤hi)):=by unfold Hid rg;rw [decide_eq_decide];omega
  go_enter Tryz.func78,Tryz.ntmps78
  go_wp2
  go_ret
  exact⟨by rw [HT.out];rfl,rfl⟩
 ·have d:decide (lo≤n)=false:=by simp;omega
  have HT:Hid (rg n lo hi=false):=by unfold Hid rg;rw [decide_eq_false_iff_not];omega
  go_enter Tryz.func78,Tryz.ntmps78
  go_wp2
  go_ret
  exact⟨by rw [HT.out];rfl,rfl⟩
theorem ret_b {a b:Bool} (h:a=b):Ending.returned (.bool a)=.returned (.bool b):=by rw [h]
theorem ret_n {a b:Int} (h:a=b):Ending.returned (.int .i64 a)=.returned (.int .i64 b):=by rw [h]

theorem bytes0 (w:World) (t:List UInt8): ∃(W:World) (cap:Nat),
  (convert 9 57 (.string ⟨t.toArray⟩)).run Tryz.prog w=.ok (.slice (some ⟨w.heap.size,0,none⟩) t.length cap) W∧
  (∀(j:Nat) x,t[j]?=some x→W.cell? ⟨w.heap.size,j,none⟩=some (.int .u8 x.toNat))∧Below w.heap.size w W∧w.heap.size<W.heap.size:=by
 have h1:=Lib.run_convert_string_bytes (P:=Tryz.prog) w 9 57 5 ⟨t.toArray⟩ Tryz.underlying9 Tryz.underlying57 Tryz.underlying5
 have hsz:(⟨t.toArray⟩:ByteArray).size=t.length:=rfl
 rw [hsz]at h1
 refine⟨_,_,h1,fun j x hx=> ?_,⟨rfl,rfl,rfl,?_,fun k hk=> ?_⟩,?_⟩
 ·have hj:j<t.length:=(List.getElem?_eq_some_iff.1 hx).1
  rw [Lib.bytesWorld_cell w 5 ⟨t.toArray⟩ j hj]
  have e:(t.getD j 0)=x:=by rw [List.getD_eq_getElem?_getD,hx];rfl
  show some (Value.int .u8 ((t.getD j 0).toNat))=_
  rw [e]
 ·rw [Lib.bytesWorld_size];omega
 ·exact Lib.bytesWorld_at_old _ _ _ _ hk
 ·rw [Lib.bytesWorld_size];omega
def NmR (t:List UInt8) (W:World) (i:Value) (wr:World):Prop:= ∃k:Nat,k≤t.length∧i=.int .i64 k∧(∀j x,j<k→t[j]?=some x→nmC x=true)∧wr=W
theorem nm_no' {t:List UInt8} {x:UInt8} {k:Nat} (h:t[k]?=some x) (hx:nmC x=false):nmB t=false:=by
 unfold nmB
 rw [Bool.and_eq_false_iff]
 right
 rw [List.all_eq_false]
 exact⟨x,List.mem_of_getElem? h,by rw [hx];decide⟩
theorem nm_yes {t:List UInt8} (hl:1≤t.length∧t.length≤16) (h: ∀j x,j<t.length→t[j]?=some x→nmC x=true):nmB t=true:=by
 unfold nmB
 rw [Bool.and_eq_true,decide_eq_true_eq]
 refine⟨hl,List.all_eq_true.2 fun x hx=> ?_⟩
 obtain⟨j,hj⟩:=List.mem_iff_getElem?.1 hx
 exact h j x (List.getElem?_eq_some_iff.1 hj).1 hj
theorem nmC_cases (x:UInt8):(nmC x=true∧((97≤(x.toNat:Int)∧(x.toNat:Int)≤122)∨(48≤(x.toNat:Int)∧(x.toNat:Int)≤57)∨(x.toNat:Int)=45))∨
  (nmC x=false∧((x.toNat:Int)<45∨(45<(x.toNat:Int)∧(x.toNat:Int)<48)∨(57<(x.toNat:Int)∧(x.toNat:Int)<97)∨122<(x.toNat:Int))):=by
 cases h:nmC x
 ·right
  refine⟨rfl,?_⟩
  unfold nmC at h
  simp only [Bool.or_eq_false_iff,decide_eq_false_iff_not]at h
  omega
 ·left
  refine⟨rfl,?_⟩
  unfold nmC at h
  simp only [Bool.or_eq_true,decide_eq_true_eq]at h
  omega
theorem isName_any (t:List UInt8) (w:World) (hl:t.length≤9223372036854775807):
  Calls Tryz.prog 45 #[.string ⟨t.toArray⟩] w fun e w'=>e=.returned (.bool (nmB t))∧Below w.heap.size w w':=by
 have hsz:(⟨t.toArray⟩:ByteArray).size=t.length:=rfl
 have c0:=fun w=>within_any (t.length:Int) 1 16 w
 by_cases h:1≤t.length∧t.length≤16
 ·rw [show rg (t.length:Int) 1 16=true from rg_iff.2 (by omega)]at c0
  obtain⟨W,cap,hk,hc,hb,hz⟩:=bytes0 w t
  go_enter Tryz.func45,Tryz.ntmps45
  go_wp2_with(go_at_call 78;(with_reducible refine(c0 _).mono ?_);rintro e w1 ⟨rfl,h9⟩;have h8:=h9.symm;clear h9;subst h8)
  go_loopw [12] (fun i wr=>NmR t W i wr) (fun i _=>t.length-(intOf i).toNat)
  case atStart=>exact⟨0,Nat.zero_le _,rfl,(fun j x hj=>absurd hj (by omega)),rfl⟩
  case round=>
   obtain⟨k,hk1,rfl,hd0,h9⟩:=hrel
   have h8:=h9.symm
   clear h9
   subst h8
   have HD:Hid (∀j x,j<k→t[j]?=some x→nmC x=true):=hd0
   clear hd0
   by_cases hlt:k<t.length
   ·have hlt':(k:Int)<t.length:=by omega
    obtain⟨x,hx⟩: ∃x,t[k]?=some x:=⟨t[k],by simp [hlt]⟩
    have cx:=hc k x hx
    have HX:Hid (t[k]?=some x):=hx
    have hxu:(x.toNat:Int)≤255:=by have:=x.toNat_lt;omega
    have hx0:0≤(x.toNat:Int):=by omega
    clear hx
    rcases nmC_cases x with⟨hn0,hq⟩|⟨hn0,hq⟩
    ·have HN:Hid (nmC x=true):=hn0
     clear hn0
     have rel:NmR t W (.int .i64 (((k+1:Nat)):Int)) W:=by
      refine⟨k+1,by omega,rfl,fun j y hj hy=> ?_,rfl⟩
      by_cases e:j=k
      ·subst e;rw [HX.out]at hy;cases hy;exact HN.out
      ·exact HD.out j y (by omega) hy
     have HR:Hid (NmR t W (.int .i64 (((k+1:Nat)):Int)) W):=rel
     clear rel hc
     rcases hq with hq|hq|hq
     all_goals
      go_wp2
      go_roundw
      case rel=>exact HR.out
      case measure=>simp [intOf];omega
    ·have HN:Hid (nmB t=false):=nm_no' HX.out hn0
     clear hn0 hc
     have hne:((x.toNat:Int) !=45)=true:=by rw [bne_iff_ne];omega
     rcases hq with hq|hq|hq|hq
     all_goals
      go_wp2
      go_ret
      exact⟨ret_b HN.out.symm,hb⟩
   ·obtain rfl:k=t.length:=by omega
    have HN:Hid (nmB t=true):=nm_yes h HD.out
    go_wp2
    go_ret
    exact⟨ret_b HN.out.symm,hb⟩
 ·rw [show rg (t.length:Int) 1 16=false by unfold rg;rw [decide_eq_false_iff_not];omega]at c0
  have HN:Hid (nmB t=false):=by unfold Hid nmB;rw [Bool.and_eq_false_iff];left;rw [decide_eq_false_iff_not];exact h
  go_enter Tryz.func45,Tryz.ntmps45
  go_wp2_with(go_at_call 78;(with_reducible refine(c0 _).mono ?_);rintro e w1 ⟨rfl,rfl⟩)
  go_ret
  exact⟨ret_b HN.out.symm,Below.refl _ _⟩

theorem numbers_any (p:Pd) (sl:Value) (w:World) (hi:PdI p):
  Calls Tryz.prog 46 #[planV p sl] w fun e w'=>e=.returned (.bool (numB p))∧Below w.heap.size w w':=by
 obtain⟨nm,mn,mx,po,co,tl,bk,af,sh,uw,up,uc,ue,dw,dp,dc,de⟩:=p
 have HN:Hid (numB ⟨nm,mn,mx,po,co,tl,bk,af,sh,uw,up,uc,ue,dw,dp,dc,de⟩=(rg mn 0 50&&(rg mx (max 1 mn) 50&&(rg po 1 100000&&(rg co 1 100000&&(rg tl 0 1000&&(rg bk 0 50&&(rg af 0 100&&rg sh (-900) 900)))))))):=rfl
 have c:=fun n lo hi w=>within_any n lo hi w
 clear hi
 go_enter Tryz.func46,Tryz.ntmps46
 go_wp2_with(go_at_call 78;(with_reducible refine(c _ _ _ _).mono ?_);rintro e w1 ⟨rfl,rfl⟩)
 all_goals
  go_ret
  clear c
  exact⟨ret_b (by rw [HN.out];simp [*]),(Below.refl _ _).alloc (Nat.le_refl _) _⟩
theorem pace_any (a b c d:Int) (w:World):
  Calls Tryz.prog 47 #[.agg #[.int .i64 a,.int .i64 b,.int .i64 c,.int .i64 d]] w fun e w'=>e=.returned (.bool (paceB a b c d))∧Below w.heap.size w w':=by
 have HN:Hid (paceB a b c d=(rg a 0 100000&&(rg b 0 50&&(rg c 0 1000&&rg d 0 100000)))):=rfl
 have cw:=fun n lo hi w=>within_any n lo hi w
 go_enter Tryz.func47,Tryz.ntmps47
 go_wp2_with(go_at_call 78;(with_reducible refine(cw _ _ _ _).mono ?_);rintro e w1 ⟨rfl,rfl⟩)
 all_goals
  go_ret
  clear cw
  exact⟨ret_b (by rw [HN.out];simp [*]),(Below.refl _ _).alloc (Nat.le_refl _) _⟩
end Pln
namespace Pln
open Go.RowKit Lai Civ Crn

theorem scheck_any (a b:K) (w:World) (hB:BdsAt w):Calls Tryz.prog 79 #[spanV a b] w fun e w'=>e=.returned (.int .i64 (if kc a=true∧kc b=true then 0 else 1))∧Below w.heap.size w w':=by
 by_cases h:kc a=true∧kc b=true
 ·rw [if_pos h];exact scheck_yes a b w hB h.1 h.2
 ·rw [if_neg h]
  refine scheck_no a b w hB ?_
  cases ha:kc a
  ·exact Or.inl rfl
  ·cases hb:kc b
   ·exact Or.inr rfl
   ·exact absurd ⟨ha,hb⟩ h
def trE (t:Tr):Int:=if trB t=true then 0 else 1
theorem ctrig_span (t:Tr) (w:World) (hB:BdsAt w) (hk:t.k=3):
  Calls Tryz.prog 48 #[trV t] w fun e w'=>e=.returned (.int .i64 (trE t))∧Below w.heap.size w w':=by
 obtain⟨k,tg,ac,a,b⟩:=t
 dsimp only at hk
 subst hk
 have HN:Hid (trE ⟨3,tg,ac,a,b⟩=if rg tg 1 50=true∧ac=0∧kc a=true∧kc b=true then 0 else 1):=by
  unfold Hid trE trB
  dsimp only
  rw [if_pos rfl]
  simp only [Bool.and_eq_true,decide_eq_true_eq]
 have cw:=fun n lo hi w=>within_any n lo hi w
 have cs:=fun w hB=>scheck_any a b w hB
 have hB2:=fun o=>hB.below (balloc o) (Nat.le_refl _)
 by_cases hac:ac=0
 ·subst hac
  go_enter Tryz.func48,Tryz.ntmps48
  go_wp2_with (first
   |(go_at_call 78;(with_reducible refine(cw _ _ _ _).mono ?_);rintro e w1 ⟨rfl,rfl⟩)
   |(go_at_call 79;(with_reducible refine(cs _ (hB2 _)).mono ?_);rintro e w1 ⟨rfl,hb1⟩))
  all_goals
   go_ret
   clear cw cs hB2
   first
    |exact⟨ret_n (by rw [HN.out];simp [*]),balloc _⟩
    |exact⟨ret_n (by rw [HN.out];simp [*]),(balloc _).trans (hb1.mono (by simp))⟩
 ·have hne:(ac !=0)=true:=by rw [bne_iff_ne];exact hac
  go_enter Tryz.func48,Tryz.ntmps48
  go_wp2_with (first
   |(go_at_call 78;(with_reducible refine(cw _ _ _ _).mono ?_);rintro e w1 ⟨rfl,rfl⟩)
   |(go_at_call 79;(with_reducible refine(cs _ (hB2 _)).mono ?_);rintro e w1 ⟨rfl,hb1⟩))
  all_goals
   go_ret
   clear cw cs hB2
   exact⟨ret_n (by rw [HN.out];simp [*]),balloc _⟩
theorem ctrig_two (k tg ac:Int) (a b:K) (w:World) (hk:k=1∨k=2):
  Calls Tryz.prog 48 #[trV ⟨k,tg,ac,a,b⟩] w fun e w'=>e=.returned (.int .i64 (trE ⟨k,tg,ac,a,b⟩))∧Below w.heap.size w w':=by
 have HN:Hid (trE ⟨k,tg,ac,a,b⟩=if rg tg 1 1000000=true∧rg ac 0 1000000=true∧zK a=true∧zK b=true then 0 else 1):=by
  unfold Hid trE trB
  dsimp only
  rw [if_neg (show¬k=3 by omega)]
  simp only [Bool.and_eq_true,decide_eq_true_eq]
  simp only [hk,true_and]
 have cw:=fun n lo hi w=>within_any n lo hi w
 obtain⟨a0,a1,a2,a3,a4,a5,a6⟩:=a
 obtain⟨b0,b1,b2,b3,b4,b5,b6⟩:=b
 go_enter Tryz.func48,Tryz.ntmps48
 rcases hk with rfl|rfl
 all_goals
  go_wp2_with (first
   |(go_at_call 78;(with_reducible refine(cw _ _ _ _).mono ?_);rintro e w1 ⟨rfl,rfl⟩))
  all_goals
   go_ret
   clear cw
   exact⟨ret_n (by rw [HN.out];simp [zK, *]),balloc _⟩
theorem ctrig_other (k tg ac:Int) (a b:K) (w:World) (h1:k≠1) (h2:k≠2) (h3:k≠3):
  Calls Tryz.prog 48 #[trV ⟨k,tg,ac,a,b⟩] w fun e w'=>e=.returned (.int .i64 (trE ⟨k,tg,ac,a,b⟩))∧Below w.heap.size w w':=by
 have HN:Hid (trE ⟨k,tg,ac,a,b⟩=1):=by
  unfold Hid trE trB
  dsimp only
  rw [if_neg h3]
  simp [h1,h2]
 have d1:(k==1)=false:=by rw [beq_eq_false_iff_ne];exact h1
 have d2:(k==2)=false:=by rw [beq_eq_false_iff_ne];exact h2
 have d3:(k==3)=false:=by rw [beq_eq_false_iff_ne];exact h3
 go_enter Tryz.func48,Tryz.ntmps48
 go_wp2
 go_ret
 exact⟨ret_n HN.out.symm,balloc _⟩
theorem ctrig_any (t:Tr) (w:World) (hB:BdsAt w):
  Calls Tryz.prog 48 #[trV t] w fun e w'=>e=.returned (.int .i64 (trE t))∧Below w.heap.size w w':=by
 by_cases h3:t.k=3
 ·exact ctrig_span t w hB h3
 ·obtain⟨k,tg,ac,a,b⟩:=t
  by_cases h1:k=1
  ·exact ctrig_two k tg ac a b w (Or.inl h1)
  ·by_cases h2:k=2
   ·exact ctrig_two k tg ac a b w (Or.inr h2)
   ·exact ctrig_other k tg ac a b w h1 h2 h3
end Pln
namespace Pln
open Go.RowKit Lai Civ Crn

structure TrAt (w:World) (b o:Nat) (t:Tr):Prop where
 c0:w.cell? ⟨b,o,none⟩=some (.int .i64 t.k)
 c1:w.cell? ⟨b,o+1,none⟩=some (.int .i64 t.tg)
 c2:w.cell? ⟨b,o+2,none⟩=some (.int .i64 t.ac)
 c3:w.cell? ⟨b,o+3,none⟩=some (.int .u64 t.a.mi)
 c4:w.cell? ⟨b,o+4,none⟩=some (.int .u64 t.a.ho)
 c5:w.cell? ⟨b,o+5,none⟩=some (.int .u64 t.a.da)
 c6:w.cell? ⟨b,o+6,none⟩=some (.int .u64 t.a.mn)
 c7:w.cell? ⟨b,o+7,none⟩=some (.int .u64 t.a.we)
 c8:w.cell? ⟨b,o+8,none⟩=some (.bool t.a.ad)
 c9:w.cell? ⟨b,o+9,none⟩=some (.bool t.a.aw)
 c10:w.cell? ⟨b,o+10,none⟩=some (.int .u64 t.b.mi)
 c11:w.cell? ⟨b,o+11,none⟩=some (.int .u64 t.b.ho)
 c12:w.cell? ⟨b,o+12,none⟩=some (.int .u64 t.b.da)
 c13:w.cell? ⟨b,o+13,none⟩=some (.int .u64 t.b.mn)
 c14:w.cell? ⟨b,o+14,none⟩=some (.int .u64 t.b.we)
 c15:w.cell? ⟨b,o+15,none⟩=some (.bool t.b.ad)
 c16:w.cell? ⟨b,o+16,none⟩=some (.bool t.b.aw)
theorem TrsAt.elem {w:World} {a:Option Addr} {ts:List Tr} (h:TrsAt w a ts) {i:Nat} {t:Tr} (hi:ts[i]?=some t): ∃b off,a=some ⟨b,off,none⟩∧b<w.heap.size∧TrAt w b (off+i*17) t:=by
 obtain⟨b,off,rfl,hlt,hc⟩:=h i t hi
 refine⟨b,off,rfl,hlt,?_⟩
 have q: ∀j,j<17→w.cell? ⟨b,off+i*17+j,none⟩=(trC t)[j]?:=fun j hj=>by rw [Nat.add_assoc];exact hc j hj
 constructor
 ·simpa using q 0 (by decide)
 ·simpa using q 1 (by decide)
 ·simpa using q 2 (by decide)
 ·simpa using q 3 (by decide)
 ·simpa using q 4 (by decide)
 ·simpa using q 5 (by decide)
 ·simpa using q 6 (by decide)
 ·simpa using q 7 (by decide)
 ·simpa using q 8 (by decide)
 ·simpa using q 9 (by decide)
 ·simpa using q 10 (by decide)
 ·simpa using q 11 (by decide)
 ·simpa using q 12 (by decide)
 ·simpa using q 13 (by decide)
 ·simpa using q 14 (by decide)
 ·simpa using q 15 (by decide)
 ·simpa using q 16 (by decide)
def CkR (ts:List Tr) (w:World) (i:Value) (wr:World):Prop:= ∃k:Nat,k≤ts.length∧i=.int .i64 k∧(∀j t,j<k→ts[j]?=some t→trB t=true)∧Below w.heap.size w wr
theorem cells_on {W w':World} {N:Nat} {A:Array Value} (h: ∀o,W.cell? ⟨N,o,none⟩=A[o]?) (hb:Below W.heap.size W w') (hN:N<W.heap.size): ∀o,w'.cell? ⟨N,o,none⟩=A[o]?:=
 fun o=>(hb.cell (p:=⟨N,o,none⟩) hN).trans (h o)
theorem trE_bad {t:Tr} (h:trB t=false):trE t=1:=by unfold trE;rw [h];rfl
theorem trE_ok {t:Tr} (h:trB t=true):trE t=0:=by unfold trE;rw [h];rfl
theorem chk_bad {p:Pd} {ts:List Tr} {t:Tr} {k:Nat} (h1:nmB p.nm=true) (h2: ¬5<ts.length) (h3:okP p=true) (hk:ts[k]?=some t) (ht:trB t=false):chkP p ts=1:=by
 unfold chkP
 rw [h1,h3,if_neg (by decide),if_neg h2,if_neg (by decide),if_pos (List.all_eq_false.2 ⟨t,List.mem_of_getElem? hk,by rw [ht];decide⟩)]
theorem chk_good {p:Pd} {ts:List Tr} (h1:nmB p.nm=true) (h2: ¬5<ts.length) (h3:okP p=true) (h: ∀j t,j<ts.length→ts[j]?=some t→trB t=true):chkP p ts=0:=by
 unfold chkP
 have:ts.all trB=true:=List.all_eq_true.2 fun t ht=>by
  obtain⟨j,hj⟩:=List.mem_iff_getElem?.1 ht
  exact h j t (List.getElem?_eq_some_iff.1 hj).1 hj
 rw [h1,h3,this,if_neg (by decide),if_neg h2,if_neg (by decide),if_neg (by decide)]
structure PlAt (w:World) (B:Nat) (p:Pd) (sl:Value):Prop where
 c0:w.cell? ⟨B,0,none⟩=some (.string ⟨p.nm.toArray⟩)
 c1:w.cell? ⟨B,1,none⟩=some (.int .i64 p.mn)
 c2:w.cell? ⟨B,2,none⟩=some (.int .i64 p.mx)
 c3:w.cell? ⟨B,3,none⟩=some (.int .i64 p.po)
 c4:w.cell? ⟨B,4,none⟩=some (.int .i64 p.co)
 c5:w.cell? ⟨B,5,none⟩=some (.int .i64 p.tl)
 c6:w.cell? ⟨B,6,none⟩=some (.int .i64 p.bk)
 c7:w.cell? ⟨B,7,none⟩=some (.int .i64 p.af)
 c8:w.cell? ⟨B,8,none⟩=some (.int .i64 p.sh)
 c9:w.cell? ⟨B,9,none⟩=some (.int .i64 p.uw)
 c10:w.cell? ⟨B,10,none⟩=some (.int .i64 p.up)
 c11:w.cell? ⟨B,11,none⟩=some (.int .i64 p.uc)
 c12:w.cell? ⟨B,12,none⟩=some (.int .i64 p.ue)
 c13:w.cell? ⟨B,13,none⟩=some (.int .i64 p.dw)
 c14:w.cell? ⟨B,14,none⟩=some (.int .i64 p.dp)
 c15:w.cell? ⟨B,15,none⟩=some (.int .i64 p.dc)
 c16:w.cell? ⟨B,16,none⟩=some (.int .i64 p.de)
 c17:w.cell? ⟨B,17,none⟩=some sl
theorem PlAt.on {w w':World} {B n:Nat} {p:Pd} {sl:Value} (h:PlAt w B p sl) (hb:Below n w w') (hn:B<n):PlAt w' B p sl:=
 ⟨(hb.cell (p:=⟨B,0,none⟩) hn).trans h.c0,(hb.cell (p:=⟨B,1,none⟩) hn).trans h.c1,(hb.cell (p:=⟨B,2,none⟩) hn).trans h.c2,(hb.cell (p:=⟨B,3,none⟩) hn).trans h.c3,(hb.cell (p:=⟨B,4,none⟩) hn).trans h.c4,(hb.cell (p:=⟨B,5,none⟩) hn).trans h.c5,(hb.cell (p:=⟨B,6,none⟩) hn).trans h.c6,(hb.cell (p:=⟨B,7,none⟩) hn).trans h.c7,(hb.cell (p:=⟨B,8,none⟩) hn).trans h.c8,(hb.cell (p:=⟨B,9,none⟩) hn).trans h.c9,(hb.cell (p:=⟨B,10,none⟩) hn).trans h.c10,(hb.cell (p:=⟨B,11,none⟩) hn).trans h.c11,(hb.cell (p:=⟨B,12,none⟩) hn).trans h.c12,(hb.cell (p:=⟨B,13,none⟩) hn).trans h.c13,(hb.cell (p:=⟨B,14,none⟩) hn).trans h.c14,(hb.cell (p:=⟨B,15,none⟩) hn).trans h.c15,(hb.cell (p:=⟨B,16,none⟩) hn).trans h.c16,(hb.cell (p:=⟨B,17,none⟩) hn).trans h.c17⟩
theorem PlAt.of {w:World} {B:Nat} {p:Pd} {sl:Value} (h: ∀o,w.cell? ⟨B,o,none⟩=(planC p sl)[o]?):PlAt w B p sl:=by
 constructor
 ·simpa using h 0
 ·simpa using h 1
 ·simpa using h 2
 ·simpa using h 3
 ·simpa using h 4
 ·simpa using h 5
 ·simpa using h 6
 ·simpa using h 7
 ·simpa using h 8
 ·simpa using h 9
 ·simpa using h 10
 ·simpa using h 11
 ·simpa using h 12
 ·simpa using h 13
 ·simpa using h 14
 ·simpa using h 15
 ·simpa using h 16
 ·simpa using h 17
theorem range_plan {w:World} {B:Nat} {p:Pd} {sl:Value} (h:PlAt w B p sl):w.rangeAt B 0 [.string ⟨p.nm.toArray⟩,.int .i64 p.mn,.int .i64 p.mx,.int .i64 p.po,.int .i64 p.co,.int .i64 p.tl,.int .i64 p.bk,.int .i64 p.af,.int .i64 p.sh,.int .i64 p.uw,.int .i64 p.up,.int .i64 p.uc,.int .i64 p.ue,.int .i64 p.dw,.int .i64 p.dp,.int .i64 p.dc,.int .i64 p.de,sl]:=by
 intro j v hv
 match j,hv with
 |0,hv=>simp at hv;subst hv;simpa using h.c0
 |1,hv=>simp at hv;subst hv;simpa using h.c1
 |2,hv=>simp at hv;subst hv;simpa using h.c2
 |3,hv=>simp at hv;subst hv;simpa using h.c3
 |4,hv=>simp at hv;subst hv;simpa using h.c4
 |5,hv=>simp at hv;subst hv;simpa using h.c5
 |6,hv=>simp at hv;subst hv;simpa using h.c6
 |7,hv=>simp at hv;subst hv;simpa using h.c7
 |8,hv=>simp at hv;subst hv;simpa using h.c8
 |9,hv=>simp at hv;subst hv;simpa using h.c9
 |10,hv=>simp at hv;subst hv;simpa using h.c10
 |11,hv=>simp at hv;subst hv;simpa using h.c11
 |12,hv=>simp at hv;subst hv;simpa using h.c12
 |13,hv=>simp at hv;subst hv;simpa using h.c13
 |14,hv=>simp at hv;subst hv;simpa using h.c14
 |15,hv=>simp at hv;subst hv;simpa using h.c15
 |16,hv=>simp at hv;subst hv;simpa using h.c16
 |17,hv=>simp at hv;subst hv;simpa using h.c17
 |j+18,hv=>simp at hv
theorem range_tr {w:World} {b o:Nat} {t:Tr} (h:TrAt w b o t):w.rangeAt b o [.int .i64 t.k,.int .i64 t.tg,.int .i64 t.ac,.int .u64 t.a.mi,.int .u64 t.a.ho,.int .u64 t.a.da,.int .u64 t.a.mn,.int .u64 t.a.we,.bool t.a.ad,.bool t.a.aw,.int .u64 t.b.mi,.int .u64 t.b.ho,.int .u64 t.b.da,.int .u64 t.b.mn,.int .u64 t.b.we,.bool t.b.ad,.bool t.b.aw]:=by
 intro j v hv
 match j,hv with
 |0,hv=>simp at hv;subst hv;simpa using h.c0
 |1,hv=>simp at hv;subst hv;simpa using h.c1
 |2,hv=>simp at hv;subst hv;simpa using h.c2
 |3,hv=>simp at hv;subst hv;simpa using h.c3
 |4,hv=>simp at hv;subst hv;simpa using h.c4
 |5,hv=>simp at hv;subst hv;simpa using h.c5
 |6,hv=>simp at hv;subst hv;simpa using h.c6
 |7,hv=>simp at hv;subst hv;simpa using h.c7
 |8,hv=>simp at hv;subst hv;simpa using h.c8
 |9,hv=>simp at hv;subst hv;simpa using h.c9
 |10,hv=>simp at hv;subst hv;simpa using h.c10
 |11,hv=>simp at hv;subst hv;simpa using h.c11
 |12,hv=>simp at hv;subst hv;simpa using h.c12
 |13,hv=>simp at hv;subst hv;simpa using h.c13
 |14,hv=>simp at hv;subst hv;simpa using h.c14
 |15,hv=>simp at hv;subst hv;simpa using h.c15
 |16,hv=>simp at hv;subst hv;simpa using h.c16
 |j+17,hv=>simp at hv
theorem wp_plan {ops:Array Oper} {rest:List Oper} {d:Option Nat} {x:Operand} {ps:String} {af:Array Edge} {A:Act} {Q:Exit→Act→World→Prop} {w:World} {B:Nat} {p:Pd} {sl:Value} (h:PlAt w B p sl) (hx:A.eval x=.pointer (some ⟨B,0,none⟩))
  (g:wpList Tryz.prog ops Q rest (A.put d (planV p sl)) w):wpList Tryz.prog ops Q ({ dst:=d,op:=.load 26 x,type:=26,pos:=ps,after:=af,guard:=none } ::rest) A w:=
 wpList_load_mid rfl 26 x rfl B 0 hx [.string ⟨p.nm.toArray⟩,.int .i64 p.mn,.int .i64 p.mx,.int .i64 p.po,.int .i64 p.co,.int .i64 p.tl,.int .i64 p.bk,.int .i64 p.af,.int .i64 p.sh,.int .i64 p.uw,.int .i64 p.up,.int .i64 p.uc,.int .i64 p.ue,.int .i64 p.dw,.int .i64 p.dp,.int .i64 p.dc,.int .i64 p.de,sl] _ (range_plan h) Tryz.underlying26 rfl (by kernel_rfl) g
theorem wp_tr {ops:Array Oper} {rest:List Oper} {d:Option Nat} {x:Operand} {ps:String} {af:Array Edge} {A:Act} {Q:Exit→Act→World→Prop} {w:World} {b o:Nat} {t:Tr} (h:TrAt w b o t) (hx:A.eval x=.pointer (some ⟨b,o,none⟩))
  (g:wpList Tryz.prog ops Q rest (A.put d (trV t)) w):wpList Tryz.prog ops Q ({ dst:=d,op:=.load 71 x,type:=71,pos:=ps,after:=af,guard:=none } ::rest) A w:=
 wpList_load_mid rfl 71 x rfl b o hx [.int .i64 t.k,.int .i64 t.tg,.int .i64 t.ac,.int .u64 t.a.mi,.int .u64 t.a.ho,.int .u64 t.a.da,.int .u64 t.a.mn,.int .u64 t.a.we,.bool t.a.ad,.bool t.a.aw,.int .u64 t.b.mi,.int .u64 t.b.ho,.int .u64 t.b.da,.int .u64 t.b.mn,.int .u64 t.b.we,.bool t.b.ad,.bool t.b.aw] _ (range_tr h) Tryz.underlying71 rfl (by kernel_rfl) g
theorem TrAt.new (w:World) (t:Tr) (ta:TypeId):TrAt (w.alloc (.cells (trC t) ta)) w.heap.size 0 t:=by
 constructor<;>simp
theorem boxB {w w1:World} {A:Array Value} {ta:TypeId} (hb:Below (w.alloc (.cells A ta)).heap.size (w.alloc (.cells A ta)) w1):(∀o,w1.cell? ⟨w.heap.size,o,none⟩=A[o]?)∧w.heap.size<w1.heap.size∧Below w.heap.size w w1:=
 ⟨fun o=>by rw [hb.cell (p:=⟨w.heap.size,o,none⟩) (by simp)];simp,Nat.lt_of_lt_of_le (by simp) hb.size,(balloc _).trans (hb.mono (by simp))⟩
theorem check_name (p:Pd) (ts:List Tr) (a:Option Addr) (cap:Nat) (w:World) (hl:p.nm.length≤9223372036854775807) (h1:nmB p.nm=false):
  Calls Tryz.prog 17 #[planV p (.slice a ts.length cap)] w fun e w'=>e=.returned (.int .i64 (chkP p ts))∧Below w.heap.size w w':=by
 have c1:=fun w=>isName_any p.nm w hl
 rw [h1]at c1
 have HR:Hid (chkP p ts=3):=by unfold Hid chkP;rw [if_pos h1]
 clear h1
 go_enter Tryz.func17,Tryz.ntmps17
 go_wp2_with(go_at_call 45;(with_reducible refine(c1 _).mono ?_);rintro e w1 ⟨rfl,hb1⟩;obtain⟨hA1,hz1,hw1⟩:=boxB hb1;have hq:PlAt w1 w.heap.size p (.slice a ts.length cap):=PlAt.of hA1;clear hA1;have hA1:=hq;clear hq)
 go_ret
 exact⟨ret_n HR.out.symm,hw1⟩
theorem check_many (p:Pd) (ts:List Tr) (a:Option Addr) (cap:Nat) (w:World) (hl:p.nm.length≤9223372036854775807) (h1:nmB p.nm=true) (h2:5<ts.length):
  Calls Tryz.prog 17 #[planV p (.slice a ts.length cap)] w fun e w'=>e=.returned (.int .i64 (chkP p ts))∧Below w.heap.size w w':=by
 have c1:=fun w=>isName_any p.nm w hl
 rw [h1]at c1
 have HR:Hid (chkP p ts=2):=by unfold Hid chkP;rw [h1,if_neg (by decide),if_pos h2]
 have h2':(5:Int)<ts.length:=by omega
 clear h1
 go_enter Tryz.func17,Tryz.ntmps17
 go_wp2_with(go_at_call 45;(with_reducible refine(c1 _).mono ?_);rintro e w1 ⟨rfl,hb1⟩;obtain⟨hA1,hz1,hw1⟩:=boxB hb1;have hq:PlAt w1 w.heap.size p (.slice a ts.length cap):=PlAt.of hA1;clear hA1;have hA1:=hq;clear hq;have p17:=hA1.c17)
 go_ret
 exact⟨ret_n HR.out.symm,hw1⟩
theorem check_num (p:Pd) (ts:List Tr) (a:Option Addr) (cap:Nat) (w:World) (hi:PdI p) (hl:p.nm.length≤9223372036854775807) (h1:nmB p.nm=true) (h2: ¬5<ts.length) (hn:numB p=false):
  Calls Tryz.prog 17 #[planV p (.slice a ts.length cap)] w fun e w'=>e=.returned (.int .i64 (chkP p ts))∧Below w.heap.size w w':=by
 have c1:=fun w=>isName_any p.nm w hl
 rw [h1]at c1
 have h2': ¬(5:Int)<ts.length:=by omega
 have c2:=fun w=>numbers_any p (.slice a ts.length cap) w hi
 rw [hn]at c2
 have HR:Hid (chkP p ts=1):=by unfold Hid chkP okP;rw [h1,if_neg (by decide),if_neg h2,hn];rfl
 clear h1 hn hi hl
 go_enter Tryz.func17,Tryz.ntmps17
 go_wp2_with (first
  |(with_reducible refine wp_plan hA1 (by with_unfolding_all rfl) ?_)
  |(go_at_call 45;(with_reducible refine(c1 _).mono ?_);rintro e w1 ⟨rfl,hb1⟩;obtain⟨hA1,hz1,hw1⟩:=boxB hb1;have hq:PlAt w1 w.heap.size p (.slice a ts.length cap):=PlAt.of hA1;clear hA1;have hA1:=hq;clear hq;have p17:=hA1.c17)
  |(go_at_call 46;(with_reducible refine(c2 _).mono ?_);rintro e w2 ⟨rfl,hb2⟩;have hw2:Below w.heap.size w w2:=hw1.trans (hb2.mono hw1.size);have hz2:=Nat.lt_of_lt_of_le hz1 hb2.size))
 go_ret
 exact⟨ret_n HR.out.symm,hw2⟩
theorem check_up (p:Pd) (ts:List Tr) (a:Option Addr) (cap:Nat) (w:World) (hi:PdI p) (hl:p.nm.length≤9223372036854775807) (h1:nmB p.nm=true) (h2: ¬5<ts.length) (hn:numB p=true) (hu:paceB p.uw p.up p.uc p.ue=false):
  Calls Tryz.prog 17 #[planV p (.slice a ts.length cap)] w fun e w'=>e=.returned (.int .i64 (chkP p ts))∧Below w.heap.size w w':=by
 have c1:=fun w=>isName_any p.nm w hl
 rw [h1]at c1
 have h2': ¬(5:Int)<ts.length:=by omega
 have c2:=fun w=>numbers_any p (.slice a ts.length cap) w hi
 rw [hn]at c2
 have c3:=fun w=>pace_any p.uw p.up p.uc p.ue w
 rw [hu]at c3
 have HR:Hid (chkP p ts=1):=by unfold Hid chkP okP;rw [h1,if_neg (by decide),if_neg h2,hn,hu];rfl
 clear h1 hn hu hi hl
 go_enter Tryz.func17,Tryz.ntmps17
 go_wp2_with (first
  |(with_reducible refine wp_plan hA1 (by with_unfolding_all rfl) ?_)
  |(go_at_call 45;(with_reducible refine(c1 _).mono ?_);rintro e w1 ⟨rfl,hb1⟩;obtain⟨hA1,hz1,hw1⟩:=boxB hb1;have hq:PlAt w1 w.heap.size p (.slice a ts.length cap):=PlAt.of hA1;clear hA1;have hA1:=hq;clear hq;have p17:=hA1.c17)
  |(go_at_call 46;(with_reducible refine(c2 _).mono ?_);rintro e w2 ⟨rfl,hb2⟩;have hw2:Below w.heap.size w w2:=hw1.trans (hb2.mono hw1.size);have hz2:=Nat.lt_of_lt_of_le hz1 hb2.size;have hA2:=hA1.on hb2 hz1;clear p17;have u9:=hA2.c9;have u10:=hA2.c10;have u11:=hA2.c11;have u12:=hA2.c12)
  |(go_at_call 47;(with_reducible refine(c3 w2).mono ?_);rintro e w3 ⟨rfl,hb3⟩;have hw3:Below w.heap.size w w3:=hw2.trans (hb3.mono hw2.size);have hz3:=Nat.lt_of_lt_of_le hz2 hb3.size))
 go_ret
 exact⟨ret_n HR.out.symm,hw3⟩
theorem check_down (p:Pd) (ts:List Tr) (a:Option Addr) (cap:Nat) (w:World) (hi:PdI p) (hl:p.nm.length≤9223372036854775807) (h1:nmB p.nm=true) (h2: ¬5<ts.length) (hn:numB p=true) (hu:paceB p.uw p.up p.uc p.ue=true) (hd:paceB p.dw p.dp p.dc p.de=false):
  Calls Tryz.prog 17 #[planV p (.slice a ts.length cap)] w fun e w'=>e=.returned (.int .i64 (chkP p ts))∧Below w.heap.size w w':=by
 have c1:=fun w=>isName_any p.nm w hl
 rw [h1]at c1
 have h2': ¬(5:Int)<ts.length:=by omega
 have c2:=fun w=>numbers_any p (.slice a ts.length cap) w hi
 rw [hn]at c2
 have c3:=fun w=>pace_any p.uw p.up p.uc p.ue w
 rw [hu]at c3
 have c4:=fun w=>pace_any p.dw p.dp p.dc p.de w
 rw [hd]at c4
 have HR:Hid (chkP p ts=1):=by unfold Hid chkP okP;rw [h1,if_neg (by decide),if_neg h2,hn,hu,hd];rfl
 clear h1 hn hu hd hi hl
 go_enter Tryz.func17,Tryz.ntmps17
 go_wp2_with (first
  |(with_reducible refine wp_plan hA1 (by with_unfolding_all rfl) ?_)
  |(go_at_call 45;(with_reducible refine(c1 _).mono ?_);rintro e w1 ⟨rfl,hb1⟩;obtain⟨hA1,hz1,hw1⟩:=boxB hb1;have hq:PlAt w1 w.heap.size p (.slice a ts.length cap):=PlAt.of hA1;clear hA1;have hA1:=hq;clear hq;have p17:=hA1.c17)
  |(go_at_call 46;(with_reducible refine(c2 _).mono ?_);rintro e w2 ⟨rfl,hb2⟩;have hw2:Below w.heap.size w w2:=hw1.trans (hb2.mono hw1.size);have hz2:=Nat.lt_of_lt_of_le hz1 hb2.size;have hA2:=hA1.on hb2 hz1;clear p17;have u9:=hA2.c9;have u10:=hA2.c10;have u11:=hA2.c11;have u12:=hA2.c12)
  |(go_at_call 47;(with_reducible refine(c3 w2).mono ?_);rintro e w3 ⟨rfl,hb3⟩;have hw3:Below w.heap.size w w3:=hw2.trans (hb3.mono hw2.size);have hz3:=Nat.lt_of_lt_of_le hz2 hb3.size;have hA3:=hA2.on hb3 hz2;clear u9 u10 u11 u12;have d13:=hA3.c13;have d14:=hA3.c14;have d15:=hA3.c15;have d16:=hA3.c16)
  |(go_at_call 47;(with_reducible refine(c4 w3).mono ?_);rintro e w4 ⟨rfl,hb4⟩;have hw4:Below w.heap.size w w4:=hw3.trans (hb4.mono hw3.size);have hz4:=Nat.lt_of_lt_of_le hz3 hb4.size))
 go_ret
 exact⟨ret_n HR.out.symm,hw4⟩
end Pln
namespace Pln
open Go.RowKit Lai Civ Crn

theorem check_good (p:Pd) (ts:List Tr) (a:Option Addr) (cap:Nat) (w:World) (hB:BdsAt w) (hi:PdI p) (hl:p.nm.length≤9223372036854775807) (hT:TrsAt w a ts) (h1:nmB p.nm=true) (h2: ¬5<ts.length) (hn:numB p=true) (hu:paceB p.uw p.up p.uc p.ue=true) (hd:paceB p.dw p.dp p.dc p.de=true):
  Calls Tryz.prog 17 #[planV p (.slice a ts.length cap)] w fun e w'=>e=.returned (.int .i64 (chkP p ts))∧Below w.heap.size w w':=by
 have c1:=fun w=>isName_any p.nm w hl
 rw [h1]at c1
 have h2': ¬(5:Int)<ts.length:=by omega
 have c2:=fun w=>numbers_any p (.slice a ts.length cap) w hi
 rw [hn]at c2
 have c3:=fun w=>pace_any p.uw p.up p.uc p.ue w
 rw [hu]at c3
 have c4:=fun w=>pace_any p.dw p.dp p.dc p.de w
 rw [hd]at c4
 have h3:okP p=true:=by unfold okP;rw [hn,hu,hd];rfl
 have HG:Hid (∀k t,ts[k]?=some t→trB t=false→chkP p ts=1):=fun k t hk ht=>chk_bad h1 h2 h3 hk ht
 have HO:Hid ((∀j t,j<ts.length→ts[j]?=some t→trB t=true)→chkP p ts=0):=fun h=>chk_good h1 h2 h3 h
 clear hn hu hd h1 h3 hi hl
 go_enter Tryz.func17,Tryz.ntmps17
 go_wp2_with (first
  |(with_reducible refine wp_plan hA1 (by with_unfolding_all rfl) ?_)
  |(go_at_call 45;(with_reducible refine(c1 _).mono ?_);rintro e w1 ⟨rfl,hb1⟩;obtain⟨hA1,hz1,hw1⟩:=boxB hb1;have hq:PlAt w1 w.heap.size p (.slice a ts.length cap):=PlAt.of hA1;clear hA1;have hA1:=hq;clear hq;have p17:=hA1.c17)
  |(go_at_call 46;(with_reducible refine(c2 _).mono ?_);rintro e w2 ⟨rfl,hb2⟩;have hw2:Below w.heap.size w w2:=hw1.trans (hb2.mono hw1.size);have hz2:=Nat.lt_of_lt_of_le hz1 hb2.size;have hA2:=hA1.on hb2 hz1;clear p17;have u9:=hA2.c9;have u10:=hA2.c10;have u11:=hA2.c11;have u12:=hA2.c12)
  |(go_at_call 47;(with_reducible refine(c3 w2).mono ?_);rintro e w3 ⟨rfl,hb3⟩;have hw3:Below w.heap.size w w3:=hw2.trans (hb3.mono hw2.size);have hz3:=Nat.lt_of_lt_of_le hz2 hb3.size;have hA3:=hA2.on hb3 hz2;clear u9 u10 u11 u12;have d13:=hA3.c13;have d14:=hA3.c14;have d15:=hA3.c15;have d16:=hA3.c16)
  |(go_at_call 47;(with_reducible refine(c4 w3).mono ?_);rintro e w4 ⟨rfl,hb4⟩;have hw4:Below w.heap.size w w4:=hw3.trans (hb4.mono hw3.size);have hz4:=Nat.lt_of_lt_of_le hz3 hb4.size;have hA4:=hA3.on hb4 hz3;clear d13 d14 d15 d16;have q17:=hA4.c17))
 clear c1 c2 c3 c4 hA1 hA2 hA3 hA4 q17
 go_loopw [32] (fun i wr=>CkR ts w i wr) (fun i _=>ts.length-(intOf i).toNat)
 case atStart=>exact⟨0,Nat.zero_le _,rfl,(fun j x hj=>absurd hj (by omega)),hw4⟩
 case round=>
  clear hb1 hw1 hb2 hw2 hb3 hw3 hb4 hw4 hz1 hz2 hz3 hz4
  obtain⟨k,hk1,rfl,hd0,hbw⟩:=hrel
  have HD:Hid (∀j t,j<k→ts[j]?=some t→trB t=true):=hd0
  clear hd0
  have hBr:=hB.below hbw (Nat.le_refl _)
  by_cases hlt:k<ts.length
  ·have hlt':(k:Int)<ts.length:=by omega
   obtain⟨t,hx⟩: ∃x,ts[k]?=some x:=⟨ts[k],by simp [hlt]⟩
   obtain⟨b,off,rfl,hbl,hA⟩:=(hT.below hbw (Nat.le_refl _)).elem hx
   have HX:Hid (ts[k]?=some t):=hx
   have hN:=TrAt.new wr t 71
   have c6:=fun w hB=>ctrig_any t w hB
   have hB6:=fun o=>hBr.below (balloc o) (Nat.le_refl _)
   clear hx hT
   cases ht:trB t
   ·rw [trE_bad ht]at c6
    have HR:Hid (chkP p ts=1):=HG.out k t HX.out ht
    clear ht HG HO
    go_wp2_with (first
     |(with_reducible refine wp_tr hA (by with_unfolding_all rfl) ?_)
     |(with_reducible refine wp_tr hN (by with_unfolding_all rfl) ?_)
     |(go_at_call 48;(with_reducible refine(c6 _ (hB6 _)).mono ?_);rintro e w6 ⟨rfl,hb6⟩))
    go_ret
    exact⟨ret_n HR.out.symm,hbw.trans ((balloc _).trans (hb6.mono (by simp))|>.mono hbw.size)⟩
   ·rw [trE_ok ht]at c6
    have HR:Hid (trB t=true):=ht
    clear ht HG HO
    go_wp2_with (first
     |(with_reducible refine wp_tr hA (by with_unfolding_all rfl) ?_)
     |(with_reducible refine wp_tr hN (by with_unfolding_all rfl) ?_)
     |(go_at_call 48;(with_reducible refine(c6 _ (hB6 _)).mono ?_);rintro e w6 ⟨rfl,hb6⟩))
    go_roundw
    case rel=>
     refine⟨k+1,by omega,rfl,fun j y hj hy=> ?_,hbw.trans ((balloc _).trans (hb6.mono (by simp))|>.mono hbw.size)⟩
     by_cases e:j=k
     ·subst e;rw [HX.out]at hy;cases hy;exact HR.out
     ·exact HD.out j y (by omega) hy
    case measure=>simp [intOf];omega
  ·obtain rfl:k=ts.length:=by omega
   have HR:Hid (chkP p ts=0):=HO.out HD.out
   clear hT
   go_wp2
   go_ret
   exact⟨ret_n HR.out.symm,hbw⟩
theorem check_any (p:Pd) (ts:List Tr) (a:Option Addr) (cap:Nat) (w:World) (hB:BdsAt w) (hi:PdI p) (hl:p.nm.length≤9223372036854775807) (hT:TrsAt w a ts):
  Calls Tryz.prog 17 #[planV p (.slice a ts.length cap)] w fun e w'=>e=.returned (.int .i64 (chkP p ts))∧Below w.heap.size w w':=by
 cases h1:nmB p.nm
 ·exact check_name p ts a cap w hl h1
 ·by_cases h2:5<ts.length
  ·exact check_many p ts a cap w hl h1 h2
  ·cases hn:numB p
   ·exact check_num p ts a cap w hi hl h1 h2 hn
   ·cases hu:paceB p.uw p.up p.uc p.ue
    ·exact check_up p ts a cap w hi hl h1 h2 hn hu
    ·cases hd:paceB p.dw p.dp p.dc p.de
     ·exact check_down p ts a cap w hi hl h1 h2 hn hu hd
     ·exact check_good p ts a cap w hB hi hl hT h1 h2 hn hu hd
end Pln
namespace Pln
open Go.RowKit Lai Civ Crn

theorem setCells_new (w:World) (ta:TypeId): ∀(cs zs pre:List Value),zs.length=cs.length→(w.alloc (.cells (pre++zs).toArray ta)).setCells w.heap.size pre.length cs=w.alloc (.cells (pre++cs).toArray ta)
 | [],[],pre,_=>rfl
 |v::r,z::zs,pre,h=>by
  have ih:=setCells_new w ta r zs (pre++ [v]) (by simpa using h)
  unfold World.setCells
  rw [World.setCell_alloc_at _ _ _ _ _ rfl]
  have e:(pre++z::zs).toArray.setIfInBounds pre.length v=((pre++ [v])++zs).toArray:=by
   apply Array.ext'
   simp
  rw [show(pre++ [v]).length=pre.length+1 by simp]at ih
  first
   |(rw [e,ih];simp)
   |(simp only [e];rw [ih];simp)
 | [],z::zs,pre,h=>by simp at h
 |v::r,[],pre,h=>by simp at h
def trZ:List Value:=[.int .i64 0,.int .i64 0,.int .i64 0,.int .u64 0,.int .u64 0,.int .u64 0,.int .u64 0,.int .u64 0,.bool false,.bool false,.int .u64 0,.int .u64 0,.int .u64 0,.int .u64 0,.int .u64 0,.bool false,.bool false]
theorem there_new (w:World) (A:Array Value) (ta:TypeId):(w.alloc (.cells A ta)).there w.heap.size 0 A.size:=by
 intro j hj
 rw [Nat.zero_add]
 refine⟨?_,by simp⟩
 rw [World.cell?_alloc_at _ _ _ _ rfl]
 simp [hj]
theorem wp_newTr {ops:Array Oper} {rest:List Oper} {x y:Operand} {ps:String} {af:Array Edge} {A:Act} {Q:Exit→Act→World→Prop} {w:World} {t:Tr} (_:TrAt (w.alloc (.cells (trC t) 71)) w.heap.size 0 t) (hx:A.eval x=.pointer (some ⟨w.heap.size,0,none⟩)) (hy:A.eval y=trV t)
  (g:wpList Tryz.prog ops Q rest (A.put none undef) (w.alloc (.cells (trC t) 71))):
  wpList Tryz.prog ops Q ({ dst:=none,op:=.store 71 x y,type:=0,pos:=ps,after:=af,guard:=none } ::rest) A (w.alloc (.cells #[.int .i64 0,.int .i64 0,.int .i64 0,.int .u64 0,.int .u64 0,.int .u64 0,.int .u64 0,.int .u64 0,.bool false,.bool false,.int .u64 0,.int .u64 0,.int .u64 0,.int .u64 0,.int .u64 0,.bool false,.bool false] 71)):=by
 have e:=setCells_new w 71 (trC t).toList trZ [] (by rfl)
 refine wpList_store_mid rfl 71 x y rfl w.heap.size 0 (trC t) hx hy (there_new w _ _) (by kernel_rfl) (by simp [Value.oneCell']) ?_
 have e2:(w.alloc (.cells #[.int .i64 0,.int .i64 0,.int .i64 0,.int .u64 0,.int .u64 0,.int .u64 0,.int .u64 0,.int .u64 0,.bool false,.bool false,.int .u64 0,.int .u64 0,.int .u64 0,.int .u64 0,.int .u64 0,.bool false,.bool false] 71)).setCells w.heap.size 0 (trC t).toList=w.alloc (.cells (trC t) 71):=e
 rw [e2]
 exact g
end Pln
end Go.Proofs.YtddabkmppobcdaaGreatDoor
