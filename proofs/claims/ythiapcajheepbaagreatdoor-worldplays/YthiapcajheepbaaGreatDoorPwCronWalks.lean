/- A part. -/
import Derived.Test.YthiapcajheepbaaGreatDoorPwLaid
import Derived.Test.YthiapcajheepbaaGreatDoorPwCronPlain
import Derived.Test.YthiapcajheepbaaGreatDoorPwNumWalks
set_option linter.all false
open Go.Proofs.Tryz
set_option maxHeartbeats 32000000
set_option maxRecDepth 8000
namespace Go.Proofs.YthiapcajheepbaaGreatDoor
namespace Crn
open Go.RowKit Lai Civ

theorem has_any (s n:Int) (w:World) (h0:0≤s∧s≤18446744073709551615) (hn: -9223372036854775808≤n∧n≤9223372036854775807):
    CS 213 #[.int .u64 s,.int .i64 n] w (.bool (inS s n)):=by
  by_cases g:0≤n∧n≤63
  · have ha:=and1 s n h0.1 h0.2 g.1 g.2
    cases hi:inS s n<;>rw [hi]at ha<;>simp only [XU,if_false,if_true]at ha<;>clear hi
    all_goals
      go_enter func213,ntmps213;go_wp2
      all_goals
        go_ret;first|omega|(refine⟨ret_bool ?_,rfl⟩;simp)
  · have hi:inS s n=false:=by
      unfold inS;by_cases g0:0≤n
      · rw [decide_eq_false (show¬n≤63 by omega)];simp
      · rw [decide_eq_false g0];rfl
    rw [hi];clear hi;go_enter func213,ntmps213;go_wp2
    all_goals
      go_ret;first|(exfalso;omega)|(refine⟨ret_bool ?_,rfl⟩;simp<;>omega)

theorem pow_mono (a b:Nat) (h:a≤b):(2:Int)^a≤2^b:=by
  have:=Yd (show 0<2 by omega) h;exact_mod_cast this
theorem wrap_pow (n:Nat) (h:n≤63):IntKind.u64.wrap ((2:Int)^n)=2^n:=by
  have h1:=pow_mono n 63 h;have h0:(0:Int)≤2^n:=by exact_mod_cast Xx (2^n)
  rw [Yj];omega

theorem all_any (l m v:Int) (w:World) (hl:0≤l∧l≤m) (hm:m≤62) (hv:2^(m+1).toNat-2^l.toNat=v):
    CB 175 #[.agg #[.int .i64 l,.int .i64 m]] w (.int .u64 v):=by
  have e1:=wrap_pow (m+1).toNat (by omega);have e2:=wrap_pow l.toNat (by omega);have e3:IntKind.u64.wrap (2^(m+1).toNat-2^l.toNat)=v:=by
    have h1:=pow_mono (m+1).toNat 63 (by omega);have h2:=pow_mono l.toNat (m+1).toNat (by omega);have h3:(0:Int)≤2^l.toNat:=by exact_mod_cast Xx (2^l.toNat)
    rw [Yj];omega
  clear hv;go_enter func175,ntmps175;go_wp2;go_region
  all_goals
    go_wp2;go_ret;exact⟨ret_int (by first|rfl|assumption|(rw [e1,e2];exact e3)),((Below.refl _ _).alloc (Xa _) _).drew⟩

theorem all_min (w:World):CB 175 #[.agg #[.int .i64 0,.int .i64 59]] w (.int .u64 1152921504606846975):=
  all_any 0 59 1152921504606846975 w (by omega) (by omega) (by rfl)
theorem all_hour (w:World):CB 175 #[.agg #[.int .i64 0,.int .i64 23]] w (.int .u64 16777215):=
  all_any 0 23 16777215 w (by omega) (by omega) (by rfl)
theorem all_day (w:World):CB 175 #[.agg #[.int .i64 1,.int .i64 31]] w (.int .u64 4294967294):=
  all_any 1 31 4294967294 w (by omega) (by omega) (by rfl)
theorem all_mon (w:World):CB 175 #[.agg #[.int .i64 1,.int .i64 12]] w (.int .u64 8190):=
  all_any 1 12 8190 w (by omega) (by omega) (by rfl)
theorem all_week (w:World):CB 175 #[.agg #[.int .i64 0,.int .i64 6]] w (.int .u64 127):=
  all_any 0 6 127 w (by omega) (by omega) (by rfl)

theorem sets_any (mi ho da mo we:Int) (ad aw:Bool) (w:World):
    CB 174 #[cronV mi ho da mo we ad aw] w (.agg #[.int .u64 mi,.int .u64 ho,.int .u64 da,.int .u64 mo,.int .u64 we]):=by
  go_enter func174,ntmps174;go_wp2;refine bodyPost_ret (v:=.agg #[.int .u64 mi,.int .u64 ho,.int .u64 da,.int .u64 mo,.int .u64 we]) (by simp [results,results174,go_sem]) rfl ⟨rfl,?_⟩;exact((Below.refl _ _).alloc (Xa _) _).alloc (by simp) _
set_option maxRecDepth 20000 in
theorem check_any (mi ho da mo we:Int) (ad aw:Bool) (w:World) (hB:BdsAt w):
    CB 162 #[cronV mi ho da mo we ad aw] w (.int .i64 (chkE mi ho da mo we ad aw)):=by
  go_enter func162,ntmps162;go_wp2_with(go_at_call 174;with_reducible refine(sets_any _ _ _ _ _ _ _ _).mono ?_;rintro e w1 ⟨rfl,hb1⟩)
  have hz1:=hb1.size;have hw1:Below w.heap.size w w1:=(((Below.refl _ _).alloc (Xa _) _).alloc (by simp) _).trans (hb1.mono (by simp;omega));have hm1: ∀j v,(#[Value.bool false,.bool false,.bool ad,.bool false,.bool aw])[j]? =some v→w1.cell? ⟨w.heap.size+1,j,none⟩=some v:=by
    intro j v hj;rw [hb1.cell (p:=⟨w.heap.size+1,j,none⟩) (by simp)];simpa using hj
  go_loopw [14] (fun i wr=> ∃k:Nat,k≤5∧i=.int .i64 k∧(∀j,j<k→okK mi ho da mo we ad aw j=true)∧Below w1.heap.size w1 wr) (fun i _=>5-(intOf i).toNat)
  case atStart=>exact⟨0,by omega,rfl,fun j hj=>absurd hj (by omega),Below.refl _ _⟩
  case round=>
    obtain⟨k,hk,rfl,hp,hbr⟩:=hrel;have hBr:BdsAt wr:=(hB.below hw1 (Xa _)).below hbr (Xa _);have hm: ∀j v,(#[Value.bool false,.bool false,.bool ad,.bool false,.bool aw])[j]? =some v→wr.cell? ⟨w.heap.size+1,j,none⟩=some v:=by
      intro j v hj;rw [hbr.cell (p:=⟨w.heap.size+1,j,none⟩) (by simp at hz1;show w.heap.size+1<_;omega)];exact hm1 j v hj
    have hlt:w.heap.size+1<wr.heap.size:=by have:=hbr.size;simp at hz1;omega
    clear hm1 hB;have HP:=zh hp;clear hp hz1;obtain rfl|rfl|rfl|rfl|rfl|rfl:k=0∨k=1∨k=2∨k=3∨k=4∨k=5:=by omega
    · have c0:wr.cell? ⟨0,0,none⟩=some (.int .i64 0):=hBr 0 (by decide)
      have c1:wr.cell? ⟨0,1,none⟩=some (.int .i64 59):=hBr 1 (by decide);have cm:wr.cell? ⟨w.heap.size+1,0,none⟩=some (.bool false):=hm 0 _ rfl;have hi: ∀u,(Instr.index 214 (.agg #[.int .u64 mi,.int .u64 ho,.int .u64 da,.int .u64 mo,.int .u64 we]) (.int .i64 0)).run prog u=.ok (.int .u64 mi) u:=fun _=>by kernel_rfl
      clear hBr hm;go_wp2_with(go_at_call 175;with_reducible refine(all_min _).mono ?_;rintro e w2 ⟨rfl,hb2⟩;have cm2:=(zk cm hb2))
      all_goals first
        |(go_ret;exact⟨ret_int (chkE_bad 0 (by simp_all [okK,okB,fMin])),(hw1.trans ((zu hbr hb2).mono (by have:=hb1.size;simp at this;omega)))⟩)
        | (go_roundw
           case rel=>exact⟨1,by omega,rfl,ok_step HP (by simp_all [okK,okB,fMin]),(zu hbr hb2)⟩
           case measure=>simp [intOf])
    · have c0:wr.cell? ⟨0,2,none⟩=some (.int .i64 0):=hBr 2 (by decide)
      have c1:wr.cell? ⟨0,3,none⟩=some (.int .i64 23):=hBr 3 (by decide);have cm:wr.cell? ⟨w.heap.size+1,1,none⟩=some (.bool false):=hm 1 _ rfl;have hi: ∀u,(Instr.index 214 (.agg #[.int .u64 mi,.int .u64 ho,.int .u64 da,.int .u64 mo,.int .u64 we]) (.int .i64 1)).run prog u=.ok (.int .u64 ho) u:=fun _=>by kernel_rfl
      clear hBr hm;go_wp2_with(go_at_call 175;with_reducible refine(all_hour _).mono ?_;rintro e w2 ⟨rfl,hb2⟩;have cm2:=(zk cm hb2))
      all_goals first
        |(go_ret;exact⟨ret_int (chkE_bad 1 (by simp_all [okK,okB,fHour])),(hw1.trans ((zu hbr hb2).mono (by have:=hb1.size;simp at this;omega)))⟩)
        | (go_roundw
           case rel=>exact⟨2,by omega,rfl,ok_step HP (by simp_all [okK,okB,fHour]),(zu hbr hb2)⟩
           case measure=>simp [intOf])
    · have c0:wr.cell? ⟨0,4,none⟩=some (.int .i64 1):=hBr 4 (by decide)
      have c1:wr.cell? ⟨0,5,none⟩=some (.int .i64 31):=hBr 5 (by decide);have cm:wr.cell? ⟨w.heap.size+1,2,none⟩=some (.bool ad):=hm 2 _ rfl;have hi: ∀u,(Instr.index 214 (.agg #[.int .u64 mi,.int .u64 ho,.int .u64 da,.int .u64 mo,.int .u64 we]) (.int .i64 2)).run prog u=.ok (.int .u64 da) u:=fun _=>by kernel_rfl
      clear hBr hm;cases ad
      all_goals
        go_wp2_with(go_at_call 175;with_reducible refine(all_day _).mono ?_;rintro e w2 ⟨rfl,hb2⟩;have cm2:=(zk cm hb2))
        all_goals first
          |(go_ret;exact⟨ret_int (chkE_bad 2 (by simp_all [okK,okB,fDay])),(hw1.trans ((zu hbr hb2).mono (by have:=hb1.size;simp at this;omega)))⟩)
          | (go_roundw
             case rel=>exact⟨3,by omega,rfl,ok_step HP (by simp_all [okK,okB,fDay]),(zu hbr hb2)⟩
             case measure=>simp [intOf])
    · have c0:wr.cell? ⟨0,6,none⟩=some (.int .i64 1):=hBr 6 (by decide)
      have c1:wr.cell? ⟨0,7,none⟩=some (.int .i64 12):=hBr 7 (by decide);have cm:wr.cell? ⟨w.heap.size+1,3,none⟩=some (.bool false):=hm 3 _ rfl;have hi: ∀u,(Instr.index 214 (.agg #[.int .u64 mi,.int .u64 ho,.int .u64 da,.int .u64 mo,.int .u64 we]) (.int .i64 3)).run prog u=.ok (.int .u64 mo) u:=fun _=>by kernel_rfl
      clear hBr hm;go_wp2_with(go_at_call 175;with_reducible refine(all_mon _).mono ?_;rintro e w2 ⟨rfl,hb2⟩;have cm2:=(zk cm hb2))
      all_goals first
        |(go_ret;exact⟨ret_int (chkE_bad 3 (by simp_all [okK,okB,fMon])),(hw1.trans ((zu hbr hb2).mono (by have:=hb1.size;simp at this;omega)))⟩)
        | (go_roundw
           case rel=>exact⟨4,by omega,rfl,ok_step HP (by simp_all [okK,okB,fMon]),(zu hbr hb2)⟩
           case measure=>simp [intOf])
    · have c0:wr.cell? ⟨0,8,none⟩=some (.int .i64 0):=hBr 8 (by decide)
      have c1:wr.cell? ⟨0,9,none⟩=some (.int .i64 6):=hBr 9 (by decide);have cm:wr.cell? ⟨w.heap.size+1,4,none⟩=some (.bool aw):=hm 4 _ rfl;have hi: ∀u,(Instr.index 214 (.agg #[.int .u64 mi,.int .u64 ho,.int .u64 da,.int .u64 mo,.int .u64 we]) (.int .i64 4)).run prog u=.ok (.int .u64 we) u:=fun _=>by kernel_rfl
      clear hBr hm;cases aw
      all_goals
        go_wp2_with(go_at_call 175;with_reducible refine(all_week _).mono ?_;rintro e w2 ⟨rfl,hb2⟩;have cm2:=(zk cm hb2))
        all_goals first
          |(go_ret;exact⟨ret_int (chkE_bad 4 (by simp_all [okK,okB,fWeek])),(hw1.trans ((zu hbr hb2).mono (by have:=hb1.size;simp at this;omega)))⟩)
          | (go_roundw
             case rel=>exact⟨5,by omega,rfl,ok_step HP (by simp_all [okK,okB,fWeek]),(zu hbr hb2)⟩
             case measure=>simp [intOf])
    · clear hBr hm
      go_wp2;go_ret;exact⟨ret_int (chkE_good HP),hw1.trans (hbr.mono (by have:=hb1.size;simp at this;omega))⟩


theorem bdrewN {n:Nat} {a b:World} (h:Below n a b): ∀k,Below n a (b.drewN k)
 |0=>h
 |k+1=>(bdrewN h k).drew

theorem either_any (mi ho da mo we:Int) (ad aw:Bool) (w:World):
  CB 214 #[cronV mi ho da mo we ad aw] w (.bool (!ad&& !aw)):=by
 cases ad<;>cases aw
 all_goals
  go_enter func214,ntmps214;go_wp2;go_ret;exact⟨rfl,(Below.refl _ _).alloc (Xa _) _⟩

set_option maxRecDepth 20000 in
theorem day_any (mi ho da mo we:Int) (ad aw:Bool) (y m d h i s k:Int) (w:World) (b2:U da) (b3:U mo) (b4:U we) (bm:I m) (bd:I d) (bk:I k):
  CB 206 #[cronV mi ho da mo we ad aw,civ y m d h i s k] w (.bool (dayB da mo we ad aw m d k)):=by
 unfold dayB;cases h1:inS da d<;>cases h2:inS we k<;>cases h3:inS mo m<;>cases h4:(!ad&& !aw)
 all_goals
  have c1:=has_any da d (h0:=b2) (hn:=bd);have c2:=has_any we k (h0:=b4) (hn:=bk);have c3:=has_any mo m (h0:=b3) (hn:=bm);have c4:=either_any mi ho da mo we ad aw;rw [h1]at c1;rw [h2]at c2;rw [h3]at c3;rw [h4]at c4;clear h1 h2 h3 h4;go_enter func206,ntmps206;go_wp2;go_quiet (first|(go_at_call 213;with_reducible refine Calls.quiet_of_same (c1 _))|(go_at_call 213;with_reducible refine Calls.quiet_of_same (c2 _)))
  go_wp2_with (first
   |(go_at_call 213;with_reducible refine(c3 _).mono ?_;rintro e w1 ⟨rfl,rfl⟩)
   |(go_at_call 214;with_reducible refine(c4 _).mono ?_;rintro e w1 ⟨rfl,hb1⟩))
  go_ret
  first
   |exact⟨rfl,bdrewN (((Below.refl _ _).alloc (Xa _) _).alloc (by simp) _) _⟩
   |exact⟨rfl,(bdrewN (((Below.refl _ _).alloc (Xa _) _).alloc (by simp) _) _).trans (hb1.mono (by simp;omega))⟩

theorem check_no (mi ho da mo we:Int) (ad aw:Bool) (w:World) (hB:BdsAt w) (h:chkB mi ho da mo we ad aw=false):
  CB 162 #[cronV mi ho da mo we ad aw] w (.int .i64 1):=by
 have:=check_any mi ho da mo we ad aw w hB;rwa [show chkE mi ho da mo we ad aw=1 by unfold chkE;rw [h];rfl]at this
theorem check_yes (mi ho da mo we:Int) (ad aw:Bool) (w:World) (hB:BdsAt w) (h:chkB mi ho da mo we ad aw=true):
  CB 162 #[cronV mi ho da mo we ad aw] w (.int .i64 0):=by
 have:=check_any mi ho da mo we ad aw w hB;rwa [show chkE mi ho da mo we ad aw=0 by unfold chkE;rw [h];rfl]at this

theorem balloc {w:World} (o:Obj):Below w.heap.size w (w.alloc o):=(Below.refl _ _).alloc (Xa _) _
theorem balloc2 {w:World} (o p:Obj):Below w.heap.size w ((w.alloc o).alloc p):=((Below.refl _ _).alloc (Xa _) _).alloc (by simp) _
theorem ballocs {w w1:World} {o p:Obj} (h:Below ((w.alloc o).alloc p).heap.size ((w.alloc o).alloc p) w1):Below w.heap.size w w1:=(balloc2 o p).trans (h.mono (by simp;omega))


section
variable (a b : K) (w : World)
theorem scheck_yes (hB:BdsAt w) (ha:kc a=true) (hb:kc b=true):
  CB 134 #[spanV a b] w (.int .i64 0):=by
 have c1:=fun w hB=>check_yes a.mi a.ho a.da a.mn a.we a.ad a.aw w hB ha;have c2:=fun w hB=>check_yes b.mi b.ho b.da b.mn b.we b.ad b.aw w hB hb;clear ha hb;go_enter func134,ntmps134
 go_wp2_with (first
  |(go_at_call 162;(with_reducible refine zg (c1 _ (hB.below (balloc _) (Xa _))) fun w1 hb1=>?_);have hB1:BdsAt w1:=(hB.below (balloc _) (Xa _)).below hb1 (Xa _);have hw1:Hid (Below w.heap.size w w1):=(balloc _).trans (hb1.mono (by simp));obtain⟨hc1,hf1⟩:=bcell hb1)
  |(go_at_call 162;(with_reducible refine zg (c2 _ hB1) fun w2 hb2=>?_)))
 go_ret;exact⟨rfl,bstep hw1 hb2⟩
theorem scheck_no (hB:BdsAt w) (h:kc a=false∨kc b=false):
  CB 134 #[spanV a b] w (.int .i64 1):=by
 cases ha:kc a
 ·have c1:=fun w hB=>check_no a.mi a.ho a.da a.mn a.we a.ad a.aw w hB ha;clear h ha;go_enter func134,ntmps134
  go_wp2_with (first
   |(go_at_call 162;(with_reducible refine zg (c1 _ (hB.below (balloc _) (Xa _))) fun w1 hb1=>?_);have hw1:Hid (Below w.heap.size w w1):=(balloc _).trans (hb1.mono (by simp))))
  go_ret;exact⟨rfl,hw1⟩
 ·have hb:kc b=false:=by rcases h with h|h;(rw [ha]at h;cases h);exact h
  have c1:=fun w hB=>check_yes a.mi a.ho a.da a.mn a.we a.ad a.aw w hB ha;have c2:=fun w hB=>check_no b.mi b.ho b.da b.mn b.we b.ad b.aw w hB hb;clear ha hb h;go_enter func134,ntmps134
  go_wp2_with (first
   |(go_at_call 162;(with_reducible refine zg (c1 _ (hB.below (balloc _) (Xa _))) fun w1 hb1=>?_);have hB1:BdsAt w1:=(hB.below (balloc _) (Xa _)).below hb1 (Xa _);have hw1:Hid (Below w.heap.size w w1):=(balloc _).trans (hb1.mono (by simp));obtain⟨hc1,hf1⟩:=bcell hb1)
   |(go_at_call 162;(with_reducible refine zg (c2 _ hB1) fun w2 hb2=>?_)))
  go_ret;exact⟨rfl,bstep hw1 hb2⟩
end
end Crn
namespace RCrn
open Go.RowKit Lai Civ Cal Crn RCiv

theorem odd_in (s n:Int) (h0:0≤s) (hn:0≤n∧n≤63):(s/2^n.toNat%2==1)=inS s n:=by
 obtain⟨S,rfl⟩:=Xh h0;obtain⟨N,rfl⟩:=Xh hn.1;rw [inS_nat,decide_eq_true (show N≤63 by omega),XJ,Nat.testBit_eq_decide_div_mod_eq,XI];rw [show((S:Int)/2^N)=((S/2^N:Nat):Int) by simp,Bool.eq_iff_iff];simp only [beq_iff_eq,decide_eq_true_eq];omega
theorem rhas_any (s n:Int) (w:World) (h0:0≤s∧s≤18446744073709551615):
  CS 105 #[.int .u64 s,.int .i64 n] w (.bool (inS s n)):=by
 by_cases g:0≤n∧n≤63
 ·have hI:inB n 0 63=true:=(in_iff _ _ _).2 g;have HO:Hid ((s/2^n.toNat%2==1)=inS s n):=odd_in s n h0.1 g;have hq0:0≤s/2^n.toNat:=Int.ediv_nonneg h0.1 (by exact Int.le_of_lt (Int.pow_pos (by omega)));have c:=fun w=>in_any n 0 63 w;rw [hI]at c;clear hI;go_enter func105,ntmps105;go_wp2_with(go_at_call 6;(with_reducible refine(c _).mono ?_);rintro e w' ⟨rfl,rfl⟩)
  go_ret;exact⟨ret_bool HO.out,rfl⟩
 ·have hI:inB n 0 63=false:=by cases h:inB n 0 63;rfl;exact absurd ((in_iff _ _ _).1 h) g
  have HO:Hid (inS s n=false):=by
   unfold Hid;by_cases g2:n<0
   ·exact inS_neg _ _ g2
   ·exact inS_big _ _ (by omega)
  have c:=fun w=>in_any n 0 63 w;rw [hI]at c;clear hI;go_enter func105,ntmps105;go_wp2_with(go_at_call 6;(with_reducible refine(c _).mono ?_);rintro e w' ⟨rfl,rfl⟩)
  go_ret;exact⟨ret_bool HO.out.symm,rfl⟩

theorem rm_eq (D W H M N ad aw:Bool):(N&&((D&&W)||((!ad&& !aw)&&(D||W)))&&(H&&M))=(((if(!ad&& !aw)=true then D||W else D&&W)&&M)&&H&&N):=by
 revert D W H M N ad aw;decide

theorem rmatch_any (mi ho da mo we:Int) (ad aw:Bool) (y m d h i s k:Int) (w:World) (b0:U mi) (b1:U ho) (b2:U da) (b3:U mo) (b4:U we):
  CB 191 #[cronV mi ho da mo we ad aw,civ y m d h i s k] w (.bool (mtB mi ho da mo we ad aw m d h i k)):=by
 have c1:=fun w=>rhas_any da d w b2;have c2:=fun w=>rhas_any we k w b4;have c3:=fun w=>rhas_any mi i w b0;have c4:=fun w=>rhas_any ho h w b1;have c5:=fun w=>rhas_any mo m w b3;have HR:Hid (mtB mi ho da mo we ad aw m d h i k=(((if(!ad&& !aw)=true then inS da d||inS we k else inS da d&&inS we k)&&inS mi i)&&inS ho h&&inS mo m)):=rm_eq _ _ _ _ _ _ _;generalize mtB mi ho da mo we ad aw m d h i k=R at HR;generalize inS da d=D at c1 HR;generalize inS we k=W at c2 HR;generalize inS mi i=M at c3 HR;generalize inS ho h=H at c4 HR;generalize inS mo m=N at c5 HR;clear b0 b1 b2 b3 b4;cases D<;>cases W<;>cases ad<;>cases aw
 all_goals
  go_enter func191,ntmps191;go_wp2;go_quiet (first|(go_at_call 105;with_reducible refine Calls.quiet_of_same (c1 _))|(go_at_call 105;with_reducible refine Calls.quiet_of_same (c2 _)))
  go_wp2_with (first
   |(go_at_call 105;(with_reducible refine(c3 _).mono ?_);rintro e w1 ⟨rfl,rfl⟩;cases M)
   |(go_at_call 105;(with_reducible refine(c4 _).mono ?_);rintro e w1 ⟨rfl,rfl⟩;cases H)
   |(go_at_call 105;(with_reducible refine(c5 _).mono ?_);rintro e w1 ⟨rfl,rfl⟩))
  all_goals
   go_ret;exact⟨ret_bool (by have h:=HR.out;revert h;cases N<;>cases R<;>simp),bdrewN (((Below.refl _ _).alloc (Xa _) _).alloc (by simp) _) _⟩
