/- A part. -/
import Derived.Test.YtaekecgbdegemaaGreatDoorPtLaid
import Derived.Test.YtaekecgbdegemaaGreatDoorPtCronPlain
import Derived.Test.YtaekecgbdegemaaGreatDoorPtCivilWalks
set_option linter.all false
open Go.Proofs.Tryz
set_option maxHeartbeats 32000000
set_option maxRecDepth 8000
namespace Go.Proofs.YtaekecgbdegemaaGreatDoor
namespace Crn
open Go.RowKit Lai Civ

theorem has_any (s n:Int) (w:World) (h0:0≤s∧s≤18446744073709551615) (hn: -9223372036854775808≤n∧n≤9223372036854775807):
    CS 128 #[.int .u64 s,.int .i64 n] w (.bool (inS s n)):=by
  by_cases g:0≤n∧n≤63
  · have ha:=and1 s n h0.1 h0.2 g.1 g.2
    cases hi:inS s n<;>rw [hi]at ha<;>simp only [XU,if_false,if_true]at ha<;>clear hi
    all_goals
      go_enter func128,ntmps128;go_wp2
      all_goals
        go_ret;first|omega|(refine⟨ret_bool ?_,rfl⟩;simp)
  · have hi:inS s n=false:=by
      unfold inS;by_cases g0:0≤n
      · rw [decide_eq_false (show¬n≤63 by omega)];simp
      · rw [decide_eq_false g0];rfl
    rw [hi];clear hi;go_enter func128,ntmps128;go_wp2
    all_goals
      go_ret;first|(exfalso;omega)|(refine⟨ret_bool ?_,rfl⟩;simp<;>omega)

theorem pow_mono (a b:Nat) (h:a≤b):(2:Int)^a≤2^b:=by
  have:=Yd (show 0<2 by omega) h;exact_mod_cast this
theorem wrap_pow (n:Nat) (h:n≤63):IntKind.u64.wrap ((2:Int)^n)=2^n:=by
  have h1:=pow_mono n 63 h;have h0:(0:Int)≤2^n:=by exact_mod_cast Xx (2^n)
  rw [Yj];omega

theorem all_any (l m v:Int) (w:World) (hl:0≤l∧l≤m) (hm:m≤62) (hv:2^(m+1).toNat-2^l.toNat=v):
    CB 174 #[.agg #[.int .i64 l,.int .i64 m]] w (.int .u64 v):=by
  have e1:=wrap_pow (m+1).toNat (by omega);have e2:=wrap_pow l.toNat (by omega);have e3:IntKind.u64.wrap (2^(m+1).toNat-2^l.toNat)=v:=by
    have h1:=pow_mono (m+1).toNat 63 (by omega);have h2:=pow_mono l.toNat (m+1).toNat (by omega);have h3:(0:Int)≤2^l.toNat:=by exact_mod_cast Xx (2^l.toNat)
    rw [Yj];omega
  clear hv;go_enter func174,ntmps174;go_wp2;go_region
  all_goals
    go_wp2;go_ret;exact⟨ret_int (by first|rfl|assumption|(rw [e1,e2];exact e3)),((Below.refl _ _).alloc (Xa _) _).drew⟩

theorem all_min (w:World):CB 174 #[.agg #[.int .i64 0,.int .i64 59]] w (.int .u64 1152921504606846975):=
  all_any 0 59 1152921504606846975 w (by omega) (by omega) (by rfl)
theorem all_hour (w:World):CB 174 #[.agg #[.int .i64 0,.int .i64 23]] w (.int .u64 16777215):=
  all_any 0 23 16777215 w (by omega) (by omega) (by rfl)
theorem all_day (w:World):CB 174 #[.agg #[.int .i64 1,.int .i64 31]] w (.int .u64 4294967294):=
  all_any 1 31 4294967294 w (by omega) (by omega) (by rfl)
theorem all_mon (w:World):CB 174 #[.agg #[.int .i64 1,.int .i64 12]] w (.int .u64 8190):=
  all_any 1 12 8190 w (by omega) (by omega) (by rfl)
theorem all_week (w:World):CB 174 #[.agg #[.int .i64 0,.int .i64 6]] w (.int .u64 127):=
  all_any 0 6 127 w (by omega) (by omega) (by rfl)

theorem sets_any (mi ho da mo we:Int) (ad aw:Bool) (w:World):
    CB 173 #[cronV mi ho da mo we ad aw] w (.agg #[.int .u64 mi,.int .u64 ho,.int .u64 da,.int .u64 mo,.int .u64 we]):=by
  go_enter func173,ntmps173;go_wp2;refine bodyPost_ret (v:=.agg #[.int .u64 mi,.int .u64 ho,.int .u64 da,.int .u64 mo,.int .u64 we]) (by simp [results,results173,go_sem]) rfl ⟨rfl,?_⟩;exact((Below.refl _ _).alloc (Xa _) _).alloc (by simp) _
set_option maxRecDepth 20000 in
theorem check_any (mi ho da mo we:Int) (ad aw:Bool) (w:World) (hB:BdsAt w):
    CB 126 #[cronV mi ho da mo we ad aw] w (.int .i64 (chkE mi ho da mo we ad aw)):=by
  go_enter func126,ntmps126;go_wp2_with(go_at_call 173;with_reducible refine(sets_any _ _ _ _ _ _ _ _).mono ?_;rintro e w1 ⟨rfl,hb1⟩)
  have hz1:=hb1.size;have hw1:Below w.heap.size w w1:=(((Below.refl _ _).alloc (Xa _) _).alloc (by simp) _).trans (hb1.mono (by simp;omega));have hm1: ∀j v,(#[Value.bool false,.bool false,.bool ad,.bool false,.bool aw])[j]? =some v→w1.cell? ⟨w.heap.size+1,j,none⟩=some v:=by
    intro j v hj;rw [hb1.cell (p:=⟨w.heap.size+1,j,none⟩) (by simp)];simpa using hj
  go_loopw [14] (fun i wr=> ∃k:Nat,k≤5∧i=.int .i64 k∧(∀j,j<k→okK mi ho da mo we ad aw j=true)∧Below w1.heap.size w1 wr) (fun i _=>5-(intOf i).toNat)
  case atStart=>exact⟨0,by omega,rfl,fun j hj=>absurd hj (by omega),Below.refl _ _⟩
  case round=>
    obtain⟨k,hk,rfl,hp,hbr⟩:=hrel;have hBr:BdsAt wr:=(hB.below hw1 (Xa _)).below hbr (Xa _);have hm: ∀j v,(#[Value.bool false,.bool false,.bool ad,.bool false,.bool aw])[j]? =some v→wr.cell? ⟨w.heap.size+1,j,none⟩=some v:=by
      intro j v hj;rw [hbr.cell (p:=⟨w.heap.size+1,j,none⟩) (by simp at hz1;show w.heap.size+1<_;omega)];exact hm1 j v hj
    have hlt:w.heap.size+1<wr.heap.size:=by have:=hbr.size;simp at hz1;omega
    clear hm1 hB;have HP:=zh hp;clear hp hz1;obtain rfl|rfl|rfl|rfl|rfl|rfl:k=0∨k=1∨k=2∨k=3∨k=4∨k=5:=by omega
    · have c0:wr.cell? ⟨2,0,none⟩=some (.int .i64 0):=hBr 0 (by decide)
      have c1:wr.cell? ⟨2,1,none⟩=some (.int .i64 59):=hBr 1 (by decide);have cm:wr.cell? ⟨w.heap.size+1,0,none⟩=some (.bool false):=hm 0 _ rfl;have hi: ∀u,(Instr.index 151 (.agg #[.int .u64 mi,.int .u64 ho,.int .u64 da,.int .u64 mo,.int .u64 we]) (.int .i64 0)).run prog u=.ok (.int .u64 mi) u:=fun _=>by kernel_rfl
      clear hBr hm;go_wp2_with(go_at_call 174;with_reducible refine(all_min _).mono ?_;rintro e w2 ⟨rfl,hb2⟩;have cm2:=(zk cm hb2))
      all_goals first
        |(go_ret;exact⟨ret_int (chkE_bad 0 (by simp_all [okK,okB,fMin])),(hw1.trans ((zu hbr hb2).mono (by have:=hb1.size;simp at this;omega)))⟩)
        | (go_roundw
           case rel=>exact⟨1,by omega,rfl,ok_step HP (by simp_all [okK,okB,fMin]),(zu hbr hb2)⟩
           case measure=>simp [intOf])
    · have c0:wr.cell? ⟨2,2,none⟩=some (.int .i64 0):=hBr 2 (by decide)
      have c1:wr.cell? ⟨2,3,none⟩=some (.int .i64 23):=hBr 3 (by decide);have cm:wr.cell? ⟨w.heap.size+1,1,none⟩=some (.bool false):=hm 1 _ rfl;have hi: ∀u,(Instr.index 151 (.agg #[.int .u64 mi,.int .u64 ho,.int .u64 da,.int .u64 mo,.int .u64 we]) (.int .i64 1)).run prog u=.ok (.int .u64 ho) u:=fun _=>by kernel_rfl
      clear hBr hm;go_wp2_with(go_at_call 174;with_reducible refine(all_hour _).mono ?_;rintro e w2 ⟨rfl,hb2⟩;have cm2:=(zk cm hb2))
      all_goals first
        |(go_ret;exact⟨ret_int (chkE_bad 1 (by simp_all [okK,okB,fHour])),(hw1.trans ((zu hbr hb2).mono (by have:=hb1.size;simp at this;omega)))⟩)
        | (go_roundw
           case rel=>exact⟨2,by omega,rfl,ok_step HP (by simp_all [okK,okB,fHour]),(zu hbr hb2)⟩
           case measure=>simp [intOf])
    · have c0:wr.cell? ⟨2,4,none⟩=some (.int .i64 1):=hBr 4 (by decide)
      have c1:wr.cell? ⟨2,5,none⟩=some (.int .i64 31):=hBr 5 (by decide);have cm:wr.cell? ⟨w.heap.size+1,2,none⟩=some (.bool ad):=hm 2 _ rfl;have hi: ∀u,(Instr.index 151 (.agg #[.int .u64 mi,.int .u64 ho,.int .u64 da,.int .u64 mo,.int .u64 we]) (.int .i64 2)).run prog u=.ok (.int .u64 da) u:=fun _=>by kernel_rfl
      clear hBr hm;cases ad
      all_goals
        go_wp2_with(go_at_call 174;with_reducible refine(all_day _).mono ?_;rintro e w2 ⟨rfl,hb2⟩;have cm2:=(zk cm hb2))
        all_goals first
          |(go_ret;exact⟨ret_int (chkE_bad 2 (by simp_all [okK,okB,fDay])),(hw1.trans ((zu hbr hb2).mono (by have:=hb1.size;simp at this;omega)))⟩)
          | (go_roundw
             case rel=>exact⟨3,by omega,rfl,ok_step HP (by simp_all [okK,okB,fDay]),(zu hbr hb2)⟩
             case measure=>simp [intOf])
    · have c0:wr.cell? ⟨2,6,none⟩=some (.int .i64 1):=hBr 6 (by decide)
      have c1:wr.cell? ⟨2,7,none⟩=some (.int .i64 12):=hBr 7 (by decide);have cm:wr.cell? ⟨w.heap.size+1,3,none⟩=some (.bool false):=hm 3 _ rfl;have hi: ∀u,(Instr.index 151 (.agg #[.int .u64 mi,.int .u64 ho,.int .u64 da,.int .u64 mo,.int .u64 we]) (.int .i64 3)).run prog u=.ok (.int .u64 mo) u:=fun _=>by kernel_rfl
      clear hBr hm;go_wp2_with(go_at_call 174;with_reducible refine(all_mon _).mono ?_;rintro e w2 ⟨rfl,hb2⟩;have cm2:=(zk cm hb2))
      all_goals first
        |(go_ret;exact⟨ret_int (chkE_bad 3 (by simp_all [okK,okB,fMon])),(hw1.trans ((zu hbr hb2).mono (by have:=hb1.size;simp at this;omega)))⟩)
        | (go_roundw
           case rel=>exact⟨4,by omega,rfl,ok_step HP (by simp_all [okK,okB,fMon]),(zu hbr hb2)⟩
           case measure=>simp [intOf])
    · have c0:wr.cell? ⟨2,8,none⟩=some (.int .i64 0):=hBr 8 (by decide)
      have c1:wr.cell? ⟨2,9,none⟩=some (.int .i64 6):=hBr 9 (by decide);have cm:wr.cell? ⟨w.heap.size+1,4,none⟩=some (.bool aw):=hm 4 _ rfl;have hi: ∀u,(Instr.index 151 (.agg #[.int .u64 mi,.int .u64 ho,.int .u64 da,.int .u64 mo,.int .u64 we]) (.int .i64 4)).run prog u=.ok (.int .u64 we) u:=fun _=>by kernel_rfl
      clear hBr hm;cases aw
      all_goals
        go_wp2_with(go_at_call 174;with_reducible refine(all_week _).mono ?_;rintro e w2 ⟨rfl,hb2⟩;have cm2:=(zk cm hb2))
        all_goals first
          |(go_ret;exact⟨ret_int (chkE_bad 4 (by simp_all [okK,okB,fWeek])),(hw1.trans ((zu hbr hb2).mono (by have:=hb1.size;simp at this;omega)))⟩)
          | (go_roundw
             case rel=>exact⟨5,by omega,rfl,ok_step HP (by simp_all [okK,okB,fWeek]),(zu hbr hb2)⟩
             case measure=>simp [intOf])
    · clear hBr hm
      go_wp2;go_ret;exact⟨ret_int (chkE_good HP),hw1.trans (hbr.mono (by have:=hb1.size;simp at this;omega))⟩


theorem bdrewN {n:Nat} {a b:World} (h:Below n a b): ∀k,Below n a (b.drewN k)
 |0=>h
 |k+1=>(bdrewN h k).drew

theorem either_any (mi ho da mo we:Int) (ad aw:Bool) (w:World):
  CB 129 #[cronV mi ho da mo we ad aw] w (.bool (!ad&& !aw)):=by
 cases ad<;>cases aw
 all_goals
  go_enter func129,ntmps129;go_wp2;go_ret;exact⟨rfl,(Below.refl _ _).alloc (Xa _) _⟩

set_option maxRecDepth 20000 in
theorem day_any (mi ho da mo we:Int) (ad aw:Bool) (y m d h i s k:Int) (w:World) (b2:U da) (b3:U mo) (b4:U we) (bm:I m) (bd:I d) (bk:I k):
  CB 88 #[cronV mi ho da mo we ad aw,civ y m d h i s k] w (.bool (dayB da mo we ad aw m d k)):=by
 unfold dayB;cases h1:inS da d<;>cases h2:inS we k<;>cases h3:inS mo m<;>cases h4:(!ad&& !aw)
 all_goals
  have c1:=has_any da d (h0:=b2) (hn:=bd);have c2:=has_any we k (h0:=b4) (hn:=bk);have c3:=has_any mo m (h0:=b3) (hn:=bm);have c4:=either_any mi ho da mo we ad aw;rw [h1]at c1;rw [h2]at c2;rw [h3]at c3;rw [h4]at c4;clear h1 h2 h3 h4;go_enter func88,ntmps88;go_wp2;go_quiet (first|(go_at_call 128;with_reducible refine Calls.quiet_of_same (c1 _))|(go_at_call 128;with_reducible refine Calls.quiet_of_same (c2 _)))
  go_wp2_with (first
   |(go_at_call 128;with_reducible refine(c3 _).mono ?_;rintro e w1 ⟨rfl,rfl⟩)
   |(go_at_call 129;with_reducible refine(c4 _).mono ?_;rintro e w1 ⟨rfl,hb1⟩))
  go_ret
  first
   |exact⟨rfl,bdrewN (((Below.refl _ _).alloc (Xa _) _).alloc (by simp) _) _⟩
   |exact⟨rfl,(bdrewN (((Below.refl _ _).alloc (Xa _) _).alloc (by simp) _) _).trans (hb1.mono (by simp;omega))⟩

theorem check_no (mi ho da mo we:Int) (ad aw:Bool) (w:World) (hB:BdsAt w) (h:chkB mi ho da mo we ad aw=false):
  CB 126 #[cronV mi ho da mo we ad aw] w (.int .i64 1):=by
 have:=check_any mi ho da mo we ad aw w hB;rwa [show chkE mi ho da mo we ad aw=1 by unfold chkE;rw [h];rfl]at this
theorem check_yes (mi ho da mo we:Int) (ad aw:Bool) (w:World) (hB:BdsAt w) (h:chkB mi ho da mo we ad aw=true):
  CB 126 #[cronV mi ho da mo we ad aw] w (.int .i64 0):=by
 have:=check_any mi ho da mo we ad aw w hB;rwa [show chkE mi ho da mo we ad aw=0 by unfold chkE;rw [h];rfl]at this

theorem balloc {w:World} (o:Obj):Below w.heap.size w (w.alloc o):=(Below.refl _ _).alloc (Xa _) _
theorem balloc2 {w:World} (o p:Obj):Below w.heap.size w ((w.alloc o).alloc p):=((Below.refl _ _).alloc (Xa _) _).alloc (by simp) _
theorem ballocs {w w1:World} {o p:Obj} (h:Below ((w.alloc o).alloc p).heap.size ((w.alloc o).alloc p) w1):Below w.heap.size w w1:=(balloc2 o p).trans (h.mono (by simp;omega))


section
variable (a b : K) (w : World)
theorem scheck_yes (hB:BdsAt w) (ha:kc a=true) (hb:kc b=true):
  CB 183 #[spanV a b] w (.int .i64 0):=by
 have c1:=fun w hB=>check_yes a.mi a.ho a.da a.mn a.we a.ad a.aw w hB ha;have c2:=fun w hB=>check_yes b.mi b.ho b.da b.mn b.we b.ad b.aw w hB hb;clear ha hb;go_enter func183,ntmps183
 go_wp2_with (first
  |(go_at_call 126;(with_reducible refine zg (c1 _ (hB.below (balloc _) (Xa _))) fun w1 hb1=>?_);have hB1:BdsAt w1:=(hB.below (balloc _) (Xa _)).below hb1 (Xa _);have hw1:Hid (Below w.heap.size w w1):=(balloc _).trans (hb1.mono (by simp));obtain⟨hc1,hf1⟩:=bcell hb1)
  |(go_at_call 126;(with_reducible refine zg (c2 _ hB1) fun w2 hb2=>?_)))
 go_ret;exact⟨rfl,bstep hw1 hb2⟩
theorem scheck_no (hB:BdsAt w) (h:kc a=false∨kc b=false):
  CB 183 #[spanV a b] w (.int .i64 1):=by
 cases ha:kc a
 ·have c1:=fun w hB=>check_no a.mi a.ho a.da a.mn a.we a.ad a.aw w hB ha;clear h ha;go_enter func183,ntmps183
  go_wp2_with (first
   |(go_at_call 126;(with_reducible refine zg (c1 _ (hB.below (balloc _) (Xa _))) fun w1 hb1=>?_);have hw1:Hid (Below w.heap.size w w1):=(balloc _).trans (hb1.mono (by simp))))
  go_ret;exact⟨rfl,hw1⟩
 ·have hb:kc b=false:=by rcases h with h|h;(rw [ha]at h;cases h);exact h
  have c1:=fun w hB=>check_yes a.mi a.ho a.da a.mn a.we a.ad a.aw w hB ha;have c2:=fun w hB=>check_no b.mi b.ho b.da b.mn b.we b.ad b.aw w hB hb;clear ha hb h;go_enter func183,ntmps183
  go_wp2_with (first
   |(go_at_call 126;(with_reducible refine zg (c1 _ (hB.below (balloc _) (Xa _))) fun w1 hb1=>?_);have hB1:BdsAt w1:=(hB.below (balloc _) (Xa _)).below hb1 (Xa _);have hw1:Hid (Below w.heap.size w w1):=(balloc _).trans (hb1.mono (by simp));obtain⟨hc1,hf1⟩:=bcell hb1)
   |(go_at_call 126;(with_reducible refine zg (c2 _ hB1) fun w2 hb2=>?_)))
  go_ret;exact⟨rfl,bstep hw1 hb2⟩
end
end Crn
namespace RCrn
open Go.RowKit Lai Civ Cal Crn RCiv
