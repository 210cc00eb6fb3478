/- What the calls of package cron answer: sets, Check, Match. -/
import Derived.Test.YtddabkmppobcdaaGreatDoorPsLaid
import Derived.Test.YtddabkmppobcdaaGreatDoorPsCronPlain
import Derived.Test.YtddabkmppobcdaaGreatDoorPsAr
set_option maxHeartbeats 32000000
namespace Go.Proofs.YtddabkmppobcdaaGreatDoor
namespace Crn
open Go.RowKit Lai Civ

theorem has_any (s n:Int) (w:World) (h0:0≤s∧s≤18446744073709551615) (hn: -9223372036854775808≤n∧n≤9223372036854775807):
    Calls Tryz.prog 220 #[.int .u64 s,.int .i64 n] w fun e w'=>e=.returned (.bool (inS s n))∧w'=w:=by
  by_cases g:0≤n∧n≤63
  · have ha:=and1 s n h0.1 h0.2 g.1 g.2
    cases hi:inS s n<;>rw [hi]at ha<;>simp only [Bool.false_eq_true,if_false,if_true]at ha<;>clear hi
    all_goals
      go_enter Tryz.func220,Tryz.ntmps220
      go_wp2
      all_goals
        go_ret
        first|omega|(refine⟨ret_bool ?_,rfl⟩;simp)
  · have hi:inS s n=false:=by
      unfold inS
      by_cases g0:0≤n
      · rw [decide_eq_false (show¬n≤63 by omega)];simp
      · rw [decide_eq_false g0];rfl
    rw [hi]
    clear hi
    go_enter Tryz.func220,Tryz.ntmps220
    go_wp2
    all_goals
      go_ret
      first|(exfalso;omega)|(refine⟨ret_bool ?_,rfl⟩;simp<;>omega)

theorem pow_mono (a b:Nat) (h:a≤b):(2:Int)^a≤2^b:=by
  have:=Nat.pow_le_pow_right (show 0<2 by omega) h
  exact_mod_cast this
theorem wrap_pow (n:Nat) (h:n≤63):IntKind.u64.wrap ((2:Int)^n)=2^n:=by
  have h1:=pow_mono n 63 h
  have h0:(0:Int)≤2^n:=by exact_mod_cast Nat.zero_le (2^n)
  rw [IntKind.wrap_u64]
  omega

theorem all_any (l m v:Int) (w:World) (hl:0≤l∧l≤m) (hm:m≤62) (hv:2^(m+1).toNat-2^l.toNat=v):
    Calls Tryz.prog 84 #[.agg #[.int .i64 l,.int .i64 m]] w fun e w'=>e=.returned (.int .u64 v)∧Below w.heap.size w w':=by
  have e1:=wrap_pow (m+1).toNat (by omega)
  have e2:=wrap_pow l.toNat (by omega)
  have e3:IntKind.u64.wrap (2^(m+1).toNat-2^l.toNat)=v:=by
    have h1:=pow_mono (m+1).toNat 63 (by omega)
    have h2:=pow_mono l.toNat (m+1).toNat (by omega)
    have h3:(0:Int)≤2^l.toNat:=by exact_mod_cast Nat.zero_le (2^l.toNat)
    rw [IntKind.wrap_u64]
    omega
  clear hv
  go_enter Tryz.func84,Tryz.ntmps84
  go_wp2
  go_region
  all_goals
    go_wp2
    go_ret
    exact⟨ret_int (by first|rfl|assumption|(rw [e1,e2];exact e3)),((Below.refl _ _).alloc (Nat.le_refl _) _).drew⟩

theorem all_min (w:World):Calls Tryz.prog 84 #[.agg #[.int .i64 0,.int .i64 59]] w fun e w'=>e=.returned (.int .u64 1152921504606846975)∧Below w.heap.size w w':=
  all_any 0 59 1152921504606846975 w (by omega) (by omega) (by rfl)
theorem all_hour (w:World):Calls Tryz.prog 84 #[.agg #[.int .i64 0,.int .i64 23]] w fun e w'=>e=.returned (.int .u64 16777215)∧Below w.heap.size w w':=
  all_any 0 23 16777215 w (by omega) (by omega) (by rfl)
theorem all_day (w:World):Calls Tryz.prog 84 #[.agg #[.int .i64 1,.int .i64 31]] w fun e w'=>e=.returned (.int .u64 4294967294)∧Below w.heap.size w w':=
  all_any 1 31 4294967294 w (by omega) (by omega) (by rfl)
theorem all_mon (w:World):Calls Tryz.prog 84 #[.agg #[.int .i64 1,.int .i64 12]] w fun e w'=>e=.returned (.int .u64 8190)∧Below w.heap.size w w':=
  all_any 1 12 8190 w (by omega) (by omega) (by rfl)
theorem all_week (w:World):Calls Tryz.prog 84 #[.agg #[.int .i64 0,.int .i64 6]] w fun e w'=>e=.returned (.int .u64 127)∧Below w.heap.size w w':=
  all_any 0 6 127 w (by omega) (by omega) (by rfl)

theorem sets_any (mi ho da mo we:Int) (ad aw:Bool) (w:World):
    Calls Tryz.prog 83 #[cronV mi ho da mo we ad aw] w fun e w'=>e=.returned (.agg #[.int .u64 mi,.int .u64 ho,.int .u64 da,.int .u64 mo,.int .u64 we])∧Below w.heap.size w w':=by
  go_enter Tryz.func83,Tryz.ntmps83
  go_wp2
  refine bodyPost_ret (v:=.agg #[.int .u64 mi,.int .u64 ho,.int .u64 da,.int .u64 mo,.int .u64 we]) (by simp [results,Tryz.results83,go_sem]) rfl ⟨rfl,?_⟩
  exact((Below.refl _ _).alloc (Nat.le_refl _) _).alloc (by simp) _
set_option maxRecDepth 20000 in
theorem check_any (mi ho da mo we:Int) (ad aw:Bool) (w:World) (hB:BdsAt w):
    Calls Tryz.prog 82 #[cronV mi ho da mo we ad aw] w fun e w'=>e=.returned (.int .i64 (chkE mi ho da mo we ad aw))∧Below w.heap.size w w':=by
  go_enter Tryz.func82,Tryz.ntmps82
  go_wp2_with(go_at_call 83;with_reducible refine(sets_any _ _ _ _ _ _ _ _).mono ?_;rintro e w1 ⟨rfl,hb1⟩)
  have hz1:=hb1.size
  have hw1:Below w.heap.size w w1:=(((Below.refl _ _).alloc (Nat.le_refl _) _).alloc (by simp) _).trans (hb1.mono (by simp;omega))
  have hm1: ∀j v,(#[Value.bool false,.bool false,.bool ad,.bool false,.bool aw])[j]?=some v→w1.cell? ⟨w.heap.size+1,j,none⟩=some v:=by
    intro j v hj
    rw [hb1.cell (p:=⟨w.heap.size+1,j,none⟩) (by simp)]
    simpa using hj
  go_loopw [14] (fun i wr=> ∃k:Nat,k≤5∧i=.int .i64 k∧(∀j,j<k→okK mi ho da mo we ad aw j=true)∧Below w1.heap.size w1 wr) (fun i _=>5-(intOf i).toNat)
  case atStart=>exact⟨0,by omega,rfl,fun j hj=>absurd hj (by omega),Below.refl _ _⟩
  case round=>
    obtain⟨k,hk,rfl,hp,hbr⟩:=hrel
    have hBr:BdsAt wr:=(hB.below hw1 (Nat.le_refl _)).below hbr (Nat.le_refl _)
    have hm: ∀j v,(#[Value.bool false,.bool false,.bool ad,.bool false,.bool aw])[j]?=some v→wr.cell? ⟨w.heap.size+1,j,none⟩=some v:=by
      intro j v hj
      rw [hbr.cell (p:=⟨w.heap.size+1,j,none⟩) (by simp at hz1;show w.heap.size+1<_;omega)]
      exact hm1 j v hj
    have hlt:w.heap.size+1<wr.heap.size:=by have:=hbr.size;simp at hz1;omega
    clear hm1 hB
    have HP:Hid (∀j,j<k→okK mi ho da mo we ad aw j=true):=hp
    clear hp hz1
    obtain rfl|rfl|rfl|rfl|rfl|rfl:k=0∨k=1∨k=2∨k=3∨k=4∨k=5:=by omega
    · have c0:wr.cell? ⟨0,0,none⟩=some (.int .i64 0):=hBr 0 (by decide)
      have c1:wr.cell? ⟨0,1,none⟩=some (.int .i64 59):=hBr 1 (by decide)
      have cm:wr.cell? ⟨w.heap.size+1,0,none⟩=some (.bool false):=hm 0 _ rfl
      have hi: ∀u,(Instr.index 158 (.agg #[.int .u64 mi,.int .u64 ho,.int .u64 da,.int .u64 mo,.int .u64 we]) (.int .i64 0)).run Tryz.prog u=.ok (.int .u64 mi) u:=fun _=>by kernel_rfl
      clear hBr hm
      go_wp2_with(go_at_call 84;with_reducible refine(all_min _).mono ?_;rintro e w2 ⟨rfl,hb2⟩;have cm2:=(hb2.cell (p:=⟨w.heap.size+1,0,none⟩) (by exact hlt)).trans cm)
      all_goals first
        |(go_ret;exact⟨ret_int (chkE_bad 0 (by simp_all [okK,okB,fMin])),(hw1.trans ((hbr.trans (hb2.mono hbr.size)).mono (by have:=hb1.size;simp at this;omega)))⟩)
        | (go_roundw
           case rel=>exact⟨1,by omega,rfl,ok_step HP (by simp_all [okK,okB,fMin]),hbr.trans (hb2.mono hbr.size)⟩
           case measure=>simp [intOf])
    · have c0:wr.cell? ⟨0,2,none⟩=some (.int .i64 0):=hBr 2 (by decide)
      have c1:wr.cell? ⟨0,3,none⟩=some (.int .i64 23):=hBr 3 (by decide)
      have cm:wr.cell? ⟨w.heap.size+1,1,none⟩=some (.bool false):=hm 1 _ rfl
      have hi: ∀u,(Instr.index 158 (.agg #[.int .u64 mi,.int .u64 ho,.int .u64 da,.int .u64 mo,.int .u64 we]) (.int .i64 1)).run Tryz.prog u=.ok (.int .u64 ho) u:=fun _=>by kernel_rfl
      clear hBr hm
      go_wp2_with(go_at_call 84;with_reducible refine(all_hour _).mono ?_;rintro e w2 ⟨rfl,hb2⟩;have cm2:=(hb2.cell (p:=⟨w.heap.size+1,1,none⟩) (by exact hlt)).trans cm)
      all_goals first
        |(go_ret;exact⟨ret_int (chkE_bad 1 (by simp_all [okK,okB,fHour])),(hw1.trans ((hbr.trans (hb2.mono hbr.size)).mono (by have:=hb1.size;simp at this;omega)))⟩)
        | (go_roundw
           case rel=>exact⟨2,by omega,rfl,ok_step HP (by simp_all [okK,okB,fHour]),hbr.trans (hb2.mono hbr.size)⟩
           case measure=>simp [intOf])
    · have c0:wr.cell? ⟨0,4,none⟩=some (.int .i64 1):=hBr 4 (by decide)
      have c1:wr.cell? ⟨0,5,none⟩=some (.int .i64 31):=hBr 5 (by decide)
      have cm:wr.cell? ⟨w.heap.size+1,2,none⟩=some (.bool ad):=hm 2 _ rfl
      have hi: ∀u,(Instr.index 158 (.agg #[.int .u64 mi,.int .u64 ho,.int .u64 da,.int .u64 mo,.int .u64 we]) (.int .i64 2)).run Tryz.prog u=.ok (.int .u64 da) u:=fun _=>by kernel_rfl
      clear hBr hm
      cases ad
      all_goals
        go_wp2_with(go_at_call 84;with_reducible refine(all_day _).mono ?_;rintro e w2 ⟨rfl,hb2⟩;have cm2:=(hb2.cell (p:=⟨w.heap.size+1,2,none⟩) (by exact hlt)).trans cm)
        all_goals first
          |(go_ret;exact⟨ret_int (chkE_bad 2 (by simp_all [okK,okB,fDay])),(hw1.trans ((hbr.trans (hb2.mono hbr.size)).mono (by have:=hb1.size;simp at this;omega)))⟩)
          | (go_roundw
             case rel=>exact⟨3,by omega,rfl,ok_step HP (by simp_all [okK,okB,fDay]),hbr.trans (hb2.mono hbr.size)⟩
             case measure=>simp [intOf])
    · have c0:wr.cell? ⟨0,6,none⟩=some (.int .i64 1):=hBr 6 (by decide)
      have c1:wr.cell? ⟨0,7,none⟩=some (.int .i64 12):=hBr 7 (by decide)
      have cm:wr.cell? ⟨w.heap.size+1,3,none⟩=some (.bool false):=hm 3 _ rfl
      have hi: ∀u,(Instr.index 158 (.agg #[.int .u64 mi,.int .u64 ho,.int .u64 da,.int .u64 mo,.int .u64 we]) (.int .i64 3)).run Tryz.prog u=.ok (.int .u64 mo) u:=fun _=>by kernel_rfl
      clear hBr hm
      go_wp2_with(go_at_call 84;with_reducible refine(all_mon _).mono ?_;rintro e w2 ⟨rfl,hb2⟩;have cm2:=(hb2.cell (p:=⟨w.heap.size+1,3,none⟩) (by exact hlt)).trans cm)
      all_goals first
        |(go_ret;exact⟨ret_int (chkE_bad 3 (by simp_all [okK,okB,fMon])),(hw1.trans ((hbr.trans (hb2.mono hbr.size)).mono (by have:=hb1.size;simp at this;omega)))⟩)
        | (go_roundw
           case rel=>exact⟨4,by omega,rfl,ok_step HP (by simp_all [okK,okB,fMon]),hbr.trans (hb2.mono hbr.size)⟩
           case measure=>simp [intOf])
    · have c0:wr.cell? ⟨0,8,none⟩=some (.int .i64 0):=hBr 8 (by decide)
      have c1:wr.cell? ⟨0,9,none⟩=some (.int .i64 6):=hBr 9 (by decide)
      have cm:wr.cell? ⟨w.heap.size+1,4,none⟩=some (.bool aw):=hm 4 _ rfl
      have hi: ∀u,(Instr.index 158 (.agg #[.int .u64 mi,.int .u64 ho,.int .u64 da,.int .u64 mo,.int .u64 we]) (.int .i64 4)).run Tryz.prog u=.ok (.int .u64 we) u:=fun _=>by kernel_rfl
      clear hBr hm
      cases aw
      all_goals
        go_wp2_with(go_at_call 84;with_reducible refine(all_week _).mono ?_;rintro e w2 ⟨rfl,hb2⟩;have cm2:=(hb2.cell (p:=⟨w.heap.size+1,4,none⟩) (by exact hlt)).trans cm)
        all_goals first
          |(go_ret;exact⟨ret_int (chkE_bad 4 (by simp_all [okK,okB,fWeek])),(hw1.trans ((hbr.trans (hb2.mono hbr.size)).mono (by have:=hb1.size;simp at this;omega)))⟩)
          | (go_roundw
             case rel=>exact⟨5,by omega,rfl,ok_step HP (by simp_all [okK,okB,fWeek]),hbr.trans (hb2.mono hbr.size)⟩
             case measure=>simp [intOf])
    · clear hBr hm
      go_wp2
      go_ret
      exact⟨ret_int (chkE_good HP),hw1.trans (hbr.mono (by have:=hb1.size;simp at this;omega))⟩
end Crn
end Go.Proofs.YtddabkmppobcdaaGreatDoor
