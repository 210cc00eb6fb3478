/- A part. -/
import Derived.Test.YthiapcajheepbaaGreatDoorPwShelf
import Derived.Test.YthiapcajheepbaaGreatDoorPwCronWalks
set_option linter.all false
open Go.Proofs.Tryz
set_option maxHeartbeats 32000000
set_option maxRecDepth 8000
namespace Go.Proofs.YthiapcajheepbaaGreatDoor
namespace Lai
open Go.RowKit
set_option maxRecDepth 100000
end Lai
namespace Crn
open Go.RowKit Lai Civ

theorem lo_wrap (s n:Int) (h0:0≤s∧s≤18446744073709551615) (hn: -1≤n∧n≤63):bits .and .u64 s (IntKind.u64.wrap (IntKind.u64.wrap (2^(n+1).toNat)-1))=loS s n∧(0≤loS s n∧loS s n≤18446744073709551615):=by
 obtain⟨S,rfl⟩:=Xh h0.1;obtain⟨N,hN⟩:=Xh (show 0≤n+1 by omega);obtain rfl:n=(N:Int)-1:=by omega
 have e:=loS_nat S N;have l:=lo_lt S N (by omega);have hp:0<2^N:=Nat.pow_pos (by omega);have hq:2^N≤2^64:=Yd (by omega) (by omega);have e3:IntKind.u64.wrap (IntKind.u64.wrap (2^((N:Int)-1+1).toNat)-1)=((2^N-1:Nat):Int):=by
  rw [show((N:Int)-1+1).toNat=N by omega,Yj,Yj,show(2:Int)^N=((2^N:Nat):Int) by simp];omega
 rw [e3,e,u64_and_nat S _ (by omega) (by omega),Nat.and_two_pow_sub_one_eq_mod];omega

theorem bl_le (x:Nat) (h:x<2^64):Lib.bitLen x≤64:=by
 by_cases h0:x=0
 ·subst h0;decide
 ·have:=(Nat.log2_lt h0).2 h;rw [bl x h0 h];omega

theorem len_any (x:Int) (w:World) (h:0≤x∧x≤18446744073709551615):
  CS 220 #[.int .u64 x] w (.int .i64 (Lib.bitLen x.toNat)):=Any.bits_Len64 lays129 x w h.1 h.2

theorem upto_any (s n:Int) (w:World) (h0:U s) (hn: -1≤n∧n≤63):
  CS 212 #[.int .u64 s,.int .i64 n] w (.tuple #[.int .i64 (upt s n),.bool (uptB s n)]):=by
 obtain⟨hw,hu⟩:=lo_wrap s n h0 hn;have hmin:min (n+1).toNat 64=(n+1).toNat:=by omega
 have hbl:(Lib.bitLen (loS s n).toNat:Int)≤64:=by have:=bl_le (loS s n).toNat (by omega);omega
 go_enter func212,ntmps212;go_wp2_with(go_at_call 220;with_reducible refine(len_any _ _ hu).mono ?_;rintro e w1 ⟨rfl,rfl⟩)
 go_ret2;refine⟨?_,rfl⟩;simp only [upt,uptB];rw [show(loS s n !=0)=decide (loS s n≠0) by rw [Bool.eq_iff_iff];simp];rfl

theorem upt_bd (s n:Int) (h0:0≤s∧s≤18446744073709551615) (hn: -1≤n): -1≤upt s n∧upt s n≤63:=by
 cases h:uptB s n
 ·rw [upt_zero s n h];omega
 ·obtain⟨a,b,c,_⟩:=upt_yes s n h0 hn h;omega

theorem minUpTo_any (mi ho da mo we:Int) (ad aw:Bool) (h m:Int) (w:World) (b0:U mi) (b1:U ho) (hh:0≤h∧h≤23) (hm:0≤m∧m≤59):
  CB 205 #[cronV mi ho da mo we ad aw,.int .i64 h,.int .i64 m] w (.tuple #[.int .i64 (mu mi ho h m),.bool (muB mi ho h m)]):=by
 have f1:=upt_bd mi m b0 (by omega);have f2:=upt_bd ho (h-1) b1 (by omega);have f3:=upt_bd mi 59 b0 (by omega);have c1:=fun w=>upto_any mi m w b0 (by omega);have c2:=fun w=>has_any ho h w b1 (by omega);have c3:=fun w=>upto_any ho (h-1) w b1 (by omega);have c4:=fun w=>upto_any mi 59 w b0 (by omega);unfold mu muB;cases g1:uptB mi m;all_goals rw [g1]at c1;try clear g1
 ·simp only [Bool.false_and,Ya,XU,if_false];go_enter func205,ntmps205
  go_wp2_with (first
   |(go_at_call 212;with_reducible refine(c1 _).mono ?_;rintro e w1 ⟨rfl,rfl⟩)
   |(go_at_call 212;with_reducible refine(c3 _).mono ?_;rintro e w1 ⟨rfl,rfl⟩)
   |(go_at_call 212;with_reducible refine(c4 _).mono ?_;rintro e w1 ⟨rfl,rfl⟩))
  go_ret2;exact⟨rfl,balloc _⟩
 ·cases g2:inS ho h;all_goals rw [g2]at c2;clear g2
  ·simp only [XP,Ya,XU,if_false];go_enter func205,ntmps205
   go_wp2_with (first
    |(go_at_call 212;with_reducible refine(c1 _).mono ?_;rintro e w1 ⟨rfl,rfl⟩)
    |(go_at_call 213;with_reducible refine(c2 _).mono ?_;rintro e w1 ⟨rfl,rfl⟩)
    |(go_at_call 212;with_reducible refine(c3 _).mono ?_;rintro e w1 ⟨rfl,rfl⟩)
    |(go_at_call 212;with_reducible refine(c4 _).mono ?_;rintro e w1 ⟨rfl,rfl⟩))
   go_ret2;exact⟨rfl,balloc _⟩
  ·simp only [Bool.and_true,Bool.true_or,if_true];go_enter func205,ntmps205
   go_wp2_with (first
    |(go_at_call 212;with_reducible refine(c1 _).mono ?_;rintro e w1 ⟨rfl,rfl⟩)
    |(go_at_call 213;with_reducible refine(c2 _).mono ?_;rintro e w1 ⟨rfl,rfl⟩))
   go_ret2;exact⟨rfl,balloc _⟩
end Crn
namespace Crn
open Go.RowKit Lai Civ Cal
variable {y m D x:Int} {W:World} {B:Nat} {ok:Bool} {P Q:Int→Bool}

theorem week_any (we first:Int) (w:World) (hw:Upto we 6) (hf: -3000000≤first∧first≤3000000):
    Calls prog 221 #[.int .u64 we,.int .i64 first] w fun e w'=> ∃v,e=.returned (.int .u64 v)∧WkD we first v∧Below w.heap.size w w':=by
  have hr:=rem7 (first+4);have hr1:=rem7_bd (first+4);have hr2:0≤(first+4)%7∧(first+4)%7≤6:=by omega
  go_enter func221,ntmps221;go_wp2;go_loop [6,13] (fun t i=> ∃(k:Nat) (v:Int),k≤6∧i=.int .i64 k∧t=.int .u64 v∧WkOK we v k) (fun _ i=>6-(intOf i).toNat)
  case atStart=>exact⟨0,0,by omega,rfl,rfl,wk_zero _⟩
  case round=>
    obtain⟨k,v,hk,rfl,rfl,hv⟩:=hrel;by_cases hk6:k<6
    · have hk':(k:Int)<6:=by omega
      have hmin:min (7*(k:Int)).toNat 64=(7*(k:Int)).toNat:=(by omega);go_wp2;go_round
      case rel=>exact⟨k+1,_,by omega,by go_num,rfl,wk_step hv hw hk6⟩
      case measure=>simp [intOf];omega
    · obtain rfl:k=6:=by omega
      go_wp2;go_region_with (go_at_call 175;with_reducible refine(all_day _).mono ?_;rintro e w1 ⟨rfl,hb1⟩)
      all_goals
        go_wp2;go_ret;exact⟨_,rfl,wk_days hv,(Below.refl _ _).drew.trans hb1⟩

theorem num_one_bd (y m:Int) (hy: -4000≤y∧y≤8000) (hm:1≤m∧m≤12): -3000000≤num y m 1∧num y m 1≤3000000:=by
  have:=num_bd y m 1 (vld_mk ⟨hy.1,hy.2,hm.1,hm.2,by omega,by have:=dim_bd y m;omega⟩);omega

theorem daysOf_any (mi ho da mo we:Int) (ad aw:Bool) (y m:Int) (w:World) (b2:U da) (h31: ∀n,inS da n=true→1≤n∧n≤31) (hw:Upto we 6) (hy: -4000≤y∧y≤8000) (hm:1≤m∧m≤12):
    Calls prog 215 #[cronV mi ho da mo we ad aw,.int .i64 y,.int .i64 m] w fun e w'=> ∃v,e=.returned (.tuple #[.int .i64 (num y m 1-1),.int .u64 v])∧DaySet da we ad aw y m v∧Below w.heap.size w w':=by
  have nb:=num_one_bd y m hy hm;have db:=dim_bd y m;have c1:=fun w=>days_yes y m 1 w (vld_mk ⟨hy.1,hy.2,hm.1,hm.2,by omega,by omega⟩);have c2:=fun w=>week_any we (num y m 1) w hw nb;cases hany:(!ad&& !aw)
  all_goals
    have c3:=fun w=>either_any mi ho da mo we ad aw w;rw [hany]at c3;have HA:=zh hany;clear hany;go_enter func215,ntmps215
    go_wp2_with (first
      |(go_at_call 204;with_reducible refine(c1 _).mono ?_;rintro e w1 ⟨rfl,rfl⟩)
      |(go_at_call 221;with_reducible refine(c2 _).mono ?_;rintro e w2 ⟨k,rfl,hk,hb2⟩;obtain⟨hc2,hf2⟩:=bcell hb2;have hz2:w.heap.size<w2.heap.size:=(by have:=hb2.size;simp at this;omega))
      |(go_at_call 214;with_reducible refine(c3 _).mono ?_;rintro e w3 ⟨rfl,hb3⟩;obtain⟨hc3,hf3⟩:=bcell hb3))
    have hw3:Hid (Below w.heap.size w w3):=((balloc _).trans (hb2.mono (by simp))).trans (hb3.mono (by omega));have u0:0≤k∧k≤18446744073709551615:=hk.1;clear hc2 hf2 hc3 hf3 hb2 hb3 c1 c2 c3;go_loop [11,12] (fun t i=> ∃(d v:Int),29≤d∧d≤32∧i=.int .i64 d∧t=.int .u64 v∧DOK y m (bits (if(!ad&& !aw)=true then .or else .and) .u64 da k) v d) (fun _ i=>(32-intOf i).toNat)
    case atStart=>
      refine⟨29,_,by omega,by omega,rfl,rfl,?_⟩;rw [HA];first|exact dok_zero (u_and _ _ b2 u0)|exact dok_zero (u_or _ _ b2 u0)
    case round=>
      obtain⟨d,v,hd1,hd2,rfl,rfl,hv⟩:=hrel;by_cases g:d≤31
      · by_cases g2:d≤dim y m
        · have c4:=fun w=>days_yes y m d w (vld_mk ⟨hy.1,hy.2,hm.1,hm.2,by omega,by omega⟩)
          go_wp2_with(go_at_call 204;with_reducible refine(c4 _).mono ?_;rintro e w4 ⟨rfl,rfl⟩)
          go_round
          case rel=>exact⟨d+1,v,by omega,by omega,rfl,rfl,dok_keep hv g2⟩
          case measure=>simp [intOf];omega
        · have c4 := fun w => days_no y m d w (by
            cases e:vldB y m d
            · rfl
            · have:=(vld_iff _ _ _).1 e;omega)
          have hp:=wrap_pow d.toNat (by omega);have hmin:min d.toNat 64=d.toNat:=(by omega);go_wp2_with(go_at_call 204;with_reducible refine(c4 _).mono ?_;rintro e w4 ⟨rfl,rfl⟩)
          go_round
          case rel=>exact⟨d+1,_,by omega,by omega,rfl,rfl,dok_drop hv ⟨hd1,g⟩ (by omega)⟩
          case measure=>simp [intOf];omega
      · obtain rfl:d=32:=by omega
        go_wp2;go_ret2;rw [HA]at hv;refine⟨v,rfl,?_,hw3⟩
        first
          |exact dset_and b2 HA hk hv
          | (obtain ⟨rfl, rfl⟩ : ad = false ∧ aw = false := by
               have:(!ad&& !aw)=true:=HA;simpa using this
             exact dset_or b2 h31 hk hv)

theorem dset_u {da we:Int} {ad aw:Bool} {v:Int} (h:DaySet da we ad aw y m v):U v:=h.1


theorem prev_month {da mn we:Int} {ad aw:Bool} (h:Seen da mn we ad aw (beg y m-1) D∧beg y m-1<D) (hm:2≤m∧m≤12):
    Seen da mn we ad aw (beg y (m-1)+dim y (m-1)-1) D∧Lim y (m-1) 31 (dim y (m-1))∧beg y (m-1)+dim y (m-1)-1<D∧0≤dim y (m-1):=by
  have db:=dim_bd y (m-1);have e:=beg_next y (m-1) (by omega);rw [show m-1+1=m by omega]at e;rw [←e];exact⟨h.1,Or.inr ⟨by omega,rfl⟩,h.2,by omega⟩
theorem prev_year {da mn we:Int} {ad aw:Bool} (h:Seen da mn we ad aw (beg y 1-1) D∧beg y 1-1<D):
    Seen da mn we ad aw (beg (y-1) 12+dim (y-1) 12-1) D∧Lim (y-1) 12 31 (dim (y-1) 12)∧beg (y-1) 12+dim (y-1) 12-1<D∧0≤dim (y-1) 12:=by
  have db:=dim_bd (y-1) 12;have e:=beg_year (y-1);rw [show y-1+1=y by omega]at e;rw [←e];exact⟨h.1,Or.inr ⟨by omega,rfl⟩,h.2,by omega⟩

theorem ahead_any (mi ho da mn we:Int) (ad aw:Bool) (y0 m0 d0 h i s k:Int) (w:World) (G:Good mi ho da mn we)
    (hy: -3900≤y0∧y0≤7900) (hm:1≤m0∧m0≤12) (hd:1≤d0∧d0≤dim y0 m0):
    Calls prog 207 #[cronV mi ho da mn we ad aw,civ y0 m0 d0 h i s k,.int .i64 (num y0 m0 d0-3000)] w
      fun e w'=> ∃n ok,e=.returned (.tuple #[.int .i64 n,.bool ok])∧Ahead da mn we ad aw (beg y0 m0+d0-1) n ok∧Below w.heap.size w w':=by
  obtain⟨ms,hms⟩:=G.gmn0;have hms2:=G.g12 _ hms;have HM:=zh hms;clear hms;have db0:=dim_bd y0 m0;have n0:=num_bd y0 m0 d0 (vld_mk ⟨by omega,by omega,hm.1,hm.2,hd.1,hd.2⟩);have HN:Hid (num y0 m0 d0=beg y0 m0+d0-1-2180498):=num_beg y0 m0 d0;have HJ:Hid (num (y0-10) ms 1-1<num y0 m0 d0-3000):=by
    have e1:=num_beg y0 m0 d0;have e2:=num_beg (y0-10) ms 1;have e3:=beg_le (y0-10) ms hms2;rw [show y0-10+1=y0-9 by omega]at e3;have e4:=ys_nine y0;have e5:=in_year y0 m0 d0 ⟨hm.1,hm.2,hd.1,hd.2⟩;have e7:beg y0 m0=ys y0+cum y0 m0:=rfl;show _<_;omega
  go_enter func207,ntmps207;go_wp2;go_quiet (fail)
  go_wp2
  go_loopw [8, 9, 10] (fun t8 t9 t10 wr => ∃ y m d q : Int, (y0 - 10 ≤ y ∧ y ≤ y0) ∧ (1 ≤ m ∧ m ≤ 12) ∧ (0 ≤ d ∧ d ≤ 31) ∧ 12 * (y0 - 10) + ms ≤ 12 * y + m ∧ t8 = .int .i64 y ∧ t9 = .int .i64 m ∧ t10 = .int .i64 d ∧
      Hid (Seen da mn we ad aw (beg y m+q-1) (beg y0 m0+d0-1)∧Lim y m d q∧beg y m+q-1<beg y0 m0+d0-1∧0≤q)∧
      Below w.heap.size w wr∧w.heap.size<wr.heap.size∧(∀o,wr.cell? ⟨w.heap.size,o,none⟩=(#[Value.int .u64 mi,.int .u64 ho,.int .u64 da,.int .u64 mn,.int .u64 we,.bool ad,.bool aw])[o]?))
    (fun t8 t9 _ _=>(12*intOf t8+intOf t9-12*(y0-10)+24).toNat)
  case atStart=>
    refine⟨y0,m0,d0-1,d0-1,by omega,hm,by omega,by omega,rfl,rfl,rfl,⟨fun x h1 h2=>absurd h2 (by omega),Or.inl ⟨by omega,rfl⟩,by omega,by omega⟩,?_,?_,?_⟩
    · exact bdrewN (balloc2 _ _) _
    · simp;omega
    · intro o;simp
  case round=>
    obtain⟨y,m,d,q,hy1,hm1,hd1,hJ,rfl,rfl,rfl,HS,hbr,hzr,hcr⟩:=hrel;have c1:=fun w=>has_any mn m w G.gmn (by omega);have c2:=fun w=>daysOf_any mi ho da mn we ad aw y m w G.gda G.g31 G.gwe (by omega) hm1;have nb:=num_one_bd y m (by omega) hm1;cases hi:inS mn m
    all_goals
      rw [hi]at c1;have HI:=zh hi;clear hi
    · have hne:m≠ms:=by
        intro e;have h1:inS mn m=false:=HI;rw [e,show inS mn ms=true from HM]at h1;cases h1
      have HS2:Hid (Seen da mn we ad aw (beg y m-1) (beg y0 m0+d0-1)∧beg y m-1<beg y0 m0+d0-1):=⟨aseen_skip HS.1 HS.2.1 hm1 HI,(by have a:=HS.2.2.1;have b:=HS.2.2.2;omega)⟩
      clear HS c2;go_wp2_with(go_at_call 213;(with_reducible refine(c1 _).mono ?_);rintro e w1 ⟨rfl,rfl⟩)
      all_goals
        go_roundw
        case rel=>
          first
            |exact⟨y,m-1,31,_,by omega,by omega,by omega,by omega,rfl,rfl,rfl,prev_month HS2 (by omega),hbr,hzr,hcr⟩
            | (obtain rfl : m = 1 := by omega
               exact⟨y-1,12,31,_,by omega,by omega,by omega,by omega,rfl,rfl,rfl,prev_year HS2,hbr,hzr,hcr⟩)
        case measure=>simp [intOf];omega
    · go_wp2_with (first
        |(go_at_call 213;(with_reducible refine(c1 _).mono ?_);rintro e w1 ⟨rfl,rfl⟩)
        |(go_at_call 215;(with_reducible refine(c2 _).mono ?_);rintro e w2 ⟨v,rfl,hv,hb2⟩;have f:=upt_bd v d (dset_u hv) (by omega);have c3:=upto_any v d w2 (dset_u hv) (by omega);have hz2:w.heap.size<w2.heap.size:=(by have:=hb2.size;omega))
        |(go_at_call 212;(with_reducible refine c3.mono ?_);rintro e w3 ⟨rfl,rfl⟩;clear c3;cases hf:uptB v d))
      all_goals first
        | (go_ret2
           refine⟨_,_,rfl,?_,hbr.trans (hb2.mono (by omega))⟩
           first
             | (have hh := afound HS.1 HS.2.1 hm1 (by omega) hd1.1 HS.2.2.1 hv hf HI
                rw [←(show num y0 m0 d0=beg y0 m0+d0-1-2180498 from HN)]at hh;exact hh)
             |exact aended (aseen_month HS.1 HS.2.1 hm1 hd1.1 hv hf) (by omega) (by rw [←(show num y0 m0 d0=beg y0 m0+d0-1-2180498 from HN)];omega) hf)
        | (go_roundw
           case rel=>
             have hne:12*y+m≠12*(y0-10)+ms:=by
               intro e;have e1:m=ms:=(by omega);have e2:y=y0-10:=(by omega);have h1:num (y0-10) ms 1-1<num y0 m0 d0-3000:=HJ;rw [←e1,←e2]at h1;omega
             have HS2:Hid (Seen da mn we ad aw (beg y m-1) (beg y0 m0+d0-1)∧beg y m-1<beg y0 m0+d0-1):=⟨aseen_month HS.1 HS.2.1 hm1 hd1.1 hv hf,(by have a:=HS.2.2.1;have b:=HS.2.2.2;omega)⟩
             have hc2: ∀o,w3.cell? ⟨w.heap.size,o,none⟩=(#[Value.int .u64 mi,.int .u64 ho,.int .u64 da,.int .u64 mn,.int .u64 we,.bool ad,.bool aw])[o]? :=fun o=>(hb2.cell (p:=⟨w.heap.size,o,none⟩) hzr).trans (hcr o)
             first
               |exact⟨y,m-1,31,_,by omega,by omega,by omega,by omega,rfl,rfl,rfl,prev_month HS2 (by omega),hbr.trans (hb2.mono (by omega)),hz2,hc2⟩
               | (obtain rfl : m = 1 := by omega
                  exact⟨y-1,12,31,_,by omega,by omega,by omega,by omega,rfl,rfl,rfl,prev_year HS2,hbr.trans (hb2.mono (by omega)),hz2,hc2⟩)
           case measure=>simp [intOf];omega)

theorem s7 (v0 v1 v2 v3 v4 v5 v6:Value) (hk: ∀o,o<7→W.cell? ⟨B,o,none⟩=some (.int .i64 0)):
  let W':=((((((W.setCell ⟨B,0,none⟩ v0).setCell ⟨B,1,none⟩ v1).setCell ⟨B,2,none⟩ v2).setCell ⟨B,3,none⟩ v3).setCell ⟨B,4,none⟩ v4).setCell ⟨B,5,none⟩ v5).setCell ⟨B,6,none⟩ v6
  W'.cell? ⟨B,0,none⟩=some v0∧W'.cell? ⟨B,1,none⟩=some v1∧W'.cell? ⟨B,2,none⟩=some v2∧W'.cell? ⟨B,3,none⟩=some v3∧W'.cell? ⟨B,4,none⟩=some v4∧W'.cell? ⟨B,5,none⟩=some v5∧W'.cell? ⟨B,6,none⟩=some v6:=by
 simp [go_sem,hk 0 (by decide),hk 1 (by decide),hk 2 (by decide),hk 3 (by decide),hk 4 (by decide),hk 5 (by decide),hk 6 (by decide)]
theorem b7 {n:Nat} {a:World} (v0 v1 v2 v3 v4 v5 v6:Value) (h:Below n a W) (hB:n≤B):
  Below n a (((((((W.setCell ⟨B,0,none⟩ v0).setCell ⟨B,1,none⟩ v1).setCell ⟨B,2,none⟩ v2).setCell ⟨B,3,none⟩ v3).setCell ⟨B,4,none⟩ v4).setCell ⟨B,5,none⟩ v5).setCell ⟨B,6,none⟩ v6):=
 ((((((h.setCell hB _).setCell hB _).setCell hB _).setCell hB _).setCell hB _).setCell hB _).setCell hB _
theorem f7 {a:Act} {w Wf:World} {d h i s k er:Int} (hp:a.tmps[6]? =some (.pointer (some ⟨B,0,none⟩))) (he:a.tmps[7]? =some (.int .i64 er)) (ha:a.defers=[])
  (hc:Wf.cell? ⟨B,0,none⟩=some (.int .i64 y)∧Wf.cell? ⟨B,1,none⟩=some (.int .i64 m)∧Wf.cell? ⟨B,2,none⟩=some (.int .i64 d)∧Wf.cell? ⟨B,3,none⟩=some (.int .i64 h)∧Wf.cell? ⟨B,4,none⟩=some (.int .i64 i)∧Wf.cell? ⟨B,5,none⟩=some (.int .i64 s)∧Wf.cell? ⟨B,6,none⟩=some (.int .i64 k))
  (hb:Below w.heap.size w Wf):
  bodyPost prog f203 (fun e w'=>e=.returned (.tuple #[civ y m d h i s k,.int .i64 er])∧Below w.heap.size w w') Exit.ret a Wf:=by
 obtain⟨c0,c1,c2,c3,c4,c5,c6⟩:=hc;refine bodyPost_ret (v:=.tuple #[civ y m d h i s k,.int .i64 er]) ?_ ha ⟨rfl,hb⟩;simp [results,results203,go_sem,hp,he,c0,c1,c2,c3,c4,c5,c6]

theorem zero7 {w1:World} {t:TypeId} {o:Obj} (hB:B=W.heap.size) (hc: ∀b o',b<((W.alloc o).alloc (.cells #[.int .i64 0,.int .i64 0,.int .i64 0,.int .i64 0,.int .i64 0,.int .i64 0,.int .i64 0] t)).heap.size→w1.cell? ⟨b,o',none⟩=((W.alloc o).alloc (.cells #[.int .i64 0,.int .i64 0,.int .i64 0,.int .i64 0,.int .i64 0,.int .i64 0,.int .i64 0] t)).cell? ⟨b,o',none⟩):
  ∀o',o'<7→w1.cell? ⟨B+1,o',none⟩=some (.int .i64 0):=by
 intro o' ho;subst hB;rw [hc _ _ (by simp)];have:o'=0∨o'=1∨o'=2∨o'=3∨o'=4∨o'=5∨o'=6:=by omega
 rcases this with rfl|rfl|rfl|rfl|rfl|rfl|rfl<;>simp [go_sem]

theorem begin_yes (mi ho da mo we:Int) (ad aw:Bool) (sec shift:Int) (w:World) (hB:BdsAt w) (hc:chkB mi ho da mo we ad aw=true) (ht:tmB sec=true) (hs:shB shift=true):
  CB 203 #[cronV mi ho da mo we ad aw,.int .i64 sec,.int .i64 shift] w (.tuple #[ofv (sc sec shift),.int .i64 0]):=by
 have hB2:=fun o p=>hB.below (balloc2 o p) (Xa _);have c2:=fun w=>of_yes sec shift w ht hs;generalize sc sec shift=t at c2⊢;clear ht hs;go_enter func203,ntmps203
 go_wp2_with (first
  |(go_at_call 162;(with_reducible refine zg (check_yes _ _ _ _ _ _ _ _ (hB2 _ _) hc) fun w1 hb1=>?_);obtain⟨hc1,hf1⟩:=bcell hb1;have hz1:w.heap.size+1<w1.heap.size:=(by have:=hb1.size;simp at this;omega))
  |(go_at_call 209;(with_reducible refine zg (c2 _) fun w2 hb2=>?_);obtain⟨hc2,hf2⟩:=bcell hb2;have hz2:w.heap.size+1<w2.heap.size:=(by have:=hb2.size;omega)))
 have k:=zero7 (B:=w.heap.size) rfl hc1;exact f7 (B:=w.heap.size+1) rfl rfl rfl (s7 _ _ _ _ _ _ _ (fun o ho=>(hc2 _ _ hz1).trans (k o ho))) (b7 _ _ _ _ _ _ _ (bstep (ballocs hb1) hb2) (by omega))

theorem ans_yes (day minute shift:Int) (w:World) (hd: -5000000≤day∧day≤5000000) (hm: -100≤minute∧minute≤10000) (hs:shB shift=true) (ht:inT (day*86400+(minute-shift)*60)=true):
  CB 208 #[.int .i64 day,.int .i64 minute,.int .i64 shift,.bool true] w (.tuple #[.int .i64 (day*86400+(minute-shift)*60),.bool true,.int .i64 0]):=by
 have h2:=(sh_iff _).1 hs;have c:=fun w=>of_yes (day*86400+(minute-shift)*60) shift w ht hs;clear hs ht;go_enter func208,ntmps208;go_wp2_with(go_at_call 209;(with_reducible refine zg (c _) fun w1 hb1=>?_))
 go_ret3
 exact⟨rfl,bstepA hb1 _⟩

theorem ans_no (day minute shift:Int) (found:Bool) (w:World) (hd: -5000000≤day∧day≤5000000) (hm: -100≤minute∧minute≤10000) (hs:shB shift=true) (ht:inT (day*86400+(minute-shift)*60)=false∨found=false):
  CB 208 #[.int .i64 day,.int .i64 minute,.int .i64 shift,.bool found] w (.tuple #[.int .i64 0,.bool false,.int .i64 0]):=by
 have h2:=(sh_iff _).1 hs;cases hi:inT (day*86400+(minute-shift)*60)
 ·have c:=fun w=>of_no (day*86400+(minute-shift)*60) shift w (Or.inl hi);clear hs ht hi;go_enter func208,ntmps208;go_wp2_with(go_at_call 209;(with_reducible refine zg (c _) fun w1 hb1=>?_))
  go_ret3
  exact⟨rfl,bstepA hb1 _⟩
 ·obtain rfl:found=false:=by rcases ht with h|h;(rw [hi]at h;cases h);exact h
  have c:=fun w=>of_yes (day*86400+(minute-shift)*60) shift w hi hs;clear hs ht hi;go_enter func208,ntmps208;go_wp2_with(go_at_call 209;(with_reducible refine zg (c _) fun w1 hb1=>?_))
  go_ret3
  exact⟨rfl,bstepA hb1 _⟩

def Ans (S:Int) (found:Bool) (n:Int) (ok:Bool):Prop:=(ok=true∧found=true∧n=S∧inT S=true)∨(ok=false∧n=0∧(inT S=false∨found=false))
theorem ans_any (day minute shift:Int) (found:Bool) (w:World) (hd: -5000000≤day∧day≤5000000) (hm: -100≤minute∧minute≤10000) (hs:shB shift=true):
  Calls prog 208 #[.int .i64 day,.int .i64 minute,.int .i64 shift,.bool found] w fun e w'=> ∃n ok,e=.returned (.tuple #[.int .i64 n,.bool ok,.int .i64 0])∧Ans (day*86400+(minute-shift)*60) found n ok∧Below w.heap.size w w':=by
 cases hi:inT (day*86400+(minute-shift)*60)
 ·exact(ans_no day minute shift found w hd hm hs (Or.inl hi)).mono fun e w' ⟨h1,h2⟩=>⟨_,_,h1,Or.inr ⟨rfl,rfl,Or.inl hi⟩,h2⟩
 ·cases found
  ·exact(ans_no day minute shift false w hd hm hs (Or.inr rfl)).mono fun e w' ⟨h1,h2⟩=>⟨_,_,h1,Or.inr ⟨rfl,rfl,Or.inr rfl⟩,h2⟩
  ·exact(ans_yes day minute shift w hd hm hs hi).mono fun e w' ⟨h1,h2⟩=>⟨_,_,h1,Or.inl ⟨rfl,rfl,rfl,hi⟩,h2⟩

theorem last_ans {mi ho da mn we:Int} {ad aw:Bool} {U shift S n:Int} {found:Bool} (u:Int) (hS:found=true→LastN mi ho da mn we ad aw U u∧S=at60 u shift) (hN:found=false→NoneL mi ho da mn we ad aw U) (hA:Ans S found n ok):LastIs mi ho da mn we ad aw U shift n ok:=by
 rcases hA with⟨rfl,hf,rfl,ht⟩|⟨rfl,rfl,h⟩
 ·obtain⟨h1,h2⟩:=hS hf;exact Or.inl ⟨rfl,u,h2,ht,h1⟩
 ·refine Or.inr ⟨rfl,rfl,?_⟩;cases found
  ·exact Or.inl (hN rfl)
  ·obtain⟨h1,h2⟩:=hS rfl;rcases h with h|h
   ·exact Or.inr ⟨u,by rw [←h2];exact h,h1⟩
   ·cases h
theorem mu_bd (mi ho h m:Int) (b0:U mi) (b1:U ho) (hh:0≤h∧h≤23) (hm:0≤m∧m≤59): -100≤mu mi ho h m∧mu mi ho h m≤10000:=by
 have f1:=upt_bd mi m b0 (by omega);have f2:=upt_bd ho (h-1) b1 (by omega);have f3:=upt_bd mi 59 b0 (by omega);unfold mu;split<;>omega


theorem last_core (mi ho da mn we:Int) (ad aw:Bool) (sec shift y m d h i s k U0:Int) (w:World) (hB:BdsAt w) (G:Good mi ho da mn we) (b0:U mi) (b1:U ho) (b2:U da) (b3:U mn) (b4:U we)
  (cb: ∀w,BdsAt w→CB 203 #[cronV mi ho da mn we ad aw,.int .i64 sec,.int .i64 shift] w (.tuple #[civ y m d h i s k,.int .i64 0]))
  (hy: -3900≤y∧y≤7900) (hm:1≤m∧m≤12) (hd:1≤d∧d≤dim y m) (hh:0≤h∧h≤23) (hi:0≤i∧i≤59) (hk:k=(U0/1440+6)%7) (hU:beg y m+d-1=U0/1440) (hU2:U0%1440=h*60+i) (hs:shB shift=true):
  Calls prog 201 #[cronV mi ho da mn we ad aw,.int .i64 sec,.int .i64 shift] w fun e w'=> ∃n ok,e=.returned (.tuple #[.int .i64 n,.bool ok,.int .i64 0])∧LastIs mi ho da mn we ad aw U0 shift n ok∧Below w.heap.size w w':=by
 have db:=dim_bd y m;have n0:=num_bd y m d (vld_mk ⟨by omega,by omega,hm.1,hm.2,hd.1,hd.2⟩);have HN:Hid (num y m d=U0/1440-2180498):=by rw [num_beg y m d,hU];rfl
 have HF:Hid (dayB da mn we ad aw m d k=fitN da mn we ad aw (U0/1440)):=by
  obtain⟨_,e2,e3⟩:=date_is (n:=U0/1440) (y:=y) (m:=m) (d:=d) ⟨hm.1,hm.2,hd.1,hd.2⟩ (by rw [←hU];unfold beg;omega);unfold fitN;rw [e2,e3,←hk];rfl
 have HU:=zh hU2;have HB:=zh hU;have kb:I k:=by unfold I;omega
 have c1:=fun w=>days_yes y m d w (vld_mk ⟨by omega,by omega,hm.1,hm.2,hd.1,hd.2⟩);have c2:=fun w=>minUpTo_any mi ho da mn we ad aw h i w b0 b1 hh hi;have c3:=fun w=>day_any mi ho da mn we ad aw y m d h i s k w b2 b3 b4 (by unfold I;omega) (by unfold I;omega) kb;have c4:=fun w=>ahead_any mi ho da mn we ad aw y m d h i s k w G hy hm hd;have c5:=fun w=>minUpTo_any mi ho da mn we ad aw 23 59 w b0 b1 (by omega) (by omega);have c6:=fun day minute found w hd hm=>ans_any day minute shift found w hd hm hs;have fb:=mu_bd mi ho h i b0 b1 hh hi;have fb0:=mu_bd mi ho 23 59 b0 b1 (by omega) (by omega);rw [muB00 G]at c5;have hh2:=(sh_iff _).1 hs;clear hU hU2 hk;cases g1:muB mi ho h i<;>cases g2:dayB da mn we ad aw m d k
 all_goals
  rw [g1]at c2;rw [g2]at c3;have H1:=zh g1;have H2:Hid (fitN da mn we ad aw (U0/1440)=_):=(show _=_ from HF).symm.trans g2;clear g1 g2;go_enter func201,ntmps201
  go_wp2_with (first
   |(go_at_call 203;(with_reducible refine zg (cb _ (hB.below (balloc _) (Xa _))) fun w1 hb1=>?_);have hw1:Hid (Below w.heap.size w w1):=(balloc _).trans (hb1.mono (by simp));obtain⟨hc1,hf1⟩:=bcell hb1;have hz1:w.heap.size<w1.heap.size:=(by have:=hb1.size;simp at this;omega);have hz1':w.heap.size<w1.heap.size+1:=(by omega))
   |(go_at_call 204;(with_reducible refine(c1 _).mono ?_);rintro e w9 ⟨rfl,rfl⟩)
   |(go_at_call 205;(with_reducible refine zg (c2 _) fun w2 hb2=>?_);have hw2:Hid (Below w.heap.size w w2):=bstep hw1 ((balloc _).trans (hb2.mono (by simp)));obtain⟨hc2,hf2⟩:=bcell hb2;have hz2:w.heap.size<w2.heap.size:=(by have:=hb2.size;simp at this;omega);have hy2:w1.heap.size<w2.heap.size:=(by have:=hb2.size;simp at this;omega))
   |(go_at_call 206;(with_reducible refine zg (c3 _) fun w3 hb3=>?_);have hw3:Hid (Below w.heap.size w w3):=bstep hw2 hb3;obtain⟨hc3,hf3⟩:=bcell hb3;have hz3:w.heap.size<w3.heap.size:=(by have:=hb3.size;omega);have hy3:w1.heap.size<w3.heap.size:=(by have:=hb3.size;omega))
   |(go_at_call 207;(with_reducible refine(c4 _).mono ?_);rintro e w4 ⟨n2,ok2,rfl,hBh,hb4⟩;have hw4:Hid (Below w.heap.size w w4):=(by first|exact bstep hw3 hb4|exact bstep hw2 hb4);have nb2: -5000000≤n2∧n2≤5000000:=hBh.1;have HBh:Hid (Ahead da mn we ad aw (U0/1440) n2 ok2):=(by have hx:=hBh;rw [show beg y m+d-1=U0/1440 from HB]at hx;exact hx);clear hBh;obtain⟨hc4,hf4⟩:=bcell hb4;have hz4:w.heap.size<w4.heap.size:=(by have:=hb4.size;omega))
   |(go_at_call 205;(with_reducible refine zg (c5 _) fun w5 hb5=>?_);have hw5:Hid (Below w.heap.size w w5):=bstep hw4 hb5)
   |(go_at_call 208;(with_reducible refine(c6 _ _ _ _ (by omega) (by omega)).mono ?_);rintro e w6 ⟨n6,ok6,rfl,hA,hb6⟩))
  go_ret3
  refine⟨n6,ok6,rfl,?_,(by first|exact bstep hw5 hb6|exact bstep hw3 hb6)⟩
  first
   |exact last_ans ((n2+2180498)*1440+mu mi ho 23 59) (fun hx=>⟨last_ahead G (none_before G hh hi HU (by first|exact Or.inl H2|exact Or.inr H1)) (hx▸HBh),by unfold at60;omega⟩) (fun hx=>last_never (none_before G hh hi HU (by first|exact Or.inl H2|exact Or.inr H1)) (hx▸HBh)) hA
   |exact last_ans (U0/1440*1440+mu mi ho h i) (fun _=>⟨last_today G hh hi HU H2 H1,(by have hx:num y m d=U0/1440-2180498:=HN;unfold at60;omega)⟩) (fun hx=>(by cases hx)) hA

def minOf (sec shift:Int):Int:=sc sec shift/60

theorem yr_mid (n:Int) (h1:1000000≤n) (h2:n≤4000000): -3900≤yr n∧yr n≤7900:=by
 have a:=yr_bd n (by omega) h2;obtain⟨b1,b2⟩:=yr_spec n;refine⟨?_,by omega⟩;by_cases g: -3900≤yr n
 ·exact g
 ·have:=ys_mono (yr n+1) (-3900) (by omega);have e:ys (-3900)=36525:=by decide
  omega

section
variable (mi ho da mn we : Int) (ad aw : Bool) (sec shift : Int) (w : World)
theorem last_yes (hB:BdsAt w) (b0:U mi) (b1:U ho) (b2:U da) (b3:U mn) (b4:U we) (hc:chkB mi ho da mn we ad aw=true) (ht:tmB sec=true) (hs:shB shift=true):
  Calls prog 201 #[cronV mi ho da mn we ad aw,.int .i64 sec,.int .i64 shift] w fun e w'=> ∃n ok,e=.returned (.tuple #[.int .i64 n,.bool ok,.int .i64 0])∧LastIs mi ho da mn we ad aw (minOf sec shift) shift n ok∧Below w.heap.size w w':=by
 have h1:=(tm_iff _).1 ht;have h2:=(sh_iff _).1 hs;have cb:=fun w hB=>begin_yes mi ho da mn we ad aw sec shift w hB hc ht hs;obtain⟨d1,d2,d3,d4,d5⟩:=date_spec (sc sec shift/86400);have hy:=yr_mid (sc sec shift/86400) (by unfold sc;omega) (by unfold sc;omega);refine last_core mi ho da mn we ad aw sec shift _ _ _ _ _ _ _ (minOf sec shift) w hB (good_of b0 b1 b2 b3 b4 hc) b0 b1 b2 b3 b4 cb hy ⟨d1,d2⟩ ⟨d3,d4⟩ (by omega) (by omega) ?_ ?_ ?_ hs
 ·unfold minOf;omega
 ·unfold minOf beg;omega
 ·unfold minOf;omega

end

def mt (c:K):Int→Bool:=mtN c.mi c.ho c.da c.mn c.we c.ad c.aw
def LastR (c:K) (U shift n:Int) (ok:Bool):Prop:=(ok=true∧ ∃x,n=at60 x shift∧LOk (mt c) U shift x)∨(ok=false∧n=0∧ ∀x,¬LOk (mt c) U shift x)
theorem lastR_of {c:K} {U shift n:Int} (h:LastIs c.mi c.ho c.da c.mn c.we c.ad c.aw U shift n ok):LastR c U shift n ok:=by
 rcases h with⟨h1,u,h2,h3,h4⟩|⟨h1,h2,h3⟩
 ·exact Or.inl ⟨h1,u,h2,h4,by rw [←h2];exact h3⟩
 ·refine Or.inr ⟨h1,h2,fun x hx=> ?_⟩;have hx1:LastN c.mi c.ho c.da c.mn c.we c.ad c.aw U x:=hx.1;rcases h3 with h3|⟨u,h3,h4⟩
  ·have:=h3 x hx1.1 hx1.2.1;rw [hx1.2.2.1]at this;cases this
  ·have h5:=hx.2;rw [last_one hx1 h4,h3]at h5;cases h5
theorem lok_one {U shift:Int} (h:LOk P U shift x) (g:LOk P U shift y):x=y:=by
 obtain⟨⟨a1,a2,a3,a4⟩,_⟩:=h;obtain⟨⟨b1,b2,b3,b4⟩,_⟩:=g;rcases Int.lt_trichotomy x y with c|c|c
 ·have:=a4 y c b1;rw [b3]at this;cases this
 ·exact c
 ·have:=b4 x c a1;rw [a3]at this;cases this
section
variable (a b : K) (sec shift : Int) (w : World)
theorem lastK (hB:BdsAt w) (u:Us a) (hc:kc a=true) (ht:tmB sec=true) (hs:shB shift=true):
  Calls prog 201 #[kV a,.int .i64 sec,.int .i64 shift] w fun e w'=> ∃n ok,e=.returned (.tuple #[.int .i64 n,.bool ok,.int .i64 0])∧LastR a (minOf sec shift) shift n ok∧Below w.heap.size w w':=
 (last_yes _ _ _ _ _ _ _ sec shift w hB u.u0 u.u1 u.u2 u.u3 u.u4 hc ht hs).mono fun _ _ ⟨n,ok,he,hn,hb⟩=>⟨n,ok,he,lastR_of hn,hb⟩
theorem inR_no {U shift:Int} (h: ∀x,¬LOk P U shift x):false=true↔InP P Q U shift:=by
 refine⟨fun h=>(by cases h),?_⟩;rintro⟨x,hx,_⟩;exact absurd hx (h x)
theorem inR_yes {U shift:Int} (h:LOk P U shift x) (g: ∀x,¬LOk Q U shift x):true=true↔InP P Q U shift:=
 ⟨fun _=>⟨x,h,fun y hy=>absurd hy (g y)⟩,fun _=>rfl⟩
theorem inR_two {U shift n:Int} (h:LOk P U shift x) (g:LOk Q U shift y) (hn:n=at60 x shift) (hm:m=at60 y shift):decide (m≤n)=true↔InP P Q U shift:=by
 rw [decide_eq_true_eq,hn,hm];constructor
 ·intro e;refine⟨x,h,fun z hz=> ?_⟩;rw [lok_one hz g];unfold at60 at e;omega
 ·rintro⟨z,hz,hy⟩;have:=hy y g;rw [lok_one hz h]at this;unfold at60;omega

theorem sin_yes (hB:BdsAt w) (ua:Us a) (ub:Us b) (ha:kc a=true) (hb:kc b=true) (ht:tmB sec=true) (hs:shB shift=true):
  Calls prog 194 #[spanV a b,.int .i64 sec,.int .i64 shift] w fun e w'=> ∃r,e=.returned (.tuple #[.bool r,.int .i64 0])∧(r=true↔InP (mt a) (mt b) (minOf sec shift) shift)∧Below w.heap.size w w':=by
 have c1:=fun w hB=>scheck_yes a b w hB ha hb;have c2:=fun w hB=>lastK a sec shift w hB ua ha ht hs;have c3:=fun w hB=>lastK b sec shift w hB ub hb ht hs;clear ha hb ht hs ua ub;go_enter func194,ntmps194
 go_wp2_with (first
  |(go_at_call 134;(with_reducible refine zg (c1 _ (hB.below (balloc _) (Xa _))) fun w1 hb1=>?_);have hB1:BdsAt w1:=(hB.below (balloc _) (Xa _)).below hb1 (Xa _);have hw1:Hid (Below w.heap.size w w1):=(balloc _).trans (hb1.mono (by simp));obtain⟨hc1,hf1⟩:=bcell hb1;have hz1:w.heap.size<w1.heap.size:=(by have:=hb1.size;simp at this;omega))
  |(go_at_call 201;(with_reducible refine(c2 _ hB1).mono ?_);rintro e w2 ⟨n,ok,rfl,hN,hb2⟩;have hB2:BdsAt w2:=hB1.below hb2 (Xa _);have hw2:Hid (Below w.heap.size w w2):=bstep hw1 hb2;obtain⟨hc2,hf2⟩:=bcell hb2;rcases hN with⟨rfl,x,HX,hX⟩|⟨rfl,rfl,hX⟩;all_goals((try(replace HX:Hid _:=HX));replace hX:Hid _:=hX))
  |(go_at_call 201;(with_reducible refine(c3 _ hB2).mono ?_);rintro e w3 ⟨m,ok,rfl,hM,hb3⟩;rcases hM with⟨rfl,y,HY,hY⟩|⟨rfl,rfl,hY⟩;all_goals((try(replace HY:Hid _:=HY));replace hY:Hid _:=hY)))
 all_goals first
  |(go_ret2;exact⟨_,rfl,inR_two hX.out hY.out HX.out HY.out,bstep hw2 hb3⟩)
  |(go_ret2;exact⟨_,rfl,inR_yes hX.out hY.out,bstep hw2 hb3⟩)
  |(go_ret2;exact⟨_,rfl,inR_no hX.out,hw2⟩)
end

def InQ (q:Bool) (a b:K) (U shift:Int):Prop:=q=true↔InP (mt a) (mt b) U shift
section
variable (a b : K) (sec shift : Int) (w : World)
end
