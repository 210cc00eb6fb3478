/- A part. -/
import Derived.Lib.TrailingZeros
import Derived.Lib.BitFns
import Derived.Test.YthiapcajheepbaaGreatDoorPwNumPlain
set_option linter.all false
open Go.Proofs.Tryz
namespace Go.Proofs.YthiapcajheepbaaGreatDoor
namespace Crn
open Go.RowKit
variable {mi ho da we s x full S lo hi k:Int} {ad aw u v:Bool}

def U (s:Int):Prop:=0≤s∧s≤18446744073709551615
def I (n:Int):Prop:= -9223372036854775808≤n∧n≤9223372036854775807

def inS (s n:Int):Bool:=decide (0≤n)&&(decide (n≤63)&&s.toNat.testBit n.toNat)

def fMin:Int:=1152921504606846975
def fHour:Int:=16777215
def fDay:Int:=4294967294
def fMon:Int:=8190
def fWeek:Int:=127

def okB (s full:Int) (any:Bool):Bool:= !(decide (s=0)||(decide (bits .andNot .u64 s full≠0)||(any&&decide (s≠full))))
def chkB (mi ho da mo we:Int) (ad aw:Bool):Bool:=okB mi fMin false&&(okB ho fHour false&&(okB da fDay ad&&(okB mo fMon false&&okB we fWeek aw)))
def chkE (mi ho da mo we:Int) (ad aw:Bool):Int:=if chkB mi ho da mo we ad aw=true then 0 else 1

abbrev cronV (mi ho da mo we:Int) (ad aw:Bool):Value:=.agg #[.int .u64 mi,.int .u64 ho,.int .u64 da,.int .u64 mo,.int .u64 we,.bool ad,.bool aw]

def dayB (da mo we:Int) (ad aw:Bool) (m d k:Int):Bool:=inS mo m&&((inS da d&&inS we k)||((!ad&& !aw)&&(inS da d||inS we k)))
def mtB (mi ho da mo we:Int) (ad aw:Bool) (m d h i k:Int):Bool:=dayB da mo we ad aw m d k&&(inS ho h&&inS mi i)

theorem and1 (s n:Int) (h0:0≤s) (h1:s≤18446744073709551615) (hn:0≤n) (hm:n≤63):bits .and .u64 (s/2^n.toNat) 1=if inS s n=true then 1 else 0:=by
 obtain⟨S,rfl⟩:=Xh h0;obtain⟨N,rfl⟩:=Xh hn;have e:((S:Int)/2^(N:Int).toNat)=((S/2^N:Nat):Int):=by simp
 have hlt:S/2^N<18446744073709551616:=Nat.lt_of_le_of_lt (Nat.div_le_self _ _) (by omega);rw [e,show(1:Int)=((1:Nat):Int)from rfl,u64_and_nat _ _ hlt (by decide),Nat.and_one_is_mod];have hb:inS (S:Int) (N:Int)=decide (S/2^N%2=1):=by
  unfold inS;rw [XI,XI,Nat.testBit_eq_decide_div_mod_eq,decide_eq_true (by omega:(0:Int)≤N),decide_eq_true hm];rfl
 rw [hb];rcases Nat.mod_two_eq_zero_or_one (S/2^N)with g|g<;>simp [g]
def okK (mi ho da mo we:Int) (ad aw:Bool):Nat→Bool
 |0=>okB mi fMin false
 |1=>okB ho fHour false
 |2=>okB da fDay ad
 |3=>okB mo fMon false
 |_=>okB we fWeek aw
theorem chk_good {mo:Int} (h: ∀j,j<5→okK mi ho da mo we ad aw j=true):chkB mi ho da mo we ad aw=true:=by
 have h0:okB mi fMin false=true:=h 0 (by decide);have h1:okB ho fHour false=true:=h 1 (by decide);have h2:okB da fDay ad=true:=h 2 (by decide);have h3:okB mo fMon false=true:=h 3 (by decide);have h4:okB we fWeek aw=true:=h 4 (by decide);simp [chkB,h0,h1,h2,h3,h4]
theorem chk_bad {mo:Int} (k:Nat) (h:okK mi ho da mo we ad aw k=false):chkB mi ho da mo we ad aw=false:=by
 match k,h with
 |0,h=>have h:okB mi fMin false=false:=h;simp [chkB,h]
 |1,h=>have h:okB ho fHour false=false:=h;simp [chkB,h]
 |2,h=>have h:okB da fDay ad=false:=h;simp [chkB,h]
 |3,h=>have h:okB mo fMon false=false:=h;simp [chkB,h]
 |k+4,h=>have h:okB we fWeek aw=false:=h;simp [chkB,h]
theorem chkE_good {mo:Int} (h: ∀j,j<5→okK mi ho da mo we ad aw j=true):0=chkE mi ho da mo we ad aw:=by
 unfold chkE;rw [if_pos (chk_good h)]
theorem chkE_bad {mo:Int} (k:Nat) (h:okK mi ho da mo we ad aw k=false):1=chkE mi ho da mo we ad aw:=by
 unfold chkE;rw [if_neg (by rw [chk_bad k h];decide)]
theorem ok_step {mo:Int} {k:Nat} (h: ∀j,j<k→okK mi ho da mo we ad aw j=true) (g:okK mi ho da mo we ad aw k=true): ∀j,j<k+1→okK mi ho da mo we ad aw j=true:=by
 intro j hj;rcases Nat.lt_or_ge j k with h1|h1
 ·exact h j h1
 ·obtain rfl:j=k:=by omega
  exact g

theorem inS_nat (S N:Nat):inS (S:Int) (N:Int)=(decide (N≤63)&&S.testBit N):=by
 unfold inS;rw [XI,XI,decide_eq_true (show(0:Int)≤N by omega)];rw [show decide ((N:Int)≤63)=decide (N≤63) by rw [decide_eq_decide];omega];rfl
theorem inS_neg (s n:Int) (h:n<0):inS s n=false:=by unfold inS;rw [decide_eq_false (by omega)];rfl
theorem inS_big (s n:Int) (h:63<n):inS s n=false:=by unfold inS;rw [decide_eq_false (show¬n≤63 by omega)];simp
theorem inS_bd {n:Int} (h:inS s n=true):0≤n∧n≤63:=by
 refine⟨?_,?_⟩
 ·by_cases g:0≤n
  ·exact g
  ·rw [inS_neg s n (by omega)]at h;cases h
 ·by_cases g:n≤63
  ·exact g
  ·rw [inS_big s n (by omega)]at h;cases h

def hiS (s n:Int):Int:=s/2^n.toNat*2^n.toNat
def frm (s n:Int):Int:=Lib.ctz 64 (hiS s n).toNat
def frmB (s n:Int):Bool:=decide (hiS s n≠0)

theorem hiS_nat (S N:Nat):hiS (S:Int) (N:Int)=((S/2^N*2^N:Nat):Int):=by unfold hiS;simp
theorem hi_bit (S N i:Nat):(S/2^N*2^N).testBit i=(decide (N≤i)&&S.testBit i):=by
 rw [←Nat.shiftRight_eq_div_pow,←Nat.shiftLeft_eq,Nat.testBit_shiftLeft,Nat.testBit_shiftRight];by_cases h:N≤i
 ·rw [show N+(i-N)=i by omega]
 ·simp [h]
theorem hi_lt (S N:Nat) (h:S<2^64):S/2^N*2^N<2^64:=Nat.lt_of_le_of_lt (Nat.div_mul_le_self _ _) h

theorem ctz_spec (x:Nat) (h0:x≠0) (h:x<2^64):Lib.ctz 64 x<64∧x.testBit (Lib.ctz 64 x)=true∧ ∀i,i<Lib.ctz 64 x→x.testBit i=false:=by
 obtain⟨m,hm,hk⟩:=Lib.ctzFrom_spec 64 x (by omega) h;have e:Lib.ctz 64 x=Lib.ctzFrom 64 x:=by unfold Lib.ctz;rw [if_neg h0]
 rw [e];generalize Lib.ctzFrom 64 x=k at hm hk;refine⟨hk,?_,?_⟩
 ·rw [hm,Nat.mul_comm,←Nat.shiftLeft_eq,Nat.testBit_shiftLeft];simp
 ·intro i hi;rw [hm,Nat.mul_comm,←Nat.shiftLeft_eq,Nat.testBit_shiftLeft];simp;omega
theorem frm_yes (s n:Int) (h0:0≤s∧s≤18446744073709551615) (hn:0≤n) (h:frmB s n=true):
  n≤frm s n∧frm s n≤63∧inS s (frm s n)=true∧ ∀m,n≤m→m<frm s n→inS s m=false:=by
 obtain⟨S,rfl⟩:=Xh h0.1;obtain⟨N,rfl⟩:=Xh hn;unfold frmB at h;unfold frm;rw [hiS_nat,decide_eq_true_eq]at h;rw [hiS_nat,XI];have hx0:S/2^N*2^N≠0:=by intro e;rw [e]at h;exact h rfl
 obtain⟨h1,h2,h3⟩:=ctz_spec _ hx0 (hi_lt S N (by omega));generalize Lib.ctz 64 (S/2^N*2^N)=k at h1 h2 h3;rw [hi_bit,Xq,decide_eq_true_eq]at h2;refine⟨by omega,by omega,?_,?_⟩
 ·rw [inS_nat,h2.2,decide_eq_true (show k≤63 by omega)];rfl
 ·intro m g1 g2;obtain⟨M,rfl⟩:=Xh (show 0≤m by omega);have:=h3 M (by omega);rw [hi_bit,decide_eq_true (show N≤M by omega),XJ]at this;rw [inS_nat,this,XP]
def loS (s n:Int):Int:=s%2^(n+1).toNat
def upt (s n:Int):Int:=Lib.bitLen (loS s n).toNat-1
def uptB (s n:Int):Bool:=decide (loS s n≠0)

theorem loS_nat (S N:Nat):loS (S:Int) ((N:Int)-1)=((S%2^N:Nat):Int):=by
 unfold loS;rw [show((N:Int)-1+1).toNat=N by omega];simp
theorem bl (x:Nat) (h0:x≠0) (h:x<2^64):Lib.bitLen x=Nat.log2 x+1:=by
 have h1:=Nat.log2_self_le h0;have h2:x<2^(Nat.log2 x+1):=Nat.lt_log2_self;rw [Lib.bitLen_shift (Nat.log2 x) x h1 h];have:x/2^(Nat.log2 x)=1:=by
  apply Nat.div_eq_of_lt_le
  ·omega
  ·rw [Nat.pow_succ]at h2;omega
 rw [this];rfl
theorem log_spec (x:Nat) (h0:x≠0):x.testBit (Nat.log2 x)=true∧ ∀i,Nat.log2 x<i→x.testBit i=false:=by
 have h1:=Nat.log2_self_le h0;have h2:x<2^(Nat.log2 x+1):=Nat.lt_log2_self;refine⟨?_,fun i hi=> ?_⟩
 ·have:x/2^(Nat.log2 x)=1:=by
   apply Nat.div_eq_of_lt_le
   ·omega
   ·rw [Nat.pow_succ]at h2;omega
  rw [Nat.testBit_eq_decide_div_mod_eq,this];rfl
 ·apply Nat.testBit_lt_two_pow;exact Xb h2 (Yd (by omega) (by omega))
theorem lo_lt (S N:Nat) (h:S<2^64):S%2^N<2^64:=Nat.lt_of_le_of_lt (Nat.mod_le _ _) h
theorem upt_yes (s n:Int) (h0:0≤s∧s≤18446744073709551615) (hn: -1≤n) (h:uptB s n=true):
  0≤upt s n∧upt s n≤n∧upt s n≤63∧inS s (upt s n)=true∧ ∀m,upt s n<m→m≤n→inS s m=false:=by
 obtain⟨S,rfl⟩:=Xh h0.1;obtain⟨N,hN⟩:=Xh (show 0≤n+1 by omega);obtain rfl:n=(N:Int)-1:=by omega
 unfold uptB at h;unfold upt;rw [loS_nat,decide_eq_true_eq]at h;rw [loS_nat,XI];have hx0:S%2^N≠0:=by intro e;rw [e]at h;exact h rfl
 rw [bl _ hx0 (lo_lt S N (by omega))];obtain⟨h1,h2⟩:=log_spec _ hx0;have h3:Nat.log2 (S%2^N)<64:=(Nat.log2_lt hx0).2 (lo_lt S N (by omega));generalize Nat.log2 (S%2^N)=k at h1 h2 h3;rw [Nat.testBit_mod_two_pow,Xq,decide_eq_true_eq]at h1;rw [show((k+1:Nat):Int)-1=(k:Int) by omega];refine⟨by omega,by omega,by omega,?_,?_⟩
 ·rw [inS_nat,h1.2,decide_eq_true (show k≤63 by omega)];rfl
 ·intro m g1 g2;obtain⟨M,rfl⟩:=Xh (show 0≤m by omega);have:=h2 M (by omega);rw [Nat.testBit_mod_two_pow,decide_eq_true (show M<N by omega),XJ]at this;rw [inS_nat,this,XP]
theorem upt_no (s n:Int) (h0:0≤s∧s≤18446744073709551615) (hn: -1≤n) (h:uptB s n=false): ∀m,m≤n→inS s m=false:=by
 intro m hm;by_cases hm0:m<0
 ·exact inS_neg _ _ hm0
 obtain⟨S,rfl⟩:=Xh h0.1;obtain⟨N,hN⟩:=Xh (show 0≤n+1 by omega);obtain rfl:n=(N:Int)-1:=by omega
 obtain⟨M,rfl⟩:=Xh (show 0≤m by omega);unfold uptB at h;rw [loS_nat,decide_eq_false_iff_not]at h;have hx0:S%2^N=0:=by omega
 have:(S%2^N).testBit M=(decide (M<N)&&S.testBit M):=Nat.testBit_mod_two_pow _ _ _;rw [hx0,Nat.zero_testBit,decide_eq_true (show M<N by omega),XJ]at this;rw [inS_nat,←this,XP]
theorem upt_zero (s n:Int) (h:uptB s n=false):upt s n= -1:=by
 unfold uptB at h;rw [decide_eq_false_iff_not]at h;have:loS s n=0:=by omega
 unfold upt;rw [this];rfl
theorem uptB_mk {n m:Int} (h0:0≤s∧s≤18446744073709551615) (hn: -1≤n) (hm:m≤n) (h:inS s m=true):uptB s n=true:=by
 cases g:uptB s n
 ·rw [upt_no s n h0 hn g m hm]at h;cases h
 ·rfl

theorem in_and (a b n:Int) (ha:0≤a∧a≤18446744073709551615) (hb:0≤b∧b≤18446744073709551615):inS (bits .and .u64 a b) n=(inS a n&&inS b n):=by
 rw [u64_and a b ha.1 (by omega) hb.1 (by omega)];obtain⟨A,rfl⟩:=Xh ha.1;obtain⟨B,rfl⟩:=Xh hb.1;by_cases hn:n<0
 ·rw [inS_neg _ _ hn,inS_neg _ _ hn];rfl
 obtain⟨N,rfl⟩:=Xh (show 0≤n by omega);rw [XI,XI,inS_nat,inS_nat,inS_nat,Nat.testBit_and];cases decide (N≤63)<;>simp
theorem in_or (a b n:Int) (ha:0≤a∧a≤18446744073709551615) (hb:0≤b∧b≤18446744073709551615):inS (bits .or .u64 a b) n=(inS a n||inS b n):=by
 rw [u64_or a b ha.1 (by omega) hb.1 (by omega)];obtain⟨A,rfl⟩:=Xh ha.1;obtain⟨B,rfl⟩:=Xh hb.1;by_cases hn:n<0
 ·rw [inS_neg _ _ hn,inS_neg _ _ hn];simp [inS_neg _ _ hn]
 obtain⟨N,rfl⟩:=Xh (show 0≤n by omega);rw [XI,XI,inS_nat,inS_nat,inS_nat,Nat.testBit_or];cases decide (N≤63)<;>simp
theorem u_and (a b:Int) (ha:0≤a∧a≤18446744073709551615) (hb:0≤b∧b≤18446744073709551615):0≤bits .and .u64 a b∧bits .and .u64 a b≤18446744073709551615:=by
 rw [u64_and a b ha.1 (by omega) hb.1 (by omega)];have:a.toNat&&&b.toNat<2^64:=Nat.and_lt_two_pow _ (by omega);omega
theorem u_or (a b:Int) (ha:0≤a∧a≤18446744073709551615) (hb:0≤b∧b≤18446744073709551615):0≤bits .or .u64 a b∧bits .or .u64 a b≤18446744073709551615:=by
 rw [u64_or a b ha.1 (by omega) hb.1 (by omega)];have:a.toNat|||b.toNat<2^64:=Nat.or_lt_two_pow (by omega) (by omega);omega
theorem in_andNot (a b n:Int) (ha:0≤a∧a≤18446744073709551615) (hb:0≤b∧b≤18446744073709551615):inS (bits .andNot .u64 a b) n=(inS a n&& !inS b n):=by
 rw [u64_andNot a b ha.1 (by omega) hb.1 (by omega)];obtain⟨A,rfl⟩:=Xh ha.1;obtain⟨B,rfl⟩:=Xh hb.1;by_cases hn:n<0
 ·rw [inS_neg _ _ hn,inS_neg _ _ hn];rfl
 obtain⟨N,rfl⟩:=Xh (show 0≤n by omega);rw [XI,XI,inS_nat,inS_nat,inS_nat,Nat.testBit_and];rw [show 18446744073709551615-B=2^64-(B+1) by omega,Nat.testBit_two_pow_sub_succ (show B<2^64 by omega) N];by_cases h:N≤63
 ·rw [decide_eq_true h,decide_eq_true (show N<64 by omega)];simp
 ·rw [decide_eq_false h];rfl
theorem u_andNot (a b:Int) (ha:0≤a∧a≤18446744073709551615) (hb:0≤b∧b≤18446744073709551615):0≤bits .andNot .u64 a b∧bits .andNot .u64 a b≤18446744073709551615:=by
 rw [u64_andNot a b ha.1 (by omega) hb.1 (by omega)];have:a.toNat&&&(18446744073709551615-b.toNat)<2^64:=Nat.and_lt_two_pow _ (by omega);omega
theorem in_shr (a k n:Int) (ha:0≤a∧a≤18446744073709551615) (hk:0≤k) (hn:0≤n):inS (a/2^k.toNat) n=inS a (n+k):=by
 obtain⟨A,rfl⟩:=Xh ha.1;obtain⟨K,rfl⟩:=Xh hk;obtain⟨N,rfl⟩:=Xh hn;rw [XI,show((A:Int)/2^K)=((A/2^K:Nat):Int) by simp,show(N:Int)+(K:Int)=((N+K:Nat):Int) by simp,inS_nat,inS_nat,←Nat.shiftRight_eq_div_pow,Nat.testBit_shiftRight,Nat.add_comm K N];by_cases h:N+K≤63
 ·rw [decide_eq_true h,decide_eq_true (show N≤63 by omega)]
 ·rw [decide_eq_false h];rw [Nat.testBit_lt_two_pow (Xb (show A<2^64 by omega) (Yd (by omega) (by omega)))];simp
theorem in_shl (a k n:Int) (ha:0≤a∧a≤18446744073709551615) (hk:0≤k):inS (IntKind.u64.wrap (a*2^k.toNat)) n=(decide (n≤63)&&inS a (n-k)):=by
 obtain⟨A,rfl⟩:=Xh ha.1;obtain⟨K,rfl⟩:=Xh hk;by_cases hn:n<0
 ·rw [inS_neg _ _ hn,inS_neg _ _ (by omega)];simp
 obtain⟨N,rfl⟩:=Xh (show 0≤n by omega);rw [Yj,XI,show((A:Int)*2^K)%18446744073709551616=((A*2^K%2^64:Nat):Int) by simp,inS_nat,Nat.testBit_mod_two_pow,←Nat.shiftLeft_eq,Nat.testBit_shiftLeft];by_cases h:N≤63
 ·rw [decide_eq_true h,decide_eq_true (show N<64 by omega),decide_eq_true (show(N:Int)≤63 by omega),XJ,XJ,XJ];by_cases g:K≤N
  ·rw [decide_eq_true (show N≥K from g),show(N:Int)-(K:Int)=((N-K:Nat):Int) by omega,inS_nat,decide_eq_true (show N-K≤63 by omega)]
  ·rw [decide_eq_false (show¬N≥K from g),inS_neg _ _ (by omega)];rfl
 ·rw [decide_eq_false h,decide_eq_false (show¬(N:Int)≤63 by omega)];rfl

def okM (mi ho x:Int):Bool:=inS ho (x/60)&&inS mi (x%60)
def Upto (s n:Int):Prop:=(0≤s∧s≤18446744073709551615)∧ ∀k,inS s k=true→k≤n

def muB (mi ho h m:Int):Bool:=(uptB mi m&&inS ho h)||uptB ho (h-1)
def mu (mi ho h m:Int):Int:=if(uptB mi m&&inS ho h)=true then h*60+upt mi m else upt ho (h-1)*60+upt mi 59

theorem okM_no1 (h:inS ho (x/60)=false):okM mi ho x=false:=by unfold okM;rw [h];rfl
theorem okM_no2 (h:inS mi (x%60)=false):okM mi ho x=false:=by unfold okM;rw [h,XP]
theorem okM_yes (h:inS ho (x/60)=true) (g:inS mi (x%60)=true):okM mi ho x=true:=by unfold okM;rw [h,g];rfl

theorem mu_yes (mi ho h m:Int) (hm:Upto mi 59) (hh:Upto ho 23) (h0:0≤h∧h≤23) (m0:0≤m∧m≤59) (hne: ∃k,inS mi k=true) (hy:muB mi ho h m=true):
  mu mi ho h m≤h*60+m∧0≤mu mi ho h m∧okM mi ho (mu mi ho h m)=true∧ ∀y,mu mi ho h m<y→y≤h*60+m→okM mi ho y=false:=by
 unfold muB at hy;unfold mu;cases hc:(uptB mi m&&inS ho h)
 ·rw [hc,Ya]at hy;rw [if_neg (by decide)];obtain⟨a0,a1,a2,a3,a4⟩:=upt_yes ho (h-1) hh.1 (by omega) hy;obtain⟨k,hk⟩:=hne;have hk0:=inS_bd hk;obtain⟨b0,b1,b2,b3,b4⟩:=upt_yes mi 59 hm.1 (by omega) (uptB_mk hm.1 (by omega) (hm.2 _ hk) hk);have c1:=hm.2 _ b3;have c2:=hh.2 _ a3;generalize upt ho (h-1)=H at a0 a1 a2 a3 a4 c2;generalize upt mi 59=M at b0 b1 b2 b3 b4 c1;refine⟨by omega,by omega,?_,?_⟩
  ·exact okM_yes (by rw [show(H*60+M)/60=H by omega];exact a3) (by rw [show(H*60+M)%60=M by omega];exact b3)
  ·intro y g1 g2;by_cases e1:y/60=h
   ·rw [Yb]at hc;rcases hc with hc|hc
    ·exact okM_no2 (upt_no mi m hm.1 (by omega) hc _ (by omega))
    ·exact okM_no1 (by rw [e1];exact hc)
   ·by_cases e2:H<y/60
    ·exact okM_no1 (a4 _ e2 (by omega))
    ·exact okM_no2 (b4 _ (by omega) (by omega))
 ·rw [if_pos rfl];rw [Xq]at hc;obtain⟨a0,a1,a2,a3,a4⟩:=upt_yes mi m hm.1 (by omega) hc.1;have c1:=hm.2 _ a3;generalize upt mi m=M at a0 a1 a2 a3 a4 c1;refine⟨by omega,by omega,?_,?_⟩
  ·exact okM_yes (by rw [show(h*60+M)/60=h by omega];exact hc.2) (by rw [show(h*60+M)%60=M by omega];exact a3)
  ·intro y g1 g2;exact okM_no2 (a4 _ (by omega) (by omega))

theorem mu_no (mi ho h m:Int) (hm:Upto mi 59) (hh:Upto ho 23) (h0:0≤h∧h≤23) (m0:0≤m∧m≤59) (hy:muB mi ho h m=false):
  ∀y,y≤h*60+m→okM mi ho y=false:=by
 intro y g1;unfold muB at hy;rw [Bool.or_eq_false_iff]at hy;obtain⟨hc,hy⟩:=hy;by_cases e1:y/60=h
 ·rw [Yb]at hc;rcases hc with hc|hc
  ·exact okM_no2 (upt_no mi m hm.1 (by omega) hc _ (by omega))
  ·exact okM_no1 (by rw [e1];exact hc)
 ·exact okM_no1 (upt_no ho (h-1) hh.1 (by omega) hy _ (by omega))

theorem full_in (k:Nat):inS 1152921504606846975 (k:Int)=decide (k≤59)∧inS 16777215 (k:Int)=decide (k≤23)∧inS 4294967294 (k:Int)=decide (1≤k∧k≤31)∧inS 8190 (k:Int)=decide (1≤k∧k≤12)∧inS 127 (k:Int)=decide (k≤6):=by
 by_cases h:k≤63
 ·have: ∀k:Nat,k<64→inS 1152921504606846975 (k:Int)=decide (k≤59)∧inS 16777215 (k:Int)=decide (k≤23)∧inS 4294967294 (k:Int)=decide (1≤k∧k≤31)∧inS 8190 (k:Int)=decide (1≤k∧k≤12)∧inS 127 (k:Int)=decide (k≤6):=by decide
  exact this k (by omega)
 ·have e: ∀s,inS s (k:Int)=false:=fun s=>inS_big s k (by omega);rw [e,e,e,e,e];refine⟨?_,?_,?_,?_,?_⟩<;>(symm;rw [decide_eq_false_iff_not];omega)
theorem ok_sub {any:Bool} (hs:0≤s∧s≤18446744073709551615) (hf:0≤full∧full≤18446744073709551615) (h:okB s full any=true) (k:Int) (hk:inS s k=true):inS full k=true:=by
 unfold okB at h;have h2:bits .andNot .u64 s full=0:=by
  by_cases g:bits .andNot .u64 s full=0
  ·exact g
  ·simp [g]at h
 have:=in_andNot s full k hs hf;rw [h2,hk]at this;cases e:inS full k
 ·rw [e]at this;have z:inS 0 k=false:=by unfold inS;simp
  rw [z]at this;cases this
 ·rfl
theorem ok_some {any:Bool} (hs:0≤s∧s≤18446744073709551615) (h:okB s full any=true): ∃k,inS s k=true:=by
 have h1:s≠0:=by intro e;unfold okB at h;simp [e]at h
 have:frmB s 0=true:=by
  unfold frmB hiS;simp;omega
 exact⟨_,(frm_yes s 0 hs (by omega) this).2.2.1⟩

theorem inS_zero (n:Int):inS 0 n=false:=by unfold inS;simp
theorem u_ext (a b:Int) (ha:0≤a∧a≤18446744073709551615) (hb:0≤b∧b≤18446744073709551615) (h: ∀n,inS a n=inS b n):a=b:=by
 obtain⟨A,rfl⟩:=Xh ha.1;obtain⟨B,rfl⟩:=Xh hb.1;congr 1;apply Nat.eq_of_testBit_eq;intro i;by_cases g:i≤63
 ·have:=h (i:Int);rwa [inS_nat,inS_nat,decide_eq_true g,XJ,XJ]at this
 ·rw [Nat.testBit_lt_two_pow (show A<2^i from Xb (show A<2^64 by omega) (Yd (by omega) (by omega))),Nat.testBit_lt_two_pow (show B<2^i from Xb (show B<2^64 by omega) (Yd (by omega) (by omega)))]

structure Scan (S lo hi:Int) (k:Int) (some all:Bool):Prop where
 s1:some=true→ ∃j,inS S j=true
 s2:some=false→ ∀j,0≤j→j<k→inS S j=false
 a1:all=true→ ∀j,0≤j→j<k→lo≤j→j≤hi→inS S j=true
 a2:all=false→ ∃j,lo≤j∧j≤hi∧inS S j=false
 o: ∀j,0≤j→j<k→inS S j=true→lo≤j∧j≤hi
theorem scan_0 (S lo hi:Int):Scan S lo hi 0 false true:=
 ⟨fun h=>(by cases h),fun _ j h1 h2=>(by omega),fun _ j h1 h2=>(by omega),fun h=>(by cases h),fun j h1 h2=>(by omega)⟩
theorem scan_step {x y:Bool} (h:Scan S lo hi k u v) (hx:inS S k=x) (hy:decide (lo≤k∧k≤hi)=y) (hxy:(x&& !y)=false):Scan S lo hi (k+1) (u||x) (v&&(x|| !y)):=by
 refine⟨fun g=> ?_,fun g j h1 h2=> ?_,fun g j h1 h2 h3 h4=> ?_,fun g=> ?_,fun j h1 h2 h3=> ?_⟩
 ·rw [Bool.or_eq_true]at g;rcases g with g|g
  ·exact h.s1 g
  ·exact⟨k,hx.trans g⟩
 ·rw [Bool.or_eq_false_iff]at g;by_cases e:j=k
  ·rw [e,hx];exact g.2
  ·exact h.s2 g.1 j h1 (by omega)
 ·rw [Xq]at g;by_cases e:j=k
  ·rw [e,hx];rw [e]at h3 h4;rw [decide_eq_true ⟨h3,h4⟩]at hy;rw [←hy]at g;simpa using g.2
  ·exact h.a1 g.1 j h1 (by omega) h3 h4
 ·rw [Yb]at g;rcases g with g|g
  ·exact h.a2 g
  ·rw [Bool.or_eq_false_iff]at g;have:y=true:=by simpa using g.2
   rw [this,decide_eq_true_eq]at hy;exact⟨k,hy.1,hy.2,hx.trans g.1⟩
 ·by_cases e:j=k
  ·rw [e,hx]at h3;rw [h3]at hxy;have:y=true:=by simpa using hxy
   rw [this,decide_eq_true_eq]at hy;rw [e];exact hy
  ·exact h.o j h1 (by omega) h3
theorem scan_bad {any:Bool} (hS:0≤S∧S≤18446744073709551615) (hF:0≤full∧full≤18446744073709551615) (hf: ∀n,inS full n=decide (lo≤n∧n≤hi)) (hx:inS S k=true) (hy:decide (lo≤k∧k≤hi)=false):okB S full any=false:=by
 cases h:okB S full any
 ·rfl
 ·have:=ok_sub hS hF h k hx;rw [hf,hy]at this;cases this
theorem scan_end {any:Bool} (hS:0≤S∧S≤18446744073709551615) (hF:0≤full∧full≤18446744073709551615) (hf: ∀n,inS full n=decide (lo≤n∧n≤hi)) (hlo:0≤lo) (hhi:hi≤63) (h:Scan S lo hi 64 u v):okB S full any= !(!u||(any&& !v)):=by
 cases u
 ·cases g:okB S full any
  ·rfl
  ·obtain⟨j,hj⟩:=ok_some hS g;have b:=inS_bd hj;rw [h.s2 rfl j b.1 (by omega)]at hj;cases hj
 ·obtain⟨j0,hj0⟩:=h.s1 rfl;have ne:S≠0:=by intro e;rw [e,inS_zero]at hj0;cases hj0
  have sub: ∀n,inS S n=true→inS full n=true:=by
   intro n hn;have b:=inS_bd hn;rw [hf,decide_eq_true_eq];exact h.o n b.1 (by omega) hn
  have an:bits .andNot .u64 S full=0:=by
   refine u_ext _ _ (u_andNot S full hS hF) (by decide) fun n=> ?_;rw [in_andNot S full n hS hF,inS_zero];cases g:inS S n
   ·rfl
   ·rw [sub n g];rfl
  unfold okB;rw [decide_eq_false ne,an];cases v
  ·obtain⟨j,h1,h2,h3⟩:=h.a2 rfl;have:S≠full:=by
    intro e;rw [e,hf,decide_eq_true ⟨h1,h2⟩]at h3;cases h3
   rw [decide_eq_true this];cases any<;>rfl
  ·have:S=full:=by
    refine u_ext _ _ hS hF fun n=> ?_;cases g:inS full n
    ·cases g2:inS S n
     ·rfl
     ·rw [sub n g2]at g;cases g
    ·rw [hf,decide_eq_true_eq]at g;exact h.a1 rfl n (by omega) (by omega) g.1 g.2
   rw [decide_eq_false (show¬(S≠full)from fun h=>h this)];cases any<;>rfl
theorem full_min (n:Int):inS fMin n=decide (0≤n∧n≤59):=by
 by_cases g:n<0
 ·rw [inS_neg _ _ g,decide_eq_false (by omega)]
 ·obtain⟨N,rfl⟩:=Xh (show 0≤n by omega);rw [show fMin=1152921504606846975 from rfl,(full_in N).1,decide_eq_decide];omega
theorem full_hour (n:Int):inS fHour n=decide (0≤n∧n≤23):=by
 by_cases g:n<0
 ·rw [inS_neg _ _ g,decide_eq_false (by omega)]
 ·obtain⟨N,rfl⟩:=Xh (show 0≤n by omega);rw [show fHour=16777215 from rfl,(full_in N).2.1,decide_eq_decide];omega
theorem full_day (n:Int):inS fDay n=decide (1≤n∧n≤31):=by
 by_cases g:n<0
 ·rw [inS_neg _ _ g,decide_eq_false (by omega)]
 ·obtain⟨N,rfl⟩:=Xh (show 0≤n by omega);rw [show fDay=4294967294 from rfl,(full_in N).2.2.1,decide_eq_decide];omega
theorem full_mon (n:Int):inS fMon n=decide (1≤n∧n≤12):=by
 by_cases g:n<0
 ·rw [inS_neg _ _ g,decide_eq_false (by omega)]
 ·obtain⟨N,rfl⟩:=Xh (show 0≤n by omega);rw [show fMon=8190 from rfl,(full_in N).2.2.2.1,decide_eq_decide];omega
theorem full_week (n:Int):inS fWeek n=decide (0≤n∧n≤6):=by
 by_cases g:n<0
 ·rw [inS_neg _ _ g,decide_eq_false (by omega)]
 ·obtain⟨N,rfl⟩:=Xh (show 0≤n by omega);rw [show fWeek=127 from rfl,(full_in N).2.2.2.2,decide_eq_decide];omega
end Crn
namespace Crn
open Go.RowKit Cal
variable {v0 k x q u:Int}

theorem in_one (d n:Int) (h:0≤d∧d≤63):inS (2^d.toNat) n=decide (n=d):=by
 obtain⟨D,rfl⟩:=Xh h.1;by_cases hn:n<0
 ·rw [inS_neg _ _ hn];symm;rw [decide_eq_false_iff_not];omega
 obtain⟨N,rfl⟩:=Xh (show 0≤n by omega);rw [XI,show(2:Int)^D=((2^D:Nat):Int) by simp,inS_nat,Nat.testBit_two_pow];by_cases g:D=N
 ·subst g;simp;omega
 ·rw [decide_eq_false g,XP];symm;rw [decide_eq_false_iff_not];omega
theorem u_wrap (x:Int):0≤IntKind.u64.wrap x∧IntKind.u64.wrap x≤18446744073709551615:=by rw [Yj];omega
theorem u_div (a:Int) (k:Nat) (h:0≤a∧a≤18446744073709551615):0≤a/2^k∧a/2^k≤18446744073709551615:=by
 obtain⟨A,rfl⟩:=Xh h.1;rw [show((A:Int)/2^k)=((A/2^k:Nat):Int) by simp];have:=Nat.div_le_self A (2^k);generalize A/2^k=q at this;omega

def WkOK (we v:Int) (k:Nat):Prop:=(0≤v∧v≤18446744073709551615)∧ ∀n,inS v n=(decide (0≤n∧n<7*(k:Int))&&inS we (n%7))
theorem wk_zero (we:Int):WkOK we 0 0:=by
 refine⟨by omega,fun n=> ?_⟩;rw [decide_eq_false (by omega)];unfold inS;simp
theorem wk_step {we v:Int} {k:Nat} (h:WkOK we v k) (hw:Upto we 6) (hk:k<6):WkOK we (bits .or .u64 v (IntKind.u64.wrap (we*2^(7*(k:Int)).toNat))) (k+1):=by
 refine⟨u_or _ _ h.1 (u_wrap _),fun n=> ?_⟩;rw [in_or _ _ _ h.1 (u_wrap _),in_shl we _ n hw.1 (by omega),h.2 n];by_cases g:7*(k:Int)≤n∧n<7*(k:Int)+7
 ·rw [decide_eq_false (by omega),decide_eq_true (by omega),decide_eq_true (by omega),show n-7*(k:Int)=n%7 by omega];simp
 ·have e:inS we (n-7*(k:Int))=false:=by
   by_cases g2:n-7*(k:Int)<0
   ·exact inS_neg _ _ g2
   ·cases g3:inS we (n-7*(k:Int))
    ·rfl
    ·have:=hw.2 _ g3;omega
  rw [e,XP,Bool.or_false];rw [show decide (0≤n∧n<7*((k+1:Nat):Int))=decide (0≤n∧n<7*(k:Int)) by rw [decide_eq_decide];omega]

def WkD (we first v:Int):Prop:=(0≤v∧v≤18446744073709551615)∧ ∀n,inS v n=(decide (1≤n∧n≤31)&&inS we ((first+n+3)%7))
theorem day_in (n:Int):inS 4294967294 n=decide (1≤n∧n≤31):=by
 by_cases hn:n<0
 ·rw [inS_neg _ _ hn];symm;rw [decide_eq_false_iff_not];omega
 obtain⟨N,rfl⟩:=Xh (show 0≤n by omega);rw [(full_in N).2.2.1,decide_eq_decide];omega
theorem wk_days {we v first:Int} (h:WkOK we v 6):WkD we first (bits .and .u64 (IntKind.u64.wrap (v/2^((first+4)%7).toNat*2)) 4294967294):=by
 have u1:=u_wrap (v/2^((first+4)%7).toNat*2);refine⟨u_and _ _ u1 (by omega),fun n=> ?_⟩;rw [in_and _ _ _ u1 (by omega),day_in];by_cases g:1≤n∧n≤31
 ·have e:=in_shl (v/2^((first+4)%7).toNat) 1 n (u_div v _ h.1) (by omega);rw [show(2:Int)^(1:Int).toNat=2 from rfl]at e
  rw [e, decide_eq_true (show n ≤ 63 by omega), in_shr v _ _ h.1 (by omega) (by omega), h.2, decide_eq_true (by omega), decide_eq_true g,
   show(n-1+(first+4)%7)%7=(first+n+3)%7 by omega]
  simp
 ·rw [decide_eq_false g,XP,Bool.false_and]

def fitd (da we:Int) (ad aw:Bool) (n k:Int):Bool:=(inS da n&&inS we k)||((!ad&& !aw)&&(inS da n||inS we k))
theorem dayB_eq (da mo we:Int) (ad aw:Bool) (m d k:Int):dayB da mo we ad aw m d k=(inS mo m&&fitd da we ad aw d k):=rfl

def DOK (y m v0 v d:Int):Prop:=(0≤v∧v≤18446744073709551615)∧ ∀n,inS v n=(inS v0 n&& !decide (29≤n∧n<d∧dim y m<n))
theorem dok_zero {y m:Int} (h:0≤v0∧v0≤18446744073709551615):DOK y m v0 v0 29:=by
 refine⟨h,fun n=> ?_⟩;rw [decide_eq_false (by omega)];simp
theorem dok_keep {y m v d:Int} (h:DOK y m v0 v d) (hd:d≤dim y m):DOK y m v0 v (d+1):=by
 refine⟨h.1,fun n=> ?_⟩;rw [h.2 n,show decide (29≤n∧n<d+1∧dim y m<n)=decide (29≤n∧n<d∧dim y m<n) by rw [decide_eq_decide];omega]
theorem dok_drop {y m v d:Int} (h:DOK y m v0 v d) (h0:29≤d∧d≤31) (hd:dim y m<d):DOK y m v0 (bits .andNot .u64 v (2^d.toNat)) (d+1):=by
 have u1:0≤(2:Int)^d.toNat∧(2:Int)^d.toNat≤18446744073709551615:=by
  have:d=29∨d=30∨d=31:=by omega
  rcases this with rfl|rfl|rfl<;>decide
 refine⟨u_andNot _ _ h.1 u1,fun n=> ?_⟩;rw [in_andNot _ _ _ h.1 u1,in_one d n (by omega),h.2 n];by_cases g:n=d
 ·rw [decide_eq_true g,decide_eq_true (show 29≤n∧n<d+1∧dim y m<n by omega)];simp
 ·rw [decide_eq_false g,show decide (29≤n∧n<d+1∧dim y m<n)=decide (29≤n∧n<d∧dim y m<n) by rw [decide_eq_decide];omega];simp

def DaySet (da we:Int) (ad aw:Bool) (y m v:Int):Prop:=
 (0≤v∧v≤18446744073709551615)∧ ∀n,inS v n=(decide (1≤n∧n≤dim y m)&&fitd da we ad aw n ((num y m 1+n+3)%7))
theorem dset_or {da we y m v:Int} (hda:0≤da∧da≤18446744073709551615) (h31: ∀n,inS da n=true→1≤n∧n≤31) (hk:WkD we (num y m 1) k) (h:DOK y m (bits .or .u64 da k) v 32):DaySet da we false false y m v:=by
 refine⟨h.1,fun n=> ?_⟩;have db:=dim_bd y m;rw [h.2 n,in_or _ _ _ hda hk.1,hk.2 n];unfold fitd;by_cases g:1≤n∧n≤31
 ·rw [decide_eq_true g, show decide (29 ≤ n ∧ n < 32 ∧ dim y m < n) = !decide (1 ≤ n ∧ n ≤ dim y m) by
   by_cases g2:n≤dim y m
   ·rw [decide_eq_true (show 1≤n∧n≤dim y m by omega),decide_eq_false (by omega)];rfl
   ·rw [decide_eq_false (show¬(1≤n∧n≤dim y m) by omega),decide_eq_true (by omega)];rfl]
  generalize inS da n=a;generalize inS we _=b;generalize decide (1≤n∧n≤dim y m)=c;revert a b c;decide
 ·have e:inS da n=false:=by
   cases e:inS da n
   ·rfl
   ·exact absurd (h31 n e) g
  rw [decide_eq_false g,e,decide_eq_false (show¬(1≤n∧n≤dim y m) by omega)];simp
theorem dset_and {da we y m v:Int} {ad aw:Bool} (hda:0≤da∧da≤18446744073709551615) (hany:(!ad&& !aw)=false) (hk:WkD we (num y m 1) k) (h:DOK y m (bits .and .u64 da k) v 32):DaySet da we ad aw y m v:=by
 refine⟨h.1,fun n=> ?_⟩;have db:=dim_bd y m;rw [h.2 n,in_and _ _ _ hda hk.1,hk.2 n];unfold fitd;rw [hany];by_cases g:1≤n∧n≤31
 ·rw [decide_eq_true g, show decide (29 ≤ n ∧ n < 32 ∧ dim y m < n) = !decide (1 ≤ n ∧ n ≤ dim y m) by
   by_cases g2:n≤dim y m
   ·rw [decide_eq_true (show 1≤n∧n≤dim y m by omega),decide_eq_false (by omega)];rfl
   ·rw [decide_eq_false (show¬(1≤n∧n≤dim y m) by omega),decide_eq_true (by omega)];rfl]
  generalize inS da n=a;generalize inS we _=b;generalize decide (1≤n∧n≤dim y m)=c;revert a b c;decide
 ·rw [decide_eq_false g,decide_eq_false (show¬(1≤n∧n≤dim y m) by omega)];simp
theorem tm7 (a:Int):a.tmod 7=if 0≤a then a%7 else-((-a)%7):=by
 split
 ·rename_i h;exact Int.tmod_eq_emod_of_nonneg h
 ·rename_i h;have:=Int.neg_tmod (-a) 7;rw [Int.neg_neg]at this;rw [this,Int.tmod_eq_emod_of_nonneg (show 0≤ -a by omega)]
theorem rem7 (a:Int):((a.tmod 7)+7).tmod 7=a%7:=by
 rw [tm7 a,tm7];split<;>split<;>omega
theorem rem7_bd (a:Int): -6≤a.tmod 7∧a.tmod 7≤6:=by rw [tm7];split<;>omega

def fitN (da mn we:Int) (ad aw:Bool) (x:Int):Bool:=dayB da mn we ad aw (Cal.mo x) (dy x) ((x+6)%7)
def beg (y m:Int):Int:=ys y+cum y m

theorem num_beg (y m d:Int):num y m d=beg y m+d-1-2180498:=by unfold num beg;omega
theorem fit_in {da mn we:Int} {ad aw:Bool} {y m v:Int} (hm:1≤m∧m≤12) (hv:DaySet da we ad aw y m v) (h1:beg y m≤x) (h2:x<beg y m+dim y m):
  fitN da mn we ad aw x=(inS mn m&&inS v (x-beg y m+1)):=by
 obtain⟨_,e2,e3⟩:=date_is (n:=x) (y:=y) (m:=m) (d:=x-beg y m+1) ⟨hm.1,hm.2,by omega,by omega⟩ (by unfold beg;omega);unfold fitN;rw [e2,e3,dayB_eq,hv.2,decide_eq_true (by omega),XJ,num_beg,show(beg y m+1-1-2180498+(x-beg y m+1)+3)%7=(x+6)%7 by omega]
theorem fit_no {da mn we:Int} {ad aw:Bool} {y m:Int} (hm:1≤m∧m≤12) (hn:inS mn m=false) (h1:beg y m≤x) (h2:x<beg y m+dim y m):
  fitN da mn we ad aw x=false:=by
 obtain⟨_,e2,e3⟩:=date_is (n:=x) (y:=y) (m:=m) (d:=x-beg y m+1) ⟨hm.1,hm.2,by omega,by omega⟩ (by unfold beg;omega);unfold fitN;rw [e2,dayB_eq,hn,Bool.false_and]
theorem beg_next (y m:Int) (h:1≤m∧m≤11):beg y (m+1)=beg y m+dim y m:=by
 unfold beg;rw [cum_succ y m h.1 (by omega)];omega
theorem beg_year (y:Int):beg (y+1) 1=beg y 12+dim y 12:=by
 unfold beg;have:=cum_succ y 12 (by omega) (by omega);rw [show(12:Int)+1=13 by omega,cum_last]at this;rw [cum_one,ys_succ];omega
theorem beg_le (y m:Int) (h:1≤m∧m≤12):beg y m<ys (y+1):=by
 unfold beg;have:=in_year y m 1 ⟨h.1,h.2,by omega,by have:=dim_bd y m;omega⟩;rw [ys_succ];omega
theorem ys_nine (y:Int):ys (y-9)+3285≤ys y:=by unfold ys;omega

def Seen (da mn we:Int) (ad aw:Bool) (D P:Int):Prop:= ∀x,D<x→x<P→fitN da mn we ad aw x=false
def Behind (da mn we:Int) (ad aw:Bool) (D n:Int) (ok:Bool):Prop:=
 (-5000000≤n∧n≤5000000)∧
 (ok=true→D<n+2180498∧n+2180498≤D+3000∧fitN da mn we ad aw (n+2180498)=true∧Seen da mn we ad aw D (n+2180498))∧
 (ok=false→Seen da mn we ad aw D (D+3001))
def Ahead (da mn we:Int) (ad aw:Bool) (D n:Int) (ok:Bool):Prop:=
 (-5000000≤n∧n≤5000000)∧
 (ok=true→D-3000≤n+2180498∧n+2180498<D∧fitN da mn we ad aw (n+2180498)=true∧Seen da mn we ad aw (n+2180498) D)∧
 (ok=false→Seen da mn we ad aw (D-3001) D)

section
variable {da mn we : Int} {ad aw : Bool} {y m d v D : Int}
theorem found (hs:Seen da mn we ad aw D (beg y m+d-1)) (hm:1≤m∧m≤12) (hy: -4000≤y∧y≤8000) (hd:1≤d) (hD:D<beg y m+d-1) (hv:DaySet da we ad aw y m v) (hf:frmB v d=true) (hi:inS mn m=true):
  Behind da mn we ad aw D (num y m 1-1+frm v d) (decide (num y m 1-1+frm v d≤D-2180498+3000)):=by
 obtain⟨a1,a2,a3,a4⟩:=frm_yes v d hv.1 (by omega) hf;have a5:frm v d≤dim y m:=by
  have:=hv.2 (frm v d);rw [a3]at this;have:=(Xq _ _▸this.symm:decide (1≤frm v d∧frm v d≤dim y m)=true∧_).1;rw [decide_eq_true_eq]at this;omega
 have yb:=ys_bd y hy.1 (by omega);have cb:=cum_bd y m;have db:=dim_bd y m;have e:=num_beg y m 1;have hb:beg y m=ys y+cum y m:=rfl;have hsee:Seen da mn we ad aw D (num y m 1-1+frm v d+2180498):=by
  intro x h1 h2;by_cases g:x<beg y m+d-1
  ·exact hs x h1 g
  ·rw [fit_in hm hv (by omega) (by omega),a4 _ (by omega) (by omega),XP]
 refine⟨by omega,fun ho=> ?_,fun ho=> ?_⟩
 ·rw [decide_eq_true_eq]at ho;refine⟨by omega,by omega,?_,hsee⟩;rw [fit_in hm hv (by omega) (by omega),hi,show num y m 1-1+frm v d+2180498-beg y m+1=frm v d by omega,a3];rfl
 ·rw [decide_eq_false_iff_not]at ho;intro x h1 h2;exact hsee x h1 (by omega)
def Lim (y m d q:Int):Prop:=(d≤dim y m∧q=d)∨(dim y m≤d∧q=dim y m)
theorem aseen_month (hs:Seen da mn we ad aw (beg y m+q-1) D) (hq:Lim y m d q) (hm:1≤m∧m≤12) (hd:0≤d) (hv:DaySet da we ad aw y m v) (hn:uptB v d=false):Seen da mn we ad aw (beg y m-1) D:=by
 intro x h1 h2;unfold Lim at hq;by_cases g:beg y m+q-1<x
 ·exact hs x g h2
 ·rw [fit_in hm hv (by omega) (by omega),upt_no v d hv.1 (by omega) hn _ (by omega),XP]
theorem aseen_skip (hs:Seen da mn we ad aw (beg y m+q-1) D) (hq:Lim y m d q) (hm:1≤m∧m≤12) (hn:inS mn m=false):Seen da mn we ad aw (beg y m-1) D:=by
 intro x h1 h2;unfold Lim at hq;by_cases g:beg y m+q-1<x
 ·exact hs x g h2
 ·exact fit_no (y:=y) hm hn (by omega) (by omega)
theorem afound (hs:Seen da mn we ad aw (beg y m+q-1) D) (hq:Lim y m d q) (hm:1≤m∧m≤12) (hy: -4000≤y∧y≤8000) (hd:0≤d) (hD:beg y m+q-1<D) (hv:DaySet da we ad aw y m v) (hf:uptB v d=true) (hi:inS mn m=true):
  Ahead da mn we ad aw D (num y m 1-1+upt v d) (decide (D-2180498-3000≤num y m 1-1+upt v d)):=by
 obtain⟨a0,a1,a2,a3,a4⟩:=upt_yes v d hv.1 (by omega) hf;have a5:1≤upt v d∧upt v d≤dim y m:=by
  have:=hv.2 (upt v d);rw [a3]at this;have:=(Xq _ _▸this.symm:decide (1≤upt v d∧upt v d≤dim y m)=true∧_).1;rw [decide_eq_true_eq]at this;exact this
 have yb:=ys_bd y hy.1 (by omega);have cb:=cum_bd y m;have db:=dim_bd y m;have e:=num_beg y m 1;have hb:beg y m=ys y+cum y m:=rfl;unfold Lim at hq;have hsee:Seen da mn we ad aw (num y m 1-1+upt v d+2180498) D:=by
  intro x h1 h2;by_cases g:beg y m+q-1<x
  ·exact hs x g h2
  ·rw [fit_in hm hv (by omega) (by omega),a4 _ (by omega) (by omega),XP]
 refine⟨by omega,fun ho=> ?_,fun ho=> ?_⟩
 ·rw [decide_eq_true_eq]at ho;refine⟨by omega,by omega,?_,hsee⟩;rw [fit_in hm hv (by omega) (by omega),hi,show num y m 1-1+upt v d+2180498-beg y m+1=upt v d by omega,a3];rfl
 ·rw [decide_eq_false_iff_not]at ho;intro x h1 h2;exact hsee x (by omega) h2
theorem aended (hs:Seen da mn we ad aw (beg y m-1) D) (hy: -4000≤y∧y≤8000) (hl:num y m 1-1<D-2180498-3000) (hf:uptB v d=false):
  Ahead da mn we ad aw D (num y m 1-1+upt v d) false:=by
 have yb:=ys_bd y hy.1 (by omega);have cb:=cum_bd y m;have e:=num_beg y m 1;have hb:beg y m=ys y+cum y m:=rfl;have f:=upt_zero v d hf;refine⟨by omega,fun ho=>(by cases ho),fun _=> ?_⟩;intro x h1 h2;exact hs x (by omega) h2
end

structure Good (mi ho da mn we:Int):Prop where
 gmi:Upto mi 59
 gho:Upto ho 23
 gda:0≤da∧da≤18446744073709551615
 g31: ∀n,inS da n=true→1≤n∧n≤31
 gmn:0≤mn∧mn≤18446744073709551615
 g12: ∀n,inS mn n=true→1≤n∧n≤12
 gmn0: ∃n,inS mn n=true
 gwe:Upto we 6
 gmi0: ∃n,inS mi n=true
 gho0: ∃n,inS ho n=true

theorem in_le {f:Int} {n:Int} (h:inS f k=true) (hf: ∀K:Nat,inS f (K:Int)=true→(K:Int)≤n):k≤n:=by
 obtain⟨K,rfl⟩:=Xh (inS_bd h).1;exact hf K h
theorem good_of {mi ho da mn we:Int} {ad aw:Bool} (b0:0≤mi∧mi≤18446744073709551615) (b1:0≤ho∧ho≤18446744073709551615) (b2:0≤da∧da≤18446744073709551615) (b3:0≤mn∧mn≤18446744073709551615) (b4:0≤we∧we≤18446744073709551615)
  (h:chkB mi ho da mn we ad aw=true):Good mi ho da mn we:=by
 unfold chkB at h;simp only [Xq]at h;obtain⟨h0,h1,h2,h3,h4⟩:=h;have f0:0≤fMin∧fMin≤18446744073709551615:=by decide
 have f1:0≤fHour∧fHour≤18446744073709551615:=by decide
 have f2:0≤fDay∧fDay≤18446744073709551615:=by decide
 have f3:0≤fMon∧fMon≤18446744073709551615:=by decide
 have f4:0≤fWeek∧fWeek≤18446744073709551615:=by decide
 refine⟨⟨b0,fun k hk=> ?_⟩,⟨b1,fun k hk=> ?_⟩,b2,fun k hk=> ?_,b3,fun k hk=> ?_,ok_some b3 h3,⟨b4,fun k hk=> ?_⟩,ok_some b0 h0,ok_some b1 h1⟩
 ·refine in_le (ok_sub b0 f0 h0 k hk) fun K hK=> ?_;rw [show fMin=1152921504606846975 from rfl,(full_in K).1,decide_eq_true_eq]at hK;omega
 ·refine in_le (ok_sub b1 f1 h1 k hk) fun K hK=> ?_;rw [show fHour=16777215 from rfl,(full_in K).2.1,decide_eq_true_eq]at hK;omega
 ·have:=ok_sub b2 f2 h2 k hk;rw [show fDay=4294967294 from rfl,day_in,decide_eq_true_eq]at this;exact this
 ·have:=ok_sub b3 f3 h3 k hk;obtain⟨K,rfl⟩:=Xh (inS_bd hk).1;rw [show fMon=8190 from rfl,(full_in K).2.2.2.1,decide_eq_true_eq]at this;omega
 ·refine in_le (ok_sub b4 f4 h4 k hk) fun K hK=> ?_;rw [show fWeek=127 from rfl,(full_in K).2.2.2.2,decide_eq_true_eq]at hK;omega

def mtN (mi ho da mn we:Int) (ad aw:Bool) (u:Int):Bool:=fitN da mn we ad aw (u/1440)&&okM mi ho (u%1440)
def LastN (mi ho da mn we:Int) (ad aw:Bool) (U u:Int):Prop:=u≤U∧U/1440-3000≤u/1440∧mtN mi ho da mn we ad aw u=true∧ ∀v,u<v→v≤U→mtN mi ho da mn we ad aw v=false
def NoneL (mi ho da mn we:Int) (ad aw:Bool) (U:Int):Prop:= ∀v,v≤U→U/1440-3000≤v/1440→mtN mi ho da mn we ad aw v=false

section
variable {mi ho da mn we : Int} {ad aw : Bool} {U h m n : Int}
theorem mtN_no1 (g:fitN da mn we ad aw (u/1440)=false):mtN mi ho da mn we ad aw u=false:=by unfold mtN;rw [g];rfl
theorem mtN_no2 (g:okM mi ho (u%1440)=false):mtN mi ho da mn we ad aw u=false:=by unfold mtN;rw [g,XP]
theorem mtN_yes {D:Int} (hx:0≤x∧x<1440) (e:u=D*1440+x) (g1:fitN da mn we ad aw D=true) (g2:okM mi ho x=true):mtN mi ho da mn we ad aw u=true:=by
 unfold mtN;rw [show u/1440=D by omega,show u%1440=x by omega,g1,g2];rfl

theorem muB00 (G:Good mi ho da mn we):muB mi ho 23 59=true:=by
 obtain⟨k,hk⟩:=G.gmi0;obtain⟨j,hj⟩:=G.gho0;have hk0:=G.gmi.2 _ hk;have hj0:=G.gho.2 _ hj;unfold muB;rw [uptB_mk G.gmi.1 (by omega) hk0 hk,XJ];cases e:inS ho 23
 ·rw [Ya];have:j≠23:=by intro e2;rw [e2,e]at hj;cases hj
  exact uptB_mk G.gho.1 (by omega) (show j≤23-1 by omega) hj
 ·rfl

theorem last_today (G:Good mi ho da mn we) (hh:0≤h∧h≤23) (hm:0≤m∧m≤59) (e:U%1440=h*60+m) (hf:fitN da mn we ad aw (U/1440)=true) (hy:muB mi ho h m=true):
  LastN mi ho da mn we ad aw U (U/1440*1440+mu mi ho h m):=by
 obtain⟨a1,a2,a3,a4⟩:=mu_yes mi ho h m G.gmi G.gho hh hm G.gmi0 hy;generalize mu mi ho h m=x at a1 a2 a3 a4;refine⟨by omega,by omega,mtN_yes ⟨a2,by omega⟩ rfl hf a3,fun v g1 g2=> ?_⟩;exact mtN_no2 (a4 _ (by omega) (by omega))
theorem none_before (G:Good mi ho da mn we) (hh:0≤h∧h≤23) (hm:0≤m∧m≤59) (e:U%1440=h*60+m) (hf:fitN da mn we ad aw (U/1440)=false∨muB mi ho h m=false):
  ∀v,v≤U→v/1440=U/1440→mtN mi ho da mn we ad aw v=false:=by
 intro v g1 g2;rcases hf with hf|hf
 ·exact mtN_no1 (by rw [g2];exact hf)
 ·exact mtN_no2 (mu_no mi ho h m G.gmi G.gho hh hm hf _ (by omega))
theorem last_ahead (G:Good mi ho da mn we) (hn: ∀v,v≤U→v/1440=U/1440→mtN mi ho da mn we ad aw v=false) (hb:Ahead da mn we ad aw (U/1440) n true):
  LastN mi ho da mn we ad aw U ((n+2180498)*1440+mu mi ho 23 59):=by
 obtain⟨b1,b2,b3,b4⟩:=hb.2.1 rfl;obtain⟨a1,a2,a3,a4⟩:=mu_yes mi ho 23 59 G.gmi G.gho (by omega) (by omega) G.gmi0 (muB00 G);generalize mu mi ho 23 59=x at a1 a2 a3 a4;refine⟨by omega,by omega,mtN_yes ⟨a2,by omega⟩ rfl b3 a3,fun v g1 g2=> ?_⟩;by_cases c1:v/1440=U/1440
 ·exact hn v g2 c1
 ·by_cases c2:n+2180498<v/1440
  ·exact mtN_no1 (b4 _ c2 (by omega))
  ·exact mtN_no2 (a4 _ (by omega) (by omega))
theorem last_never (hn: ∀v,v≤U→v/1440=U/1440→mtN mi ho da mn we ad aw v=false) (hb:Ahead da mn we ad aw (U/1440) n false):NoneL mi ho da mn we ad aw U:=by
 intro v g1 g2;by_cases c1:v/1440=U/1440
 ·exact hn v g1 c1
 ·exact mtN_no1 (hb.2.2 rfl _ (by omega) (by omega))
end

def at60 (u shift:Int):Int:=u*60-188395027200-shift*60
def inT (n:Int):Bool:=decide (-100000000000≤n∧n≤100000000000)
def LastIs (mi ho da mn we:Int) (ad aw:Bool) (U shift n:Int) (ok:Bool):Prop:=
 (ok=true∧ ∃u,n=at60 u shift∧inT n=true∧LastN mi ho da mn we ad aw U u)∨
 (ok=false∧n=0∧(NoneL mi ho da mn we ad aw U∨ ∃u,inT (at60 u shift)=false∧LastN mi ho da mn we ad aw U u))

theorem last_one {mi ho da mn we:Int} {ad aw:Bool} {U v:Int} (h:LastN mi ho da mn we ad aw U u) (g:LastN mi ho da mn we ad aw U v):u=v:=by
 obtain⟨a1,a2,a3,a4⟩:=h;obtain⟨b1,b2,b3,b4⟩:=g;rcases Int.lt_trichotomy u v with c|c|c
 ·have:=a4 v c b1;rw [b3]at this;cases this
 ·exact c
 ·have:=b4 u c a1;rw [a3]at this;cases this
end Crn
namespace Crn
open Go.RowKit

structure K where
 mi:Int
 ho:Int
 da:Int
 mn:Int
 we:Int
 ad:Bool
 aw:Bool
abbrev kV (c:K):Value:=cronV c.mi c.ho c.da c.mn c.we c.ad c.aw
def kc (c:K):Bool:=chkB c.mi c.ho c.da c.mn c.we c.ad c.aw
structure Us (c:K):Prop where
 u0:U c.mi
 u1:U c.ho
 u2:U c.da
 u3:U c.mn
 u4:U c.we
abbrev spanV (a b:K):Value:=.agg #[.int .u64 a.mi,.int .u64 a.ho,.int .u64 a.da,.int .u64 a.mn,.int .u64 a.we,.bool a.ad,.bool a.aw,.int .u64 b.mi,.int .u64 b.ho,.int .u64 b.da,.int .u64 b.mn,.int .u64 b.we,.bool b.ad,.bool b.aw]
end Crn
namespace Pln
open Go.RowKit Crn

structure Tr where
 k:Int
 tg:Int
 ac:Int
 a:K
 b:K
structure Pd where
 nm:List UInt8
 mn:Int
 mx:Int
 po:Int
 co:Int
 tl:Int
 bk:Int
 af:Int
 sh:Int
 uw:Int
 up:Int
 uc:Int
 ue:Int
 dw:Int
 dp:Int
 dc:Int
 de:Int
def rg (n lo hi:Int):Bool:=decide (lo≤n∧n≤hi)
def nmC (b:UInt8):Bool:=decide (97≤b.toNat∧b.toNat≤122)||(decide (48≤b.toNat∧b.toNat≤57)||decide (b.toNat=45))
def nmB (s:List UInt8):Bool:=decide (1≤s.length∧s.length≤16)&&s.all nmC
def numB (p:Pd):Bool:=rg p.mn 0 50&&(rg p.mx (max 1 p.mn) 50&&(rg p.po 1 100000&&(rg p.co 1 100000&&(rg p.tl 0 1000&&(rg p.bk 0 50&&(rg p.af 0 100&&rg p.sh (-900) 900))))))
def paceB (a b c d:Int):Bool:=rg a 0 100000&&(rg b 0 50&&(rg c 0 1000&&rg d 0 100000))
def zK (c:K):Bool:=decide (c.mi=0)&&(decide (c.ho=0)&&(decide (c.da=0)&&(decide (c.mn=0)&&(decide (c.we=0)&&(!c.ad&& !c.aw)))))
def trB (t:Tr):Bool:=
 if t.k=3 then rg t.tg 1 50&&(decide (t.ac=0)&&(kc t.a&&kc t.b))
 else decide (t.k=1∨t.k=2)&&(rg t.tg 1 1000000&&(rg t.ac 0 1000000&&(zK t.a&&zK t.b)))
def okP (p:Pd):Bool:=numB p&&(paceB p.uw p.up p.uc p.ue&&paceB p.dw p.dp p.dc p.de)
def chkP (p:Pd) (ts:List Tr):Int:=
 if nmB p.nm=false then 3 else if 5<ts.length then 2 else if okP p=false then 1 else if ts.all trB=false then 1 else 0
abbrev trC (t:Tr):Array Value:=#[.int .i64 t.k,.int .i64 t.tg,.int .i64 t.ac,.int .u64 t.a.mi,.int .u64 t.a.ho,.int .u64 t.a.da,.int .u64 t.a.mn,.int .u64 t.a.we,.bool t.a.ad,.bool t.a.aw,.int .u64 t.b.mi,.int .u64 t.b.ho,.int .u64 t.b.da,.int .u64 t.b.mn,.int .u64 t.b.we,.bool t.b.ad,.bool t.b.aw]
abbrev trV (t:Tr):Value:=.agg #[.int .i64 t.k,.int .i64 t.tg,.int .i64 t.ac,.int .u64 t.a.mi,.int .u64 t.a.ho,.int .u64 t.a.da,.int .u64 t.a.mn,.int .u64 t.a.we,.bool t.a.ad,.bool t.a.aw,.int .u64 t.b.mi,.int .u64 t.b.ho,.int .u64 t.b.da,.int .u64 t.b.mn,.int .u64 t.b.we,.bool t.b.ad,.bool t.b.aw]
abbrev planV (p:Pd) (sl:Value):Value:=.agg #[.string ⟨p.nm.toArray⟩,.int .i64 p.mn,.int .i64 p.mx,.int .i64 p.po,.int .i64 p.co,.int .i64 p.tl,.int .i64 p.bk,.int .i64 p.af,.int .i64 p.sh,.int .i64 p.uw,.int .i64 p.up,.int .i64 p.uc,.int .i64 p.ue,.int .i64 p.dw,.int .i64 p.dp,.int .i64 p.dc,.int .i64 p.de,sl]
abbrev planC (p:Pd) (sl:Value):Array Value:=#[.string ⟨p.nm.toArray⟩,.int .i64 p.mn,.int .i64 p.mx,.int .i64 p.po,.int .i64 p.co,.int .i64 p.tl,.int .i64 p.bk,.int .i64 p.af,.int .i64 p.sh,.int .i64 p.uw,.int .i64 p.up,.int .i64 p.uc,.int .i64 p.ue,.int .i64 p.dw,.int .i64 p.dp,.int .i64 p.dc,.int .i64 p.de,sl]
structure TrU (t:Tr):Prop where
 k:I t.k
 tg:I t.tg
 ac:I t.ac
 a:Us t.a
 b:Us t.b
structure PdI (p:Pd):Prop where
 mn:I p.mn
 mx:I p.mx
 po:I p.po
 co:I p.co
 tl:I p.tl
 bk:I p.bk
 af:I p.af
 sh:I p.sh
 uw:I p.uw
 up:I p.up
 uc:I p.uc
 ue:I p.ue
 dw:I p.dw
 dp:I p.dp
 dc:I p.dc
 de:I p.de
def TrsAt (w:World) (a:Option Addr) (ts:List Tr):Prop:=
 ∀(i:Nat) t,ts[i]? =some t→ ∃b off,a=some ⟨b,off,none⟩∧b<w.heap.size∧ ∀j,j<17→w.cell? ⟨b,off+(i*17+j),none⟩=(trC t)[j]?
theorem TrsAt.below {w w':World} {a:Option Addr} {ts:List Tr} {n:Nat} (h:TrsAt w a ts) (hb:Below n w w') (hn:w.heap.size≤n):TrsAt w' a ts:=by
 intro i t hi;obtain⟨b,off,rfl,hlt,hc⟩:=h i t hi;refine⟨b,off,rfl,Xb hlt hb.size,fun j hj=> ?_⟩;rw [←hc j hj];exact hb.cell (Xb hlt hn)
end Pln
namespace Crn
open Go.RowKit Cal

section
variable {mi ho da mn we : Int} {ad aw : Bool}
end

def LOk (P:Int→Bool) (U shift x:Int):Prop:=(x≤U∧U/1440-3000≤x/1440∧P x=true∧ ∀v,x<v→v≤U→P v=false)∧inT (at60 x shift)=true
def InP (P Q:Int→Bool) (U shift:Int):Prop:= ∃x,LOk P U shift x∧ ∀y,LOk Q U shift y→y≤x
