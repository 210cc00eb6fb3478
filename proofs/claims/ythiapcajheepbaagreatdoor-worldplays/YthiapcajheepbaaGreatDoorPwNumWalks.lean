/- A part. -/
import Derived.Test.YthiapcajheepbaaGreatDoorRows
import Derived.ProofKit
import Derived.Test.YthiapcajheepbaaGreatDoorPwNumPlain
set_option linter.all false
open Go.Proofs.Tryz
set_option maxHeartbeats 32000000
namespace Go.Proofs.YthiapcajheepbaaGreatDoor
namespace Num
open Plain Go.RowKit
variable {k:IntKind} {a b:Int}

theorem ret_int (h:a=b):Ending.returned (.int k a)=.returned (.int k b):=by rw [h]

theorem ret_two {l:IntKind} {c d:Int} (h:a=b) (g:c=d):Ending.returned (.tuple #[.int k a,.int l c])=.returned (.tuple #[.int k b,.int l d]):=by rw [h,g]

theorem clip_any (n:Int) (w:World):
  CS 120 #[.int .i64 n] w (.int .i64 (clip n)):=by
 by_cases h1:1000000000000000<n
 ·go_enter func120,ntmps120;go_wp2;go_ret;exact⟨ret_int (clip_hi h1).symm,rfl⟩
 ·by_cases h2:n< -1000000000000000
  ·go_enter func120,ntmps120;go_wp2;go_ret;exact⟨ret_int (clip_lo h2).symm,rfl⟩
  ·go_enter func120,ntmps120;go_wp2;go_ret;exact⟨ret_int (clip_in (by omega) (by omega)).symm,rfl⟩

theorem sz_any (n:Int) (w:World) (h: -1000000000000000≤n∧n≤1000000000000000):
  CS 197 #[.int .i64 n] w (.int .i64 (sz n)):=by
 by_cases h1:n<0
 ·go_enter func197,ntmps197;go_wp2;go_ret;exact⟨ret_int (sz_neg h1).symm,rfl⟩
 ·go_enter func197,ntmps197;go_wp2;go_ret;exact⟨ret_int (sz_pos (by omega)).symm,rfl⟩

theorem atz_any (n:Int) (w:World):
  CS 198 #[.int .i64 n] w (.int .i64 (atz n)):=by
 by_cases h1:n<0
 ·go_enter func198,ntmps198;go_wp2;go_ret;exact⟨ret_int (atz_neg h1).symm,rfl⟩
 ·go_enter func198,ntmps198;go_wp2;go_ret;exact⟨ret_int (atz_pos (by omega)).symm,rfl⟩

theorem add_any (a b:Int) (w:World):
  CS 67 #[.int .i64 a,.int .i64 b] w (.int .i64 (clip (clip a+clip b))):=by
 have ha:=clip_bd a;have hb:=clip_bd b;go_enter func67,ntmps67;go_wp2_with(go_at_call 120;refine(clip_any _ _).mono ?_;rintro e w' ⟨rfl,rfl⟩)
 go_ret;exact⟨rfl,rfl⟩

theorem mul_any (a b:Int) (w:World):
  CS 186 #[.int .i64 a,.int .i64 b] w (.int .i64 (mulc (clip a) (clip b))):=by
 have ha:=clip_bd a;have hb:=clip_bd b;by_cases h0:clip a=0
 ·have hz:(clip a==0)=true:=by simp [h0]
  have HM:Hid (mulc (clip a) (clip b)=clip a*clip b):=mulc_zero _ _ h0;have hp:clip a*clip b=0:=by rw [h0,Int.zero_mul]
  have hp1:0≤clip a*clip b:=by omega
  have hp2:clip a*clip b≤0:=by omega
  clear hp h0;go_enter func186,ntmps186;go_wp2_with(go_at_call 120;refine(clip_any _ _).mono ?_;rintro e w' ⟨rfl,rfl⟩)
  go_ret;exact⟨ret_int HM.out.symm,rfl⟩
 ·have hz:(clip a==0)=false:=by simp [h0]
  have h1:=sz_one _ h0;have h2:=sz_bd _ ha;have h3:=sz_bd _ hb;by_cases hf:sz (clip b)≤1000000000000000/sz (clip a)
  ·have HM:Hid (mulc (clip a) (clip b)=clip a*clip b):=mulc_fits _ _ h0 hf;have hp:=mul_fits _ _ h0 hf;clear h0;go_enter func186,ntmps186;go_wp2_with(first|(go_at_call 120;refine(clip_any _ _).mono ?_;rintro e w' ⟨rfl,rfl⟩)|(go_at_call 197;refine(sz_any _ _ (by assumption)).mono ?_;rintro e w' ⟨rfl,rfl⟩))
   go_ret;exact⟨ret_int HM.out.symm,rfl⟩
  ·have HM:Hid (mulc (clip a) (clip b)=_):=mulc_great _ _ h0 (by omega);clear h0;have D1:decide (clip a<0)=true∨decide (clip a<0)=false:=by cases decide (clip a<0)<;>simp
   have D2:decide (clip b<0)=true∨decide (clip b<0)=false:=by cases decide (clip b<0)<;>simp
   rcases D1 with d1|d1<;>rcases D2 with d2|d2
   all_goals
    rw [d1,d2]at HM;go_enter func186,ntmps186;go_wp2_with(first|(go_at_call 120;refine(clip_any _ _).mono ?_;rintro e w' ⟨rfl,rfl⟩)|(go_at_call 197;refine(sz_any _ _ (by assumption)).mono ?_;rintro e w' ⟨rfl,rfl⟩))
    go_ret;exact⟨ret_int (by rw [HM.out];rfl),rfl⟩

theorem clip_one (h:1≤b):1≤clip b:=by unfold clip;repeat (first|omega|split)

theorem ceil_yes (a b:Int) (w:World) (h:1≤b):
  CS 185 #[.int .i64 a,.int .i64 b] w (.tuple #[.int .i64 (up (clip a) (clip b)),.int .i64 0]):=by
 have ha:=clip_bd a;have hb:=clip_bd b;have h1:=clip_one h;have hq:=tdiv_bd _ _ h1 ha;have hnz: ¬clip b=0:=by omega
 by_cases hr:0<(clip a).tmod (clip b)
 ·have HU:Hid (up (clip a) (clip b)=(clip a).tdiv (clip b)+1):=by unfold Hid up;rw [if_pos hr]
  go_enter func185,ntmps185;go_wp2_with(go_at_call 120;refine(clip_any _ _).mono ?_;rintro e w' ⟨rfl,rfl⟩)
  go_ret2;exact⟨ret_two HU.out.symm rfl,rfl⟩
 ·have HU:Hid (up (clip a) (clip b)=(clip a).tdiv (clip b)):=by unfold Hid up;rw [if_neg hr]
  go_enter func185,ntmps185;go_wp2_with(go_at_call 120;refine(clip_any _ _).mono ?_;rintro e w' ⟨rfl,rfl⟩)
  go_ret2;exact⟨ret_two HU.out.symm rfl,rfl⟩

theorem share_any (a b:Int) (w:World):
  CS 188 #[.int .i64 a,.int .i64 b] w (.int .i64 (share (atz (clip a)) (atz (clip b)))):=by
 have ha:=atz_bd _ (clip_bd a);have hb:=atz_bd _ (clip_bd b);have hr:=rest_bd (atz (clip a)) (atz (clip b)) hb;have HS:Hid _:=share_ok _ _ ha hb;go_enter func188,ntmps188;go_wp2_with(first|(go_at_call 120;refine(clip_any _ _).mono ?_;rintro e w' ⟨rfl,rfl⟩)|(go_at_call 198;refine(atz_any _ _).mono ?_;rintro e w' ⟨rfl,rfl⟩)|(go_at_call 186;refine(mul_any _ _ _).mono ?_;rintro e w' ⟨rfl,rfl⟩)|(go_at_call 67;refine(add_any _ _ _).mono ?_;rintro e w' ⟨rfl,rfl⟩))
 go_ret;exact⟨ret_int HS.out,rfl⟩

end Num
namespace Civ
open Cal Go.RowKit
variable {k:IntKind} {a b:Int}

theorem ret_int (h:a=b):Ending.returned (.int k a)=.returned (.int k b):=by rw [h]
theorem ret_bool {a b:Bool} (h:a=b):Ending.returned (.bool a)=.returned (.bool b):=by rw [h]
theorem ret_two {l:IntKind} {c d:Int} (h:a=b) (g:c=d):Ending.returned (.tuple #[.int k a,.int l c])=.returned (.tuple #[.int k b,.int l d]):=by rw [h,g]

theorem tz (y k:Int):(y.tmod k==0)=decide (y%k=0):=by
 rw [Bool.eq_iff_iff];simp only [beq_iff_eq,decide_eq_true_eq];rw [←Int.dvd_iff_tmod_eq_zero,←Int.dvd_iff_emod_eq_zero]

theorem leap_any (y:Int) (w:World):
  CS 219 #[.int .i64 y] w (.bool (lpB y)):=by
 have t4:=tz y 4;have t1:(y.tmod 100 !=0)= !decide (y%100=0):=by rw [bne,tz]
 have t0:=tz y 400;by_cases h4:y%4=0
 ·by_cases h1:y%100=0
  ·by_cases h0:y%400=0
   ·have HL:Hid (lpB y=true):=by unfold Hid lpB;simp;omega
    simp only [h4,h1,h0,decide_true,Bool.not_true]at t4 t1 t0;clear h4 h1 h0;go_enter func219,ntmps219;go_wp2;go_ret;exact⟨ret_bool HL.out.symm,rfl⟩
   ·have HL:Hid (lpB y=false):=by unfold Hid lpB;simp;omega
    simp only [h4,h1,h0,decide_true,decide_false,Bool.not_true]at t4 t1 t0;clear h4 h1 h0;go_enter func219,ntmps219;go_wp2;go_ret;exact⟨ret_bool HL.out.symm,rfl⟩
  ·have HL:Hid (lpB y=true):=by unfold Hid lpB;simp;omega
   simp only [h4,h1,decide_true,decide_false,Bool.not_false]at t4 t1;clear h4 h1 t0;go_enter func219,ntmps219;go_wp2;go_ret;exact⟨ret_bool HL.out.symm,rfl⟩
 ·have HL:Hid (lpB y=false):=by unfold Hid lpB;simp;omega
  simp only [h4,decide_false]at t4;clear h4 t1 t0;go_enter func219,ntmps219;go_wp2;go_ret;exact⟨ret_bool HL.out.symm,rfl⟩

theorem dim_any (y m:Int) (w:World):
  CS 210 #[.int .i64 y,.int .i64 m] w (.int .i64 (dim y m)):=by
 have hl:=lpB_lp y;by_cases h2:m=2
 ·subst h2;have hd:dim y 2=28+lp y:=by simp [dim]
  cases hb:lpB y
  all_goals
   have HD:=zh hd;have HL:Hid _:=hl;rw [hb]at HL;clear hd hl;go_enter func210,ntmps210;go_wp2_with(go_at_call 219;refine(leap_any _ _).mono ?_;rintro e w' ⟨rfl,rfl⟩)
   go_ret;exact⟨ret_int (by rw [HD.out,HL.out];rfl),rfl⟩
 ·clear hl;by_cases h30:m=4∨m=6∨m=9∨m=11
  ·rcases h30 with rfl|rfl|rfl|rfl
   all_goals
    go_enter func210,ntmps210;go_wp2;go_ret;exact⟨ret_int (by simp [dim]),rfl⟩
  ·have HD:Hid (dim y m=31):=by unfold Hid dim;rw [if_neg h2,if_neg h30]
   have d2:(m==2)=false:=by simp [h2]
   have d4:(m==4)=false:=by simp;omega
   have d6:(m==6)=false:=by simp;omega
   have d9:(m==9)=false:=by simp;omega
   have d11:(m==11)=false:=by simp;omega
   clear h2 h30;go_enter func210,ntmps210;go_wp2;go_ret;exact⟨ret_int HD.out.symm,rfl⟩

theorem ys_any (y:Int) (w:World) (h1: -4000≤y) (h2:y≤9000):
  CS 211 #[.int .i64 y] w (.int .i64 (ys y)):=by
 go_enter func211,ntmps211;go_wp2;go_ret;exact⟨ret_int (by unfold ys;omega),rfl⟩

def tmB (n:Int):Bool:=decide (-100000000000≤n∧n≤100000000000)
def shB (n:Int):Bool:=decide (-900≤n∧n≤900)
theorem tm_iff (n:Int):tmB n=true↔(-100000000000≤n∧n≤100000000000):=by unfold tmB;simp
theorem sh_iff (n:Int):shB n=true↔(-900≤n∧n≤900):=by unfold shB;simp

theorem time_any (n:Int) (w:World):
  CS 216 #[.int .i64 n] w (.bool (tmB n)):=by
 by_cases h1:n< -100000000000
 ·have HT:Hid (tmB n=false):=by unfold Hid tmB;simp;omega
  have d:decide (-100000000000≤n)=false:=by simp;omega
  go_enter func216,ntmps216;go_wp2;go_ret;exact⟨ret_bool HT.out.symm,rfl⟩
 ·have d:decide (-100000000000≤n)=true:=by simp;omega
  have HT:Hid (tmB n=decide (n≤100000000000)):=by unfold Hid tmB;rw [decide_eq_decide];omega
  go_enter func216,ntmps216;go_wp2;go_ret;exact⟨ret_bool HT.out.symm,rfl⟩

theorem shift_any (n:Int) (w:World):
  CS 217 #[.int .i64 n] w (.bool (shB n)):=by
 by_cases h1:n< -900
 ·have HT:Hid (shB n=false):=by unfold Hid shB;simp;omega
  have d:decide (-900≤n)=false:=by simp;omega
  go_enter func217,ntmps217;go_wp2;go_ret;exact⟨ret_bool HT.out.symm,rfl⟩
 ·have d:decide (-900≤n)=true:=by simp;omega
  have HT:Hid (shB n=decide (n≤900)):=by unfold Hid shB;rw [decide_eq_decide];omega
  go_enter func217,ntmps217;go_wp2;go_ret;exact⟨ret_bool HT.out.symm,rfl⟩

theorem days_no (y m d:Int) (w:World) (h:vldB y m d=false):
  CS 204 #[.int .i64 y,.int .i64 m,.int .i64 d] w (.tuple #[.int .i64 0,.int .i64 1]):=by
 have h': ¬(-4000≤y∧y≤8000∧1≤m∧m≤12∧1≤d∧d≤dim y m):=by
  intro c;rw [vld_mk c]at h;exact Bool.noConfusion h
 clear h;by_cases h1:y< -4000
 ·clear h';go_enter func204,ntmps204;go_wp2;go_ret2;exact⟨rfl,rfl⟩
 by_cases h2:8000<y
 ·clear h';go_enter func204,ntmps204;go_wp2;go_ret2;exact⟨rfl,rfl⟩
 by_cases h3:m<1
 ·clear h';go_enter func204,ntmps204;go_wp2;go_ret2;exact⟨rfl,rfl⟩
 by_cases h4:12<m
 ·clear h';go_enter func204,ntmps204;go_wp2;go_ret2;exact⟨rfl,rfl⟩
 by_cases h5:d<1
 ·clear h';go_enter func204,ntmps204;go_wp2;go_ret2;exact⟨rfl,rfl⟩
 have h6:dim y m<d:=by omega
 clear h';go_enter func204,ntmps204;go_wp2_with(go_at_call 210;refine(dim_any _ _ _).mono ?_;rintro e w' ⟨rfl,rfl⟩)
 go_ret2;exact⟨rfl,rfl⟩

theorem days_yes (y m d:Int) (w:World) (h:vldB y m d=true):
  CS 204 #[.int .i64 y,.int .i64 m,.int .i64 d] w (.tuple #[.int .i64 (num y m d),.int .i64 0]):=by
 obtain⟨h1,h2,h3,h4,h5,h6⟩:=(vld_iff _ _ _).1 h;clear h;have b1:=ys_bd y h1 (by omega);have b2:=ys_bd 1970 (by omega) (by omega);have b3:=dim_bd y m;go_enter func204,ntmps204;go_wp2_with(first|(go_at_call 210;refine(dim_any _ _ _).mono ?_;rintro e w' ⟨rfl,rfl⟩)|(go_at_call 211;refine(ys_any _ _ (by omega) (by omega)).mono ?_;rintro e w' ⟨rfl,rfl⟩))
 go_loop [8,9] (fun n k=> ∃j:Int,1≤j∧j≤m∧k=.int .i64 j∧n=.int .i64 (ys y+d-1+cum y j)) (fun _ k=>(12-intOf k).toNat)
 case atStart=>exact⟨1,by omega,by omega,rfl,by rw [cum_one];go_num⟩
 case round=>
  obtain⟨j,hj1,hj2,rfl,rfl⟩:=hrel;have cb:=cum_bd y j;have db:=dim_bd y j;by_cases hlt:j<m
  ·have HC:Hid (cum y (j+1)=cum y j+dim y j):=cum_succ y j hj1 (by omega);go_wp2_with(first|(go_at_call 210;refine(dim_any _ _ _).mono ?_;rintro e w' ⟨rfl,rfl⟩))
   go_round
   case rel=>exact⟨j+1,by omega,by omega,rfl,by rw [HC.out];go_num⟩
   case measure=>simp [intOf];omega
  ·have hjm:Hid (j=m):=by unfold Hid;omega
   have H0:=zh ys_1970;go_wp2_with(first|(go_at_call 210;refine(dim_any _ _ _).mono ?_;rintro e w' ⟨rfl,rfl⟩)|(go_at_call 211;refine(ys_any _ _ (by omega) (by omega)).mono ?_;rintro e w' ⟨rfl,rfl⟩))
   go_ret2;exact⟨ret_two (by unfold num;rw [←hjm.out,H0.out];omega) rfl,rfl⟩

abbrev civ (y m d h i s k:Int):Value:=.agg #[.int .i64 y,.int .i64 m,.int .i64 d,.int .i64 h,.int .i64 i,.int .i64 s,.int .i64 k]

theorem date_any (n:Int) (w:World) (h1:0≤n) (h2:n≤4000000):
  CB 218 #[.int .i64 n] w (civ (yr n) (mo n) (dy n) 0 0 0 ((n+6)%7)):=by
 have b1:=ys_bd (-4000+n*400/146097) (by omega) (by omega);have b2:=ys_bd (-4000+n*400/146097+1) (by omega) (by omega);have yb:=yr_bd n h1 h2;have b3:=ys_bd (yr n) yb.1 (by omega);have ysp:=yr_spec n;by_cases c1:n<ys (-4000+n*400/146097)
 ·have HY:Hid (yr n= -4000+n*400/146097-1):=by unfold Hid yr;rw [if_pos c1]
  rw [HY.out]at yb b3 ysp;have HN:Hid (ys (-4000+n*400/146097-1+1)=ys (-4000+n*400/146097-1)+365+lp (-4000+n*400/146097-1)):=ys_succ _;go_enter func218,ntmps218;go_wp2_with(first|(go_at_call 210;refine(dim_any _ _ _).mono ?_;rintro e w' ⟨rfl,rfl⟩)|(go_at_call 211;refine(ys_any _ _ (by omega) (by omega)).mono ?_;rintro e w' ⟨rfl,rfl⟩))
  go_loop [4,5] (fun r k=> ∃j:Int,1≤j∧j≤12∧k=.int .i64 j∧cum (-4000+n*400/146097-1) j≤n-ys (-4000+n*400/146097-1)∧r=.int .i64 (n-ys (-4000+n*400/146097-1)-cum (-4000+n*400/146097-1) j)) (fun _ k=>(12-intOf k).toNat)
  case atStart=>exact⟨1,by omega,by omega,rfl,by rw [cum_one];omega,by rw [cum_one];go_num⟩
  case round=>
   obtain⟨j,hj1,hj2,rfl,hc,rfl⟩:=hrel;have cb:=cum_bd (-4000+n*400/146097-1) j;have db:=dim_bd (-4000+n*400/146097-1) j;have HC:Hid (cum (-4000+n*400/146097-1) (j+1)=cum (-4000+n*400/146097-1) j+dim (-4000+n*400/146097-1) j):=cum_succ _ j hj1 hj2;have hl:=lp_01 (-4000+n*400/146097-1);by_cases hlt:dim (-4000+n*400/146097-1) j≤n-ys (-4000+n*400/146097-1)-cum (-4000+n*400/146097-1) j
   ·have hj3:j<12:=by
     by_cases e:j=12
     ·subst e;have c13:=cum_last (-4000+n*400/146097-1);have q:=HC.out;have q2:=HN.out;rw [show(12:Int)+1=13 by decide]at q;omega
     ·omega
    go_wp2_with(first|(go_at_call 210;refine(dim_any _ _ _).mono ?_;rintro e w' ⟨rfl,rfl⟩))
    go_round
    case rel=>exact⟨j+1,by omega,by omega,rfl,by rw [HC.out];omega,by rw [HC.out];go_num⟩
    case measure=>simp [intOf];omega
   ·obtain⟨e1,e2,e3⟩:=date_is (n:=n) (y:= -4000+n*400/146097-1) (m:=j) (d:=n-ys (-4000+n*400/146097-1)-cum (-4000+n*400/146097-1) j+1) ⟨hj1,hj2,by omega,by omega⟩ (by omega);have E:Hid (_∧_∧_):=⟨e1,e2,e3⟩
    clear e1 e2 e3;go_wp2_with(first|(go_at_call 210;refine(dim_any _ _ _).mono ?_;rintro e w' ⟨rfl,rfl⟩))
    refine bodyPost_ret (v:=civ (-4000+n*400/146097-1) j (n-ys (-4000+n*400/146097-1)-cum (-4000+n*400/146097-1) j+1) 0 0 0 ((n+6)%7)) (by simp [results,results218,go_sem]) rfl ⟨?_,?_⟩
    ·rw [E.out.1,E.out.2.1,E.out.2.2]
    ·exact(Below.refl _ _).alloc (Xa _) _
 ·by_cases c2:ys (-4000+n*400/146097+1)≤n
  ·have HY:Hid (yr n= -4000+n*400/146097+1):=by unfold Hid yr;rw [if_neg c1,if_pos c2]
   rw [HY.out]at yb b3 ysp;have HN:Hid (ys (-4000+n*400/146097+1+1)=ys (-4000+n*400/146097+1)+365+lp (-4000+n*400/146097+1)):=ys_succ _;go_enter func218,ntmps218;go_wp2_with(first|(go_at_call 210;refine(dim_any _ _ _).mono ?_;rintro e w' ⟨rfl,rfl⟩)|(go_at_call 211;refine(ys_any _ _ (by omega) (by omega)).mono ?_;rintro e w' ⟨rfl,rfl⟩))
   go_loop [4,5] (fun r k=> ∃j:Int,1≤j∧j≤12∧k=.int .i64 j∧cum (-4000+n*400/146097+1) j≤n-ys (-4000+n*400/146097+1)∧r=.int .i64 (n-ys (-4000+n*400/146097+1)-cum (-4000+n*400/146097+1) j)) (fun _ k=>(12-intOf k).toNat)
   case atStart=>exact⟨1,by omega,by omega,rfl,by rw [cum_one];omega,by rw [cum_one];go_num⟩
   case round=>
    obtain⟨j,hj1,hj2,rfl,hc,rfl⟩:=hrel;have cb:=cum_bd (-4000+n*400/146097+1) j;have db:=dim_bd (-4000+n*400/146097+1) j;have HC:Hid (cum (-4000+n*400/146097+1) (j+1)=cum (-4000+n*400/146097+1) j+dim (-4000+n*400/146097+1) j):=cum_succ _ j hj1 hj2;have hl:=lp_01 (-4000+n*400/146097+1);by_cases hlt:dim (-4000+n*400/146097+1) j≤n-ys (-4000+n*400/146097+1)-cum (-4000+n*400/146097+1) j
    ·have hj3:j<12:=by
      by_cases e:j=12
      ·subst e;have c13:=cum_last (-4000+n*400/146097+1);have q:=HC.out;have q2:=HN.out;rw [show(12:Int)+1=13 by decide]at q;omega
      ·omega
     go_wp2_with(first|(go_at_call 210;refine(dim_any _ _ _).mono ?_;rintro e w' ⟨rfl,rfl⟩))
     go_round
     case rel=>exact⟨j+1,by omega,by omega,rfl,by rw [HC.out];omega,by rw [HC.out];go_num⟩
     case measure=>simp [intOf];omega
    ·obtain⟨e1,e2,e3⟩:=date_is (n:=n) (y:= -4000+n*400/146097+1) (m:=j) (d:=n-ys (-4000+n*400/146097+1)-cum (-4000+n*400/146097+1) j+1) ⟨hj1,hj2,by omega,by omega⟩ (by omega);have E:Hid (_∧_∧_):=⟨e1,e2,e3⟩
     clear e1 e2 e3;go_wp2_with(first|(go_at_call 210;refine(dim_any _ _ _).mono ?_;rintro e w' ⟨rfl,rfl⟩))
     refine bodyPost_ret (v:=civ (-4000+n*400/146097+1) j (n-ys (-4000+n*400/146097+1)-cum (-4000+n*400/146097+1) j+1) 0 0 0 ((n+6)%7)) (by simp [results,results218,go_sem]) rfl ⟨?_,?_⟩
     ·rw [E.out.1,E.out.2.1,E.out.2.2]
     ·exact(Below.refl _ _).alloc (Xa _) _
  ·have HY:Hid (yr n= -4000+n*400/146097):=by unfold Hid yr;rw [if_neg c1,if_neg c2]
   rw [HY.out]at yb b3 ysp;have HN:Hid (ys (-4000+n*400/146097+1)=ys (-4000+n*400/146097)+365+lp (-4000+n*400/146097)):=ys_succ _;go_enter func218,ntmps218;go_wp2_with(first|(go_at_call 210;refine(dim_any _ _ _).mono ?_;rintro e w' ⟨rfl,rfl⟩)|(go_at_call 211;refine(ys_any _ _ (by omega) (by omega)).mono ?_;rintro e w' ⟨rfl,rfl⟩))
   go_loop [4,5] (fun r k=> ∃j:Int,1≤j∧j≤12∧k=.int .i64 j∧cum (-4000+n*400/146097) j≤n-ys (-4000+n*400/146097)∧r=.int .i64 (n-ys (-4000+n*400/146097)-cum (-4000+n*400/146097) j)) (fun _ k=>(12-intOf k).toNat)
   case atStart=>exact⟨1,by omega,by omega,rfl,by rw [cum_one];omega,by rw [cum_one];go_num⟩
   case round=>
    obtain⟨j,hj1,hj2,rfl,hc,rfl⟩:=hrel;have cb:=cum_bd (-4000+n*400/146097) j;have db:=dim_bd (-4000+n*400/146097) j;have HC:Hid (cum (-4000+n*400/146097) (j+1)=cum (-4000+n*400/146097) j+dim (-4000+n*400/146097) j):=cum_succ _ j hj1 hj2;have hl:=lp_01 (-4000+n*400/146097);by_cases hlt:dim (-4000+n*400/146097) j≤n-ys (-4000+n*400/146097)-cum (-4000+n*400/146097) j
    ·have hj3:j<12:=by
      by_cases e:j=12
      ·subst e;have c13:=cum_last (-4000+n*400/146097);have q:=HC.out;have q2:=HN.out;rw [show(12:Int)+1=13 by decide]at q;omega
      ·omega
     go_wp2_with(first|(go_at_call 210;refine(dim_any _ _ _).mono ?_;rintro e w' ⟨rfl,rfl⟩))
     go_round
     case rel=>exact⟨j+1,by omega,by omega,rfl,by rw [HC.out];omega,by rw [HC.out];go_num⟩
     case measure=>simp [intOf];omega
    ·obtain⟨e1,e2,e3⟩:=date_is (n:=n) (y:= -4000+n*400/146097) (m:=j) (d:=n-ys (-4000+n*400/146097)-cum (-4000+n*400/146097) j+1) ⟨hj1,hj2,by omega,by omega⟩ (by omega);have E:Hid (_∧_∧_):=⟨e1,e2,e3⟩
     clear e1 e2 e3;go_wp2_with(first|(go_at_call 210;refine(dim_any _ _ _).mono ?_;rintro e w' ⟨rfl,rfl⟩))
     refine bodyPost_ret (v:=civ (-4000+n*400/146097) j (n-ys (-4000+n*400/146097)-cum (-4000+n*400/146097) j+1) 0 0 0 ((n+6)%7)) (by simp [results,results218,go_sem]) rfl ⟨?_,?_⟩
     ·rw [E.out.1,E.out.2.1,E.out.2.2]
     ·exact(Below.refl _ _).alloc (Xa _) _


theorem bcell {W w1:World} (hb:Below W.heap.size W w1):(∀b o,b<W.heap.size→w1.cell? ⟨b,o,none⟩=W.cell? ⟨b,o,none⟩)∧(∀b o,b<W.heap.size→w1.frozen? ⟨b,o,none⟩=W.frozen? ⟨b,o,none⟩):=
 ⟨fun b o h=>hb.cell (p:=⟨b,o,none⟩) h,fun b o h=>hb.frozen (p:=⟨b,o,none⟩) h⟩

theorem bstep {a b c:World} (h:Below a.heap.size a b) (k:Below b.heap.size b c):Below a.heap.size a c:=(zu h k)
theorem bstepA {a b:World} (h:Below a.heap.size a b) (o:Obj):Below a.heap.size a (b.alloc o):=h.alloc h.size o

theorem of_no (sec shift:Int) (w:World) (h:tmB sec=false∨shB shift=false):
  CB 209 #[.int .i64 sec,.int .i64 shift] w (.tuple #[civ 0 0 0 0 0 0 0,.int .i64 1]):=by
 cases ht:tmB sec
 ·clear h;go_enter func209,ntmps209;go_wp2_with(first|(go_at_call 216;refine(time_any _ _).mono ?_;rintro e w' ⟨rfl,rfl⟩)|(go_at_call 217;refine(shift_any _ _).mono ?_;rintro e w' ⟨rfl,rfl⟩))
  refine bodyPost_ret (v:=.tuple #[civ 0 0 0 0 0 0 0,.int .i64 1]) (by simp [results,results209,go_sem]) rfl ⟨rfl,?_⟩;exact(Below.refl _ _).alloc (Xa _) _
 ·have hs:shB shift=false:=by rcases h with h|h;(rw [ht]at h;exact Bool.noConfusion h);exact h
  clear h;go_enter func209,ntmps209;go_wp2_with(first|(go_at_call 216;refine(time_any _ _).mono ?_;rintro e w' ⟨rfl,rfl⟩)|(go_at_call 217;refine(shift_any _ _).mono ?_;rintro e w' ⟨rfl,rfl⟩))
  refine bodyPost_ret (v:=.tuple #[civ 0 0 0 0 0 0 0,.int .i64 1]) (by simp [results,results209,go_sem]) rfl ⟨rfl,?_⟩;exact(Below.refl _ _).alloc (Xa _) _

abbrev sc (sec shift:Int):Int:=sec+(188395027200+shift*60)
abbrev ofv (t:Int):Value:=civ (yr (t/86400)) (mo (t/86400)) (dy (t/86400)) (t%86400/3600) (t%3600/60) (t%60) ((t/86400+6)%7)

theorem ys_c (w:World):CS 211 #[.int .i64 1970] w (.int .i64 2180498):=by
 have:=ys_any 1970 w (by omega) (by omega);rw [ys_1970]at this;exact this

theorem of_yes (sec shift:Int) (w:World) (ht:tmB sec=true) (hs:shB shift=true):
  CB 209 #[.int .i64 sec,.int .i64 shift] w (.tuple #[ofv (sc sec shift),.int .i64 0]):=by
 have h1:=(tm_iff _).1 ht;have h2:=(sh_iff _).1 hs;go_enter func209,ntmps209;go_wp2_with(first|(go_at_call 216;refine(time_any _ _).mono ?_;rintro e w' ⟨rfl,rfl⟩)|(go_at_call 217;refine(shift_any _ _).mono ?_;rintro e w' ⟨rfl,rfl⟩)|(go_at_call 211;refine(ys_c _).mono ?_;rintro e w' ⟨rfl,rfl⟩)|(go_at_call 218;refine(date_any _ _ (by omega) (by omega)).mono ?_;rintro e w1 ⟨rfl,hb⟩;obtain⟨hc,hf⟩:=bcell hb;have hz:w.heap.size<w1.heap.size:=(by have:=hb.size;simp at this;omega)))
 refine bodyPost_ret (v:=.tuple #[ofv (sc sec shift),.int .i64 0]) (by simp [results,results209,go_sem,hc,hz]) rfl ⟨rfl,?_⟩;exact(((((((((((Below.refl _ _).alloc (Xa _) _).trans (hb.mono (by simp))).setCell (Xa _) _).setCell (Xa _) _).setCell (Xa _) _).setCell (Xa _) _).setCell (Xa _) _).setCell (Xa _) _).setCell (Xa _) _).alloc (by simp;omega) _)
end Civ
namespace Rsw
open Go.RowKit
theorem ret_int {k:IntKind} {a b:Int} (h:a=b):Ending.returned (.int k a)=.returned (.int k b):=by rw [h]
theorem rest_any (n m:Int) (w:World) (h1:1≤m) (h2:m≤1000000000000):
  CS 171 #[.int .i64 n,.int .i64 m] w (.int .i64 (n%m)):=by
 have hm: ¬m=0:=by omega
 have h3:=Int.tmod_lt_of_pos n (show 0<m by omega);have h4: -m<n.tmod m:=by
  have:=Int.tmod_lt_of_pos (-n) (show 0<m by omega);rw [Int.neg_tmod]at this;omega
 by_cases hr:n.tmod m<0
 ·have HE:Hid (n.tmod m+m=n%m):=by
   have:=Int.emod_eq_add_self_emod (a:=n.tmod m) (b:=m);have h5:(n.tmod m+m)%m=n.tmod m+m:=Int.emod_eq_of_lt (by omega) (by omega);have h6:n.tmod m%m=n%m:=by
    have h7:=Int.tmod_add_mul_tdiv n m;have h8:n.tmod m=n+m* -(n.tdiv m):=by rw [Int.mul_neg];omega
    rw [h8,Int.add_mul_emod_self_left]
   show n.tmod m+m=n%m;omega
  go_enter func171,ntmps171;go_wp2;go_ret;exact⟨ret_int HE.out,rfl⟩
 ·have HE:Hid (n.tmod m=n%m):=by
   have h5:n.tmod m%m=n.tmod m:=Int.emod_eq_of_lt (by omega) (by omega);have h6:n.tmod m%m=n%m:=by
    have h7:=Int.tmod_add_mul_tdiv n m;have h8:n.tmod m=n+m* -(n.tdiv m):=by rw [Int.mul_neg];omega
    rw [h8,Int.add_mul_emod_self_left]
   show n.tmod m=n%m;omega
  go_enter func171,ntmps171;go_wp2;go_ret;exact⟨ret_int HE.out,rfl⟩

end Rsw
namespace Num
open Plain Go.RowKit

theorem rclip_any (n:Int) (w:World):
  CS 87 #[.int .i64 n] w (.int .i64 (clip n)):=by
 by_cases h1:1000000000000000<n
 ·go_enter func87,ntmps87;go_wp2;go_ret;exact⟨ret_int (clip_hi h1).symm,rfl⟩
 ·by_cases h2:n< -1000000000000000
  ·go_enter func87,ntmps87;go_wp2;go_ret;exact⟨ret_int (clip_lo h2).symm,rfl⟩
  ·go_enter func87,ntmps87;go_wp2;go_ret;exact⟨ret_int (clip_in (by omega) (by omega)).symm,rfl⟩

theorem rceil_any (a b:Int) (w:World) (h:1≤b):
  CS 159 #[.int .i64 a,.int .i64 b] w (.int .i64 (up (clip a) (clip b))):=by
 have ha:=clip_bd a;have hb:=clip_bd b;have h1:=clip_one h;have hq:=tdiv_bd _ _ h1 ha;have hnz: ¬clip b=0:=by omega
 obtain⟨t1,t2⟩:=tquot (clip a) (clip b) h1;have hlo:(clip a).tdiv (clip b)*clip b≤2000000000000000∧ -2000000000000000≤(clip a).tdiv (clip b)*clip b:=by
  rcases XN (clip a) 0 with g|g
  ·have:=t2 g;omega
  ·have:=t1 g;omega
 have T:Hid ((clip a).tmod (clip b)=clip a-(clip a).tdiv (clip b)*clip b):=by
  rcases XN (clip a) 0 with g|g
  ·exact(t2 g).2.2
  ·exact(t1 g).2.2
 have T2:Hid (clip a<(clip a).tdiv (clip b)*clip b+clip b):=by
  rcases XN (clip a) 0 with g|g
  ·show _<_;have:=t2 g;omega
  ·exact(t1 g).2.1
 clear t1 t2;go_enter func159,ntmps159;go_wp2_with(go_at_call 87;refine(rclip_any _ _).mono ?_;rintro e w' ⟨rfl,rfl⟩)
 go_loop [5] (fun i=> ∃n:Int,(n=(clip a).tdiv (clip b)∨(n=(clip a).tdiv (clip b)+1∧0<(clip a).tmod (clip b)))∧i=.int .i64 n) (fun i=>((clip a).tdiv (clip b)+1-intOf i).toNat)
 case atStart=>exact⟨_,Or.inl rfl,rfl⟩
 case round=>
  obtain⟨n,hn,rfl⟩:=hrel;rcases hn with rfl|⟨rfl,hr⟩
  ·by_cases hr:0<(clip a).tmod (clip b)
   ·have hlt:(clip a).tdiv (clip b)*clip b<clip a:=by have:=T.out;omega
    go_wp2;go_round
    case rel=>exact⟨_,Or.inr ⟨rfl,hr⟩,rfl⟩
    case measure=>simp [intOf];omega
   ·have hge: ¬(clip a).tdiv (clip b)*clip b<clip a:=by have:=T.out;omega
    have HU:Hid (up (clip a) (clip b)=(clip a).tdiv (clip b)):=by unfold Hid up;rw [if_neg hr]
    go_wp2;go_ret;exact⟨ret_int HU.out.symm,rfl⟩
  ·have e:((clip a).tdiv (clip b)+1)*clip b=(clip a).tdiv (clip b)*clip b+clip b:=by rw [Int.add_mul,Int.one_mul]
   have hge: ¬((clip a).tdiv (clip b)+1)*clip b<clip a:=by have:=T2.out;omega
   have hbd:((clip a).tdiv (clip b)+1)*clip b≤3000000000000000:=by omega
   have HU:Hid (up (clip a) (clip b)=(clip a).tdiv (clip b)+1):=by unfold Hid up;rw [if_pos hr]
   clear e;go_wp2;go_ret;exact⟨ret_int HU.out.symm,rfl⟩

theorem rmul_neg_neg (a b:Int) (w:World) (s1:clip a<0) (s2:clip b<0):
  CS 160 #[.int .i64 a,.int .i64 b] w (.int .i64 (mulc (clip a) (clip b))):=by
 have ha:=clip_bd a;have hb:=clip_bd b;have d1:decide (clip a<0)=true:=by simp;omega
 have d2:decide (clip b<0)=true:=by simp;omega
 have E1:Hid (sz (clip a)= -clip a):=sz_neg s1;have E2:Hid (sz (clip b)= -clip b):=sz_neg s2;have b1:0≤sz (clip a):=(sz_bd _ ha).1;have b2:=sz_bd _ hb;have HM:Hid _:=mulc_plus (clip a) (clip b) (by rw [d1,d2];rfl);go_enter func160,ntmps160;go_wp2_with(go_at_call 87;refine(rclip_any _ _).mono ?_;rintro e w' ⟨rfl,rfl⟩)
 generalize hB: -clip b=B at E2⊢;have B0:0≤B:=by omega
 have B1:B≤1000000000000000:=by omega
 clear hB;generalize hA: -clip a=A at E1⊢;have A0:0≤A:=by omega
 have A1:A≤1000000000000000:=by omega
 clear hA;go_loop [6,7] (fun n p=> ∃P:Int,(P=0∨(Hid (Ten P)∧1≤P∧P≤1000000000000000))∧p=.int .i64 P∧n=.int .i64 (sofar (sz (clip a)) (sz (clip b)) P)) (fun _ p=>(intOf p).toNat)
 case atStart=>exact⟨1000000000000000,Or.inr ⟨ten_first,by omega,by omega⟩,rfl,by rw [sofar_first _ _ b2]⟩
 case round=>
  obtain⟨P,hP,rfl,rfl⟩:=hrel;rcases hP with rfl|⟨ht,hp,hle⟩
  ·have ab:=sofar_bd (sz (clip a)) (sz (clip b)) 0 b1 b2.1 (by omega);go_wp2;go_ret;exact⟨ret_int (by rw [HM.out];unfold sofar;rw [if_pos rfl]),rfl⟩
  ·have ab:=sofar_bd (sz (clip a)) (sz (clip b)) P b1 b2.1 (by omega);have q0:0≤B/P:=Int.ediv_nonneg (by omega) (by omega);have q1:B/P≤B:=Int.ediv_le_self P (by omega);have Z:Hid _:=pway_zero (sz (clip a)) (sz (clip b)) P b1 b2.1 hp;rw [←sofar_at _ _ _ hp]at Z;go_wp2_with(go_at_call 87;refine(rclip_any _ _).mono ?_;rintro e w' ⟨rfl,rfl⟩)
   go_loop [6,8] (fun n k=> ∃i:Int,0≤i∧i≤B/P%10∧k=.int .i64 i∧n=.int .i64 (pway (sz (clip a)) (sz (clip b)) P i)) (fun _ k=>(10-intOf k).toNat)
   case atStart=>exact⟨0,by omega,by omega,rfl,by rw [Z.out]⟩
   case round=>
    obtain⟨i,hi,hj,rfl,rfl⟩:=hrel;have pb:=pway_bd (sz (clip a)) (sz (clip b)) P i b1 b2.1 hp hi;have S:Hid _:=pway_step (sz (clip a)) (sz (clip b)) P i b1 b2.1 hp hi;by_cases hlt:i<B/P%10
    ·go_wp2_with(go_at_call 87;refine(rclip_any _ _).mono ?_;rintro e w' ⟨rfl,rfl⟩)
     go_round
     case rel=>exact⟨i+1,by omega,by omega,rfl,by rw [S.out,E1.out]⟩
     case measure=>simp [intOf];omega
    ·go_wp2;go_round
     case rel=>
      refine⟨P/10,?_,rfl,?_⟩
      ·rcases ten_next ht.out with h|⟨h,h'⟩
       ·left;omega
       ·right;exact⟨h,ten_pos h,by omega⟩
      ·rw [←sofar_next _ _ _ ht.out,←pway_last _ _ _ hp];have e:i=sz (clip b)/P%10:=by rw [E2.out];omega
       rw [e]
     case measure=>simp [intOf];omega

theorem rmul_neg_pos (a b:Int) (w:World) (s1:clip a<0) (s2:0≤clip b):
  CS 160 #[.int .i64 a,.int .i64 b] w (.int .i64 (mulc (clip a) (clip b))):=by
 have ha:=clip_bd a;have hb:=clip_bd b;have d1:decide (clip a<0)=true:=by simp;omega
 have d2:decide (clip b<0)=false:=by simp;omega
 have E1:Hid (sz (clip a)= -clip a):=sz_neg s1;have E2:Hid (sz (clip b)=clip b):=sz_pos s2;have b1:0≤sz (clip a):=(sz_bd _ ha).1;have b2:=sz_bd _ hb;have HM:Hid _:=mulc_minus (clip a) (clip b) (by rw [d1,d2];rfl);go_enter func160,ntmps160;go_wp2_with(go_at_call 87;refine(rclip_any _ _).mono ?_;rintro e w' ⟨rfl,rfl⟩)
 generalize hA: -clip a=A at E1⊢;have A0:0≤A:=by omega
 have A1:A≤1000000000000000:=by omega
 clear hA;go_loop [6,7] (fun n p=> ∃P:Int,(P=0∨(Hid (Ten P)∧1≤P∧P≤1000000000000000))∧p=.int .i64 P∧n=.int .i64 (sofar (sz (clip a)) (sz (clip b)) P)) (fun _ p=>(intOf p).toNat)
 case atStart=>exact⟨1000000000000000,Or.inr ⟨ten_first,by omega,by omega⟩,rfl,by rw [sofar_first _ _ b2]⟩
 case round=>
  obtain⟨P,hP,rfl,rfl⟩:=hrel;rcases hP with rfl|⟨ht,hp,hle⟩
  ·have ab:=sofar_bd (sz (clip a)) (sz (clip b)) 0 b1 b2.1 (by omega);go_wp2;go_ret;exact⟨ret_int (by rw [HM.out];unfold sofar;rw [if_pos rfl]),rfl⟩
  ·have ab:=sofar_bd (sz (clip a)) (sz (clip b)) P b1 b2.1 (by omega);have q0:0≤clip b/P:=Int.ediv_nonneg (by omega) (by omega);have q1:clip b/P≤clip b:=Int.ediv_le_self P (by omega);have Z:Hid _:=pway_zero (sz (clip a)) (sz (clip b)) P b1 b2.1 hp;rw [←sofar_at _ _ _ hp]at Z;go_wp2_with(go_at_call 87;refine(rclip_any _ _).mono ?_;rintro e w' ⟨rfl,rfl⟩)
   go_loop [6,8] (fun n k=> ∃i:Int,0≤i∧i≤clip b/P%10∧k=.int .i64 i∧n=.int .i64 (pway (sz (clip a)) (sz (clip b)) P i)) (fun _ k=>(10-intOf k).toNat)
   case atStart=>exact⟨0,by omega,by omega,rfl,by rw [Z.out]⟩
   case round=>
    obtain⟨i,hi,hj,rfl,rfl⟩:=hrel;have pb:=pway_bd (sz (clip a)) (sz (clip b)) P i b1 b2.1 hp hi;have S:Hid _:=pway_step (sz (clip a)) (sz (clip b)) P i b1 b2.1 hp hi;by_cases hlt:i<clip b/P%10
    ·go_wp2_with(go_at_call 87;refine(rclip_any _ _).mono ?_;rintro e w' ⟨rfl,rfl⟩)
     go_round
     case rel=>exact⟨i+1,by omega,by omega,rfl,by rw [S.out,E1.out]⟩
     case measure=>simp [intOf];omega
    ·go_wp2;go_round
     case rel=>
      refine⟨P/10,?_,rfl,?_⟩
      ·rcases ten_next ht.out with h|⟨h,h'⟩
       ·left;omega
       ·right;exact⟨h,ten_pos h,by omega⟩
      ·rw [←sofar_next _ _ _ ht.out,←pway_last _ _ _ hp];have e:i=sz (clip b)/P%10:=by rw [E2.out];omega
       rw [e]
     case measure=>simp [intOf];omega

theorem rmul_pos_neg (a b:Int) (w:World) (s1:0≤clip a) (s2:clip b<0):
  CS 160 #[.int .i64 a,.int .i64 b] w (.int .i64 (mulc (clip a) (clip b))):=by
 have ha:=clip_bd a;have hb:=clip_bd b;have d1:decide (clip a<0)=false:=by simp;omega
 have d2:decide (clip b<0)=true:=by simp;omega
 have E1:Hid (sz (clip a)=clip a):=sz_pos s1;have E2:Hid (sz (clip b)= -clip b):=sz_neg s2;have b1:0≤sz (clip a):=(sz_bd _ ha).1;have b2:=sz_bd _ hb;have HM:Hid _:=mulc_minus (clip a) (clip b) (by rw [d1,d2];rfl);go_enter func160,ntmps160;go_wp2_with(go_at_call 87;refine(rclip_any _ _).mono ?_;rintro e w' ⟨rfl,rfl⟩)
 generalize hB: -clip b=B at E2⊢;have B0:0≤B:=by omega
 have B1:B≤1000000000000000:=by omega
 clear hB;go_loop [6,7] (fun n p=> ∃P:Int,(P=0∨(Hid (Ten P)∧1≤P∧P≤1000000000000000))∧p=.int .i64 P∧n=.int .i64 (sofar (sz (clip a)) (sz (clip b)) P)) (fun _ p=>(intOf p).toNat)
 case atStart=>exact⟨1000000000000000,Or.inr ⟨ten_first,by omega,by omega⟩,rfl,by rw [sofar_first _ _ b2]⟩
 case round=>
  obtain⟨P,hP,rfl,rfl⟩:=hrel;rcases hP with rfl|⟨ht,hp,hle⟩
  ·have ab:=sofar_bd (sz (clip a)) (sz (clip b)) 0 b1 b2.1 (by omega);go_wp2;go_ret;exact⟨ret_int (by rw [HM.out];unfold sofar;rw [if_pos rfl]),rfl⟩
  ·have ab:=sofar_bd (sz (clip a)) (sz (clip b)) P b1 b2.1 (by omega);have q0:0≤B/P:=Int.ediv_nonneg (by omega) (by omega);have q1:B/P≤B:=Int.ediv_le_self P (by omega);have Z:Hid _:=pway_zero (sz (clip a)) (sz (clip b)) P b1 b2.1 hp;rw [←sofar_at _ _ _ hp]at Z;go_wp2_with(go_at_call 87;refine(rclip_any _ _).mono ?_;rintro e w' ⟨rfl,rfl⟩)
   go_loop [6,8] (fun n k=> ∃i:Int,0≤i∧i≤B/P%10∧k=.int .i64 i∧n=.int .i64 (pway (sz (clip a)) (sz (clip b)) P i)) (fun _ k=>(10-intOf k).toNat)
   case atStart=>exact⟨0,by omega,by omega,rfl,by rw [Z.out]⟩
   case round=>
    obtain⟨i,hi,hj,rfl,rfl⟩:=hrel;have pb:=pway_bd (sz (clip a)) (sz (clip b)) P i b1 b2.1 hp hi;have S:Hid _:=pway_step (sz (clip a)) (sz (clip b)) P i b1 b2.1 hp hi;by_cases hlt:i<B/P%10
    ·go_wp2_with(go_at_call 87;refine(rclip_any _ _).mono ?_;rintro e w' ⟨rfl,rfl⟩)
     go_round
     case rel=>exact⟨i+1,by omega,by omega,rfl,by rw [S.out,E1.out]⟩
     case measure=>simp [intOf];omega
    ·go_wp2;go_round
     case rel=>
      refine⟨P/10,?_,rfl,?_⟩
      ·rcases ten_next ht.out with h|⟨h,h'⟩
       ·left;omega
       ·right;exact⟨h,ten_pos h,by omega⟩
      ·rw [←sofar_next _ _ _ ht.out,←pway_last _ _ _ hp];have e:i=sz (clip b)/P%10:=by rw [E2.out];omega
       rw [e]
     case measure=>simp [intOf];omega

theorem rmul_pos_pos (a b:Int) (w:World) (s1:0≤clip a) (s2:0≤clip b):
  CS 160 #[.int .i64 a,.int .i64 b] w (.int .i64 (mulc (clip a) (clip b))):=by
 have ha:=clip_bd a;have hb:=clip_bd b;have d1:decide (clip a<0)=false:=by simp;omega
 have d2:decide (clip b<0)=false:=by simp;omega
 have E1:Hid (sz (clip a)=clip a):=sz_pos s1;have E2:Hid (sz (clip b)=clip b):=sz_pos s2;have b1:0≤sz (clip a):=(sz_bd _ ha).1;have b2:=sz_bd _ hb;have HM:Hid _:=mulc_plus (clip a) (clip b) (by rw [d1,d2];rfl);go_enter func160,ntmps160;go_wp2_with(go_at_call 87;refine(rclip_any _ _).mono ?_;rintro e w' ⟨rfl,rfl⟩)
 go_loop [6,7] (fun n p=> ∃P:Int,(P=0∨(Hid (Ten P)∧1≤P∧P≤1000000000000000))∧p=.int .i64 P∧n=.int .i64 (sofar (sz (clip a)) (sz (clip b)) P)) (fun _ p=>(intOf p).toNat)
 case atStart=>exact⟨1000000000000000,Or.inr ⟨ten_first,by omega,by omega⟩,rfl,by rw [sofar_first _ _ b2]⟩
 case round=>
  obtain⟨P,hP,rfl,rfl⟩:=hrel;rcases hP with rfl|⟨ht,hp,hle⟩
  ·have ab:=sofar_bd (sz (clip a)) (sz (clip b)) 0 b1 b2.1 (by omega);go_wp2;go_ret;exact⟨ret_int (by rw [HM.out];unfold sofar;rw [if_pos rfl]),rfl⟩
  ·have ab:=sofar_bd (sz (clip a)) (sz (clip b)) P b1 b2.1 (by omega);have q0:0≤clip b/P:=Int.ediv_nonneg (by omega) (by omega);have q1:clip b/P≤clip b:=Int.ediv_le_self P (by omega);have Z:Hid _:=pway_zero (sz (clip a)) (sz (clip b)) P b1 b2.1 hp;rw [←sofar_at _ _ _ hp]at Z;go_wp2_with(go_at_call 87;refine(rclip_any _ _).mono ?_;rintro e w' ⟨rfl,rfl⟩)
   go_loop [6,8] (fun n k=> ∃i:Int,0≤i∧i≤clip b/P%10∧k=.int .i64 i∧n=.int .i64 (pway (sz (clip a)) (sz (clip b)) P i)) (fun _ k=>(10-intOf k).toNat)
   case atStart=>exact⟨0,by omega,by omega,rfl,by rw [Z.out]⟩
   case round=>
    obtain⟨i,hi,hj,rfl,rfl⟩:=hrel;have pb:=pway_bd (sz (clip a)) (sz (clip b)) P i b1 b2.1 hp hi;have S:Hid _:=pway_step (sz (clip a)) (sz (clip b)) P i b1 b2.1 hp hi;by_cases hlt:i<clip b/P%10
    ·go_wp2_with(go_at_call 87;refine(rclip_any _ _).mono ?_;rintro e w' ⟨rfl,rfl⟩)
     go_round
     case rel=>exact⟨i+1,by omega,by omega,rfl,by rw [S.out,E1.out]⟩
     case measure=>simp [intOf];omega
    ·go_wp2;go_round
     case rel=>
      refine⟨P/10,?_,rfl,?_⟩
      ·rcases ten_next ht.out with h|⟨h,h'⟩
       ·left;omega
       ·right;exact⟨h,ten_pos h,by omega⟩
      ·rw [←sofar_next _ _ _ ht.out,←pway_last _ _ _ hp];have e:i=sz (clip b)/P%10:=by rw [E2.out];omega
       rw [e]
     case measure=>simp [intOf];omega

theorem rmul_any (a b:Int) (w:World):
  CS 160 #[.int .i64 a,.int .i64 b] w (.int .i64 (mulc (clip a) (clip b))):=by
 rcases XN (clip a) 0 with s1|s1<;>rcases XN (clip b) 0 with s2|s2
 ·exact rmul_neg_neg a b w s1 s2
 ·exact rmul_neg_pos a b w s1 s2
 ·exact rmul_pos_neg a b w s1 s2
 ·exact rmul_pos_pos a b w s1 s2

theorem rshare_any (a b:Int) (w:World):
  CS 161 #[.int .i64 a,.int .i64 b] w (.int .i64 (share (atz (clip a)) (atz (clip b)))):=by
 have ha:=atz_bd _ (clip_bd a);have hb:=atz_bd _ (clip_bd b);have hl:=left_bd (atz (clip a)) (atz (clip b));have c1:=clip_bd (atz (clip a)/1000*atz (clip b));have m1:=mulc_lim (clip (atz (clip a)/1000)) (clip (atz (clip b)));have m2:=mulc_lim (clip (atz (clip a)%1000)) (clip (atz (clip b)/1000));have c2:=clip_bd (mulc (clip (atz (clip a)/1000)) (clip (atz (clip b)))+mulc (clip (atz (clip a)%1000)) (clip (atz (clip b)/1000)));have HS:Hid _:=rshare_ok _ _ ha hb;have ea:(if clip a<0 then(0:Int)else clip a)=atz (clip a):=rfl;have eb:(if clip b<0 then(0:Int)else clip b)=atz (clip b):=rfl;go_enter func161,ntmps161;go_wp2_with(first|(go_at_call 87;refine(rclip_any _ _).mono ?_;rintro e w' ⟨rfl,rfl⟩)|(go_at_call 160;refine(rmul_any _ _ _).mono ?_;rintro e w' ⟨rfl,rfl⟩))
 go_ret;exact⟨ret_int HS.out,rfl⟩

end Num
namespace Rst
open Go.RowKit
theorem ret_int {k:IntKind} {a b:Int} (h:a=b):Ending.returned (.int k a)=.returned (.int k b):=by rw [h]
theorem rest_any (n m:Int) (w:World) (h1:1≤m) (h2:m≤1000000000000):
  CS 171 #[.int .i64 n,.int .i64 m] w (.int .i64 (n%m)):=by
 have hm: ¬m=0:=by omega
 have h3:=Int.tmod_lt_of_pos n (show 0<m by omega);have h4: -m<n.tmod m:=by
  have:=Int.tmod_lt_of_pos (-n) (show 0<m by omega);rw [Int.neg_tmod]at this;omega
 by_cases hr:n.tmod m<0
 ·have HE:Hid (n.tmod m+m=n%m):=by
   have:=Int.emod_eq_add_self_emod (a:=n.tmod m) (b:=m);have h5:(n.tmod m+m)%m=n.tmod m+m:=Int.emod_eq_of_lt (by omega) (by omega);have h6:n.tmod m%m=n%m:=by
    have h7:=Int.tmod_add_mul_tdiv n m;have h8:n.tmod m=n+m* -(n.tdiv m):=by rw [Int.mul_neg];omega
    rw [h8,Int.add_mul_emod_self_left]
   show n.tmod m+m=n%m;omega
  go_enter func171,ntmps171;go_wp2;go_ret;exact⟨ret_int HE.out,rfl⟩
 ·have HE:Hid (n.tmod m=n%m):=by
   have h5:n.tmod m%m=n.tmod m:=Int.emod_eq_of_lt (by omega) (by omega);have h6:n.tmod m%m=n%m:=by
    have h7:=Int.tmod_add_mul_tdiv n m;have h8:n.tmod m=n+m* -(n.tdiv m):=by rw [Int.mul_neg];omega
    rw [h8,Int.add_mul_emod_self_left]
   show n.tmod m=n%m;omega
  go_enter func171,ntmps171;go_wp2;go_ret;exact⟨ret_int HE.out,rfl⟩

end Rst
namespace RCiv
open Cal Civ Rst Go.RowKit
variable {d y:Int} {B:Nat}

def inB (n lo hi:Int):Bool:=decide (lo≤n∧n≤hi)
theorem in_any (n lo hi:Int) (w:World):
  CS 6 #[.int .i64 n,.int .i64 lo,.int .i64 hi] w (.bool (inB n lo hi)):=by
 by_cases h1:lo≤n
 ·have d:decide (lo≤n)=true:=by simp [h1]
  have HT:Hid (inB n lo hi=decide (n≤hi)):=by unfold Hid inB;rw [decide_eq_decide];omega
  go_enter func6,ntmps6;go_wp2;go_ret;exact⟨ret_bool HT.out.symm,rfl⟩
 ·have d:decide (lo≤n)=false:=by simp;omega
  have HT:Hid (inB n lo hi=false):=by unfold Hid inB;simp;omega
  go_enter func6,ntmps6;go_wp2;go_ret;exact⟨ret_bool HT.out.symm,rfl⟩

theorem rleap_any (y:Int) (w:World):
  CS 199 #[.int .i64 y] w (.bool (lpB y)):=by
 have t4:=tz y 4;have t1:(y.tmod 100 !=0)= !decide (y%100=0):=by rw [bne,tz]
 have t0:=tz y 400;by_cases h0:y%400=0
 ·have HL:Hid (lpB y=true):=by unfold Hid lpB;simp;omega
  simp only [h0,decide_true]at t0;clear h0 t4 t1;go_enter func199,ntmps199;go_wp2;go_ret;exact⟨ret_bool HL.out.symm,rfl⟩
 ·simp only [h0,decide_false]at t0;by_cases h4:y%4=0
  ·have HL:Hid (lpB y=(y.tmod 100 !=0)):=by
    unfold Hid;rw [t1];unfold lpB;by_cases h1:y%100=0<;>simp [h4,h1,h0]
   simp only [h4,decide_true]at t4;clear h0 h4 t1;go_enter func199,ntmps199;go_wp2;go_ret;exact⟨ret_bool HL.out.symm,rfl⟩
  ·have HL:Hid (lpB y=false):=by unfold Hid lpB;simp;omega
   simp only [h4,decide_false]at t4;clear h0 h4 t1;go_enter func199,ntmps199;go_wp2;go_ret;exact⟨ret_bool HL.out.symm,rfl⟩

theorem long_any (y m:Int) (w:World):
  CS 190 #[.int .i64 y,.int .i64 m] w (.int .i64 (dim y m)):=by
 have hl:=lpB_lp y;by_cases h2:m=2
 ·subst h2;have hd:dim y 2=28+lp y:=by simp [dim]
  cases hb:lpB y
  all_goals
   have HD:=zh hd;have HL:Hid _:=hl;rw [hb]at HL;clear hd hl;go_enter func190,ntmps190;go_wp2_with(go_at_call 199;refine(rleap_any _ _).mono ?_;rintro e w' ⟨rfl,rfl⟩)
   go_ret;exact⟨Civ.ret_int (by rw [HD.out,HL.out];rfl),rfl⟩
 ·clear hl;by_cases h30:m=4∨m=6∨m=9∨m=11
  ·rcases h30 with rfl|rfl|rfl|rfl
   all_goals
    go_enter func190,ntmps190;go_wp2;go_ret;exact⟨Civ.ret_int (by simp [dim]),rfl⟩
  ·have HD:Hid (dim y m=31):=by unfold Hid dim;rw [if_neg h2,if_neg h30]
   have d2:(m==2)=false:=by simp [h2]
   have d4:(m==4)=false:=by simp;omega
   have d6:(m==6)=false:=by simp;omega
   have d9:(m==9)=false:=by simp;omega
   have d11:(m==11)=false:=by simp;omega
   clear h2 h30;go_enter func190,ntmps190;go_wp2;go_ret;exact⟨Civ.ret_int HD.out.symm,rfl⟩

theorem tdiv_neg (y s:Int) (h:y≤0):y.tdiv s= -((-y)/s):=by
 have e:=Int.neg_tdiv (a:= -y) (b:=s);rw [Int.neg_neg]at e;rw [e,Int.tdiv_eq_ediv_of_nonneg (by omega)]

theorem years_any (y:Int) (w:World) (h1: -4000≤y) (h2:y≤9000):
  CB 189 #[.int .i64 y] w (.int .i64 (ys y-1460970)):=by
 go_enter func189,ntmps189;go_wp2
 go_loop [3, 13] (fun n i => (i = .int .i64 0 ∧ n = .int .i64 (365 * y)) ∨ (i = .int .i64 1 ∧ n = .int .i64 (365 * y + (y + 3) / 4)) ∨
  (i=.int .i64 2∧n=.int .i64 (365*y+(y+3)/4-(y+99)/100))∨(i=.int .i64 3∧n=.int .i64 (365*y+(y+3)/4-(y+99)/100+(y+399)/400))) (fun _ i=>(3-intOf i).toNat)
 case atStart=>exact Or.inl ⟨rfl,rfl⟩
 case round=>
  rcases hrel with⟨rfl,rfl⟩|⟨rfl,rfl⟩|⟨rfl,rfl⟩|⟨rfl,rfl⟩
  ·by_cases hy:0<y
   ·go_wp2;go_round
    case rel=>exact Or.inr (Or.inl ⟨rfl,by congr 1;omega⟩)
    case measure=>simp [intOf]
   ·have HE:Hid (y.tdiv 4=(y+3)/4):=by unfold Hid;rw [tdiv_neg y 4 (by omega)];omega
    obtain⟨q,hq⟩: ∃q,y.tdiv 4=q:=⟨_,rfl⟩
    have HQ:Hid (q=(y+3)/4):=by unfold Hid;rw [←hq];exact HE.out
    have q1: -4000≤q:=by have:=HQ.out;omega
    have q2:q≤0:=by have:=HQ.out;omega
    clear HE;go_wp2;go_round
    case rel=>exact Or.inr (Or.inl ⟨rfl,by congr 1;have:=HQ.out;omega⟩)
    case measure=>simp [intOf]
  ·by_cases hy:0<y
   ·go_wp2;go_round
    case rel=>exact Or.inr (Or.inr (Or.inl ⟨rfl,by congr 1;omega⟩))
    case measure=>simp [intOf]
   ·have HE:Hid (y.tdiv 100=(y+99)/100):=by unfold Hid;rw [tdiv_neg y 100 (by omega)];omega
    obtain⟨q,hq⟩: ∃q,y.tdiv 100=q:=⟨_,rfl⟩
    have HQ:Hid (q=(y+99)/100):=by unfold Hid;rw [←hq];exact HE.out
    have q1: -4000≤q:=by have:=HQ.out;omega
    have q2:q≤0:=by have:=HQ.out;omega
    clear HE;go_wp2;go_round
    case rel=>exact Or.inr (Or.inr (Or.inl ⟨rfl,by congr 1;have:=HQ.out;omega⟩))
    case measure=>simp [intOf]
  ·by_cases hy:0<y
   ·go_wp2;go_round
    case rel=>exact Or.inr (Or.inr (Or.inr ⟨rfl,by congr 1;omega⟩))
    case measure=>simp [intOf]
   ·have HE:Hid (y.tdiv 400=(y+399)/400):=by unfold Hid;rw [tdiv_neg y 400 (by omega)];omega
    obtain⟨q,hq⟩: ∃q,y.tdiv 400=q:=⟨_,rfl⟩
    have HQ:Hid (q=(y+399)/400):=by unfold Hid;rw [←hq];exact HE.out
    have q1: -4000≤q:=by have:=HQ.out;omega
    have q2:q≤0:=by have:=HQ.out;omega
    clear HE;go_wp2;go_round
    case rel=>exact Or.inr (Or.inr (Or.inr ⟨rfl,by congr 1;have:=HQ.out;omega⟩))
    case measure=>simp [intOf]
  ·go_wp2;go_ret;exact⟨Civ.ret_int (by unfold ys;omega),(Below.refl _ _).alloc (Xa _) _⟩

theorem in_iff (n lo hi:Int):inB n lo hi=true↔(lo≤n∧n≤hi):=by unfold inB;simp
theorem years_c (w:World):CB 189 #[.int .i64 1970] w (.int .i64 719528):=
 years_any 1970 w (by omega) (by omega)

theorem tdiv_bd (n:Int) (h1: -1200000≤n) (h2:n≤1200000): -3300≤n.tdiv 366∧n.tdiv 366≤3300:=by
 by_cases c:0≤n
 ·rw [Int.tdiv_eq_ediv_of_nonneg c];omega
 ·rw [tdiv_neg n 366 (by omega)];omega

theorem yr_lt (y n:Int) (h:ys y≤n) (h2:n≤4000000):y≤7000:=by
 by_cases c:7000<y
 ·have:=ys_mono 7001 y (by omega);have z:ys 7001=4018033:=by decide
  omega
 ·omega
theorem ret_three {k l m:IntKind} {a b c x:Int} (h:a=b) (g:c=d) (i:x=y):Ending.returned (.tuple #[.int k a,.int l c,.int m x])=.returned (.tuple #[.int k b,.int l d,.int m y]):=by rw [h,g,i]

theorem rdate_any (n:Int) (w:World) (h1: -1200000≤n) (h2:n≤1200000):
  CB 172 #[.int .i64 n] w (.tuple #[.int .i64 (yr (n+2180498)),.int .i64 (mo (n+2180498)),.int .i64 (dy (n+2180498))]):=by
 have hq:=tdiv_bd n h1 h2;go_enter func172,ntmps172;go_wp2;go_loopw [2] (fun t wr=> ∃y:Int,-4000≤y∧y≤6000∧t=.int .i64 y∧Below w.heap.size w wr) (fun t _=>(intOf t+4000).toNat)
 case atStart=>exact⟨_,by omega,by omega,rfl,Below.refl _ _⟩
 case round=>
  obtain⟨y,hy1,hy2,rfl,hbw⟩:=hrel;have b1:=ys_bd y hy1 (by omega);clear hq;by_cases hgt:n+2180498<ys y
  ·have hy3: -4000<y:=by
    by_cases e:y= -4000
    ·subst e;have:=ys_first;omega
    ·omega
   have g:n<ys y-1460970-719528:=by omega
   go_wp2_with(first|(go_at_call 189;with_reducible refine(years_c _).mono ?_;rintro e w2 ⟨rfl,hb2⟩)|(go_at_call 189;refine(years_any _ _ (by omega) (by omega)).mono ?_;rintro e w1 ⟨rfl,hb1⟩))
   go_roundw
   case rel=>exact⟨y-1,by omega,by omega,rfl,bstep (bstep hbw hb1) hb2⟩
   case measure=>simp [intOf];omega
  ·have g:ys y-1460970-719528≤n:=by omega
   go_wp2_with(first|(go_at_call 189;with_reducible refine(years_c _).mono ?_;rintro e w2 ⟨rfl,hb2⟩)|(go_at_call 189;refine(years_any _ _ (by omega) (by omega)).mono ?_;rintro e w1 ⟨rfl,hb1⟩))
   go_loopw [2] (fun t wr=> ∃y:Int,-4000≤y∧y≤7000∧t=.int .i64 y∧ys y≤n+2180498∧Below w.heap.size w wr) (fun t _=>(9000-intOf t).toNat)
   case atStart=>exact⟨y,hy1,by omega,rfl,by omega,bstep (bstep hbw hb1) hb2⟩
   case round=>
    clear hgt g hb1 hb2 hbw b1;obtain⟨z,hz1,hz2,rfl,hz3,hbz⟩:=hrel;have c1:=ys_bd z hz1 (by omega);have c2:=ys_bd (z+1) (by omega) (by omega);by_cases hle:ys (z+1)≤n+2180498
    ·have hz4:=yr_lt (z+1) _ hle (by omega);have g:ys (z+1)-1460970-719528≤n:=(by omega);go_wp2_with(first|(go_at_call 189;with_reducible refine(years_c _).mono ?_;rintro e w4 ⟨rfl,hb4⟩)|(go_at_call 189;refine(years_any _ _ (by omega) (by omega)).mono ?_;rintro e w3 ⟨rfl,hb3⟩))
     go_roundw
     case rel=>exact⟨z+1,by omega,by omega,rfl,hle,bstep (bstep hbz hb3) hb4⟩
     case measure=>simp [intOf];omega
    ·have g:n<ys (z+1)-1460970-719528:=(by omega);have HN:Hid (ys (z+1)=ys z+365+lp z):=ys_succ _;go_wp2_with(first|(go_at_call 189;with_reducible refine(years_c _).mono ?_;rintro e w6 ⟨rfl,hb6⟩;replace hbz:=bstep hbz hb6;clear hb6)|(go_at_call 189;refine(years_any _ _ (by omega) (by omega)).mono ?_;rintro e w5 ⟨rfl,hb5⟩;replace hbz:=bstep hbz hb5;clear hb5))
     go_loop [0,3] (fun r k=> ∃j:Int,1≤j∧j≤12∧k=.int .i64 j∧cum z j≤n+2180498-ys z∧r=.int .i64 (n+2180498-ys z-cum z j)) (fun _ k=>(12-intOf k).toNat)
     case atStart=>exact⟨1,by omega,by omega,rfl,by rw [cum_one];omega,by rw [cum_one];congr 1;omega⟩
     case round=>
      obtain⟨j,hj1,hj2,rfl,hc,rfl⟩:=hrel;have cb:=cum_bd z j;have db:=dim_bd z j;have HC:Hid (cum z (j+1)=cum z j+dim z j):=cum_succ _ j hj1 hj2;have hl:=lp_01 z;by_cases hlt:dim z j≤n+2180498-ys z-cum z j
      ·have hj3:j<12:=by
        by_cases e:j=12
        ·subst e;have c13:=cum_last z;have q:=HC.out;have q2:=HN.out;rw [show(12:Int)+1=13 by decide]at q;omega
        ·omega
       go_wp2_with(first|(go_at_call 190;refine(long_any _ _ _).mono ?_;rintro e w' ⟨rfl,rfl⟩))
       go_round
       case rel=>exact⟨j+1,by omega,by omega,rfl,by rw [HC.out];omega,by rw [HC.out];go_num⟩
       case measure=>simp [intOf];omega
      ·obtain⟨e1,e2,e3⟩:=date_is (n:=n+2180498) (y:=z) (m:=j) (d:=n+2180498-ys z-cum z j+1) ⟨hj1,hj2,by omega,by omega⟩ (by omega);have E:Hid (_∧_∧_):=⟨e1,e2,e3⟩
       clear e1 e2 e3;go_wp2_with(first|(go_at_call 190;refine(long_any _ _ _).mono ?_;rintro e w' ⟨rfl,rfl⟩))
       go_ret3
       exact⟨ret_three E.out.1.symm E.out.2.1.symm E.out.2.2.symm,hbz⟩

theorem tm_in (n:Int):tmB n=inB n (-100000000000) 100000000000:=rfl
theorem sh_in (n:Int):shB n=inB n (-900) 900:=rfl

theorem set7 {W:World} {x0 x1 x2 x3 x4 x5 x6:Value} (v0 v1 v2 v3 v4 v5 v6:Value) (h0:W.cell? ⟨B,0,none⟩=some x0) (h1:W.cell? ⟨B,1,none⟩=some x1) (h2:W.cell? ⟨B,2,none⟩=some x2) (h3:W.cell? ⟨B,3,none⟩=some x3) (h4:W.cell? ⟨B,4,none⟩=some x4) (h5:W.cell? ⟨B,5,none⟩=some x5) (h6:W.cell? ⟨B,6,none⟩=some x6):
  let W':=((((((W.setCell ⟨B,0,none⟩ v0).setCell ⟨B,1,none⟩ v1).setCell ⟨B,2,none⟩ v2).setCell ⟨B,3,none⟩ v3).setCell ⟨B,4,none⟩ v4).setCell ⟨B,5,none⟩ v5).setCell ⟨B,6,none⟩ v6
  W'.cell? ⟨B,0,none⟩=some v0∧W'.cell? ⟨B,1,none⟩=some v1∧W'.cell? ⟨B,2,none⟩=some v2∧W'.cell? ⟨B,3,none⟩=some v3∧W'.cell? ⟨B,4,none⟩=some v4∧W'.cell? ⟨B,5,none⟩=some v5∧W'.cell? ⟨B,6,none⟩=some v6:=by
 simp [go_sem,h0,h1,h2,h3,h4,h5,h6]
theorem fin7 {a:Act} {w Wf:World} {m h i s k y' m' d' h' i' s' k':Int} (hp:a.tmps[4]? =some (.pointer (some ⟨B,0,none⟩))) (he:a.tmps[5]? =some (.int .i64 0)) (ha:a.defers=[])
  (hc:Wf.cell? ⟨B,0,none⟩=some (.int .i64 y)∧Wf.cell? ⟨B,1,none⟩=some (.int .i64 m)∧Wf.cell? ⟨B,2,none⟩=some (.int .i64 d)∧Wf.cell? ⟨B,3,none⟩=some (.int .i64 h)∧Wf.cell? ⟨B,4,none⟩=some (.int .i64 i)∧Wf.cell? ⟨B,5,none⟩=some (.int .i64 s)∧Wf.cell? ⟨B,6,none⟩=some (.int .i64 k))
  (hv:civ y m d h i s k=civ y' m' d' h' i' s' k') (hb:Below w.heap.size w Wf):
  bodyPost prog f156 (fun e w'=>e=.returned (.tuple #[civ y' m' d' h' i' s' k',.int .i64 0])∧Below w.heap.size w w') Exit.ret a Wf:=by
 obtain⟨c0,c1,c2,c3,c4,c5,c6⟩:=hc;refine bodyPost_ret (v:=.tuple #[civ y m d h i s k,.int .i64 0]) ?_ ha ⟨by rw [hv],hb⟩;simp [results,results156,go_sem,hp,he,c0,c1,c2,c3,c4,c5,c6]

theorem rof_yes (sec shift:Int) (w:World) (ht:tmB sec=true) (hs:shB shift=true):
  CB 156 #[.int .i64 sec,.int .i64 shift] w (.tuple #[ofv (sc sec shift),.int .i64 0]):=by
 have h1:=(tm_iff _).1 ht;have h2:=(sh_iff _).1 hs;rw [tm_in]at ht;rw [sh_in]at hs;have hq:(sec+shift*60-(sec+shift*60)%86400).tdiv 86400=(sec+shift*60)/86400:=by
  have e:sec+shift*60-(sec+shift*60)%86400=86400*((sec+shift*60)/86400):=by omega
  rw [e,Int.mul_tdiv_cancel_left _ (by decide)]
 go_enter func156,ntmps156;go_wp2_with(first|(go_at_call 6;refine(in_any _ _ _ _).mono ?_;rintro e w' ⟨rfl,rfl⟩)|(go_at_call 171;refine(rest_any _ _ _ (by omega) (by omega)).mono ?_;rintro e w' ⟨rfl,rfl⟩)|(go_at_call 172;refine(rdate_any _ _ (by omega) (by omega)).mono ?_;rintro e w1 ⟨rfl,hb⟩;obtain⟨hc,hf⟩:=bcell hb;have hz:w.heap.size<w1.heap.size:=(by have:=hb.size;simp at this;omega)))
 have k: ∀o,o<7→w1.cell? ⟨w.heap.size,o,none⟩=some (.int .i64 0):=by
  intro o ho;rw [hc _ _ (by simp;omega)];have:o=0∨o=1∨o=2∨o=3∨o=4∨o=5∨o=6:=by omega
  rcases this with rfl|rfl|rfl|rfl|rfl|rfl|rfl<;>simp [go_sem]
 refine fin7 (B:=w.heap.size) rfl rfl rfl (set7 (x0:=.int .i64 0) (x1:=.int .i64 0) (x2:=.int .i64 0) (x3:=.int .i64 0) (x4:=.int .i64 0) (x5:=.int .i64 0) (x6:=.int .i64 0) _ _ _ _ _ _ _ ?_ ?_ ?_ ?_ ?_ ?_ ?_) ?_ ?_;all_goals try(simp [go_sem,k];done)
 ·have e0:sc sec shift/86400=(sec+shift*60)/86400+2180498:=by unfold sc;omega
  have e1:sc sec shift%86400/3600=(sec+shift*60)%86400/3600:=by unfold sc;omega
  have e2:sc sec shift%3600/60=(sec+shift*60)%3600/60:=by unfold sc;omega
  have e3:sc sec shift%60=sec%60:=by unfold sc;omega
  have e4:((sec+shift*60)/86400+4)%7=((sec+shift*60)/86400+2180498+6)%7:=by omega
  rw [e0,e1,e2,e3,e4]
 ·iterate 14 (refine Below.setCell ?_ (by simp) _)
  exact bstep (bstepA (bstepA (Below.refl _ _) _) _) hb
