/- A part. -/
import Derived.Test.YtaekecgbdegemaaGreatDoorRows
import Derived.ProofKit
import Derived.Test.YtaekecgbdegemaaGreatDoorPtCivilPlain
set_option linter.all false
open Go.Proofs.Tryz
set_option maxHeartbeats 32000000
namespace Go.Proofs.YtaekecgbdegemaaGreatDoor
namespace Civ
open Cal Go.RowKit
variable {k:IntKind} {a b:Int}

theorem ret_int (h:a=b):Ending.returned (.int k a)=.returned (.int k b):=by rw [h]
theorem ret_bool {a b:Bool} (h:a=b):Ending.returned (.bool a)=.returned (.bool b):=by rw [h]
theorem ret_two {l:IntKind} {c d:Int} (h:a=b) (g:c=d):Ending.returned (.tuple #[.int k a,.int l c])=.returned (.tuple #[.int k b,.int l d]):=by rw [h,g]

theorem tz (y k:Int):(y.tmod k==0)=decide (y%k=0):=by
 rw [Bool.eq_iff_iff];simp only [beq_iff_eq,decide_eq_true_eq];rw [←Int.dvd_iff_tmod_eq_zero,←Int.dvd_iff_emod_eq_zero]

theorem leap_any (y:Int) (w:World):
  CS 168 #[.int .i64 y] w (.bool (lpB y)):=by
 have t4:=tz y 4;have t1:(y.tmod 100 !=0)= !decide (y%100=0):=by rw [bne,tz]
 have t0:=tz y 400;by_cases h4:y%4=0
 ·by_cases h1:y%100=0
  ·by_cases h0:y%400=0
   ·have HL:Hid (lpB y=true):=by unfold Hid lpB;simp;omega
    simp only [h4,h1,h0,decide_true,Bool.not_true]at t4 t1 t0;clear h4 h1 h0;go_enter func168,ntmps168;go_wp2;go_ret;exact⟨ret_bool HL.out.symm,rfl⟩
   ·have HL:Hid (lpB y=false):=by unfold Hid lpB;simp;omega
    simp only [h4,h1,h0,decide_true,decide_false,Bool.not_true]at t4 t1 t0;clear h4 h1 h0;go_enter func168,ntmps168;go_wp2;go_ret;exact⟨ret_bool HL.out.symm,rfl⟩
  ·have HL:Hid (lpB y=true):=by unfold Hid lpB;simp;omega
   simp only [h4,h1,decide_true,decide_false,Bool.not_false]at t4 t1;clear h4 h1 t0;go_enter func168,ntmps168;go_wp2;go_ret;exact⟨ret_bool HL.out.symm,rfl⟩
 ·have HL:Hid (lpB y=false):=by unfold Hid lpB;simp;omega
  simp only [h4,decide_false]at t4;clear h4 t1 t0;go_enter func168,ntmps168;go_wp2;go_ret;exact⟨ret_bool HL.out.symm,rfl⟩

theorem dim_any (y m:Int) (w:World):
  CS 123 #[.int .i64 y,.int .i64 m] w (.int .i64 (dim y m)):=by
 have hl:=lpB_lp y;by_cases h2:m=2
 ·subst h2;have hd:dim y 2=28+lp y:=by simp [dim]
  cases hb:lpB y
  all_goals
   have HD:=zh hd;have HL:Hid _:=hl;rw [hb]at HL;clear hd hl;go_enter func123,ntmps123;go_wp2_with(go_at_call 168;refine(leap_any _ _).mono ?_;rintro e w' ⟨rfl,rfl⟩)
   go_ret;exact⟨ret_int (by rw [HD.out,HL.out];rfl),rfl⟩
 ·clear hl;by_cases h30:m=4∨m=6∨m=9∨m=11
  ·rcases h30 with rfl|rfl|rfl|rfl
   all_goals
    go_enter func123,ntmps123;go_wp2;go_ret;exact⟨ret_int (by simp [dim]),rfl⟩
  ·have HD:Hid (dim y m=31):=by unfold Hid dim;rw [if_neg h2,if_neg h30]
   have d2:(m==2)=false:=by simp [h2]
   have d4:(m==4)=false:=by simp;omega
   have d6:(m==6)=false:=by simp;omega
   have d9:(m==9)=false:=by simp;omega
   have d11:(m==11)=false:=by simp;omega
   clear h2 h30;go_enter func123,ntmps123;go_wp2;go_ret;exact⟨ret_int HD.out.symm,rfl⟩

theorem ys_any (y:Int) (w:World) (h1: -4000≤y) (h2:y≤9000):
  CS 81 #[.int .i64 y] w (.int .i64 (ys y)):=by
 go_enter func81,ntmps81;go_wp2;go_ret;exact⟨ret_int (by unfold ys;omega),rfl⟩

def tmB (n:Int):Bool:=decide (-100000000000≤n∧n≤100000000000)
def shB (n:Int):Bool:=decide (-900≤n∧n≤900)
theorem tm_iff (n:Int):tmB n=true↔(-100000000000≤n∧n≤100000000000):=by unfold tmB;simp
theorem sh_iff (n:Int):shB n=true↔(-900≤n∧n≤900):=by unfold shB;simp

theorem time_any (n:Int) (w:World):
  CS 79 #[.int .i64 n] w (.bool (tmB n)):=by
 by_cases h1:n< -100000000000
 ·have HT:Hid (tmB n=false):=by unfold Hid tmB;simp;omega
  have d:decide (-100000000000≤n)=false:=by simp;omega
  go_enter func79,ntmps79;go_wp2;go_ret;exact⟨ret_bool HT.out.symm,rfl⟩
 ·have d:decide (-100000000000≤n)=true:=by simp;omega
  have HT:Hid (tmB n=decide (n≤100000000000)):=by unfold Hid tmB;rw [decide_eq_decide];omega
  go_enter func79,ntmps79;go_wp2;go_ret;exact⟨ret_bool HT.out.symm,rfl⟩

theorem shift_any (n:Int) (w:World):
  CS 80 #[.int .i64 n] w (.bool (shB n)):=by
 by_cases h1:n< -900
 ·have HT:Hid (shB n=false):=by unfold Hid shB;simp;omega
  have d:decide (-900≤n)=false:=by simp;omega
  go_enter func80,ntmps80;go_wp2;go_ret;exact⟨ret_bool HT.out.symm,rfl⟩
 ·have d:decide (-900≤n)=true:=by simp;omega
  have HT:Hid (shB n=decide (n≤900)):=by unfold Hid shB;rw [decide_eq_decide];omega
  go_enter func80,ntmps80;go_wp2;go_ret;exact⟨ret_bool HT.out.symm,rfl⟩

theorem days_no (y m d:Int) (w:World) (h:vldB y m d=false):
  CS 86 #[.int .i64 y,.int .i64 m,.int .i64 d] w (.tuple #[.int .i64 0,.int .i64 1]):=by
 have h': ¬(-4000≤y∧y≤8000∧1≤m∧m≤12∧1≤d∧d≤dim y m):=by
  intro c;rw [vld_mk c]at h;exact Bool.noConfusion h
 clear h;by_cases h1:y< -4000
 ·clear h';go_enter func86,ntmps86;go_wp2;go_ret2;exact⟨rfl,rfl⟩
 by_cases h2:8000<y
 ·clear h';go_enter func86,ntmps86;go_wp2;go_ret2;exact⟨rfl,rfl⟩
 by_cases h3:m<1
 ·clear h';go_enter func86,ntmps86;go_wp2;go_ret2;exact⟨rfl,rfl⟩
 by_cases h4:12<m
 ·clear h';go_enter func86,ntmps86;go_wp2;go_ret2;exact⟨rfl,rfl⟩
 by_cases h5:d<1
 ·clear h';go_enter func86,ntmps86;go_wp2;go_ret2;exact⟨rfl,rfl⟩
 have h6:dim y m<d:=by omega
 clear h';go_enter func86,ntmps86;go_wp2_with(go_at_call 123;refine(dim_any _ _ _).mono ?_;rintro e w' ⟨rfl,rfl⟩)
 go_ret2;exact⟨rfl,rfl⟩

theorem days_yes (y m d:Int) (w:World) (h:vldB y m d=true):
  CS 86 #[.int .i64 y,.int .i64 m,.int .i64 d] w (.tuple #[.int .i64 (num y m d),.int .i64 0]):=by
 obtain⟨h1,h2,h3,h4,h5,h6⟩:=(vld_iff _ _ _).1 h;clear h;have b1:=ys_bd y h1 (by omega);have b2:=ys_bd 1970 (by omega) (by omega);have b3:=dim_bd y m;go_enter func86,ntmps86;go_wp2_with(first|(go_at_call 123;refine(dim_any _ _ _).mono ?_;rintro e w' ⟨rfl,rfl⟩)|(go_at_call 81;refine(ys_any _ _ (by omega) (by omega)).mono ?_;rintro e w' ⟨rfl,rfl⟩))
 go_loop [8,9] (fun n k=> ∃j:Int,1≤j∧j≤m∧k=.int .i64 j∧n=.int .i64 (ys y+d-1+cum y j)) (fun _ k=>(12-intOf k).toNat)
 case atStart=>exact⟨1,by omega,by omega,rfl,by rw [cum_one];go_num⟩
 case round=>
  obtain⟨j,hj1,hj2,rfl,rfl⟩:=hrel;have cb:=cum_bd y j;have db:=dim_bd y j;by_cases hlt:j<m
  ·have HC:Hid (cum y (j+1)=cum y j+dim y j):=cum_succ y j hj1 (by omega);go_wp2_with(first|(go_at_call 123;refine(dim_any _ _ _).mono ?_;rintro e w' ⟨rfl,rfl⟩))
   go_round
   case rel=>exact⟨j+1,by omega,by omega,rfl,by rw [HC.out];go_num⟩
   case measure=>simp [intOf];omega
  ·have hjm:Hid (j=m):=by unfold Hid;omega
   have H0:=zh ys_1970;go_wp2_with(first|(go_at_call 123;refine(dim_any _ _ _).mono ?_;rintro e w' ⟨rfl,rfl⟩)|(go_at_call 81;refine(ys_any _ _ (by omega) (by omega)).mono ?_;rintro e w' ⟨rfl,rfl⟩))
   go_ret2;exact⟨ret_two (by unfold num;rw [←hjm.out,H0.out];omega) rfl,rfl⟩

abbrev civ (y m d h i s k:Int):Value:=.agg #[.int .i64 y,.int .i64 m,.int .i64 d,.int .i64 h,.int .i64 i,.int .i64 s,.int .i64 k]

theorem date_any (n:Int) (w:World) (h1:0≤n) (h2:n≤4000000):
  CB 82 #[.int .i64 n] w (civ (yr n) (mo n) (dy n) 0 0 0 ((n+6)%7)):=by
 have b1:=ys_bd (-4000+n*400/146097) (by omega) (by omega);have b2:=ys_bd (-4000+n*400/146097+1) (by omega) (by omega);have yb:=yr_bd n h1 h2;have b3:=ys_bd (yr n) yb.1 (by omega);have ysp:=yr_spec n;by_cases c1:n<ys (-4000+n*400/146097)
 ·have HY:Hid (yr n= -4000+n*400/146097-1):=by unfold Hid yr;rw [if_pos c1]
  rw [HY.out]at yb b3 ysp;have HN:Hid (ys (-4000+n*400/146097-1+1)=ys (-4000+n*400/146097-1)+365+lp (-4000+n*400/146097-1)):=ys_succ _;go_enter func82,ntmps82;go_wp2_with(first|(go_at_call 123;refine(dim_any _ _ _).mono ?_;rintro e w' ⟨rfl,rfl⟩)|(go_at_call 81;refine(ys_any _ _ (by omega) (by omega)).mono ?_;rintro e w' ⟨rfl,rfl⟩))
  go_loop [4,5] (fun r k=> ∃j:Int,1≤j∧j≤12∧k=.int .i64 j∧cum (-4000+n*400/146097-1) j≤n-ys (-4000+n*400/146097-1)∧r=.int .i64 (n-ys (-4000+n*400/146097-1)-cum (-4000+n*400/146097-1) j)) (fun _ k=>(12-intOf k).toNat)
  case atStart=>exact⟨1,by omega,by omega,rfl,by rw [cum_one];omega,by rw [cum_one];go_num⟩
  case round=>
   obtain⟨j,hj1,hj2,rfl,hc,rfl⟩:=hrel;have cb:=cum_bd (-4000+n*400/146097-1) j;have db:=dim_bd (-4000+n*400/146097-1) j;have HC:Hid (cum (-4000+n*400/146097-1) (j+1)=cum (-4000+n*400/146097-1) j+dim (-4000+n*400/146097-1) j):=cum_succ _ j hj1 hj2;have hl:=lp_01 (-4000+n*400/146097-1);by_cases hlt:dim (-4000+n*400/146097-1) j≤n-ys (-4000+n*400/146097-1)-cum (-4000+n*400/146097-1) j
   ·have hj3:j<12:=by
     by_cases e:j=12
     ·subst e;have c13:=cum_last (-4000+n*400/146097-1);have q:=HC.out;have q2:=HN.out;rw [show(12:Int)+1=13 by decide]at q;omega
     ·omega
    go_wp2_with(first|(go_at_call 123;refine(dim_any _ _ _).mono ?_;rintro e w' ⟨rfl,rfl⟩))
    go_round
    case rel=>exact⟨j+1,by omega,by omega,rfl,by rw [HC.out];omega,by rw [HC.out];go_num⟩
    case measure=>simp [intOf];omega
   ·obtain⟨e1,e2,e3⟩:=date_is (n:=n) (y:= -4000+n*400/146097-1) (m:=j) (d:=n-ys (-4000+n*400/146097-1)-cum (-4000+n*400/146097-1) j+1) ⟨hj1,hj2,by omega,by omega⟩ (by omega);have E:Hid (_∧_∧_):=⟨e1,e2,e3⟩
    clear e1 e2 e3;go_wp2_with(first|(go_at_call 123;refine(dim_any _ _ _).mono ?_;rintro e w' ⟨rfl,rfl⟩))
    refine bodyPost_ret (v:=civ (-4000+n*400/146097-1) j (n-ys (-4000+n*400/146097-1)-cum (-4000+n*400/146097-1) j+1) 0 0 0 ((n+6)%7)) (by simp [results,results82,go_sem]) rfl ⟨?_,?_⟩
    ·rw [E.out.1,E.out.2.1,E.out.2.2]
    ·exact(Below.refl _ _).alloc (Xa _) _
 ·by_cases c2:ys (-4000+n*400/146097+1)≤n
  ·have HY:Hid (yr n= -4000+n*400/146097+1):=by unfold Hid yr;rw [if_neg c1,if_pos c2]
   rw [HY.out]at yb b3 ysp;have HN:Hid (ys (-4000+n*400/146097+1+1)=ys (-4000+n*400/146097+1)+365+lp (-4000+n*400/146097+1)):=ys_succ _;go_enter func82,ntmps82;go_wp2_with(first|(go_at_call 123;refine(dim_any _ _ _).mono ?_;rintro e w' ⟨rfl,rfl⟩)|(go_at_call 81;refine(ys_any _ _ (by omega) (by omega)).mono ?_;rintro e w' ⟨rfl,rfl⟩))
   go_loop [4,5] (fun r k=> ∃j:Int,1≤j∧j≤12∧k=.int .i64 j∧cum (-4000+n*400/146097+1) j≤n-ys (-4000+n*400/146097+1)∧r=.int .i64 (n-ys (-4000+n*400/146097+1)-cum (-4000+n*400/146097+1) j)) (fun _ k=>(12-intOf k).toNat)
   case atStart=>exact⟨1,by omega,by omega,rfl,by rw [cum_one];omega,by rw [cum_one];go_num⟩
   case round=>
    obtain⟨j,hj1,hj2,rfl,hc,rfl⟩:=hrel;have cb:=cum_bd (-4000+n*400/146097+1) j;have db:=dim_bd (-4000+n*400/146097+1) j;have HC:Hid (cum (-4000+n*400/146097+1) (j+1)=cum (-4000+n*400/146097+1) j+dim (-4000+n*400/146097+1) j):=cum_succ _ j hj1 hj2;have hl:=lp_01 (-4000+n*400/146097+1);by_cases hlt:dim (-4000+n*400/146097+1) j≤n-ys (-4000+n*400/146097+1)-cum (-4000+n*400/146097+1) j
    ·have hj3:j<12:=by
      by_cases e:j=12
      ·subst e;have c13:=cum_last (-4000+n*400/146097+1);have q:=HC.out;have q2:=HN.out;rw [show(12:Int)+1=13 by decide]at q;omega
      ·omega
     go_wp2_with(first|(go_at_call 123;refine(dim_any _ _ _).mono ?_;rintro e w' ⟨rfl,rfl⟩))
     go_round
     case rel=>exact⟨j+1,by omega,by omega,rfl,by rw [HC.out];omega,by rw [HC.out];go_num⟩
     case measure=>simp [intOf];omega
    ·obtain⟨e1,e2,e3⟩:=date_is (n:=n) (y:= -4000+n*400/146097+1) (m:=j) (d:=n-ys (-4000+n*400/146097+1)-cum (-4000+n*400/146097+1) j+1) ⟨hj1,hj2,by omega,by omega⟩ (by omega);have E:Hid (_∧_∧_):=⟨e1,e2,e3⟩
     clear e1 e2 e3;go_wp2_with(first|(go_at_call 123;refine(dim_any _ _ _).mono ?_;rintro e w' ⟨rfl,rfl⟩))
     refine bodyPost_ret (v:=civ (-4000+n*400/146097+1) j (n-ys (-4000+n*400/146097+1)-cum (-4000+n*400/146097+1) j+1) 0 0 0 ((n+6)%7)) (by simp [results,results82,go_sem]) rfl ⟨?_,?_⟩
     ·rw [E.out.1,E.out.2.1,E.out.2.2]
     ·exact(Below.refl _ _).alloc (Xa _) _
  ·have HY:Hid (yr n= -4000+n*400/146097):=by unfold Hid yr;rw [if_neg c1,if_neg c2]
   rw [HY.out]at yb b3 ysp;have HN:Hid (ys (-4000+n*400/146097+1)=ys (-4000+n*400/146097)+365+lp (-4000+n*400/146097)):=ys_succ _;go_enter func82,ntmps82;go_wp2_with(first|(go_at_call 123;refine(dim_any _ _ _).mono ?_;rintro e w' ⟨rfl,rfl⟩)|(go_at_call 81;refine(ys_any _ _ (by omega) (by omega)).mono ?_;rintro e w' ⟨rfl,rfl⟩))
   go_loop [4,5] (fun r k=> ∃j:Int,1≤j∧j≤12∧k=.int .i64 j∧cum (-4000+n*400/146097) j≤n-ys (-4000+n*400/146097)∧r=.int .i64 (n-ys (-4000+n*400/146097)-cum (-4000+n*400/146097) j)) (fun _ k=>(12-intOf k).toNat)
   case atStart=>exact⟨1,by omega,by omega,rfl,by rw [cum_one];omega,by rw [cum_one];go_num⟩
   case round=>
    obtain⟨j,hj1,hj2,rfl,hc,rfl⟩:=hrel;have cb:=cum_bd (-4000+n*400/146097) j;have db:=dim_bd (-4000+n*400/146097) j;have HC:Hid (cum (-4000+n*400/146097) (j+1)=cum (-4000+n*400/146097) j+dim (-4000+n*400/146097) j):=cum_succ _ j hj1 hj2;have hl:=lp_01 (-4000+n*400/146097);by_cases hlt:dim (-4000+n*400/146097) j≤n-ys (-4000+n*400/146097)-cum (-4000+n*400/146097) j
    ·have hj3:j<12:=by
      by_cases e:j=12
      ·subst e;have c13:=cum_last (-4000+n*400/146097);have q:=HC.out;have q2:=HN.out;rw [show(12:Int)+1=13 by decide]at q;omega
      ·omega
     go_wp2_with(first|(go_at_call 123;refine(dim_any _ _ _).mono ?_;rintro e w' ⟨rfl,rfl⟩))
     go_round
     case rel=>exact⟨j+1,by omega,by omega,rfl,by rw [HC.out];omega,by rw [HC.out];go_num⟩
     case measure=>simp [intOf];omega
    ·obtain⟨e1,e2,e3⟩:=date_is (n:=n) (y:= -4000+n*400/146097) (m:=j) (d:=n-ys (-4000+n*400/146097)-cum (-4000+n*400/146097) j+1) ⟨hj1,hj2,by omega,by omega⟩ (by omega);have E:Hid (_∧_∧_):=⟨e1,e2,e3⟩
     clear e1 e2 e3;go_wp2_with(first|(go_at_call 123;refine(dim_any _ _ _).mono ?_;rintro e w' ⟨rfl,rfl⟩))
     refine bodyPost_ret (v:=civ (-4000+n*400/146097) j (n-ys (-4000+n*400/146097)-cum (-4000+n*400/146097) j+1) 0 0 0 ((n+6)%7)) (by simp [results,results82,go_sem]) rfl ⟨?_,?_⟩
     ·rw [E.out.1,E.out.2.1,E.out.2.2]
     ·exact(Below.refl _ _).alloc (Xa _) _


theorem bcell {W w1:World} (hb:Below W.heap.size W w1):(∀b o,b<W.heap.size→w1.cell? ⟨b,o,none⟩=W.cell? ⟨b,o,none⟩)∧(∀b o,b<W.heap.size→w1.frozen? ⟨b,o,none⟩=W.frozen? ⟨b,o,none⟩):=
 ⟨fun b o h=>hb.cell (p:=⟨b,o,none⟩) h,fun b o h=>hb.frozen (p:=⟨b,o,none⟩) h⟩

theorem bstep {a b c:World} (h:Below a.heap.size a b) (k:Below b.heap.size b c):Below a.heap.size a c:=(zu h k)
theorem bstepA {a b:World} (h:Below a.heap.size a b) (o:Obj):Below a.heap.size a (b.alloc o):=h.alloc h.size o

theorem of_no (sec shift:Int) (w:World) (h:tmB sec=false∨shB shift=false):
  CB 57 #[.int .i64 sec,.int .i64 shift] w (.tuple #[civ 0 0 0 0 0 0 0,.int .i64 1]):=by
 cases ht:tmB sec
 ·clear h;go_enter func57,ntmps57;go_wp2_with(first|(go_at_call 79;refine(time_any _ _).mono ?_;rintro e w' ⟨rfl,rfl⟩)|(go_at_call 80;refine(shift_any _ _).mono ?_;rintro e w' ⟨rfl,rfl⟩))
  refine bodyPost_ret (v:=.tuple #[civ 0 0 0 0 0 0 0,.int .i64 1]) (by simp [results,results57,go_sem]) rfl ⟨rfl,?_⟩;exact(Below.refl _ _).alloc (Xa _) _
 ·have hs:shB shift=false:=by rcases h with h|h;(rw [ht]at h;exact Bool.noConfusion h);exact h
  clear h;go_enter func57,ntmps57;go_wp2_with(first|(go_at_call 79;refine(time_any _ _).mono ?_;rintro e w' ⟨rfl,rfl⟩)|(go_at_call 80;refine(shift_any _ _).mono ?_;rintro e w' ⟨rfl,rfl⟩))
  refine bodyPost_ret (v:=.tuple #[civ 0 0 0 0 0 0 0,.int .i64 1]) (by simp [results,results57,go_sem]) rfl ⟨rfl,?_⟩;exact(Below.refl _ _).alloc (Xa _) _

abbrev sc (sec shift:Int):Int:=sec+(188395027200+shift*60)
abbrev ofv (t:Int):Value:=civ (yr (t/86400)) (mo (t/86400)) (dy (t/86400)) (t%86400/3600) (t%3600/60) (t%60) ((t/86400+6)%7)

theorem ys_c (w:World):CS 81 #[.int .i64 1970] w (.int .i64 2180498):=by
 have:=ys_any 1970 w (by omega) (by omega);rw [ys_1970]at this;exact this

theorem of_yes (sec shift:Int) (w:World) (ht:tmB sec=true) (hs:shB shift=true):
  CB 57 #[.int .i64 sec,.int .i64 shift] w (.tuple #[ofv (sc sec shift),.int .i64 0]):=by
 have h1:=(tm_iff _).1 ht;have h2:=(sh_iff _).1 hs;go_enter func57,ntmps57;go_wp2_with(first|(go_at_call 79;refine(time_any _ _).mono ?_;rintro e w' ⟨rfl,rfl⟩)|(go_at_call 80;refine(shift_any _ _).mono ?_;rintro e w' ⟨rfl,rfl⟩)|(go_at_call 81;refine(ys_c _).mono ?_;rintro e w' ⟨rfl,rfl⟩)|(go_at_call 82;refine(date_any _ _ (by omega) (by omega)).mono ?_;rintro e w1 ⟨rfl,hb⟩;obtain⟨hc,hf⟩:=bcell hb;have hz:w.heap.size<w1.heap.size:=(by have:=hb.size;simp at this;omega)))
 refine bodyPost_ret (v:=.tuple #[ofv (sc sec shift),.int .i64 0]) (by simp [results,results57,go_sem,hc,hz]) rfl ⟨rfl,?_⟩;exact(((((((((((Below.refl _ _).alloc (Xa _) _).trans (hb.mono (by simp))).setCell (Xa _) _).setCell (Xa _) _).setCell (Xa _) _).setCell (Xa _) _).setCell (Xa _) _).setCell (Xa _) _).setCell (Xa _) _).alloc (by simp;omega) _)
end Civ
namespace Rst
open Go.RowKit
theorem ret_int {k:IntKind} {a b:Int} (h:a=b):Ending.returned (.int k a)=.returned (.int k b):=by rw [h]
end Rst
namespace RCiv
open Cal Civ Rst Go.RowKit

theorem tdiv_neg (y s:Int) (h:y≤0):y.tdiv s= -((-y)/s):=by
 have e:=Int.neg_tdiv (a:= -y) (b:=s);rw [Int.neg_neg]at e;rw [e,Int.tdiv_eq_ediv_of_nonneg (by omega)]


theorem tdiv_bd (n:Int) (h1: -1200000≤n) (h2:n≤1200000): -3300≤n.tdiv 366∧n.tdiv 366≤3300:=by
 by_cases c:0≤n
 ·rw [Int.tdiv_eq_ediv_of_nonneg c];omega
 ·rw [tdiv_neg n 366 (by omega)];omega

theorem ret_three {k l m:IntKind} {a b c d x y:Int} (h:a=b) (g:c=d) (i:x=y):Ending.returned (.tuple #[.int k a,.int l c,.int m x])=.returned (.tuple #[.int k b,.int l d,.int m y]):=by rw [h,g,i]

end RCiv
namespace Num
open Plain Go.RowKit
variable {k:IntKind} {a b:Int}

theorem ret_int (h:a=b):Ending.returned (.int k a)=.returned (.int k b):=by rw [h]

theorem ret_two {l:IntKind} {c d:Int} (h:a=b) (g:c=d):Ending.returned (.tuple #[.int k a,.int l c])=.returned (.tuple #[.int k b,.int l d]):=by rw [h,g]

theorem clip_any (n:Int) (w:World):
  CS 200 #[.int .i64 n] w (.int .i64 (clip n)):=by
 by_cases h1:1000000000000000<n
 ·go_enter func200,ntmps200;go_wp2;go_ret;exact⟨ret_int (clip_hi h1).symm,rfl⟩
 ·by_cases h2:n< -1000000000000000
  ·go_enter func200,ntmps200;go_wp2;go_ret;exact⟨ret_int (clip_lo h2).symm,rfl⟩
  ·go_enter func200,ntmps200;go_wp2;go_ret;exact⟨ret_int (clip_in (by omega) (by omega)).symm,rfl⟩

theorem sz_any (n:Int) (w:World) (h: -1000000000000000≤n∧n≤1000000000000000):
  CS 270 #[.int .i64 n] w (.int .i64 (sz n)):=by
 by_cases h1:n<0
 ·go_enter func270,ntmps270;go_wp2;go_ret;exact⟨ret_int (sz_neg h1).symm,rfl⟩
 ·go_enter func270,ntmps270;go_wp2;go_ret;exact⟨ret_int (sz_pos (by omega)).symm,rfl⟩

theorem atz_any (n:Int) (w:World):
  CS 271 #[.int .i64 n] w (.int .i64 (atz n)):=by
 by_cases h1:n<0
 ·go_enter func271,ntmps271;go_wp2;go_ret;exact⟨ret_int (atz_neg h1).symm,rfl⟩
 ·go_enter func271,ntmps271;go_wp2;go_ret;exact⟨ret_int (atz_pos (by omega)).symm,rfl⟩

theorem add_any (a b:Int) (w:World):
  CS 145 #[.int .i64 a,.int .i64 b] w (.int .i64 (clip (clip a+clip b))):=by
 have ha:=clip_bd a;have hb:=clip_bd b;go_enter func145,ntmps145;go_wp2_with(go_at_call 200;refine(clip_any _ _).mono ?_;rintro e w' ⟨rfl,rfl⟩)
 go_ret;exact⟨rfl,rfl⟩

theorem mul_any (a b:Int) (w:World):
  CS 262 #[.int .i64 a,.int .i64 b] w (.int .i64 (mulc (clip a) (clip b))):=by
 have ha:=clip_bd a;have hb:=clip_bd b;by_cases h0:clip a=0
 ·have hz:(clip a==0)=true:=by simp [h0]
  have HM:Hid (mulc (clip a) (clip b)=clip a*clip b):=mulc_zero _ _ h0;have hp:clip a*clip b=0:=by rw [h0,Int.zero_mul]
  have hp1:0≤clip a*clip b:=by omega
  have hp2:clip a*clip b≤0:=by omega
  clear hp h0;go_enter func262,ntmps262;go_wp2_with(go_at_call 200;refine(clip_any _ _).mono ?_;rintro e w' ⟨rfl,rfl⟩)
  go_ret;exact⟨ret_int HM.out.symm,rfl⟩
 ·have hz:(clip a==0)=false:=by simp [h0]
  have h1:=sz_one _ h0;have h2:=sz_bd _ ha;have h3:=sz_bd _ hb;by_cases hf:sz (clip b)≤1000000000000000/sz (clip a)
  ·have HM:Hid (mulc (clip a) (clip b)=clip a*clip b):=mulc_fits _ _ h0 hf;have hp:=mul_fits _ _ h0 hf;clear h0;go_enter func262,ntmps262;go_wp2_with(first|(go_at_call 200;refine(clip_any _ _).mono ?_;rintro e w' ⟨rfl,rfl⟩)|(go_at_call 270;refine(sz_any _ _ (by assumption)).mono ?_;rintro e w' ⟨rfl,rfl⟩))
   go_ret;exact⟨ret_int HM.out.symm,rfl⟩
  ·have HM:Hid (mulc (clip a) (clip b)=_):=mulc_great _ _ h0 (by omega);clear h0;have D1:decide (clip a<0)=true∨decide (clip a<0)=false:=by cases decide (clip a<0)<;>simp
   have D2:decide (clip b<0)=true∨decide (clip b<0)=false:=by cases decide (clip b<0)<;>simp
   rcases D1 with d1|d1<;>rcases D2 with d2|d2
   all_goals
    rw [d1,d2]at HM;go_enter func262,ntmps262;go_wp2_with(first|(go_at_call 200;refine(clip_any _ _).mono ?_;rintro e w' ⟨rfl,rfl⟩)|(go_at_call 270;refine(sz_any _ _ (by assumption)).mono ?_;rintro e w' ⟨rfl,rfl⟩))
    go_ret;exact⟨ret_int (by rw [HM.out];rfl),rfl⟩

theorem clip_one (h:1≤b):1≤clip b:=by unfold clip;repeat (first|omega|split)

theorem ceil_yes (a b:Int) (w:World) (h:1≤b):
  CS 261 #[.int .i64 a,.int .i64 b] w (.tuple #[.int .i64 (up (clip a) (clip b)),.int .i64 0]):=by
 have ha:=clip_bd a;have hb:=clip_bd b;have h1:=clip_one h;have hq:=tdiv_bd _ _ h1 ha;have hnz: ¬clip b=0:=by omega
 by_cases hr:0<(clip a).tmod (clip b)
 ·have HU:Hid (up (clip a) (clip b)=(clip a).tdiv (clip b)+1):=by unfold Hid up;rw [if_pos hr]
  go_enter func261,ntmps261;go_wp2_with(go_at_call 200;refine(clip_any _ _).mono ?_;rintro e w' ⟨rfl,rfl⟩)
  go_ret2;exact⟨ret_two HU.out.symm rfl,rfl⟩
 ·have HU:Hid (up (clip a) (clip b)=(clip a).tdiv (clip b)):=by unfold Hid up;rw [if_neg hr]
  go_enter func261,ntmps261;go_wp2_with(go_at_call 200;refine(clip_any _ _).mono ?_;rintro e w' ⟨rfl,rfl⟩)
  go_ret2;exact⟨ret_two HU.out.symm rfl,rfl⟩

theorem share_any (a b:Int) (w:World):
  CS 264 #[.int .i64 a,.int .i64 b] w (.int .i64 (share (atz (clip a)) (atz (clip b)))):=by
 have ha:=atz_bd _ (clip_bd a);have hb:=atz_bd _ (clip_bd b);have hr:=rest_bd (atz (clip a)) (atz (clip b)) hb;have HS:Hid _:=share_ok _ _ ha hb;go_enter func264,ntmps264;go_wp2_with(first|(go_at_call 200;refine(clip_any _ _).mono ?_;rintro e w' ⟨rfl,rfl⟩)|(go_at_call 271;refine(atz_any _ _).mono ?_;rintro e w' ⟨rfl,rfl⟩)|(go_at_call 262;refine(mul_any _ _ _).mono ?_;rintro e w' ⟨rfl,rfl⟩)|(go_at_call 145;refine(add_any _ _ _).mono ?_;rintro e w' ⟨rfl,rfl⟩))
 go_ret;exact⟨ret_int HS.out,rfl⟩

end Num
namespace Rsw
open Go.RowKit
theorem ret_int {k:IntKind} {a b:Int} (h:a=b):Ending.returned (.int k a)=.returned (.int k b):=by rw [h]
