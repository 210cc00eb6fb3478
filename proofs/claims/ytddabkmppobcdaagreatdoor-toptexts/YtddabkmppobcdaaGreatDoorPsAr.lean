/- Rows that are written out: where something lies, what stands there; six equations of the library as one. Plain mathematics of dates: leap years, months, days ahead of a year, and that a day has one date. No program in sight. What each function of package civil answers, at every number that it is asked: contracts, the leaves first. What civil.Of answers, at every input. What tideref.Rest answers: the rest that is never below 0. What the document's answer (tideref) says of dates: In, Leap, Long, years, Days, Date: contracts, the leaves first. What the document's answer (tideref) says: Date, Of. Plain arithmetic of package num: clipping, products, quotients that are rounded. No program in sight. What each function of package num answers, at every number: contracts, the leaves first. What a trigger's reading needs: plain mathematics. No program in sight. What tideref.Rest answers. -/
import Derived.WalkKit
import Derived.Test.YtddabkmppobcdaaGreatDoorRows
import Derived.ProofKit
set_option maxHeartbeats 32000000
namespace Go.Proofs.YtddabkmppobcdaaGreatDoor
theorem ar {α : Type} : (∀ (l : List α) (i : Nat) (a : α), l.toArray.setIfInBounds i a = (l.set i a).toArray) ∧ (∀ (x : α) (l : List α) (a : α), (x :: l).set 0 a = a :: l) ∧ (∀ (x : α) (l : List α) (i : Nat) (a : α), (x :: l).set (i + 1) a = x :: l.set i a) :=
  ⟨fun _ _ _ => List.setIfInBounds_toArray _ _ _, fun _ _ _ => List.set_cons_zero, fun _ _ _ _ => List.set_cons_succ⟩
theorem ag {α : Type} : (∀ (l : List α) (i : Nat) (h : i < l.toArray.size), l.toArray[i] = l[i]'(by simpa using h)) ∧ (∀ (x : α) (l : List α) (h : 0 < (x :: l).length), (x :: l)[0] = x) ∧ (∀ (x : α) (l : List α) (i : Nat) (h : i + 1 < (x :: l).length), (x :: l)[i + 1] = l[i]'(by simpa using h)) :=
  ⟨fun _ _ h => List.getElem_toArray h, fun _ _ _ => List.getElem_cons_zero _ _ _, fun _ _ _ _ => List.getElem_cons_succ _ _ _ _⟩
namespace Cal

def lpB (y:Int):Bool:=decide (y%4=0∧(y%100≠0∨y%400=0))
def lp (y:Int):Int:=if y%4=0∧(y%100≠0∨y%400=0)then 1 else 0
def dim (y m:Int):Int:=if m=2 then 28+lp y else if m=4∨m=6∨m=9∨m=11 then 30 else 31
/-- days of the months ahead of m -/
def cum (y m:Int):Int:=
  if m≤1 then 0 else if m=2 then 31 else lp y+
    (if m = 3 then 59 else if m = 4 then 90 else if m = 5 then 120 else if m = 6 then 151 else if m = 7 then 181
     else if m=8 then 212 else if m=9 then 243 else if m=10 then 273 else if m=11 then 304 else if m=12 then 334 else 365)
/-- days from the beginning of -4000 to that of y -/
def ys (y:Int):Int:=365*(y+4000)+(y+4003)/4-(y+4099)/100+(y+4399)/400
def num (y m d:Int):Int:=ys y+cum y m+d-1-2180498
def vldB (y m d:Int):Bool:=decide (-4000≤y∧y≤8000∧1≤m∧m≤12∧1≤d∧d≤dim y m)

theorem lpB_lp (y:Int):lp y=if lpB y=true then 1 else 0:=by unfold lp lpB;simp
theorem lp_01 (y:Int):0≤lp y∧lp y≤1:=by unfold lp;split<;>omega
theorem dim_bd (y m:Int):28≤dim y m∧dim y m≤31:=by
  have:=lp_01 y
  unfold dim;repeat' split
  all_goals omega
theorem cum_one (y:Int):cum y 1=0:=by simp [cum]
theorem cum_last (y:Int):cum y 13=365+lp y:=by simp [cum];omega
theorem cum_succ (y m:Int) (h1:1≤m) (h2:m≤12):cum y (m+1)=cum y m+dim y m:=by
  have:m=1∨m=2∨m=3∨m=4∨m=5∨m=6∨m=7∨m=8∨m=9∨m=10∨m=11∨m=12:=by omega
  rcases this with rfl|rfl|rfl|rfl|rfl|rfl|rfl|rfl|rfl|rfl|rfl|rfl<;>simp [cum,dim]<;>omega
theorem cum_bd (y m:Int):0≤cum y m∧cum y m≤366:=by
  have:=lp_01 y
  unfold cum;repeat' split
  all_goals omega
theorem cum_mono (y a b:Int) (h1:1≤a) (h:a<b) (h2:b≤13):cum y a+dim y a≤cum y b:=by
  have hl:=lp_01 y
  have ha:=cum_succ y a h1 (by omega)
  rw [←ha]
  unfold cum;repeat' split
  all_goals omega
theorem ys_succ (y:Int):ys (y+1)=ys y+365+lp y:=by
  unfold ys lp;split<;>omega
theorem ys_mono (a b:Int) (h:a≤b):ys a≤ys b:=by unfold ys;omega
theorem ys_bd (y:Int) (h1: -4000≤y) (h2:y≤9000):0≤ys y∧ys y≤4800000:=by unfold ys;omega
theorem ys_1970:ys 1970=2180498:=by decide
theorem ys_first:ys (-4000)=0:=by decide

theorem vld_iff (y m d:Int):vldB y m d=true↔(-4000≤y∧y≤8000∧1≤m∧m≤12∧1≤d∧d≤dim y m):=by unfold vldB;simp
theorem vld_mk {y m d:Int} (h: -4000≤y∧y≤8000∧1≤m∧m≤12∧1≤d∧d≤dim y m):vldB y m d=true:=(vld_iff _ _ _).2 h

/-- the last day of a date lies within its year -/
theorem in_year (y m d:Int) (h:1≤m∧m≤12∧1≤d∧d≤dim y m):0≤cum y m+d-1∧cum y m+d-1<365+lp y:=by
  have h1:=cum_bd y m
  have h2:=cum_mono y m 13 h.1 (by omega) (by omega)
  rw [cum_last]at h2
  omega

theorem date_one {y m d y' m' d':Int} (h:1≤m∧m≤12∧1≤d∧d≤dim y m) (h':1≤m'∧m'≤12∧1≤d'∧d'≤dim y' m')
    (e:ys y+cum y m+d=ys y'+cum y' m'+d'):y=y'∧m=m'∧d=d':=by
  have i1:=in_year y m d h
  have i2:=in_year y' m' d' h'
  have s1:=ys_succ y
  have s2:=ys_succ y'
  have hy:y=y':=by
    by_cases c:y<y'
    · have:=ys_mono (y+1) y' (by omega);omega
    · by_cases c':y'<y
      · have:=ys_mono (y'+1) y (by omega);omega
      · omega
  subst hy
  have hm:m=m':=by
    by_cases c:m<m'
    · have:=cum_mono y m m' h.1 c (by omega);omega
    · by_cases c':m'<m
      · have:=cum_mono y m' m h'.1 c' (by omega);omega
      · omega
  subst hm
  exact⟨rfl,rfl,by omega⟩

/-- the first guess of a year is off by one at the most -/
theorem guess_low (n:Int):ys (-4000+n*400/146097-1)≤n:=by unfold ys;omega
theorem guess_high (n:Int):n<ys (-4000+n*400/146097+1+1):=by unfold ys;omega

theorem num_bd (y m d:Int) (h:vldB y m d=true): -2180498≤num y m d∧num y m d≤2202777:=by
  obtain⟨h1,h2,h3,h4,h5,h6⟩:=(vld_iff _ _ _).1 h
  have i1:=in_year y m d ⟨h3,h4,h5,h6⟩
  have a:=ys_mono (-4000) y h1
  have b:=ys_mono (y+1) 8001 (by omega)
  have c:=ys_succ y
  have e1:ys (-4000)=0:=by decide
  have e2:ys 8001=4383276:=by decide
  unfold num
  omega

/-- the date that is n days behind the beginning of -4000 -/
def yr (n:Int):Int:=
  if n<ys (-4000+n*400/146097)then-4000+n*400/146097-1
  else if ys (-4000+n*400/146097+1)≤n then-4000+n*400/146097+1 else-4000+n*400/146097
def moR (l r:Int):Int:=
  if r<31 then 1 else if r<59+l then 2 else if r<90+l then 3 else if r<120+l then 4 else if r<151+l then 5
  else if r<181+l then 6 else if r<212+l then 7 else if r<243+l then 8 else if r<273+l then 9
  else if r<304+l then 10 else if r<334+l then 11 else 12
def mo (n:Int):Int:=moR (lp (yr n)) (n-ys (yr n))
def dy (n:Int):Int:=n-ys (yr n)-cum (yr n) (mo n)+1

theorem yr_spec (n:Int):ys (yr n)≤n∧n<ys (yr n+1):=by
  have h1:=guess_low n
  have h2:=guess_high n
  unfold yr;split
  · rename_i c
    rw [show-4000+n*400/146097-1+1= -4000+n*400/146097 by omega];exact⟨h1,c⟩
  · split
    · rename_i c;exact⟨c,h2⟩
    · exact⟨by omega,by omega⟩
theorem mo_spec (y r:Int) (h1:0≤r) (h2:r<365+lp y):1≤moR (lp y) r∧moR (lp y) r≤12∧cum y (moR (lp y) r)≤r∧r<cum y (moR (lp y) r)+dim y (moR (lp y) r):=by
  have hl:=lp_01 y
  unfold moR;repeat' split
  all_goals simp [cum,dim]
  all_goals omega
theorem date_spec (n:Int):1≤mo n∧mo n≤12∧1≤dy n∧dy n≤dim (yr n) (mo n)∧ys (yr n)+cum (yr n) (mo n)+dy n-1=n:=by
  have h:=yr_spec n
  rw [ys_succ]at h
  have m:=mo_spec (yr n) (n-ys (yr n)) (by omega) (by omega)
  have e:mo n=moR (lp (yr n)) (n-ys (yr n)):=rfl
  rw [←e]at m
  refine⟨m.1,m.2.1,?_,?_,?_⟩
  all_goals(unfold dy;omega)
theorem date_is {n y m d:Int} (h:1≤m∧m≤12∧1≤d∧d≤dim y m) (e:ys y+cum y m+d-1=n):yr n=y∧mo n=m∧dy n=d:=by
  have s:=date_spec n
  exact date_one ⟨s.1,s.2.1,s.2.2.1,s.2.2.2.1⟩ h (by omega)
theorem yr_bd (n:Int) (h1:0≤n) (h2:n≤4000000): -4000≤yr n∧yr n≤7000:=by
  have s:=yr_spec n
  have a: -4000≤yr n:=by
    by_cases c:yr n< -4000
    · have:=ys_mono (yr n+1) (-4000) (by omega)
      have z:=ys_first
      omega
    · omega
  refine⟨a,?_⟩
  by_cases c:7000<yr n
  · have:=ys_mono 7001 (yr n) (by omega)
    have z:ys 7001=4018033:=by decide
    omega
  · omega
end Cal
namespace Civ
open Cal Go.RowKit

theorem ret_int {k:IntKind} {a b:Int} (h:a=b):Ending.returned (.int k a)=.returned (.int k b):=by rw [h]
theorem ret_bool {a b:Bool} (h:a=b):Ending.returned (.bool a)=.returned (.bool b):=by rw [h]
theorem ret_two {k l:IntKind} {a b c d:Int} (h:a=b) (g:c=d):Ending.returned (.tuple #[.int k a,.int l c])=.returned (.tuple #[.int k b,.int l d]):=by rw [h,g]

theorem tz (y k:Int):(y.tmod k==0)=decide (y%k=0):=by
 rw [Bool.eq_iff_iff];simp only [beq_iff_eq,decide_eq_true_eq]
 rw [←Int.dvd_iff_tmod_eq_zero,←Int.dvd_iff_emod_eq_zero]

theorem leap_any (y:Int) (w:World):
  Calls Tryz.prog 226 #[.int .i64 y] w fun e w'=>e=.returned (.bool (lpB y))∧w'=w:=by
 have t4:=tz y 4
 have t1:(y.tmod 100 !=0)= !decide (y%100=0):=by rw [bne,tz]
 have t0:=tz y 400
 by_cases h4:y%4=0
 ·by_cases h1:y%100=0
  ·by_cases h0:y%400=0
   ·have HL:Hid (lpB y=true):=by unfold Hid lpB;simp;omega
    simp only [h4,h1,h0,decide_true,Bool.not_true]at t4 t1 t0
    clear h4 h1 h0
    go_enter Tryz.func226,Tryz.ntmps226
    go_wp2
    go_ret
    exact⟨ret_bool HL.out.symm,rfl⟩
   ·have HL:Hid (lpB y=false):=by unfold Hid lpB;simp;omega
    simp only [h4,h1,h0,decide_true,decide_false,Bool.not_true]at t4 t1 t0
    clear h4 h1 h0
    go_enter Tryz.func226,Tryz.ntmps226
    go_wp2
    go_ret
    exact⟨ret_bool HL.out.symm,rfl⟩
  ·have HL:Hid (lpB y=true):=by unfold Hid lpB;simp;omega
   simp only [h4,h1,decide_true,decide_false,Bool.not_false]at t4 t1
   clear h4 h1 t0
   go_enter Tryz.func226,Tryz.ntmps226
   go_wp2
   go_ret
   exact⟨ret_bool HL.out.symm,rfl⟩
 ·have HL:Hid (lpB y=false):=by unfold Hid lpB;simp;omega
  simp only [h4,decide_false]at t4
  clear h4 t1 t0
  go_enter Tryz.func226,Tryz.ntmps226
  go_wp2
  go_ret
  exact⟨ret_bool HL.out.symm,rfl⟩

theorem dim_any (y m:Int) (w:World):
  Calls Tryz.prog 217 #[.int .i64 y,.int .i64 m] w fun e w'=>e=.returned (.int .i64 (dim y m))∧w'=w:=by
 have hl:=lpB_lp y
 by_cases h2:m=2
 ·subst h2
  have hd:dim y 2=28+lp y:=by simp [dim]
  cases hb:lpB y
  all_goals
   have HD:Hid (dim y 2=28+lp y):=hd
   have HL:Hid _:=hl
   rw [hb]at HL
   clear hd hl
   go_enter Tryz.func217,Tryz.ntmps217
   go_wp2_with(go_at_call 226;refine(leap_any _ _).mono ?_;rintro e w' ⟨rfl,rfl⟩)
   go_ret
   exact⟨ret_int (by rw [HD.out,HL.out];rfl),rfl⟩
 ·clear hl
  by_cases h30:m=4∨m=6∨m=9∨m=11
  ·rcases h30 with rfl|rfl|rfl|rfl
   all_goals
    go_enter Tryz.func217,Tryz.ntmps217
    go_wp2
    go_ret
    exact⟨ret_int (by simp [dim]),rfl⟩
  ·have HD:Hid (dim y m=31):=by unfold Hid dim;rw [if_neg h2,if_neg h30]
   have d2:(m==2)=false:=by simp [h2]
   have d4:(m==4)=false:=by simp;omega
   have d6:(m==6)=false:=by simp;omega
   have d9:(m==9)=false:=by simp;omega
   have d11:(m==11)=false:=by simp;omega
   clear h2 h30
   go_enter Tryz.func217,Tryz.ntmps217
   go_wp2
   go_ret
   exact⟨ret_int HD.out.symm,rfl⟩

theorem ys_any (y:Int) (w:World) (h1: -4000≤y) (h2:y≤9000):
  Calls Tryz.prog 218 #[.int .i64 y] w fun e w'=>e=.returned (.int .i64 (ys y))∧w'=w:=by
 go_enter Tryz.func218,Tryz.ntmps218
 go_wp2
 go_ret
 exact⟨ret_int (by unfold ys;omega),rfl⟩

def tmB (n:Int):Bool:=decide (-100000000000≤n∧n≤100000000000)
def shB (n:Int):Bool:=decide (-900≤n∧n≤900)
theorem tm_iff (n:Int):tmB n=true↔(-100000000000≤n∧n≤100000000000):=by unfold tmB;simp
theorem sh_iff (n:Int):shB n=true↔(-900≤n∧n≤900):=by unfold shB;simp

theorem time_any (n:Int) (w:World):
  Calls Tryz.prog 223 #[.int .i64 n] w fun e w'=>e=.returned (.bool (tmB n))∧w'=w:=by
 by_cases h1:n< -100000000000
 ·have HT:Hid (tmB n=false):=by unfold Hid tmB;simp;omega
  have d:decide (-100000000000≤n)=false:=by simp;omega
  go_enter Tryz.func223,Tryz.ntmps223
  go_wp2
  go_ret
  exact⟨ret_bool HT.out.symm,rfl⟩
 ·have d:decide (-100000000000≤n)=true:=by simp;omega
  have HT:Hid (tmB n=decide (n≤100000000000)):=by unfold Hid tmB;rw [decide_eq_decide];omega
  go_enter Tryz.func223,Tryz.ntmps223
  go_wp2
  go_ret
  exact⟨ret_bool HT.out.symm,rfl⟩

theorem shift_any (n:Int) (w:World):
  Calls Tryz.prog 224 #[.int .i64 n] w fun e w'=>e=.returned (.bool (shB n))∧w'=w:=by
 by_cases h1:n< -900
 ·have HT:Hid (shB n=false):=by unfold Hid shB;simp;omega
  have d:decide (-900≤n)=false:=by simp;omega
  go_enter Tryz.func224,Tryz.ntmps224
  go_wp2
  go_ret
  exact⟨ret_bool HT.out.symm,rfl⟩
 ·have d:decide (-900≤n)=true:=by simp;omega
  have HT:Hid (shB n=decide (n≤900)):=by unfold Hid shB;rw [decide_eq_decide];omega
  go_enter Tryz.func224,Tryz.ntmps224
  go_wp2
  go_ret
  exact⟨ret_bool HT.out.symm,rfl⟩

theorem days_no (y m d:Int) (w:World) (h:vldB y m d=false):
  Calls Tryz.prog 211 #[.int .i64 y,.int .i64 m,.int .i64 d] w fun e w'=>e=.returned (.tuple #[.int .i64 0,.int .i64 1])∧w'=w:=by
 have h': ¬(-4000≤y∧y≤8000∧1≤m∧m≤12∧1≤d∧d≤dim y m):=by
  intro c;rw [vld_mk c]at h;exact Bool.noConfusion h
 clear h
 by_cases h1:y< -4000
 ·clear h'
  go_enter Tryz.func211,Tryz.ntmps211
  go_wp2
  go_ret2
  exact⟨rfl,rfl⟩
 by_cases h2:8000<y
 ·clear h'
  go_enter Tryz.func211,Tryz.ntmps211
  go_wp2
  go_ret2
  exact⟨rfl,rfl⟩
 by_cases h3:m<1
 ·clear h'
  go_enter Tryz.func211,Tryz.ntmps211
  go_wp2
  go_ret2
  exact⟨rfl,rfl⟩
 by_cases h4:12<m
 ·clear h'
  go_enter Tryz.func211,Tryz.ntmps211
  go_wp2
  go_ret2
  exact⟨rfl,rfl⟩
 by_cases h5:d<1
 ·clear h'
  go_enter Tryz.func211,Tryz.ntmps211
  go_wp2
  go_ret2
  exact⟨rfl,rfl⟩
 have h6:dim y m<d:=by omega
 clear h'
 go_enter Tryz.func211,Tryz.ntmps211
 go_wp2_with(go_at_call 217;refine(dim_any _ _ _).mono ?_;rintro e w' ⟨rfl,rfl⟩)
 go_ret2
 exact⟨rfl,rfl⟩

theorem days_yes (y m d:Int) (w:World) (h:vldB y m d=true):
  Calls Tryz.prog 211 #[.int .i64 y,.int .i64 m,.int .i64 d] w fun e w'=>e=.returned (.tuple #[.int .i64 (num y m d),.int .i64 0])∧w'=w:=by
 obtain⟨h1,h2,h3,h4,h5,h6⟩:=(vld_iff _ _ _).1 h
 clear h
 have b1:=ys_bd y h1 (by omega)
 have b2:=ys_bd 1970 (by omega) (by omega)
 have b3:=dim_bd y m
 go_enter Tryz.func211,Tryz.ntmps211
 go_wp2_with(first|(go_at_call 217;refine(dim_any _ _ _).mono ?_;rintro e w' ⟨rfl,rfl⟩)|(go_at_call 218;refine(ys_any _ _ (by omega) (by omega)).mono ?_;rintro e w' ⟨rfl,rfl⟩))
 go_loop [8,9] (fun n k=> ∃j:Int,1≤j∧j≤m∧k=.int .i64 j∧n=.int .i64 (ys y+d-1+cum y j)) (fun _ k=>(12-intOf k).toNat)
 case atStart=>exact⟨1,by omega,by omega,rfl,by rw [cum_one];go_num⟩
 case round=>
  obtain⟨j,hj1,hj2,rfl,rfl⟩:=hrel
  have cb:=cum_bd y j
  have db:=dim_bd y j
  by_cases hlt:j<m
  ·have HC:Hid (cum y (j+1)=cum y j+dim y j):=cum_succ y j hj1 (by omega)
   go_wp2_with(first|(go_at_call 217;refine(dim_any _ _ _).mono ?_;rintro e w' ⟨rfl,rfl⟩))
   go_round
   case rel=>exact⟨j+1,by omega,by omega,rfl,by rw [HC.out];go_num⟩
   case measure=>simp [intOf];omega
  ·have hjm:Hid (j=m):=by unfold Hid;omega
   have H0:Hid (ys 1970=2180498):=ys_1970
   go_wp2_with(first|(go_at_call 217;refine(dim_any _ _ _).mono ?_;rintro e w' ⟨rfl,rfl⟩)|(go_at_call 218;refine(ys_any _ _ (by omega) (by omega)).mono ?_;rintro e w' ⟨rfl,rfl⟩))
   go_ret2
   exact⟨ret_two (by unfold num;rw [←hjm.out,H0.out];omega) rfl,rfl⟩

abbrev civ (y m d h i s k:Int):Value:=.agg #[.int .i64 y,.int .i64 m,.int .i64 d,.int .i64 h,.int .i64 i,.int .i64 s,.int .i64 k]

theorem date_any (n:Int) (w:World) (h1:0≤n) (h2:n≤4000000):
  Calls Tryz.prog 225 #[.int .i64 n] w fun e w'=>e=.returned (civ (yr n) (mo n) (dy n) 0 0 0 ((n+6)%7))∧Below w.heap.size w w':=by
 have b1:=ys_bd (-4000+n*400/146097) (by omega) (by omega)
 have b2:=ys_bd (-4000+n*400/146097+1) (by omega) (by omega)
 have yb:=yr_bd n h1 h2
 have b3:=ys_bd (yr n) yb.1 (by omega)
 have ysp:=yr_spec n
 by_cases c1:n<ys (-4000+n*400/146097)
 ·have HY:Hid (yr n= -4000+n*400/146097-1):=by unfold Hid yr;rw [if_pos c1]
  rw [HY.out]at yb b3 ysp
  have HN:Hid (ys (-4000+n*400/146097-1+1)=ys (-4000+n*400/146097-1)+365+lp (-4000+n*400/146097-1)):=ys_succ _
  go_enter Tryz.func225,Tryz.ntmps225
  go_wp2_with(first|(go_at_call 217;refine(dim_any _ _ _).mono ?_;rintro e w' ⟨rfl,rfl⟩)|(go_at_call 218;refine(ys_any _ _ (by omega) (by omega)).mono ?_;rintro e w' ⟨rfl,rfl⟩))
  go_loop [4,5] (fun r k=> ∃j:Int,1≤j∧j≤12∧k=.int .i64 j∧cum (-4000+n*400/146097-1) j≤n-ys (-4000+n*400/146097-1)∧r=.int .i64 (n-ys (-4000+n*400/146097-1)-cum (-4000+n*400/146097-1) j)) (fun _ k=>(12-intOf k).toNat)
  case atStart=>exact⟨1,by omega,by omega,rfl,by rw [cum_one];omega,by rw [cum_one];go_num⟩
  case round=>
   obtain⟨j,hj1,hj2,rfl,hc,rfl⟩:=hrel
   have cb:=cum_bd (-4000+n*400/146097-1) j
   have db:=dim_bd (-4000+n*400/146097-1) j
   have HC:Hid (cum (-4000+n*400/146097-1) (j+1)=cum (-4000+n*400/146097-1) j+dim (-4000+n*400/146097-1) j):=cum_succ _ j hj1 hj2
   have hl:=lp_01 (-4000+n*400/146097-1)
   by_cases hlt:dim (-4000+n*400/146097-1) j≤n-ys (-4000+n*400/146097-1)-cum (-4000+n*400/146097-1) j
   ·have hj3:j<12:=by
     by_cases e:j=12
     ·subst e
      have c13:=cum_last (-4000+n*400/146097-1)
      have q:=HC.out
      have q2:=HN.out
      rw [show(12:Int)+1=13 by decide]at q
      omega
     ·omega
    go_wp2_with(first|(go_at_call 217;refine(dim_any _ _ _).mono ?_;rintro e w' ⟨rfl,rfl⟩))
    go_round
    case rel=>exact⟨j+1,by omega,by omega,rfl,by rw [HC.out];omega,by rw [HC.out];go_num⟩
    case measure=>simp [intOf];omega
   ·obtain⟨e1,e2,e3⟩:=date_is (n:=n) (y:= -4000+n*400/146097-1) (m:=j) (d:=n-ys (-4000+n*400/146097-1)-cum (-4000+n*400/146097-1) j+1) ⟨hj1,hj2,by omega,by omega⟩ (by omega)
    have E:Hid (_∧_∧_):=⟨e1,e2,e3⟩
    clear e1 e2 e3
    go_wp2_with(first|(go_at_call 217;refine(dim_any _ _ _).mono ?_;rintro e w' ⟨rfl,rfl⟩))
    refine bodyPost_ret (v:=civ (-4000+n*400/146097-1) j (n-ys (-4000+n*400/146097-1)-cum (-4000+n*400/146097-1) j+1) 0 0 0 ((n+6)%7)) (by simp [results,Tryz.results225,go_sem]) rfl ⟨?_,?_⟩
    ·rw [E.out.1,E.out.2.1,E.out.2.2]
    ·exact(Below.refl _ _).alloc (Nat.le_refl _) _
 ·by_cases c2:ys (-4000+n*400/146097+1)≤n
  ·have HY:Hid (yr n= -4000+n*400/146097+1):=by unfold Hid yr;rw [if_neg c1,if_pos c2]
   rw [HY.out]at yb b3 ysp
   have HN:Hid (ys (-4000+n*400/146097+1+1)=ys (-4000+n*400/146097+1)+365+lp (-4000+n*400/146097+1)):=ys_succ _
   go_enter Tryz.func225,Tryz.ntmps225
   go_wp2_with(first|(go_at_call 217;refine(dim_any _ _ _).mono ?_;rintro e w' ⟨rfl,rfl⟩)|(go_at_call 218;refine(ys_any _ _ (by omega) (by omega)).mono ?_;rintro e w' ⟨rfl,rfl⟩))
   go_loop [4,5] (fun r k=> ∃j:Int,1≤j∧j≤12∧k=.int .i64 j∧cum (-4000+n*400/146097+1) j≤n-ys (-4000+n*400/146097+1)∧r=.int .i64 (n-ys (-4000+n*400/146097+1)-cum (-4000+n*400/146097+1) j)) (fun _ k=>(12-intOf k).toNat)
   case atStart=>exact⟨1,by omega,by omega,rfl,by rw [cum_one];omega,by rw [cum_one];go_num⟩
   case round=>
    obtain⟨j,hj1,hj2,rfl,hc,rfl⟩:=hrel
    have cb:=cum_bd (-4000+n*400/146097+1) j
    have db:=dim_bd (-4000+n*400/146097+1) j
    have HC:Hid (cum (-4000+n*400/146097+1) (j+1)=cum (-4000+n*400/146097+1) j+dim (-4000+n*400/146097+1) j):=cum_succ _ j hj1 hj2
    have hl:=lp_01 (-4000+n*400/146097+1)
    by_cases hlt:dim (-4000+n*400/146097+1) j≤n-ys (-4000+n*400/146097+1)-cum (-4000+n*400/146097+1) j
    ·have hj3:j<12:=by
      by_cases e:j=12
      ·subst e
       have c13:=cum_last (-4000+n*400/146097+1)
       have q:=HC.out
       have q2:=HN.out
       rw [show(12:Int)+1=13 by decide]at q
       omega
      ·omega
     go_wp2_with(first|(go_at_call 217;refine(dim_any _ _ _).mono ?_;rintro e w' ⟨rfl,rfl⟩))
     go_round
     case rel=>exact⟨j+1,by omega,by omega,rfl,by rw [HC.out];omega,by rw [HC.out];go_num⟩
     case measure=>simp [intOf];omega
    ·obtain⟨e1,e2,e3⟩:=date_is (n:=n) (y:= -4000+n*400/146097+1) (m:=j) (d:=n-ys (-4000+n*400/146097+1)-cum (-4000+n*400/146097+1) j+1) ⟨hj1,hj2,by omega,by omega⟩ (by omega)
     have E:Hid (_∧_∧_):=⟨e1,e2,e3⟩
     clear e1 e2 e3
     go_wp2_with(first|(go_at_call 217;refine(dim_any _ _ _).mono ?_;rintro e w' ⟨rfl,rfl⟩))
     refine bodyPost_ret (v:=civ (-4000+n*400/146097+1) j (n-ys (-4000+n*400/146097+1)-cum (-4000+n*400/146097+1) j+1) 0 0 0 ((n+6)%7)) (by simp [results,Tryz.results225,go_sem]) rfl ⟨?_,?_⟩
     ·rw [E.out.1,E.out.2.1,E.out.2.2]
     ·exact(Below.refl _ _).alloc (Nat.le_refl _) _
  ·have HY:Hid (yr n= -4000+n*400/146097):=by unfold Hid yr;rw [if_neg c1,if_neg c2]
   rw [HY.out]at yb b3 ysp
   have HN:Hid (ys (-4000+n*400/146097+1)=ys (-4000+n*400/146097)+365+lp (-4000+n*400/146097)):=ys_succ _
   go_enter Tryz.func225,Tryz.ntmps225
   go_wp2_with(first|(go_at_call 217;refine(dim_any _ _ _).mono ?_;rintro e w' ⟨rfl,rfl⟩)|(go_at_call 218;refine(ys_any _ _ (by omega) (by omega)).mono ?_;rintro e w' ⟨rfl,rfl⟩))
   go_loop [4,5] (fun r k=> ∃j:Int,1≤j∧j≤12∧k=.int .i64 j∧cum (-4000+n*400/146097) j≤n-ys (-4000+n*400/146097)∧r=.int .i64 (n-ys (-4000+n*400/146097)-cum (-4000+n*400/146097) j)) (fun _ k=>(12-intOf k).toNat)
   case atStart=>exact⟨1,by omega,by omega,rfl,by rw [cum_one];omega,by rw [cum_one];go_num⟩
   case round=>
    obtain⟨j,hj1,hj2,rfl,hc,rfl⟩:=hrel
    have cb:=cum_bd (-4000+n*400/146097) j
    have db:=dim_bd (-4000+n*400/146097) j
    have HC:Hid (cum (-4000+n*400/146097) (j+1)=cum (-4000+n*400/146097) j+dim (-4000+n*400/146097) j):=cum_succ _ j hj1 hj2
    have hl:=lp_01 (-4000+n*400/146097)
    by_cases hlt:dim (-4000+n*400/146097) j≤n-ys (-4000+n*400/146097)-cum (-4000+n*400/146097) j
    ·have hj3:j<12:=by
      by_cases e:j=12
      ·subst e
       have c13:=cum_last (-4000+n*400/146097)
       have q:=HC.out
       have q2:=HN.out
       rw [show(12:Int)+1=13 by decide]at q
       omega
      ·omega
     go_wp2_with(first|(go_at_call 217;refine(dim_any _ _ _).mono ?_;rintro e w' ⟨rfl,rfl⟩))
     go_round
     case rel=>exact⟨j+1,by omega,by omega,rfl,by rw [HC.out];omega,by rw [HC.out];go_num⟩
     case measure=>simp [intOf];omega
    ·obtain⟨e1,e2,e3⟩:=date_is (n:=n) (y:= -4000+n*400/146097) (m:=j) (d:=n-ys (-4000+n*400/146097)-cum (-4000+n*400/146097) j+1) ⟨hj1,hj2,by omega,by omega⟩ (by omega)
     have E:Hid (_∧_∧_):=⟨e1,e2,e3⟩
     clear e1 e2 e3
     go_wp2_with(first|(go_at_call 217;refine(dim_any _ _ _).mono ?_;rintro e w' ⟨rfl,rfl⟩))
     refine bodyPost_ret (v:=civ (-4000+n*400/146097) j (n-ys (-4000+n*400/146097)-cum (-4000+n*400/146097) j+1) 0 0 0 ((n+6)%7)) (by simp [results,Tryz.results225,go_sem]) rfl ⟨?_,?_⟩
     ·rw [E.out.1,E.out.2.1,E.out.2.2]
     ·exact(Below.refl _ _).alloc (Nat.le_refl _) _

end Civ
namespace Civ
open Cal Go.RowKit

theorem bcell {W w1:World} (hb:Below W.heap.size W w1):(∀b o,b<W.heap.size→w1.cell? ⟨b,o,none⟩=W.cell? ⟨b,o,none⟩)∧(∀b o,b<W.heap.size→w1.frozen? ⟨b,o,none⟩=W.frozen? ⟨b,o,none⟩):=
 ⟨fun b o h=>hb.cell (p:=⟨b,o,none⟩) h,fun b o h=>hb.frozen (p:=⟨b,o,none⟩) h⟩

theorem bstep {a b c:World} (h:Below a.heap.size a b) (k:Below b.heap.size b c):Below a.heap.size a c:=h.trans (k.mono h.size)
theorem bstepA {a b:World} (h:Below a.heap.size a b) (o:Obj):Below a.heap.size a (b.alloc o):=h.alloc h.size o

theorem of_no (sec shift:Int) (w:World) (h:tmB sec=false∨shB shift=false):
  Calls Tryz.prog 216 #[.int .i64 sec,.int .i64 shift] w fun e w'=>e=.returned (.tuple #[civ 0 0 0 0 0 0 0,.int .i64 1])∧Below w.heap.size w w':=by
 cases ht:tmB sec
 ·clear h
  go_enter Tryz.func216,Tryz.ntmps216
  go_wp2_with(first|(go_at_call 223;refine(time_any _ _).mono ?_;rintro e w' ⟨rfl,rfl⟩)|(go_at_call 224;refine(shift_any _ _).mono ?_;rintro e w' ⟨rfl,rfl⟩))
  refine bodyPost_ret (v:=.tuple #[civ 0 0 0 0 0 0 0,.int .i64 1]) (by simp [results,Tryz.results216,go_sem]) rfl ⟨rfl,?_⟩
  exact(Below.refl _ _).alloc (Nat.le_refl _) _
 ·have hs:shB shift=false:=by rcases h with h|h;(rw [ht]at h;exact Bool.noConfusion h);exact h
  clear h
  go_enter Tryz.func216,Tryz.ntmps216
  go_wp2_with(first|(go_at_call 223;refine(time_any _ _).mono ?_;rintro e w' ⟨rfl,rfl⟩)|(go_at_call 224;refine(shift_any _ _).mono ?_;rintro e w' ⟨rfl,rfl⟩))
  refine bodyPost_ret (v:=.tuple #[civ 0 0 0 0 0 0 0,.int .i64 1]) (by simp [results,Tryz.results216,go_sem]) rfl ⟨rfl,?_⟩
  exact(Below.refl _ _).alloc (Nat.le_refl _) _

abbrev sc (sec shift:Int):Int:=sec+(188395027200+shift*60)
abbrev ofv (t:Int):Value:=civ (yr (t/86400)) (mo (t/86400)) (dy (t/86400)) (t%86400/3600) (t%3600/60) (t%60) ((t/86400+6)%7)

theorem ys_c (w:World):Calls Tryz.prog 218 #[.int .i64 1970] w fun e w'=>e=.returned (.int .i64 2180498)∧w'=w:=by
 have:=ys_any 1970 w (by omega) (by omega)
 rw [ys_1970]at this
 exact this

theorem of_yes (sec shift:Int) (w:World) (ht:tmB sec=true) (hs:shB shift=true):
  Calls Tryz.prog 216 #[.int .i64 sec,.int .i64 shift] w fun e w'=>e=.returned (.tuple #[ofv (sc sec shift),.int .i64 0])∧Below w.heap.size w w':=by
 have h1:=(tm_iff _).1 ht
 have h2:=(sh_iff _).1 hs
 go_enter Tryz.func216,Tryz.ntmps216
 go_wp2_with(first|(go_at_call 223;refine(time_any _ _).mono ?_;rintro e w' ⟨rfl,rfl⟩)|(go_at_call 224;refine(shift_any _ _).mono ?_;rintro e w' ⟨rfl,rfl⟩)|(go_at_call 218;refine(ys_c _).mono ?_;rintro e w' ⟨rfl,rfl⟩)|(go_at_call 225;refine(date_any _ _ (by omega) (by omega)).mono ?_;rintro e w1 ⟨rfl,hb⟩;obtain⟨hc,hf⟩:=bcell hb;have hz:w.heap.size<w1.heap.size:=(by have:=hb.size;simp at this;omega)))
 refine bodyPost_ret (v:=.tuple #[ofv (sc sec shift),.int .i64 0]) (by simp [results,Tryz.results216,go_sem,hc,hz]) rfl ⟨rfl,?_⟩
 exact(((((((((((Below.refl _ _).alloc (Nat.le_refl _) _).trans (hb.mono (by simp))).setCell (Nat.le_refl _) _).setCell (Nat.le_refl _) _).setCell (Nat.le_refl _) _).setCell (Nat.le_refl _) _).setCell (Nat.le_refl _) _).setCell (Nat.le_refl _) _).setCell (Nat.le_refl _) _).alloc (by simp;omega) _)
end Civ
namespace Rst
open Go.RowKit
theorem ret_int {k:IntKind} {a b:Int} (h:a=b):Ending.returned (.int k a)=.returned (.int k b):=by rw [h]
end Rst
namespace RCiv
open Cal Civ Rst Go.RowKit

theorem tdiv_neg (y s:Int) (h:y≤0):y.tdiv s= -((-y)/s):=by
 have e:=Int.neg_tdiv (a:= -y) (b:=s)
 rw [Int.neg_neg]at e
 rw [e,Int.tdiv_eq_ediv_of_nonneg (by omega)]

end RCiv
namespace RCiv
open Cal Civ Rst Go.RowKit

theorem tdiv_bd (n:Int) (h1: -1200000≤n) (h2:n≤1200000): -3300≤n.tdiv 366∧n.tdiv 366≤3300:=by
 by_cases c:0≤n
 ·rw [Int.tdiv_eq_ediv_of_nonneg c];omega
 ·rw [tdiv_neg n 366 (by omega)];omega

theorem ret_three {k l m:IntKind} {a b c d x y:Int} (h:a=b) (g:c=d) (i:x=y):Ending.returned (.tuple #[.int k a,.int l c,.int m x])=.returned (.tuple #[.int k b,.int l d,.int m y]):=by rw [h,g,i]

end RCiv
namespace Plain

def clip (n:Int):Int:=if 1000000000000000<n then 1000000000000000 else if n< -1000000000000000 then-1000000000000000 else n

theorem clip_bd (n:Int): -1000000000000000≤clip n∧clip n≤1000000000000000:=by
 unfold clip;split
 ·omega
 ·split<;>omega

theorem clip_hi {n:Int} (h:1000000000000000<n):clip n=1000000000000000:=by unfold clip;rw [if_pos h]
theorem clip_lo {n:Int} (h:n< -1000000000000000):clip n= -1000000000000000:=by
 unfold clip;rw [if_neg (by omega),if_pos h]
theorem clip_in {n:Int} (h1: -1000000000000000≤n) (h2:n≤1000000000000000):clip n=n:=by
 unfold clip;rw [if_neg (by omega),if_neg (by omega)]

theorem clip_mono {a b:Int} (h:a≤b):clip a≤clip b:=by
 unfold clip;repeat (first|omega|split)

theorem clip_clip (n:Int):clip (clip n)=clip n:=by
 have:=clip_bd n
 exact clip_in (by omega) (by omega)

def sz (n:Int):Int:=if n<0 then-n else n
theorem sz_neg {n:Int} (h:n<0):sz n= -n:=by unfold sz;rw [if_pos h]
theorem sz_pos {n:Int} (h:0≤n):sz n=n:=by unfold sz;rw [if_neg (by omega)]
theorem sz_bd (n:Int) (h: -1000000000000000≤n∧n≤1000000000000000):0≤sz n∧sz n≤1000000000000000:=by
 unfold sz;split<;>omega
theorem sz_one (n:Int) (h:n≠0):1≤sz n:=by unfold sz;split<;>omega

def atz (n:Int):Int:=if n<0 then 0 else n
theorem atz_neg {n:Int} (h:n<0):atz n=0:=by unfold atz;rw [if_pos h]
theorem atz_pos {n:Int} (h:0≤n):atz n=n:=by unfold atz;rw [if_neg (by omega)]
theorem atz_bd (n:Int) (h: -1000000000000000≤n∧n≤1000000000000000):0≤atz n∧atz n≤1000000000000000:=by
 unfold atz;split<;>omega

theorem sz_mul (a b:Int):sz (a*b)=sz a*sz b:=by
 rcases Int.lt_or_le a 0 with ha|ha
 ·rcases Int.lt_or_le b 0 with hb|hb
  ·rw [sz_neg ha,sz_neg hb,sz_pos (by have:=Int.mul_pos_of_neg_of_neg ha hb;omega),Int.neg_mul_neg]
  ·rw [sz_neg ha,sz_pos hb]
   have h:a*b≤0:=Int.mul_nonpos_of_nonpos_of_nonneg (by omega) hb
   rcases Int.lt_or_le (a*b) 0 with h'|h'
   ·rw [sz_neg h',Int.neg_mul]
   ·have e:a*b=0:=by omega
    rw [Int.neg_mul,e];rfl
 ·rcases Int.lt_or_le b 0 with hb|hb
  ·rw [sz_pos ha,sz_neg hb]
   have h:a*b≤0:=Int.mul_nonpos_of_nonneg_of_nonpos ha (by omega)
   rcases Int.lt_or_le (a*b) 0 with h'|h'
   ·rw [sz_neg h',Int.mul_neg]
   ·have e:a*b=0:=by omega
    rw [Int.mul_neg,e];rfl
  ·rw [sz_pos ha,sz_pos hb,sz_pos (Int.mul_nonneg ha hb)]

theorem le_sz (n:Int):n≤sz n∧ -n≤sz n:=by unfold sz;split<;>omega

theorem mul_fits (a b:Int) (h0:a≠0) (h:sz b≤1000000000000000/sz a): -1000000000000000≤a*b∧a*b≤1000000000000000:=by
 have h1:=sz_one a h0
 have h2:sz b*sz a≤1000000000000000:=(Int.le_ediv_iff_mul_le (by omega)).1 h
 have h3:=sz_mul a b
 have h4:=le_sz (a*b)
 rw [Int.mul_comm]at h2
 omega

theorem mul_great (a b:Int) (h0:a≠0) (h:1000000000000000/sz a<sz b):1000000000000000<sz (a*b):=by
 have h1:=sz_one a h0
 have h2:1000000000000000<sz b*sz a:=(Int.ediv_lt_iff_lt_mul (by omega)).1 h
 rw [sz_mul,Int.mul_comm]
 exact h2

def mulc (a b:Int):Int:=clip (a*b)
theorem mulc_zero (a b:Int) (h:a=0):mulc a b=a*b:=by
 subst h;rw [Int.zero_mul];unfold mulc;rw [Int.zero_mul];rfl
theorem mulc_fits (a b:Int) (h0:a≠0) (h:sz b≤1000000000000000/sz a):mulc a b=a*b:=by
 have:=mul_fits a b h0 h
 exact clip_in this.1 this.2
theorem mulc_great (a b:Int) (h0:a≠0) (h:1000000000000000/sz a<sz b):mulc a b=if(decide (a<0) !=decide (b<0))=true then-1000000000000000 else 1000000000000000:=by
 have hg:=mul_great a b h0 h
 have hb:b≠0:=by
  intro e;subst e
  have h1:=sz_one a h0
  have h2:0≤1000000000000000/sz a:=Int.ediv_nonneg (by omega) (by omega)
  have h3:sz 0=0:=rfl
  omega
 unfold mulc
 rcases Int.lt_or_le a 0 with ha|ha<;>rcases Int.lt_or_le b 0 with hb'|hb'
 ·have h5:=Int.mul_pos_of_neg_of_neg ha hb'
  rw [sz_pos (by omega)]at hg
  rw [if_neg (by simp [ha,hb']),clip_hi hg]
 ·have h5:a*b≤0:=Int.mul_nonpos_of_nonpos_of_nonneg (by omega) hb'
  have h6: ¬b<0:=by omega
  rw [if_pos (by simp [ha,h6]),clip_lo]
  rcases Int.lt_or_le (a*b) 0 with h'|h'
  ·rw [sz_neg h']at hg;omega
  ·rw [sz_pos h']at hg;omega
 ·have h5:a*b≤0:=Int.mul_nonpos_of_nonneg_of_nonpos ha (by omega)
  have h6: ¬a<0:=by omega
  rw [if_pos (by simp [hb',h6]),clip_lo]
  rcases Int.lt_or_le (a*b) 0 with h'|h'
  ·rw [sz_neg h']at hg;omega
  ·rw [sz_pos h']at hg;omega
 ·have h5:=Int.mul_nonneg ha hb'
  have h6: ¬a<0:=by omega
  have h7: ¬b<0:=by omega
  rw [sz_pos (by omega)]at hg
  rw [if_neg (by simp [h6,h7]),clip_hi hg]

def up (a b:Int):Int:=if 0<a.tmod b then a.tdiv b+1 else a.tdiv b
theorem tquot (a b:Int) (hb:1≤b):(0≤a→a.tdiv b*b≤a∧a<a.tdiv b*b+b∧a.tmod b=a-a.tdiv b*b)∧(a<0→a≤a.tdiv b*b∧a.tdiv b*b<a+b∧a.tmod b=a-a.tdiv b*b):=by
 have h1:=Int.tmod_add_mul_tdiv a b
 rw [Int.mul_comm]at h1
 refine⟨fun h=> ?_,fun h=> ?_⟩
 ·have h2:=Int.tmod_nonneg b h
  have h3:=Int.tmod_lt_of_pos a (show 0<b by omega)
  omega
 ·have h2:=Int.tmod_nonneg b (show 0≤ -a by omega)
  have h3:=Int.tmod_lt_of_pos (-a) (show 0<b by omega)
  rw [Int.neg_tmod]at h2 h3
  omega
theorem up_ok (a b:Int) (hb:1≤b):a≤up a b*b∧(up a b-1)*b<a:=by
 have⟨h1,h2⟩:=tquot a b hb
 rw [Int.sub_mul,Int.one_mul]
 unfold up
 split
 ·rename_i h
  rw [Int.add_mul,Int.one_mul]
  rcases Int.lt_or_le a 0 with ha|ha
  ·have:=h2 ha;omega
  ·have:=h1 ha;omega
 ·rename_i h
  rcases Int.lt_or_le a 0 with ha|ha
  ·have:=h2 ha;omega
  ·have:=h1 ha;omega
theorem tdiv_bd (a b:Int) (hb:1≤b) (h: -1000000000000000≤a∧a≤1000000000000000): -1000000000000000≤a.tdiv b∧a.tdiv b≤1000000000000000:=by
 rcases Int.lt_or_le a 0 with ha|ha
 ·have e:a.tdiv b= -((-a).tdiv b):=by rw [Int.neg_tdiv];omega
  have h1:(-a).tdiv b≤ -a:=Int.tdiv_le_self b (by omega)
  have h2:0≤(-a).tdiv b:=Int.tdiv_nonneg (by omega) (by omega)
  omega
 ·have h1:a.tdiv b≤a:=Int.tdiv_le_self b ha
  have h2:0≤a.tdiv b:=Int.tdiv_nonneg ha (by omega)
  omega
theorem up_bd (a b:Int) (hb:1≤b) (h: -1000000000000000≤a∧a≤1000000000000000): -1000000000000000≤up a b∧up a b≤1000000000000001:=by
 have:=tdiv_bd a b hb h
 unfold up;split<;>omega

def share (A M:Int):Int:=clip (A*M/1000)
theorem share_parts (A M:Int):A*M/1000=A/1000*M+A%1000*M/1000:=by
 have e:A*M=A%1000*M+1000*(A/1000*M):=by
  have h:A=A%1000+1000*(A/1000):=by omega
  have h2:A*M=(A%1000+1000*(A/1000))*M:=congrArg (· *M) h
  rw [h2,Int.add_mul,Int.mul_assoc]
 rw [e,Int.add_mul_ediv_left _ _ (by omega)]
 omega
theorem rest_bd (A M:Int) (hM:0≤M∧M≤1000000000000000):0≤A%1000*M∧A%1000*M≤999000000000000000:=by
 have h1:0≤A%1000:=by omega
 have h2:A%1000≤999:=by omega
 have h3:=Int.mul_nonneg h1 hM.1
 have h4:A%1000*M≤999*M:=Int.mul_le_mul_of_nonneg_right h2 hM.1
 omega
theorem clip_sum (x s:Int) (hx:0≤x) (hs:0≤s):clip (clip x+s)=clip (x+s):=by
 by_cases h:x≤1000000000000000
 ·rw [clip_in (by omega) h]
 ·rw [clip_hi (n:=x) (by omega)]
  by_cases h0:s=0
  ·subst h0;rw [clip_hi (n:=x+0) (by omega)];exact clip_in (by omega) (by omega)
  ·rw [clip_hi (n:=x+s) (by omega),clip_hi (by omega)]
theorem share_ok (A M:Int) (hA:0≤A∧A≤1000000000000000) (hM:0≤M∧M≤1000000000000000):
  clip (clip (mulc (clip (A/1000)) (clip M))+clip (A%1000*M/1000))=share A M:=by
 have hr:=rest_bd A M hM
 rw [clip_in (n:=A/1000) (by omega) (by omega),clip_in (n:=M) (by omega) (by omega),clip_in (n:=A%1000*M/1000) (by omega) (by omega)]
 unfold mulc
 have hq:0≤A/1000*M:=Int.mul_nonneg (by omega) hM.1
 rw [clip_clip,clip_sum _ _ hq (by omega)]
 unfold share
 rw [share_parts A M]

end Plain
namespace Num
open Plain Go.RowKit

theorem ret_int {k:IntKind} {a b:Int} (h:a=b):Ending.returned (.int k a)=.returned (.int k b):=by rw [h]

theorem ret_two {k l:IntKind} {a b c d:Int} (h:a=b) (g:c=d):Ending.returned (.tuple #[.int k a,.int l c])=.returned (.tuple #[.int k b,.int l d]):=by rw [h,g]

theorem clip_any (n:Int) (w:World):
  Calls Tryz.prog 107 #[.int .i64 n] w fun e w'=>e=.returned (.int .i64 (clip n))∧w'=w:=by
 by_cases h1:1000000000000000<n
 ·go_enter Tryz.func107,Tryz.ntmps107
  go_wp2
  go_ret
  exact⟨ret_int (clip_hi h1).symm,rfl⟩
 ·by_cases h2:n< -1000000000000000
  ·go_enter Tryz.func107,Tryz.ntmps107
   go_wp2
   go_ret
   exact⟨ret_int (clip_lo h2).symm,rfl⟩
  ·go_enter Tryz.func107,Tryz.ntmps107
   go_wp2
   go_ret
   exact⟨ret_int (clip_in (by omega) (by omega)).symm,rfl⟩

theorem sz_any (n:Int) (w:World) (h: -1000000000000000≤n∧n≤1000000000000000):
  Calls Tryz.prog 204 #[.int .i64 n] w fun e w'=>e=.returned (.int .i64 (sz n))∧w'=w:=by
 by_cases h1:n<0
 ·go_enter Tryz.func204,Tryz.ntmps204
  go_wp2
  go_ret
  exact⟨ret_int (sz_neg h1).symm,rfl⟩
 ·go_enter Tryz.func204,Tryz.ntmps204
  go_wp2
  go_ret
  exact⟨ret_int (sz_pos (by omega)).symm,rfl⟩

theorem atz_any (n:Int) (w:World):
  Calls Tryz.prog 205 #[.int .i64 n] w fun e w'=>e=.returned (.int .i64 (atz n))∧w'=w:=by
 by_cases h1:n<0
 ·go_enter Tryz.func205,Tryz.ntmps205
  go_wp2
  go_ret
  exact⟨ret_int (atz_neg h1).symm,rfl⟩
 ·go_enter Tryz.func205,Tryz.ntmps205
  go_wp2
  go_ret
  exact⟨ret_int (atz_pos (by omega)).symm,rfl⟩

theorem add_any (a b:Int) (w:World):
  Calls Tryz.prog 65 #[.int .i64 a,.int .i64 b] w fun e w'=>e=.returned (.int .i64 (clip (clip a+clip b)))∧w'=w:=by
 have ha:=clip_bd a
 have hb:=clip_bd b
 go_enter Tryz.func65,Tryz.ntmps65
 go_wp2_with(go_at_call 107;refine(clip_any _ _).mono ?_;rintro e w' ⟨rfl,rfl⟩)
 go_ret
 exact⟨rfl,rfl⟩

theorem mul_any (a b:Int) (w:World):
  Calls Tryz.prog 192 #[.int .i64 a,.int .i64 b] w fun e w'=>e=.returned (.int .i64 (mulc (clip a) (clip b)))∧w'=w:=by
 have ha:=clip_bd a
 have hb:=clip_bd b
 by_cases h0:clip a=0
 ·have hz:(clip a==0)=true:=by simp [h0]
  have HM:Hid (mulc (clip a) (clip b)=clip a*clip b):=mulc_zero _ _ h0
  have hp:clip a*clip b=0:=by rw [h0,Int.zero_mul]
  have hp1:0≤clip a*clip b:=by omega
  have hp2:clip a*clip b≤0:=by omega
  clear hp h0
  go_enter Tryz.func192,Tryz.ntmps192
  go_wp2_with(go_at_call 107;refine(clip_any _ _).mono ?_;rintro e w' ⟨rfl,rfl⟩)
  go_ret
  exact⟨ret_int HM.out.symm,rfl⟩
 ·have hz:(clip a==0)=false:=by simp [h0]
  have h1:=sz_one _ h0
  have h2:=sz_bd _ ha
  have h3:=sz_bd _ hb
  by_cases hf:sz (clip b)≤1000000000000000/sz (clip a)
  ·have HM:Hid (mulc (clip a) (clip b)=clip a*clip b):=mulc_fits _ _ h0 hf
   have hp:=mul_fits _ _ h0 hf
   clear h0
   go_enter Tryz.func192,Tryz.ntmps192
   go_wp2_with(first|(go_at_call 107;refine(clip_any _ _).mono ?_;rintro e w' ⟨rfl,rfl⟩)|(go_at_call 204;refine(sz_any _ _ (by assumption)).mono ?_;rintro e w' ⟨rfl,rfl⟩))
   go_ret
   exact⟨ret_int HM.out.symm,rfl⟩
  ·have HM:Hid (mulc (clip a) (clip b)=_):=mulc_great _ _ h0 (by omega)
   clear h0
   have D1:decide (clip a<0)=true∨decide (clip a<0)=false:=by cases decide (clip a<0)<;>simp
   have D2:decide (clip b<0)=true∨decide (clip b<0)=false:=by cases decide (clip b<0)<;>simp
   rcases D1 with d1|d1<;>rcases D2 with d2|d2
   all_goals
    rw [d1,d2]at HM
    go_enter Tryz.func192,Tryz.ntmps192
    go_wp2_with(first|(go_at_call 107;refine(clip_any _ _).mono ?_;rintro e w' ⟨rfl,rfl⟩)|(go_at_call 204;refine(sz_any _ _ (by assumption)).mono ?_;rintro e w' ⟨rfl,rfl⟩))
    go_ret
    exact⟨ret_int (by rw [HM.out];rfl),rfl⟩

theorem clip_one {b:Int} (h:1≤b):1≤clip b:=by unfold clip;repeat (first|omega|split)

theorem ceil_yes (a b:Int) (w:World) (h:1≤b):
  Calls Tryz.prog 191 #[.int .i64 a,.int .i64 b] w fun e w'=>e=.returned (.tuple #[.int .i64 (up (clip a) (clip b)),.int .i64 0])∧w'=w:=by
 have ha:=clip_bd a
 have hb:=clip_bd b
 have h1:=clip_one h
 have hq:=tdiv_bd _ _ h1 ha
 have hnz: ¬clip b=0:=by omega
 by_cases hr:0<(clip a).tmod (clip b)
 ·have HU:Hid (up (clip a) (clip b)=(clip a).tdiv (clip b)+1):=by unfold Hid up;rw [if_pos hr]
  go_enter Tryz.func191,Tryz.ntmps191
  go_wp2_with(go_at_call 107;refine(clip_any _ _).mono ?_;rintro e w' ⟨rfl,rfl⟩)
  go_ret2
  exact⟨ret_two HU.out.symm rfl,rfl⟩
 ·have HU:Hid (up (clip a) (clip b)=(clip a).tdiv (clip b)):=by unfold Hid up;rw [if_neg hr]
  go_enter Tryz.func191,Tryz.ntmps191
  go_wp2_with(go_at_call 107;refine(clip_any _ _).mono ?_;rintro e w' ⟨rfl,rfl⟩)
  go_ret2
  exact⟨ret_two HU.out.symm rfl,rfl⟩

theorem share_any (a b:Int) (w:World):
  Calls Tryz.prog 194 #[.int .i64 a,.int .i64 b] w fun e w'=>e=.returned (.int .i64 (share (atz (clip a)) (atz (clip b))))∧w'=w:=by
 have ha:=atz_bd _ (clip_bd a)
 have hb:=atz_bd _ (clip_bd b)
 have hr:=rest_bd (atz (clip a)) (atz (clip b)) hb
 have HS:Hid _:=share_ok _ _ ha hb
 go_enter Tryz.func194,Tryz.ntmps194
 go_wp2_with(first|(go_at_call 107;refine(clip_any _ _).mono ?_;rintro e w' ⟨rfl,rfl⟩)|(go_at_call 205;refine(atz_any _ _).mono ?_;rintro e w' ⟨rfl,rfl⟩)|(go_at_call 192;refine(mul_any _ _ _).mono ?_;rintro e w' ⟨rfl,rfl⟩)|(go_at_call 65;refine(add_any _ _ _).mono ?_;rintro e w' ⟨rfl,rfl⟩))
 go_ret
 exact⟨ret_int HS.out,rfl⟩

end Num
namespace Ned
open Plain

def sumF (X:Nat→Int):Nat→Int
 |0=>0
 |k+1=>clip (clip (sumF X k)+clip (atz (X k)))
def cntF (X:Nat→Int):Nat→Nat
 |0=>0
 |k+1=>if 0<X k then cntF X k+1 else cntF X k
def metF (k:Int) (len:Nat) (X:Nat→Int):Int:=if k=1 then sumF X len else if len=0 then 0 else atz (X 0)
def podF (k tg:Int) (len:Nat) (X:Nat→Int):Int:=
 if k=1 then min (up (clip (metF k len X)) (clip tg)) (cntF X len:Int)else up (clip (metF k len X)) (clip tg)
def nearF (m tk tol:Int):Bool:=decide (max (m-tk) (tk-m)≤share (atz (clip tk)) (atz (clip tol)))

theorem sumF_bd (X:Nat→Int) (k:Nat):0≤sumF X k∧sumF X k≤1000000000000000:=by
 induction k with
 |zero=>simp [sumF]
 |succ k ih=>
  have h1:=clip_bd (clip (sumF X k)+clip (atz (X k)))
  refine⟨?_,h1.2⟩
  have h2:0≤clip (sumF X k):=by rw [clip_in (by omega) (by omega)];omega
  have h3:0≤clip (atz (X k)):=by unfold clip atz;repeat (first|omega|split)
  show 0≤clip (clip (sumF X k)+clip (atz (X k)))
  have h4:0≤clip (sumF X k)+clip (atz (X k)):=by omega
  generalize clip (sumF X k)+clip (atz (X k))=s at h4
  clear h1 h2 h3
  unfold clip;repeat (first|omega|split)
theorem atz_mono {a b:Int} (h:a≤b):atz a≤atz b:=by unfold atz;repeat (first|omega|split)
theorem atz_ge (a:Int):0≤atz a:=by unfold atz;split<;>omega
theorem cntF_le (X:Nat→Int) (k:Nat):cntF X k≤k:=by
 induction k with
 |zero=>simp [cntF]
 |succ k ih=>unfold cntF;split<;>omega
theorem metF_ge (k:Int) (len:Nat) (X:Nat→Int):0≤metF k len X:=by
 unfold metF
 split
 ·exact(sumF_bd X len).1
 ·split
  ·omega
  ·exact atz_ge _
theorem metF_bd (k:Int) (len:Nat) (X:Nat→Int) (hX: ∀i,i<len→X i≤9223372036854775807):metF k len X≤9223372036854775807:=by
 unfold metF
 split
 ·have:=sumF_bd X len;omega
 ·split
  ·omega
  ·have:=hX 0 (by omega);unfold atz;split<;>omega
theorem clip_ge {a:Int} (h:0≤a):0≤clip a:=by unfold clip;repeat (first|omega|split)
theorem clip_pos {a:Int} (h:1≤a):1≤clip a:=by unfold clip;repeat (first|omega|split)
theorem share_mono {A M N:Int} (hA:0≤A) (h:M≤N):share A M≤share A N:=by
 unfold share
 refine clip_mono ?_
 have:=Int.mul_le_mul_of_nonneg_left h hA
 omega
theorem near_all {m tk tol:Int} (h:tol≤1000) (hn:nearF m tk tol=true):nearF m tk 1000=true:=by
 unfold nearF at hn⊢
 simp only [decide_eq_true_eq]at hn⊢
 exact Int.le_trans hn (share_mono (atz_ge _) (atz_mono (clip_mono h)))
def wantF (now tol k tg:Int) (len:Nat) (X:Nat→Int):Int:=
 if now≠0∧nearF (metF k len X) (mulc (clip now) (clip tg)) tol=true then now else podF k tg len X
theorem stays {now tol k tg:Int} {len:Nat} {X:Nat→Int} (h:tol≤1000):
  (wantF now tol k tg len X=now∨wantF now tol k tg len X=podF k tg len X)∧(wantF now 1000 k tg len X=now∨wantF now 1000 k tg len X=podF k tg len X)∧
  (wantF now tol k tg len X≠now∨now=0∨wantF now 1000 k tg len X=now∨podF k tg len X=now):=by
 unfold wantF
 by_cases h0:now=0
 ·simp [h0]
 ·by_cases h1:nearF (metF k len X) (mulc (clip now) (clip tg)) tol=true
  ·have h2:=near_all h h1
   simp [h0,h1,h2]
  ·by_cases h2:nearF (metF k len X) (mulc (clip now) (clip tg)) 1000=true
   ·simp [h0,h1,h2]
   ·simp [h0,h1,h2]
    by_cases h3:podF k tg len X=now
    ·exact Or.inr h3
    ·exact Or.inl h3
end Ned
namespace Rsw
open Go.RowKit
theorem ret_int {k:IntKind} {a b:Int} (h:a=b):Ending.returned (.int k a)=.returned (.int k b):=by rw [h]
end Rsw
end Go.Proofs.YtddabkmppobcdaaGreatDoor
