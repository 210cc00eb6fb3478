/- A part. -/
import Derived.Test.YthiapcajheepbaaGreatDoorPwAr
set_option linter.all false
open Go.Proofs.Tryz
namespace Go.Proofs.YthiapcajheepbaaGreatDoor
namespace Plain

def clip (n:Int):Int:=if 1000000000000000<n then 1000000000000000 else if n< -1000000000000000 then-1000000000000000 else n

theorem clip_bd (n:Int): -1000000000000000≤clip n∧clip n≤1000000000000000:=by
 unfold clip;split
 ·omega
 ·split<;>omega

theorem clip_hi {n:Int} (h:1000000000000000<n):clip n=1000000000000000:=by unfold clip;rw [if_pos h]
theorem clip_lo {n:Int} (h:n< -1000000000000000):clip n= -1000000000000000:=by
 unfold clip;rw [if_neg (by omega),if_pos h]
theorem clip_in {n:Int} (h1: -1000000000000000≤n) (h2:n≤1000000000000000):clip n=n:=by
 unfold clip;rw [if_neg (by omega),if_neg (by omega)]

theorem clip_mono {a b:Int} (h:a≤b):clip a≤clip b:=by
 unfold clip;repeat (first|omega|split)

theorem clip_clip (n:Int):clip (clip n)=clip n:=by
 have:=clip_bd n;exact clip_in (by omega) (by omega)

def sz (n:Int):Int:=if n<0 then-n else n
theorem sz_neg {n:Int} (h:n<0):sz n= -n:=by unfold sz;rw [if_pos h]
theorem sz_pos {n:Int} (h:0≤n):sz n=n:=by unfold sz;rw [if_neg (by omega)]
theorem sz_bd (n:Int) (h: -1000000000000000≤n∧n≤1000000000000000):0≤sz n∧sz n≤1000000000000000:=by
 unfold sz;split<;>omega
theorem sz_one (n:Int) (h:n≠0):1≤sz n:=by unfold sz;split<;>omega

def atz (n:Int):Int:=if n<0 then 0 else n
theorem atz_neg {n:Int} (h:n<0):atz n=0:=by unfold atz;rw [if_pos h]
theorem atz_pos {n:Int} (h:0≤n):atz n=n:=by unfold atz;rw [if_neg (by omega)]
theorem atz_bd (n:Int) (h: -1000000000000000≤n∧n≤1000000000000000):0≤atz n∧atz n≤1000000000000000:=by
 unfold atz;split<;>omega

theorem sz_mul (a b:Int):sz (a*b)=sz a*sz b:=by
 rcases XN a 0 with ha|ha
 ·rcases XN b 0 with hb|hb
  ·rw [sz_neg ha,sz_neg hb,sz_pos (by have:=Int.mul_pos_of_neg_of_neg ha hb;omega),Int.neg_mul_neg]
  ·rw [sz_neg ha,sz_pos hb];have h:a*b≤0:=Int.mul_nonpos_of_nonpos_of_nonneg (by omega) hb;rcases XN (a*b) 0 with h'|h'
   ·rw [sz_neg h',Int.neg_mul]
   ·have e:a*b=0:=(by omega);rw [Int.neg_mul,e];rfl
 ·rcases XN b 0 with hb|hb
  ·rw [sz_pos ha,sz_neg hb];have h:a*b≤0:=Int.mul_nonpos_of_nonneg_of_nonpos ha (by omega);rcases XN (a*b) 0 with h'|h'
   ·rw [sz_neg h',Int.mul_neg]
   ·have e:a*b=0:=(by omega);rw [Int.mul_neg,e];rfl
  ·rw [sz_pos ha,sz_pos hb,sz_pos (Int.mul_nonneg ha hb)]

theorem le_sz (n:Int):n≤sz n∧ -n≤sz n:=by unfold sz;split<;>omega

theorem mul_fits (a b:Int) (h0:a≠0) (h:sz b≤1000000000000000/sz a): -1000000000000000≤a*b∧a*b≤1000000000000000:=by
 have h1:=sz_one a h0;have h2:sz b*sz a≤1000000000000000:=(Int.le_ediv_iff_mul_le (by omega)).1 h;have h3:=sz_mul a b;have h4:=le_sz (a*b);rw [Int.mul_comm]at h2;omega

theorem mul_great (a b:Int) (h0:a≠0) (h:1000000000000000/sz a<sz b):1000000000000000<sz (a*b):=by
 have h1:=sz_one a h0;have h2:1000000000000000<sz b*sz a:=(Int.ediv_lt_iff_lt_mul (by omega)).1 h;rw [sz_mul,Int.mul_comm];exact h2

def mulc (a b:Int):Int:=clip (a*b)
theorem mulc_zero (a b:Int) (h:a=0):mulc a b=a*b:=by
 subst h;rw [Int.zero_mul];unfold mulc;rw [Int.zero_mul];rfl
theorem mulc_fits (a b:Int) (h0:a≠0) (h:sz b≤1000000000000000/sz a):mulc a b=a*b:=by
 have:=mul_fits a b h0 h;exact clip_in this.1 this.2
theorem mulc_great (a b:Int) (h0:a≠0) (h:1000000000000000/sz a<sz b):mulc a b=if(decide (a<0) !=decide (b<0))=true then-1000000000000000 else 1000000000000000:=by
 have hg:=mul_great a b h0 h;have hb:b≠0:=by
  intro e;subst e;have h1:=sz_one a h0;have h2:0≤1000000000000000/sz a:=Int.ediv_nonneg (by omega) (by omega);have h3:sz 0=0:=rfl;omega
 unfold mulc;rcases XN a 0 with ha|ha<;>rcases XN b 0 with hb'|hb'
 ·have h5:=Int.mul_pos_of_neg_of_neg ha hb';rw [sz_pos (by omega)]at hg;rw [if_neg (by simp [ha,hb']),clip_hi hg]
 ·have h5:a*b≤0:=Int.mul_nonpos_of_nonpos_of_nonneg (by omega) hb';have h6: ¬b<0:=by omega
  rw [if_pos (by simp [ha,h6]),clip_lo];rcases XN (a*b) 0 with h'|h'
  ·rw [sz_neg h']at hg;omega
  ·rw [sz_pos h']at hg;omega
 ·have h5:a*b≤0:=Int.mul_nonpos_of_nonneg_of_nonpos ha (by omega);have h6: ¬a<0:=by omega
  rw [if_pos (by simp [hb',h6]),clip_lo];rcases XN (a*b) 0 with h'|h'
  ·rw [sz_neg h']at hg;omega
  ·rw [sz_pos h']at hg;omega
 ·have h5:=Int.mul_nonneg ha hb';have h6: ¬a<0:=by omega
  have h7: ¬b<0:=by omega
  rw [sz_pos (by omega)]at hg;rw [if_neg (by simp [h6,h7]),clip_hi hg]

def up (a b:Int):Int:=if 0<a.tmod b then a.tdiv b+1 else a.tdiv b
theorem tquot (a b:Int) (hb:1≤b):(0≤a→a.tdiv b*b≤a∧a<a.tdiv b*b+b∧a.tmod b=a-a.tdiv b*b)∧(a<0→a≤a.tdiv b*b∧a.tdiv b*b<a+b∧a.tmod b=a-a.tdiv b*b):=by
 have h1:=Int.tmod_add_mul_tdiv a b;rw [Int.mul_comm]at h1;refine⟨fun h=> ?_,fun h=> ?_⟩
 ·have h2:=Int.tmod_nonneg b h;have h3:=Int.tmod_lt_of_pos a (show 0<b by omega);omega
 ·have h2:=Int.tmod_nonneg b (show 0≤ -a by omega);have h3:=Int.tmod_lt_of_pos (-a) (show 0<b by omega);rw [Int.neg_tmod]at h2 h3;omega
theorem up_ok (a b:Int) (hb:1≤b):a≤up a b*b∧(up a b-1)*b<a:=by
 have⟨h1,h2⟩:=tquot a b hb;rw [Int.sub_mul,Int.one_mul];unfold up;split
 ·rename_i h;rw [Int.add_mul,Int.one_mul];rcases XN a 0 with ha|ha
  ·have:=h2 ha;omega
  ·have:=h1 ha;omega
 ·rename_i h;rcases XN a 0 with ha|ha
  ·have:=h2 ha;omega
  ·have:=h1 ha;omega
theorem tdiv_bd (a b:Int) (hb:1≤b) (h: -1000000000000000≤a∧a≤1000000000000000): -1000000000000000≤a.tdiv b∧a.tdiv b≤1000000000000000:=by
 rcases XN a 0 with ha|ha
 ·have e:a.tdiv b= -((-a).tdiv b):=by rw [Int.neg_tdiv];omega
  have h1:(-a).tdiv b≤ -a:=Int.tdiv_le_self b (by omega);have h2:0≤(-a).tdiv b:=Int.tdiv_nonneg (by omega) (by omega);omega
 ·have h1:a.tdiv b≤a:=Int.tdiv_le_self b ha;have h2:0≤a.tdiv b:=Int.tdiv_nonneg ha (by omega);omega
theorem up_bd (a b:Int) (hb:1≤b) (h: -1000000000000000≤a∧a≤1000000000000000): -1000000000000000≤up a b∧up a b≤1000000000000001:=by
 have:=tdiv_bd a b hb h;unfold up;split<;>omega

def share (A M:Int):Int:=clip (A*M/1000)
theorem share_parts (A M:Int):A*M/1000=A/1000*M+A%1000*M/1000:=by
 have e:A*M=A%1000*M+1000*(A/1000*M):=by
  have h:A=A%1000+1000*(A/1000):=by omega
  have h2:A*M=(A%1000+1000*(A/1000))*M:=congrArg (· *M) h;rw [h2,Int.add_mul,Int.mul_assoc]
 rw [e,Int.add_mul_ediv_left _ _ (by omega)];omega
theorem rest_bd (A M:Int) (hM:0≤M∧M≤1000000000000000):0≤A%1000*M∧A%1000*M≤999000000000000000:=by
 have h1:0≤A%1000:=by omega
 have h2:A%1000≤999:=by omega
 have h3:=Int.mul_nonneg h1 hM.1;have h4:A%1000*M≤999*M:=Int.mul_le_mul_of_nonneg_right h2 hM.1;omega
theorem clip_sum (x s:Int) (hx:0≤x) (hs:0≤s):clip (clip x+s)=clip (x+s):=by
 by_cases h:x≤1000000000000000
 ·rw [clip_in (by omega) h]
 ·rw [clip_hi (n:=x) (by omega)];by_cases h0:s=0
  ·subst h0;rw [clip_hi (n:=x+0) (by omega)];exact clip_in (by omega) (by omega)
  ·rw [clip_hi (n:=x+s) (by omega),clip_hi (by omega)]
theorem share_ok (A M:Int) (hA:0≤A∧A≤1000000000000000) (hM:0≤M∧M≤1000000000000000):
  clip (clip (mulc (clip (A/1000)) (clip M))+clip (A%1000*M/1000))=share A M:=by
 have hr:=rest_bd A M hM;rw [clip_in (n:=A/1000) (by omega) (by omega),clip_in (n:=M) (by omega) (by omega),clip_in (n:=A%1000*M/1000) (by omega) (by omega)];unfold mulc;have hq:0≤A/1000*M:=Int.mul_nonneg (by omega) hM.1;rw [clip_clip,clip_sum _ _ hq (by omega)];unfold share;rw [share_parts A M]

end Plain
namespace Ned
open Plain
variable {a tol:Int}

def sumF (X:Nat→Int):Nat→Int
 |0=>0
 |k+1=>clip (clip (sumF X k)+clip (atz (X k)))
def cntF (X:Nat→Int):Nat→Nat
 |0=>0
 |k+1=>if 0<X k then cntF X k+1 else cntF X k
def metF (k:Int) (len:Nat) (X:Nat→Int):Int:=if k=1 then sumF X len else if len=0 then 0 else atz (X 0)
def podF (k tg:Int) (len:Nat) (X:Nat→Int):Int:=
 if k=1 then min (up (clip (metF k len X)) (clip tg)) (cntF X len:Int)else up (clip (metF k len X)) (clip tg)
def nearF (m tk tol:Int):Bool:=decide (max (m-tk) (tk-m)≤share (atz (clip tk)) (atz (clip tol)))

theorem sumF_bd (X:Nat→Int) (k:Nat):0≤sumF X k∧sumF X k≤1000000000000000:=by
 induction k with
 |zero=>simp [sumF]
 |succ k ih=>
  have h1:=clip_bd (clip (sumF X k)+clip (atz (X k)));refine⟨?_,h1.2⟩;have h2:0≤clip (sumF X k):=by rw [clip_in (by omega) (by omega)];omega
  have h3:0≤clip (atz (X k)):=by unfold clip atz;repeat (first|omega|split)
  show 0≤clip (clip (sumF X k)+clip (atz (X k)));have h4:0≤clip (sumF X k)+clip (atz (X k)):=by omega
  generalize clip (sumF X k)+clip (atz (X k))=s at h4;clear h1 h2 h3;unfold clip;repeat (first|omega|split)
theorem atz_mono {b:Int} (h:a≤b):atz a≤atz b:=by unfold atz;repeat (first|omega|split)
theorem atz_ge (a:Int):0≤atz a:=by unfold atz;split<;>omega
theorem cntF_le (X:Nat→Int) (k:Nat):cntF X k≤k:=by
 induction k with
 |zero=>simp [cntF]
 |succ k ih=>unfold cntF;split<;>omega
theorem metF_ge (k:Int) (len:Nat) (X:Nat→Int):0≤metF k len X:=by
 unfold metF;split
 ·exact(sumF_bd X len).1
 ·split
  ·omega
  ·exact atz_ge _
theorem metF_bd (k:Int) (len:Nat) (X:Nat→Int) (hX: ∀i,i<len→X i≤9223372036854775807):metF k len X≤9223372036854775807:=by
 unfold metF;split
 ·have:=sumF_bd X len;omega
 ·split
  ·omega
  ·have:=hX 0 (by omega);unfold atz;split<;>omega
theorem clip_ge (h:0≤a):0≤clip a:=by unfold clip;repeat (first|omega|split)
theorem clip_pos (h:1≤a):1≤clip a:=by unfold clip;repeat (first|omega|split)
theorem share_mono {A M N:Int} (hA:0≤A) (h:M≤N):share A M≤share A N:=by
 unfold share;refine clip_mono ?_;have:=Int.mul_le_mul_of_nonneg_left h hA;omega
theorem near_all {m tk:Int} (h:tol≤1000) (hn:nearF m tk tol=true):nearF m tk 1000=true:=by
 unfold nearF at hn⊢;simp only [decide_eq_true_eq]at hn⊢;exact Yc hn (share_mono (atz_ge _) (atz_mono (clip_mono h)))
def wantF (now tol k tg:Int) (len:Nat) (X:Nat→Int):Int:=
 if now≠0∧nearF (metF k len X) (mulc (clip now) (clip tg)) tol=true then now else podF k tg len X
theorem stays {now k tg:Int} {len:Nat} {X:Nat→Int} (h:tol≤1000):
  (wantF now tol k tg len X=now∨wantF now tol k tg len X=podF k tg len X)∧(wantF now 1000 k tg len X=now∨wantF now 1000 k tg len X=podF k tg len X)∧
  (wantF now tol k tg len X≠now∨now=0∨wantF now 1000 k tg len X=now∨podF k tg len X=now):=by
 unfold wantF;by_cases h0:now=0
 ·simp [h0]
 ·by_cases h1:nearF (metF k len X) (mulc (clip now) (clip tg)) tol=true
  ·have h2:=near_all h h1;simp [h0,h1,h2]
  ·by_cases h2:nearF (metF k len X) (mulc (clip now) (clip tg)) 1000=true
   ·simp [h0,h1,h2]
   ·simp [h0,h1,h2];by_cases h3:podF k tg len X=now
    ·exact Or.inr h3
    ·exact Or.inl h3
end Ned
namespace Cal
variable {y m d:Int}

def lpB (y:Int):Bool:=decide (y%4=0∧(y%100≠0∨y%400=0))
def lp (y:Int):Int:=if y%4=0∧(y%100≠0∨y%400=0)then 1 else 0
def dim (y m:Int):Int:=if m=2 then 28+lp y else if m=4∨m=6∨m=9∨m=11 then 30 else 31
/-- days of the months ahead of m -/
def cum (y m:Int):Int:=
  if m≤1 then 0 else if m=2 then 31 else lp y+
    (if m = 3 then 59 else if m = 4 then 90 else if m = 5 then 120 else if m = 6 then 151 else if m = 7 then 181
     else if m=8 then 212 else if m=9 then 243 else if m=10 then 273 else if m=11 then 304 else if m=12 then 334 else 365)
/-- days from the beginning of -4000 to that of y -/
def ys (y:Int):Int:=365*(y+4000)+(y+4003)/4-(y+4099)/100+(y+4399)/400
def num (y m d:Int):Int:=ys y+cum y m+d-1-2180498
def vldB (y m d:Int):Bool:=decide (-4000≤y∧y≤8000∧1≤m∧m≤12∧1≤d∧d≤dim y m)

theorem lpB_lp (y:Int):lp y=if lpB y=true then 1 else 0:=by unfold lp lpB;simp
theorem lp_01 (y:Int):0≤lp y∧lp y≤1:=by unfold lp;split<;>omega
theorem dim_bd (y m:Int):28≤dim y m∧dim y m≤31:=by
  have:=lp_01 y;unfold dim;repeat' split
  all_goals omega
theorem cum_one (y:Int):cum y 1=0:=by simp [cum]
theorem cum_last (y:Int):cum y 13=365+lp y:=by simp [cum];omega
theorem cum_succ (y m:Int) (h1:1≤m) (h2:m≤12):cum y (m+1)=cum y m+dim y m:=by
  have:m=1∨m=2∨m=3∨m=4∨m=5∨m=6∨m=7∨m=8∨m=9∨m=10∨m=11∨m=12:=by omega
  rcases this with rfl|rfl|rfl|rfl|rfl|rfl|rfl|rfl|rfl|rfl|rfl|rfl<;>simp [cum,dim]<;>omega
theorem cum_bd (y m:Int):0≤cum y m∧cum y m≤366:=by
  have:=lp_01 y;unfold cum;repeat' split
  all_goals omega
theorem cum_mono (y a b:Int) (h1:1≤a) (h:a<b) (h2:b≤13):cum y a+dim y a≤cum y b:=by
  have hl:=lp_01 y;have ha:=cum_succ y a h1 (by omega);rw [←ha];unfold cum;repeat' split
  all_goals omega
theorem ys_succ (y:Int):ys (y+1)=ys y+365+lp y:=by
  unfold ys lp;split<;>omega
theorem ys_mono (a b:Int) (h:a≤b):ys a≤ys b:=by unfold ys;omega
theorem ys_bd (y:Int) (h1: -4000≤y) (h2:y≤9000):0≤ys y∧ys y≤4800000:=by unfold ys;omega
theorem ys_1970:ys 1970=2180498:=by decide
theorem ys_first:ys (-4000)=0:=by decide

theorem vld_iff (y m d:Int):vldB y m d=true↔(-4000≤y∧y≤8000∧1≤m∧m≤12∧1≤d∧d≤dim y m):=by unfold vldB;simp
theorem vld_mk (h: -4000≤y∧y≤8000∧1≤m∧m≤12∧1≤d∧d≤dim y m):vldB y m d=true:=(vld_iff _ _ _).2 h

/-- the last day of a date lies within its year -/
theorem in_year (y m d:Int) (h:1≤m∧m≤12∧1≤d∧d≤dim y m):0≤cum y m+d-1∧cum y m+d-1<365+lp y:=by
  have h1:=cum_bd y m;have h2:=cum_mono y m 13 h.1 (by omega) (by omega);rw [cum_last]at h2;omega

theorem date_one {y' m' d':Int} (h:1≤m∧m≤12∧1≤d∧d≤dim y m) (h':1≤m'∧m'≤12∧1≤d'∧d'≤dim y' m')
    (e:ys y+cum y m+d=ys y'+cum y' m'+d'):y=y'∧m=m'∧d=d':=by
  have i1:=in_year y m d h;have i2:=in_year y' m' d' h';have s1:=ys_succ y;have s2:=ys_succ y';have hy:y=y':=by
    by_cases c:y<y'
    · have:=ys_mono (y+1) y' (by omega);omega
    · by_cases c':y'<y
      · have:=ys_mono (y'+1) y (by omega);omega
      · omega
  subst hy;have hm:m=m':=by
    by_cases c:m<m'
    · have:=cum_mono y m m' h.1 c (by omega);omega
    · by_cases c':m'<m
      · have:=cum_mono y m' m h'.1 c' (by omega);omega
      · omega
  subst hm;exact⟨rfl,rfl,by omega⟩

/-- the first guess of a year is off by one at the most -/
theorem guess_low (n:Int):ys (-4000+n*400/146097-1)≤n:=by unfold ys;omega
theorem guess_high (n:Int):n<ys (-4000+n*400/146097+1+1):=by unfold ys;omega

theorem num_bd (y m d:Int) (h:vldB y m d=true): -2180498≤num y m d∧num y m d≤2202777:=by
  obtain⟨h1,h2,h3,h4,h5,h6⟩:=(vld_iff _ _ _).1 h;have i1:=in_year y m d ⟨h3,h4,h5,h6⟩;have a:=ys_mono (-4000) y h1;have b:=ys_mono (y+1) 8001 (by omega);have c:=ys_succ y;have e1:ys (-4000)=0:=by decide
  have e2:ys 8001=4383276:=by decide
  unfold num;omega

/-- the date that is n days behind the beginning of -4000 -/
def yr (n:Int):Int:=
  if n<ys (-4000+n*400/146097)then-4000+n*400/146097-1
  else if ys (-4000+n*400/146097+1)≤n then-4000+n*400/146097+1 else-4000+n*400/146097
def moR (l r:Int):Int:=
  if r<31 then 1 else if r<59+l then 2 else if r<90+l then 3 else if r<120+l then 4 else if r<151+l then 5
  else if r<181+l then 6 else if r<212+l then 7 else if r<243+l then 8 else if r<273+l then 9
  else if r<304+l then 10 else if r<334+l then 11 else 12
def mo (n:Int):Int:=moR (lp (yr n)) (n-ys (yr n))
def dy (n:Int):Int:=n-ys (yr n)-cum (yr n) (mo n)+1

theorem yr_spec (n:Int):ys (yr n)≤n∧n<ys (yr n+1):=by
  have h1:=guess_low n;have h2:=guess_high n;unfold yr;split
  · rename_i c
    rw [show-4000+n*400/146097-1+1= -4000+n*400/146097 by omega];exact⟨h1,c⟩
  · split
    · rename_i c;exact⟨c,h2⟩
    · exact⟨by omega,by omega⟩
theorem mo_spec (y r:Int) (h1:0≤r) (h2:r<365+lp y):1≤moR (lp y) r∧moR (lp y) r≤12∧cum y (moR (lp y) r)≤r∧r<cum y (moR (lp y) r)+dim y (moR (lp y) r):=by
  have hl:=lp_01 y;unfold moR;repeat' split
  all_goals simp [cum,dim]
  all_goals omega
theorem date_spec (n:Int):1≤mo n∧mo n≤12∧1≤dy n∧dy n≤dim (yr n) (mo n)∧ys (yr n)+cum (yr n) (mo n)+dy n-1=n:=by
  have h:=yr_spec n;rw [ys_succ]at h;have m:=mo_spec (yr n) (n-ys (yr n)) (by omega) (by omega);have e:mo n=moR (lp (yr n)) (n-ys (yr n)):=rfl;rw [←e]at m;refine⟨m.1,m.2.1,?_,?_,?_⟩;all_goals(unfold dy;omega)
theorem date_is {n:Int} (h:1≤m∧m≤12∧1≤d∧d≤dim y m) (e:ys y+cum y m+d-1=n):yr n=y∧mo n=m∧dy n=d:=by
  have s:=date_spec n;exact date_one ⟨s.1,s.2.1,s.2.2.1,s.2.2.2.1⟩ h (by omega)
theorem yr_bd (n:Int) (h1:0≤n) (h2:n≤4000000): -4000≤yr n∧yr n≤7000:=by
  have s:=yr_spec n;have a: -4000≤yr n:=by
    by_cases c:yr n< -4000
    · have:=ys_mono (yr n+1) (-4000) (by omega)
      have z:=ys_first;omega
    · omega
  refine⟨a,?_⟩;by_cases c:7000<yr n
  · have:=ys_mono 7001 (yr n) (by omega)
    have z:ys 7001=4018033:=(by decide);omega
  · omega
end Cal
namespace Que
open Go.RowKit
variable {k i:Nat} {id last:Int}

structure M where
 id:Int
 till:Int
 tk:Bool
def cel (m:M):List Value:=[.int .i64 m.id,.int .i64 m.till,.bool m.tk]
def cels (L:List M):List Value:=L.flatMap cel
theorem cels_cons (m:M) (L:List M):cels (m::L)=.int .i64 m.id:: .int .i64 m.till:: .bool m.tk::cels L:=rfl
theorem cels_append (A B:List M):cels (A++B)=cels A++cels B:=by simp [cels,List.flatMap_append]
theorem cels_len: ∀L:List M,(cels L).length=L.length*3
 | []=>rfl
 |m::L=>by rw [cels_cons];simp only [Xr];rw [cels_len L];omega
theorem cels_get: ∀(L:List M) (i:Nat) (m:M),L[i]? =some m→(cels L)[i*3]? =some (.int .i64 m.id)∧(cels L)[i*3+1]? =some (.int .i64 m.till)∧(cels L)[i*3+2]? =some (.bool m.tk)
 | [],i,m,h=>by simp at h
 |x::L,0,m,h=>by simp at h;subst h;simp [cels_cons]
 |x::L,i+1,m,h=>by
  have:=cels_get L i m (by simpa using h)
  rw [cels_cons,show(i+1)*3=i*3+1+1+1 by omega]
  simpa using this
theorem cels_set: ∀(L:List M) (i:Nat) (a b:Int) (c:Bool),i<L.length→cels (L.set i ⟨a,b,c⟩)=(((cels L).set (i*3) (.int .i64 a)).set (i*3+1) (.int .i64 b)).set (i*3+2) (.bool c)
 | [],i,a,b,c,h=>by simp at h
 |x::L,0,a,b,c,h=>by simp [cels_cons]
 |x::L,i+1,a,b,c,h=>by
  rw [List.set_cons_succ,cels_cons,cels_cons,cels_set L i a b c (by simpa using h),show(i+1)*3=i*3+1+1+1 by omega]
  simp
theorem cels_set2 (L:List M) (i:Nat) (m:M) (b:Int) (c:Bool) (h:L[i]? =some m):cels (L.set i ⟨m.id,b,c⟩)=((cels L).set (i*3+2) (.bool c)).set (i*3+1) (.int .i64 b):=by
 have hi:i<L.length:=(Xe.1 h).1;rw [cels_set L i m.id b c hi];have h0:=(cels_get L i m h).1;have e0:(cels L).set (i*3) (.int .i64 m.id)=cels L:=by
  apply Yo;intro j;rw [List.getElem?_set];split
  ·rename_i e;subst e;split
   ·exact h0.symm
   ·rename_i g;rw [YB (by omega)]
  ·rfl
 rw [e0,List.set_comm _ _ (by omega)]
theorem cels_take: ∀(L:List M) (i:Nat),cels (L.take i)=(cels L).take (i*3)
 | [],i=>by simp [cels]
 |x::L,0=>by simp [cels]
 |x::L,i+1=>by
  rw [List.take_succ_cons,cels_cons,cels_cons,cels_take L i,show(i+1)*3=i*3+1+1+1 by omega]
  simp
theorem cels_drop: ∀(L:List M) (i:Nat),cels (L.drop i)=(cels L).drop (i*3)
 | [],i=>by simp [cels]
 |x::L,0=>by simp
 |x::L,i+1=>by
  rw [List.drop_succ_cons,cels_cons,cels_drop L i,show(i+1)*3=i*3+1+1+1 by omega]
  simp
theorem cels_one (L:List M): ∀u∈cels L,u.oneCell'=true:=by
 intro u hu;simp only [cels,List.mem_flatMap]at hu;obtain⟨m,_,hm⟩:=hu;simp [cel]at hm;rcases hm with rfl|rfl|rfl<;>rfl

def back (now:Int) (m:M):M:=if m.tk=true∧m.till≤now then⟨m.id,0,false⟩else m
def backL (now:Int) (L:List M):List M:=L.map (back now)
theorem backL_len (now:Int) (L:List M):(backL now L).length=L.length:=by simp [backL]
theorem back_id (now:Int) (m:M):(back now m).id=m.id:=by unfold back;split<;>rfl
def half (f:M→M) (L:List M) (k:Nat):List M:=(L.take k).map f++L.drop k
theorem half_len (f:M→M) (L:List M) (k:Nat):(half f L k).length=L.length:=by simp [half];omega
theorem half_zero (f:M→M) (L:List M):half f L 0=L:=by simp [half]
theorem half_all (f:M→M) (L:List M):half f L L.length=L.map f:=by simp [half]
theorem half_get (f:M→M) (L:List M) (k:Nat) (m:M) (h:L[k]? =some m):(half f L k)[k]? =some m:=by
 have hk:k<L.length:=(Xe.1 h).1;have hl:((L.take k).map f).length=k:=by simp;omega
 unfold half;rw [Yh (by omega),hl,Nat.sub_self,Yk];simpa using h
theorem half_step (f:M→M) (L:List M) (k:Nat) (m:M) (h:L[k]? =some m):(half f L k).set k (f m)=half f L (k+1):=by
 have hk:k<L.length:=(Xe.1 h).1;have hl:((L.take k).map f).length=k:=by simp;omega
 have hd:L.drop k=m::L.drop (k+1):=by
  rw [Yn hk];rw [Xz hk]at h;cases h;rfl
 unfold half;rw [List.set_append_right _ _ (by omega),hl,Nat.sub_self,hd,List.set_cons_zero,XB,h];simp
theorem half_same (f:M→M) (L:List M) (k:Nat) (m:M) (h:L[k]? =some m) (hf:f m=m):half f L k=half f L (k+1):=by
 rw [←half_step f L k m h,hf];have:=half_get f L k m h;apply Yo;intro j;rw [List.getElem?_set];split
 ·rename_i e;subst e;split
  ·exact this
  ·rename_i g;rw [YB (by omega)]
 ·rfl

theorem find_at {p:M→Bool} {L:List M} {m:M} (h: ∀j,j<k→ ∀x,L[j]? =some x→p x=false) (hk:L[k]? =some m) (hp:p m=true):L.findIdx? p=some k:=by
 obtain⟨hlt,hm⟩:=Xe.1 hk;rw [Yv];refine⟨hlt,by rw [hm];exact hp,fun j hj=> ?_⟩;have:=h j hj L[j] (by simp);simp [this]
theorem find_no {p:M→Bool} {L:List M} (h: ∀j,j<L.length→ ∀x,L[j]? =some x→p x=false):L.findIdx? p=none:=by
 rw [List.findIdx?_eq_none_iff];intro x hx;obtain⟨j,hj⟩:=Yr.1 hx;exact h j (Xe.1 hj).1 x hj
theorem find_get {p:M→Bool} {L:List M} (h:L.findIdx? p=some k): ∃m,L[k]? =some m∧p m=true:=by
 obtain⟨hlt,hm,_⟩:=Yv.1 h;exact⟨L[k],by simp,hm⟩
def idxV:Option Nat→Int
 |none=> -1
 |some k=>k
def free (m:M):Bool:= !m.tk
def isId (id:Int) (m:M):Bool:=m.id==id
def depth (L:List M):Nat:=L.countP free
theorem depth_step {L:List M} {m:M} (h:L[k]? =some m):depth (L.take (k+1))=depth (L.take k)+if free m then 1 else 0:=by
 unfold depth;rw [XB,h,List.countP_append];simp [Yp]
theorem depth_le (L:List M):depth L≤L.length:=Yw

def news (last:Int) (n:Nat):List M:=(List.range n).map fun(i:Nat)=>⟨last+1+(i:Int),0,false⟩
theorem news_len (last:Int) (n:Nat):(news last n).length=n:=by simp [news]
theorem news_step (last:Int) (n:Nat):news last n++ [⟨last+1+(n:Int),0,false⟩]=news last (n+1):=by
 unfold news;rw [List.range_succ,X2];rfl
theorem news_zero (last:Int):news last 0=[]:=rfl

def keepP (id:Int) (m:M):Bool:= !(m.id==id&&m.tk)
def ackE (id:Int) (L:List M):Int:=L.foldl (fun e m=>if m.id==id then(if m.tk then 0 else 7)else e) 4
def ackL (id:Int) (L:List M):List M:=L.filter (keepP id)
theorem ackE_step {L:List M} {m:M} (h:L[k]? =some m):ackE id (L.take (k+1))=if m.id==id then(if m.tk then 0 else 7)else ackE id (L.take k):=by
 unfold ackE;rw [XB,h,List.foldl_append];simp
theorem ackL_step {L:List M} {m:M} (h:L[k]? =some m):ackL id (L.take (k+1))=ackL id (L.take k)++if keepP id m then [m]else []:=by
 unfold ackL;rw [XB,h,List.filter_append];congr 1;cases hk:keepP id m<;>simp [hk]
theorem ackL_le (id:Int) (L:List M):(ackL id L).length≤L.length:=List.length_filter_le _ _

def ids (L:List M):List Int:=L.map M.id
theorem ids_back (now:Int) (L:List M):ids (backL now L)=ids L:=by
 unfold ids backL;rw [List.map_map];congr 1;funext m;exact back_id now m

theorem ackE_no {id:Int} : ∀ {L:List M} (e:Int),(∀m∈L,m.id≠id)→L.foldl (fun e m=>if m.id==id then(if m.tk then 0 else 7)else e) e=e
 | [],e,_=>rfl
 |m::L,e,h=>by
  have h1:(m.id==id)=false:=by simpa using h m (by simp)
  rw [List.foldl_cons,h1]
  simp only [XU,if_false]
  exact ackE_no e (fun x hx=>h x (by simp [hx]))
theorem ackL_no {L:List M} (h: ∀m∈L,m.id≠id):ackL id L=L:=by
 unfold ackL;rw [List.filter_eq_self];intro m hm;have:(m.id==id)=false:=by simpa using h m hm
 simp [keepP,this]
theorem ack_none {L:List M} (h:L.findIdx? (isId id)=none):ackE id L=4∧ackL id L=L:=by
 rw [List.findIdx?_eq_none_iff]at h;have h': ∀m∈L,m.id≠id:=fun m hm e=>by have:=h m hm;simp [isId,e]at this
 exact⟨ackE_no 4 h',ackL_no h'⟩
theorem split_at {L:List M} {m:M} (h:L[i]? =some m):L=L.take i++m::L.drop (i+1):=by
 obtain⟨hlt,hm⟩:=Xe.1 h;conv=>lhs;rw [←Yz i L]
 rw [Yn hlt,hm]
theorem erase_at {L:List M} :L.eraseIdx i=L.take i++L.drop (i+1):=List.eraseIdx_eq_take_drop_succ ..
theorem ack_some {L:List M} {m:M} (hn:(ids L).Nodup) (h:L.findIdx? (isId id)=some i) (hm:L[i]? =some m):
  (m.tk=true→ackE id L=0∧ackL id L=L.eraseIdx i)∧(m.tk=false→ackE id L=7∧ackL id L=L):=by
 obtain⟨m',hm',hp⟩:=find_get h;rw [hm]at hm';cases hm';have hid:m.id=id:=by simpa [isId]using hp
 have hs:=split_at hm;have hn2:(ids (L.take i++m::L.drop (i+1))).Nodup:=hs▸hn;unfold ids at hn2;rw [X2,XV,List.nodup_append]at hn2;obtain⟨_,hB,hAB⟩:=hn2;have hA: ∀x∈L.take i,x.id≠id:=fun x hx e=>hAB x.id (List.mem_map_of_mem hx) m.id (by simp) (by rw [e,hid]);have hD: ∀x∈L.drop (i+1),x.id≠id:=fun x hx e=>by
  have:=(List.nodup_cons.1 hB).1;exact this (by rw [hid,←e];exact List.mem_map_of_mem hx)
 have e1:ackE id L=if m.tk then 0 else 7:=by
  unfold ackE;conv=>lhs;rw [hs]
  rw [List.foldl_append,List.foldl_cons,ackE_no 4 hA,ackE_no _ hD];simp [hid]
 have e2:ackL id L=L.take i++(if keepP id m then [m]else [])++L.drop (i+1):=by
  conv=>lhs;rw [hs]
  have a1:=ackL_no hA;have a2:=ackL_no hD;unfold ackL at a1 a2⊢;rw [List.filter_append,List.filter_cons,a1,a2];split<;>simp
 constructor
 ·intro ht;rw [e1,e2,ht,erase_at];simp [keepP,hid,ht]
 ·intro ht;rw [e1,e2,ht];refine⟨rfl,?_⟩;conv=>rhs;rw [hs]
  simp [keepP,hid,ht]

structure Inv (L:List M) (last:Int):Prop where
 nd:(ids L).Nodup
 len:L.length≤200
 bd: ∀m∈L,1≤m.id∧m.id≤last∧0≤m.till∧m.till≤1099511727776
 l0:0≤last
theorem Inv.nil:Inv [] 0:=⟨by simp [ids],by simp,by simp,by omega⟩
theorem Inv.back {L:List M} {last:Int} (h:Inv L last) (now:Int):Inv (backL now L) last:=by
 refine⟨by rw [ids_back];exact h.nd,by rw [backL_len];exact h.len,fun m hm=> ?_,h.l0⟩;obtain⟨x,hx,rfl⟩:=XS.1 hm;have:=h.bd x hx;unfold Que.back;split
 ·simp only;omega
 ·omega
theorem mem_set {L:List M} {m x:M} (h:x∈L.set i m):x=m∨x∈L:=by
 rcases List.mem_or_eq_of_mem_set h with h|h
 ·exact Or.inr h
 ·exact Or.inl h
theorem ids_set {L:List M} {m:M} {b:Int} {c:Bool} (h:L[i]? =some m):ids (L.set i ⟨m.id,b,c⟩)=ids L:=by
 unfold ids;rw [List.map_set];apply Yo;intro j;rw [List.getElem?_set];split
 ·rename_i e;subst e;split
  ·simp [h]
  ·rename_i g;rw [YB (by omega)]
 ·rfl
theorem Inv.set {L:List M} {last:Int} (h:Inv L last) {i:Nat} {m:M} {b:Int} {c:Bool} (hm:L[i]? =some m) (hb:0≤b∧b≤1099511727776):Inv (L.set i ⟨m.id,b,c⟩) last:=by
 refine⟨by rw [ids_set hm];exact h.nd,by simpa using h.len,fun x hx=> ?_,h.l0⟩;rcases mem_set hx with rfl|hx
 ·have:=h.bd m (Xk hm);simp only;omega
 ·exact h.bd x hx
theorem Inv.erase {L:List M} (h:Inv L last) (i:Nat):Inv (L.eraseIdx i) last:=by
 have hs:=List.eraseIdx_sublist L i;refine⟨?_,Xc hs.length_le h.len,fun m hm=>h.bd m (hs.subset hm),h.l0⟩;exact(hs.map M.id).nodup h.nd
theorem Inv.put {L:List M} (h:Inv L last) {n:Nat} (hn:L.length+n≤200):Inv (L++news last n) (last+n):=by
 have hid:ids (news last n)=(List.range n).map fun(i:Nat)=>last+1+(i:Int):=by simp [ids,news,Function.comp_def]
 have h0:=h.l0;refine⟨?_,by rw [Xg,news_len];exact hn,fun m hm=> ?_,by omega⟩
 ·have:ids (L++news last n)=ids L++ids (news last n):=by simp [ids]
  rw [this,List.nodup_append];refine⟨h.nd,?_,fun a ha b hb e=> ?_⟩
  ·rw [hid];refine List.Pairwise.map _ (fun a b hab=> ?_) List.nodup_range;omega
  ·rw [hid]at hb;obtain⟨i,_,rfl⟩:=XS.1 hb;obtain⟨m,hm,rfl⟩:=XS.1 ha;have:=h.bd m hm;omega
 ·rcases Xp.1 hm with hm|hm
  ·have:=h.bd m hm;omega
  ·unfold news at hm;obtain⟨i,hi,rfl⟩:=XS.1 hm;have:=List.mem_range.1 hi;simp only;omega
end Que
namespace Top
open Go.RowKit
variable {B i cap:Nat} {e:TypeId} {xs:List Value}

def upd (X:Nat→Int) (i:Nat) (x:Int):Nat→Int:=fun j=>if j=i then x else X j
theorem upd_same (X:Nat→Int) (i:Nat) (x:Int):upd X i x i=x:=by simp [upd]
theorem upd_other (X:Nat→Int) (i j:Nat) (x:Int) (h:j≠i):upd X i x j=X j:=by simp [upd,h]

def Row1 (w:World) (G n:Nat) (X:Nat→Int):Prop:=G<w.heap.size∧(∀i,i<n→w.cell? ⟨G,i,none⟩=some (.int .i64 (X i)))∧ ∀j,w.frozen? ⟨G,j,none⟩=false
def Row2 (w:World) (G n:Nat) (E O:Nat→Int):Prop:=G<w.heap.size∧(∀i,i<n→w.cell? ⟨G,i*2,none⟩=some (.int .i64 (E i))∧w.cell? ⟨G,i*2+1,none⟩=some (.int .i64 (O i)))∧ ∀j,w.frozen? ⟨G,j,none⟩=false

section
variable {w w' : World} {G n : Nat} {X E O : Nat → Int}

theorem Row1.kept (h:Row1 w G n X) (hb:w'.heap[G]? =w.heap[G]?):Row1 w' G n X:=by
 obtain⟨h0,h1,h2⟩:=h;refine⟨?_,fun i hi=> ?_,fun j=> ?_⟩
 ·rw [X7 h0]at hb;exact(XM.1 hb).1
 ·rw [Xf (w:=w) (a:=⟨G,i,none⟩) hb];exact h1 i hi
 ·rw [Xl (w:=w) (a:=⟨G,j,none⟩) hb];exact h2 j
theorem Row2.kept (h:Row2 w G n E O) (hb:w'.heap[G]? =w.heap[G]?):Row2 w' G n E O:=by
 obtain⟨h0,h1,h2⟩:=h;refine⟨?_,fun i hi=>⟨?_,?_⟩,fun j=> ?_⟩
 ·rw [X7 h0]at hb;exact(XM.1 hb).1
 ·rw [Xf (w:=w) (a:=⟨G,i*2,none⟩) hb];exact(h1 i hi).1
 ·rw [Xf (w:=w) (a:=⟨G,i*2+1,none⟩) hb];exact(h1 i hi).2
 ·rw [Xl (w:=w) (a:=⟨G,j,none⟩) hb];exact h2 j

theorem Row1.below (h:Row1 w G n X) (hb:Below B w w') (hG:G<B):Row1 w' G n X:=h.kept (hb.block G hG)
theorem Row2.below (h:Row2 w G n E O) (hb:Below B w w') (hG:G<B):Row2 w' G n E O:=h.kept (hb.block G hG)
theorem Row1.lt (h:Row1 w G n X):G<w.heap.size:=h.1
theorem Row2.lt (h:Row2 w G n E O):G<w.heap.size:=h.1
theorem Row1.drew (h:Row1 w G n X):Row1 w.drew G n X:=h.kept rfl
theorem Row2.drew (h:Row2 w G n E O):Row2 w.drew G n E O:=h.kept rfl
theorem Row1.alloc (h:Row1 w G n X) (o:Obj):Row1 (w.alloc o) G n X:=h.kept (Below.heap_alloc w o G h.1)
theorem Row2.alloc (h:Row2 w G n E O) (o:Obj):Row2 (w.alloc o) G n E O:=h.kept (Below.heap_alloc w o G h.1)
theorem Row1.apart (h:Row1 w G n X) (a:Addr) (u:Value) (hne:G≠a.block):Row1 (w.setCell a u) G n X:=h.kept (Below.heap_setCell w a u G hne)
theorem Row2.apart (h:Row2 w G n E O) (a:Addr) (u:Value) (hne:G≠a.block):Row2 (w.setCell a u) G n E O:=h.kept (Below.heap_setCell w a u G hne)
theorem size_setCell (a:Addr) (u:Value):(w.setCell a u).heap.size=w.heap.size:=by simp [World.setCell]

theorem off_ne {a b:Nat} (h:a≠b):(⟨G,a,none⟩:Addr)≠⟨G,b,none⟩:=fun e=>h (by cases e;rfl)

theorem Row1.set (h:Row1 w G n X) (hi:i<n) (x:Int):Row1 (w.setCell ⟨G,i,none⟩ (.int .i64 x)) G n (upd X i x):=by
 obtain⟨h0,h1,h2⟩:=h;refine⟨by rw [size_setCell];exact h0,fun j hj=> ?_,fun j=>by rw [Xi];exact h2 j⟩;by_cases e:j=i
 ·subst e;rw [upd_same];exact Xn _ _ _ (h1 j hj)
 ·rw [upd_other _ _ _ _ e,Xd (h:=off_ne (Ne.symm e))];exact h1 j hj
theorem Row2.setE (h:Row2 w G n E O) (hi:i<n) (x:Int):Row2 (w.setCell ⟨G,i*2,none⟩ (.int .i64 x)) G n (upd E i x) O:=by
 obtain⟨h0,h1,h2⟩:=h;refine⟨by rw [size_setCell];exact h0,fun j hj=>⟨?_,?_⟩,fun j=>by rw [Xi];exact h2 j⟩
 ·by_cases e:j=i
  ·subst e;rw [upd_same];exact Xn _ _ _ (h1 j hj).1
  ·rw [upd_other _ _ _ _ e,Xd (h:=off_ne (by omega))];exact(h1 j hj).1
 ·rw [Xd (h:=off_ne (by omega))];exact(h1 j hj).2
theorem Row2.setO (h:Row2 w G n E O) (hi:i<n) (x:Int):Row2 (w.setCell ⟨G,i*2+1,none⟩ (.int .i64 x)) G n E (upd O i x):=by
 obtain⟨h0,h1,h2⟩:=h;refine⟨by rw [size_setCell];exact h0,fun j hj=>⟨?_,?_⟩,fun j=>by rw [Xi];exact h2 j⟩
 ·rw [Xd (h:=off_ne (by omega))];exact(h1 j hj).1
 ·by_cases e:j=i
  ·subst e;rw [upd_same];exact Xn _ _ _ (h1 j hj).2
  ·rw [upd_other _ _ _ _ e,Xd (h:=off_ne (by omega))];exact(h1 j hj).2

theorem Row1.ext (h:Row1 w G n X) {Y:Nat→Int} (e: ∀i,i<n→Y i=X i):Row1 w G n Y:=⟨h.1,fun i hi=>by rw [e i hi];exact h.2.1 i hi,h.2.2⟩

theorem Row1.of_owns {base:Nat} (h:w.ownsRow base e 1 (.slice (some ⟨G,0,none⟩) n cap) n xs) (hx: ∀i,i<n→xs[i]? =some (.int .i64 (X i))):Row1 w G n X:=
 ⟨(h.lt G rfl).2,fun i hi=>by rw [h.cellAt i (by omega)];exact hx i hi,fun j=>h.frozenAt j⟩
theorem Row2.of_owns {base:Nat} (h:w.ownsRow base e 2 (.slice (some ⟨G,0,none⟩) n cap) n xs)
  (hx: ∀i,i<n→xs[i*2]? =some (.int .i64 (E i))∧xs[i*2+1]? =some (.int .i64 (O i))):Row2 w G n E O:=
 ⟨(h.lt G rfl).2,fun i hi=>⟨by rw [h.cellAt (i*2) (by omega)];exact(hx i hi).1,by rw [h.cellAt (i*2+1) (by omega)];exact(hx i hi).2⟩,fun j=>h.frozenAt j⟩
end
end Top
namespace Mm
open Go.RowKit
variable {k j:Nat}

structure Mv (b b':Nat→Prop) (w w':World):Prop where
 os:w'.os=w.os
 tape:w'.tape=w.tape
 output:w'.output=w.output
 size:w.heap.size≤w'.heap.size
 block: ∀k,k<w.heap.size→ ¬b k→w'.heap[k]? =w.heap[k]?
 loc: ∀k,b' k→b k∨w.heap.size≤k
section
variable {w w' w'' : World} {b b' b'' : Nat → Prop}
theorem Mv.refl (b:Nat→Prop) (w:World):Mv b b w w:=⟨rfl,rfl,rfl,Xa _,fun _ _ _=>rfl,fun _ h=>Or.inl h⟩
theorem Mv.trans (h:Mv b b' w w') (g:Mv b' b'' w' w''):Mv b b'' w w'':=by
 refine⟨g.os.trans h.os,g.tape.trans h.tape,g.output.trans h.output,Xc h.size g.size,fun k hk hn=> ?_,fun k hk=> ?_⟩
 ·refine(g.block k (Xb hk h.size) (fun e=> ?_)).trans (h.block k hk hn);rcases h.loc k e with a|a
  ·exact hn a
  ·omega
 ·rcases g.loc k hk with a|a
  ·exact h.loc k a
  ·exact Or.inr (Xc h.size a)
theorem Mv.of_below (hb:Below w.heap.size w w'):Mv b b w w':=⟨hb.os,hb.tape,hb.output,hb.size,fun k hk _=>hb.block k hk,fun _ h=>Or.inl h⟩
theorem Mv.drew (h:Mv b b' w w'):Mv b b' w w'.drew:=⟨h.os,h.tape,h.output,h.size,h.block,h.loc⟩
theorem Mv.set (h:b k) (u:Value):Mv b b w (w.setCell ⟨k,j,none⟩ u):=
 ⟨rfl,rfl,rfl,by simp,fun i _ hn=>Below.heap_setCell w ⟨k,j,none⟩ u i (fun e=>hn (e▸h)),fun _ h=>Or.inl h⟩
theorem Mv.below {n:Nat} (h:Mv b b' w w') (hb: ∀k,b k→n≤k) (hn:n≤w.heap.size):Below n w w':=
 ⟨h.os,h.tape,h.output,h.size,fun k hk=>h.block k (by omega) (fun e=>by have:=hb k e;omega)⟩
theorem Mv.off (h:Mv b b' w w') (hk:k<w.heap.size) (hn: ¬b k): ¬b' k:=fun e=>by
 rcases h.loc k e with a|a
 ·exact hn a
 ·omega
theorem Mv.cell {C j:Nat} {v:Value} (m:Mv b b' w w') (h:w.cell? ⟨C,j,none⟩=some v) (hn: ¬b C):w'.cell? ⟨C,j,none⟩=some v:=
 (Xf (w:=w) (a:=⟨C,j,none⟩) (m.block C (Xj w _ h) hn)).trans h
theorem Mv.as {c c':Nat→Prop} (m:Mv b b' w w') (h: ∀k,b k↔c k) (h': ∀k,b' k↔c' k):Mv c c' w w':=
 ⟨m.os,m.tape,m.output,m.size,fun k hk hn=>m.block k hk (fun e=>hn ((h k).1 e)),fun k hk=>(m.loc k ((h' k).2 hk)).imp (h k).1 id⟩
end
theorem bdrew (w:World):Below w.heap.size w w.drew:=⟨rfl,rfl,rfl,Xa _,fun _ _=>rfl⟩
structure Fam (B I:Nat) (b:Nat→Nat→Prop) (w:World):Prop where
 lt: ∀i k,i<I→b i k→B≤k∧k<w.heap.size
 ap: ∀i j k,i<I→j<I→i≠j→b i k→ ¬b j k
def upd (b:Nat→Nat→Prop) (i:Nat) (c:Nat→Prop):Nat→Nat→Prop:=fun j=>if j=i then c else b j
section
variable {w w' : World} {B I i : Nat} {b : Nat → Nat → Prop} {c : Nat → Prop}
theorem upd_same (b:Nat→Nat→Prop) (i:Nat) (c:Nat→Prop):upd b i c i=c:=by simp [upd]
theorem upd_other (b:Nat→Nat→Prop) (c:Nat→Prop) {i:Nat} (h:j≠i):upd b i c j=b j:=by simp [upd,h]
theorem Fam.step (h:Fam B I b w) (hB:B≤w.heap.size) (hi:i<I) (m:Mv (b i) c w w') (hc: ∀k,c k→k<w'.heap.size):Fam B I (upd b i c) w':=by
 refine⟨fun j k hj hk=> ?_,fun j l k hj hl hne hk hn=> ?_⟩
 ·by_cases e:j=i
  ·subst e;rw [upd_same]at hk;refine⟨?_,hc k hk⟩;rcases m.loc k hk with a|a
   ·exact(h.lt j k hj a).1
   ·omega
  ·rw [upd_other b c e]at hk;exact⟨(h.lt j k hj hk).1,Xb (h.lt j k hj hk).2 m.size⟩
 ·by_cases ej:j=i
  ·subst ej;rw [upd_same]at hk;rw [upd_other b c (Ne.symm hne)]at hn;rcases m.loc k hk with a|a
   ·exact h.ap j l k hj hl hne a hn
   ·have:=(h.lt l k hl hn).2;omega
  ·rw [upd_other b c ej]at hk;by_cases el:l=i
   ·subst el;rw [upd_same]at hn;rcases m.loc k hn with a|a
    ·exact h.ap j l k hj hl hne hk a
    ·have:=(h.lt j k hj hk).2;omega
   ·rw [upd_other b c el]at hn;exact h.ap j l k hj hl hne hk hn
theorem Fam.keep (h:Fam B I b w) (hi:i<I) (m:Mv (b i) c w w') (hj:j<I) (hne:j≠i): ∀k,b j k→w'.heap[k]? =w.heap[k]? :=
 fun k hk=>m.block k (h.lt j k hj hk).2 (fun e=>h.ap j i k hj hi hne hk e)
theorem Fam.low (h:Fam B I b w) (hB:B≤w.heap.size) (hi:i<I) (m:Mv (b i) c w w'):Below B w w':=m.below (fun k hk=>(h.lt i k hi hk).1) hB
theorem Fam.below (h:Fam B I b w) (hb:Below w.heap.size w w'):Fam B I b w':=⟨fun i k hi hk=>⟨(h.lt i k hi hk).1,Xb (h.lt i k hi hk).2 hb.size⟩,h.ap⟩
theorem Fam.up (h:Fam B I b w) (hk:w.heap.size≤k) {i:Nat} (hi:i<I): ¬b i k:=fun e=>by have:=(h.lt i k hi e).2;omega
theorem Fam.dn (h:Fam B I b w) (hk:k<B) {i:Nat} (hi:i<I): ¬b i k:=fun e=>by have:=(h.lt i k hi e).1;omega
theorem Fam.as {b':Nat→Nat→Prop} (h:Fam B I b w) (e: ∀i k,i<I→(b' i k↔b i k)):Fam B I b' w:=
 ⟨fun i k hi hk=>h.lt i k hi ((e i k hi).1 hk),fun i j k hi hj hne hk hn=>h.ap i j k hi hj hne ((e i k hi).1 hk) ((e j k hj).1 hn)⟩
end
end Mm
namespace Plain
variable {p:Int}

theorem clip_ten (x:Int) (hx:0≤x):clip (clip x*10)=clip (x*10):=by
 by_cases h:x≤1000000000000000
 ·rw [clip_in (by omega) h]
 ·rw [clip_hi (n:=x) (by omega),clip_hi (by omega),clip_hi (by omega)]

theorem clip_pos {x:Int} (h:0≤x):0≤clip x:=by unfold clip;repeat (first|omega|split)

def Ten (p:Int):Prop:= ∃j:Nat,p=10^j
theorem ten_first:Ten 1000000000000000:=⟨15,by decide⟩
theorem ten_next (h:Ten p):p=1∨(Ten (p/10)∧p=10*(p/10)):=by
 obtain⟨j,rfl⟩:=h;cases j with
 |zero=>left;rfl
 |succ j=>
  right;have e:(10:Int)^(j+1)=10*10^j:=by rw [Int.pow_succ,Int.mul_comm]
  have e2:(10:Int)^(j+1)/10=10^j:=by rw [e];exact Int.mul_ediv_cancel_left _ (by omega)
  rw [e2];exact⟨⟨j,rfl⟩,e⟩
theorem ten_pos (h:Ten p):1≤p:=by
 obtain⟨j,rfl⟩:=h;have:(0:Int)<10^j:=Int.pow_pos (by omega);omega

theorem digit (b p:Int) (hp:1≤p):b/p=b/(10*p)*10+b/p%10:=by
 have e:b/(10*p)=b/p/10:=by
  have h:=Int.ediv_ediv (x:=b) (y:=p) (z:=10);rw [if_neg (by omega)]at h;rw [Int.mul_comm,h];omega
 rw [e];omega

def pway (a b p i:Int):Int:=clip (a*(b/(10*p))*10+a*i)
theorem pway_zero (a b p:Int) (ha:0≤a) (hb:0≤b) (hp:1≤p):pway a b p 0=clip (clip (a*(b/(10*p)))*10):=by
 unfold pway;rw [Int.mul_zero,Int.add_zero,clip_ten];exact Int.mul_nonneg ha (Int.ediv_nonneg hb (by omega))
theorem pway_step (a b p i:Int) (ha:0≤a) (hb:0≤b) (hp:1≤p) (hi:0≤i):pway a b p (i+1)=clip (pway a b p i+a):=by
 unfold pway;have h1:0≤a*(b/(10*p)):=Int.mul_nonneg ha (Int.ediv_nonneg hb (by omega));have h2:0≤a*i:=Int.mul_nonneg ha hi;rw [clip_sum _ _ (by omega) ha,Int.mul_add,Int.mul_one,Int.add_assoc]
theorem pway_last (a b p:Int) (hp:1≤p):pway a b p (b/p%10)=clip (a*(b/p)):=by
 unfold pway;have e:=digit b p hp;have e2:a*(b/p)=a*(b/(10*p))*10+a*(b/p%10):=by
  have:a*(b/p)=a*(b/(10*p)*10+b/p%10):=congrArg (a* ·) e;rw [this,Int.mul_add,Int.mul_assoc]
 rw [e2]
theorem pway_bd (a b p i:Int) (ha:0≤a) (hb:0≤b) (hp:1≤p) (hi:0≤i):0≤pway a b p i∧pway a b p i≤1000000000000000:=by
 have h1:0≤a*(b/(10*p)):=Int.mul_nonneg ha (Int.ediv_nonneg hb (by omega));have h2:0≤a*i:=Int.mul_nonneg ha hi;exact⟨clip_pos (by omega),(clip_bd _).2⟩

def sofar (a b p:Int):Int:=if p=0 then clip (a*b)else clip (a*(b/(10*p)))
theorem sofar_first (a b:Int) (hb:0≤b∧b≤1000000000000000):sofar a b 1000000000000000=0:=by
 unfold sofar;rw [if_neg (by omega)];have e:b/(10*1000000000000000)=0:=Int.ediv_eq_zero_of_lt hb.1 (by omega);rw [e,Int.mul_zero];decide+kernel
theorem sofar_at (a b p:Int) (hp:1≤p):sofar a b p=clip (a*(b/(10*p))):=by
 unfold sofar;rw [if_neg (by omega)]
theorem sofar_next (a b p:Int) (ht:Ten p):clip (a*(b/p))=sofar a b (p/10):=by
 have hp:=ten_pos ht;rcases ten_next ht with rfl|⟨h1,h2⟩
 ·have e:(1:Int)/10=0:=by decide
  rw [Int.ediv_one,e];unfold sofar;rw [if_pos rfl]
 ·have h3:=ten_pos h1;unfold sofar;rw [if_neg (by omega),←h2]
theorem sofar_bd (a b p:Int) (ha:0≤a) (hb:0≤b) (hp:0≤p):0≤sofar a b p∧sofar a b p≤1000000000000000:=by
 unfold sofar;split
 ·exact⟨clip_pos (Int.mul_nonneg ha hb),(clip_bd _).2⟩
 ·exact⟨clip_pos (Int.mul_nonneg ha (Int.ediv_nonneg hb (by omega))),(clip_bd _).2⟩

theorem mulc_minus (a b:Int) (h:(decide (a<0) !=decide (b<0))=true):mulc a b= -clip (sz a*sz b):=by
 unfold mulc;have hs:=sz_mul a b;rcases XN a 0 with ha|ha<;>rcases XN b 0 with hb|hb
 ·simp [ha,hb]at h
 ·have h5:a*b≤0:=Int.mul_nonpos_of_nonpos_of_nonneg (by omega) hb;rw [←hs];rcases XN (a*b) 0 with h'|h'
  ·rw [sz_neg h'];unfold clip;repeat (first|omega|split)
  ·rw [sz_pos h'];unfold clip;repeat (first|omega|split)
 ·have h5:a*b≤0:=Int.mul_nonpos_of_nonneg_of_nonpos ha (by omega);rw [←hs];rcases XN (a*b) 0 with h'|h'
  ·rw [sz_neg h'];unfold clip;repeat (first|omega|split)
  ·rw [sz_pos h'];unfold clip;repeat (first|omega|split)
 ·have h6: ¬a<0:=by omega
  have h7: ¬b<0:=by omega
  simp [h6,h7]at h
theorem mulc_plus (a b:Int) (h:(decide (a<0) !=decide (b<0))=false):mulc a b=clip (sz a*sz b):=by
 unfold mulc;have hs:=sz_mul a b;rcases XN a 0 with ha|ha<;>rcases XN b 0 with hb|hb
 ·have h5:=Int.mul_pos_of_neg_of_neg ha hb;rw [←hs,sz_pos (by omega)]
 ·have h7: ¬b<0:=by omega
  simp [ha,h7]at h
 ·have h6: ¬a<0:=by omega
  simp [hb,h6]at h
 ·rw [←hs,sz_pos (Int.mul_nonneg ha hb)]

theorem mulc_lim (a b:Int): -1000000000000000≤mulc a b∧mulc a b≤1000000000000000:=clip_bd _

theorem share_three (A M:Int):A*M/1000=A/1000*M+A%1000*(M/1000)+A%1000*(M%1000)/1000:=by
 rw [share_parts];have e:A%1000*M=A%1000*(M%1000)+1000*(A%1000*(M/1000)):=by
  have h:M=M%1000+1000*(M/1000):=by omega
  have h2:A%1000*M=A%1000*(M%1000+1000*(M/1000)):=congrArg (A%1000* ·) h;rw [h2,Int.mul_add,Int.mul_left_comm]
 rw [e,Int.add_mul_ediv_left _ _ (by omega)];omega
theorem left_bd (A M:Int):0≤A%1000*(M%1000)∧A%1000*(M%1000)≤998001:=by
 have h1:0≤A%1000:=by omega
 have h2:A%1000≤999:=by omega
 have h3:0≤M%1000:=by omega
 have h4:A%1000*(M%1000)≤999*(M%1000):=Int.mul_le_mul_of_nonneg_right h2 h3;have h5:=Int.mul_nonneg h1 h3;omega
theorem rshare_ok (A M:Int) (hA:0≤A∧A≤1000000000000000) (hM:0≤M∧M≤1000000000000000):
  clip (clip (mulc (clip (A/1000)) (clip M)+mulc (clip (A%1000)) (clip (M/1000)))+A%1000*(M%1000)/1000)=share A M:=by
 have hl:=left_bd A M;rw [clip_in (n:=A/1000) (by omega) (by omega),clip_in (n:=M) (by omega) (by omega),clip_in (n:=A%1000) (by omega) (by omega),clip_in (n:=M/1000) (by omega) (by omega)];have h1:0≤A/1000*M:=Int.mul_nonneg (by omega) hM.1;have h2:0≤A%1000*(M/1000):=Int.mul_nonneg (by omega) (by omega);have h3:A%1000*(M/1000)≤999*(M/1000):=Int.mul_le_mul_of_nonneg_right (by omega) (by omega);unfold mulc;rw [clip_in (n:=A%1000*(M/1000)) (by omega) (by omega),clip_sum _ _ h1 h2,clip_sum _ _ (by omega) (by omega)];unfold share;rw [share_three A M]
