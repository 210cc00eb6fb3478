/- A part. -/
import Derived.Test.YtaekecgbdegemaaGreatDoorPtPlanCheck
import Derived.Test.YtaekecgbdegemaaGreatDoorPtPowLaid
import Derived.Test.YtaekecgbdegemaaGreatDoorPtShelf4
import Derived.Lib.AppendIntMem
import Derived.Test.YtaekecgbdegemaaGreatDoorPtShelf6
import Derived.Test.YtaekecgbdegemaaGreatDoorPtCutWalks
set_option linter.all false
open Go.Proofs.Tryz
set_option maxHeartbeats 32000000
set_option maxRecDepth 8000
namespace Go.Proofs.YtaekecgbdegemaaGreatDoor
namespace Pln
open Go.RowKit Lai Civ Crn RCrn
variable {n:Int}

theorem grow_below (w:World) (k:Nat) (os:Array Obj):Below w.heap.size w (Go.Sort.grow (w.drewN k) os):=Lib.below_grow _ w (Xa _) k os
theorem itoa_any (n:Int) (h:I n) (w:World) (hP:PowAt w):CB 30 #[.int .i64 n] w (strV (Lib.itoa n)):=
 (strconv_Itoa n h.1 h.2 w hP).mono fun _ _ ⟨he,k,os,hw⟩=>⟨he,hw▸grow_below w k os⟩
theorem tail_snoc (sep x:List UInt8) (r:List (List UInt8)):Lib.joinTail sep (r++ [x])=Lib.joinTail sep r++sep++x:=by
 simp [Lib.joinTail]
def PlR (word:List UInt8) (l:List Int) (w:World) (t i:Value) (wr:World):Prop:= ∃k:Nat,k≤l.length∧i=.int .i64 k∧t=strV (lnT word (l.take k))∧Below w.heap.size w wr
theorem ln_step {word:List UInt8} {l:List Int} {k:Nat} (h:l[k]? =some n):lnT word (l.take (k+1))=lnT word (l.take k)++([32]++Lib.itoa n):=by
 unfold lnT;rw [XB,h,Option.toList_some,X2,XV,X5,tail_snoc];simp
theorem itoa_len20 (h:I n):(Lib.itoa n).length≤20:=by
 have key: ∀u:Nat,u<10^19→(Lib.decDigits u).length≤19:=by
  intro u hu;rw [Lib.decDigits_length];rcases Nat.lt_or_ge 19 (Lib.nDigits u)with g|g
  ·exfalso;have step: ∀(k u:Nat),k+1≤Lib.nDigits u→k=0∨10^k≤u:=by
    intro k;induction k with
    |zero=>intro u _;exact Or.inl rfl
    |succ k ih=>
     intro u hu;right;by_cases hs:u<10
     ·rw [Lib.nDigits_small hs]at hu;omega
     ·rw [Lib.nDigits_big hs]at hu;rcases ih (u/10) (by omega)with rfl|q
      ·simp;omega
      ·rw [Nat.pow_succ];omega
   rcases step 19 u (by omega)with q|q
   ·cases q
   ·omega
  ·exact g
 unfold I at h;have p19:(10:Nat)^19=10000000000000000000:=by decide
 unfold Lib.itoa;split
 ·have:=key n.natAbs (by omega);simp;omega
 ·have:=key n.toNat (by omega);omega
theorem ln_len {word:List UInt8} : ∀ {l:List Int},(∀n∈l,I n)→(lnT word l).length≤word.length+21*l.length
 | [],_=>by simp [lnT,Lib.joinTail]
 |x::r,h=>by
  have ih:=ln_len (word:=word) (l:=r) (fun n hn=>h n (Xy _ hn))
  have hx:=itoa_len20 (h x XF)
  unfold lnT at ih⊢
  simp only [Xg,XV,Lib.joinTail,List.flatten_cons,Xr,XK]at ih⊢
  omega
theorem cat3 (L D:List UInt8):Value.string ((⟨L.toArray⟩:ByteArray)++((⟨#[32]⟩:ByteArray)++(⟨D.toArray⟩:ByteArray)))=strV (L++([32]++D)):=by
 rw [show(⟨#[32]⟩:ByteArray)=⟨([32]:List UInt8).toArray⟩from rfl,str_add,str_add]
theorem ret_str' {a b:ByteArray} (h:a=b):Ending.returned (.string a)=.returned (.string b):=by rw [h]
theorem pline_any (word:List UInt8) (l:List Int) (B cap:Nat) (w:World) (hP:PowAt w) (hl:l.length≤10) (hI: ∀n∈l,I n) (hw:word.length≤100)
  (hc: ∀(j:Nat) n,l[j]? =some n→w.cell? ⟨B,j,none⟩=some (.int .i64 n)) (hB:B<w.heap.size):
  CB 93 #[strV word,.slice (some ⟨B,0,none⟩) l.length cap] w (strV (lnT word l++ [10])):=by
 have HC:=zh hc;have HI:=zh hI;clear hc hI;go_enter func93,ntmps93;go_wp2;go_loopw [0,9] (fun t i wr=>PlR word l w t i wr) (fun _ i _=>l.length-(intOf i).toNat)
 case atStart=>exact⟨0,Xx _,rfl,by simp [lnT,Lib.joinTail],Below.refl _ _⟩
 case round=>
  obtain⟨k,hk1,rfl,rfl,hbw⟩:=hrel;have hPr:=hP.below hbw (Xa _);have lk:(lnT word (l.take k)).length≤400:=by
   have:=ln_len (word:=word) (l:=l.take k) (fun n hn=>HI.out n (List.mem_of_mem_take hn));rw [Xt]at this;omega
  by_cases hlt:k<l.length
  ·have hlt':(k:Int)<l.length:=by omega
   obtain⟨n,hx⟩: ∃x,l[k]? =some x:=⟨l[k],by simp [hlt]⟩
   have cx:wr.cell? ⟨B,k,none⟩=some (.int .i64 n):=(hbw.cell (p:=⟨B,k,none⟩) hB).trans (HC.out k n hx);have hin:=HI.out n (Xk hx);have ln:=itoa_len20 hin;have c0:=fun w hP=>itoa_any n hin w hP;have HT:Hid (lnT word (l.take (k+1))=lnT word (l.take k)++([32]++Lib.itoa n)):=ln_step hx;clear hx hin;generalize lnT word (l.take k)=L at lk HT⊢;generalize Lib.itoa n=D at ln c0 HT;have z1:(⟨L.toArray⟩:ByteArray).size=L.length:=rfl;have z2:(⟨D.toArray⟩:ByteArray).size=D.length:=rfl;go_wp2_with(go_at_call 30;(with_reducible refine zg (c0 _ hPr) fun w1 hb1=>?_))
   go_roundw
   case rel=>
    refine⟨k+1,by omega,rfl,?_,(zu hbw hb1)⟩;rw [HT.out];exact cat3 L D
   case measure=>simp [intOf];omega
  ·obtain rfl:k=l.length:=by omega
   rw [XC]at lk;have HT:Hid (lnT word (l.take l.length)=lnT word l):=by unfold Hid;rw [XC]
   rw [HT.out];have z1:(⟨(lnT word l).toArray⟩:ByteArray).size=(lnT word l).length:=rfl;go_wp2;go_ret;exact⟨ret_str' (by rw [show(⟨#[10]⟩:ByteArray)=⟨([10]:List UInt8).toArray⟩from rfl,str_add]),hbw⟩
end Pln
namespace Dsk
open Go.RowKit Lai Crn Pln Pie
variable {w:World} {l:List UInt8} {v:Int}

def NeAt (w:World):Prop:= ∀g,g=6∨g=7→ ∃te pe,w.cell? ⟨g,0,none⟩=some (.iface te pe)
theorem NeAt.below {w':World} (h:NeAt w) (hb:Below w.heap.size w w'):NeAt w':=fun g hg=>by
 obtain⟨te,pe,h⟩:=h g hg
 exact⟨te,pe,(zk h hb)⟩
def numP (l:List UInt8):Option Int:=match Lib.atoiAll l with
 | .ok v=>if(Lib.itoa v==l)=true∧ -999999999999≤v∧v≤999999999999 then some v else none
 |_=>none
def NumA (l:List UInt8) (e:Ending):Prop:= ∃(n:Int) (b:Bool),e=.returned (.tuple #[.int .i64 n,.bool b])∧(b=true→numP l=some n)∧(b=false→numP l=none)
theorem atoi_no (l:List UInt8) (w:World) (hl:l.length≤65536) (hg:NeAt w) (h: ∀v,Lib.atoiAll l≠ .ok v):Calls prog 71 #[strV l] w fun e w'=>(∃(n:Int) (N:Nat),e=.returned (.tuple #[.int .i64 n,.iface 250 (.pointer (some ⟨N,0,none⟩))]))∧Below w.heap.size w w':=by
 have hz:(⟨l.toArray⟩:ByteArray).size≤281474976710656:=by show l.length≤_;omega
 obtain⟨t1,p1,h1⟩:=hg _ (Or.inl rfl);obtain⟨t2,p2,h2⟩:=hg _ (Or.inr rfl);cases ha:Lib.atoiAll l with
 |ok v=>exact absurd ha (h v)
 | «syntax» =>
  exact(strconv_Atoi_syntax ⟨l.toArray⟩ hz ha _ w h1 (Or.inr ⟨_,_,rfl⟩)).mono fun _ _ ⟨N,a,_,_,b⟩=>⟨⟨_,N,a⟩,b⟩
 |range=>exact(strconv_Atoi_range ⟨l.toArray⟩ hz ha _ w h2 (Or.inr ⟨_,_,rfl⟩)).mono fun _ _ ⟨N,a,_,_,b⟩=>⟨⟨_,N,a⟩,b⟩
theorem bytes_below (w:World) (e:TypeId) (t:ByteArray):Below w.heap.size w (Lib.bytesWorld w e t):=by
 have h:=((Below.refl w.heap.size w).drew).alloc (Xa _) (.cells (Lib.bytesCells w e t) e);exact Lib.below_freeze h (p:=⟨w.heap.size,(Lib.bytesCells w e t).size,none⟩) (Xa _) 1
theorem numY (hv:Lib.atoiAll l=.ok v) (h:Lib.itoa v=l) (a: -999999999999≤v) (b:v≤999999999999):numP l=some v:=by
 unfold numP;rw [hv];exact if_pos ⟨by rw [h];exact beq_self_eq_true l,a,b⟩
theorem numN (hv:Lib.atoiAll l=.ok v) (h:Lib.itoa v=l→ -999999999999≤v→v≤999999999999→False):numP l=none:=by
 unfold numP;rw [hv];exact if_neg fun⟨x,a,b⟩=>h (beq_iff_eq.1 x) a b
theorem num_any (l:List UInt8) (w:World) (hl:l.length≤65536) (hg:NeAt w) (hP:PowAt w):Calls prog 46 #[strV l] w fun e w'=>NumA l e∧Below w.heap.size w w':=by
 by_cases h: ∃v,Lib.atoiAll l=.ok v
 ·obtain⟨v,hv⟩:=h;obtain⟨v0,v1⟩:=Lib.atoiAll_bounds hv;have c1:=(strconv_Atoi_ok ⟨l.toArray⟩ (by show l.length≤_;omega) v hv w)
  have c2:=fun w hP=>itoa_any v ⟨by omega,by omega⟩ w hP;go_enter func46,ntmps46
  go_wp2_with (first
   |(go_at_call 71;(with_reducible refine zg c1 fun w1 hw=>?_);have hb1:Below w.heap.size w w1:=(by rcases hw with rfl|⟨t,rfl⟩;exact Below.refl _ _;exact bytes_below _ _ _);have c3:=c2 w1 (hP.below hb1 (Xa _)))
   |(go_at_call 30;(with_reducible refine zg c3 fun w2 hb2=>?_)))
  all_goals
   go_ret2
   first
    |exact⟨⟨v,decide (v≤999999999999),rfl,fun h=>numY hv (by assumption) (by omega) (of_decide_eq_true h),fun h=>numN hv fun _ _ c=>absurd c (of_decide_eq_false h)⟩,(zu hb1 hb2)⟩
    |exact⟨⟨v,false,rfl,fun h=>(by cases h),fun _=>numN hv fun a _ _=>by first|omega|contradiction⟩,(zu hb1 hb2)⟩
 ·have c1:=atoi_no l w hl hg fun v hv=>h ⟨v,hv⟩;have hN:numP l=none:=by unfold numP;split;exact absurd ⟨_,by assumption⟩ h;rfl
  go_enter func46,ntmps46;go_wp2_with(go_at_call 71;(with_reducible refine c1.mono ?_);rintro e w1 ⟨⟨n,N,rfl⟩,hb⟩)
  go_ret2;exact⟨⟨n,false,rfl,fun h=>(by cases h),fun _=>hN⟩,hb⟩
theorem num_no (hl:l.length≤65536) (hg:NeAt w) (hP:PowAt w) (h:numP l=none):Calls prog 46 #[strV l] w fun e w'=>(∃n:Int,e=.returned (.tuple #[.int .i64 n,.bool false]))∧Below w.heap.size w w':=
 (num_any l w hl hg hP).mono fun e w' ⟨⟨n,b,h1,h2,_⟩,hb⟩=>⟨⟨n,by cases b;exact h1;rw [h2 rfl]at h;cases h⟩,hb⟩
theorem num_yes {n:Int} (hl:l.length≤65536) (hg:NeAt w) (hP:PowAt w) (h:numP l=some n):CB 46 #[strV l] w (.tuple #[.int .i64 n,.bool true]):=
 (num_any l w hl hg hP).mono fun e w' ⟨⟨m,b,h1,h2,h3⟩,hb⟩=>⟨by cases b;rw [h3 rfl]at h;cases h;rw [h2 rfl]at h;cases h;exact h1,hb⟩

def oneK (l:List UInt8):Int:=if l==[116,105,99,107]then 1 else if l==[112,117,116]then 4 else if l==[108,101,97,115,101]then 5 else if l==[97,99,107]then 6 else if l==[115,116,97,114,116]then 8 else if l==[114,101,97,100,121]then 9 else if l==[99,114,97,115,104]then 10 else if l==[100,111,110,101]then 12 else if l==[112,97,117,115,101]then 13 else 0
def twoK (l:List UInt8):Int:=if l==[109,97,107,101]then 2 else if l==[116,97,107,101]then 3 else if l==[102,97,105,108]then 7 else if l==[97,115,107]then 11 else 0
theorem one_any (l:List UInt8) (w:World):CS 41 #[strV l] w (.int .i64 (oneK l)):=by
 unfold oneK;repeat' split
 all_goals
  go_enter func41,ntmps41;go_wp2;go_ret;exact⟨rfl,rfl⟩
theorem two_any (l:List UInt8) (w:World):CS 44 #[strV l] w (.int .i64 (twoK l)):=by
 unfold twoK;repeat' split
 all_goals
  go_enter func44,ntmps44;go_wp2;go_ret;exact⟨rfl,rfl⟩
