/- A part. -/
import Derived.Test.YthiapcajheepbaaGreatDoorPwCronWalks
import Derived.Deep.MidRow
set_option linter.all false
open Go.Proofs.Tryz
set_option maxHeartbeats 32000000
set_option maxRecDepth 8000
namespace Go.Proofs.YthiapcajheepbaaGreatDoor
namespace Ned
open Go.RowKit Lai Civ Crn Pln
variable {w:World} {b o:Nat} {t:Tr} {ops:Array Oper} {d:Option Nat} {x:Operand} {ps:String} {af:Array Edge} {A:Act} {Q:Exit→Act→World→Prop}

structure TrAt (w:World) (b o:Nat) (t:Tr):Prop where
 c0:w.cell? ⟨b,o,none⟩=some (.int .i64 t.k)
 c1:w.cell? ⟨b,o+1,none⟩=some (.int .i64 t.tg)
 c2:w.cell? ⟨b,o+2,none⟩=some (.int .i64 t.ac)
 c3:w.cell? ⟨b,o+3,none⟩=some (.int .u64 t.a.mi)
 c4:w.cell? ⟨b,o+4,none⟩=some (.int .u64 t.a.ho)
 c5:w.cell? ⟨b,o+5,none⟩=some (.int .u64 t.a.da)
 c6:w.cell? ⟨b,o+6,none⟩=some (.int .u64 t.a.mn)
 c7:w.cell? ⟨b,o+7,none⟩=some (.int .u64 t.a.we)
 c8:w.cell? ⟨b,o+8,none⟩=some (.bool t.a.ad)
 c9:w.cell? ⟨b,o+9,none⟩=some (.bool t.a.aw)
 c10:w.cell? ⟨b,o+10,none⟩=some (.int .u64 t.b.mi)
 c11:w.cell? ⟨b,o+11,none⟩=some (.int .u64 t.b.ho)
 c12:w.cell? ⟨b,o+12,none⟩=some (.int .u64 t.b.da)
 c13:w.cell? ⟨b,o+13,none⟩=some (.int .u64 t.b.mn)
 c14:w.cell? ⟨b,o+14,none⟩=some (.int .u64 t.b.we)
 c15:w.cell? ⟨b,o+15,none⟩=some (.bool t.b.ad)
 c16:w.cell? ⟨b,o+16,none⟩=some (.bool t.b.aw)
theorem range_tr (h:TrAt w b o t):w.rangeAt b o [.int .i64 t.k,.int .i64 t.tg,.int .i64 t.ac,.int .u64 t.a.mi,.int .u64 t.a.ho,.int .u64 t.a.da,.int .u64 t.a.mn,.int .u64 t.a.we,.bool t.a.ad,.bool t.a.aw,.int .u64 t.b.mi,.int .u64 t.b.ho,.int .u64 t.b.da,.int .u64 t.b.mn,.int .u64 t.b.we,.bool t.b.ad,.bool t.b.aw]:=by
 intro j v hv;match j,hv with
 |0,hv=>simp at hv;subst hv;simpa using h.c0
 |1,hv=>simp at hv;subst hv;simpa using h.c1
 |2,hv=>simp at hv;subst hv;simpa using h.c2
 |3,hv=>simp at hv;subst hv;simpa using h.c3
 |4,hv=>simp at hv;subst hv;simpa using h.c4
 |5,hv=>simp at hv;subst hv;simpa using h.c5
 |6,hv=>simp at hv;subst hv;simpa using h.c6
 |7,hv=>simp at hv;subst hv;simpa using h.c7
 |8,hv=>simp at hv;subst hv;simpa using h.c8
 |9,hv=>simp at hv;subst hv;simpa using h.c9
 |10,hv=>simp at hv;subst hv;simpa using h.c10
 |11,hv=>simp at hv;subst hv;simpa using h.c11
 |12,hv=>simp at hv;subst hv;simpa using h.c12
 |13,hv=>simp at hv;subst hv;simpa using h.c13
 |14,hv=>simp at hv;subst hv;simpa using h.c14
 |15,hv=>simp at hv;subst hv;simpa using h.c15
 |16,hv=>simp at hv;subst hv;simpa using h.c16
 |j+17,hv=>simp at hv
theorem wp_tr {rest:List Oper} (h:TrAt w b o t) (hx:A.eval x=.pointer (some ⟨b,o,none⟩))
  (g:wpList prog ops Q rest (A.put d (trV t)) w):wpList prog ops Q ({ dst:=d,op:=.load 84 x,type:=84,pos:=ps,after:=af,guard:=none } ::rest) A w:=
 wpList_load_mid rfl 84 x rfl b o hx [.int .i64 t.k,.int .i64 t.tg,.int .i64 t.ac,.int .u64 t.a.mi,.int .u64 t.a.ho,.int .u64 t.a.da,.int .u64 t.a.mn,.int .u64 t.a.we,.bool t.a.ad,.bool t.a.aw,.int .u64 t.b.mi,.int .u64 t.b.ho,.int .u64 t.b.da,.int .u64 t.b.mn,.int .u64 t.b.we,.bool t.b.ad,.bool t.b.aw] _ (range_tr h) underlying84 rfl (by kernel_rfl) g
theorem TrAt.new (w:World) (t:Tr) (ta:TypeId):TrAt (w.alloc (.cells (trC t) ta)) w.heap.size 0 t:=by
 constructor<;>simp
theorem TrAt.below {w':World} {n:Nat} (h:TrAt w b o t) (hb:Below n w w') (hn:b<n):TrAt w' b o t:=by
 constructor
 ·rw [hb.cell hn];exact h.c0
 ·rw [hb.cell hn];exact h.c1
 ·rw [hb.cell hn];exact h.c2
 ·rw [hb.cell hn];exact h.c3
 ·rw [hb.cell hn];exact h.c4
 ·rw [hb.cell hn];exact h.c5
 ·rw [hb.cell hn];exact h.c6
 ·rw [hb.cell hn];exact h.c7
 ·rw [hb.cell hn];exact h.c8
 ·rw [hb.cell hn];exact h.c9
 ·rw [hb.cell hn];exact h.c10
 ·rw [hb.cell hn];exact h.c11
 ·rw [hb.cell hn];exact h.c12
 ·rw [hb.cell hn];exact h.c13
 ·rw [hb.cell hn];exact h.c14
 ·rw [hb.cell hn];exact h.c15
 ·rw [hb.cell hn];exact h.c16
theorem boxB {w1:World} {A:Array Value} {ta:TypeId} (hb:Below (w.alloc (.cells A ta)).heap.size (w.alloc (.cells A ta)) w1):(∀o,w1.cell? ⟨w.heap.size,o,none⟩=A[o]?)∧w.heap.size<w1.heap.size∧Below w.heap.size w w1:=
 ⟨fun o=>by rw [hb.cell (p:=⟨w.heap.size,o,none⟩) (by simp)];simp,Xb (by simp) hb.size,(balloc _).trans (hb.mono (by simp))⟩
theorem range_span (h:TrAt w b 0 t):w.rangeAt b 3 [.int .u64 t.a.mi,.int .u64 t.a.ho,.int .u64 t.a.da,.int .u64 t.a.mn,.int .u64 t.a.we,.bool t.a.ad,.bool t.a.aw,.int .u64 t.b.mi,.int .u64 t.b.ho,.int .u64 t.b.da,.int .u64 t.b.mn,.int .u64 t.b.we,.bool t.b.ad,.bool t.b.aw]:=by
 intro j v hv;match j,hv with
 |0,hv=>simp at hv;subst hv;simpa using h.c3
 |1,hv=>simp at hv;subst hv;simpa using h.c4
 |2,hv=>simp at hv;subst hv;simpa using h.c5
 |3,hv=>simp at hv;subst hv;simpa using h.c6
 |4,hv=>simp at hv;subst hv;simpa using h.c7
 |5,hv=>simp at hv;subst hv;simpa using h.c8
 |6,hv=>simp at hv;subst hv;simpa using h.c9
 |7,hv=>simp at hv;subst hv;simpa using h.c10
 |8,hv=>simp at hv;subst hv;simpa using h.c11
 |9,hv=>simp at hv;subst hv;simpa using h.c12
 |10,hv=>simp at hv;subst hv;simpa using h.c13
 |11,hv=>simp at hv;subst hv;simpa using h.c14
 |12,hv=>simp at hv;subst hv;simpa using h.c15
 |13,hv=>simp at hv;subst hv;simpa using h.c16
 |j+14,hv=>simp at hv
theorem wp_span {rest:List Oper} (h:TrAt w b 0 t) (hx:A.eval x=.pointer (some ⟨b,3,none⟩))
  (g:wpList prog ops Q rest (A.put d (spanV t.a t.b)) w):wpList prog ops Q ({ dst:=d,op:=.load 82 x,type:=82,pos:=ps,after:=af,guard:=none } ::rest) A w:=
 wpList_load_mid rfl 82 x rfl b 3 hx [.int .u64 t.a.mi,.int .u64 t.a.ho,.int .u64 t.a.da,.int .u64 t.a.mn,.int .u64 t.a.we,.bool t.a.ad,.bool t.a.aw,.int .u64 t.b.mi,.int .u64 t.b.ho,.int .u64 t.b.da,.int .u64 t.b.mn,.int .u64 t.b.we,.bool t.b.ad,.bool t.b.aw] _ (range_span h) underlying82 rfl (by kernel_rfl) g
theorem wp_spanG {rest:List Oper} {gd:Option (Nat×Bool)} (h:TrAt w b 0 t) (hx:A.eval x=.pointer (some ⟨b,3,none⟩))
  (hg:Region.wanted { dst:=d,op:=.load 82 x,type:=82,pos:=ps,after:=af,guard:=gd } (yielded ops A.tmps)=true)
  (g:wpList prog ops Q rest (A.put d (spanV t.a t.b)) w):wpList prog ops Q ({ dst:=d,op:=.load 82 x,type:=82,pos:=ps,after:=af,guard:=gd } ::rest) A w:=by
 unfold wpList;rw [if_pos hg];exact Or.inl (wp_load_mid 82 x rfl b 3 hx [.int .u64 t.a.mi,.int .u64 t.a.ho,.int .u64 t.a.da,.int .u64 t.a.mn,.int .u64 t.a.we,.bool t.a.ad,.bool t.a.aw,.int .u64 t.b.mi,.int .u64 t.b.ho,.int .u64 t.b.da,.int .u64 t.b.mn,.int .u64 t.b.we,.bool t.b.ad,.bool t.b.aw] _ (range_span h) underlying82 rfl (by kernel_rfl) g)
end Ned
namespace Ned
open Go.RowKit Plain Num Pln Civ Crn Lai
variable {w W w1 w2:World} {b f:Bool} {A:Array Value} {ta:TypeId} {o B:Nat} {t:Tr} {fn:Func} {p u:Tmp} {a:Act} {E:Int} {x0 x1:Value}

def IntsAt (w:World) (a:Option Addr) (len:Nat) (X:Nat→Int):Prop:=
 ∀i,i<len→ ∃b off,a=some ⟨b,off,none⟩∧b<w.heap.size∧w.cell? ⟨b,off+i,none⟩=some (.int .i64 (X i))∧ -9223372036854775808≤X i∧X i≤9223372036854775807
theorem IntsAt.below {w':World} {a:Option Addr} {len n:Nat} {X:Nat→Int} (h:IntsAt w a len X) (hb:Below n w w') (hn:w.heap.size≤n):IntsAt w' a len X:=by
 intro i hi;obtain⟨b,off,rfl,hlt,hc,hx⟩:=h i hi;refine⟨b,off,rfl,Xb hlt hb.size,?_,hx⟩;rw [←hc];exact hb.cell (Xb hlt hn)
theorem max_atz (n:Int):max n 0=atz n:=by unfold atz;split<;>omega
def SmR (X:Nat→Int) (len:Nat) (w:World) (s i:Value) (wr:World):Prop:= ∃k:Nat,k≤len∧s=.int .i64 (sumF X k)∧i=.int .i64 k∧wr=w
def CnR (X:Nat→Int) (len:Nat) (w:World) (s i:Value) (wr:World):Prop:= ∃k:Nat,k≤len∧s=.int .i64 (cntF X k:Int)∧i=.int .i64 k∧wr=w

theorem sum_any (a:Option Addr) (len cap:Nat) (X:Nat→Int) (w:World) (hm:len≤maxLen) (hX:IntsAt w a len X):
  CS 202 #[.slice a len cap] w (.int .i64 (sumF X len)):=by
 have ca:=fun x y w=>add_any x y w;unfold maxLen at hm;go_enter func202,ntmps202;go_wp2;go_loopw [3,8] (fun s i wr=>SmR X len w s i wr) (fun _ i _=>len-(intOf i).toNat)
 case atStart=>exact⟨0,by omega,rfl,rfl,rfl⟩
 case round=>
  obtain⟨k,hk,rfl,rfl,hwr⟩:=hrel;have h8:=hwr.symm;clear hwr;subst h8;by_cases hlt:k<len
  ·have hlt':(k:Int)<len:=by omega
   obtain⟨b,off,rfl,hbl,cX,bX⟩:=hX k hlt;have ea:max (X k) 0=atz (X k):=max_atz _;have es:clip (clip (sumF X k)+clip (atz (X k)))=sumF X (k+1):=rfl;go_wp2_with(go_at_call 67;(with_reducible refine zq (ca _ _ _) ?_))
   go_roundw
   case rel=>exact⟨k+1,by omega,rfl,rfl,rfl⟩
   case measure=>simp [intOf];omega
  ·obtain rfl:k=len:=by omega
   go_wp2;go_ret;exact⟨rfl,rfl⟩
theorem cnt_any (a:Option Addr) (len cap:Nat) (X:Nat→Int) (w:World) (hm:len≤maxLen) (hX:IntsAt w a len X):
  CS 200 #[.slice a len cap] w (.int .i64 (cntF X len:Int)):=by
 unfold maxLen at hm;go_enter func200,ntmps200;go_wp2;go_loopw [3,8] (fun s i wr=>CnR X len w s i wr) (fun _ i _=>len-(intOf i).toNat)
 case atStart=>exact⟨0,by omega,rfl,rfl,rfl⟩
 case round=>
  obtain⟨k,hk,rfl,rfl,hwr⟩:=hrel;have h8:=hwr.symm;clear hwr;subst h8;by_cases hlt:k<len
  ·have hlt':(k:Int)<len:=by omega
   obtain⟨b,off,rfl,hbl,cX,bX⟩:=hX k hlt;have hc:=cntF_le X k;have hs:cntF X (k+1)=if 0<X k then cntF X k+1 else cntF X k:=rfl
   by_cases hp:0<X k
   ·rw [if_pos hp]at hs;have HS:=zh hs;clear hs;go_wp2;go_roundw
    case rel=>exact⟨k+1,by omega,by rw [HS.out];rfl,rfl,rfl⟩
    case measure=>simp [intOf];omega
   ·rw [if_neg hp]at hs;have HS:=zh hs;clear hs;go_wp2;go_roundw
    case rel=>exact⟨k+1,by omega,by rw [HS.out],rfl,rfl⟩
    case measure=>simp [intOf];omega
  ·obtain rfl:k=len:=by omega
   go_wp2;go_ret;exact⟨rfl,rfl⟩

abbrev rdV (f:Bool) (a:Option Addr) (len cap:Nat):Value:=.agg #[.bool f,.slice a len cap]
theorem ret_i {a b:Int} (h:a=b):Ending.returned (.int .i64 a)=.returned (.int .i64 b):=by rw [h]
theorem ret_b {a:Bool} (h:a=b):Ending.returned (.bool a)=.returned (.bool b):=by rw [h]

theorem counts_any (t:Tr) (w:World):
  CB 192 #[trV t] w (.bool (decide (t.k=1∨t.k=2))):=by
 obtain⟨k,tg,ac,a,b⟩:=t;by_cases h1:k=1
 ·subst h1;go_enter func192,ntmps192;go_wp2;go_ret;exact⟨rfl,balloc _⟩
 ·have d1:(k==1)=false:=by rw [beq_eq_false_iff_ne];exact h1
  by_cases h2:k=2
  ·subst h2;go_enter func192,ntmps192;go_wp2;go_ret;exact⟨rfl,balloc _⟩
  ·have d2:(k==2)=false:=by rw [beq_eq_false_iff_ne];exact h2
   have HE:Hid (decide (k=1∨k=2)=false):=by unfold Hid;simp [h1,h2]
   go_enter func192,ntmps192;go_wp2;go_ret;exact⟨ret_b HE.out.symm,balloc _⟩

theorem metric_any (t:Tr) (f:Bool) (a:Option Addr) (len cap:Nat) (X:Nat→Int) (w:World) (hm:len≤maxLen) (hX:IntsAt w a len X):
  CB 196 #[trV t,rdV f a len cap] w (.int .i64 (metF t.k len X)):=by
 have hX2:=fun o p=>hX.below (balloc2 o p) (Xa _);have cs:=fun w hX=>sum_any a len cap X w hm hX;unfold maxLen at hm;obtain⟨k,tg,ac,ka,kb⟩:=t;by_cases h1:k=1
 ·subst h1;have HE:Hid (metF 1 len X=sumF X len):=by unfold Hid metF;rw [if_pos rfl]
  clear hX;go_enter func196,ntmps196;go_wp2_with(go_at_call 202;(with_reducible refine zq (cs _ (hX2 _ _)) ?_))
  go_ret;exact⟨ret_i HE.out.symm,balloc2 _ _⟩
 ·have d1:(k==1)=false:=by rw [beq_eq_false_iff_ne];exact h1
  by_cases h0:len=0
  ·subst h0;have HE:Hid (metF k 0 X=0):=by unfold Hid metF;rw [if_neg h1,if_pos rfl]
   clear hX hX2 cs;go_enter func196,ntmps196;go_wp2;go_ret;exact⟨ret_i HE.out.symm,balloc2 _ _⟩
  ·have HE:Hid (metF k len X=atz (X 0)):=by unfold Hid metF;rw [if_neg h1,if_neg h0]
   have d0:((len:Int)==0)=false:=by rw [beq_eq_false_iff_ne];omega
   have hlt:(0:Int)<len:=by omega
   obtain⟨b,off,rfl,hbl,cX,bX⟩:=hX 0 (by omega);have ea:max (X 0) 0=atz (X 0):=max_atz _;have cX2:=fun o p=>(bcell (balloc2 (w:=w) o p)).1 b (off+0) hbl;rw [cX]at cX2;simp only [XD]at cX2;clear hX hX2 cs;go_enter func196,ntmps196;go_wp2;go_ret;exact⟨ret_i HE.out.symm,balloc2 _ _⟩
theorem near_any (m tk tol:Int) (w:World) (h1:0≤m) (h2:m≤9223372036854775807) (h3:0≤tk) (h4:tk≤1000000000000000):
  CS 195 #[.int .i64 m,.int .i64 tk,.int .i64 tol] w (.bool (nearF m tk tol)):=by
 have cs:=fun w=>share_any tk tol w;go_enter func195,ntmps195;go_wp2_with(go_at_call 188;(with_reducible refine zq (cs _) ?_))
 go_ret;exact⟨rfl,rfl⟩

abbrev needV (p:Int) (b:Bool):Value:=.agg #[.int .i64 p,.bool b]
theorem TrAt.three (w:World) (t:Tr) (ta:TypeId) (o p:Obj):TrAt (((w.alloc (.cells (trC t) ta)).alloc o).alloc p) w.heap.size 0 t:=(TrAt.new w t ta).below (balloc2 o p) (by simp)
theorem balloc3 (o p q:Obj):Below w.heap.size w (((w.alloc o).alloc p).alloc q):=(balloc2 o p).alloc (by simp;omega) q
structure BoxAt (w w1:World) (t:Tr) (f:Bool) (sl:Value):Prop where
 tr:TrAt w1 w.heap.size 0 t
 r0:w1.cell? ⟨w.heap.size+1,0,none⟩=some (.bool f)
 r1:w1.cell? ⟨w.heap.size+1,1,none⟩=some sl
 n0:w1.cell? ⟨w.heap.size+1+1,0,none⟩=some (.int .i64 0)
 n1:w1.cell? ⟨w.heap.size+1+1,1,none⟩=some (.bool false)
 fz: ∀o,w1.frozen? ⟨w.heap.size+1+1,o,none⟩=false
 sz:w.heap.size+3≤w1.heap.size
 bw:Below w.heap.size w w1
theorem cellA {n:Nat} (hn:n=W.heap.size):(W.alloc (.cells A ta)).cell? ⟨n,o,none⟩=A[o]? :=by subst hn;simp
theorem cellB {p:Obj} {n:Nat} (hn:n<W.heap.size):(W.alloc p).cell? ⟨n,o,none⟩=W.cell? ⟨n,o,none⟩:=(balloc p).cell hn
theorem frozA {n:Nat} (hn:n=W.heap.size):(W.alloc (.cells A ta)).frozen? ⟨n,o,none⟩=false:=by subst hn;simp
theorem BoxAt.mk3 (w:World) (t:Tr) (f:Bool) (sl:Value) (ta tb tc:TypeId):BoxAt w (((w.alloc (.cells (trC t) ta)).alloc (.cells #[.bool f,sl] tb)).alloc (.cells #[.int .i64 0,.bool false] tc)) t f sl:=
 ⟨TrAt.three w t ta _ _,by rw [cellB (by simp),cellA (by simp)];rfl,by rw [cellB (by simp),cellA (by simp)];rfl,by rw [cellA (by simp)];rfl,by rw [cellA (by simp)];rfl,fun o=>frozA (by simp),by simp,balloc3 _ _ _⟩
theorem BoxAt.next {sl:Value} (h:BoxAt w w1 t f sl) (hb:Below w1.heap.size w1 w2):BoxAt w w2 t f sl:=by
 have hz:=h.sz;refine⟨h.tr.below hb (by omega),?_,?_,?_,?_,fun o=> ?_,by have:=hb.size;omega,h.bw.trans (hb.mono (by omega))⟩
 ·rw [hb.cell (by show w.heap.size+1<_;omega)];exact h.r0
 ·rw [hb.cell (by show w.heap.size+1<_;omega)];exact h.r1
 ·rw [hb.cell (by show w.heap.size+1+1<_;omega)];exact h.n0
 ·rw [hb.cell (by show w.heap.size+1+1<_;omega)];exact h.n1
 ·rw [hb.frozen (by show w.heap.size+1+1<_;omega)];exact h.fz o
theorem range_need {pd:Int} (c0:w.cell? ⟨B,0,none⟩=some (.int .i64 pd)) (c1:w.cell? ⟨B,1,none⟩=some (.bool b)):w.rangeAt B 0 [.int .i64 pd,.bool b]:=by
 intro j v hv;match j,hv with
 |0,hv=>simp at hv;subst hv;simpa using c0
 |1,hv=>simp at hv;subst hv;simpa using c1
 |j+2,hv=>simp at hv
theorem finN {Q:Ending→World→Prop} (hres:fn.results=#[.cell p 178,.tmp u]) {Wf:World} {pd:Int} (hp:a.tmps[p]? =some (.pointer (some ⟨B,0,none⟩))) (he:a.tmps[u]? =some (.int .i64 E)) (ha:a.defers=[])
  (c0:Wf.cell? ⟨B,0,none⟩=some (.int .i64 pd)) (c1:Wf.cell? ⟨B,1,none⟩=some (.bool b)) (hQ:Q (.returned (.tuple #[needV pd b,.int .i64 E])) Wf):bodyPost prog fn Q Exit.ret a Wf:=by
 refine bodyPost_ret (v:=.tuple #[needV pd b,.int .i64 E]) ?_ ha hQ;have e4:a.tmps.getD p undef=.pointer (some ⟨B,0,none⟩):=by rw [Yi,hp];rfl
 have e5:a.tmps.getD u undef=.int .i64 E:=by rw [Yi,he];rfl
 rw [results_cell_tmp hres,e4,e5];have hl:=run_loadVar_mid (P:=prog) Wf B 0 178 _ _ (range_need c0 c1) underlying178 rfl (by kernel_rfl);simp only [asAddr,X8,X9,hl]
theorem set2 (v0 v1:Value) (c0:W.cell? ⟨B,0,none⟩=some x0) (c1:W.cell? ⟨B,1,none⟩=some x1):
  ((W.setCell ⟨B,0,none⟩ v0).setCell ⟨B,1,none⟩ v1).cell? ⟨B,0,none⟩=some v0∧((W.setCell ⟨B,0,none⟩ v0).setCell ⟨B,1,none⟩ v1).cell? ⟨B,1,none⟩=some v1:=by
 simp [go_sem,c0,c1]
theorem finL (hres:fn.results=#[.cell p 178,.tmp u]) {pd q:Int} (hp:a.tmps[p]? =some (.pointer (some ⟨B,0,none⟩))) (he:a.tmps[u]? =some (.int .i64 E)) (ha:a.defers=[])
  (c0:w1.cell? ⟨B,0,none⟩=some x0) (c1:w1.cell? ⟨B,1,none⟩=some x1) (hq:pd=q) (hB:w.heap.size≤B) (hb:Below w.heap.size w w1):
  bodyPost prog fn (fun e w'=>e=.returned (.tuple #[needV pd b,.int .i64 E])∧Below w.heap.size w w') Exit.ret a ((w1.setCell ⟨B,0,none⟩ (.int .i64 q)).setCell ⟨B,1,none⟩ (.bool b)):=by
 subst hq;obtain⟨s0,s1⟩:=set2 (.int .i64 pd) (.bool b) c0 c1;exact finN hres hp he ha s0 s1 ⟨rfl,(hb.setCell hB _).setCell hB _⟩
theorem ofr_lag (tg ac:Int) (ka kb:K) (a:Option Addr) (len cap:Nat) (X:Nat→Int) (w:World) (h:1≤tg) (hm:len≤maxLen) (hX:IntsAt w a len X):
  CB 193 #[trV ⟨1,tg,ac,ka,kb⟩,rdV false a len cap] w (.tuple #[needV (podF 1 tg len X) (decide (ac<metF 1 len X)),.int .i64 0]):=by
 have hX3:=fun o p q=>hX.below (balloc3 o p q) (Xa _);have cm:=fun w hX=>metric_any ⟨1,tg,ac,ka,kb⟩ false a len cap X w hm hX;have cc:=fun m w=>ceil_yes m tg w h;have cn:=fun w hX=>cnt_any a len cap X w hm hX;have hA:=fun ta o p=>TrAt.three w ⟨1,tg,ac,ka,kb⟩ ta o p;have HP:Hid (podF 1 tg len X=min (up (clip (metF 1 len X)) (clip tg)) (cntF X len:Int)):=by unfold Hid podF;rw [if_pos rfl]
 dsimp only at cm;generalize metF 1 len X=m at*;generalize podF 1 tg len X=pd at*;clear hX;go_enter func193,ntmps193
 go_wp2_with (first
  |(with_reducible refine wp_tr (hA _ _ _) (by with_unfolding_all rfl) ?_)
  |(go_at_call 196;(with_reducible refine zg (cm _ (hX3 _ _ _)) fun w1 hb1=>?_);have hK:=(BoxAt.mk3 w ⟨1,tg,ac,ka,kb⟩ false (.slice a len cap) _ _ _).next hb1;have k0:=hK.tr.c0;have k1:=hK.tr.c1;have k2:=hK.tr.c2;have r1:=hK.r1;have n0:=hK.n0;have n1:=hK.n1;have fz:=hK.fz;have hX1:=(hX3 _ _ _).below hb1 (Xa _);dsimp only at k0 k1 k2)
  |(go_at_call 185;(with_reducible refine zq (cc _ _) ?_))
  |(go_at_call 200;(with_reducible refine zq (cn _ hX1) ?_)))
 exact finL (B:=w.heap.size+1+1) results193 rfl rfl rfl n0 n1 HP.out (Xc (Xm _) (Xm _)) hK.bw
theorem ofr_else (k tg ac:Int) (ka kb:K) (a:Option Addr) (len cap:Nat) (X:Nat→Int) (w:World) (hk:k≠1) (h:1≤tg) (hm:len≤maxLen) (hX:IntsAt w a len X):
  CB 193 #[trV ⟨k,tg,ac,ka,kb⟩,rdV false a len cap] w (.tuple #[needV (podF k tg len X) (decide (ac<metF k len X)),.int .i64 0]):=by
 have hX3:=fun o p q=>hX.below (balloc3 o p q) (Xa _);have cm:=fun w hX=>metric_any ⟨k,tg,ac,ka,kb⟩ false a len cap X w hm hX;have cc:=fun m w=>ceil_yes m tg w h;have hA:=fun ta o p=>TrAt.three w ⟨k,tg,ac,ka,kb⟩ ta o p;have HP:Hid (podF k tg len X=up (clip (metF k len X)) (clip tg)):=by unfold Hid podF;rw [if_neg hk]
 have d1:(k==1)=false:=by rw [beq_eq_false_iff_ne];exact hk
 dsimp only at cm;generalize metF k len X=m at*;generalize podF k tg len X=pd at*;clear hX hk;go_enter func193,ntmps193
 go_wp2_with (first
  |(with_reducible refine wp_tr (hA _ _ _) (by with_unfolding_all rfl) ?_)
  |(go_at_call 196;(with_reducible refine zg (cm _ (hX3 _ _ _)) fun w1 hb1=>?_);have hK:=(BoxAt.mk3 w ⟨k,tg,ac,ka,kb⟩ false (.slice a len cap) _ _ _).next hb1;have k0:=hK.tr.c0;have k1:=hK.tr.c1;have k2:=hK.tr.c2;have r1:=hK.r1;have n0:=hK.n0;have n1:=hK.n1;have fz:=hK.fz;dsimp only at k0 k1 k2)
  |(go_at_call 185;(with_reducible refine zq (cc _ _) ?_)))
 exact finL (B:=w.heap.size+1+1) results193 rfl rfl rfl n0 n1 HP.out (Xc (Xm _) (Xm _)) hK.bw

theorem ofr_yes (t:Tr) (a:Option Addr) (len cap:Nat) (X:Nat→Int) (w:World) (h:1≤t.tg) (hm:len≤maxLen) (hX:IntsAt w a len X):
  CB 193 #[trV t,rdV false a len cap] w (.tuple #[needV (podF t.k t.tg len X) (decide (t.ac<metF t.k len X)),.int .i64 0]):=by
 obtain⟨k,tg,ac,ka,kb⟩:=t;by_cases hk:k=1
 ·subst hk;exact ofr_lag tg ac ka kb a len cap X w h hm hX
 ·exact ofr_else k tg ac ka kb a len cap X w hk h hm hX
theorem of_pass (t:Tr) (f:Bool) (a:Option Addr) (len cap:Nat) (sec shift:Int) (p E:Int) (b:Bool) (w:World) (hk:t.k=1∨t.k=2)
  (c: ∀w',Below w.heap.size w w'→CB 193 #[trV t,rdV f a len cap] w' (.tuple #[needV p b,.int .i64 E])):
  CB 177 #[trV t,rdV f a len cap,.int .i64 sec,.int .i64 shift] w (.tuple #[needV p b,.int .i64 E]):=by
 have cc:=fun w=>counts_any t w;have hd:decide (t.k=1∨t.k=2)=true:=by simp [hk]
 rw [hd]at cc;have hA:=fun ta o p=>TrAt.three w t ta o p;clear hd hk;go_enter func177,ntmps177
 go_wp2_with (first
  |(with_reducible refine wp_tr (hA _ _ _) (by with_unfolding_all rfl) ?_)
  |(go_at_call 192;(with_reducible refine zg (cc _) fun w1 hb1=>?_);have hK:=(BoxAt.mk3 w t f (.slice a len cap) _ _ _).next hb1;have hA1:=hK.tr;have r0:=hK.r0;have r1:=hK.r1;have n0:=hK.n0;have n1:=hK.n1;have fz:=hK.fz)
  |(with_reducible refine wp_tr hA1 (by with_unfolding_all rfl) ?_)
  |(go_at_call 193;(with_reducible refine zg (c _ hK.bw) fun w2 hb2=>?_);have hK2:=hK.next hb2;have n20:=hK2.n0;have n21:=hK2.n1;have fz2:=hK2.fz))
 exact finL (B:=w.heap.size+1+1) results177 rfl rfl rfl n20 n21 rfl (Xc (Xm _) (Xm _)) hK2.bw
theorem of_span (tg ac:Int) (ka kb:K) (f:Bool) (a:Option Addr) (len cap:Nat) (sec shift E:Int) (r:Bool) (w:World) (h:1≤tg)
  (c: ∀w',Below w.heap.size w w'→CB 194 #[spanV ka kb,.int .i64 sec,.int .i64 shift] w' (.tuple #[.bool r,.int .i64 E])):
  CB 177 #[trV ⟨3,tg,ac,ka,kb⟩,rdV f a len cap,.int .i64 sec,.int .i64 shift] w (.tuple #[needV (if r=true then tg else 0) r,.int .i64 (if r=true then 0 else E)]):=by
 have cc:=fun w=>counts_any ⟨3,tg,ac,ka,kb⟩ w;have hd:decide ((3:Int)=1∨(3:Int)=2)=false:=by decide
 dsimp only at cc;rw [hd]at cc;have hA:=fun ta o p=>TrAt.three w ⟨3,tg,ac,ka,kb⟩ ta o p;clear hd;cases r
 ·rw [if_neg (by decide),if_neg (by decide)];go_enter func177,ntmps177
  go_wp2_with (first
   |(with_reducible refine wp_tr (hA _ _ _) (by with_unfolding_all rfl) ?_)
   |(go_at_call 192;(with_reducible refine zg (cc _) fun w1 hb1=>?_);have hK:=(BoxAt.mk3 w ⟨3,tg,ac,ka,kb⟩ f (.slice a len cap) _ _ _).next hb1;have hA1:=hK.tr;have k0:=hK.tr.c0;have k1:=hK.tr.c1;have n0:=hK.n0;have n1:=hK.n1;have fz:=hK.fz;dsimp only at k0 k1)
   |(with_reducible refine wp_span hA1 (by with_unfolding_all rfl) ?_)
   |(go_at_call 194;(with_reducible refine zg (c _ hK.bw) fun w2 hb2=>?_);have hK2:=hK.next hb2;have n20:=hK2.n0;have n21:=hK2.n1;have fz2:=hK2.fz;have k20:=hK2.tr.c0;have k21:=hK2.tr.c1;dsimp only at k20 k21))
  first
   |exact finL (B:=w.heap.size+1+1) results177 rfl rfl rfl n20 n21 rfl (Xc (Xm _) (Xm _)) hK2.bw
   |exact finN (B:=w.heap.size+1+1) results177 rfl rfl rfl n20 n21 ⟨rfl,hK2.bw⟩
 ·rw [if_pos rfl,if_pos rfl];go_enter func177,ntmps177
  go_wp2_with (first
   |(with_reducible refine wp_tr (hA _ _ _) (by with_unfolding_all rfl) ?_)
   |(go_at_call 192;(with_reducible refine zg (cc _) fun w1 hb1=>?_);have hK:=(BoxAt.mk3 w ⟨3,tg,ac,ka,kb⟩ f (.slice a len cap) _ _ _).next hb1;have hA1:=hK.tr;have k0:=hK.tr.c0;have k1:=hK.tr.c1;have n0:=hK.n0;have n1:=hK.n1;have fz:=hK.fz;dsimp only at k0 k1)
   |(with_reducible refine wp_span hA1 (by with_unfolding_all rfl) ?_)
   |(go_at_call 194;(with_reducible refine zg (c _ hK.bw) fun w2 hb2=>?_);have hK2:=hK.next hb2;have n20:=hK2.n0;have n21:=hK2.n1;have fz2:=hK2.fz;have k20:=hK2.tr.c0;have k21:=hK2.tr.c1;dsimp only at k20 k21))
  exact finL (B:=w.heap.size+1+1) results177 rfl rfl rfl n20 n21 rfl (Xc (Xm _) (Xm _)) hK2.bw

structure Box2 (w w1:World) (t:Tr) (f:Bool) (sl:Value):Prop where
 tr:TrAt w1 w.heap.size 0 t
 r0:w1.cell? ⟨w.heap.size+1,0,none⟩=some (.bool f)
 r1:w1.cell? ⟨w.heap.size+1,1,none⟩=some sl
 sz:w.heap.size+2≤w1.heap.size
 bw:Below w.heap.size w w1
theorem TrAt.two (w:World) (t:Tr) (ta:TypeId) (o:Obj):TrAt ((w.alloc (.cells (trC t) ta)).alloc o) w.heap.size 0 t:=(TrAt.new w t ta).below (balloc o) (by simp)
theorem Box2.mk2 (w:World) (t:Tr) (f:Bool) (sl:Value) (ta tb:TypeId):Box2 w ((w.alloc (.cells (trC t) ta)).alloc (.cells #[.bool f,sl] tb)) t f sl:=
 ⟨TrAt.two w t ta _,by rw [cellA (by simp)];rfl,by rw [cellA (by simp)];rfl,by simp,balloc2 _ _⟩
theorem Box2.next {sl:Value} (h:Box2 w w1 t f sl) (hb:Below w1.heap.size w1 w2):Box2 w w2 t f sl:=by
 have hz:=h.sz;refine⟨h.tr.below hb (by omega),?_,?_,by have:=hb.size;omega,h.bw.trans (hb.mono (by omega))⟩
 ·rw [hb.cell (by show w.heap.size+1<_;omega)];exact h.r0
 ·rw [hb.cell (by show w.heap.size+1<_;omega)];exact h.r1

theorem mul_bd {now tg:Int} (h1:0≤now) (h3:1≤tg):0≤mulc (clip now) (clip tg)∧mulc (clip now) (clip tg)≤1000000000000000:=by
 refine⟨?_,(clip_bd _).2⟩;unfold mulc;exact clip_ge (Int.mul_nonneg (clip_ge h1) (by have:=clip_pos h3;omega))
theorem want_none (tol:Int) (t:Tr) (a:Option Addr) (len cap:Nat) (X:Nat→Int) (w:World) (hk:t.k=1∨t.k=2) (h3:0≤tol) (h4:tol≤1000) (ht:1≤t.tg) (hm:len≤maxLen) (hX:IntsAt w a len X):
  CB 178 #[.int .i64 0,.int .i64 tol,trV t,rdV false a len cap] w (.tuple #[.int .i64 (podF t.k t.tg len X),.int .i64 0]):=by
 have cc:=fun w=>counts_any t w;have hd:decide (t.k=1∨t.k=2)=true:=by simp [hk]
 rw [hd]at cc;have hA:=fun ta o=>TrAt.two w t ta o;have co:=fun w' (hb:Below w.heap.size w w')=>ofr_yes t a len cap X w' ht hm (hX.below hb (Xa _));generalize decide (t.ac<metF t.k len X)=ac at co;generalize podF t.k t.tg len X=pd at co⊢;clear hd hk hX ht hm;go_enter func178,ntmps178
 go_wp2_with (first
  |(with_reducible refine wp_tr (hA _ _) (by with_unfolding_all rfl) ?_)
  |(go_at_call 192;(with_reducible refine zg (cc _) fun w1 hb1=>?_);have hK:=(Box2.mk2 w t false (.slice a len cap) _ _).next hb1;have hA1:=hK.tr;have r0:=hK.r0;have r1:=hK.r1)
  |(with_reducible refine wp_tr hA1 (by with_unfolding_all rfl) ?_)
  |(go_at_call 193;(with_reducible refine zg (co _ hK.bw) fun w2 hb2=>?_);have hw2:=hK.bw.trans (hb2.mono (Xc (Nat.le_add_right _ 2) hK.sz))))
 go_region
 all_goals
  go_wp2;go_ret2;exact⟨rfl,(hw2.alloc hw2.size _).drew⟩
