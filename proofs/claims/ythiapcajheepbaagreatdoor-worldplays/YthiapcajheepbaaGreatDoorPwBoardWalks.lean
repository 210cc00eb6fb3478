/- A part. -/
import Derived.Test.YthiapcajheepbaaGreatDoorPwTopWalks
import Derived.Deep.RegionLaw
set_option linter.all false
open Go.Proofs.Tryz
set_option maxHeartbeats 32000000
set_option maxRecDepth 8000
namespace Go.Proofs.YthiapcajheepbaaGreatDoor
namespace Top
open Go.RowKit
variable {i:Nat}

def BoardAt (w:World) (B P Q n:Nat) (E O:Nat→Int):Prop:=B≠P∧B≠Q∧P≠Q∧B<w.heap.size∧w.cell? ⟨B,0,none⟩=some (.slice (some ⟨P,0,none⟩) n n)∧w.cell? ⟨B,1,none⟩=some (.slice (some ⟨Q,0,none⟩) n n)∧Row1 w P n E∧Row1 w Q n O

section
variable {w w' : World} {B P Q n : Nat} {E O : Nat → Int}
theorem BoardAt.kept (h:BoardAt w B P Q n E O) (h1:w'.heap[B]? =w.heap[B]?) (h2:w'.heap[P]? =w.heap[P]?) (h3:w'.heap[Q]? =w.heap[Q]?):BoardAt w' B P Q n E O:=by
 obtain⟨a,b,c,d,e,f,g,h⟩:=h;refine⟨a,b,c,?_,?_,?_,g.kept h2,h.kept h3⟩
 ·rw [X7 d]at h1;exact(XM.1 h1).1
 ·rw [Xf (w:=w) (a:=⟨B,0,none⟩) h1];exact e
 ·rw [Xf (w:=w) (a:=⟨B,1,none⟩) h1];exact f
theorem BoardAt.below {N:Nat} (h:BoardAt w B P Q n E O) (hb:Below N w w') (h1:B<N) (h2:P<N) (h3:Q<N):BoardAt w' B P Q n E O:=h.kept (hb.block B h1) (hb.block P h2) (hb.block Q h3)
theorem BoardAt.only {g:Nat} (h:BoardAt w B P Q n E O) (hb:Only g w w') (h1:B≠g) (h2:P≠g) (h3:Q≠g):BoardAt w' B P Q n E O:=h.kept (hb.block B h1) (hb.block P h2) (hb.block Q h3)
end

theorem board_setP {w:World} {B P Q n:Nat} {E O:Nat→Int} (h:BoardAt w B P Q n E O) (hi:i<n) (x:Int):BoardAt (w.drew.setCell ⟨P,i,none⟩ (.int .i64 x)) B P Q n (upd E i x) O:=by
 have o:=Only.drew_set (G:=P) w ⟨P,i,none⟩ (.int .i64 x) rfl;obtain⟨a1,a2,a3,a4,a5,a6,a7,a8⟩:=h;refine⟨a1,a2,a3,by rw [o.size];exact a4,?_,?_,(a7.drew).set hi _,a8.only o (Ne.symm a3)⟩
 ·rw [Xf (w:=w) (a:=⟨B,0,none⟩) (o.block B a1)];exact a5
 ·rw [Xf (w:=w) (a:=⟨B,1,none⟩) (o.block B a1)];exact a6
theorem Only.drewN_set {G:Nat} (w:World) (a:Addr) (u:Value) (h:a.block=G) (q:Nat):Only G w ((w.drewN q).setCell a u):=⟨rfl,rfl,rfl,size_setCell (w:=w.drewN q) a u,fun k hk=>Below.heap_setCell (w.drewN q) a u k (by omega)⟩
theorem board_setQ {w:World} {B P Q n:Nat} {E O:Nat→Int} (h:BoardAt w B P Q n E O) (hi:i<n) (x:Int) (q:Nat):BoardAt ((w.drewN q).setCell ⟨Q,i,none⟩ (.int .i64 x)) B P Q n E (upd O i x):=by
 have o:=Only.drewN_set (G:=Q) w ⟨Q,i,none⟩ (.int .i64 x) rfl q;obtain⟨a1,a2,a3,a4,a5,a6,a7,a8⟩:=h;refine⟨a1,a2,a3,by rw [o.size];exact a4,?_,?_,a7.only o a3,(show Row1 (w.drewN q) Q n O from a8.kept rfl).set hi _⟩
 ·rw [Xf (w:=w) (a:=⟨B,0,none⟩) (o.block B a2)];exact a5
 ·rw [Xf (w:=w) (a:=⟨B,1,none⟩) (o.block B a2)];exact a6
theorem rclip_in (n:Int) (w:World) (h:0≤n∧n≤1000000000):
  CS 87 #[.int .i64 n] w (.int .i64 n):=by
 go_enter func87,ntmps87;go_wp2;go_ret;exact⟨rfl,rfl⟩
theorem rin_yes (n lo hi:Int) (w:World) (h1:lo≤n) (h2:n≤hi):
  CS 6 #[.int .i64 n,.int .i64 lo,.int .i64 hi] w (.bool true):=by
 have d1:decide (lo≤n)=true:=by simp [h1]
 have d2:decide (n≤hi)=true:=by simp [h2]
 go_enter func6,ntmps6;go_wp2;go_ret;exact⟨rfl,rfl⟩
theorem rin_no (n lo hi:Int) (w:World) (h: ¬(lo≤n∧n≤hi)):
  CS 6 #[.int .i64 n,.int .i64 lo,.int .i64 hi] w (.bool false):=by
 by_cases h1:lo≤n
 ·have d1:decide (lo≤n)=true:=by simp [h1]
  have d2:decide (n≤hi)=false:=by simp;omega
  clear h;go_enter func6,ntmps6;go_wp2;go_ret;exact⟨rfl,rfl⟩
 ·have d1:decide (lo≤n)=false:=by simp;omega
  clear h;go_enter func6,ntmps6;go_wp2;go_ret;exact⟨rfl,rfl⟩

theorem bMake_none (B P Q n:Nat) (E O:Nat→Int) (p x:Int) (w:World) (hA:BoardAt w B P Q n E O) (h1:1≤n) (h2:n≤20) (h: ¬(0≤p∧p<(n:Int))):
  CS 33 #[.pointer (some ⟨B,0,none⟩),.int .i64 p,.int .i64 x] w (.int .i64 4):=by
 obtain⟨_,_,_,_,c0,c1,_,_⟩:=hA;have c:=rin_no p 0 ((n:Int)-1) w (by omega);clear h;go_enter func33,ntmps33;go_wp2_with(go_at_call 6;(with_reducible refine c.mono ?_);rintro e w' ⟨rfl,rfl⟩)
 go_ret;exact⟨rfl,rfl⟩
theorem bMake_arg (B P Q n:Nat) (E O:Nat→Int) (p x:Int) (w:World) (hA:BoardAt w B P Q n E O) (h2:n≤20) (h0:0≤p) (h1:p<(n:Int)) (h: ¬(1≤x∧x≤100000)):
  CS 33 #[.pointer (some ⟨B,0,none⟩),.int .i64 p,.int .i64 x] w (.int .i64 1):=by
 obtain⟨_,_,_,_,c0,c1,_,_⟩:=hA;have c:=rin_yes p 0 ((n:Int)-1) w (by omega) (by omega);have d:=rin_no x 1 100000 w h;clear h;go_enter func33,ntmps33;go_wp2_with(first|(go_at_call 6;(with_reducible refine zq c ?_))|(go_at_call 6;(with_reducible refine zq d ?_)))
 go_ret;exact⟨rfl,rfl⟩
theorem bMake_yes (B P Q n i:Nat) (E O:Nat→Int) (x:Int) (w:World) (hA:BoardAt w B P Q n E O) (h2:n≤20) (hi:i<n) (hx:1≤x∧x≤100000) (hv:0≤E i∧E i≤100000000):
  Calls prog 33 #[.pointer (some ⟨B,0,none⟩),.int .i64 (i:Int),.int .i64 x] w fun e w'=>e=.returned (.int .i64 0)∧BoardAt w' B P Q n (upd E i (E i+x)) O∧Only P w w':=by
 have HA:=zh hA;obtain⟨hBP,hBQ,hPQ,_,c0,c1,hP,_⟩:=hA;have g0:=hP.2.1 i hi;have g1:=hP.2.2 i;clear hP;have c:=rin_yes i 0 ((n:Int)-1) w (by omega) (by omega);have d:=rin_yes x 1 100000 w (by omega) (by omega);have f:=fun w=>rclip_in (E i+x) w (by omega);have hi':(i:Int)<n:=by omega
 go_enter func33,ntmps33;go_wp2_with(first|(go_at_call 6;(with_reducible refine zq c ?_))|(go_at_call 6;(with_reducible refine zq d ?_)))
 have hwr:IntKind.i64.wrap (E i+x)=E i+x:=by rw [IntKind.wrap_i64];omega
 go_region_with (go_at_call 87;(with_reducible refine(f _).mono ?_);rintro e w' ⟨rfl,rfl⟩)
 all_goals go_wp2
 all_goals go_ret
 all_goals
  have o:=Only.drew_set (G:=P) w ⟨P,i,none⟩ (.int .i64 (E i+x)) rfl;exact⟨rfl,board_setP HA.out hi (E i+x),o⟩

theorem bTake_none (B P Q n:Nat) (E O:Nat→Int) (p x:Int) (w:World) (hA:BoardAt w B P Q n E O) (h1:1≤n) (h2:n≤20) (h: ¬(0≤p∧p<(n:Int))):
  CS 34 #[.pointer (some ⟨B,0,none⟩),.int .i64 p,.int .i64 x] w (.int .i64 4):=by
 obtain⟨_,_,_,_,c0,c1,_,_⟩:=hA;have c:=rin_no p 0 ((n:Int)-1) w (by omega);clear h;go_enter func34,ntmps34;go_wp2_with(go_at_call 6;(with_reducible refine c.mono ?_);rintro e w' ⟨rfl,rfl⟩)
 go_ret;exact⟨rfl,rfl⟩
theorem bTake_no (B P Q n i:Nat) (E O:Nat→Int) (x:Int) (w:World) (hA:BoardAt w B P Q n E O) (h2:n≤20) (hi:i<n) (hx: ¬(O i≤x∧x≤E i)):
  Calls prog 34 #[.pointer (some ⟨B,0,none⟩),.int .i64 (i:Int),.int .i64 x] w fun e w'=>e=.returned (.int .i64 1)∧ ∃q,w'=w.drewN q:=by
 obtain⟨hBP,hBQ,hPQ,_,c0,c1,hP,hQ⟩:=hA;have g0:=hP.2.1 i hi;have g1:=hQ.2.1 i hi;clear hP hQ;have c:=rin_yes i 0 ((n:Int)-1) w (by omega) (by omega);have d:=fun w=>rin_no x (O i) (E i) w hx;have hi':(i:Int)<n:=by omega
 clear hx;go_enter func34,ntmps34;go_wp2_with(first|(go_at_call 6;(with_reducible refine zq c ?_)))
 go_quiet (first|(go_at_call 6;with_reducible refine Calls.quiet_of_same (d _)))
 go_wp2;go_ret;exact⟨rfl,nq,rfl⟩
theorem bTake_yes (B P Q n i:Nat) (E O:Nat→Int) (x:Int) (w:World) (hA:BoardAt w B P Q n E O) (h2:n≤20) (hi:i<n) (hx1:O i≤x) (hx2:x≤E i):
  Calls prog 34 #[.pointer (some ⟨B,0,none⟩),.int .i64 (i:Int),.int .i64 x] w fun e w'=>e=.returned (.int .i64 0)∧BoardAt w' B P Q n E (upd O i x)∧Only Q w w':=by
 have HA:=zh hA;obtain⟨hBP,hBQ,hPQ,_,c0,c1,hP,hQ⟩:=hA;have g0:=hP.2.1 i hi;have g1:=hQ.2.1 i hi;have g2:=hQ.2.2 i;clear hP hQ;have c:=rin_yes i 0 ((n:Int)-1) w (by omega) (by omega);have d:=fun w=>rin_yes x (O i) (E i) w hx1 hx2;have hi':(i:Int)<n:=by omega
 clear hx1 hx2;go_enter func34,ntmps34;go_wp2_with(first|(go_at_call 6;(with_reducible refine zq c ?_)))
 go_quiet (first|(go_at_call 6;with_reducible refine Calls.quiet_of_same (d _)))
 go_wp2;go_ret;exact⟨rfl,board_setQ HA.out hi x nq,Only.drewN_set (G:=Q) w ⟨Q,i,none⟩ _ rfl nq⟩

theorem step_own {P:Program} {ops:Array Oper} {o:Oper} {a:Act} {w:World} {K:Act→World→Prop} {Q:Exit→Act→World→Prop} {E:Prop}
  (hg:o.guard=none) (s x:Operand) (t:TypeId) (hop:o.op=Op.call { callee:=Callee.builtin Builtin.append,args:=#[s,x],argTypes:=#[t,t] })
  (base:Nat) (e:TypeId) (i:TypeInfo) (z:Value) (size bytes:Nat) (h1:P.underlying t=some (.slice e)) (h2:P.info? e=some i) (h3:i.zero=some z) (h4:i.size=size) (h5:i.bytes=bytes) (h6:z.cells.size=size) (h7:0<size)
  (v:Value) (n:Nat) (xs:List Value) (hs:a.eval s=v) (hown:w.ownsRow base e size v n xs)
  (ad:Addr) (m c:Nat) (news:List Value) (hx:a.eval x=.slice (some ad) m c) (hn:news.length=m*size) (hc: ∀j u,news[j]? =some u→w.cell? (ad.add j)=some u) (h1c: ∀u∈news,u.oneCell'=true)
  (b1:n+m≤maxLen) (b2:(n+m)*bytes≤140737488355328) (hb:base≤w.heap.size)
  (hK: ∀v' w',w'.ownsRow base e size v' (n+m) (xs++news)→w.grownBy w' v.ownBlock→(v'=.slice none 0 0↔v=.slice none 0 0∧m=0)→K (a.put o.dst v') w'):
  if Region.wanted o (yielded ops a.tmps)=true then Oper.wp P o a w K Q else E:=by
 have hw:Region.wanted o (yielded ops a.tmps)=true:=by simp [Region.wanted,hg]
 rw [if_pos hw];exact wp_append_own w s x t hop base e i z size bytes h1 h2 h3 h4 h5 h6 h7 v n xs hs hown ad m c news hx hn hc h1c b1 b2 hb hK

theorem cell_one (w:World) (e:TypeId) (v:Value): ∀(j:Nat) (u:Value),[v][j]? =some u→(w.alloc (.cells #[v] e)).cell? ((⟨w.heap.size,0,none⟩:Addr).add j)=some u:=by
 intro j u h;match j,h with
 |0,h=>simp at h;subst h;simp [Addr.add]
 |j+1,h=>simp at h

def lagsL (E O:Nat→Int) (k:Nat):List Value:=(List.range k).map fun j=> .int .i64 (E j-O j)
theorem lagsL_step (E O:Nat→Int) (k:Nat):lagsL E O k++ [.int .i64 (E k-O k)]=lagsL E O (k+1):=by
 unfold lagsL;rw [List.range_succ,X2];rfl
def BLagR (E O:Nat→Int) (n:Nat) (w:World) (v i:Value) (wr:World):Prop:= ∃(k:Nat) (ao:Option Addr) (cv:Nat),k≤n∧i=.int .i64 k∧v=.slice ao k cv∧wr.ownsRow w.heap.size 3 1 v k (lagsL E O k)∧Below w.heap.size w wr

theorem bLags (B P Q n:Nat) (E O:Nat→Int) (w:World) (hA:BoardAt w B P Q n E O) (h1:1≤n) (hn:n≤20) (hbd: ∀i,i<n→0≤O i∧O i≤E i∧E i≤100000000):
  Calls prog 54 #[.pointer (some ⟨B,0,none⟩)] w fun e w'=> ∃L c,e=.returned (.slice (some ⟨L,0,none⟩) n c)∧w.heap.size≤L∧Row1 w' L n (dif E O)∧Below w.heap.size w w':=by
 obtain⟨i0,hi,hz0,hz1,hz2⟩:=info_parts info_int;obtain⟨hBP,hBQ,hPQ,hBl,c0,c1,hP,hQ⟩:=hA;go_enter func54,ntmps54;go_wp2;go_loopw [3,4] (fun v i wr=>BLagR E O n w v i wr) (fun _ i _=>n-(intOf i).toNat)
 case atStart=>exact⟨0,none,0,by omega,rfl,rfl,XO _ _ _ _,Below.refl _ _⟩
 case round=>
  obtain⟨k,ao,cv,hk,rfl,rfl,hown,hbw⟩:=hrel;have d0:wr.cell? ⟨B,0,none⟩=some (.slice (some ⟨P,0,none⟩) n n):=(hbw.cell hBl).trans c0;have d1:wr.cell? ⟨B,1,none⟩=some (.slice (some ⟨Q,0,none⟩) n n):=(hbw.cell hBl).trans c1;have hsz:=hbw.size;by_cases hlt:k<n
  ·have hlt':(k:Int)<n:=by omega
   have bk:=hbd k hlt;have e0:=(hP.below hbw hP.lt).2.1 k hlt;have e1:=(hQ.below hbw hQ.lt).2.1 k hlt;have hwr:IntKind.i64.wrap (E k-O k)=E k-O k:=by rw [IntKind.wrap_i64];omega
   go_wp2_with fail
   go_region_law (refine step_own rfl (.tmp 14) (.tmp 30) 54 rfl w.heap.size 3 i0 (.int .i64 0) 1 8 underlying54 hi hz0 hz1 hz2 rfl (by decide) _ k (lagsL E O k) rfl ((hown.drew).alloc _) ⟨wr.heap.size,0,none⟩ 1 1 [.int .i64 (E k-O k)] rfl rfl (cell_one _ _ _) (fun u hu=>by simp at hu;subst hu;rfl) (by unfold maxLen;omega) (by omega) (by simp;omega) ?_;intro v' w3 hown3 hgrow3 hnil3)
   all_goals
    have hB3:Below w.heap.size w w3:=((hbw.drew).alloc hsz _).grown hgrow3 (by simp;omega) (fun q hq=>(hown.lt q hq).1);obtain⟨g3,cap3,hv3⟩: ∃g3 cap3,v'=.slice (some ⟨g3,0,none⟩) (k+1) cap3:=by
     rcases hown3.2 with⟨_,h⟩|⟨g3,cap3,_,h,_⟩
     ·omega
     ·exact⟨g3,cap3,h⟩
    subst hv3;rw [lagsL_step]at hown3;go_wp2;go_roundw
    case rel=>exact⟨k+1,some ⟨g3,0,none⟩,cap3,by omega,rfl,rfl,hown3,hB3⟩
    case measure=>simp [intOf];omega
  ·obtain rfl:k=n:=by omega
   go_wp2;go_ret;obtain⟨g3,cap3,hv3⟩: ∃g3 cap3,Value.slice ao k cv=.slice (some ⟨g3,0,none⟩) k cap3:=by
    rcases hown.2 with⟨_,h⟩|⟨g3,cap3,_,h,_⟩
    ·omega
    ·exact⟨g3,cap3,h⟩
   cases hv3;exact⟨g3,cv,rfl,(hown.lt g3 rfl).1,Row1.of_owns hown (fun i hi=>by simp [lagsL,dif,hi]),hbw⟩
