/- A part. -/
import Derived.Test.YthiapcajheepbaaGreatDoorRows
import Derived.ProofKit
import Derived.Deep.QuietTactic
import Derived.Deep.RegionWith
import Derived.Test.YthiapcajheepbaaGreatDoorPwNumPlain
set_option linter.all false
open Go.Proofs.Tryz
set_option maxHeartbeats 32000000
set_option maxRecDepth 8000
namespace Go.Proofs.YthiapcajheepbaaGreatDoor
namespace Top
open Go.RowKit
variable {B:Nat}

theorem info_int:(prog.info? 3).map (fun i=>(i.zero,i.size,i.bytes))=some (some (.int .i64 0),1,8):=by kernel_rfl
theorem info_part:(prog.info? 142).map (fun i=>(i.zero,i.size,i.bytes))=some (some (.agg #[.int .i64 0,.int .i64 0]),2,16):=by kernel_rfl

theorem clip_in (n:Int) (w:World) (h:0≤n∧n≤1000000000):
  CS 120 #[.int .i64 n] w (.int .i64 n):=by
 go_enter func120,ntmps120;go_wp2;go_ret;exact⟨rfl,rfl⟩
theorem add_in (a b:Int) (w:World) (ha:0≤a∧a≤100000000) (hb:0≤b∧b≤100000000):
  CS 67 #[.int .i64 a,.int .i64 b] w (.int .i64 (a+b)):=by
 have c1:=fun w=>clip_in a w (by omega);have c2:=fun w=>clip_in b w (by omega);have c3:=fun w=>clip_in (a+b) w (by omega);go_enter func67,ntmps67;go_wp2_with(first|(go_at_call 120;(with_reducible refine(c1 _).mono ?_);rintro e w' ⟨rfl,rfl⟩)|(go_at_call 120;(with_reducible refine(c2 _).mono ?_);rintro e w' ⟨rfl,rfl⟩)|(go_at_call 120;(with_reducible refine(c3 _).mono ?_);rintro e w' ⟨rfl,rfl⟩))
 go_ret;exact⟨rfl,rfl⟩

theorem has_no (T G n:Nat) (p:Int) (w:World) (hT:w.cell? ⟨T,43,none⟩=some (.slice (some ⟨G,0,none⟩) n n)) (h: ¬(0≤p∧p<(n:Int))):
  CS 66 #[.pointer (some ⟨T,43,none⟩),.int .i64 p] w (.bool false):=by
 by_cases h0:0≤p
 ·have h1: ¬p<(n:Int):=fun g=>h ⟨h0,g⟩;clear h;go_enter func66,ntmps66;go_wp2;go_ret;exact⟨rfl,rfl⟩
 ·clear h;go_enter func66,ntmps66;go_wp2;go_ret;exact⟨rfl,rfl⟩
theorem has_yes (T G n:Nat) (p:Int) (w:World) (hT:w.cell? ⟨T,43,none⟩=some (.slice (some ⟨G,0,none⟩) n n)) (h0:0≤p) (h1:p<(n:Int)):
  CS 66 #[.pointer (some ⟨T,43,none⟩),.int .i64 p] w (.bool true):=by
 go_enter func66,ntmps66;go_wp2;go_ret;exact⟨rfl,rfl⟩

theorem make_none (T G n:Nat) (p x:Int) (w:World) (hT:w.cell? ⟨T,43,none⟩=some (.slice (some ⟨G,0,none⟩) n n)) (h: ¬(0≤p∧p<(n:Int))):
  CS 20 #[.pointer (some ⟨T,43,none⟩),.int .i64 p,.int .i64 x] w (.int .i64 4):=by
 have c:=has_no T G n p w hT h;clear h;go_enter func20,ntmps20;go_wp2_with(go_at_call 66;(with_reducible refine c.mono ?_);rintro e w' ⟨rfl,rfl⟩)
 go_ret;exact⟨rfl,rfl⟩
theorem make_arg (T G n:Nat) (p x:Int) (w:World) (hT:w.cell? ⟨T,43,none⟩=some (.slice (some ⟨G,0,none⟩) n n)) (h0:0≤p) (h1:p<(n:Int)) (h: ¬(1≤x∧x≤100000)):
  CS 20 #[.pointer (some ⟨T,43,none⟩),.int .i64 p,.int .i64 x] w (.int .i64 1):=by
 have c:=has_yes T G n p w hT h0 h1;by_cases h2:x<1
 ·go_enter func20,ntmps20;go_wp2_with(go_at_call 66;(with_reducible refine c.mono ?_);rintro e w' ⟨rfl,rfl⟩)
  go_ret;exact⟨rfl,rfl⟩
 ·have h3:100000<x:=by omega
  go_enter func20,ntmps20;go_wp2_with(go_at_call 66;(with_reducible refine c.mono ?_);rintro e w' ⟨rfl,rfl⟩)
  go_ret;exact⟨rfl,rfl⟩
theorem make_yes (T G n i:Nat) (x v:Int) (w:World) (hT:w.cell? ⟨T,43,none⟩=some (.slice (some ⟨G,0,none⟩) n n)) (hi:i<n) (h1:1≤x∧x≤100000)
  (hc:w.cell? ⟨G,i*2,none⟩=some (.int .i64 v)) (hf:w.frozen? ⟨G,i*2,none⟩=false) (hv:0≤v∧v≤100000000):
  Calls prog 20 #[.pointer (some ⟨T,43,none⟩),.int .i64 (i:Int),.int .i64 x] w fun e w'=>e=.returned (.int .i64 0)∧w'=w.drew.setCell ⟨G,i*2,none⟩ (.int .i64 (v+x)):=by
 have c:=has_yes T G n i w hT (by omega) (by omega);have c2:=fun w=>add_in v x w hv (by omega);have hi':(i:Int)<n:=by omega
 go_enter func20,ntmps20;go_wp2_with(go_at_call 66;(with_reducible refine zq c ?_))
 go_region_with (go_at_call 67;(with_reducible refine(c2 _).mono ?_);rintro e w' ⟨rfl,rfl⟩)
 all_goals go_wp2
 all_goals go_ret
 all_goals exact⟨rfl,rfl⟩

theorem take_none (T G n:Nat) (p x:Int) (w:World) (hT:w.cell? ⟨T,43,none⟩=some (.slice (some ⟨G,0,none⟩) n n)) (h: ¬(0≤p∧p<(n:Int))):
  CS 21 #[.pointer (some ⟨T,43,none⟩),.int .i64 p,.int .i64 x] w (.int .i64 4):=by
 have c:=has_no T G n p w hT h;clear h;go_enter func21,ntmps21;go_wp2_with(go_at_call 66;(with_reducible refine c.mono ?_);rintro e w' ⟨rfl,rfl⟩)
 go_ret;exact⟨rfl,rfl⟩
theorem take_arg (T G n i:Nat) (x v o:Int) (w:World) (hT:w.cell? ⟨T,43,none⟩=some (.slice (some ⟨G,0,none⟩) n n)) (hi:i<n) (h: ¬(o≤x∧x≤v))
  (hc:w.cell? ⟨G,i*2,none⟩=some (.int .i64 v)) (ho:w.cell? ⟨G,i*2+1,none⟩=some (.int .i64 o)):
  CS 21 #[.pointer (some ⟨T,43,none⟩),.int .i64 (i:Int),.int .i64 x] w (.int .i64 1):=by
 have c:=has_yes T G n i w hT (by omega) (by omega);have hi':(i:Int)<n:=by omega
 by_cases h2:x<o
 ·go_enter func21,ntmps21;go_wp2_with(go_at_call 66;(with_reducible refine zq c ?_))
  go_ret;exact⟨rfl,rfl⟩
 ·have h3:v<x:=by omega
  go_enter func21,ntmps21;go_wp2_with(go_at_call 66;(with_reducible refine zq c ?_))
  go_ret;exact⟨rfl,rfl⟩
theorem take_yes (T G n i:Nat) (x v o:Int) (w:World) (hT:w.cell? ⟨T,43,none⟩=some (.slice (some ⟨G,0,none⟩) n n)) (hi:i<n) (h1:o≤x) (h2:x≤v)
  (hc:w.cell? ⟨G,i*2,none⟩=some (.int .i64 v)) (ho:w.cell? ⟨G,i*2+1,none⟩=some (.int .i64 o)) (hf:w.frozen? ⟨G,i*2+1,none⟩=false):
  Calls prog 21 #[.pointer (some ⟨T,43,none⟩),.int .i64 (i:Int),.int .i64 x] w fun e w'=>e=.returned (.int .i64 0)∧w'=w.setCell ⟨G,i*2+1,none⟩ (.int .i64 x):=by
 have c:=has_yes T G n i w hT (by omega) (by omega);have hi':(i:Int)<n:=by omega
 have g1: ¬x<o:=by omega
 have g2: ¬v<x:=by omega
 go_enter func21,ntmps21;go_wp2_with(go_at_call 66;(with_reducible refine zq c ?_))
 go_ret;exact⟨rfl,rfl⟩

theorem new_no (p:Int) (w:World) (h: ¬(1≤p∧p≤20)):
  CS 12 #[.int .i64 p] w (.tuple #[.pointer none,.int .i64 1]):=by
 by_cases h2:p<1
 ·go_enter func12,ntmps12;go_wp2;go_ret2;exact⟨rfl,rfl⟩
 ·have h3:20<p:=by omega
  go_enter func12,ntmps12;go_wp2;go_ret2;exact⟨rfl,rfl⟩

theorem made2 (m j:Nat) (h:j<m):(madeCells #[.int .i64 0,.int .i64 0] m).toList[j]? =some (.int .i64 0):=by
 have:j%2=0∨j%2=1:=by omega
 rcases this with g|g<;>simp [madeCells,h,g]
theorem made1 (m j:Nat) (h:j<m):(madeCells #[.int .i64 0] m).toList[j]? =some (.int .i64 0):=by
 simp [madeCells,h,Nat.mod_one]

def TopAt (w:World) (T G n:Nat) (E O:Nat→Int):Prop:=T≠G∧T<w.heap.size∧w.cell? ⟨T,43,none⟩=some (.slice (some ⟨G,0,none⟩) n n)∧Row2 w G n E O

theorem new_yes (n:Nat) (w:World) (h1:1≤n) (h2:n≤20):
  Calls prog 12 #[.int .i64 (n:Int)] w fun e w'=> ∃T G,e=.returned (.tuple #[.pointer (some ⟨T,0,none⟩),.int .i64 0])∧w.heap.size≤T∧w.heap.size≤G∧(T≠G∧T<w'.heap.size∧w'.cell? ⟨T,0,none⟩=some (.slice (some ⟨G,0,none⟩) n n)∧Row2 w' G n (fun _=>0) (fun _=>0))∧Below w.heap.size w w':=by
 obtain⟨i0,hi,hz0,hz1,hz2⟩:=info_parts info_part;go_enter func12,ntmps12;go_wp2_with(at_make;refine wpList_make_full _ rfl _ _ 57 rfl w.heap.size 142 i0 _ 2 underlying57 hi hz0 hz1 _ _ _ _ n rfl rfl rfl rfl (by rw [hz2];omega) (by unfold maxLen;omega) (Xa _) ?_;intro w1 hown hgrow)
 go_ret2;have hb1:Below w.heap.size w w1:=(Below.refl _ _).grown hgrow (Xa _) (fun _ h=>by cases h);have hR:Row2 w1 w.heap.size n (fun _=>0) (fun _=>0):=Row2.of_owns hown (fun i hi=>⟨made2 _ _ (by omega),made2 _ _ (by omega)⟩);have hlt:=hR.lt;refine⟨w1.heap.size,w.heap.size,rfl,by omega,Xa _,⟨by omega,by simp,?_,hR.alloc _⟩,hb1.alloc hb1.size _⟩;simp

def dif (E O:Nat→Int):Nat→Int:=fun i=>E i-O i
def sofar (E O:Nat→Int) (k:Nat):Nat→Int:=fun i=>if i<k then E i-O i else 0
theorem sofar_step (E O:Nat→Int) (k:Nat):upd (sofar E O k) k (E k-O k)=sofar E O (k+1):=by
 funext i;unfold upd sofar;by_cases h:i=k
 ·subst h;simp
 ·by_cases g:i<k
  ·simp [h,g,show i<k+1 by omega]
  ·simp [h,g,show¬i<k+1 by omega]
def LagR (E O:Nat→Int) (L n:Nat) (w:World) (i:Value) (wr:World):Prop:= ∃k:Nat,k≤n∧i=.int .i64 k∧Row1 wr L n (sofar E O k)∧Below w.heap.size w wr

theorem lags_any (T G n:Nat) (E O:Nat→Int) (w:World) (hA:TopAt w T G n E O) (hn:n≤20) (hbd: ∀i,i<n→0≤O i∧O i≤E i∧E i≤100000000):
  Calls prog 96 #[.pointer (some ⟨T,43,none⟩)] w fun e w'=> ∃L,e=.returned (.slice (some ⟨L,0,none⟩) n n)∧w.heap.size≤L∧Row1 w' L n (dif E O)∧Below w.heap.size w w':=by
 obtain⟨i0,hi,hz0,hz1,hz2⟩:=info_parts info_int;obtain⟨hTG,hTl,hT,hR⟩:=hA;go_enter func96,ntmps96;go_wp2_with(at_make;refine wpList_make_full _ rfl _ _ 54 rfl w.heap.size 3 i0 _ 1 underlying54 hi hz0 hz1 _ _ _ _ n rfl rfl rfl rfl (by rw [hz2];omega) (by unfold maxLen;omega) (Xa _) ?_;intro w1 hown hgrow;have hb1:Below w.heap.size w w1:=(Below.refl _ _).grown hgrow (Xa _) (fun _ h=>by cases h);have hT1:w1.cell? ⟨T,43,none⟩=some (.slice (some ⟨G,0,none⟩) n n):=(hb1.cell hTl).trans hT)
 have hX:Hid (Row1 w1 w.heap.size n (sofar E O 0)):=Row1.of_owns hown (fun i hi=>by rw [show sofar E O 0 i=0 by simp [sofar]];exact made1 (n*1) i (by omega));clear hown hgrow;go_loopw [17] (fun i wr=>LagR E O w.heap.size n w i wr) (fun i _=>n-(intOf i).toNat)
 case atStart=>exact⟨0,by omega,rfl,hX.out,hb1⟩
 case round=>
  obtain⟨k,hk,rfl,hX2,hbw⟩:=hrel;by_cases hlt:k<n
  ·have hlt':(k:Int)<n:=by omega
   have hR2:Row2 wr G n E O:=hR.below hbw hR.lt;have c1:=(hR2.2.1 k hlt).1;have c2:=(hR2.2.1 k hlt).2;have hb3:=hbd k hlt;have c3:=hX2.2.1 k hlt;have f3:=hX2.2.2 k;have hl3:=hX2.lt;have hGl:=hR2.lt;go_wp2;go_roundw
   case rel=>
    refine⟨k+1,by omega,rfl,?_,?_⟩
    ·rw [←sofar_step];exact(hX2.set hlt _).alloc _
    ·exact(hbw.setCell (Xa _) _).alloc (by rw [size_setCell];exact hbw.size) _
   case measure=>simp [intOf];omega
  ·obtain rfl:k=n:=by omega
   go_wp2;go_ret;exact⟨w.heap.size,rfl,Xa _,hX2.ext (fun i hi=>by simp [dif,sofar,hi]),hbw⟩

def EqR (n:Nat) (w:World) (i:Value) (wr:World):Prop:= ∃k q:Nat,k≤n∧i=.int .i64 k∧wr=w.drewN q

theorem equal_yes (A B n c d:Nat) (X Y:Nat→Int) (w:World) (hX:Row1 w A n X) (hY:Row1 w B n Y) (hn:n≤20) (he: ∀i,i<n→X i=Y i):
  Calls prog 52 #[.slice (some ⟨A,0,none⟩) n c,.slice (some ⟨B,0,none⟩) n d] w fun e w'=>e=.returned (.bool true)∧ ∃q,w'=w.drewN q:=by
 go_enter func52,ntmps52;go_wp2;go_loopw [13] (fun i wr=>EqR n w i wr) (fun i _=>n-(intOf i).toNat)
 case atStart=>exact⟨0,0,by omega,rfl,rfl⟩
 case round=>
  obtain⟨k,q,hk,rfl,hq⟩:=hrel;have HQ:=zh hq;by_cases hlt:k<n
  ·have hlt':(k:Int)<n:=by omega
   have c1:wr.cell? ⟨A,k,none⟩=some (.int .i64 (X k)):=by rw [hq];exact hX.2.1 k hlt
   have c2:wr.cell? ⟨B,k,none⟩=some (.int .i64 (X k)):=by rw [hq,he k hlt];exact hY.2.1 k hlt
   clear hq;go_wp2_with fail
   go_quiet (fail)
   go_wp2;go_roundw
   case rel=>exact⟨k+1,q+nq,by omega,rfl,by rw [HQ.out,World.drewN_drewN]⟩
   case measure=>simp [intOf];omega
  ·obtain rfl:k=n:=by omega
   go_wp2;go_ret;exact⟨rfl,q,rfl⟩

structure Only (G:Nat) (w w':World):Prop where
 os:w'.os=w.os
 tape:w'.tape=w.tape
 output:w'.output=w.output
 size:w'.heap.size=w.heap.size
 block: ∀k,k≠G→w'.heap[k]? =w.heap[k]?

section
variable {w w' : World} {G T n : Nat} {X E O : Nat → Int}
theorem Only.below (h:Only G w w') (hB:B≤G):Below B w w':=⟨h.os,h.tape,h.output,Nat.le_of_eq h.size.symm,fun k hk=>h.block k (by omega)⟩
theorem Only.refl (G:Nat) (w:World):Only G w w:=⟨rfl,rfl,rfl,rfl,fun _ _=>rfl⟩
theorem Only.set (w:World) (a:Addr) (u:Value) (h:a.block=G):Only G w (w.setCell a u):=⟨rfl,rfl,rfl,size_setCell a u,fun k hk=>Below.heap_setCell w a u k (by omega)⟩
theorem Only.drew_set (w:World) (a:Addr) (u:Value) (h:a.block=G):Only G w (w.drew.setCell a u):=⟨rfl,rfl,rfl,size_setCell (w:=w.drew) a u,fun k hk=>Below.heap_setCell w.drew a u k (by omega)⟩
theorem Row1.only (h:Row1 w T n X) (g:Only G w w') (hne:T≠G):Row1 w' T n X:=h.kept (g.block T hne)
theorem Row2.only (h:Row2 w T n E O) (g:Only G w w') (hne:T≠G):Row2 w' T n E O:=h.kept (g.block T hne)

theorem TopAt.kept (h:TopAt w T G n E O) (h1:w'.heap[T]? =w.heap[T]?) (h2:w'.heap[G]? =w.heap[G]?):TopAt w' T G n E O:=by
 obtain⟨a,b,c,d⟩:=h;refine⟨a,?_,?_,d.kept h2⟩
 ·rw [X7 b]at h1;exact(XM.1 h1).1
 ·rw [Xf (w:=w) (a:=⟨T,43,none⟩) h1];exact c
theorem TopAt.below (h:TopAt w T G n E O) (hb:Below B w w') (hT:T<B) (hG:G<B):TopAt w' T G n E O:=h.kept (hb.block T hT) (hb.block G hG)
theorem TopAt.only {g:Nat} (h:TopAt w T G n E O) (hb:Only g w w') (hT:T≠g) (hG:G≠g):TopAt w' T G n E O:=h.kept (hb.block T hT) (hb.block G hG)
theorem below_drewN (h:Below B w w') (q:Nat):Below B w (w'.drewN q):=⟨h.os,h.tape,h.output,h.size,h.block⟩
theorem TopAt.drewN (h:TopAt w T G n E O) (q:Nat):TopAt (w.drewN q) T G n E O:=h.kept rfl rfl
end

theorem topMake (T G n i:Nat) (x:Int) (E O:Nat→Int) (w:World) (hA:TopAt w T G n E O) (hi:i<n) (h1:1≤x∧x≤100000) (hv:0≤E i∧E i≤100000000):
  Calls prog 20 #[.pointer (some ⟨T,43,none⟩),.int .i64 (i:Int),.int .i64 x] w fun e w'=>e=.returned (.int .i64 0)∧TopAt w' T G n (upd E i (E i+x)) O∧Only G w w':=by
 obtain⟨a,b,c,d⟩:=hA;refine(make_yes T G n i x (E i) w c hi h1 (d.2.1 i hi).1 (d.2.2 _) hv).mono ?_;rintro e w' ⟨rfl,rfl⟩;have o:=Only.drew_set (G:=G) w ⟨G,i*2,none⟩ (.int .i64 (E i+x)) rfl;refine⟨rfl,⟨a,by rw [o.size];exact b,?_,(d.drew).setE hi _⟩,o⟩;rw [Xf (w:=w) (a:=⟨T,43,none⟩) (o.block T a)];exact c
theorem topTake (T G n i:Nat) (x:Int) (E O:Nat→Int) (w:World) (hA:TopAt w T G n E O) (hi:i<n) (h1:O i≤x) (h2:x≤E i):
  Calls prog 21 #[.pointer (some ⟨T,43,none⟩),.int .i64 (i:Int),.int .i64 x] w fun e w'=>e=.returned (.int .i64 0)∧TopAt w' T G n E (upd O i x)∧Only G w w':=by
 obtain⟨a,b,c,d⟩:=hA;refine(take_yes T G n i x (E i) (O i) w c hi h1 h2 (d.2.1 i hi).1 (d.2.1 i hi).2 (d.2.2 _)).mono ?_;rintro e w' ⟨rfl,rfl⟩;have o:=Only.set (G:=G) w ⟨G,i*2+1,none⟩ (.int .i64 x) rfl;refine⟨rfl,⟨a,by rw [o.size];exact b,?_,d.setO hi _⟩,o⟩;rw [Xf (w:=w) (a:=⟨T,43,none⟩) (o.block T a)];exact c
theorem topTake_no (T G n i:Nat) (x:Int) (E O:Nat→Int) (w:World) (hA:TopAt w T G n E O) (hi:i<n) (h: ¬(O i≤x∧x≤E i)):
  CS 21 #[.pointer (some ⟨T,43,none⟩),.int .i64 (i:Int),.int .i64 x] w (.int .i64 1):=
 take_arg T G n i x (E i) (O i) w hA.2.2.1 hi h (hA.2.2.2.2.1 i hi).1 (hA.2.2.2.2.1 i hi).2

def two (x:Int):Nat→Int:=upd (fun _=>0) 1 x
theorem run_made (w:World) (n:Nat) (h:n≤20):(Instr.makeSlice 54 (.int .i64 (n:Int)) (.int .i64 (n:Int))).run prog w=.ok (.slice (some ⟨w.heap.size,0,none⟩) n n) (w.alloc (.cells (madeCells #[.int .i64 0] n) 3)):=by
 obtain⟨i,hi,hz0,hz1,hz2⟩:=info_parts info_int;have hr:=run_make (P:=prog) w 54 3 i _ underlying54 hi hz0 .i64 .i64 (n:Int) (n:Int) (by omega) (Xu _) (by rw [hz2];omega) (by omega);rw [hz1,Nat.mul_one,XI]at hr;exact hr
