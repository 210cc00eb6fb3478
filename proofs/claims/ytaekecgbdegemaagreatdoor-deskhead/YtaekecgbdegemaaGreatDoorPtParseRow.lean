/- A part. -/
import Derived.Test.YtaekecgbdegemaaGreatDoorPtCutWalks
import Derived.Lib.SlicesS
import Derived.Handy
set_option linter.all false
open Go.Proofs.Tryz
set_option maxHeartbeats 32000000
set_option maxRecDepth 8000
namespace Go.Proofs.YtaekecgbdegemaaGreatDoor
namespace Pie
open Go.RowKit Crn
variable {W w':World} {N:Nat} {lo hi n m a v:Int} {t:List UInt8} {o:Bool} {p:Int×Int×Int}

theorem box_two (w:World) (A B:Array Value) (ta tb:TypeId):(∀o,((w.alloc (.cells A ta)).alloc (.cells B tb)).cell? ⟨w.heap.size,o,none⟩=A[o]?)∧(∀o,((w.alloc (.cells A ta)).alloc (.cells B tb)).cell? ⟨w.heap.size+1,o,none⟩=B[o]?)∧
  (∀o,((w.alloc (.cells A ta)).alloc (.cells B tb)).frozen? ⟨w.heap.size+1,o,none⟩=false)∧w.heap.size+1<((w.alloc (.cells A ta)).alloc (.cells B tb)).heap.size∧Below w.heap.size w ((w.alloc (.cells A ta)).alloc (.cells B tb)):=by
 have e:w.heap.size+1=(w.alloc (.cells A ta)).heap.size:=by simp
 refine⟨fun o=> ?_,fun o=> ?_,fun o=> ?_,by simp,((Below.refl _ _).alloc (Xa _) _).alloc (by simp) _⟩
 ·rw [Xf (w:=w.alloc (.cells A ta)) (a:=⟨w.heap.size,o,none⟩) (Below.heap_alloc _ _ _ (by simp))];simp
 ·rw [e];simp
 ·rw [e];simp
theorem cells_on {A:Array Value} (h: ∀o,W.cell? ⟨N,o,none⟩=A[o]?) (hb:Below W.heap.size W w') (hN:N<W.heap.size): ∀o,w'.cell? ⟨N,o,none⟩=A[o]? :=
 fun o=>(hb.cell (p:=⟨N,o,none⟩) hN).trans (h o)
theorem free_on (h: ∀o,W.frozen? ⟨N,o,none⟩=false) (hb:Below W.heap.size W w') (hN:N<W.heap.size): ∀o,w'.frozen? ⟨N,o,none⟩=false:=
 fun o=>(hb.frozen (p:=⟨N,o,none⟩) hN).trans (h o)
theorem below_drewN {B:Nat} {w:World} (h:Below B w w') (q:Nat):Below B w (w'.drewN q):=⟨h.os,h.tape,h.output,h.size,h.block⟩

theorem pn_form (lo hi:Int) (t:List UInt8): ∃(n:Int) (o:Bool),pnV lo hi t=.tuple #[.int .i64 n,.bool o]∧(o=true→num2 t=some n∧lo≤n∧n≤hi)∧(o=false→ ∀m,num2 t=some m→ ¬(lo≤m∧m≤hi)):=by
 unfold pnV;cases h:num2 t with
 |none=>exact⟨0,false,rfl,(fun h=>by cases h),(fun _ m h=>by cases h)⟩
 |some n=>
  refine⟨n,bhB lo hi n,rfl,fun h=> ?_,fun h m hm=> ?_⟩
  ·unfold bhB at h;rw [decide_eq_true_eq]at h;exact⟨rfl,h⟩
  ·cases hm;unfold bhB at h;rw [decide_eq_false_iff_not]at h;exact h
def RowAns (lo hi:Int) (t:List UInt8) (e:Ending):Prop:= ∃(x y:Int) (z o:Bool),e=.returned (.tuple #[bdV x y,.bool z,.bool o])∧(o=true→rowS lo hi t=some (x,y,z))∧(o=false→rowS lo hi t=none)

theorem row_two' {x y:List UInt8} {p:Bool} (hs:t≠ [42]) (hc:cutS 45 t=some (x,y)) (h1:o=true→num2 x=some n∧lo≤n∧n≤hi) (h2:o=false→ ∀m,num2 x=some m→ ¬(lo≤m∧m≤hi))
  (h3:p=true→num2 y=some m∧lo≤m∧m≤hi) (h4:p=false→ ∀n,num2 y=some n→ ¬(lo≤n∧n≤hi)):
  ((o=true∧p=true∧n≤m)→rowS lo hi t=some (n,m,false))∧(¬(o=true∧p=true∧n≤m)→rowS lo hi t=none):=by
 unfold rowS;rw [if_neg hs,hc];dsimp only;constructor
 ·rintro⟨rfl,rfl,h⟩;obtain⟨a1,a2⟩:=h1 rfl;obtain⟨b1,b2⟩:=h3 rfl;rw [a1,b1];dsimp only;rw [if_pos ⟨a2,b2,h⟩]
 ·intro h;cases e1:num2 x with
  |none=>rfl
  |some a=>
   cases e2:num2 y with
   |none=>rfl
   |some b=>
    dsimp only;rw [if_neg];rintro⟨g1,g2,g3⟩;cases o
    ·exact h2 rfl a e1 g1
    ·cases p
     ·exact h4 rfl b e2 g2
     ·obtain⟨a1,_⟩:=h1 rfl;obtain⟨b1,_⟩:=h3 rfl;rw [a1]at e1;rw [b1]at e2;cases e1;cases e2;exact h ⟨rfl,rfl,g3⟩
theorem row_one' (hs:t≠ [42]) (hc:cutS 45 t=none) (h1:o=true→num2 t=some n∧lo≤n∧n≤hi) (h2:o=false→ ∀m,num2 t=some m→ ¬(lo≤m∧m≤hi)):
  (o=true→rowS lo hi t=some (n,n,true))∧(o=false→rowS lo hi t=none):=by
 unfold rowS;rw [if_neg hs,hc];dsimp only;constructor
 ·intro h;obtain⟨a1,a2⟩:=h1 h;rw [a1];dsimp only;rw [if_pos a2]
 ·intro h;cases e1:num2 t with
  |none=>rfl
  |some a=>dsimp only;rw [if_neg (h2 h a e1)]
theorem fin2 {w3:World} {a b:Value} (x y:Value) (d0:w3.cell? ⟨N,0,none⟩=some a) (d1:w3.cell? ⟨N,1,none⟩=some b):
  ∃W:World,W=(w3.setCell ⟨N,0,none⟩ x).setCell ⟨N,1,none⟩ y∧W.cell? ⟨N,0,none⟩=some x∧W.cell? ⟨N,1,none⟩=some y∧ ∀(B:Nat) (w:World),B≤N→Below B w w3→Below B w W:=by
 have ne:(⟨N,0,none⟩:Addr)≠⟨N,1,none⟩:=fun e=>by cases e
 refine⟨_,rfl,?_,?_,fun B w hB h=>(h.setCell hB _).setCell hB _⟩
 ·rw [Xd (h:=ne.symm)];exact Xn _ _ _ d0
 ·refine Xn _ _ _ (u:=b) ?_;rw [Xd (h:=ne)];exact d1
theorem star_ne (h:t≠ [42]):(t==[42])=false:=beq_eq_false_iff_ne.2 h

theorem row_star (lo hi:Int) (w:World):
  Calls prog 169 #[strV [42],bdV lo hi] w fun e w'=>RowAns lo hi [42] e∧Below w.heap.size w w':=by
 go_enter func169,ntmps169;go_wp2;go_returns
 exact⟨⟨lo,hi,false,true,rfl,fun _=>by unfold rowS;rw [if_pos rfl],fun h=>by cases h⟩,((Below.refl _ _).alloc (Xa _) _).alloc (by simp) _⟩
theorem row_single (t:List UInt8) (lo hi:Int) (w:World) (hs:t≠ [42]) (hc:(45:UInt8)∉t) (hl:t.length≤4294967281):
  Calls prog 169 #[strV t,bdV lo hi] w fun e w'=>RowAns lo hi t e∧Below w.heap.size w w':=by
 have hne:=star_ne hs;obtain⟨n,o,hv,h1,h2⟩:=pn_form lo hi t;have HR:Hid ((o=true→rowS lo hi t=some (n,n,true))∧(o=false→rowS lo hi t=none)):=row_one' hs (cutS_none hc) h1 h2;have cC:=fun w=>cut_no t 45 w hc;have c1:=fun w=>pn_any t lo hi w hl;rw [hv]at c1;clear hs hc h1 h2 hv;obtain⟨hC0,hD0,hF0,hz0,hw0⟩:=box_two w (#[Value.int .i64 lo,.int .i64 hi]) (#[Value.int .i64 0,.int .i64 0]) 155 155;obtain⟨w0,hw⟩: ∃w0,w0=(w.alloc (.cells (#[Value.int .i64 lo,.int .i64 hi]) 155)).alloc (.cells (#[Value.int .i64 0,.int .i64 0]) 155):=⟨_,rfl⟩
 rw [←hw]at hC0 hD0 hF0 hz0 hw0;cases o
 ·go_enter func169,ntmps169
  go_wp2_with (first
   |(go_at_call 131;rw [←hw];(with_reducible refine zg (cC _) fun w1 h9=>?_);have hb1:Below w0.heap.size w0 w1:=(by rw [h9];exact Below.refl _ _);clear h9;have hC1:=cells_on hC0 hb1 (by omega);have hD1:=cells_on hD0 hb1 hz0;have hF1:=free_on hF0 hb1 hz0;have hz1:w.heap.size+1<w1.heap.size:=Xb hz0 hb1.size;have hw1:Below w.heap.size w w1:=(zu hw0 hb1))
   |(go_at_call 170;have hk2:=hw2;(with_reducible refine zg (c1 _) fun w3 hb3=>?_);have hC3:=cells_on hC2 hb3 (by omega);have hD3:=cells_on hD2 hb3 hz2;have hF3:=free_on hF2 hb3 hz2;have hz3:w.heap.size+1<w3.heap.size:=Xb hz2 hb3.size;have hw3:Below w.heap.size w w3:=(zu hw2 hb3);have d0:w3.cell? ⟨w.heap.size+1,0,none⟩=some (.int .i64 0):=hD3 0;have d1:w3.cell? ⟨w.heap.size+1,1,none⟩=some (.int .i64 0):=hD3 1;have d2:=hF3 0;have d3:=hF3 1;clear hC3 hD3 hF3)
   |(go_at_call 170;(with_reducible refine zg (c1 _) fun w2 hb2=>?_);have hC2:=cells_on hC1 hb2 (by omega);have hD2:=cells_on hD1 hb2 hz1;have hF2:=free_on hF1 hb2 hz1;have hz2:w.heap.size+1<w2.heap.size:=Xb hz1 hb2.size;have hw2:Below w.heap.size w w2:=(zu hw1 hb2)))
  obtain⟨W,hW,f0,f1,hbW⟩:=fin2 (.int .i64 n) (.int .i64 n) d0 d1;rw [←hW];clear hW;refine bodyPost_ret (v:=.tuple #[bdV n n,.bool true,.bool false]) (by simp [results,results169,go_sem,f0,f1]) rfl ?_;exact⟨⟨n,n,true,false,rfl,(fun h=>by cases h),(fun _=>HR.out.2 trivial)⟩,hbW _ _ (Xm _) hw3⟩
 ·go_enter func169,ntmps169
  go_wp2_with (first
   |(go_at_call 131;rw [←hw];(with_reducible refine zg (cC _) fun w1 h9=>?_);have hb1:Below w0.heap.size w0 w1:=(by rw [h9];exact Below.refl _ _);clear h9;have hC1:=cells_on hC0 hb1 (by omega);have hD1:=cells_on hD0 hb1 hz0;have hF1:=free_on hF0 hb1 hz0;have hz1:w.heap.size+1<w1.heap.size:=Xb hz0 hb1.size;have hw1:Below w.heap.size w w1:=(zu hw0 hb1))
   |(go_at_call 170;have hk2:=hw2;(with_reducible refine zg (c1 _) fun w3 hb3=>?_);have hC3:=cells_on hC2 hb3 (by omega);have hD3:=cells_on hD2 hb3 hz2;have hF3:=free_on hF2 hb3 hz2;have hz3:w.heap.size+1<w3.heap.size:=Xb hz2 hb3.size;have hw3:Below w.heap.size w w3:=(zu hw2 hb3);have d0:w3.cell? ⟨w.heap.size+1,0,none⟩=some (.int .i64 0):=hD3 0;have d1:w3.cell? ⟨w.heap.size+1,1,none⟩=some (.int .i64 0):=hD3 1;have d2:=hF3 0;have d3:=hF3 1;clear hC3 hD3 hF3)
   |(go_at_call 170;(with_reducible refine zg (c1 _) fun w2 hb2=>?_);have hC2:=cells_on hC1 hb2 (by omega);have hD2:=cells_on hD1 hb2 hz1;have hF2:=free_on hF1 hb2 hz1;have hz2:w.heap.size+1<w2.heap.size:=Xb hz1 hb2.size;have hw2:Below w.heap.size w w2:=(zu hw1 hb2)))
  obtain⟨W,hW,f0,f1,hbW⟩:=fin2 (.int .i64 n) (.int .i64 n) d0 d1;rw [←hW];clear hW;refine bodyPost_ret (v:=.tuple #[bdV n n,.bool true,.bool true]) (by simp [results,results169,go_sem,f0,f1]) rfl ?_;exact⟨⟨n,n,true,true,rfl,(fun _=>HR.out.1 trivial),(fun h=>by cases h)⟩,hbW _ _ (Xm _) hw3⟩
theorem row_double (x y:List UInt8) (lo hi:Int) (w:World) (hx:(45:UInt8)∉x) (hl:(x++45::y).length≤4294967281):
  Calls prog 169 #[strV (x++45::y),bdV lo hi] w fun e w'=>RowAns lo hi (x++45::y) e∧Below w.heap.size w w':=by
 have hs:x++45::y≠ [42]:=fun e=>by
  have:(45:UInt8)∈([42]:List UInt8):=by rw [←e];simp
  simp at this
 have hne:=star_ne hs;obtain⟨n,o,hv,h1,h2⟩:=pn_form lo hi x;obtain⟨m,p,hv2,h3,h4⟩:=pn_form lo hi y;have HR:Hid (((o=true∧p=true∧n≤m)→rowS lo hi (x++45::y)=some (n,m,false))∧(¬(o=true∧p=true∧n≤m)→rowS lo hi (x++45::y)=none)):=row_two' hs (cutS_hit hx) h1 h2 h3 h4;have cC:=fun w=>cut_yes x y 45 w hx hl;simp at hl;have c1:=fun w=>pn_any x lo hi w (by omega);have c2:=fun w=>pn_any y lo hi w (by omega);rw [hv]at c1;rw [hv2]at c2;clear hs hx h1 h2 hv h3 h4 hv2 hl;obtain⟨hC0,hD0,hF0,hz0,hw0⟩:=box_two w (#[Value.int .i64 lo,.int .i64 hi]) (#[Value.int .i64 0,.int .i64 0]) 155 155;obtain⟨w0,hw⟩: ∃w0,w0=(w.alloc (.cells (#[Value.int .i64 lo,.int .i64 hi]) 155)).alloc (.cells (#[Value.int .i64 0,.int .i64 0]) 155):=⟨_,rfl⟩
 rw [←hw]at hC0 hD0 hF0 hz0 hw0;cases o
 ·go_enter func169,ntmps169
  go_wp2_with (first
   |(go_at_call 131;rw [←hw];(with_reducible refine(cC _).mono ?_);rintro e w1 ⟨rfl,q,h9⟩;have hb1:Below w0.heap.size w0 w1:=(by rw [h9];exact below_drewN (Below.refl _ _) q);clear h9;have hC1:=cells_on hC0 hb1 (by omega);have hD1:=cells_on hD0 hb1 hz0;have hF1:=free_on hF0 hb1 hz0;have hz1:w.heap.size+1<w1.heap.size:=Xb hz0 hb1.size;have hw1:Below w.heap.size w w1:=(zu hw0 hb1))
   |(go_at_call 170;have hk2:=hw2;(with_reducible refine zg (c2 _) fun w3 hb3=>?_);have hC3:=cells_on hC2 hb3 (by omega);have hD3:=cells_on hD2 hb3 hz2;have hF3:=free_on hF2 hb3 hz2;have hz3:w.heap.size+1<w3.heap.size:=Xb hz2 hb3.size;have hw3:Below w.heap.size w w3:=(zu hw2 hb3);have d0:w3.cell? ⟨w.heap.size+1,0,none⟩=some (.int .i64 0):=hD3 0;have d1:w3.cell? ⟨w.heap.size+1,1,none⟩=some (.int .i64 0):=hD3 1;have d2:=hF3 0;have d3:=hF3 1;clear hC3 hD3 hF3)
   |(go_at_call 170;(with_reducible refine zg (c1 _) fun w2 hb2=>?_);have hC2:=cells_on hC1 hb2 (by omega);have hD2:=cells_on hD1 hb2 hz1;have hF2:=free_on hF1 hb2 hz1;have hz2:w.heap.size+1<w2.heap.size:=Xb hz1 hb2.size;have hw2:Below w.heap.size w w2:=(zu hw1 hb2)))
  obtain⟨W,hW,f0,f1,hbW⟩:=fin2 (.int .i64 n) (.int .i64 m) d0 d1;rw [←hW];clear hW;refine bodyPost_ret (v:=.tuple #[bdV n m,.bool false,.bool false]) (by simp [results,results169,go_sem,f0,f1]) rfl ?_;exact⟨⟨n,m,false,false,rfl,(fun h=>by cases h),(fun _=>HR.out.2 (by simp))⟩,hbW _ _ (Xm _) hw3⟩
 ·cases p
  ·go_enter func169,ntmps169
   go_wp2_with (first
    |(go_at_call 131;rw [←hw];(with_reducible refine(cC _).mono ?_);rintro e w1 ⟨rfl,q,h9⟩;have hb1:Below w0.heap.size w0 w1:=(by rw [h9];exact below_drewN (Below.refl _ _) q);clear h9;have hC1:=cells_on hC0 hb1 (by omega);have hD1:=cells_on hD0 hb1 hz0;have hF1:=free_on hF0 hb1 hz0;have hz1:w.heap.size+1<w1.heap.size:=Xb hz0 hb1.size;have hw1:Below w.heap.size w w1:=(zu hw0 hb1))
    |(go_at_call 170;have hk2:=hw2;(with_reducible refine zg (c2 _) fun w3 hb3=>?_);have hC3:=cells_on hC2 hb3 (by omega);have hD3:=cells_on hD2 hb3 hz2;have hF3:=free_on hF2 hb3 hz2;have hz3:w.heap.size+1<w3.heap.size:=Xb hz2 hb3.size;have hw3:Below w.heap.size w w3:=(zu hw2 hb3);have d0:w3.cell? ⟨w.heap.size+1,0,none⟩=some (.int .i64 0):=hD3 0;have d1:w3.cell? ⟨w.heap.size+1,1,none⟩=some (.int .i64 0):=hD3 1;have d2:=hF3 0;have d3:=hF3 1;clear hC3 hD3 hF3)
    |(go_at_call 170;(with_reducible refine zg (c1 _) fun w2 hb2=>?_);have hC2:=cells_on hC1 hb2 (by omega);have hD2:=cells_on hD1 hb2 hz1;have hF2:=free_on hF1 hb2 hz1;have hz2:w.heap.size+1<w2.heap.size:=Xb hz1 hb2.size;have hw2:Below w.heap.size w w2:=(zu hw1 hb2)))
   obtain⟨W,hW,f0,f1,hbW⟩:=fin2 (.int .i64 n) (.int .i64 m) d0 d1;rw [←hW];clear hW;refine bodyPost_ret (v:=.tuple #[bdV n m,.bool false,.bool false]) (by simp [results,results169,go_sem,f0,f1]) rfl ?_;exact⟨⟨n,m,false,false,rfl,(fun h=>by cases h),(fun _=>HR.out.2 (by simp))⟩,hbW _ _ (Xm _) hw3⟩
  ·by_cases hnm:n≤m
   ·have d:decide (n≤m)=true:=by simp [hnm]
    go_enter func169,ntmps169
    go_wp2_with (first
     |(go_at_call 131;rw [←hw];(with_reducible refine(cC _).mono ?_);rintro e w1 ⟨rfl,q,h9⟩;have hb1:Below w0.heap.size w0 w1:=(by rw [h9];exact below_drewN (Below.refl _ _) q);clear h9;have hC1:=cells_on hC0 hb1 (by omega);have hD1:=cells_on hD0 hb1 hz0;have hF1:=free_on hF0 hb1 hz0;have hz1:w.heap.size+1<w1.heap.size:=Xb hz0 hb1.size;have hw1:Below w.heap.size w w1:=(zu hw0 hb1))
     |(go_at_call 170;have hk2:=hw2;(with_reducible refine zg (c2 _) fun w3 hb3=>?_);have hC3:=cells_on hC2 hb3 (by omega);have hD3:=cells_on hD2 hb3 hz2;have hF3:=free_on hF2 hb3 hz2;have hz3:w.heap.size+1<w3.heap.size:=Xb hz2 hb3.size;have hw3:Below w.heap.size w w3:=(zu hw2 hb3);have d0:w3.cell? ⟨w.heap.size+1,0,none⟩=some (.int .i64 0):=hD3 0;have d1:w3.cell? ⟨w.heap.size+1,1,none⟩=some (.int .i64 0):=hD3 1;have d2:=hF3 0;have d3:=hF3 1;clear hC3 hD3 hF3)
     |(go_at_call 170;(with_reducible refine zg (c1 _) fun w2 hb2=>?_);have hC2:=cells_on hC1 hb2 (by omega);have hD2:=cells_on hD1 hb2 hz1;have hF2:=free_on hF1 hb2 hz1;have hz2:w.heap.size+1<w2.heap.size:=Xb hz1 hb2.size;have hw2:Below w.heap.size w w2:=(zu hw1 hb2)))
    obtain⟨W,hW,f0,f1,hbW⟩:=fin2 (.int .i64 n) (.int .i64 m) d0 d1;rw [←hW];clear hW;refine bodyPost_ret (v:=.tuple #[bdV n m,.bool false,.bool true]) (by simp [results,results169,go_sem,f0,f1]) rfl ?_;exact⟨⟨n,m,false,true,rfl,(fun _=>HR.out.1 (by first|exact⟨trivial,trivial,by omega⟩|omega)),(fun h=>by cases h)⟩,hbW _ _ (Xm _) hw3⟩
   ·have d:decide (n≤m)=false:=by simp;omega
    go_enter func169,ntmps169
    go_wp2_with (first
     |(go_at_call 131;rw [←hw];(with_reducible refine(cC _).mono ?_);rintro e w1 ⟨rfl,q,h9⟩;have hb1:Below w0.heap.size w0 w1:=(by rw [h9];exact below_drewN (Below.refl _ _) q);clear h9;have hC1:=cells_on hC0 hb1 (by omega);have hD1:=cells_on hD0 hb1 hz0;have hF1:=free_on hF0 hb1 hz0;have hz1:w.heap.size+1<w1.heap.size:=Xb hz0 hb1.size;have hw1:Below w.heap.size w w1:=(zu hw0 hb1))
     |(go_at_call 170;have hk2:=hw2;(with_reducible refine zg (c2 _) fun w3 hb3=>?_);have hC3:=cells_on hC2 hb3 (by omega);have hD3:=cells_on hD2 hb3 hz2;have hF3:=free_on hF2 hb3 hz2;have hz3:w.heap.size+1<w3.heap.size:=Xb hz2 hb3.size;have hw3:Below w.heap.size w w3:=(zu hw2 hb3);have d0:w3.cell? ⟨w.heap.size+1,0,none⟩=some (.int .i64 0):=hD3 0;have d1:w3.cell? ⟨w.heap.size+1,1,none⟩=some (.int .i64 0):=hD3 1;have d2:=hF3 0;have d3:=hF3 1;clear hC3 hD3 hF3)
     |(go_at_call 170;(with_reducible refine zg (c1 _) fun w2 hb2=>?_);have hC2:=cells_on hC1 hb2 (by omega);have hD2:=cells_on hD1 hb2 hz1;have hF2:=free_on hF1 hb2 hz1;have hz2:w.heap.size+1<w2.heap.size:=Xb hz1 hb2.size;have hw2:Below w.heap.size w w2:=(zu hw1 hb2)))
    obtain⟨W,hW,f0,f1,hbW⟩:=fin2 (.int .i64 n) (.int .i64 m) d0 d1;rw [←hW];clear hW;refine bodyPost_ret (v:=.tuple #[bdV n m,.bool false,.bool false]) (by simp [results,results169,go_sem,f0,f1]) rfl ?_;exact⟨⟨n,m,false,false,rfl,(fun h=>by cases h),(fun _=>HR.out.2 (by simp;omega))⟩,hbW _ _ (Xm _) hw3⟩
theorem row_any (t:List UInt8) (lo hi:Int) (w:World) (hl:t.length≤4294967281):
  Calls prog 169 #[strV t,bdV lo hi] w fun e w'=>RowAns lo hi t e∧Below w.heap.size w w':=by
 by_cases hs:t=[42]
 ·subst hs;exact row_star lo hi w
 ·rcases cut_cases 45 t with h|⟨x,y,rfl,h⟩
  ·exact row_single t lo hi w hs h hl
  ·exact row_double x y lo hi w h hl


theorem uw (x:Int):0≤IntKind.u64.wrap x∧IntKind.u64.wrap x≤18446744073709551615:=by rw [Yj];omega
theorem one_bit (m n:Int) (hm:0≤m∧m≤63):inS (IntKind.u64.wrap (2^m.toNat)) n=decide (n=m):=by
 rw [show(2:Int)^m.toNat=1*2^m.toNat by omega];rw [in_shl 1 m n (by decide) hm.1];by_cases h:n=m
 ·subst h;rw [show n-n=0 by omega,decide_eq_true (show n≤63 by omega),decide_eq_true rfl];decide
 ·rw [decide_eq_false h];cases g:inS 1 (n-m)
  ·simp
  ·exfalso;have hb:=inS_bd g;have: ∀k:Nat,k<64→inS 1 (k:Int)=true→k=0:=by decide
   obtain⟨K,hK⟩:=Xh hb.1;rw [hK]at g hb;have:=this K (by omega) g;omega
def Upper (a st m v:Int):Prop:=(0≤v∧v≤18446744073709551615)∧ ∀n,inS v n=decide (a≤n∧n<m∧(n-a)%st=0)
theorem upper_step {st:Int} (h:Upper a st m v) (hst:1≤st) (ham:a≤m) (hm:0≤m∧m≤63) (hmod:(m-a)%st=0):Upper a st (m+st) (bits .or .u64 v (IntKind.u64.wrap (2^m.toNat))):=by
 have hu:0≤IntKind.u64.wrap (2^m.toNat)∧IntKind.u64.wrap (2^m.toNat)≤18446744073709551615:=uw _;refine⟨u_or _ _ h.1 hu,fun n=> ?_⟩;rw [in_or _ _ _ h.1 hu,h.2,one_bit m n hm,←Bool.decide_or,decide_eq_decide];constructor
 ·rintro(⟨h1,h2,h3⟩|rfl)
  ·exact⟨h1,by omega,h3⟩
  ·exact⟨ham,by omega,hmod⟩
 ·rintro⟨h1,h2,h3⟩;by_cases e:n=m
  ·exact Or.inr e
  ·refine Or.inl ⟨h1,?_,h3⟩;rcases XN n m with g|g
   ·exact g
   ·exfalso;have e1:(n-m)%st=0:=by
     have:n-m=(n-a)-(m-a):=(by omega);rw [this,Int.sub_emod,h3,hmod];simp
    have e2:=Int.emod_eq_of_lt (show 0≤n-m by omega) (show n-m<st by omega);omega
theorem upper_end {b st:Int} (h:Upper a st m v) (hbm:b<m) (hmb:m≤b+st) (hmod:(m-a)%st=0):SetIs [(a,b,st)] v:=by
 refine⟨h.1,fun n=> ?_⟩;rw [h.2];simp only [List.any_cons,List.any_nil,Bool.or_false,inI];rw [decide_eq_decide];constructor
 ·rintro⟨h1,h2,h3⟩;refine⟨h1,?_,h3⟩;rcases XN b n with g|g
  ·exfalso;have e1:(m-n)%st=0:=by
    have:m-n=(m-a)-(n-a):=(by omega);rw [this,Int.sub_emod,h3,hmod];simp
   have e2:=Int.emod_eq_of_lt (show 0≤m-n by omega) (show m-n<st by omega);omega
  ·exact g
 ·rintro⟨h1,h2,h3⟩;exact⟨h1,by omega,h3⟩
def EachR (a b st:Int) (W:World) (s n:Value) (wr:World):Prop:= ∃v m:Int,s=.int .u64 v∧n=.int .i64 m∧a≤m∧m≤b+st∧(m-a)%st=0∧Upper a st m v∧wr=W

theorem each_any (a b st:Int) (w:World) (h0:0≤a) (h1:a≤b) (h2:b≤63) (h3:1≤st) (h4:st≤99):
  Calls prog 171 #[bdV a b,.int .i64 st] w fun e w'=> ∃v,e=.returned (.int .u64 v)∧SetIs [(a,b,st)] v∧Below w.heap.size w w':=by
 go_enter func171,ntmps171;go_wp2;obtain⟨W,hW⟩: ∃W,W=w.alloc (.cells #[.int .i64 a,.int .i64 b] 155):=⟨_,rfl⟩
 have k1:W.cell? ⟨w.heap.size,1,none⟩=some (.int .i64 b):=by rw [hW];simp
 have hb:Below w.heap.size w W:=by rw [hW];exact(Below.refl _ _).alloc (Xa _) _
 rw [←hW];clear hW;go_loopw [5,6] (fun s n wr=>EachR a b st W s n wr) (fun _ n _=>(b+1+99-intOf n).toNat)
 case atStart=>exact⟨0,a,rfl,rfl,Xu _,by omega,by simp,⟨by decide,fun n=>by rw [inS_zero,eq_comm,decide_eq_false_iff_not];omega⟩,rfl⟩
 case round=>
  obtain⟨v,m,rfl,rfl,g1,g2,g3,g4,h9⟩:=hrel;have h8:=h9.symm;clear h9;subst h8;have G4:=zh g4;have G3:=zh g3;clear g3 g4;by_cases hle:m≤b
  ·go_wp2;go_roundw
   case rel=>exact⟨_,m+st,rfl,rfl,by omega,by omega,by rw [show m+st-a=(m-a)+st by omega,Int.add_emod_right];exact G3.out,upper_step G4.out h3 g1 (by omega) G3.out,rfl⟩
   case measure=>simp [intOf];omega
  ·go_wp2;go_ret;exact⟨v,rfl,upper_end G4.out (by omega) g2 G3.out,hb⟩

def ItemAns (lo hi:Int) (t:List UInt8) (e:Ending):Prop:= ∃(v:Int) (o:Bool),e=.returned (.tuple #[.int .u64 v,.bool o])∧(o=true→ ∃p,itemS lo hi t=some p∧SetIs [p] v)∧(o=false→itemS lo hi t=none)
theorem item_none (h:itemS lo hi t=none):ItemAns lo hi t (.returned (.tuple #[.int .u64 v,.bool false])):=⟨v,false,rfl,(fun g=>by cases g),fun _=>h⟩
theorem item_some (h:itemS lo hi t=some p) (g:SetIs [p] v):ItemAns lo hi t (.returned (.tuple #[.int .u64 v,.bool true])):=⟨v,true,rfl,(fun _=>⟨p,h,g⟩),(fun g=>by cases g)⟩
theorem row_case (t:List UInt8) (lo hi:Int) (hl:t.length≤4294967281):(rowS lo hi t=none∧ ∀w,Calls prog 169 #[strV t,bdV lo hi] w fun e w'=> ∃(x y:Int) (z:Bool),e=.returned (.tuple #[bdV x y,.bool z,.bool false])∧Below w.heap.size w w')∨
  ∃x y z,rowS lo hi t=some (x,y,z)∧ ∀w,CB 169 #[strV t,bdV lo hi] w (.tuple #[bdV x y,.bool z,.bool true]):=by
 cases h:rowS lo hi t with
 |none=>
  refine Or.inl ⟨rfl,fun w=>(row_any t lo hi w hl).mono ?_⟩;rintro e w' ⟨⟨x,y,z,o,rfl,h1,h2⟩,hb⟩;cases o
  ·exact⟨x,y,z,rfl,hb⟩
  ·rw [h1 rfl]at h;cases h
 |some p=>
  obtain⟨x,y,z⟩:=p;refine Or.inr ⟨x,y,z,rfl,fun w=>(row_any t lo hi w hl).mono ?_⟩;rintro e w' ⟨⟨x',y',z',o,rfl,h1,h2⟩,hb⟩;cases o
  ·rw [h2 rfl]at h;cases h
  ·rw [h1 rfl]at h;cases h;exact⟨rfl,hb⟩

theorem item_plain (t:List UInt8) (lo hi:Int) (w:World) (hc:(47:UInt8)∉t) (hl:t.length≤4294967281) (h0:0≤lo) (h1:lo≤hi) (h2:hi≤63):
  Calls prog 124 #[strV t,bdV lo hi] w fun e w'=>ItemAns lo hi t e∧Below w.heap.size w w':=by
 have cC:=fun w=>cut_no t 47 w hc;have HI:Hid (cutS 47 t=none):=cutS_none hc;clear hc;rcases row_case t lo hi hl with⟨hr,cR⟩|⟨a,b,z,hr,cR⟩
 ·have HN:Hid (itemS lo hi t=none):=by unfold Hid itemS;rw [HI.out];dsimp only;rw [hr]
  clear hr HI;obtain⟨w0,hw⟩: ∃w0,w0=w.alloc (.cells (#[Value.int .i64 lo,.int .i64 hi]) 155):=⟨_,rfl⟩
  have hC0: ∀o,w0.cell? ⟨w.heap.size,o,none⟩=(#[Value.int .i64 lo,.int .i64 hi])[o]? :=fun o=>by rw [hw];simp
  have hz0:w.heap.size<w0.heap.size:=by rw [hw];simp
  have hw0:Below w.heap.size w w0:=by rw [hw];exact(Below.refl _ _).alloc (Xa _) _
  go_enter func124,ntmps124
  go_wp2_with (first
   |(go_at_call 131;rw [←hw];(with_reducible refine zg (cC _) fun w1 h9=>?_);have hb1:Below w0.heap.size w0 w1:=(by rw [h9];exact Below.refl _ _);clear h9;have hC1:=cells_on hC0 hb1 hz0;have hz1:w.heap.size<w1.heap.size:=Xb hz0 hb1.size;have hw1:Below w.heap.size w w1:=(zu hw0 hb1))
   |(go_at_call 169;(with_reducible refine(cR _).mono ?_);rintro e w2 ⟨a,b,z,rfl,hb2⟩;have hC2:=cells_on hC1 hb2 hz1;have hz2:w.heap.size<w2.heap.size:=Xb hz1 hb2.size;have hw2:Below w.heap.size w w2:=(zu hw1 hb2)))
  go_ret2;exact⟨item_none HN.out,hw2.alloc hw2.size _⟩
 ·have HN:Hid (itemS lo hi t=some (a,b,1)):=by unfold Hid itemS;rw [HI.out];dsimp only;rw [hr]
  obtain⟨r1,r2,r3⟩:=rowS_bd h1 hr;have cE:=fun w=>each_any a b 1 w (by omega) r2 (by omega) (by omega) (by omega);clear hr HI;obtain⟨w0,hw⟩: ∃w0,w0=w.alloc (.cells (#[Value.int .i64 lo,.int .i64 hi]) 155):=⟨_,rfl⟩
  have hC0: ∀o,w0.cell? ⟨w.heap.size,o,none⟩=(#[Value.int .i64 lo,.int .i64 hi])[o]? :=fun o=>by rw [hw];simp
  have hz0:w.heap.size<w0.heap.size:=by rw [hw];simp
  have hw0:Below w.heap.size w w0:=by rw [hw];exact(Below.refl _ _).alloc (Xa _) _
  go_enter func124,ntmps124;cases z
  ·go_wp2_with (first
    |(go_at_call 131;rw [←hw];(with_reducible refine zg (cC _) fun w1 h9=>?_);have hb1:Below w0.heap.size w0 w1:=(by rw [h9];exact Below.refl _ _);clear h9;have hC1:=cells_on hC0 hb1 hz0;have hz1:w.heap.size<w1.heap.size:=Xb hz0 hb1.size;have hw1:Below w.heap.size w w1:=(zu hw0 hb1))
    |(go_at_call 169;(with_reducible refine zg (cR _) fun w2 hb2=>?_);have hC2:=cells_on hC1 hb2 hz1;have hz2:w.heap.size<w2.heap.size:=Xb hz1 hb2.size;have hw2:Below w.heap.size w w2:=(zu hw1 hb2))
    |(go_at_call 171;(with_reducible refine(cE _).mono ?_);rintro e w3 ⟨v,rfl,hv,hb3⟩))
   go_ret2;exact⟨item_some HN.out hv,(hw2.alloc hw2.size _).trans (hb3.mono (by simp;exact Xc hw2.size (Xm _)))⟩
  ·go_wp2_with (first
    |(go_at_call 131;rw [←hw];(with_reducible refine zg (cC _) fun w1 h9=>?_);have hb1:Below w0.heap.size w0 w1:=(by rw [h9];exact Below.refl _ _);clear h9;have hC1:=cells_on hC0 hb1 hz0;have hz1:w.heap.size<w1.heap.size:=Xb hz0 hb1.size;have hw1:Below w.heap.size w w1:=(zu hw0 hb1))
    |(go_at_call 169;(with_reducible refine zg (cR _) fun w2 hb2=>?_);have hC2:=cells_on hC1 hb2 hz1;have hz2:w.heap.size<w2.heap.size:=Xb hz1 hb2.size;have hw2:Below w.heap.size w w2:=(zu hw1 hb2))
    |(go_at_call 171;(with_reducible refine(cE _).mono ?_);rintro e w3 ⟨v,rfl,hv,hb3⟩))
   go_ret2;exact⟨item_some HN.out hv,(hw2.alloc hw2.size _).trans (hb3.mono (by simp;exact Xc hw2.size (Xm _)))⟩

theorem item_step (x y:List UInt8) (lo hi:Int) (w:World) (hc:(47:UInt8)∉x) (hl:(x++47::y).length≤4294967281) (h0:0≤lo) (h1:lo≤hi) (h2:hi≤63):
  Calls prog 124 #[strV (x++47::y),bdV lo hi] w fun e w'=>ItemAns lo hi (x++47::y) e∧Below w.heap.size w w':=by
 have cC:=fun w=>cut_yes x y 47 w hc hl;have HI:Hid (cutS 47 (x++47::y)=some (x,y)):=cutS_hit hc;simp at hl;clear hc;rcases row_case x lo hi (by omega)with⟨hr,cR⟩|⟨a,b,z,hr,cR⟩
 ·have HN:Hid (itemS lo hi (x++47::y)=none):=by unfold Hid itemS;rw [HI.out];dsimp only;rw [hr]
  clear hr HI;obtain⟨w0,hw⟩: ∃w0,w0=w.alloc (.cells (#[Value.int .i64 lo,.int .i64 hi]) 155):=⟨_,rfl⟩
  have hC0: ∀o,w0.cell? ⟨w.heap.size,o,none⟩=(#[Value.int .i64 lo,.int .i64 hi])[o]? :=fun o=>by rw [hw];simp
  have hz0:w.heap.size<w0.heap.size:=by rw [hw];simp
  have hw0:Below w.heap.size w w0:=by rw [hw];exact(Below.refl _ _).alloc (Xa _) _
  go_enter func124,ntmps124
  go_wp2_with (first
   |(go_at_call 131;rw [←hw];(with_reducible refine(cC _).mono ?_);rintro e w1 ⟨rfl,q,h9⟩;have hb1:Below w0.heap.size w0 w1:=(by rw [h9];exact below_drewN (Below.refl _ _) q);clear h9;have hC1:=cells_on hC0 hb1 hz0;have hz1:w.heap.size<w1.heap.size:=Xb hz0 hb1.size;have hw1:Below w.heap.size w w1:=(zu hw0 hb1))
   |(go_at_call 169;(with_reducible refine(cR _).mono ?_);rintro e w2 ⟨a,b,z,rfl,hb2⟩;have hC2:=cells_on hC1 hb2 hz1;have hz2:w.heap.size<w2.heap.size:=Xb hz1 hb2.size;have hw2:Below w.heap.size w w2:=(zu hw1 hb2)))
  go_ret2;exact⟨item_none HN.out,hw2.alloc hw2.size _⟩
 ·cases z
  ·obtain⟨r1,r2,r3⟩:=rowS_bd h1 hr;obtain⟨st,o,hv,g1,g2⟩:=pn_form 1 99 y;have cP:=fun w=>pn_any y 1 99 w (by omega);rw [hv]at cP;cases o
   ·have HN:Hid (itemS lo hi (x++47::y)=none):=by
     unfold Hid itemS;rw [HI.out];dsimp only;rw [hr];cases e:num2 y with
     |none=>rfl
     |some m=>
      have:=g2 rfl m e;have:=num2_bd e;dsimp only;rw [if_neg (by omega)]
    clear hr HI g1 g2 hv;obtain⟨w0,hw⟩: ∃w0,w0=w.alloc (.cells (#[Value.int .i64 lo,.int .i64 hi]) 155):=⟨_,rfl⟩
    have hC0: ∀o,w0.cell? ⟨w.heap.size,o,none⟩=(#[Value.int .i64 lo,.int .i64 hi])[o]? :=fun o=>by rw [hw];simp
    have hz0:w.heap.size<w0.heap.size:=by rw [hw];simp
    have hw0:Below w.heap.size w w0:=by rw [hw];exact(Below.refl _ _).alloc (Xa _) _
    go_enter func124,ntmps124
    go_wp2_with (first
     |(go_at_call 131;rw [←hw];(with_reducible refine(cC _).mono ?_);rintro e w1 ⟨rfl,q,h9⟩;have hb1:Below w0.heap.size w0 w1:=(by rw [h9];exact below_drewN (Below.refl _ _) q);clear h9;have hC1:=cells_on hC0 hb1 hz0;have hz1:w.heap.size<w1.heap.size:=Xb hz0 hb1.size;have hw1:Below w.heap.size w w1:=(zu hw0 hb1))
     |(go_at_call 169;(with_reducible refine zg (cR _) fun w2 hb2=>?_);have hC2:=cells_on hC1 hb2 hz1;have hz2:w.heap.size<w2.heap.size:=Xb hz1 hb2.size;have hw2:Below w.heap.size w w2:=(zu hw1 hb2))
     |(go_at_call 170;(with_reducible refine zg (cP _) fun w3 hb3=>?_)))
    go_ret2;exact⟨item_none HN.out,(hw2.alloc hw2.size _).trans (hb3.mono (by simp;exact Xc hw2.size (Xm _)))⟩
   ·obtain⟨e1,e2⟩:=g1 rfl;have HN:Hid (itemS lo hi (x++47::y)=some (a,b,st)):=by
     unfold Hid itemS;rw [HI.out];dsimp only;rw [hr,e1];dsimp only;rw [if_pos e2.1]
    have cE:=fun w=>each_any a b st w (by omega) r2 (by omega) e2.1 e2.2;clear hr HI g1 g2 hv e1;obtain⟨w0,hw⟩: ∃w0,w0=w.alloc (.cells (#[Value.int .i64 lo,.int .i64 hi]) 155):=⟨_,rfl⟩
    have hC0: ∀o,w0.cell? ⟨w.heap.size,o,none⟩=(#[Value.int .i64 lo,.int .i64 hi])[o]? :=fun o=>by rw [hw];simp
    have hz0:w.heap.size<w0.heap.size:=by rw [hw];simp
    have hw0:Below w.heap.size w w0:=by rw [hw];exact(Below.refl _ _).alloc (Xa _) _
    go_enter func124,ntmps124
    go_wp2_with (first
     |(go_at_call 131;rw [←hw];(with_reducible refine(cC _).mono ?_);rintro e w1 ⟨rfl,q,h9⟩;have hb1:Below w0.heap.size w0 w1:=(by rw [h9];exact below_drewN (Below.refl _ _) q);clear h9;have hC1:=cells_on hC0 hb1 hz0;have hz1:w.heap.size<w1.heap.size:=Xb hz0 hb1.size;have hw1:Below w.heap.size w w1:=(zu hw0 hb1))
     |(go_at_call 169;(with_reducible refine zg (cR _) fun w2 hb2=>?_);have hC2:=cells_on hC1 hb2 hz1;have hz2:w.heap.size<w2.heap.size:=Xb hz1 hb2.size;have hw2:Below w.heap.size w w2:=(zu hw1 hb2))
     |(go_at_call 170;(with_reducible refine zg (cP _) fun w3 hb3=>?_);have k0:w3.cell? ⟨w2.heap.size,0,none⟩=some (.int .i64 a):=(by rw [hb3.cell (p:=⟨w2.heap.size,0,none⟩) (by simp)];simp);have k1:w3.cell? ⟨w2.heap.size,1,none⟩=some (.int .i64 b):=(by rw [hb3.cell (p:=⟨w2.heap.size,1,none⟩) (by simp)];simp);have hw3:Below w.heap.size w w3:=(hw2.alloc hw2.size _).trans (hb3.mono (by simp;exact Xc hw2.size (Xm _))))
     |(go_at_call 171;(with_reducible refine(cE _).mono ?_);rintro e w4 ⟨v,rfl,hv4,hb4⟩))
    go_ret2;exact⟨item_some HN.out hv4,(zu hw3 hb4)⟩
  ·have HN:Hid (itemS lo hi (x++47::y)=none):=by
    unfold Hid itemS;rw [HI.out];dsimp only;rw [hr]
   clear hr HI;obtain⟨w0,hw⟩: ∃w0,w0=w.alloc (.cells (#[Value.int .i64 lo,.int .i64 hi]) 155):=⟨_,rfl⟩
   have hC0: ∀o,w0.cell? ⟨w.heap.size,o,none⟩=(#[Value.int .i64 lo,.int .i64 hi])[o]? :=fun o=>by rw [hw];simp
   have hz0:w.heap.size<w0.heap.size:=by rw [hw];simp
   have hw0:Below w.heap.size w w0:=by rw [hw];exact(Below.refl _ _).alloc (Xa _) _
   go_enter func124,ntmps124
   go_wp2_with (first
    |(go_at_call 131;rw [←hw];(with_reducible refine(cC _).mono ?_);rintro e w1 ⟨rfl,q,h9⟩;have hb1:Below w0.heap.size w0 w1:=(by rw [h9];exact below_drewN (Below.refl _ _) q);clear h9;have hC1:=cells_on hC0 hb1 hz0;have hz1:w.heap.size<w1.heap.size:=Xb hz0 hb1.size;have hw1:Below w.heap.size w w1:=(zu hw0 hb1))
    |(go_at_call 169;(with_reducible refine zg (cR _) fun w2 hb2=>?_);have hC2:=cells_on hC1 hb2 hz1;have hz2:w.heap.size<w2.heap.size:=Xb hz1 hb2.size;have hw2:Below w.heap.size w w2:=(zu hw1 hb2)))
   go_ret2;exact⟨item_none HN.out,hw2.alloc hw2.size _⟩
theorem item_any (t:List UInt8) (lo hi:Int) (w:World) (hl:t.length≤4294967281) (h0:0≤lo) (h1:lo≤hi) (h2:hi≤63):
  Calls prog 124 #[strV t,bdV lo hi] w fun e w'=>ItemAns lo hi t e∧Below w.heap.size w w':=by
 rcases cut_cases 47 t with h|⟨x,y,rfl,h⟩
 ·exact item_plain t lo hi w h hl h0 h1 h2
 ·exact item_step x y lo hi w h hl h0 h1 h2

theorem wordS_add (lo hi:Int): ∀(a:List (List UInt8)) (l:List (Int×Int×Int)) (t:List UInt8) (p:Int×Int×Int),wordS lo hi a=some l→itemS lo hi t=some p→wordS lo hi (a++ [t])=some (l++ [p])
 | [],l,t,p,h,g=>by
  cases h
  show wordS lo hi [t]=_
  unfold wordS;rw [g];rfl
 |x::a,l,t,p,h,g=>by
  have e:wordS lo hi (x::a)=match itemS lo hi x,wordS lo hi a with|some p,some l=>some (p::l)|_,_=>none:=rfl
  rw [e]at h
  cases h1:itemS lo hi x with
  |none=>rw [h1]at h;cases h
  |some q=>
   cases h2:wordS lo hi a with
   |none=>rw [h1,h2]at h;cases h
   |some r=>
    rw [h1,h2]at h
    cases h
    have ih:=wordS_add lo hi a r t p h2 g
    have e2:wordS lo hi (x::(a++ [t]))=match itemS lo hi x,wordS lo hi (a++ [t])with|some p,some l=>some (p::l)|_,_=>none:=rfl
    rw [XR,e2,h1,ih];rfl
theorem wordS_not (lo hi:Int): ∀(a:List (List UInt8)) (t:List UInt8),t∈a→itemS lo hi t=none→wordS lo hi a=none
 |x::a,t,h,g=>by
  have e:wordS lo hi (x::a)=match itemS lo hi x,wordS lo hi a with|some p,some l=>some (p::l)|_,_=>none:=rfl
  rw [e]
  rcases XG.1 h with rfl|h
  ·rw [g]
  ·rw [wordS_not lo hi a t h g]
   cases itemS lo hi x<;>rfl
theorem setIs_add {l:List (Int×Int×Int)} {u:Int} (h:SetIs l u) (g:SetIs [p] v):SetIs (l++ [p]) (bits .or .u64 u v):=by
 refine⟨u_or _ _ h.1 g.1,fun n=> ?_⟩;rw [in_or _ _ _ h.1 g.1,h.2,g.2,List.any_append]
theorem setIs_nil:SetIs [] 0:=⟨by decide,fun n=>by rw [inS_zero];rfl⟩
def WordAns (lo hi:Int) (t:List UInt8) (e:Ending):Prop:= ∃(v:Int) (o:Bool),e=.returned (.tuple #[.int .u64 v,.bool o])∧(o=true→ ∃l,wordS lo hi (pieces 44 t)=some l∧SetIs l v)∧(o=false→wordS lo hi (pieces 44 t)=none)
theorem item_case (t:List UInt8) (lo hi:Int) (hl:t.length≤4294967281) (h0:0≤lo) (h1:lo≤hi) (h2:hi≤63):(itemS lo hi t=none∧ ∀w,Calls prog 124 #[strV t,bdV lo hi] w fun e w'=> ∃v,e=.returned (.tuple #[.int .u64 v,.bool false])∧Below w.heap.size w w')∨
  ∃p,itemS lo hi t=some p∧ ∀w,Calls prog 124 #[strV t,bdV lo hi] w fun e w'=> ∃v,e=.returned (.tuple #[.int .u64 v,.bool true])∧SetIs [p] v∧Below w.heap.size w w':=by
 cases h:itemS lo hi t with
 |none=>
  refine Or.inl ⟨rfl,fun w=>(item_any t lo hi w hl h0 h1 h2).mono ?_⟩;rintro e w' ⟨⟨v,o,rfl,g1,g2⟩,hb⟩;cases o
  ·exact⟨v,rfl,hb⟩
  ·obtain⟨p,g,_⟩:=g1 rfl;rw [g]at h;cases h
 |some p=>
  refine Or.inr ⟨p,rfl,fun w=>(item_any t lo hi w hl h0 h1 h2).mono ?_⟩;rintro e w' ⟨⟨v,o,rfl,g1,g2⟩,hb⟩;cases o
  ·rw [g2 rfl]at h;cases h
  ·obtain⟨q,g,hs⟩:=g1 rfl;rw [g]at h;cases h;exact⟨v,rfl,hs,hb⟩
def WoR (lo hi:Int) (ps:List (List UInt8)) (N:Nat) (w:World) (i s:Value) (wr:World):Prop:= ∃(k:Nat) (v:Int) (l:List (Int×Int×Int)),k≤ps.length∧i=.int .i64 k∧s=.int .u64 v∧wordS lo hi (ps.take k)=some l∧SetIs l v∧Texts wr N ps∧(∀o,wr.cell? ⟨w.heap.size,o,none⟩=(#[Value.int .i64 lo,.int .i64 hi])[o]?)∧w.heap.size<wr.heap.size∧Below w.heap.size w wr

theorem word_any (t:List UInt8) (lo hi:Int) (w:World) (hl:t.length≤1000) (h0:0≤lo) (h1:lo≤hi) (h2:hi≤63):
  Calls prog 83 #[strV t,bdV lo hi] w fun e w'=>WordAns lo hi t e∧Below w.heap.size w w':=by
 have cS:=fun w=>split_any t 44 w (by omega);have hpl:(pieces 44 t).length≤1001:=by rw [pieces_len];have:=X6 (a:=(44:UInt8)) (l:=t);omega
 have hps: ∀p∈pieces 44 t,p.length≤4294967281:=fun p hp=>by have:=pieces_sub 44 t p hp;omega
 have HA:Hid (∀v o,((o=true→ ∃l,wordS lo hi (pieces 44 t)=some l∧SetIs l v)∧(o=false→wordS lo hi (pieces 44 t)=none))→WordAns lo hi t (.returned (.tuple #[.int .u64 v,.bool o]))):=fun v o h=>⟨v,o,rfl,h.1,h.2⟩
 have HP:=zh hps;clear hps;generalize pieces 44 t=ps at*;obtain⟨w0,hw⟩: ∃w0,w0=w.alloc (.cells (#[.int .i64 lo,.int .i64 hi]) 155):=⟨_,rfl⟩
 have hC0: ∀o,w0.cell? ⟨w.heap.size,o,none⟩=(#[Value.int .i64 lo,.int .i64 hi])[o]? :=fun o=>by rw [hw];simp
 have hN:w0.heap.size=w.heap.size+1:=by rw [hw];simp
 have hz0:w.heap.size<w0.heap.size:=by omega
 have hw0:Below w.heap.size w w0:=by rw [hw];exact(Below.refl _ _).alloc (Xa _) _
 go_enter func83,ntmps83;go_wp2_with(go_at_call 22;rw [←hw];(with_reducible refine(cS _).mono ?_);rintro e w1 ⟨rfl,hT1,hb1⟩;have hC1:=cells_on hC0 hb1 hz0;have hz1:w.heap.size<w1.heap.size:=Xb hz0 hb1.size;have hw1:Below w.heap.size w w1:=(zu hw0 hb1))
 rw [hN]at hT1;clear hC0 hb1 hw cS;go_loopw [14,6] (fun i s wr=>WoR lo hi ps (w.heap.size+1) w i s wr) (fun i _ _=>ps.length-(intOf i).toNat)
 case atStart=>exact⟨0,0,[],Xx _,rfl,rfl,rfl,setIs_nil,hT1,hC1,hz1,hw1⟩
 case round=>
  clear hT1 hC1 hw1;obtain⟨k,v,l,hk,rfl,rfl,hwd0,hset0,hT,hC,hz,hbw⟩:=hrel;have HW:=zh hwd0;have HSet:=zh hset0;clear hwd0 hset0;by_cases hlt:k<ps.length
  ·have hlt':(k:Int)<ps.length:=by omega
   obtain⟨x,hx⟩: ∃x,ps[k]? =some x:=⟨ps[k],by simp [hlt]⟩
   have cx:=hT.2 k x hx;have HX:=zh hx;have hmem:x∈ps:=Xk hx;have HM:=zh hmem;rcases item_case x lo hi (HP.out x hmem) h0 h1 h2 with⟨hi0,cI⟩|⟨p,hi0,cI⟩
   ·have HN:Hid (wordS lo hi ps=none):=wordS_not lo hi ps x hmem hi0;clear hi0 hmem hx;go_wp2_with(go_at_call 124;(with_reducible refine(cI _).mono ?_);rintro e w2 ⟨u,rfl,hb2⟩)
    go_ret2;exact⟨HA.out 0 false ⟨(fun h=>by cases h),fun _=>HN.out⟩,(zu hbw hb2)⟩
   ·have HN:=zh hi0;clear hi0 hmem hx;go_wp2_with(go_at_call 124;(with_reducible refine(cI _).mono ?_);rintro e w2 ⟨u,rfl,hu,hb2⟩)
    go_roundw
    case rel=>
     refine⟨k+1,_,l++ [p],by omega,rfl,rfl,?_,setIs_add HSet.out hu,hT.below hb2 hT.1,cells_on hC hb2 hz,Xb hz hb2.size,(zu hbw hb2)⟩;rw [XB,HX.out];exact wordS_add lo hi _ l x p HW.out HN.out
    case measure=>simp [intOf];omega
  ·go_wp2;go_ret2;have e:ps.take k=ps:=Yx (by omega);exact⟨HA.out v true ⟨fun _=>⟨l,by rw [←e];exact HW.out,HSet.out⟩,(fun h=>by cases h)⟩,hbw⟩
