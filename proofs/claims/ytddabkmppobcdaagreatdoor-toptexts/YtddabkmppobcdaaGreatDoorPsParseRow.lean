/- How the text of a cron is read: parseRow. How the text of a cron is read: the set of a row's numbers. How the text of a cron is read: parseItem, parseWord. How the text of a cron is read: parseWord. How the text of a cron is read: Parse. A right cron's text is read back as that cron; what is read is a right cron. How the text of a cron is read, as one function; what it refuses; that a cron's text is read back. -/
import Derived.Test.YtddabkmppobcdaaGreatDoorPsCutWalks
import Derived.Lib.SlicesS
import Derived.Handy
import Derived.Test.YtddabkmppobcdaaGreatDoorPsLaid
import Derived.Deep.RegionHeld
import Derived.Test.YtddabkmppobcdaaGreatDoorPsParsePlain
import Derived.Test.YtddabkmppobcdaaGreatDoorPsTextWalks
import Derived.Test.YtddabkmppobcdaaGreatDoorPsCronMatch
set_option maxHeartbeats 32000000
set_option maxRecDepth 8000
namespace Go.Proofs.YtddabkmppobcdaaGreatDoor
namespace Pie
open Go.RowKit Crn

theorem box_two (w:World) (A B:Array Value) (ta tb:TypeId):(∀o,((w.alloc (.cells A ta)).alloc (.cells B tb)).cell? ⟨w.heap.size,o,none⟩=A[o]?)∧(∀o,((w.alloc (.cells A ta)).alloc (.cells B tb)).cell? ⟨w.heap.size+1,o,none⟩=B[o]?)∧
  (∀o,((w.alloc (.cells A ta)).alloc (.cells B tb)).frozen? ⟨w.heap.size+1,o,none⟩=false)∧w.heap.size+1<((w.alloc (.cells A ta)).alloc (.cells B tb)).heap.size∧Below w.heap.size w ((w.alloc (.cells A ta)).alloc (.cells B tb)):=by
 have e:w.heap.size+1=(w.alloc (.cells A ta)).heap.size:=by simp
 refine⟨fun o=> ?_,fun o=> ?_,fun o=> ?_,by simp,((Below.refl _ _).alloc (Nat.le_refl _) _).alloc (by simp) _⟩
 ·rw [World.cell?_of_block (w:=w.alloc (.cells A ta)) (a:=⟨w.heap.size,o,none⟩) (Below.heap_alloc _ _ _ (by simp))];simp
 ·rw [e];simp
 ·rw [e];simp
theorem cells_on {W w':World} {N:Nat} {A:Array Value} (h: ∀o,W.cell? ⟨N,o,none⟩=A[o]?) (hb:Below W.heap.size W w') (hN:N<W.heap.size): ∀o,w'.cell? ⟨N,o,none⟩=A[o]?:=
 fun o=>(hb.cell (p:=⟨N,o,none⟩) hN).trans (h o)
theorem free_on {W w':World} {N:Nat} (h: ∀o,W.frozen? ⟨N,o,none⟩=false) (hb:Below W.heap.size W w') (hN:N<W.heap.size): ∀o,w'.frozen? ⟨N,o,none⟩=false:=
 fun o=>(hb.frozen (p:=⟨N,o,none⟩) hN).trans (h o)
theorem below_drewN {B:Nat} {w w':World} (h:Below B w w') (q:Nat):Below B w (w'.drewN q):=⟨h.os,h.tape,h.output,h.size,h.block⟩

theorem pn_form (lo hi:Int) (t:List UInt8): ∃(n:Int) (o:Bool),pnV lo hi t=.tuple #[.int .i64 n,.bool o]∧(o=true→num2 t=some n∧lo≤n∧n≤hi)∧(o=false→ ∀m,num2 t=some m→ ¬(lo≤m∧m≤hi)):=by
 unfold pnV
 cases h:num2 t with
 |none=>exact⟨0,false,rfl,(fun h=>by cases h),(fun _ m h=>by cases h)⟩
 |some n=>
  refine⟨n,bhB lo hi n,rfl,fun h=> ?_,fun h m hm=> ?_⟩
  ·unfold bhB at h;rw [decide_eq_true_eq]at h;exact⟨rfl,h⟩
  ·cases hm;unfold bhB at h;rw [decide_eq_false_iff_not]at h;exact h
def RowAns (lo hi:Int) (t:List UInt8) (e:Ending):Prop:= ∃(x y:Int) (z o:Bool),e=.returned (.tuple #[bdV x y,.bool z,.bool o])∧(o=true→rowS lo hi t=some (x,y,z))∧(o=false→rowS lo hi t=none)

theorem row_two' {lo hi:Int} {t x y:List UInt8} {n m:Int} {o p:Bool} (hs:t≠ [42]) (hc:cutS 45 t=some (x,y)) (h1:o=true→num2 x=some n∧lo≤n∧n≤hi) (h2:o=false→ ∀m,num2 x=some m→ ¬(lo≤m∧m≤hi))
  (h3:p=true→num2 y=some m∧lo≤m∧m≤hi) (h4:p=false→ ∀n,num2 y=some n→ ¬(lo≤n∧n≤hi)):
  ((o=true∧p=true∧n≤m)→rowS lo hi t=some (n,m,false))∧(¬(o=true∧p=true∧n≤m)→rowS lo hi t=none):=by
 unfold rowS
 rw [if_neg hs,hc]
 dsimp only
 constructor
 ·rintro⟨rfl,rfl,h⟩
  obtain⟨a1,a2⟩:=h1 rfl
  obtain⟨b1,b2⟩:=h3 rfl
  rw [a1,b1]
  dsimp only
  rw [if_pos ⟨a2,b2,h⟩]
 ·intro h
  cases e1:num2 x with
  |none=>rfl
  |some a=>
   cases e2:num2 y with
   |none=>rfl
   |some b=>
    dsimp only
    rw [if_neg]
    rintro⟨g1,g2,g3⟩
    cases o
    ·exact h2 rfl a e1 g1
    ·cases p
     ·exact h4 rfl b e2 g2
     ·obtain⟨a1,_⟩:=h1 rfl
      obtain⟨b1,_⟩:=h3 rfl
      rw [a1]at e1;rw [b1]at e2;cases e1;cases e2
      exact h ⟨rfl,rfl,g3⟩
theorem row_one' {lo hi:Int} {t:List UInt8} {n:Int} {o:Bool} (hs:t≠ [42]) (hc:cutS 45 t=none) (h1:o=true→num2 t=some n∧lo≤n∧n≤hi) (h2:o=false→ ∀m,num2 t=some m→ ¬(lo≤m∧m≤hi)):
  (o=true→rowS lo hi t=some (n,n,true))∧(o=false→rowS lo hi t=none):=by
 unfold rowS
 rw [if_neg hs,hc]
 dsimp only
 constructor
 ·intro h
  obtain⟨a1,a2⟩:=h1 h
  rw [a1]
  dsimp only
  rw [if_pos a2]
 ·intro h
  cases e1:num2 t with
  |none=>rfl
  |some a=>dsimp only;rw [if_neg (h2 h a e1)]
theorem fin2 {w3:World} {N:Nat} {a b:Value} (x y:Value) (d0:w3.cell? ⟨N,0,none⟩=some a) (d1:w3.cell? ⟨N,1,none⟩=some b):
  ∃W:World,W=(w3.setCell ⟨N,0,none⟩ x).setCell ⟨N,1,none⟩ y∧W.cell? ⟨N,0,none⟩=some x∧W.cell? ⟨N,1,none⟩=some y∧ ∀(B:Nat) (w:World),B≤N→Below B w w3→Below B w W:=by
 have ne:(⟨N,0,none⟩:Addr)≠⟨N,1,none⟩:=fun e=>by cases e
 refine⟨_,rfl,?_,?_,fun B w hB h=>(h.setCell hB _).setCell hB _⟩
 ·rw [World.cell?_setCell_other (h:=ne.symm)];exact World.cell?_setCell_same _ _ _ d0
 ·refine World.cell?_setCell_same _ _ _ (u:=b) ?_
  rw [World.cell?_setCell_other (h:=ne)];exact d1
theorem star_ne {t:List UInt8} (h:t≠ [42]):(t==[42])=false:=beq_eq_false_iff_ne.2 h

theorem row_star (lo hi:Int) (w:World):
  Calls Tryz.prog 196 #[strV [42],bdV lo hi] w fun e w'=>RowAns lo hi [42] e∧Below w.heap.size w w':=by
 go_enter Tryz.func196,Tryz.ntmps196
 go_wp2
 go_returns
 exact⟨⟨lo,hi,false,true,rfl,fun _=>by unfold rowS;rw [if_pos rfl],fun h=>by cases h⟩,((Below.refl _ _).alloc (Nat.le_refl _) _).alloc (by simp) _⟩
theorem row_single (t:List UInt8) (lo hi:Int) (w:World) (hs:t≠ [42]) (hc:(45:UInt8)∉t) (hl:t.length≤4294967281):
  Calls Tryz.prog 196 #[strV t,bdV lo hi] w fun e w'=>RowAns lo hi t e∧Below w.heap.size w w':=by
 have hne:=star_ne hs
 obtain⟨n,o,hv,h1,h2⟩:=pn_form lo hi t
 have HR:Hid ((o=true→rowS lo hi t=some (n,n,true))∧(o=false→rowS lo hi t=none)):=row_one' hs (cutS_none hc) h1 h2
 have cC:=fun w=>cut_no t 45 w hc
 have c1:=fun w=>pn_any t lo hi w hl
 rw [hv]at c1
 clear hs hc h1 h2 hv
 obtain⟨hC0,hD0,hF0,hz0,hw0⟩:=box_two w (#[Value.int .i64 lo,.int .i64 hi]) (#[Value.int .i64 0,.int .i64 0]) 161 161
 obtain⟨w0,hw⟩: ∃w0,w0=(w.alloc (.cells (#[Value.int .i64 lo,.int .i64 hi]) 161)).alloc (.cells (#[Value.int .i64 0,.int .i64 0]) 161):=⟨_,rfl⟩
 rw [←hw]at hC0 hD0 hF0 hz0 hw0
 cases o
 ·go_enter Tryz.func196,Tryz.ntmps196
  go_wp2_with (first
   |(go_at_call 22;rw [←hw];(with_reducible refine(cC _).mono ?_);rintro e w1 ⟨rfl,h9⟩;have hb1:Below w0.heap.size w0 w1:=(by rw [h9];exact Below.refl _ _);clear h9;have hC1:=cells_on hC0 hb1 (by omega);have hD1:=cells_on hD0 hb1 hz0;have hF1:=free_on hF0 hb1 hz0;have hz1:w.heap.size+1<w1.heap.size:=Nat.lt_of_lt_of_le hz0 hb1.size;have hw1:Below w.heap.size w w1:=hw0.trans (hb1.mono hw0.size))
   |(go_at_call 197;have hk2:=hw2;(with_reducible refine(c1 _).mono ?_);rintro e w3 ⟨rfl,hb3⟩;have hC3:=cells_on hC2 hb3 (by omega);have hD3:=cells_on hD2 hb3 hz2;have hF3:=free_on hF2 hb3 hz2;have hz3:w.heap.size+1<w3.heap.size:=Nat.lt_of_lt_of_le hz2 hb3.size;have hw3:Below w.heap.size w w3:=hw2.trans (hb3.mono hw2.size);have d0:w3.cell? ⟨w.heap.size+1,0,none⟩=some (.int .i64 0):=hD3 0;have d1:w3.cell? ⟨w.heap.size+1,1,none⟩=some (.int .i64 0):=hD3 1;have d2:=hF3 0;have d3:=hF3 1;clear hC3 hD3 hF3)
   |(go_at_call 197;(with_reducible refine(c1 _).mono ?_);rintro e w2 ⟨rfl,hb2⟩;have hC2:=cells_on hC1 hb2 (by omega);have hD2:=cells_on hD1 hb2 hz1;have hF2:=free_on hF1 hb2 hz1;have hz2:w.heap.size+1<w2.heap.size:=Nat.lt_of_lt_of_le hz1 hb2.size;have hw2:Below w.heap.size w w2:=hw1.trans (hb2.mono hw1.size)))
  obtain⟨W,hW,f0,f1,hbW⟩:=fin2 (.int .i64 n) (.int .i64 n) d0 d1
  rw [←hW]
  clear hW
  refine bodyPost_ret (v:=.tuple #[bdV n n,.bool true,.bool false]) (by simp [results,Tryz.results196,go_sem,f0,f1]) rfl ?_
  exact⟨⟨n,n,true,false,rfl,(fun h=>by cases h),(fun _=>HR.out.2 trivial)⟩,hbW _ _ (Nat.le_succ _) hw3⟩
 ·go_enter Tryz.func196,Tryz.ntmps196
  go_wp2_with (first
   |(go_at_call 22;rw [←hw];(with_reducible refine(cC _).mono ?_);rintro e w1 ⟨rfl,h9⟩;have hb1:Below w0.heap.size w0 w1:=(by rw [h9];exact Below.refl _ _);clear h9;have hC1:=cells_on hC0 hb1 (by omega);have hD1:=cells_on hD0 hb1 hz0;have hF1:=free_on hF0 hb1 hz0;have hz1:w.heap.size+1<w1.heap.size:=Nat.lt_of_lt_of_le hz0 hb1.size;have hw1:Below w.heap.size w w1:=hw0.trans (hb1.mono hw0.size))
   |(go_at_call 197;have hk2:=hw2;(with_reducible refine(c1 _).mono ?_);rintro e w3 ⟨rfl,hb3⟩;have hC3:=cells_on hC2 hb3 (by omega);have hD3:=cells_on hD2 hb3 hz2;have hF3:=free_on hF2 hb3 hz2;have hz3:w.heap.size+1<w3.heap.size:=Nat.lt_of_lt_of_le hz2 hb3.size;have hw3:Below w.heap.size w w3:=hw2.trans (hb3.mono hw2.size);have d0:w3.cell? ⟨w.heap.size+1,0,none⟩=some (.int .i64 0):=hD3 0;have d1:w3.cell? ⟨w.heap.size+1,1,none⟩=some (.int .i64 0):=hD3 1;have d2:=hF3 0;have d3:=hF3 1;clear hC3 hD3 hF3)
   |(go_at_call 197;(with_reducible refine(c1 _).mono ?_);rintro e w2 ⟨rfl,hb2⟩;have hC2:=cells_on hC1 hb2 (by omega);have hD2:=cells_on hD1 hb2 hz1;have hF2:=free_on hF1 hb2 hz1;have hz2:w.heap.size+1<w2.heap.size:=Nat.lt_of_lt_of_le hz1 hb2.size;have hw2:Below w.heap.size w w2:=hw1.trans (hb2.mono hw1.size)))
  obtain⟨W,hW,f0,f1,hbW⟩:=fin2 (.int .i64 n) (.int .i64 n) d0 d1
  rw [←hW]
  clear hW
  refine bodyPost_ret (v:=.tuple #[bdV n n,.bool true,.bool true]) (by simp [results,Tryz.results196,go_sem,f0,f1]) rfl ?_
  exact⟨⟨n,n,true,true,rfl,(fun _=>HR.out.1 trivial),(fun h=>by cases h)⟩,hbW _ _ (Nat.le_succ _) hw3⟩
theorem row_double (x y:List UInt8) (lo hi:Int) (w:World) (hx:(45:UInt8)∉x) (hl:(x++45::y).length≤4294967281):
  Calls Tryz.prog 196 #[strV (x++45::y),bdV lo hi] w fun e w'=>RowAns lo hi (x++45::y) e∧Below w.heap.size w w':=by
 have hs:x++45::y≠ [42]:=fun e=>by
  have:(45:UInt8)∈([42]:List UInt8):=by rw [←e];simp
  simp at this
 have hne:=star_ne hs
 obtain⟨n,o,hv,h1,h2⟩:=pn_form lo hi x
 obtain⟨m,p,hv2,h3,h4⟩:=pn_form lo hi y
 have HR:Hid (((o=true∧p=true∧n≤m)→rowS lo hi (x++45::y)=some (n,m,false))∧(¬(o=true∧p=true∧n≤m)→rowS lo hi (x++45::y)=none)):=row_two' hs (cutS_hit hx) h1 h2 h3 h4
 have cC:=fun w=>cut_yes x y 45 w hx hl
 simp at hl
 have c1:=fun w=>pn_any x lo hi w (by omega)
 have c2:=fun w=>pn_any y lo hi w (by omega)
 rw [hv]at c1
 rw [hv2]at c2
 clear hs hx h1 h2 hv h3 h4 hv2 hl
 obtain⟨hC0,hD0,hF0,hz0,hw0⟩:=box_two w (#[Value.int .i64 lo,.int .i64 hi]) (#[Value.int .i64 0,.int .i64 0]) 161 161
 obtain⟨w0,hw⟩: ∃w0,w0=(w.alloc (.cells (#[Value.int .i64 lo,.int .i64 hi]) 161)).alloc (.cells (#[Value.int .i64 0,.int .i64 0]) 161):=⟨_,rfl⟩
 rw [←hw]at hC0 hD0 hF0 hz0 hw0
 cases o
 ·go_enter Tryz.func196,Tryz.ntmps196
  go_wp2_with (first
   |(go_at_call 22;rw [←hw];(with_reducible refine(cC _).mono ?_);rintro e w1 ⟨rfl,q,h9⟩;have hb1:Below w0.heap.size w0 w1:=(by rw [h9];exact below_drewN (Below.refl _ _) q);clear h9;have hC1:=cells_on hC0 hb1 (by omega);have hD1:=cells_on hD0 hb1 hz0;have hF1:=free_on hF0 hb1 hz0;have hz1:w.heap.size+1<w1.heap.size:=Nat.lt_of_lt_of_le hz0 hb1.size;have hw1:Below w.heap.size w w1:=hw0.trans (hb1.mono hw0.size))
   |(go_at_call 197;have hk2:=hw2;(with_reducible refine(c2 _).mono ?_);rintro e w3 ⟨rfl,hb3⟩;have hC3:=cells_on hC2 hb3 (by omega);have hD3:=cells_on hD2 hb3 hz2;have hF3:=free_on hF2 hb3 hz2;have hz3:w.heap.size+1<w3.heap.size:=Nat.lt_of_lt_of_le hz2 hb3.size;have hw3:Below w.heap.size w w3:=hw2.trans (hb3.mono hw2.size);have d0:w3.cell? ⟨w.heap.size+1,0,none⟩=some (.int .i64 0):=hD3 0;have d1:w3.cell? ⟨w.heap.size+1,1,none⟩=some (.int .i64 0):=hD3 1;have d2:=hF3 0;have d3:=hF3 1;clear hC3 hD3 hF3)
   |(go_at_call 197;(with_reducible refine(c1 _).mono ?_);rintro e w2 ⟨rfl,hb2⟩;have hC2:=cells_on hC1 hb2 (by omega);have hD2:=cells_on hD1 hb2 hz1;have hF2:=free_on hF1 hb2 hz1;have hz2:w.heap.size+1<w2.heap.size:=Nat.lt_of_lt_of_le hz1 hb2.size;have hw2:Below w.heap.size w w2:=hw1.trans (hb2.mono hw1.size)))
  obtain⟨W,hW,f0,f1,hbW⟩:=fin2 (.int .i64 n) (.int .i64 m) d0 d1
  rw [←hW]
  clear hW
  refine bodyPost_ret (v:=.tuple #[bdV n m,.bool false,.bool false]) (by simp [results,Tryz.results196,go_sem,f0,f1]) rfl ?_
  exact⟨⟨n,m,false,false,rfl,(fun h=>by cases h),(fun _=>HR.out.2 (by simp))⟩,hbW _ _ (Nat.le_succ _) hw3⟩
 ·cases p
  ·go_enter Tryz.func196,Tryz.ntmps196
   go_wp2_with (first
    |(go_at_call 22;rw [←hw];(with_reducible refine(cC _).mono ?_);rintro e w1 ⟨rfl,q,h9⟩;have hb1:Below w0.heap.size w0 w1:=(by rw [h9];exact below_drewN (Below.refl _ _) q);clear h9;have hC1:=cells_on hC0 hb1 (by omega);have hD1:=cells_on hD0 hb1 hz0;have hF1:=free_on hF0 hb1 hz0;have hz1:w.heap.size+1<w1.heap.size:=Nat.lt_of_lt_of_le hz0 hb1.size;have hw1:Below w.heap.size w w1:=hw0.trans (hb1.mono hw0.size))
    |(go_at_call 197;have hk2:=hw2;(with_reducible refine(c2 _).mono ?_);rintro e w3 ⟨rfl,hb3⟩;have hC3:=cells_on hC2 hb3 (by omega);have hD3:=cells_on hD2 hb3 hz2;have hF3:=free_on hF2 hb3 hz2;have hz3:w.heap.size+1<w3.heap.size:=Nat.lt_of_lt_of_le hz2 hb3.size;have hw3:Below w.heap.size w w3:=hw2.trans (hb3.mono hw2.size);have d0:w3.cell? ⟨w.heap.size+1,0,none⟩=some (.int .i64 0):=hD3 0;have d1:w3.cell? ⟨w.heap.size+1,1,none⟩=some (.int .i64 0):=hD3 1;have d2:=hF3 0;have d3:=hF3 1;clear hC3 hD3 hF3)
    |(go_at_call 197;(with_reducible refine(c1 _).mono ?_);rintro e w2 ⟨rfl,hb2⟩;have hC2:=cells_on hC1 hb2 (by omega);have hD2:=cells_on hD1 hb2 hz1;have hF2:=free_on hF1 hb2 hz1;have hz2:w.heap.size+1<w2.heap.size:=Nat.lt_of_lt_of_le hz1 hb2.size;have hw2:Below w.heap.size w w2:=hw1.trans (hb2.mono hw1.size)))
   obtain⟨W,hW,f0,f1,hbW⟩:=fin2 (.int .i64 n) (.int .i64 m) d0 d1
   rw [←hW]
   clear hW
   refine bodyPost_ret (v:=.tuple #[bdV n m,.bool false,.bool false]) (by simp [results,Tryz.results196,go_sem,f0,f1]) rfl ?_
   exact⟨⟨n,m,false,false,rfl,(fun h=>by cases h),(fun _=>HR.out.2 (by simp))⟩,hbW _ _ (Nat.le_succ _) hw3⟩
  ·by_cases hnm:n≤m
   ·have d:decide (n≤m)=true:=by simp [hnm]
    go_enter Tryz.func196,Tryz.ntmps196
    go_wp2_with (first
     |(go_at_call 22;rw [←hw];(with_reducible refine(cC _).mono ?_);rintro e w1 ⟨rfl,q,h9⟩;have hb1:Below w0.heap.size w0 w1:=(by rw [h9];exact below_drewN (Below.refl _ _) q);clear h9;have hC1:=cells_on hC0 hb1 (by omega);have hD1:=cells_on hD0 hb1 hz0;have hF1:=free_on hF0 hb1 hz0;have hz1:w.heap.size+1<w1.heap.size:=Nat.lt_of_lt_of_le hz0 hb1.size;have hw1:Below w.heap.size w w1:=hw0.trans (hb1.mono hw0.size))
     |(go_at_call 197;have hk2:=hw2;(with_reducible refine(c2 _).mono ?_);rintro e w3 ⟨rfl,hb3⟩;have hC3:=cells_on hC2 hb3 (by omega);have hD3:=cells_on hD2 hb3 hz2;have hF3:=free_on hF2 hb3 hz2;have hz3:w.heap.size+1<w3.heap.size:=Nat.lt_of_lt_of_le hz2 hb3.size;have hw3:Below w.heap.size w w3:=hw2.trans (hb3.mono hw2.size);have d0:w3.cell? ⟨w.heap.size+1,0,none⟩=some (.int .i64 0):=hD3 0;have d1:w3.cell? ⟨w.heap.size+1,1,none⟩=some (.int .i64 0):=hD3 1;have d2:=hF3 0;have d3:=hF3 1;clear hC3 hD3 hF3)
     |(go_at_call 197;(with_reducible refine(c1 _).mono ?_);rintro e w2 ⟨rfl,hb2⟩;have hC2:=cells_on hC1 hb2 (by omega);have hD2:=cells_on hD1 hb2 hz1;have hF2:=free_on hF1 hb2 hz1;have hz2:w.heap.size+1<w2.heap.size:=Nat.lt_of_lt_of_le hz1 hb2.size;have hw2:Below w.heap.size w w2:=hw1.trans (hb2.mono hw1.size)))
    obtain⟨W,hW,f0,f1,hbW⟩:=fin2 (.int .i64 n) (.int .i64 m) d0 d1
    rw [←hW]
    clear hW
    refine bodyPost_ret (v:=.tuple #[bdV n m,.bool false,.bool true]) (by simp [results,Tryz.results196,go_sem,f0,f1]) rfl ?_
    exact⟨⟨n,m,false,true,rfl,(fun _=>HR.out.1 (by first|exact⟨trivial,trivial,by omega⟩|omega)),(fun h=>by cases h)⟩,hbW _ _ (Nat.le_succ _) hw3⟩
   ·have d:decide (n≤m)=false:=by simp;omega
    go_enter Tryz.func196,Tryz.ntmps196
    go_wp2_with (first
     |(go_at_call 22;rw [←hw];(with_reducible refine(cC _).mono ?_);rintro e w1 ⟨rfl,q,h9⟩;have hb1:Below w0.heap.size w0 w1:=(by rw [h9];exact below_drewN (Below.refl _ _) q);clear h9;have hC1:=cells_on hC0 hb1 (by omega);have hD1:=cells_on hD0 hb1 hz0;have hF1:=free_on hF0 hb1 hz0;have hz1:w.heap.size+1<w1.heap.size:=Nat.lt_of_lt_of_le hz0 hb1.size;have hw1:Below w.heap.size w w1:=hw0.trans (hb1.mono hw0.size))
     |(go_at_call 197;have hk2:=hw2;(with_reducible refine(c2 _).mono ?_);rintro e w3 ⟨rfl,hb3⟩;have hC3:=cells_on hC2 hb3 (by omega);have hD3:=cells_on hD2 hb3 hz2;have hF3:=free_on hF2 hb3 hz2;have hz3:w.heap.size+1<w3.heap.size:=Nat.lt_of_lt_of_le hz2 hb3.size;have hw3:Below w.heap.size w w3:=hw2.trans (hb3.mono hw2.size);have d0:w3.cell? ⟨w.heap.size+1,0,none⟩=some (.int .i64 0):=hD3 0;have d1:w3.cell? ⟨w.heap.size+1,1,none⟩=some (.int .i64 0):=hD3 1;have d2:=hF3 0;have d3:=hF3 1;clear hC3 hD3 hF3)
     |(go_at_call 197;(with_reducible refine(c1 _).mono ?_);rintro e w2 ⟨rfl,hb2⟩;have hC2:=cells_on hC1 hb2 (by omega);have hD2:=cells_on hD1 hb2 hz1;have hF2:=free_on hF1 hb2 hz1;have hz2:w.heap.size+1<w2.heap.size:=Nat.lt_of_lt_of_le hz1 hb2.size;have hw2:Below w.heap.size w w2:=hw1.trans (hb2.mono hw1.size)))
    obtain⟨W,hW,f0,f1,hbW⟩:=fin2 (.int .i64 n) (.int .i64 m) d0 d1
    rw [←hW]
    clear hW
    refine bodyPost_ret (v:=.tuple #[bdV n m,.bool false,.bool false]) (by simp [results,Tryz.results196,go_sem,f0,f1]) rfl ?_
    exact⟨⟨n,m,false,false,rfl,(fun h=>by cases h),(fun _=>HR.out.2 (by simp;omega))⟩,hbW _ _ (Nat.le_succ _) hw3⟩
theorem row_any (t:List UInt8) (lo hi:Int) (w:World) (hl:t.length≤4294967281):
  Calls Tryz.prog 196 #[strV t,bdV lo hi] w fun e w'=>RowAns lo hi t e∧Below w.heap.size w w':=by
 by_cases hs:t=[42]
 ·subst hs;exact row_star lo hi w
 ·rcases cut_cases 45 t with h|⟨x,y,rfl,h⟩
  ·exact row_single t lo hi w hs h hl
  ·exact row_double x y lo hi w h hl

end Pie
namespace Pie
open Go.RowKit Crn

theorem uw (x:Int):0≤IntKind.u64.wrap x∧IntKind.u64.wrap x≤18446744073709551615:=by rw [IntKind.wrap_u64];omega
theorem one_bit (m n:Int) (hm:0≤m∧m≤63):inS (IntKind.u64.wrap (2^m.toNat)) n=decide (n=m):=by
 rw [show(2:Int)^m.toNat=1*2^m.toNat by omega]
 rw [in_shl 1 m n (by decide) hm.1]
 by_cases h:n=m
 ·subst h
  rw [show n-n=0 by omega,decide_eq_true (show n≤63 by omega),decide_eq_true rfl];decide
 ·rw [decide_eq_false h]
  cases g:inS 1 (n-m)
  ·simp
  ·exfalso
   have hb:=inS_bd g
   have: ∀k:Nat,k<64→inS 1 (k:Int)=true→k=0:=by decide
   obtain⟨K,hK⟩:=Int.eq_ofNat_of_zero_le hb.1
   rw [hK]at g hb
   have:=this K (by omega) g
   omega
def Upper (a st m v:Int):Prop:=(0≤v∧v≤18446744073709551615)∧ ∀n,inS v n=decide (a≤n∧n<m∧(n-a)%st=0)
theorem upper_step {a st m v:Int} (h:Upper a st m v) (hst:1≤st) (ham:a≤m) (hm:0≤m∧m≤63) (hmod:(m-a)%st=0):Upper a st (m+st) (bits .or .u64 v (IntKind.u64.wrap (2^m.toNat))):=by
 have hu:0≤IntKind.u64.wrap (2^m.toNat)∧IntKind.u64.wrap (2^m.toNat)≤18446744073709551615:=uw _
 refine⟨u_or _ _ h.1 hu,fun n=> ?_⟩
 rw [in_or _ _ _ h.1 hu,h.2,one_bit m n hm,←Bool.decide_or,decide_eq_decide]
 constructor
 ·rintro(⟨h1,h2,h3⟩|rfl)
  ·exact⟨h1,by omega,h3⟩
  ·exact⟨ham,by omega,hmod⟩
 ·rintro⟨h1,h2,h3⟩
  by_cases e:n=m
  ·exact Or.inr e
  ·refine Or.inl ⟨h1,?_,h3⟩
   rcases Int.lt_or_le n m with g|g
   ·exact g
   ·exfalso
    have e1:(n-m)%st=0:=by
     have:n-m=(n-a)-(m-a):=by omega
     rw [this,Int.sub_emod,h3,hmod];simp
    have e2:=Int.emod_eq_of_lt (show 0≤n-m by omega) (show n-m<st by omega)
    omega
theorem upper_end {a b st m v:Int} (h:Upper a st m v) (hbm:b<m) (hmb:m≤b+st) (hmod:(m-a)%st=0):SetIs [(a,b,st)] v:=by
 refine⟨h.1,fun n=> ?_⟩
 rw [h.2]
 simp only [List.any_cons,List.any_nil,Bool.or_false,inI]
 rw [decide_eq_decide]
 constructor
 ·rintro⟨h1,h2,h3⟩
  refine⟨h1,?_,h3⟩
  rcases Int.lt_or_le b n with g|g
  ·exfalso
   have e1:(m-n)%st=0:=by
    have:m-n=(m-a)-(n-a):=by omega
    rw [this,Int.sub_emod,h3,hmod];simp
   have e2:=Int.emod_eq_of_lt (show 0≤m-n by omega) (show m-n<st by omega)
   omega
  ·exact g
 ·rintro⟨h1,h2,h3⟩
  exact⟨h1,by omega,h3⟩
def EachR (a b st:Int) (W:World) (s n:Value) (wr:World):Prop:= ∃v m:Int,s=.int .u64 v∧n=.int .i64 m∧a≤m∧m≤b+st∧(m-a)%st=0∧Upper a st m v∧wr=W

theorem each_any (a b st:Int) (w:World) (h0:0≤a) (h1:a≤b) (h2:b≤63) (h3:1≤st) (h4:st≤99):
  Calls Tryz.prog 198 #[bdV a b,.int .i64 st] w fun e w'=> ∃v,e=.returned (.int .u64 v)∧SetIs [(a,b,st)] v∧Below w.heap.size w w':=by
 go_enter Tryz.func198,Tryz.ntmps198
 go_wp2
 obtain⟨W,hW⟩: ∃W,W=w.alloc (.cells #[.int .i64 a,.int .i64 b] 161):=⟨_,rfl⟩
 have k1:W.cell? ⟨w.heap.size,1,none⟩=some (.int .i64 b):=by rw [hW];simp
 have hb:Below w.heap.size w W:=by rw [hW];exact(Below.refl _ _).alloc (Nat.le_refl _) _
 rw [←hW]
 clear hW
 go_loopw [5,6] (fun s n wr=>EachR a b st W s n wr) (fun _ n _=>(b+1+99-intOf n).toNat)
 case atStart=>exact⟨0,a,rfl,rfl,Int.le_refl _,by omega,by simp,⟨by decide,fun n=>by rw [inS_zero,eq_comm,decide_eq_false_iff_not];omega⟩,rfl⟩
 case round=>
  obtain⟨v,m,rfl,rfl,g1,g2,g3,g4,h9⟩:=hrel
  have h8:=h9.symm
  clear h9
  subst h8
  have G4:Hid (Upper a st m v):=g4
  have G3:Hid ((m-a)%st=0):=g3
  clear g3 g4
  by_cases hle:m≤b
  ·go_wp2
   go_roundw
   case rel=>exact⟨_,m+st,rfl,rfl,by omega,by omega,by rw [show m+st-a=(m-a)+st by omega,Int.add_emod_right];exact G3.out,upper_step G4.out h3 g1 (by omega) G3.out,rfl⟩
   case measure=>simp [intOf];omega
  ·go_wp2
   go_ret
   exact⟨v,rfl,upper_end G4.out (by omega) g2 G3.out,hb⟩
end Pie
namespace Pie
open Go.RowKit Crn

def ItemAns (lo hi:Int) (t:List UInt8) (e:Ending):Prop:= ∃(v:Int) (o:Bool),e=.returned (.tuple #[.int .u64 v,.bool o])∧(o=true→ ∃p,itemS lo hi t=some p∧SetIs [p] v)∧(o=false→itemS lo hi t=none)
theorem item_none {lo hi:Int} {t:List UInt8} {v:Int} (h:itemS lo hi t=none):ItemAns lo hi t (.returned (.tuple #[.int .u64 v,.bool false])):=⟨v,false,rfl,(fun g=>by cases g),fun _=>h⟩
theorem item_some {lo hi:Int} {t:List UInt8} {v:Int} {p:Int×Int×Int} (h:itemS lo hi t=some p) (g:SetIs [p] v):ItemAns lo hi t (.returned (.tuple #[.int .u64 v,.bool true])):=⟨v,true,rfl,(fun _=>⟨p,h,g⟩),(fun g=>by cases g)⟩
theorem row_case (t:List UInt8) (lo hi:Int) (hl:t.length≤4294967281):(rowS lo hi t=none∧ ∀w,Calls Tryz.prog 196 #[strV t,bdV lo hi] w fun e w'=> ∃(x y:Int) (z:Bool),e=.returned (.tuple #[bdV x y,.bool z,.bool false])∧Below w.heap.size w w')∨
  ∃x y z,rowS lo hi t=some (x,y,z)∧ ∀w,Calls Tryz.prog 196 #[strV t,bdV lo hi] w fun e w'=>e=.returned (.tuple #[bdV x y,.bool z,.bool true])∧Below w.heap.size w w':=by
 cases h:rowS lo hi t with
 |none=>
  refine Or.inl ⟨rfl,fun w=>(row_any t lo hi w hl).mono ?_⟩
  rintro e w' ⟨⟨x,y,z,o,rfl,h1,h2⟩,hb⟩
  cases o
  ·exact⟨x,y,z,rfl,hb⟩
  ·rw [h1 rfl]at h;cases h
 |some p=>
  obtain⟨x,y,z⟩:=p
  refine Or.inr ⟨x,y,z,rfl,fun w=>(row_any t lo hi w hl).mono ?_⟩
  rintro e w' ⟨⟨x',y',z',o,rfl,h1,h2⟩,hb⟩
  cases o
  ·rw [h2 rfl]at h;cases h
  ·rw [h1 rfl]at h;cases h;exact⟨rfl,hb⟩

theorem item_plain (t:List UInt8) (lo hi:Int) (w:World) (hc:(47:UInt8)∉t) (hl:t.length≤4294967281) (h0:0≤lo) (h1:lo≤hi) (h2:hi≤63):
  Calls Tryz.prog 181 #[strV t,bdV lo hi] w fun e w'=>ItemAns lo hi t e∧Below w.heap.size w w':=by
 have cC:=fun w=>cut_no t 47 w hc
 have HI:Hid (cutS 47 t=none):=cutS_none hc
 clear hc
 rcases row_case t lo hi hl with⟨hr,cR⟩|⟨a,b,z,hr,cR⟩
 ·have HN:Hid (itemS lo hi t=none):=by unfold Hid itemS;rw [HI.out];dsimp only;rw [hr]
  clear hr HI
  obtain⟨w0,hw⟩: ∃w0,w0=w.alloc (.cells (#[Value.int .i64 lo,.int .i64 hi]) 161):=⟨_,rfl⟩
  have hC0: ∀o,w0.cell? ⟨w.heap.size,o,none⟩=(#[Value.int .i64 lo,.int .i64 hi])[o]?:=fun o=>by rw [hw];simp
  have hz0:w.heap.size<w0.heap.size:=by rw [hw];simp
  have hw0:Below w.heap.size w w0:=by rw [hw];exact(Below.refl _ _).alloc (Nat.le_refl _) _
  go_enter Tryz.func181,Tryz.ntmps181
  go_wp2_with (first
   |(go_at_call 22;rw [←hw];(with_reducible refine(cC _).mono ?_);rintro e w1 ⟨rfl,h9⟩;have hb1:Below w0.heap.size w0 w1:=(by rw [h9];exact Below.refl _ _);clear h9;have hC1:=cells_on hC0 hb1 hz0;have hz1:w.heap.size<w1.heap.size:=Nat.lt_of_lt_of_le hz0 hb1.size;have hw1:Below w.heap.size w w1:=hw0.trans (hb1.mono hw0.size))
   |(go_at_call 196;(with_reducible refine(cR _).mono ?_);rintro e w2 ⟨a,b,z,rfl,hb2⟩;have hC2:=cells_on hC1 hb2 hz1;have hz2:w.heap.size<w2.heap.size:=Nat.lt_of_lt_of_le hz1 hb2.size;have hw2:Below w.heap.size w w2:=hw1.trans (hb2.mono hw1.size)))
  go_ret2
  exact⟨item_none HN.out,hw2.alloc hw2.size _⟩
 ·have HN:Hid (itemS lo hi t=some (a,b,1)):=by unfold Hid itemS;rw [HI.out];dsimp only;rw [hr]
  obtain⟨r1,r2,r3⟩:=rowS_bd h1 hr
  have cE:=fun w=>each_any a b 1 w (by omega) r2 (by omega) (by omega) (by omega)
  clear hr HI
  obtain⟨w0,hw⟩: ∃w0,w0=w.alloc (.cells (#[Value.int .i64 lo,.int .i64 hi]) 161):=⟨_,rfl⟩
  have hC0: ∀o,w0.cell? ⟨w.heap.size,o,none⟩=(#[Value.int .i64 lo,.int .i64 hi])[o]?:=fun o=>by rw [hw];simp
  have hz0:w.heap.size<w0.heap.size:=by rw [hw];simp
  have hw0:Below w.heap.size w w0:=by rw [hw];exact(Below.refl _ _).alloc (Nat.le_refl _) _
  go_enter Tryz.func181,Tryz.ntmps181
  cases z
  ·go_wp2_with (first
    |(go_at_call 22;rw [←hw];(with_reducible refine(cC _).mono ?_);rintro e w1 ⟨rfl,h9⟩;have hb1:Below w0.heap.size w0 w1:=(by rw [h9];exact Below.refl _ _);clear h9;have hC1:=cells_on hC0 hb1 hz0;have hz1:w.heap.size<w1.heap.size:=Nat.lt_of_lt_of_le hz0 hb1.size;have hw1:Below w.heap.size w w1:=hw0.trans (hb1.mono hw0.size))
    |(go_at_call 196;(with_reducible refine(cR _).mono ?_);rintro e w2 ⟨rfl,hb2⟩;have hC2:=cells_on hC1 hb2 hz1;have hz2:w.heap.size<w2.heap.size:=Nat.lt_of_lt_of_le hz1 hb2.size;have hw2:Below w.heap.size w w2:=hw1.trans (hb2.mono hw1.size))
    |(go_at_call 198;(with_reducible refine(cE _).mono ?_);rintro e w3 ⟨v,rfl,hv,hb3⟩))
   go_ret2
   exact⟨item_some HN.out hv,(hw2.alloc hw2.size _).trans (hb3.mono (by simp;exact Nat.le_trans hw2.size (Nat.le_succ _)))⟩
  ·go_wp2_with (first
    |(go_at_call 22;rw [←hw];(with_reducible refine(cC _).mono ?_);rintro e w1 ⟨rfl,h9⟩;have hb1:Below w0.heap.size w0 w1:=(by rw [h9];exact Below.refl _ _);clear h9;have hC1:=cells_on hC0 hb1 hz0;have hz1:w.heap.size<w1.heap.size:=Nat.lt_of_lt_of_le hz0 hb1.size;have hw1:Below w.heap.size w w1:=hw0.trans (hb1.mono hw0.size))
    |(go_at_call 196;(with_reducible refine(cR _).mono ?_);rintro e w2 ⟨rfl,hb2⟩;have hC2:=cells_on hC1 hb2 hz1;have hz2:w.heap.size<w2.heap.size:=Nat.lt_of_lt_of_le hz1 hb2.size;have hw2:Below w.heap.size w w2:=hw1.trans (hb2.mono hw1.size))
    |(go_at_call 198;(with_reducible refine(cE _).mono ?_);rintro e w3 ⟨v,rfl,hv,hb3⟩))
   go_ret2
   exact⟨item_some HN.out hv,(hw2.alloc hw2.size _).trans (hb3.mono (by simp;exact Nat.le_trans hw2.size (Nat.le_succ _)))⟩

theorem item_step (x y:List UInt8) (lo hi:Int) (w:World) (hc:(47:UInt8)∉x) (hl:(x++47::y).length≤4294967281) (h0:0≤lo) (h1:lo≤hi) (h2:hi≤63):
  Calls Tryz.prog 181 #[strV (x++47::y),bdV lo hi] w fun e w'=>ItemAns lo hi (x++47::y) e∧Below w.heap.size w w':=by
 have cC:=fun w=>cut_yes x y 47 w hc hl
 have HI:Hid (cutS 47 (x++47::y)=some (x,y)):=cutS_hit hc
 simp at hl
 clear hc
 rcases row_case x lo hi (by omega)with⟨hr,cR⟩|⟨a,b,z,hr,cR⟩
 ·have HN:Hid (itemS lo hi (x++47::y)=none):=by unfold Hid itemS;rw [HI.out];dsimp only;rw [hr]
  clear hr HI
  obtain⟨w0,hw⟩: ∃w0,w0=w.alloc (.cells (#[Value.int .i64 lo,.int .i64 hi]) 161):=⟨_,rfl⟩
  have hC0: ∀o,w0.cell? ⟨w.heap.size,o,none⟩=(#[Value.int .i64 lo,.int .i64 hi])[o]?:=fun o=>by rw [hw];simp
  have hz0:w.heap.size<w0.heap.size:=by rw [hw];simp
  have hw0:Below w.heap.size w w0:=by rw [hw];exact(Below.refl _ _).alloc (Nat.le_refl _) _
  go_enter Tryz.func181,Tryz.ntmps181
  go_wp2_with (first
   |(go_at_call 22;rw [←hw];(with_reducible refine(cC _).mono ?_);rintro e w1 ⟨rfl,q,h9⟩;have hb1:Below w0.heap.size w0 w1:=(by rw [h9];exact below_drewN (Below.refl _ _) q);clear h9;have hC1:=cells_on hC0 hb1 hz0;have hz1:w.heap.size<w1.heap.size:=Nat.lt_of_lt_of_le hz0 hb1.size;have hw1:Below w.heap.size w w1:=hw0.trans (hb1.mono hw0.size))
   |(go_at_call 196;(with_reducible refine(cR _).mono ?_);rintro e w2 ⟨a,b,z,rfl,hb2⟩;have hC2:=cells_on hC1 hb2 hz1;have hz2:w.heap.size<w2.heap.size:=Nat.lt_of_lt_of_le hz1 hb2.size;have hw2:Below w.heap.size w w2:=hw1.trans (hb2.mono hw1.size)))
  go_ret2
  exact⟨item_none HN.out,hw2.alloc hw2.size _⟩
 ·cases z
  ·obtain⟨r1,r2,r3⟩:=rowS_bd h1 hr
   obtain⟨st,o,hv,g1,g2⟩:=pn_form 1 99 y
   have cP:=fun w=>pn_any y 1 99 w (by omega)
   rw [hv]at cP
   cases o
   ·have HN:Hid (itemS lo hi (x++47::y)=none):=by
     unfold Hid itemS;rw [HI.out];dsimp only;rw [hr]
     cases e:num2 y with
     |none=>rfl
     |some m=>
      have:=g2 rfl m e
      have:=num2_bd e
      dsimp only
      rw [if_neg (by omega)]
    clear hr HI g1 g2 hv
    obtain⟨w0,hw⟩: ∃w0,w0=w.alloc (.cells (#[Value.int .i64 lo,.int .i64 hi]) 161):=⟨_,rfl⟩
    have hC0: ∀o,w0.cell? ⟨w.heap.size,o,none⟩=(#[Value.int .i64 lo,.int .i64 hi])[o]?:=fun o=>by rw [hw];simp
    have hz0:w.heap.size<w0.heap.size:=by rw [hw];simp
    have hw0:Below w.heap.size w w0:=by rw [hw];exact(Below.refl _ _).alloc (Nat.le_refl _) _
    go_enter Tryz.func181,Tryz.ntmps181
    go_wp2_with (first
     |(go_at_call 22;rw [←hw];(with_reducible refine(cC _).mono ?_);rintro e w1 ⟨rfl,q,h9⟩;have hb1:Below w0.heap.size w0 w1:=(by rw [h9];exact below_drewN (Below.refl _ _) q);clear h9;have hC1:=cells_on hC0 hb1 hz0;have hz1:w.heap.size<w1.heap.size:=Nat.lt_of_lt_of_le hz0 hb1.size;have hw1:Below w.heap.size w w1:=hw0.trans (hb1.mono hw0.size))
     |(go_at_call 196;(with_reducible refine(cR _).mono ?_);rintro e w2 ⟨rfl,hb2⟩;have hC2:=cells_on hC1 hb2 hz1;have hz2:w.heap.size<w2.heap.size:=Nat.lt_of_lt_of_le hz1 hb2.size;have hw2:Below w.heap.size w w2:=hw1.trans (hb2.mono hw1.size))
     |(go_at_call 197;(with_reducible refine(cP _).mono ?_);rintro e w3 ⟨rfl,hb3⟩))
    go_ret2
    exact⟨item_none HN.out,(hw2.alloc hw2.size _).trans (hb3.mono (by simp;exact Nat.le_trans hw2.size (Nat.le_succ _)))⟩
   ·obtain⟨e1,e2⟩:=g1 rfl
    have HN:Hid (itemS lo hi (x++47::y)=some (a,b,st)):=by
     unfold Hid itemS;rw [HI.out];dsimp only;rw [hr,e1]
     dsimp only
     rw [if_pos e2.1]
    have cE:=fun w=>each_any a b st w (by omega) r2 (by omega) e2.1 e2.2
    clear hr HI g1 g2 hv e1
    obtain⟨w0,hw⟩: ∃w0,w0=w.alloc (.cells (#[Value.int .i64 lo,.int .i64 hi]) 161):=⟨_,rfl⟩
    have hC0: ∀o,w0.cell? ⟨w.heap.size,o,none⟩=(#[Value.int .i64 lo,.int .i64 hi])[o]?:=fun o=>by rw [hw];simp
    have hz0:w.heap.size<w0.heap.size:=by rw [hw];simp
    have hw0:Below w.heap.size w w0:=by rw [hw];exact(Below.refl _ _).alloc (Nat.le_refl _) _
    go_enter Tryz.func181,Tryz.ntmps181
    go_wp2_with (first
     |(go_at_call 22;rw [←hw];(with_reducible refine(cC _).mono ?_);rintro e w1 ⟨rfl,q,h9⟩;have hb1:Below w0.heap.size w0 w1:=(by rw [h9];exact below_drewN (Below.refl _ _) q);clear h9;have hC1:=cells_on hC0 hb1 hz0;have hz1:w.heap.size<w1.heap.size:=Nat.lt_of_lt_of_le hz0 hb1.size;have hw1:Below w.heap.size w w1:=hw0.trans (hb1.mono hw0.size))
     |(go_at_call 196;(with_reducible refine(cR _).mono ?_);rintro e w2 ⟨rfl,hb2⟩;have hC2:=cells_on hC1 hb2 hz1;have hz2:w.heap.size<w2.heap.size:=Nat.lt_of_lt_of_le hz1 hb2.size;have hw2:Below w.heap.size w w2:=hw1.trans (hb2.mono hw1.size))
     |(go_at_call 197;(with_reducible refine(cP _).mono ?_);rintro e w3 ⟨rfl,hb3⟩;have k0:w3.cell? ⟨w2.heap.size,0,none⟩=some (.int .i64 a):=(by rw [hb3.cell (p:=⟨w2.heap.size,0,none⟩) (by simp)];simp);have k1:w3.cell? ⟨w2.heap.size,1,none⟩=some (.int .i64 b):=(by rw [hb3.cell (p:=⟨w2.heap.size,1,none⟩) (by simp)];simp);have hw3:Below w.heap.size w w3:=(hw2.alloc hw2.size _).trans (hb3.mono (by simp;exact Nat.le_trans hw2.size (Nat.le_succ _))))
     |(go_at_call 198;(with_reducible refine(cE _).mono ?_);rintro e w4 ⟨v,rfl,hv4,hb4⟩))
    go_ret2
    exact⟨item_some HN.out hv4,hw3.trans (hb4.mono hw3.size)⟩
  ·have HN:Hid (itemS lo hi (x++47::y)=none):=by
    unfold Hid itemS;rw [HI.out];dsimp only;rw [hr]
   clear hr HI
   obtain⟨w0,hw⟩: ∃w0,w0=w.alloc (.cells (#[Value.int .i64 lo,.int .i64 hi]) 161):=⟨_,rfl⟩
   have hC0: ∀o,w0.cell? ⟨w.heap.size,o,none⟩=(#[Value.int .i64 lo,.int .i64 hi])[o]?:=fun o=>by rw [hw];simp
   have hz0:w.heap.size<w0.heap.size:=by rw [hw];simp
   have hw0:Below w.heap.size w w0:=by rw [hw];exact(Below.refl _ _).alloc (Nat.le_refl _) _
   go_enter Tryz.func181,Tryz.ntmps181
   go_wp2_with (first
    |(go_at_call 22;rw [←hw];(with_reducible refine(cC _).mono ?_);rintro e w1 ⟨rfl,q,h9⟩;have hb1:Below w0.heap.size w0 w1:=(by rw [h9];exact below_drewN (Below.refl _ _) q);clear h9;have hC1:=cells_on hC0 hb1 hz0;have hz1:w.heap.size<w1.heap.size:=Nat.lt_of_lt_of_le hz0 hb1.size;have hw1:Below w.heap.size w w1:=hw0.trans (hb1.mono hw0.size))
    |(go_at_call 196;(with_reducible refine(cR _).mono ?_);rintro e w2 ⟨rfl,hb2⟩;have hC2:=cells_on hC1 hb2 hz1;have hz2:w.heap.size<w2.heap.size:=Nat.lt_of_lt_of_le hz1 hb2.size;have hw2:Below w.heap.size w w2:=hw1.trans (hb2.mono hw1.size)))
   go_ret2
   exact⟨item_none HN.out,hw2.alloc hw2.size _⟩
theorem item_any (t:List UInt8) (lo hi:Int) (w:World) (hl:t.length≤4294967281) (h0:0≤lo) (h1:lo≤hi) (h2:hi≤63):
  Calls Tryz.prog 181 #[strV t,bdV lo hi] w fun e w'=>ItemAns lo hi t e∧Below w.heap.size w w':=by
 rcases cut_cases 47 t with h|⟨x,y,rfl,h⟩
 ·exact item_plain t lo hi w h hl h0 h1 h2
 ·exact item_step x y lo hi w h hl h0 h1 h2
end Pie
namespace Pie
open Go.RowKit Crn

theorem wordS_add (lo hi:Int): ∀(a:List (List UInt8)) (l:List (Int×Int×Int)) (t:List UInt8) (p:Int×Int×Int),wordS lo hi a=some l→itemS lo hi t=some p→wordS lo hi (a++ [t])=some (l++ [p])
 | [],l,t,p,h,g=>by
  cases h
  show wordS lo hi [t]=_
  unfold wordS;rw [g];rfl
 |x::a,l,t,p,h,g=>by
  have e:wordS lo hi (x::a)=match itemS lo hi x,wordS lo hi a with|some p,some l=>some (p::l)|_,_=>none:=rfl
  rw [e]at h
  cases h1:itemS lo hi x with
  |none=>rw [h1]at h;cases h
  |some q=>
   cases h2:wordS lo hi a with
   |none=>rw [h1,h2]at h;cases h
   |some r=>
    rw [h1,h2]at h
    cases h
    have ih:=wordS_add lo hi a r t p h2 g
    have e2:wordS lo hi (x::(a++ [t]))=match itemS lo hi x,wordS lo hi (a++ [t])with|some p,some l=>some (p::l)|_,_=>none:=rfl
    rw [List.cons_append,e2,h1,ih];rfl
theorem wordS_not (lo hi:Int): ∀(a:List (List UInt8)) (t:List UInt8),t∈a→itemS lo hi t=none→wordS lo hi a=none
 |x::a,t,h,g=>by
  have e:wordS lo hi (x::a)=match itemS lo hi x,wordS lo hi a with|some p,some l=>some (p::l)|_,_=>none:=rfl
  rw [e]
  rcases List.mem_cons.1 h with rfl|h
  ·rw [g]
  ·rw [wordS_not lo hi a t h g]
   cases itemS lo hi x<;>rfl
theorem setIs_add {l:List (Int×Int×Int)} {p:Int×Int×Int} {u v:Int} (h:SetIs l u) (g:SetIs [p] v):SetIs (l++ [p]) (bits .or .u64 u v):=by
 refine⟨u_or _ _ h.1 g.1,fun n=> ?_⟩
 rw [in_or _ _ _ h.1 g.1,h.2,g.2,List.any_append]
theorem setIs_nil:SetIs [] 0:=⟨by decide,fun n=>by rw [inS_zero];rfl⟩
def WordAns (lo hi:Int) (t:List UInt8) (e:Ending):Prop:= ∃(v:Int) (o:Bool),e=.returned (.tuple #[.int .u64 v,.bool o])∧(o=true→ ∃l,wordS lo hi (pieces 44 t)=some l∧SetIs l v)∧(o=false→wordS lo hi (pieces 44 t)=none)
theorem item_case (t:List UInt8) (lo hi:Int) (hl:t.length≤4294967281) (h0:0≤lo) (h1:lo≤hi) (h2:hi≤63):(itemS lo hi t=none∧ ∀w,Calls Tryz.prog 181 #[strV t,bdV lo hi] w fun e w'=> ∃v,e=.returned (.tuple #[.int .u64 v,.bool false])∧Below w.heap.size w w')∨
  ∃p,itemS lo hi t=some p∧ ∀w,Calls Tryz.prog 181 #[strV t,bdV lo hi] w fun e w'=> ∃v,e=.returned (.tuple #[.int .u64 v,.bool true])∧SetIs [p] v∧Below w.heap.size w w':=by
 cases h:itemS lo hi t with
 |none=>
  refine Or.inl ⟨rfl,fun w=>(item_any t lo hi w hl h0 h1 h2).mono ?_⟩
  rintro e w' ⟨⟨v,o,rfl,g1,g2⟩,hb⟩
  cases o
  ·exact⟨v,rfl,hb⟩
  ·obtain⟨p,g,_⟩:=g1 rfl;rw [g]at h;cases h
 |some p=>
  refine Or.inr ⟨p,rfl,fun w=>(item_any t lo hi w hl h0 h1 h2).mono ?_⟩
  rintro e w' ⟨⟨v,o,rfl,g1,g2⟩,hb⟩
  cases o
  ·rw [g2 rfl]at h;cases h
  ·obtain⟨q,g,hs⟩:=g1 rfl;rw [g]at h;cases h;exact⟨v,rfl,hs,hb⟩
def WoR (lo hi:Int) (ps:List (List UInt8)) (N:Nat) (w:World) (i s:Value) (wr:World):Prop:= ∃(k:Nat) (v:Int) (l:List (Int×Int×Int)),k≤ps.length∧i=.int .i64 k∧s=.int .u64 v∧wordS lo hi (ps.take k)=some l∧SetIs l v∧Texts wr N ps∧(∀o,wr.cell? ⟨w.heap.size,o,none⟩=(#[Value.int .i64 lo,.int .i64 hi])[o]?)∧w.heap.size<wr.heap.size∧Below w.heap.size w wr

theorem word_any (t:List UInt8) (lo hi:Int) (w:World) (hl:t.length≤1000) (h0:0≤lo) (h1:lo≤hi) (h2:hi≤63):
  Calls Tryz.prog 163 #[strV t,bdV lo hi] w fun e w'=>WordAns lo hi t e∧Below w.heap.size w w':=by
 have cS:=fun w=>split_any t 44 w (by omega)
 have hpl:(pieces 44 t).length≤1001:=by rw [pieces_len];have:=List.count_le_length (a:=(44:UInt8)) (l:=t);omega
 have hps: ∀p∈pieces 44 t,p.length≤4294967281:=fun p hp=>by have:=pieces_sub 44 t p hp;omega
 have HA:Hid (∀v o,((o=true→ ∃l,wordS lo hi (pieces 44 t)=some l∧SetIs l v)∧(o=false→wordS lo hi (pieces 44 t)=none))→WordAns lo hi t (.returned (.tuple #[.int .u64 v,.bool o]))):=fun v o h=>⟨v,o,rfl,h.1,h.2⟩
 have HP:Hid (∀p∈pieces 44 t,p.length≤4294967281):=hps
 clear hps
 generalize pieces 44 t=ps at*
 obtain⟨w0,hw⟩: ∃w0,w0=w.alloc (.cells (#[.int .i64 lo,.int .i64 hi]) 161):=⟨_,rfl⟩
 have hC0: ∀o,w0.cell? ⟨w.heap.size,o,none⟩=(#[Value.int .i64 lo,.int .i64 hi])[o]?:=fun o=>by rw [hw];simp
 have hN:w0.heap.size=w.heap.size+1:=by rw [hw];simp
 have hz0:w.heap.size<w0.heap.size:=by omega
 have hw0:Below w.heap.size w w0:=by rw [hw];exact(Below.refl _ _).alloc (Nat.le_refl _) _
 go_enter Tryz.func163,Tryz.ntmps163
 go_wp2_with(go_at_call 53;rw [←hw];(with_reducible refine(cS _).mono ?_);rintro e w1 ⟨rfl,hT1,hb1⟩;have hC1:=cells_on hC0 hb1 hz0;have hz1:w.heap.size<w1.heap.size:=Nat.lt_of_lt_of_le hz0 hb1.size;have hw1:Below w.heap.size w w1:=hw0.trans (hb1.mono hw0.size))
 rw [hN]at hT1
 clear hC0 hb1 hw cS
 go_loopw [14,6] (fun i s wr=>WoR lo hi ps (w.heap.size+1) w i s wr) (fun i _ _=>ps.length-(intOf i).toNat)
 case atStart=>exact⟨0,0,[],Nat.zero_le _,rfl,rfl,rfl,setIs_nil,hT1,hC1,hz1,hw1⟩
 case round=>
  clear hT1 hC1 hw1
  obtain⟨k,v,l,hk,rfl,rfl,hwd0,hset0,hT,hC,hz,hbw⟩:=hrel
  have HW:Hid (wordS lo hi (ps.take k)=some l):=hwd0
  have HSet:Hid (SetIs l v):=hset0
  clear hwd0 hset0
  by_cases hlt:k<ps.length
  ·have hlt':(k:Int)<ps.length:=by omega
   obtain⟨x,hx⟩: ∃x,ps[k]?=some x:=⟨ps[k],by simp [hlt]⟩
   have cx:=hT.2 k x hx
   have HX:Hid (ps[k]?=some x):=hx
   have hmem:x∈ps:=List.mem_of_getElem? hx
   have HM:Hid (x∈ps):=hmem
   rcases item_case x lo hi (HP.out x hmem) h0 h1 h2 with⟨hi0,cI⟩|⟨p,hi0,cI⟩
   ·have HN:Hid (wordS lo hi ps=none):=wordS_not lo hi ps x hmem hi0
    clear hi0 hmem hx
    go_wp2_with(go_at_call 181;(with_reducible refine(cI _).mono ?_);rintro e w2 ⟨u,rfl,hb2⟩)
    go_ret2
    exact⟨HA.out 0 false ⟨(fun h=>by cases h),fun _=>HN.out⟩,hbw.trans (hb2.mono hbw.size)⟩
   ·have HN:Hid (itemS lo hi x=some p):=hi0
    clear hi0 hmem hx
    go_wp2_with(go_at_call 181;(with_reducible refine(cI _).mono ?_);rintro e w2 ⟨u,rfl,hu,hb2⟩)
    go_roundw
    case rel=>
     refine⟨k+1,_,l++ [p],by omega,rfl,rfl,?_,setIs_add HSet.out hu,hT.below hb2 hT.1,cells_on hC hb2 hz,Nat.lt_of_lt_of_le hz hb2.size,hbw.trans (hb2.mono hbw.size)⟩
     rw [List.take_add_one,HX.out]
     exact wordS_add lo hi _ l x p HW.out HN.out
    case measure=>simp [intOf];omega
  ·go_wp2
   go_ret2
   have e:ps.take k=ps:=List.take_of_length_le (by omega)
   exact⟨HA.out v true ⟨fun _=>⟨l,by rw [←e];exact HW.out,HSet.out⟩,(fun h=>by cases h)⟩,hbw⟩
end Pie
namespace Pie
open Go.RowKit Crn Lai

def blo (i:Nat):Int:=bdl.getD (i*2) 0
def bhi (i:Nat):Int:=bdl.getD (i*2+1) 0
theorem bl_bd {i:Nat} (h:i<5):0≤blo i∧blo i≤bhi i∧bhi i≤63:=by
 have:i=0∨i=1∨i=2∨i=3∨i=4:=by omega
 rcases this with rfl|rfl|rfl|rfl|rfl<;>decide
def wItems (ps:List (List UInt8)) (i:Nat):Option (List (Int×Int×Int)):=wordS (blo i) (bhi i) (pieces 44 (ps.getD i []))
abbrev cron0:Value:=cronV 0 0 0 0 0 false false
def Right (ps:List (List UInt8)) (v:Value):Prop:= ∃(u:Nat→Int) (l:Nat→List (Int×Int×Int)),(∀i,i<5→wItems ps i=some (l i)∧SetIs (l i) (u i))∧v=cronV (u 0) (u 1) (u 2) (u 3) (u 4) (ps.getD 2 []==[42]) (ps.getD 4 []==[42])
theorem right_one {ps:List (List UInt8)} {v v':Value} (h:Right ps v) (g:Right ps v'):v=v':=by
 obtain⟨u,l,h1,rfl⟩:=h
 obtain⟨u',l',g1,rfl⟩:=g
 have e: ∀i,i<5→u i=u' i:=fun i hi=>by
  obtain⟨a,b⟩:=h1 i hi
  obtain⟨c,d⟩:=g1 i hi
  rw [a]at c
  rw [←Option.some.inj c]at d
  exact setIs_one b d
 rw [e 0 (by decide),e 1 (by decide),e 2 (by decide),e 3 (by decide),e 4 (by decide)]
def Wrong (ps:List (List UInt8)):Prop:=ps.length≠5∨ ∃i,i<5∧wItems ps i=none
theorem right_not {ps:List (List UInt8)} {v:Value} (h:Right ps v): ¬ ∃i,i<5∧wItems ps i=none:=by
 obtain⟨u,l,h1,_⟩:=h
 rintro⟨i,hi,hn⟩
 rw [(h1 i hi).1]at hn;cases hn
def ParseAns (s:List UInt8) (e:Ending):Prop:=
 (300<s.length∧e=.returned (.tuple #[cron0,.int .i64 2]))∨(s.length≤300∧Wrong (pieces 32 s)∧e=.returned (.tuple #[cron0,.int .i64 3]))∨
 (s.length≤300∧(pieces 32 s).length=5∧ ∃v,Right (pieces 32 s) v∧e=.returned (.tuple #[v,.int .i64 0]))

theorem set7c {W:World} {B:Nat} {x0 x1 x2 x3 x4 x5 x6:Value} (v0 v1 v2 v3 v4 v5 v6:Value) (h0:W.cell? ⟨B,0,none⟩=some x0) (h1:W.cell? ⟨B,1,none⟩=some x1) (h2:W.cell? ⟨B,2,none⟩=some x2) (h3:W.cell? ⟨B,3,none⟩=some x3) (h4:W.cell? ⟨B,4,none⟩=some x4) (h5:W.cell? ⟨B,5,none⟩=some x5) (h6:W.cell? ⟨B,6,none⟩=some x6):
  let W':=((((((W.setCell ⟨B,0,none⟩ v0).setCell ⟨B,1,none⟩ v1).setCell ⟨B,2,none⟩ v2).setCell ⟨B,3,none⟩ v3).setCell ⟨B,4,none⟩ v4).setCell ⟨B,5,none⟩ v5).setCell ⟨B,6,none⟩ v6
  W'.cell? ⟨B,0,none⟩=some v0∧W'.cell? ⟨B,1,none⟩=some v1∧W'.cell? ⟨B,2,none⟩=some v2∧W'.cell? ⟨B,3,none⟩=some v3∧W'.cell? ⟨B,4,none⟩=some v4∧W'.cell? ⟨B,5,none⟩=some v5∧W'.cell? ⟨B,6,none⟩=some v6:=by
 simp [go_sem,h0,h1,h2,h3,h4,h5,h6]
theorem keep_set {W:World} {a b:Addr} {v u:Value} (hne:a.block≠b.block) (h:W.cell? a=some v):(W.setCell b u).cell? a=some v:=by
 rw [World.cell?_setCell_other (h:=fun e=>hne (by rw [e]))];exact h
theorem keep7 {W:World} {S B M:Nat} {x0 x1 x2 x3 x4 y2 y4 v0 v1 v2 v3 v4 v5 v6:Value} (h1:S≠B) (h2:M≠B)
  (h:W.cell? ⟨S,0,none⟩=some x0∧W.cell? ⟨S,1,none⟩=some x1∧W.cell? ⟨S,2,none⟩=some x2∧W.cell? ⟨S,3,none⟩=some x3∧W.cell? ⟨S,4,none⟩=some x4∧W.cell? ⟨M,2,none⟩=some y2∧W.cell? ⟨M,4,none⟩=some y4):
  (((((((W.setCell ⟨B,0,none⟩ v0).setCell ⟨B,1,none⟩ v1).setCell ⟨B,2,none⟩ v2).setCell ⟨B,3,none⟩ v3).setCell ⟨B,4,none⟩ v4).setCell ⟨B,5,none⟩ v5).setCell ⟨B,6,none⟩ v6).cell? ⟨S,0,none⟩=some x0∧(((((((W.setCell ⟨B,0,none⟩ v0).setCell ⟨B,1,none⟩ v1).setCell ⟨B,2,none⟩ v2).setCell ⟨B,3,none⟩ v3).setCell ⟨B,4,none⟩ v4).setCell ⟨B,5,none⟩ v5).setCell ⟨B,6,none⟩ v6).cell? ⟨S,1,none⟩=some x1∧(((((((W.setCell ⟨B,0,none⟩ v0).setCell ⟨B,1,none⟩ v1).setCell ⟨B,2,none⟩ v2).setCell ⟨B,3,none⟩ v3).setCell ⟨B,4,none⟩ v4).setCell ⟨B,5,none⟩ v5).setCell ⟨B,6,none⟩ v6).cell? ⟨S,2,none⟩=some x2∧(((((((W.setCell ⟨B,0,none⟩ v0).setCell ⟨B,1,none⟩ v1).setCell ⟨B,2,none⟩ v2).setCell ⟨B,3,none⟩ v3).setCell ⟨B,4,none⟩ v4).setCell ⟨B,5,none⟩ v5).setCell ⟨B,6,none⟩ v6).cell? ⟨S,3,none⟩=some x3∧(((((((W.setCell ⟨B,0,none⟩ v0).setCell ⟨B,1,none⟩ v1).setCell ⟨B,2,none⟩ v2).setCell ⟨B,3,none⟩ v3).setCell ⟨B,4,none⟩ v4).setCell ⟨B,5,none⟩ v5).setCell ⟨B,6,none⟩ v6).cell? ⟨S,4,none⟩=some x4∧(((((((W.setCell ⟨B,0,none⟩ v0).setCell ⟨B,1,none⟩ v1).setCell ⟨B,2,none⟩ v2).setCell ⟨B,3,none⟩ v3).setCell ⟨B,4,none⟩ v4).setCell ⟨B,5,none⟩ v5).setCell ⟨B,6,none⟩ v6).cell? ⟨M,2,none⟩=some y2∧(((((((W.setCell ⟨B,0,none⟩ v0).setCell ⟨B,1,none⟩ v1).setCell ⟨B,2,none⟩ v2).setCell ⟨B,3,none⟩ v3).setCell ⟨B,4,none⟩ v4).setCell ⟨B,5,none⟩ v5).setCell ⟨B,6,none⟩ v6).cell? ⟨M,4,none⟩=some y4:=by
 obtain⟨g0,g1,g2,g3,g4,g5,g6⟩:=h
 exact⟨keep_set h1 (keep_set h1 (keep_set h1 (keep_set h1 (keep_set h1 (keep_set h1 (keep_set h1 g0)))))),keep_set h1 (keep_set h1 (keep_set h1 (keep_set h1 (keep_set h1 (keep_set h1 (keep_set h1 g1)))))),keep_set h1 (keep_set h1 (keep_set h1 (keep_set h1 (keep_set h1 (keep_set h1 (keep_set h1 g2)))))),keep_set h1 (keep_set h1 (keep_set h1 (keep_set h1 (keep_set h1 (keep_set h1 (keep_set h1 g3)))))),keep_set h1 (keep_set h1 (keep_set h1 (keep_set h1 (keep_set h1 (keep_set h1 (keep_set h1 g4)))))),keep_set h2 (keep_set h2 (keep_set h2 (keep_set h2 (keep_set h2 (keep_set h2 (keep_set h2 g5)))))),keep_set h2 (keep_set h2 (keep_set h2 (keep_set h2 (keep_set h2 (keep_set h2 (keep_set h2 g6))))))⟩
theorem kd7 {W:World} {S M:Nat} {x0 x1 x2 x3 x4 y2 y4:Value} (h:W.cell? ⟨S,0,none⟩=some x0∧W.cell? ⟨S,1,none⟩=some x1∧W.cell? ⟨S,2,none⟩=some x2∧W.cell? ⟨S,3,none⟩=some x3∧W.cell? ⟨S,4,none⟩=some x4∧W.cell? ⟨M,2,none⟩=some y2∧W.cell? ⟨M,4,none⟩=some y4):W.drew.cell? ⟨S,0,none⟩=some x0∧W.drew.cell? ⟨S,1,none⟩=some x1∧W.drew.cell? ⟨S,2,none⟩=some x2∧W.drew.cell? ⟨S,3,none⟩=some x3∧W.drew.cell? ⟨S,4,none⟩=some x4∧W.drew.cell? ⟨M,2,none⟩=some y2∧W.drew.cell? ⟨M,4,none⟩=some y4:=h
theorem finP {a:Act} {w Wf:World} {B:Nat} {v0 v1 v2 v3 v4 v5 v6:Value} {E:Int} {s:List UInt8} (hp:a.tmps[2]?=some (.pointer (some ⟨B,0,none⟩))) (he:a.tmps[3]?=some (.int .i64 E)) (ha:a.defers=[])
  (hc:Wf.cell? ⟨B,0,none⟩=some v0∧Wf.cell? ⟨B,1,none⟩=some v1∧Wf.cell? ⟨B,2,none⟩=some v2∧Wf.cell? ⟨B,3,none⟩=some v3∧Wf.cell? ⟨B,4,none⟩=some v4∧Wf.cell? ⟨B,5,none⟩=some v5∧Wf.cell? ⟨B,6,none⟩=some v6)
  (hA:ParseAns s (.returned (.tuple #[.agg #[v0,v1,v2,v3,v4,v5,v6],.int .i64 E]))) (hb:Below w.heap.size w Wf):
  bodyPost Tryz.prog Tryz.f128 (fun e w'=>ParseAns s e∧Below w.heap.size w w') Exit.ret a Wf:=by
 obtain⟨c0,c1,c2,c3,c4,c5,c6⟩:=hc
 refine bodyPost_ret (v:=.tuple #[.agg #[v0,v1,v2,v3,v4,v5,v6],.int .i64 E]) ?_ ha ⟨hA,hb⟩
 simp [results,Tryz.results128,go_sem,hp,he,c0,c1,c2,c3,c4,c5,c6]

theorem finPd {a:Act} {w Wf:World} {B:Nat} {v0 v1 v2 v3 v4 v5 v6:Value} {E:Int} {s:List UInt8} (hp:a.tmps[2]?=some (.pointer (some ⟨B,0,none⟩))) (he:a.tmps[3]?=some (.int .i64 E)) (ha:a.defers=[])
  (hc:Wf.cell? ⟨B,0,none⟩=some v0∧Wf.cell? ⟨B,1,none⟩=some v1∧Wf.cell? ⟨B,2,none⟩=some v2∧Wf.cell? ⟨B,3,none⟩=some v3∧Wf.cell? ⟨B,4,none⟩=some v4∧Wf.cell? ⟨B,5,none⟩=some v5∧Wf.cell? ⟨B,6,none⟩=some v6)
  (hA:ParseAns s (.returned (.tuple #[.agg #[v0,v1,v2,v3,v4,v5,v6],.int .i64 E]))) (hb:Below w.heap.size w Wf):
  bodyPost Tryz.prog Tryz.f128 (fun e w'=>ParseAns s e∧Below w.heap.size w w') Exit.ret a Wf.drew:=
 finP (Wf:=Wf.drew) hp he ha hc hA hb.drew

theorem parse_long (s:List UInt8) (w:World) (h:300<s.length):
  Calls Tryz.prog 128 #[strV s] w fun e w'=>ParseAns s e∧Below w.heap.size w w':=by
 have hsz:(⟨s.toArray⟩:ByteArray).size=s.length:=rfl
 have g:(300:Int)<((⟨s.toArray⟩:ByteArray).size:Int):=by omega
 go_enter Tryz.func128,Tryz.ntmps128
 go_wp2
 refine bodyPost_ret (v:=.tuple #[cron0,.int .i64 2]) (by simp [results,Tryz.results128,go_sem]) rfl ⟨Or.inl ⟨h,rfl⟩,?_⟩
 exact(Below.refl _ _).alloc (Nat.le_refl _) _
theorem parse_count (s:List UInt8) (w:World) (h:s.length≤300) (hp:(pieces 32 s).length≠5):
  Calls Tryz.prog 128 #[strV s] w fun e w'=>ParseAns s e∧Below w.heap.size w w':=by
 have hsz:(⟨s.toArray⟩:ByteArray).size=s.length:=rfl
 have g: ¬(300:Int)<((⟨s.toArray⟩:ByteArray).size:Int):=by omega
 have cS:=fun w=>split_any s 32 w (by omega)
 have HA:Hid (ParseAns s (.returned (.tuple #[cron0,.int .i64 3]))):=Or.inr (Or.inl ⟨h,Or.inl hp,rfl⟩)
 have hne:(((pieces 32 s).length:Int) !=5)=true:=by simp;omega
 have hpl:(pieces 32 s).length≤1001:=by rw [pieces_len];have:=List.count_le_length (a:=(32:UInt8)) (l:=s);omega
 generalize pieces 32 s=ps at*
 obtain⟨w0,hw⟩: ∃w0,w0=w.alloc (.cells (#[Value.int .u64 0,.int .u64 0,.int .u64 0,.int .u64 0,.int .u64 0,.bool false,.bool false]) 67):=⟨_,rfl⟩
 have hC0: ∀o,w0.cell? ⟨w.heap.size,o,none⟩=(#[Value.int .u64 0,.int .u64 0,.int .u64 0,.int .u64 0,.int .u64 0,.bool false,.bool false])[o]?:=fun o=>by rw [hw];simp
 have hF0: ∀o,w0.frozen? ⟨w.heap.size,o,none⟩=false:=fun o=>by rw [hw];simp
 have hN:w0.heap.size=w.heap.size+1:=by rw [hw];simp
 have hz0:w.heap.size<w0.heap.size:=by omega
 have hw0:Below w.heap.size w w0:=by rw [hw];exact(Below.refl _ _).alloc (Nat.le_refl _) _
 go_enter Tryz.func128,Tryz.ntmps128
 go_wp2_with(go_at_call 53;rw [←hw];(with_reducible refine(cS _).mono ?_);rintro e w1 ⟨rfl,hT1,hb1⟩;have hC1:=cells_on hC0 hb1 hz0;have hF1:=free_on hF0 hb1 hz0;have hw1:Below w.heap.size w w1:=hw0.trans (hb1.mono hw0.size);have f0:=hF1 0;have f1:=hF1 1;have f2:=hF1 2;have f3:=hF1 3;have f4:=hF1 4;have f5:=hF1 5;have f6:=hF1 6)
 exact finP (B:=w.heap.size) rfl rfl rfl (set7c (W:=w1) (B:=w.heap.size) (x0:=Value.int .u64 0) (x1:=Value.int .u64 0) (x2:=Value.int .u64 0) (x3:=Value.int .u64 0) (x4:=Value.int .u64 0) (x5:=Value.bool false) (x6:=Value.bool false) (.int .u64 0) (.int .u64 0) (.int .u64 0) (.int .u64 0) (.int .u64 0) (.bool false) (.bool false) (hC1 0) (hC1 1) (hC1 2) (hC1 3) (hC1 4) (hC1 5) (hC1 6)) HA.out ((((((((hw1.setCell (Nat.le_refl _) _).setCell (Nat.le_refl _) _).setCell (Nat.le_refl _) _).setCell (Nat.le_refl _) _).setCell (Nat.le_refl _) _).setCell (Nat.le_refl _) _).setCell (Nat.le_refl _) _))

def PaR (ps:List (List UInt8)) (S:Nat) (w:World) (i:Value) (wr:World):Prop:= ∃(k:Nat) (u:Nat→Int) (l:Nat→List (Int×Int×Int)),k≤5∧i=.int .i64 k∧(∀j,j<k→wItems ps j=some (l j)∧SetIs (l j) (u j))∧
 (∀j,j<5→wr.cell? ⟨S,j,none⟩=some (.int .u64 (if j<k then u j else 0)))∧(∀j,wr.frozen? ⟨S,j,none⟩=false)∧S<wr.heap.size∧Texts wr (w.heap.size+1) ps∧
 (∀o,wr.cell? ⟨w.heap.size,o,none⟩=(#[Value.int .u64 0,.int .u64 0,.int .u64 0,.int .u64 0,.int .u64 0,.bool false,.bool false])[o]?)∧(∀o,wr.frozen? ⟨w.heap.size,o,none⟩=false)∧Below w.heap.size w wr
theorem word_case (t:List UInt8) (lo hi:Int) (hl:t.length≤1000) (h0:0≤lo) (h1:lo≤hi) (h2:hi≤63):(wordS lo hi (pieces 44 t)=none∧ ∀w,Calls Tryz.prog 163 #[strV t,bdV lo hi] w fun e w'=> ∃v,e=.returned (.tuple #[.int .u64 v,.bool false])∧Below w.heap.size w w')∨
  ∃l,wordS lo hi (pieces 44 t)=some l∧ ∀w,Calls Tryz.prog 163 #[strV t,bdV lo hi] w fun e w'=> ∃v,e=.returned (.tuple #[.int .u64 v,.bool true])∧SetIs l v∧Below w.heap.size w w':=by
 cases h:wordS lo hi (pieces 44 t)with
 |none=>
  refine Or.inl ⟨rfl,fun w=>(word_any t lo hi w hl h0 h1 h2).mono ?_⟩
  rintro e w' ⟨⟨v,o,rfl,g1,g2⟩,hb⟩
  cases o
  ·exact⟨v,rfl,hb⟩
  ·obtain⟨p,g,_⟩:=g1 rfl;rw [g]at h;cases h
 |some l=>
  refine Or.inr ⟨l,rfl,fun w=>(word_any t lo hi w hl h0 h1 h2).mono ?_⟩
  rintro e w' ⟨⟨v,o,rfl,g1,g2⟩,hb⟩
  cases o
  ·rw [g2 rfl]at h;cases h
  ·obtain⟨q,g,hs⟩:=g1 rfl;rw [g]at h;cases h;exact⟨v,rfl,hs,hb⟩

theorem parse_five (s:List UInt8) (w:World) (hB:BdsAt w) (h:s.length≤300) (hp:(pieces 32 s).length=5):
  Calls Tryz.prog 128 #[strV s] w fun e w'=>ParseAns s e∧Below w.heap.size w w':=by
 have hsz:(⟨s.toArray⟩:ByteArray).size=s.length:=rfl
 have g: ¬(300:Int)<((⟨s.toArray⟩:ByteArray).size:Int):=by omega
 have cS:=fun w=>split_any s 32 w (by omega)
 have HW:Hid ((∃i,i<5∧wItems (pieces 32 s) i=none)→ParseAns s (.returned (.tuple #[cron0,.int .i64 3]))):=fun g=>Or.inr (Or.inl ⟨h,Or.inr g,rfl⟩)
 have HR:Hid (∀v,Right (pieces 32 s) v→ParseAns s (.returned (.tuple #[v,.int .i64 0]))):=fun v g=>Or.inr (Or.inr ⟨h,hp,v,g,rfl⟩)
 have HP:Hid (∀p∈pieces 32 s,p.length≤1000):=fun p hp=>by have:=pieces_sub 32 s p hp;omega
 rw [hp]at cS
 generalize pieces 32 s=ps at*
 obtain⟨w0,hw⟩: ∃w0,w0=w.alloc (.cells (#[Value.int .u64 0,.int .u64 0,.int .u64 0,.int .u64 0,.int .u64 0,.bool false,.bool false]) 67):=⟨_,rfl⟩
 have hC0: ∀o,w0.cell? ⟨w.heap.size,o,none⟩=(#[Value.int .u64 0,.int .u64 0,.int .u64 0,.int .u64 0,.int .u64 0,.bool false,.bool false])[o]?:=fun o=>by rw [hw];simp
 have hF0: ∀o,w0.frozen? ⟨w.heap.size,o,none⟩=false:=fun o=>by rw [hw];simp
 have hN:w0.heap.size=w.heap.size+1:=by rw [hw];simp
 have hz0:w.heap.size<w0.heap.size:=by omega
 have hw0:Below w.heap.size w w0:=by rw [hw];exact(Below.refl _ _).alloc (Nat.le_refl _) _
 go_enter Tryz.func128,Tryz.ntmps128
 go_wp2_with(go_at_call 53;rw [←hw];(with_reducible refine(cS _).mono ?_);rintro e w1 ⟨rfl,hT1,hb1⟩;have hC1:=cells_on hC0 hb1 hz0;have hF1:=free_on hF0 hb1 hz0;have hw1:Below w.heap.size w w1:=hw0.trans (hb1.mono hw0.size);have f0:=hF1 0;have f1:=hF1 1;have f2:=hF1 2;have f3:=hF1 3;have f4:=hF1 4;have f5:=hF1 5;have f6:=hF1 6)
 clear f0 f1 f2 f3 f4 f5 f6
 rw [hN]at hT1
 have hz1:=hT1.1
 obtain⟨W,hW⟩: ∃W,W=w1.alloc (.cells (#[Value.int .u64 0,.int .u64 0,.int .u64 0,.int .u64 0,.int .u64 0]) 158):=⟨_,rfl⟩
 have bW:Below w1.heap.size w1 W:=by rw [hW];exact(Below.refl _ _).alloc (Nat.le_refl _) _
 have cW: ∀o,W.cell? ⟨w1.heap.size,o,none⟩=(#[Value.int .u64 0,.int .u64 0,.int .u64 0,.int .u64 0,.int .u64 0])[o]?:=fun o=>by rw [hW];simp
 have fW: ∀o,W.frozen? ⟨w1.heap.size,o,none⟩=false:=fun o=>by rw [hW];simp
 have zW:w1.heap.size<W.heap.size:=by rw [hW];simp
 rw [←hW]
 clear hW
 generalize hS:w1.heap.size=S at*
 go_loopw [22] (fun i wr=>PaR ps S w i wr) (fun i _=>5-(intOf i).toNat)
 case atStart=>
  refine⟨0,fun _=>0,fun _=> [],by omega,rfl,(fun j hj=>absurd hj (by omega)),fun j hj=> ?_,fW,zW,hT1.below bW (by omega),cells_on hC1 (by rw [hS];exact bW) (by omega),free_on hF1 (by rw [hS];exact bW) (by omega),hw1.trans (bW.mono (by have:=hw1.size;omega))⟩
  rw [cW]
  have:j=0∨j=1∨j=2∨j=3∨j=4:=by omega
  rcases this with rfl|rfl|rfl|rfl|rfl<;>rfl
 case round=>
  clear hT1 hC1 hF1 hw1 bW cW fW zW
  obtain⟨k,u,l,hk,rfl,hit0,hcS,hfS,hzS,hT,hC,hF,hbw⟩:=hrel
  have HIt:Hid (∀j,j<k→wItems ps j=some (l j)∧SetIs (l j) (u j)):=hit0
  have hBr:=hB.below hbw (Nat.le_refl _)
  clear hit0
  by_cases hlt:k<5
  ·have hlt':(k:Int)<5:=by omega
   obtain⟨x,hx⟩: ∃x,ps[k]?=some x:=⟨ps[k],by simp [hp,hlt]⟩
   have cx:=hT.2 k x hx
   have HX:Hid (ps.getD k []=x):=by unfold Hid;rw [List.getD_eq_getElem?_getD,hx];rfl
   have q0:wr.cell? ⟨0,k*2,none⟩=some (.int .i64 (blo k)):=hBr (k*2) (by omega)
   have q1:wr.cell? ⟨0,k*2+1,none⟩=some (.int .i64 (bhi k)):=hBr (k*2+1) (by omega)
   obtain⟨r0,r1,r2⟩:=bl_bd hlt
   have cs:=hcS k hlt
   have fs:=hfS k
   rcases word_case x (blo k) (bhi k) (HP.out x (List.mem_of_getElem? hx)) r0 r1 r2 with⟨hi0,cI⟩|⟨p,hi0,cI⟩
   ·have HN:Hid (∃i,i<5∧wItems ps i=none):=⟨k,hlt,by unfold wItems;rw [HX.out];exact hi0⟩
    clear hi0 hx cs fs hcS hfS
    generalize blo k=lo at*
    generalize bhi k=hi at*
    have f0:=hF 0;have f1:=hF 1;have f2:=hF 2;have f3:=hF 3;have f4:=hF 4;have f5:=hF 5;have f6:=hF 6
    go_wp2_with(go_at_call 163;(with_reducible refine(cI _).mono ?_);rintro e w2 ⟨u2,rfl,hb2⟩;have hC2:=cells_on hC hb2 (by have:=hT.1;omega);have hF2:=free_on hF hb2 (by have:=hT.1;omega);have hw2:Below w.heap.size w w2:=hbw.trans (hb2.mono hbw.size);have g0:=hF2 0;have g1:=hF2 1;have g2:=hF2 2;have g3:=hF2 3;have g4:=hF2 4;have g5:=hF2 5;have g6:=hF2 6)
    exact finP (B:=w.heap.size) rfl rfl rfl (set7c (W:=w2) (B:=w.heap.size) (x0:=Value.int .u64 0) (x1:=Value.int .u64 0) (x2:=Value.int .u64 0) (x3:=Value.int .u64 0) (x4:=Value.int .u64 0) (x5:=Value.bool false) (x6:=Value.bool false) (.int .u64 0) (.int .u64 0) (.int .u64 0) (.int .u64 0) (.int .u64 0) (.bool false) (.bool false) (hC2 0) (hC2 1) (hC2 2) (hC2 3) (hC2 4) (hC2 5) (hC2 6)) (HW.out HN.out) ((((((((hw2.setCell (Nat.le_refl _) _).setCell (Nat.le_refl _) _).setCell (Nat.le_refl _) _).setCell (Nat.le_refl _) _).setCell (Nat.le_refl _) _).setCell (Nat.le_refl _) _).setCell (Nat.le_refl _) _))
   ·have HN:Hid (wItems ps k=some p):=by unfold Hid wItems;rw [HX.out];exact hi0
    clear hi0 hx cs fs
    generalize blo k=lo at*
    generalize bhi k=hi at*
    go_wp2_with(go_at_call 163;(with_reducible refine(cI _).mono ?_);rintro e w2 ⟨u2,rfl,hu2,hb2⟩;have cs:w2.cell? ⟨S,k,none⟩=some (.int .u64 (if k<k then u k else 0)):=(hb2.cell (p:=⟨S,k,none⟩) hzS).trans (hcS k hlt);have fs:w2.frozen? ⟨S,k,none⟩=false:=(hb2.frozen (p:=⟨S,k,none⟩) hzS).trans (hfS k))
    go_roundw
    case rel=>
     have hT1:=hT.1
     have bS:Below S w2 (w2.setCell ⟨S,k,none⟩ (.int .u64 u2)):=(Below.refl S w2).setCell (Nat.le_refl _) _
     refine⟨k+1,fun j=>if j=k then u2 else u j,fun j=>if j=k then p else l j,by omega,rfl,fun j hj=> ?_,fun j hj=> ?_,fun j=> ?_,?_,(hT.below hb2 hT.1).below bS hz1,fun o=>(bS.cell (p:=⟨w.heap.size,o,none⟩) (by show w.heap.size<S;omega)).trans (cells_on hC hb2 (by omega) o),fun o=>(bS.frozen (p:=⟨w.heap.size,o,none⟩) (by show w.heap.size<S;omega)).trans (free_on hF hb2 (by omega) o),(hbw.trans (hb2.mono hbw.size)).setCell (by show w.heap.size≤S;omega) _⟩
     ·dsimp only
      by_cases e:j=k
      ·rw [if_pos e,if_pos e,e];exact⟨HN.out,hu2⟩
      ·rw [if_neg e,if_neg e];exact HIt.out j (by omega)
     ·dsimp only
      by_cases e:j=k
      ·subst e
       rw [if_pos (by omega),if_pos rfl];exact World.cell?_setCell_same _ _ _ cs
      ·rw [World.cell?_setCell_other (h:=fun q=>e (by cases q;rfl)),(hb2.cell (p:=⟨S,j,none⟩) hzS).trans (hcS j hj),if_neg e]
       by_cases g:j<k
       ·rw [if_pos g,if_pos (by omega)]
       ·rw [if_neg g,if_neg (by omega)]
     ·rw [World.frozen?_setCell];exact(hb2.frozen (p:=⟨S,j,none⟩) hzS).trans (hfS j)
     ·have:(w2.setCell ⟨S,k,none⟩ (.int .u64 u2)).heap.size=w2.heap.size:=by simp [World.setCell]
      rw [this];exact Nat.lt_of_lt_of_le hzS hb2.size
    case measure=>simp [intOf];omega
  ·obtain rfl:k=5:=by omega
   have hk5: ¬((5:Nat):Int)<5:=by omega
   have c0:wr.cell? ⟨S,0,none⟩=some (.int .u64 (u 0)):=hcS 0 (by decide)
   have c1:wr.cell? ⟨S,1,none⟩=some (.int .u64 (u 1)):=hcS 1 (by decide)
   have c2:wr.cell? ⟨S,2,none⟩=some (.int .u64 (u 2)):=hcS 2 (by decide)
   have c3:wr.cell? ⟨S,3,none⟩=some (.int .u64 (u 3)):=hcS 3 (by decide)
   have c4:wr.cell? ⟨S,4,none⟩=some (.int .u64 (u 4)):=hcS 4 (by decide)
   have d2:wr.cell? ⟨w.heap.size+1,2,none⟩=some (strV (ps.getD 2 [])):=hT.2 2 _ (by rw [List.getD_eq_getElem?_getD,List.getElem?_eq_getElem (show 2<ps.length by omega)];rfl)
   have d4:wr.cell? ⟨w.heap.size+1,4,none⟩=some (strV (ps.getD 4 [])):=hT.2 4 _ (by rw [List.getD_eq_getElem?_getD,List.getElem?_eq_getElem (show 4<ps.length by omega)];rfl)
   have HRi:Hid (Right ps (cronV (u 0) (u 1) (u 2) (u 3) (u 4) (ps.getD 2 []==[42]) (ps.getD 4 []==[42]))):=⟨u,l,HIt.out,rfl⟩
   have f0:=hF 0;have f1:=hF 1;have f2:=hF 2;have f3:=hF 3;have f4:=hF 4;have f5:=hF 5;have f6:=hF 6
   have e0:wr.cell? ⟨w.heap.size,0,none⟩=some (.int .u64 0):=hC 0;have e1:wr.cell? ⟨w.heap.size,1,none⟩=some (.int .u64 0):=hC 1;have e2:wr.cell? ⟨w.heap.size,2,none⟩=some (.int .u64 0):=hC 2;have e3:wr.cell? ⟨w.heap.size,3,none⟩=some (.int .u64 0):=hC 3;have e4:wr.cell? ⟨w.heap.size,4,none⟩=some (.int .u64 0):=hC 4;have e5:wr.cell? ⟨w.heap.size,5,none⟩=some (.bool false):=hC 5;have e6:wr.cell? ⟨w.heap.size,6,none⟩=some (.bool false):=hC 6
   clear hcS hfS hC hF HIt
   generalize ps.getD 2 []=t2 at*
   generalize ps.getD 4 []=t4 at*
   have z1:S≠w.heap.size:=by omega
   have z3:w.heap.size+1≠w.heap.size:=by omega
   have HBw:Hid (Below w.heap.size w wr):=hbw
   clear cS hBr hB hT HW HP hbw hw hN hz0 hw0 hF0 hC0 hb1
   go_wp2_with fail
   go_region_held (fun w'=>w'.cell? ⟨S,0,none⟩=some (.int .u64 (u 0))∧w'.cell? ⟨S,1,none⟩=some (.int .u64 (u 1))∧w'.cell? ⟨S,2,none⟩=some (.int .u64 (u 2))∧w'.cell? ⟨S,3,none⟩=some (.int .u64 (u 3))∧w'.cell? ⟨S,4,none⟩=some (.int .u64 (u 4))∧w'.cell? ⟨w.heap.size+1,2,none⟩=some (strV t2)∧w'.cell? ⟨w.heap.size+1,4,none⟩=some (strV t4)) (first|((repeat (first|(with_reducible refine kd7 ?_)|(with_reducible refine keep7 z1 z3 ?_)));with_reducible exact⟨c0,c1,c2,c3,c4,d2,d4⟩)) (fail)
   go_wp2
   exact finPd (B:=w.heap.size) rfl rfl rfl (set7c (W:=wr) (B:=w.heap.size) (x0:=Value.int .u64 0) (x1:=Value.int .u64 0) (x2:=Value.int .u64 0) (x3:=Value.int .u64 0) (x4:=Value.int .u64 0) (x5:=Value.bool false) (x6:=Value.bool false) (.int .u64 (u 0)) (.int .u64 (u 1)) (.int .u64 (u 2)) (.int .u64 (u 3)) (.int .u64 (u 4)) (.bool (t2==[42])) (.bool (t4==[42])) e0 e1 e2 e3 e4 e5 e6) (HR.out _ HRi.out) ((((((((HBw.out.setCell (Nat.le_refl _) _).setCell (Nat.le_refl _) _).setCell (Nat.le_refl _) _).setCell (Nat.le_refl _) _).setCell (Nat.le_refl _) _).setCell (Nat.le_refl _) _).setCell (Nat.le_refl _) _))
theorem parse_any (s:List UInt8) (w:World) (hB:BdsAt w):Calls Tryz.prog 128 #[strV s] w fun e w'=>ParseAns s e∧Below w.heap.size w w':=by
 by_cases h:s.length≤300
 ·by_cases hp:(pieces 32 s).length=5
  ·exact parse_five s w hB h hp
  ·exact parse_count s w h hp
 ·exact parse_long s w (by omega)
end Pie
namespace Pie
open Crn Lai

theorem full_int {full lo hi:Int} {P:Nat→Prop} [DecidablePred P] (hlo:0≤lo) (h: ∀k:Nat,inS full (k:Int)=decide (P k)) (hP: ∀k:Nat,P k↔lo≤(k:Int)∧(k:Int)≤hi) (n:Int):inS full n=decide (lo≤n∧n≤hi):=by
 by_cases g:0≤n
 ·obtain⟨k,rfl⟩:=Int.eq_ofNat_of_zero_le g
  rw [h,decide_eq_decide];exact hP k
 ·rw [inS_neg _ _ (by omega),eq_comm,decide_eq_false_iff_not];omega
theorem in0 (n:Int):inS fMin n=decide (0≤n∧n≤59):=full_int (P:=fun k=>k≤59) (by omega) (fun k=>(full_in k).1) (fun k=>by omega) n
theorem in1 (n:Int):inS fHour n=decide (0≤n∧n≤23):=full_int (P:=fun k=>k≤23) (by omega) (fun k=>(full_in k).2.1) (fun k=>by omega) n
theorem in2 (n:Int):inS fDay n=decide (1≤n∧n≤31):=full_int (P:=fun k=>1≤k∧k≤31) (by omega) (fun k=>(full_in k).2.2.1) (fun k=>by omega) n
theorem in3 (n:Int):inS fMon n=decide (1≤n∧n≤12):=full_int (P:=fun k=>1≤k∧k≤12) (by omega) (fun k=>(full_in k).2.2.2.1) (fun k=>by omega) n
theorem in4 (n:Int):inS fWeek n=decide (0≤n∧n≤6):=full_int (P:=fun k=>k≤6) (by omega) (fun k=>(full_in k).2.2.2.2) (fun k=>by omega) n

theorem uF0:U fMin:=⟨by decide,by decide⟩
theorem uF1:U fHour:=⟨by decide,by decide⟩
theorem uF2:U fDay:=⟨by decide,by decide⟩
theorem uF3:U fMon:=⟨by decide,by decide⟩
theorem uF4:U fWeek:=⟨by decide,by decide⟩

theorem word_back {s lo hi full:Int} {star m:Bool} (hs:U s) (hF:U full) (hf: ∀n,inS full n=decide (lo≤n∧n≤hi)) (hl:lo≤hi) (h59:hi≤59) (hok:okB s full m=true) (hst:star=true→s=full):
  (∃l,wordS lo hi (pieces 44 (wordT s star))=some l∧SetIs l s)∧(32:UInt8)∉wordT s star∧(wordT s star==[42])=star∧((wordT s star).length:Int)≤2*(hi+2-lo):=by
 have hsub: ∀n,inS s n=true→lo≤n∧n≤hi:=fun n h=>by
  have:=ok_sub hs hF hok n h
  rw [hf,decide_eq_true_eq]at this;exact this
 cases star
 ·have e:wordT s false=Lib.join ((rowsU s 64).map rowT) [44]:=by unfold wordT;rw [if_neg (by decide)]
  rw [e]
  have hK:(60:Nat)≤64:=by decide
  generalize (64:Nat)=K at hK
  obtain⟨h1,h2,h3,h4,h5⟩:=rows_read hs hsub h59 hK (ok_some hs hok)
  exact⟨⟨_,by rw [h1];exact h2,h3⟩,h4,beq_eq_false_iff_ne.2 h5,word_short hs hsub h59 hl K⟩
 ·have e:wordT s true=[42]:=by unfold wordT;rw [if_pos rfl]
  rw [e]
  exact⟨⟨_,star_word,(full_one hF hf).2 (hst rfl)⟩,by decide,rfl,by simp;omega⟩

theorem cron_back {mi ho da mn we:Int} {ad aw:Bool} (b0:U mi) (b1:U ho) (b2:U da) (b3:U mn) (b4:U we) (hc:chkB mi ho da mn we ad aw=true):
  Right (pieces 32 (cronT (wds mi ho da mn we ad aw))) (cronV mi ho da mn we ad aw)∧(pieces 32 (cronT (wds mi ho da mn we ad aw))).length=5∧(cronT (wds mi ho da mn we ad aw)).length≤300:=by
 unfold chkB at hc
 simp only [Bool.and_eq_true]at hc
 obtain⟨h0,h1,h2,h3,h4⟩:=hc
 obtain⟨⟨l0,p0,q0⟩,r0,s0,t0⟩:=word_back (star:=(mi==1152921504606846975)) b0 uF0 in0 (by decide) (by decide) h0 (fun e=>beq_iff_eq.1 e)
 obtain⟨⟨l1,p1,q1⟩,r1,s1,t1⟩:=word_back (star:=(ho==16777215)) b1 uF1 in1 (by decide) (by decide) h1 (fun e=>beq_iff_eq.1 e)
 obtain⟨⟨l2,p2,q2⟩,r2,s2,t2⟩:=word_back (star:=ad) b2 uF2 in2 (by decide) (by decide) h2 (fun e=>by rw [e]at h2;exact ok_any h2)
 obtain⟨⟨l3,p3,q3⟩,r3,s3,t3⟩:=word_back (star:=(mn==8190)) b3 uF3 in3 (by decide) (by decide) h3 (fun e=>beq_iff_eq.1 e)
 obtain⟨⟨l4,p4,q4⟩,r4,s4,t4⟩:=word_back (star:=aw) b4 uF4 in4 (by decide) (by decide) h4 (fun e=>by rw [e]at h4;exact ok_any h4)
 have w0:wds mi ho da mn we ad aw 0=wordT mi (mi==1152921504606846975):=rfl
 have w1:wds mi ho da mn we ad aw 1=wordT ho (ho==16777215):=rfl
 have w2:wds mi ho da mn we ad aw 2=wordT da ad:=rfl
 have w3:wds mi ho da mn we ad aw 3=wordT mn (mn==8190):=rfl
 have w4:wds mi ho da mn we ad aw 4=wordT we aw:=rfl
 unfold cronT
 rw [w0,w1,w2,w3,w4]
 generalize wordT mi (mi==1152921504606846975)=x0 at*
 generalize wordT ho (ho==16777215)=x1 at*
 generalize wordT da ad=x2 at*
 generalize wordT mn (mn==8190)=x3 at*
 generalize wordT we aw=x4 at*
 have hp : pieces 32 (Lib.join [x0, x1, x2, x3, x4] [32]) = [x0, x1, x2, x3, x4] := pieces_join 32 x0 [x1, x2, x3, x4] (fun y hy => by
  simp only [List.mem_cons,List.not_mem_nil,or_false]at hy
  rcases hy with rfl|rfl|rfl|rfl|rfl<;>assumption)
 rw [hp]
 refine⟨⟨fun i=>match i with|0=>mi|1=>ho|2=>da|3=>mn|_=>we,fun i=>match i with|0=>l0|1=>l1|2=>l2|3=>l3|_=>l4,fun i hi=> ?_,?_⟩,rfl,?_⟩
 ·have:i=0∨i=1∨i=2∨i=3∨i=4:=by omega
  rcases this with rfl|rfl|rfl|rfl|rfl
  ·exact⟨p0,q0⟩
  ·exact⟨p1,q1⟩
  ·exact⟨p2,q2⟩
  ·exact⟨p3,q3⟩
  ·exact⟨p4,q4⟩
 ·show cronV mi ho da mn we ad aw=cronV mi ho da mn we (x2==[42]) (x4==[42])
  rw [s2,s4]
 ·have e:Lib.join [x0,x1,x2,x3,x4] [32]=x0++32::(x1++32::(x2++32::(x3++32::x4))):=by
   rw [Lib.join_cons];simp [Lib.joinTail]
  rw [e]
  simp only [List.length_append,List.length_cons]
  omega
theorem right_chk {ps:List (List UInt8)} {v:Value} (h:Right ps v): ∃(mi ho da mn we:Int) (ad aw:Bool),v=cronV mi ho da mn we ad aw∧U mi∧U ho∧U da∧U mn∧U we∧chkB mi ho da mn we ad aw=true:=by
 obtain⟨u,l,h1,rfl⟩:=h
 refine⟨u 0,u 1,u 2,u 3,u 4,_,_,rfl,(h1 0 (by decide)).2.1,(h1 1 (by decide)).2.1,(h1 2 (by decide)).2.1,(h1 3 (by decide)).2.1,(h1 4 (by decide)).2.1,?_⟩
 have nof: ∀t:List UInt8,(false:Bool)=true→t=[42]:=fun t h=>by cases h
 unfold chkB
 simp only [Bool.and_eq_true]
 exact⟨ok_read (lo:=0) (hi:=59) uF0 in0 (by decide) (h1 0 (by decide)).1 (h1 0 (by decide)).2 (nof _),ok_read (lo:=0) (hi:=23) uF1 in1 (by decide) (h1 1 (by decide)).1 (h1 1 (by decide)).2 (nof _),ok_read (lo:=1) (hi:=31) uF2 in2 (by decide) (h1 2 (by decide)).1 (h1 2 (by decide)).2 (fun e=>beq_iff_eq.1 e),ok_read (lo:=1) (hi:=12) uF3 in3 (by decide) (h1 3 (by decide)).1 (h1 3 (by decide)).2 (nof _),ok_read (lo:=0) (hi:=6) uF4 in4 (by decide) (h1 4 (by decide)).1 (h1 4 (by decide)).2 (fun e=>beq_iff_eq.1 e)⟩
end Pie
namespace Pln
open Go.RowKit Crn Lai Pie

theorem cron_case (s:List UInt8):(∃E:Int,(E=2∨E=3)∧ ∀e,ParseAns s e→e=.returned (.tuple #[cron0,.int .i64 E]))∨
  ∃c:K,Us c∧kc c=true∧ParseAns s (.returned (.tuple #[kV c,.int .i64 0]))∧ ∀e,ParseAns s e→e=.returned (.tuple #[kV c,.int .i64 0]):=by
 by_cases hl:300<s.length
 ·refine Or.inl ⟨2,Or.inl rfl,fun e h=> ?_⟩
  rcases h with⟨_,h⟩|⟨h,_⟩|⟨h,_⟩
  ·exact h
  ·omega
  ·omega
 ·by_cases hr:(pieces 32 s).length=5∧ ∃v,Right (pieces 32 s) v
  ·obtain⟨hp,v,hv⟩:=hr
   obtain⟨mi,ho,da,mn,we,ad,aw,rfl,u0,u1,u2,u3,u4,hc⟩:=right_chk hv
   refine Or.inr ⟨⟨mi,ho,da,mn,we,ad,aw⟩,⟨u0,u1,u2,u3,u4⟩,hc,Or.inr (Or.inr ⟨by omega,hp,_,hv,rfl⟩),fun e h=> ?_⟩
   rcases h with⟨h,_⟩|⟨_,h,_⟩|⟨_,_,v',h,rfl⟩
   ·exact absurd h hl
   ·rcases h with h|h
    ·exact absurd hp h
    ·exact absurd h (right_not hv)
   ·rw [right_one h hv]
  ·refine Or.inl ⟨3,Or.inr rfl,fun e h=> ?_⟩
   rcases h with⟨h,_⟩|⟨_,_,h⟩|⟨_,hp,v',h,_⟩
   ·exact absurd h hl
   ·exact h
   ·exact absurd ⟨hp,v',h⟩ hr
structure RdOk (rd:List UInt8→Option K):Prop where
 yes: ∀s c,rd s=some c→Us c∧kc c=true∧ParseAns s (.returned (.tuple #[kV c,.int .i64 0]))∧ ∀e,ParseAns s e→e=.returned (.tuple #[kV c,.int .i64 0])
 no: ∀s,rd s=none→ ∃E:Int,(E=2∨E=3)∧ ∀e,ParseAns s e→e=.returned (.tuple #[cron0,.int .i64 E])
theorem rd_exists: ∃rd,RdOk rd:=by
 classical
 have key: ∀s,∃o:Option K,(∀c,o=some c→Us c∧kc c=true∧ParseAns s (.returned (.tuple #[kV c,.int .i64 0]))∧ ∀e,ParseAns s e→e=.returned (.tuple #[kV c,.int .i64 0]))∧(o=none→ ∃E:Int,(E=2∨E=3)∧ ∀e,ParseAns s e→e=.returned (.tuple #[cron0,.int .i64 E])):=fun s=>by
  rcases cron_case s with h|⟨c,h⟩
  ·exact⟨none,fun c hc=>(by cases hc),fun _=>h⟩
  ·exact⟨some c,fun c' hc=>(by cases hc;exact h),fun hc=>(by cases hc)⟩
 exact⟨fun s=>Classical.choose (key s),fun s=>(Classical.choose_spec (key s)).1,fun s=>(Classical.choose_spec (key s)).2⟩
theorem slash_item (lo hi:Int):wordS lo hi (pieces 44 [47])=none:=by
 rw [pieces_none (by decide)]
 have e:itemS lo hi [47]=none:=by
  unfold itemS
  rw [show cutS 47 [47]=some ([],[])from rfl]
  have r:rowS lo hi []=none:=by unfold rowS;rw [if_neg (by decide)];rfl
  dsimp only
  rw [r]
 unfold wordS
 rw [e]
theorem rd_wrong {rd:List UInt8→Option K} (h:RdOk rd) {s:List UInt8} (hw:Wrong (pieces 32 s)):rd s=none:=by
 cases hr:rd s with
 |none=>rfl
 |some c=>
  exfalso
  obtain⟨_,_,_,h4⟩:=h.yes s c hr
  by_cases hl:300<s.length
  ·have:=h4 _ (Or.inl ⟨hl,rfl⟩);simp at this
  ·have:=h4 _ (Or.inr (Or.inl ⟨by omega,hw,rfl⟩));simp at this
theorem rd_slash {rd:List UInt8→Option K} (h:RdOk rd) (s:List UInt8) (hs:[47]∈pieces 32 s):rd s=none:=by
 refine rd_wrong h ?_
 by_cases hp:(pieces 32 s).length=5
 ·obtain⟨i,hi⟩:=List.mem_iff_getElem?.1 hs
  refine Or.inr ⟨i,by have:=(List.getElem?_eq_some_iff.1 hi).1;omega,?_⟩
  unfold wItems
  rw [List.getD_eq_getElem?_getD,hi]
  exact slash_item _ _
 ·exact Or.inl hp
theorem rd_nil {rd:List UInt8→Option K} (h:RdOk rd):rd []=none:=rd_wrong h (Or.inl (by decide))
theorem rd_back {rd:List UInt8→Option K} (h:RdOk rd) (c:K) (u:Us c) (hc:kc c=true):rd (cronT (wds c.mi c.ho c.da c.mn c.we c.ad c.aw))=some c:=by
 obtain⟨h1,h2,h3⟩:=cron_back u.u0 u.u1 u.u2 u.u3 u.u4 hc
 have ha:ParseAns (cronT (wds c.mi c.ho c.da c.mn c.we c.ad c.aw)) (.returned (.tuple #[kV c,.int .i64 0])):=Or.inr (Or.inr ⟨h3,h2,_,h1,rfl⟩)
 cases hr:rd (cronT (wds c.mi c.ho c.da c.mn c.we c.ad c.aw))with
 |none=>
  obtain⟨E,hE,g⟩:=h.no _ hr
  have:=g _ ha
  simp at this
  omega
 |some d=>
  obtain⟨_,_,_,g⟩:=h.yes _ d hr
  have:=g _ ha
  cases c
  cases d
  simp at this
  simp [this]
end Pln
end Go.Proofs.YtddabkmppobcdaaGreatDoor
