/- A part. -/
import Derived.Test.YtaekecgbdegemaaGreatDoorPtDskJoin
import Derived.Test.YtaekecgbdegemaaGreatDoorPtDskTell
set_option linter.all false
open Go.Proofs.Tryz
set_option maxHeartbeats 32000000
set_option maxRecDepth 8000
namespace Go.Proofs.YtaekecgbdegemaaGreatDoor
namespace Dsk
open Go.RowKit Lai Crn Pln Pie Civ Cal RCrn
variable {w1:World}

theorem nums2 {w:World} {ao:Option Addr} {x y:Int} (h:NumsAt w ao [x,y]): ∃g,ao=some ⟨g,0,none⟩∧w.cell? ⟨g,0,none⟩=some (.int .i64 x)∧w.cell? ⟨g,1,none⟩=some (.int .i64 y):=by
 obtain⟨g,rfl,h0⟩:=h 0 x rfl;obtain⟨g',e,h1⟩:=h 1 y rfl;cases e;exact⟨g,rfl,h0,h1⟩
abbrev zr7:Array Value:=#[.int .i64 0,.int .i64 0,.int .i64 0,.int .i64 0,.int .i64 0,.int .i64 0,.int .i64 0]
theorem box7 {w:World} (hb:Below (w.alloc (.cells zr7 95)).drew.heap.size (w.alloc (.cells zr7 95)).drew w1):(∀o,w1.cell? ⟨w.heap.size,o,none⟩=zr7[o]?)∧(∀o,w1.frozen? ⟨w.heap.size,o,none⟩=false)∧w.heap.size<w1.heap.size∧Below w.heap.size w w1:=by
 have hz:w.heap.size<(w.alloc (.cells zr7 95)).drew.heap.size:=by show _<(w.alloc _).heap.size;simp
 refine⟨fun o=>(hb.cell (p:=⟨w.heap.size,o,none⟩) hz).trans ?_,fun o=>(hb.frozen (p:=⟨w.heap.size,o,none⟩) hz).trans ?_,Xb hz hb.size,((balloc w _).drew).trans (hb.mono (Xw hz))⟩
 ·show(w.alloc _).cell? _=_;simp
 ·show(w.alloc _).frozen? _=_;simp
def EndR {α:Type} (F:α→Act) (R:α→World→Prop) (x:Exit) (a:Act) (w:World):Prop:=match x with
 | .normal=> ∃k,a=F k∧R k w
 |_=>False
theorem mono_r {P:Program} {c:Code} {Q:Exit→Act→World→Prop} {a:Act} {w:World} {α:Type} (R:α→World→Prop) (h: ∃F:α→Act,c.wp P (EndR F R) a w∧ ∀k w',R k w'→Q .normal (F k) w'):c.wp P Q a w:=by
 obtain⟨F,h,hQ⟩:=h;refine Code.wp_mono (fun x a' w' hE=> ?_) h;cases x with
 |normal=>obtain⟨k,rfl,hr⟩:=hE;exact hQ _ _ hr
 |_=>exact False.elim hE
theorem kset {w:World} {g j S i:Nat} {v u:Value} (h:w.cell? ⟨g,j,none⟩=some v) (hn:g≠S):(w.setCell ⟨S,i,none⟩ u).cell? ⟨g,j,none⟩=some v:=by
 rw [Xd (h:=fun e=>hn (by cases e;rfl))];exact h
abbrev Cj (K:Nat) (a b c d e f g:Int) (w:World):Prop:=w.cell? ⟨K,0,none⟩=some (.int .i64 a)∧w.cell? ⟨K,1,none⟩=some (.int .i64 b)∧w.cell? ⟨K,2,none⟩=some (.int .i64 c)∧w.cell? ⟨K,3,none⟩=some (.int .i64 d)∧w.cell? ⟨K,4,none⟩=some (.int .i64 e)∧w.cell? ⟨K,5,none⟩=some (.int .i64 f)∧w.cell? ⟨K,6,none⟩=some (.int .i64 g)
def Sev (K:Nat) (a b c d e f g:Int) (w W:World):Prop:=Cj K a b c d e f g W∧PowAt W∧Below w.heap.size w W
section
variable {K : Nat} {a b c d e f g : Int} {w W W' : World}
theorem Sev.cj (h:Sev K a b c d e f g w W):Cj K a b c d e f g W:=h.1
theorem Sev.kc (h:Sev K a b c d e f g w W) (hb:Below W.heap.size W W'):Sev K a b c d e f g w W':=
 ⟨⟨Tk.kc h.1.1 hb,Tk.kc h.1.2.1 hb,Tk.kc h.1.2.2.1 hb,Tk.kc h.1.2.2.2.1 hb,Tk.kc h.1.2.2.2.2.1 hb,Tk.kc h.1.2.2.2.2.2.1 hb,Tk.kc h.1.2.2.2.2.2.2 hb⟩,h.2.1.below hb (Xa _),h.2.2.trans (hb.mono h.2.2.size)⟩
theorem Sev.al (h:Sev K a b c d e f g w W) (o:Obj):Sev K a b c d e f g w (W.alloc o):=h.kc (balloc _ _)
end
theorem sevA {w:World} (a b c d e f g:Int) (hc: ∀o,w1.cell? ⟨w.heap.size,o,none⟩=zr7[o]?) (hb:Below w.heap.size w w1) (hP:PowAt w): ∃K W,K=w.heap.size∧W=((((((w1.setCell ⟨w.heap.size,0,none⟩ (.int .i64 a)).setCell ⟨w.heap.size,1,none⟩ (.int .i64 b)).setCell ⟨w.heap.size,2,none⟩ (.int .i64 c)).setCell ⟨w.heap.size,3,none⟩ (.int .i64 d)).setCell ⟨w.heap.size,4,none⟩ (.int .i64 e)).setCell ⟨w.heap.size,5,none⟩ (.int .i64 f)).setCell ⟨w.heap.size,6,none⟩ (.int .i64 g)∧Sev K a b c d e f g w W:=by
 have hB:=((((((hb.setCell (p:=⟨w.heap.size,0,none⟩) (Xa _) (.int .i64 a)).setCell (p:=⟨w.heap.size,1,none⟩) (Xa _) (.int .i64 b)).setCell (p:=⟨w.heap.size,2,none⟩) (Xa _) (.int .i64 c)).setCell (p:=⟨w.heap.size,3,none⟩) (Xa _) (.int .i64 d)).setCell (p:=⟨w.heap.size,4,none⟩) (Xa _) (.int .i64 e)).setCell (p:=⟨w.heap.size,5,none⟩) (Xa _) (.int .i64 f)).setCell (p:=⟨w.heap.size,6,none⟩) (Xa _) (.int .i64 g);refine⟨_,_,rfl,rfl,?_,hP.below hB (Xa _),hB⟩;have h0:=hc 0;have h1:=hc 1;have h2:=hc 2;have h3:=hc 3;have h4:=hc 4;have h5:=hc 5;have h6:=hc 6;simp only [zr7]at h0 h1 h2 h3 h4 h5 h6;refine⟨?_,?_,?_,?_,?_,?_,?_⟩<;>simp [go_sem,h0,h1,h2,h3,h4,h5,h6]
theorem sevB {w:World} (a b c d e f g:Int) (hb:Below w.heap.size w w1) (hP:PowAt w): ∃K W,K=w1.heap.size∧W=w1.alloc (.cells #[.int .i64 a,.int .i64 b,.int .i64 c,.int .i64 d,.int .i64 e,.int .i64 f,.int .i64 g] 95)∧Sev K a b c d e f g w W:=
 ⟨_,_,rfl,rfl,⟨by simp,by simp,by simp,by simp,by simp,by simp,by simp⟩,hP.below (hb.alloc hb.size _) (Xa _),hb.alloc hb.size _⟩
theorem join_l3 (s:List UInt8) (hs:s.length≤1) (l:List Int) (hl:l.length≤3) (hI: ∀n∈l,I n):(Lib.join (l.map Lib.itoa) s).length≤100:=by
 have h:=join_len s 20 (l.map Lib.itoa) (fun x hx=>by obtain⟨n,hn,rfl⟩:=XS.1 hx;exact itoa_len20 (hI n hn));rw [XE]at h;have:l.length*(s.length+20)≤3*21:=Nat.mul_le_mul hl (by omega);omega
theorem join3 (s:UInt8) (a b c:Int) (hI: ∀n∈ [a,b,c],I n) (G:Nat) (X:World) (h:X.cell? ⟨G,0,none⟩=some (.int .i64 a)∧X.cell? ⟨G,1,none⟩=some (.int .i64 b)∧X.cell? ⟨G,2,none⟩=some (.int .i64 c)) (hP:PowAt X):
  CB 58 #[.string ⟨#[s]⟩,.slice (some ⟨G,0,none⟩) 3 3] X (strV (Lib.join ([a,b,c].map Lib.itoa) [s])):=
 join_any [s] [a,b,c] G 3 X (fun j n hj=>by rcases j with _|_|_|j<;>simp at hj<;>subst hj;exact h.1;exact h.2.1;exact h.2.2) (Xa 3) hI (by simp) hP
theorem date_go (x y:Int) (g c:Nat) (v:Value) (w:World) (h0:w.cell? ⟨g,0,none⟩=some (.int .i64 x)) (h1:w.cell? ⟨g,1,none⟩=some (.int .i64 y)) (Y M D H N S W E:Int)
  (hI: ∀n∈ [Y,M,D,H,N,S,W],I n) (hP:PowAt w) (c0: ∀w,CB 57 #[.int .i64 x,.int .i64 y] w (.tuple #[civ Y M D H N S W,.int .i64 E])):
  Calls prog 33 #[.slice (some ⟨g,0,none⟩) 2 c,v] w fun e w'=>((E≠0→e=.returned (.tuple #[.string ⟨#[]⟩,.iface 31 (fA E)]))∧(E=0→e=.returned (.tuple #[strV (Lib.join ([Y,M,D].map Lib.itoa) [45]++ [32]++Lib.join ([H,N,S].map Lib.itoa) [58]++ [32]++Lib.itoa W),.nilIface])))∧Below w.heap.size w w':=by
 unfold civ at c0;have hg:g≠w.heap.size:=Nat.ne_of_lt (Xj w _ h0);have d0:w.drew.cell? ⟨g,0,none⟩=some (.int .i64 x):=h0;have d1:w.drew.cell? ⟨g,1,none⟩=some (.int .i64 y):=h1;have j0:(w.alloc (.cells zr7 95)).drew.cell? ⟨g,0,none⟩=some (.int .i64 x):=cell_al h0 _;have j1:(w.alloc (.cells zr7 95)).drew.cell? ⟨g,1,none⟩=some (.int .i64 y):=cell_al h1 _;unfold zr7 at j0 j1;have HI:=zh hI;have HP:=zh hP;clear hI hP;go_enter func33,ntmps33;go_upto_region 1 with fail
 refine mono_r (fun K w'=>Sev K Y M D H N S W w w') ?_;apply Exists.intro;refine⟨?reg,?tail⟩
 case reg=>
  go_region_held (fun w' => w'.cell? ⟨g, 0, none⟩ = some (.int .i64 x) ∧ w'.cell? ⟨g, 1, none⟩ = some (.int .i64 y)) (refine ⟨?_, ?_⟩ <;> (repeat first | (with_reducible refine kset ?_ hg) | (with_reducible refine cell_al ?_ _)) <;> (with_reducible assumption)) ((first
   |(go_at_call 57;(with_reducible refine zg (c0 w.drew) fun w1 hb1=>?_);have k0:=Tk.kc d0 hb1;have k1:=Tk.kc d1 hb1;have hb2:Below w.heap.size w w1:=((Below.refl _ _).drew).trans hb1)
   |(go_at_call 57;(with_reducible refine zg (c0 (w.alloc (.cells #[.int .i64 0,.int .i64 0,.int .i64 0,.int .i64 0,.int .i64 0,.int .i64 0,.int .i64 0] 95)).drew) fun w1 hb1=>?_);have k0:=Tk.kc j0 hb1;have k1:=Tk.kc j1 hb1;obtain⟨c1,f1,hz1,hb2⟩:=box7 hb1)))
  all_goals
   first
    |(obtain⟨K,w3,hK,hW,hS⟩:=sevA Y M D H N S W c1 hb2 HP.out;rw [←hW,←hK];exact⟨K,rfl,hS⟩)
    |(obtain⟨K,w3,hK,hW,hS⟩:=sevB Y M D H N S W hb2 HP.out;rw [←hW,←hK];exact⟨K,rfl,hS⟩)
 case tail=>
  clear h0 h1 d0 d1 c0;intro K w3 hS;have o3:Sev K Y M D H N S W w w3.drew:=hS.kc ((Below.refl _ _).drew);have HS:Hid (Below w.heap.size w w3):=hS.2.2;obtain⟨a0,a1,a2,a3,a4,a5,a6⟩:=hS.1;clear hS;by_cases hE:E=0
  ·go_upto_region 4 with fail
   clear a0 a1 a2 a3 a4 a5 a6;have cJ1:=join3 45 Y M D (fun n hn=>HI.out n (by simp at hn⊢;omega));have cJ2:=join3 58 H N S (fun n hn=>HI.out n (by simp at hn⊢;omega));have l1:=join_l3 [45] (by decide) [Y,M,D] (Xa 3) (fun n hn=>HI.out n (by simp at hn⊢;omega));have l2:=join_l3 [58] (by decide) [H,N,S] (Xa 3) (fun n hn=>HI.out n (by simp at hn⊢;omega));have l3:=itoa_len20 (HI.out W (by simp));obtain⟨T1,H1⟩: ∃T,Hid (T=Lib.join ([Y,M,D].map Lib.itoa) [45]):=⟨_,rfl⟩
   obtain⟨T2,H2⟩: ∃T,Hid (T=Lib.join ([H,N,S].map Lib.itoa) [58]):=⟨_,rfl⟩
   obtain⟨T3,H3⟩: ∃T,Hid (T=Lib.itoa W):=⟨_,rfl⟩
   have cI:=fun X hP=>itoa_any W (HI.out W (by simp)) X hP;simp only [←H1.out,←H2.out,←H3.out]at l1 l2 l3 cJ1 cJ2 cI;have n1: ¬9223372036854775807<T1.length+1:=by omega
   have n2: ¬9223372036854775807<T1.length+1+T2.length:=by omega
   have n3: ¬9223372036854775807<T1.length+1+T2.length+1:=by omega
   have n4: ¬9223372036854775807<T1.length+1+T2.length+1+T3.length:=by omega
   refine wp_region_held_drew (S:=fun w'=>Cj K Y M D H N S W w') (by kernel_rfl) o3.cj (fun hHeld=> ?_);generalize w3.drew=X at*;refine Tk.gi 0 ?_;(try simp only [Act.put,ar,ag]);refine Tk.gi 1 ?_;(try simp only [Act.put,ar,ag]);refine Tk.gi 2 ?_;(try simp only [Act.put,ar,ag]);refine Tk.gi 3 ?_;(try simp only [Act.put,ar,ag]);refine Tk.gi 4 ?_;(try simp only [Act.put,ar,ag]);refine Tk.gi 5 ?_;(try simp only [Act.put,ar,ag]);refine Tk.gi 9 ?_;(try simp only [Act.put,ar,ag]);refine Tk.gi 10 ?_;(try simp only [Act.put,ar,ag]);refine Tk.gi 11 ?_;(try simp only [Act.put,ar,ag]);refine Tk.gi 12 ?_;(try simp only [Act.put,ar,ag]);refine Tk.gi 13 ?_;(try simp only [Act.put,ar,ag]);refine Tk.gi 14 ?_;(try simp only [Act.put,ar,ag]);refine Tk.gi 19 ?_;(try simp only [Act.put,ar,ag]);refine Tk.gi 20 ?_;(try simp only [Act.put,ar,ag]);refine wpAnyH_ready (rs:=[6,15]) (by kernel_rfl) (by simp) ?_;refine AllReadyH.cons rfl (fun K' hK=> ?_) (AllReadyH.cons rfl (fun K' hK=> ?_) AllReadyH.nil);rotate_left
   go_simp;refine hK.out _ _ (o3.al _).cj (fun hHeld=> ?_);clear hK K';(try simp only [Act.put,ar,ag]);refine Tk.r1 6 fun K' hK=> ?_;go_simp;refine hK.out _ _ ((o3.al _).al _).cj (fun hHeld=> ?_);clear hK K';(try simp only [Act.put,ar,ag]);refine Tk.r1 7 fun K' hK=> ?_;go_simp;go_wp2_with(go_at_call 58;(with_reducible refine Calls.mono (cJ1 _ _ ?_ ?_) ?_);exact⟨by simp,by simp,by simp⟩;(first|exact(o3.al _).2.1|exact((o3.al _).al _).2.1);rintro e w4 ⟨rfl,hb4⟩;have o4:Sev K Y M D H N S W w w4:=(by first|exact Sev.kc (o3.al _) hb4|exact Sev.kc ((o3.al _).al _) hb4))
   refine hK.out _ _ o4.cj (fun hHeld=> ?_);clear hK K';(try simp only [Act.put,ar,ag]);refine Tk.gi 8 ?_;(try simp only [Act.put,ar,ag]);rotate_left
   go_simp;refine hK.out _ _ (o3.al _).cj (fun hHeld=> ?_);clear hK K';(try simp only [Act.put,ar,ag]);refine wpAnyH_ready (rs:=[7,15]) (by kernel_rfl) (by simp) ?_;refine AllReadyH.cons rfl (fun K' hK=> ?_) (AllReadyH.cons rfl (fun K' hK=> ?_) AllReadyH.nil);rotate_left
   go_simp;refine hK.out _ _ ((o3.al _).al _).cj (fun hHeld=> ?_);clear hK K';(try simp only [Act.put,ar,ag]);refine Tk.r1 7 fun K' hK=> ?_;go_simp;go_wp2_with(go_at_call 58;(with_reducible refine Calls.mono (cJ1 _ _ ?_ ?_) ?_);exact⟨by simp,by simp,by simp⟩;(first|exact(o3.al _).2.1|exact((o3.al _).al _).2.1);rintro e w4 ⟨rfl,hb4⟩;have o4:Sev K Y M D H N S W w w4:=(by first|exact Sev.kc (o3.al _) hb4|exact Sev.kc ((o3.al _).al _) hb4))
   refine hK.out _ _ o4.cj (fun hHeld=> ?_);clear hK K';(try simp only [Act.put,ar,ag]);refine Tk.gi 8 ?_;(try simp only [Act.put,ar,ag]);rotate_left 2
   go_simp;go_wp2_with(go_at_call 58;(with_reducible refine Calls.mono (cJ1 _ _ ?_ ?_) ?_);exact⟨by simp,by simp,by simp⟩;(first|exact(o3.al _).2.1|exact((o3.al _).al _).2.1);rintro e w4 ⟨rfl,hb4⟩;have o4:Sev K Y M D H N S W w w4:=(by first|exact Sev.kc (o3.al _) hb4|exact Sev.kc ((o3.al _).al _) hb4))
   refine hK.out _ _ o4.cj (fun hHeld=> ?_);clear hK K';(try simp only [Act.put,ar,ag]);refine Tk.gi 8 ?_;(try simp only [Act.put,ar,ag]);refine Tk.r1 15 fun K' hK=> ?_;go_simp;refine hK.out _ _ (o4.al _).cj (fun hHeld=> ?_);clear hK K';(try simp only [Act.put,ar,ag])
   all_goals
    refine Tk.r1 16 fun K' hK=> ?_;go_simp;go_wp2_with(go_at_call 58;(with_reducible refine Calls.mono (cJ2 _ _ ?_ ?_) ?_);(first|exact⟨by simp,by simp,by simp⟩|exact⟨Tk.kc (by simp) hb4,Tk.kc (by simp) hb4,Tk.kc (by simp) hb4⟩);(first|exact o4.2.1|exact(o4.al _).2.1);rintro e w5 ⟨rfl,hb5⟩;have o5:Sev K Y M D H N S W w w5:=(by first|exact o4.kc hb5|exact(o4.al _).kc hb5))
    refine hK.out _ _ o5.cj (fun hHeld=> ?_);clear hK K';(try simp only [Act.put,ar,ag]);refine Tk.gi 17 ?_;(try simp only [Act.put,ar,ag]);refine Tk.gi 18 ?_;(try simp only [Act.put,ar,ag]);refine Tk.r1 21 fun K' hK=> ?_;go_simp;go_wp2_with(go_at_call 30;(with_reducible refine Calls.mono (cI _ ?_) ?_);exact o5.2.1;rintro e w6 ⟨rfl,hb6⟩;have o6:=o5.kc hb6)
    refine hK.out _ _ o6.cj (fun hHeld=> ?_);clear hK K';(try simp only [Act.put,ar,ag]);refine Tk.gi 22 ?_;(try simp only [Act.put,ar,ag]);refine Tk.gi 23 ?_;(try simp only [Act.put,ar,ag]);refine Tk.gi 24 ?_;(try simp only [Act.put,ar,ag]);refine wpAnyH_done (by kernel_rfl) ?_ _;(try go_wp2);go_ret2;exact⟨⟨fun h=>absurd hE h,fun _=>by rw [←H1.out,←H2.out,←H3.out];rfl⟩,o6.2.2⟩
  ·go_wp2;go_ret2;exact⟨⟨fun _=>rfl,fun h=>absurd h hE⟩,HS.out⟩
