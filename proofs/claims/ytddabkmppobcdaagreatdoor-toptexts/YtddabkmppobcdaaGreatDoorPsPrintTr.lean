/- What plan.printTrigger writes. What plan.Print answers, of a right plan. What plan.Print answers, of a right plan: the walk. -/
import Derived.Test.YtddabkmppobcdaaGreatDoorPsPrintPlan
import Derived.Test.YtddabkmppobcdaaGreatDoorPsRefText0
import Derived.Test.YtddabkmppobcdaaGreatDoorPsCronMatch
import Derived.Shelf.Strings.Builder1
set_option maxHeartbeats 32000000
set_option maxRecDepth 8000
namespace Go.Proofs.YtddabkmppobcdaaGreatDoor
namespace Pln
open Go.RowKit Lai Civ Crn RCrn

def kT (c:K):List UInt8:=cronT (wds c.mi c.ho c.da c.mn c.we c.ad c.aw)
theorem printK (c:K) (w:World) (hB:BdsAt w) (hT:TabIs64 w) (u:Us c) (hc:kc c=true):
  Calls Tryz.prog 51 #[kV c] w fun e w'=>e=.returned (.tuple #[strV (kT c),.int .i64 0])∧Below w.heap.size w w':=
 print_yes c.mi c.ho c.da c.mn c.we c.ad c.aw w hB hT u.u0 u.u1 u.u2 u.u3 u.u4 hc (words_len u.u0 u.u1 u.u2 u.u3 u.u4 hc)
theorem kT_len (c:K) (u:Us c) (hc:kc c=true):(kT c).length≤7000:=cron_len (words_len u.u0 u.u1 u.u2 u.u3 u.u4 hc)
theorem cat_span (N A B:List UInt8):((((((⟨#[115,112,97,110,32]⟩:ByteArray)++(⟨N.toArray⟩:ByteArray))++(⟨#[32]⟩:ByteArray))++(⟨A.toArray⟩:ByteArray))++(⟨#[32,47,32]⟩:ByteArray))++(⟨B.toArray⟩:ByteArray))++(⟨#[10]⟩:ByteArray)=⟨(wSpan++ [32]++N++ [32]++A++ [32,47,32]++B++ [10]).toArray⟩:=by
 rw [show(⟨#[115,112,97,110,32]⟩:ByteArray)=⟨([115,112,97,110,32]:List UInt8).toArray⟩from rfl,show(⟨#[32]⟩:ByteArray)=⟨([32]:List UInt8).toArray⟩from rfl,show(⟨#[32,47,32]⟩:ByteArray)=⟨([32,47,32]:List UInt8).toArray⟩from rfl,show(⟨#[10]⟩:ByteArray)=⟨([10]:List UInt8).toArray⟩from rfl,str_add,str_add,str_add,str_add,str_add,str_add]
 rfl
theorem TrAt.on {w w':World} {b o n:Nat} {t:Tr} (h:TrAt w b o t) (hb:Below n w w') (hn:b<n):TrAt w' b o t:=
 ⟨(hb.cell (p:=⟨b,o,none⟩) hn).trans h.c0,(hb.cell (p:=⟨b,o+1,none⟩) hn).trans h.c1,(hb.cell (p:=⟨b,o+2,none⟩) hn).trans h.c2,(hb.cell (p:=⟨b,o+3,none⟩) hn).trans h.c3,(hb.cell (p:=⟨b,o+4,none⟩) hn).trans h.c4,(hb.cell (p:=⟨b,o+5,none⟩) hn).trans h.c5,(hb.cell (p:=⟨b,o+6,none⟩) hn).trans h.c6,(hb.cell (p:=⟨b,o+7,none⟩) hn).trans h.c7,(hb.cell (p:=⟨b,o+8,none⟩) hn).trans h.c8,(hb.cell (p:=⟨b,o+9,none⟩) hn).trans h.c9,(hb.cell (p:=⟨b,o+10,none⟩) hn).trans h.c10,(hb.cell (p:=⟨b,o+11,none⟩) hn).trans h.c11,(hb.cell (p:=⟨b,o+12,none⟩) hn).trans h.c12,(hb.cell (p:=⟨b,o+13,none⟩) hn).trans h.c13,(hb.cell (p:=⟨b,o+14,none⟩) hn).trans h.c14,(hb.cell (p:=⟨b,o+15,none⟩) hn).trans h.c15,(hb.cell (p:=⟨b,o+16,none⟩) hn).trans h.c16⟩
theorem TrAt.end7 {w:World} {b:Nat} {t:Tr} (h:TrAt w b 0 t):w.cell? ⟨b,1,none⟩=some (.int .i64 t.tg)∧w.cell? ⟨b,10,none⟩=some (.int .u64 t.b.mi)∧w.cell? ⟨b,11,none⟩=some (.int .u64 t.b.ho)∧w.cell? ⟨b,12,none⟩=some (.int .u64 t.b.da)∧w.cell? ⟨b,13,none⟩=some (.int .u64 t.b.mn)∧w.cell? ⟨b,14,none⟩=some (.int .u64 t.b.we)∧w.cell? ⟨b,15,none⟩=some (.bool t.b.ad)∧w.cell? ⟨b,16,none⟩=some (.bool t.b.aw):=by
 have h1:=h.c1;have h10:=h.c10;have h11:=h.c11;have h12:=h.c12;have h13:=h.c13;have h14:=h.c14;have h15:=h.c15;have h16:=h.c16
 simp only [Nat.zero_add]at h1 h10 h11 h12 h13 h14 h15 h16
 exact⟨h1,h10,h11,h12,h13,h14,h15,h16⟩
theorem two_cells (w:World) (A:Array Value) (ta:TypeId) (x y:Int): ∀(j:Nat) n,[x,y][j]?=some n→((w.alloc (.cells A ta)).alloc (.cells #[.int .i64 x,.int .i64 y] 3)).cell? ⟨w.heap.size+1,j,none⟩=some (.int .i64 n):=by
 intro j n hj
 have e:w.heap.size+1=(w.alloc (.cells A ta)).heap.size:=by simp
 match j,hj with
 |0,hj=>simp at hj;subst hj;rw [e];simp
 |1,hj=>simp at hj;subst hj;rw [e];simp
 |j+2,hj=>simp at hj
theorem pline2 (word:List UInt8) (x y:Int) (B:Nat) (w:World) (hP:PowAt w) (hI: ∀n∈ [x,y],I n) (hw:word.length≤100) (hc: ∀(j:Nat) n,[x,y][j]?=some n→w.cell? ⟨B,j,none⟩=some (.int .i64 n)) (hB:B<w.heap.size):
  Calls Tryz.prog 19 #[.string ⟨word.toArray⟩,.slice (some ⟨B,0,none⟩) 2 2] w fun e w'=>e=.returned (strV (lnT word [x,y]++ [10]))∧Below w.heap.size w w':=
 pline_any word [x,y] B 2 w hP (by simp) hI hw hc hB
theorem ptr_two (k tg ac:Int) (a b:K) (w:World) (hP:PowAt w) (hk:k=1∨k=2) (h1:I tg) (h2:I ac):
  Calls Tryz.prog 20 #[trV ⟨k,tg,ac,a,b⟩] w fun e w'=>e=.returned (strV (trT kT ⟨k,tg,ac,a,b⟩++ [10]))∧Below w.heap.size w w':=by
 have hI: ∀n∈ [tg,ac],I n:=fun n hn=>by
  simp only [List.mem_cons,List.not_mem_nil,or_false]at hn
  rcases hn with rfl|rfl
  ·exact h1
  ·exact h2
 have hP2:=fun o p=>hP.below (balloc2 o p) (Nat.le_refl _)
 rcases hk with rfl|rfl
 ·have HT:Hid (trT kT ⟨1,tg,ac,a,b⟩=lnT wLag [tg,ac]):=rfl
  go_enter Tryz.func20,Tryz.ntmps20
  go_wp2_with(go_at_call 19;(with_reducible refine(pline2 [108,97,103] tg ac (w.heap.size+1) _ (hP2 _ _) hI (by decide) (two_cells _ _ _ _ _) (by simp)).mono ?_);rintro e w1 ⟨rfl,hb1⟩)
  go_ret
  exact⟨by rw [HT.out];rfl,ballocs hb1⟩
 ·have HT:Hid (trT kT ⟨2,tg,ac,a,b⟩=lnT wDepth [tg,ac]):=rfl
  go_enter Tryz.func20,Tryz.ntmps20
  go_wp2_with(go_at_call 19;(with_reducible refine(pline2 [100,101,112,116,104] tg ac (w.heap.size+1) _ (hP2 _ _) hI (by decide) (two_cells _ _ _ _ _) (by simp)).mono ?_);rintro e w1 ⟨rfl,hb1⟩)
  go_ret
  exact⟨by rw [HT.out];rfl,ballocs hb1⟩
theorem ptr_span (tg ac:Int) (a b:K) (w:World) (hB:BdsAt w) (hT:TabIs64 w) (hP:PowAt w) (h1:I tg) (ua:Us a) (ub:Us b) (ha:kc a=true) (hb:kc b=true):
  Calls Tryz.prog 20 #[trV ⟨3,tg,ac,a,b⟩] w fun e w'=>e=.returned (strV (trT kT ⟨3,tg,ac,a,b⟩++ [10]))∧Below w.heap.size w w':=by
 have HT:Hid (trT kT ⟨3,tg,ac,a,b⟩=wSpan++ [32]++Lib.itoa tg++ [32]++kT a++ [32,47,32]++kT b):=rfl
 have c1:=fun w hB hT=>printK a w hB hT ua ha
 have c2:=fun w hB hT=>printK b w hB hT ub hb
 have c3:=fun w hP=>itoa_any tg h1 w hP
 have l1:=kT_len a ua ha
 have l2:=kT_len b ub hb
 have l3:=itoa_len20 h1
 have hB0:=fun o=>hB.below (balloc o) (Nat.le_refl _)
 have hT0:=fun o=>hT.below (balloc o) (Nat.le_refl _)
 clear ua ub ha hb h1
 generalize kT a=A at c1 l1 HT
 generalize kT b=B at c2 l2 HT
 generalize Lib.itoa tg=N at c3 l3 HT
 have z1:(⟨A.toArray⟩:ByteArray).size=A.length:=rfl
 have z2:(⟨B.toArray⟩:ByteArray).size=B.length:=rfl
 have z3:(⟨N.toArray⟩:ByteArray).size=N.length:=rfl
 have hN0:=TrAt.new w ⟨3,tg,ac,a,b⟩ 71
 go_enter Tryz.func20,Tryz.ntmps20
 go_wp2_with (first
  |(go_at_call 51;(with_reducible refine(c1 _ (hB0 _) (hT0 _)).mono ?_);rintro e w1 ⟨rfl,hb1⟩;have hw1:Below w.heap.size w w1:=(balloc _).trans (hb1.mono (by simp));have hB1:=hB.below hw1 (Nat.le_refl _);have hT1:=hT.below hw1 (Nat.le_refl _);have hN1:=hN0.on hb1 (by simp);have hz1:w.heap.size<w1.heap.size:=Nat.lt_of_lt_of_le (by simp) hb1.size;obtain⟨-,e10,e11,e12,e13,e14,e15,e16⟩:=hN1.end7)
  |(go_at_call 51;(with_reducible refine(c2 _ hB1 hT1).mono ?_);rintro e w2 ⟨rfl,hb2⟩;have hw2:Below w.heap.size w w2:=hw1.trans (hb2.mono hw1.size);have hP2:=hP.below hw2 (Nat.le_refl _);obtain⟨e1,-⟩:=(hN1.on hb2 hz1).end7)
  |(go_at_call 50;(with_reducible refine(c3 _ hP2).mono ?_);rintro e w3 ⟨rfl,hb3⟩;have hw3:Below w.heap.size w w3:=hw2.trans (hb3.mono hw2.size)))
 go_ret
 exact⟨by rw [HT.out];exact ret_str' (cat_span N A B),hw3⟩
end Pln
namespace Pln
open Go.RowKit Lai Civ Crn RCrn

theorem PlAt.new' (w:World) (p:Pd) (sl:Value) (ta:TypeId):PlAt (w.alloc (.cells (planC p sl) ta)) w.heap.size p sl:=by
 constructor<;>simp
theorem bwrite (B b:Nat) (bs:List Value) (s:ByteArray) (w:World) (h:Lib.IsBuilder 59 5 B b bs w) (hlen:bs.length+s.size≤140737488355328) (hBw:B≤w.heap.size):
  Calls Tryz.prog 18 #[.pointer (some ⟨b,0,none⟩),.string s] w fun e w'=>e=.returned (.tuple #[.int .i64 s.size,.nilIface])∧(Lib.BuilderAt 59 5 B b (.pointer (some ⟨b,0,none⟩)) (bs++Lib.strCells s) w'∧Below B w w'):=
 Any.Builder_WriteString { Tryz.lays156 with } Tryz.Builder_Extra_156 B b bs s w h hlen hBw
theorem bat_below {T e:TypeId} {B b:Nat} {p:Value} {bs:List Value} {w w':World} (h:Lib.BuilderAt T e B b p bs w) (hb:Below w.heap.size w w'):Lib.BuilderAt T e B b p bs w':=by
 have hlt:=h.lt
 obtain⟨hB,v,hk,hown,hne⟩:=h
 exact⟨hB,v,by rw [hb.block b hlt];exact hk,own_below hown hb (fun g hg=>(hown.lt g hg).2),hne⟩
theorem bld_below {T e:TypeId} {B b:Nat} {bs:List Value} {w w':World} (h:Lib.IsBuilder T e B b bs w) (hb:Below w.heap.size w w'):Lib.IsBuilder T e B b bs w':=by
 rcases h with h|h
 ·exact Or.inl (bat_below h hb)
 ·exact Or.inr (bat_below h hb)
structure PrS (w:World) (G:Nat) (p:Pd) (sl:Value) (txt:List UInt8) (wr:World):Prop where
 pl:PlAt wr w.heap.size p sl
 bd:Lib.IsBuilder 59 5 G G (Lib.byteCells txt) wr
 lt:w.heap.size<G
 bel:Below w.heap.size w wr
 le:G≤wr.heap.size
theorem PrS.below {w wr w':World} {G:Nat} {p:Pd} {sl:Value} {txt:List UInt8} (h:PrS w G p sl txt wr) (hb:Below wr.heap.size wr w'):PrS w G p sl txt w':=
 ⟨h.pl.on hb (Nat.lt_of_lt_of_le h.lt h.le),bld_below h.bd hb,h.lt,h.bel.trans (hb.mono h.bel.size),Nat.le_trans h.le hb.size⟩
theorem PrS.wrote {w wr w':World} {G:Nat} {p:Pd} {sl:Value} {txt s:List UInt8} (h:PrS w G p sl txt wr) (hb:Lib.BuilderAt 59 5 G G (.pointer (some ⟨G,0,none⟩)) (Lib.byteCells txt++Lib.strCells ⟨s.toArray⟩) w'∧Below G wr w'):PrS w G p sl (txt++s) w':=by
 refine⟨h.pl.on hb.2 h.lt,Or.inr ?_,h.lt,h.bel.trans (hb.2.mono (Nat.le_of_lt h.lt)),Nat.le_trans h.le hb.2.size⟩
 have e:Lib.byteCells (txt++s)=Lib.byteCells txt++Lib.strCells ⟨s.toArray⟩:=by
  unfold Lib.byteCells Lib.strCells;rw [List.map_append]
 rw [e];exact hb.1
theorem writeS {w wr:World} {G:Nat} {p:Pd} {sl:Value} {txt:List UInt8} (s:List UInt8) (h:PrS w G p sl txt wr) (hl:txt.length+s.length≤1000000):
  Calls Tryz.prog 18 #[.pointer (some ⟨G,0,none⟩),.string ⟨s.toArray⟩] wr fun e w'=>e=.returned (.tuple #[.int .i64 s.length,.nilIface])∧PrS w G p sl (txt++s) w':=
 (bwrite G G _ ⟨s.toArray⟩ wr h.bd (by rw [Lib.byteCells_length];show txt.length+s.length≤_;omega) h.le).mono fun _ _ ⟨he,hb⟩=>⟨he,h.wrote hb⟩
theorem pline4 (word:List UInt8) (x y z u:Int) (B:Nat) (w:World) (hP:PowAt w) (hI: ∀n∈ [x,y,z,u],I n) (hw:word.length≤100) (hc: ∀(j:Nat) n,[x,y,z,u][j]?=some n→w.cell? ⟨B,j,none⟩=some (.int .i64 n)) (hB:B<w.heap.size):
  Calls Tryz.prog 19 #[.string ⟨word.toArray⟩,.slice (some ⟨B,0,none⟩) 4 4] w fun e w'=>e=.returned (strV (lnT word [x,y,z,u]++ [10]))∧Below w.heap.size w w':=
 pline_any word [x,y,z,u] B 4 w hP (by simp) hI hw hc hB
theorem four_cells (w:World) (x y z u:Int) (B:Nat) (hB:B=w.heap.size): ∀(j:Nat) n,[x,y,z,u][j]?=some n→(w.alloc (.cells #[.int .i64 x,.int .i64 y,.int .i64 z,.int .i64 u] 3)).cell? ⟨B,j,none⟩=some (.int .i64 n):=by
 intro j n hj
 subst hB
 match j,hj with
 |0,hj=>simp at hj;subst hj;simp
 |1,hj=>simp at hj;subst hj;simp
 |2,hj=>simp at hj;subst hj;simp
 |3,hj=>simp at hj;subst hj;simp
 |j+4,hj=>simp at hj
theorem I4 {x y z u:Int} (a:I x) (b:I y) (c:I z) (d:I u): ∀n∈ [x,y,z,u],I n:=fun n hn=>by
 simp only [List.mem_cons,List.not_mem_nil,or_false]at hn
 rcases hn with rfl|rfl|rfl|rfl
 ·exact a
 ·exact b
 ·exact c
 ·exact d
theorem len4 {word:List UInt8} {x y z u:Int} (hw:word.length≤100) (hI: ∀n∈ [x,y,z,u],I n):(lnT word [x,y,z,u]++ [10]).length≤200:=by
 have:=ln_len (word:=word) hI
 simp only [List.length_append,List.length_cons,List.length_nil]at this⊢
 omega
def hd1 (p:Pd):List UInt8:=[]++(lnT (wPlan++ [32]++p.nm) [p.mn,p.mx,p.po,p.co]++ [10])
def hd2 (p:Pd):List UInt8:=hd1 p++(lnT wRest [p.tl,p.bk,p.af,p.sh]++ [10])
def hd3 (p:Pd):List UInt8:=hd2 p++(lnT wUp [p.uw,p.up,p.uc,p.ue]++ [10])
def hd4 (p:Pd):List UInt8:=hd3 p++(lnT wDown [p.dw,p.dp,p.dc,p.de]++ [10])
theorem hd_is (p:Pd):hd4 p=headT p:=by unfold hd4 hd3 hd2 hd1 headT;rw [List.nil_append]
theorem bld_new {w w1:World} {p:Pd} {sl:Value} (hA:PlAt w1 w.heap.size p sl) (hz:w.heap.size<w1.heap.size) (hw:Below w.heap.size w w1):PrS w w1.heap.size p sl [] (w1.alloc (.cells #[.pointer none,.slice none 0 0] 59)):=
 ⟨hA.on (balloc _) hz,Lib.fresh_isBuilder _ _ w1,hz,hw.alloc hw.size _,by simp⟩
end Pln
namespace Pln
open Go.RowKit Lai Civ Crn RCrn

theorem cat_name (nm:List UInt8):(⟨#[112,108,97,110,32]⟩:ByteArray)++(⟨nm.toArray⟩:ByteArray)=⟨(wPlan++ [32]++nm).toArray⟩:=by
 rw [show(⟨#[112,108,97,110,32]⟩:ByteArray)=⟨([112,108,97,110,32]:List UInt8).toArray⟩from rfl,str_add]
 rfl
theorem pline4n (nm:List UInt8) (x y z u:Int) (B:Nat) (w:World) (hP:PowAt w) (hI: ∀n∈ [x,y,z,u],I n) (hw:(wPlan++ [32]++nm).length≤100) (hc: ∀(j:Nat) n,[x,y,z,u][j]?=some n→w.cell? ⟨B,j,none⟩=some (.int .i64 n)) (hB:B<w.heap.size):
  Calls Tryz.prog 19 #[.string ((⟨#[112,108,97,110,32]⟩:ByteArray)++(⟨nm.toArray⟩:ByteArray)),.slice (some ⟨B,0,none⟩) 4 4] w fun e w'=>e=.returned (strV (lnT (wPlan++ [32]++nm) [x,y,z,u]++ [10]))∧Below w.heap.size w w':=by
 rw [cat_name];exact pline4 _ x y z u B w hP hI hw hc hB
theorem chk_parts {p:Pd} {ts:List Tr} (h:chkP p ts=0):nmB p.nm=true∧ts.length≤5∧okP p=true∧ ∀t∈ts,trB t=true:=by
 unfold chkP at h
 cases h1:nmB p.nm
 ·rw [if_pos h1]at h;cases h
 ·rw [h1,if_neg (by decide)]at h
  by_cases h2:5<ts.length
  ·rw [if_pos h2]at h;cases h
  ·rw [if_neg h2]at h
   cases h3:okP p
   ·rw [if_pos h3]at h;cases h
   ·rw [h3,if_neg (by decide)]at h
    cases h4:ts.all trB
    ·rw [if_pos h4]at h;cases h
    ·exact⟨rfl,by omega,rfl,fun t ht=>List.all_eq_true.1 h4 t ht⟩
theorem nm_len {s:List UInt8} (h:nmB s=true):s.length≤16:=by
 unfold nmB at h;rw [Bool.and_eq_true,decide_eq_true_eq]at h;exact h.1.2
theorem ptr_any (t:Tr) (w:World) (hB:BdsAt w) (hT:TabIs64 w) (hP:PowAt w) (u:TrU t) (h:trB t=true):
  Calls Tryz.prog 20 #[trV t] w fun e w'=>e=.returned (strV (trT kT t++ [10]))∧Below w.heap.size w w':=by
 obtain⟨k,tg,ac,a,b⟩:=t
 unfold trB at h
 dsimp only at h
 by_cases hk:k=3
 ·subst hk
  rw [if_pos rfl]at h
  simp only [Bool.and_eq_true,decide_eq_true_eq]at h
  exact ptr_span tg ac a b w hB hT hP u.tg u.a u.b h.2.2.1 h.2.2.2
 ·rw [if_neg hk]at h
  simp only [Bool.and_eq_true,decide_eq_true_eq]at h
  exact ptr_two k tg ac a b w hP h.1 u.tg u.ac
theorem tr_len {t:Tr} (u:TrU t) (h:trB t=true):(trT kT t++ [10]).length≤15000:=by
 obtain⟨k,tg,ac,a,b⟩:=t
 unfold trB at h
 dsimp only at h
 have h2: ∀n∈ [tg,ac],I n:=fun n hn=>by
  simp only [List.mem_cons,List.not_mem_nil,or_false]at hn
  rcases hn with rfl|rfl
  ·exact u.tg
  ·exact u.ac
 by_cases hk:k=3
 ·subst hk
  rw [if_pos rfl]at h
  simp only [Bool.and_eq_true,decide_eq_true_eq]at h
  have e:trT kT ⟨3,tg,ac,a,b⟩=wSpan++ [32]++Lib.itoa tg++ [32]++kT a++ [32,47,32]++kT b:=rfl
  have l1:=kT_len a u.a h.2.2.1
  have l2:=kT_len b u.b h.2.2.2
  have l3:=itoa_len20 u.tg
  dsimp only at l3
  rw [e]
  simp only [List.length_append,List.length_cons,List.length_nil]
  omega
 ·rw [if_neg hk]at h
  simp only [Bool.and_eq_true,decide_eq_true_eq]at h
  rcases h.1 with rfl|rfl
  ·have e:trT kT ⟨1,tg,ac,a,b⟩=lnT wLag [tg,ac]:=rfl
   have:=ln_len (word:=wLag) h2
   rw [e]
   simp only [List.length_append,List.length_cons,List.length_nil]at this⊢
   omega
  ·have e:trT kT ⟨2,tg,ac,a,b⟩=lnT wDepth [tg,ac]:=rfl
   have:=ln_len (word:=wDepth) h2
   rw [e]
   simp only [List.length_append,List.length_cons,List.length_nil]at this⊢
   omega
theorem tail_step {ts:List Tr} {k:Nat} {t:Tr} (h:ts[k]?=some t):tailT kT (ts.take (k+1))=tailT kT (ts.take k)++(trT kT t++ [10]):=by
 unfold tailT
 rw [List.take_add_one,h,Option.toList_some,List.map_append,List.map_cons,List.map_nil,List.flatten_append]
 simp
theorem tail_len {ts:List Tr} (h: ∀t∈ts,(trT kT t++ [10]).length≤15000): ∀k,(tailT kT (ts.take k)).length≤15000*k
 |0=>by simp [tailT]
 |k+1=>by
  have ih:=tail_len h k
  cases hk:ts[k]? with
  |none=>
   have e:ts.take (k+1)=ts.take k:=by rw [List.take_add_one,hk];simp
   rw [e];omega
  |some t=>
   have:=h t (List.mem_of_getElem? hk)
   rw [tail_step hk,List.length_append]
   omega
def PtR (w:World) (G:Nat) (p:Pd) (sl:Value) (ts:List Tr) (i:Value) (wr:World):Prop:= ∃k:Nat,k≤ts.length∧i=.int .i64 k∧PrS w G p sl (hd4 p++tailT kT (ts.take k)) wr
theorem print_ok (p:Pd) (ts:List Tr) (a:Option Addr) (cap:Nat) (w:World) (hB:BdsAt w) (hT:TabIs64 w) (hP:PowAt w) (hi:PdI p) (hTr:TrsAt w a ts) (hU: ∀t∈ts,TrU t) (h:chkP p ts=0):
  Calls Tryz.prog 5 #[planV p (.slice a ts.length cap)] w fun e w'=>e=.returned (.tuple #[strV (planT kT p ts),.int .i64 0])∧Below w.heap.size w w':=by
 obtain⟨h1,h2,h3,h4⟩:=chk_parts h
 have hln:=nm_len h1
 have c0:=fun w hB hTr=>check_any p ts a cap w hB hi (by omega) hTr
 rw [h]at c0
 have hA0:=PlAt.new' w p (.slice a ts.length cap) 26
 have hB0:=fun o=>hB.below (balloc o) (Nat.le_refl _)
 have hTr0:=fun o=>hTr.below (balloc o) (Nat.le_refl _)
 have hPs: ∀ {G:Nat} {txt:List UInt8} {W:World},PrS w G p (.slice a ts.length cap) txt W→PowAt W:=fun h=>hP.below h.bel (Nat.le_refl _)
 have i1:=I4 hi.mn hi.mx hi.po hi.co
 have i2:=I4 hi.tl hi.bk hi.af hi.sh
 have i3:=I4 hi.uw hi.up hi.uc hi.ue
 have i4:=I4 hi.dw hi.dp hi.dc hi.de
 have m1:(wPlan++ [32]++p.nm).length≤100:=by simp;omega
 have n1:=len4 m1 i1
 have n2:=len4 (word:=wRest) (by decide) i2
 have n3:=len4 (word:=wUp) (by decide) i3
 have n4:=len4 (word:=wDown) (by decide) i4
 have e1:(hd1 p).length≤200:=by unfold hd1;rw [List.nil_append];exact n1
 have e2:(hd2 p).length≤400:=by unfold hd2;rw [List.length_append];omega
 have e3:(hd3 p).length≤600:=by unfold hd3;rw [List.length_append];omega
 have e4:(hd4 p).length≤800:=by unfold hd4;rw [List.length_append];omega
 have E4:Hid ((hd4 p).length≤800):=e4
 obtain⟨T1,hT1⟩: ∃T,T=lnT (wPlan++ [32]++p.nm) [p.mn,p.mx,p.po,p.co]++ [10]:=⟨_,rfl⟩
 obtain⟨T2,hT2⟩: ∃T,T=lnT wRest [p.tl,p.bk,p.af,p.sh]++ [10]:=⟨_,rfl⟩
 obtain⟨T3,hT3⟩: ∃T,T=lnT wUp [p.uw,p.up,p.uc,p.ue]++ [10]:=⟨_,rfl⟩
 obtain⟨T4,hT4⟩: ∃T,T=lnT wDown [p.dw,p.dp,p.dc,p.de]++ [10]:=⟨_,rfl⟩
 have k1:=fun B w hP hc hB=>pline4n p.nm p.mn p.mx p.po p.co B w hP i1 m1 hc hB
 have k2:=fun B w hP hc hB=>pline4 [114,101,115,116] p.tl p.bk p.af p.sh B w hP i2 (by decide) hc hB
 have k3:=fun B w hP hc hB=>pline4 [117,112] p.uw p.up p.uc p.ue B w hP i3 (by decide) hc hB
 have k4:=fun B w hP hc hB=>pline4 [100,111,119,110] p.dw p.dp p.dc p.de B w hP i4 (by decide) hc hB
 rw [←hT1]at k1 n1
 rw [←hT2]at k2 n2
 rw [←hT3]at k3 n3
 rw [←hT4]at k4 n4
 have HH:Hid (([]++T1)++T2++T3++T4=hd4 p):=by unfold Hid hd4 hd3 hd2 hd1;rw [hT1,hT2,hT3,hT4]
 clear hT1 hT2 hT3 hT4
 clear e1 e2 e3 e4 i1 i2 i3 i4 m1 h1 h3 h
 have z0:(⟨p.nm.toArray⟩:ByteArray).size=p.nm.length:=rfl
 go_enter Tryz.func5,Tryz.ntmps5
 go_wp2_with (first
  |(with_reducible refine wp_plan hA0 (by with_unfolding_all rfl) ?_)
  |(go_at_call 17;(with_reducible refine(c0 _ (hB0 _) (hTr0 _)).mono ?_);rintro e w1 ⟨rfl,hb1⟩;obtain⟨hC1,hz1,hw1⟩:=boxB hb1;have hA1:PlAt w1 w.heap.size p (.slice a ts.length cap):=PlAt.of hC1;clear hC1;have S0:=bld_new hA1 hz1 hw1;have q0:=S0.pl.c0;have q1:=S0.pl.c1;have q2:=S0.pl.c2;have q3:=S0.pl.c3;have q4:=S0.pl.c4)
  |(go_at_call 19;(with_reducible refine(k1 (w1.heap.size+1) _ (hPs (S0.below (balloc _))) (four_cells _ _ _ _ _ _ (by simp)) (by simp)).mono ?_);rintro e w2 ⟨rfl,hb2⟩;have S1:=(S0.below (balloc _)).below hb2)
  |(go_at_call 18;(with_reducible refine(writeS T1 S1 (by simp only [List.length_nil];omega)).mono ?_);rintro e w3 ⟨rfl,S2⟩;clear q0 q1 q2 q3 q4;have r0:=S2.pl.c5;have r1:=S2.pl.c6;have r2:=S2.pl.c7;have r3:=S2.pl.c8)
  |(go_at_call 19;(with_reducible refine(k2 w3.heap.size _ (hPs (S2.below (balloc _))) (four_cells _ _ _ _ _ _ rfl) (by simp)).mono ?_);rintro e w4 ⟨rfl,hb4⟩;have S3:=(S2.below (balloc _)).below hb4)
  |(go_at_call 18;(with_reducible refine(writeS T2 S3 (by simp only [List.length_append,List.length_nil];omega)).mono ?_);rintro e w5 ⟨rfl,S4⟩;clear r0 r1 r2 r3;have r0:=S4.pl.c9;have r1:=S4.pl.c10;have r2:=S4.pl.c11;have r3:=S4.pl.c12)
  |(go_at_call 19;(with_reducible refine(k3 w5.heap.size _ (hPs (S4.below (balloc _))) (four_cells _ _ _ _ _ _ rfl) (by simp)).mono ?_);rintro e w6 ⟨rfl,hb6⟩;have S5:=(S4.below (balloc _)).below hb6)
  |(go_at_call 18;(with_reducible refine(writeS T3 S5 (by simp only [List.length_append,List.length_nil];omega)).mono ?_);rintro e w7 ⟨rfl,S6⟩;clear r0 r1 r2 r3;have r0:=S6.pl.c13;have r1:=S6.pl.c14;have r2:=S6.pl.c15;have r3:=S6.pl.c16)
  |(go_at_call 19;(with_reducible refine(k4 w7.heap.size _ (hPs (S6.below (balloc _))) (four_cells _ _ _ _ _ _ rfl) (by simp)).mono ?_);rintro e w8 ⟨rfl,hb8⟩;have S7:=(S6.below (balloc _)).below hb8)
  |(go_at_call 18;(with_reducible refine(writeS T4 S7 (by simp only [List.length_append,List.length_nil];omega)).mono ?_);rintro e w9 ⟨rfl,S8⟩;clear r0 r1 r2 r3;have r17:=S8.pl.c17))
 rw [HH.out]at S8
 clear S0 S1 S2 S3 S4 S5 S6 S7 r17 hb1 hb2 hb4 hb6 hb8 hA1 hw1 k1 k2 k3 k4 c0 hA0
 generalize hG:w1.heap.size=G at*
 clear hG
 go_loopw [71] (fun i wr=>PtR w G p (.slice a ts.length cap) ts i wr) (fun i _=>ts.length-(intOf i).toNat)
 case atStart=>exact⟨0,Nat.zero_le _,rfl,by rw [show tailT kT (ts.take 0)=[]from rfl,List.append_nil];exact S8⟩
 case round=>
  clear S8
  obtain⟨k,hk1,rfl,S9⟩:=hrel
  have lt9:(hd4 p++tailT kT (ts.take k)).length≤100000:=by
   have:=tail_len (ts:=ts) (fun t ht=>tr_len (hU t ht) (h4 t ht)) k
   have:=E4.out
   rw [List.length_append];omega
  by_cases hlt:k<ts.length
  ·have hlt':(k:Int)<ts.length:=by omega
   obtain⟨t,hx⟩: ∃x,ts[k]?=some x:=⟨ts[k],by simp [hlt]⟩
   have hm:=List.mem_of_getElem? hx
   obtain⟨b,off,rfl,hbl,hE⟩:=(hTr.below S9.bel (Nat.le_refl _)).elem hx
   have hN:=TrAt.new wr t 71
   have lT:=tr_len (hU t hm) (h4 t hm)
   have c1:=fun w hB hT hP=>ptr_any t w hB hT hP (hU t hm) (h4 t hm)
   have HX:Hid (hd4 p++tailT kT (ts.take (k+1))=hd4 p++tailT kT (ts.take k)++(trT kT t++ [10])):=by unfold Hid;rw [tail_step hx,List.append_assoc]
   have SA:=S9.below (balloc (.cells (trC t) 71))
   have hBA:=hB.below SA.bel (Nat.le_refl _)
   have hTA:=hT.below SA.bel (Nat.le_refl _)
   have hPA:=hP.below SA.bel (Nat.le_refl _)
   generalize trT kT t++ [10]=TT at c1 lT HX
   generalize hd4 p++tailT kT (ts.take k)=TX at lt9 HX SA S9
   clear hx hm hTr hU h4
   go_wp2_with (first
    |(with_reducible refine wp_tr hE (by with_unfolding_all rfl) ?_)
    |(with_reducible refine wp_tr hN (by with_unfolding_all rfl) ?_)
    |(go_at_call 20;(with_reducible refine(c1 _ hBA hTA hPA).mono ?_);rintro e w10 ⟨rfl,hb10⟩;have SB:=SA.below hb10)
    |(go_at_call 18;(with_reducible refine(writeS TT SB (by omega)).mono ?_);rintro e w11 ⟨rfl,SC⟩))
   go_roundw
   case rel=>exact⟨k+1,by omega,rfl,by rw [HX.out];exact SC⟩
   case measure=>simp [intOf];omega
  ·obtain rfl:k=ts.length:=by omega
   rw [List.take_length]at S9
   have HT:Hid (hd4 p++tailT kT ts=planT kT p ts):=by unfold Hid planT;rw [hd_is]
   rw [HT.out]at S9
   have cS:=Tryz.Builder_String_any G G (planT kT p ts) wr S9.bd S9.le
   clear hTr hU h4 HT lt9
   obtain⟨TX,hTX⟩: ∃T,T=planT kT p ts:=⟨_,rfl⟩
   have HT2:Hid (TX=planT kT p ts):=hTX
   rw [←hTX]at cS S9
   clear hTX
   go_wp2_with(go_at_call 21;(with_reducible refine cS.mono ?_);rintro e w12 ⟨rfl,hb12⟩)
   go_ret2
   exact⟨by rw [←HT2.out];rfl,S9.bel.trans (hb12.mono (Nat.le_of_lt S9.lt))⟩
end Pln
end Go.Proofs.YtddabkmppobcdaaGreatDoor
