/- A part. -/
import Derived.Test.YthiapcajheepbaaGreatDoorPwPlanWalks
import Derived.Deep.MidRow
set_option linter.all false
open Go.Proofs.Tryz
set_option maxHeartbeats 32000000
set_option maxRecDepth 8000
namespace Go.Proofs.YthiapcajheepbaaGreatDoor
namespace Pln
open Go.RowKit Lai Civ Crn
variable {w:World} {ts:List Tr} {t:Tr} {p:Pd} {B b o:Nat} {ops:Array Oper} {d:Option Nat} {x:Operand} {ps:String} {af:Array Edge} {A:Act} {Q:Exit→Act→World→Prop}

structure TrAt (w:World) (b o:Nat) (t:Tr):Prop where
 c0:w.cell? ⟨b,o,none⟩=some (.int .i64 t.k)
 c1:w.cell? ⟨b,o+1,none⟩=some (.int .i64 t.tg)
 c2:w.cell? ⟨b,o+2,none⟩=some (.int .i64 t.ac)
 c3:w.cell? ⟨b,o+3,none⟩=some (.int .u64 t.a.mi)
 c4:w.cell? ⟨b,o+4,none⟩=some (.int .u64 t.a.ho)
 c5:w.cell? ⟨b,o+5,none⟩=some (.int .u64 t.a.da)
 c6:w.cell? ⟨b,o+6,none⟩=some (.int .u64 t.a.mn)
 c7:w.cell? ⟨b,o+7,none⟩=some (.int .u64 t.a.we)
 c8:w.cell? ⟨b,o+8,none⟩=some (.bool t.a.ad)
 c9:w.cell? ⟨b,o+9,none⟩=some (.bool t.a.aw)
 c10:w.cell? ⟨b,o+10,none⟩=some (.int .u64 t.b.mi)
 c11:w.cell? ⟨b,o+11,none⟩=some (.int .u64 t.b.ho)
 c12:w.cell? ⟨b,o+12,none⟩=some (.int .u64 t.b.da)
 c13:w.cell? ⟨b,o+13,none⟩=some (.int .u64 t.b.mn)
 c14:w.cell? ⟨b,o+14,none⟩=some (.int .u64 t.b.we)
 c15:w.cell? ⟨b,o+15,none⟩=some (.bool t.b.ad)
 c16:w.cell? ⟨b,o+16,none⟩=some (.bool t.b.aw)
theorem TrsAt.elem {a:Option Addr} (h:TrsAt w a ts) {i:Nat} (hi:ts[i]? =some t): ∃b off,a=some ⟨b,off,none⟩∧b<w.heap.size∧TrAt w b (off+i*17) t:=by
 obtain⟨b,off,rfl,hlt,hc⟩:=h i t hi;refine⟨b,off,rfl,hlt,?_⟩;have q: ∀j,j<17→w.cell? ⟨b,off+i*17+j,none⟩=(trC t)[j]? :=fun j hj=>by rw [Nat.add_assoc];exact hc j hj
 constructor
 ·simpa using q 0 (by decide)
 ·simpa using q 1 (by decide)
 ·simpa using q 2 (by decide)
 ·simpa using q 3 (by decide)
 ·simpa using q 4 (by decide)
 ·simpa using q 5 (by decide)
 ·simpa using q 6 (by decide)
 ·simpa using q 7 (by decide)
 ·simpa using q 8 (by decide)
 ·simpa using q 9 (by decide)
 ·simpa using q 10 (by decide)
 ·simpa using q 11 (by decide)
 ·simpa using q 12 (by decide)
 ·simpa using q 13 (by decide)
 ·simpa using q 14 (by decide)
 ·simpa using q 15 (by decide)
 ·simpa using q 16 (by decide)
def CkR (ts:List Tr) (w:World) (i:Value) (wr:World):Prop:= ∃k:Nat,k≤ts.length∧i=.int .i64 k∧(∀j t,j<k→ts[j]? =some t→trB t=true)∧Below w.heap.size w wr
theorem trE_bad (h:trB t=false):trE t=1:=by unfold trE;rw [h];rfl
theorem trE_ok (h:trB t=true):trE t=0:=by unfold trE;rw [h];rfl
theorem chk_bad {k:Nat} (h1:nmB p.nm=true) (h2: ¬5<ts.length) (h3:okP p=true) (hk:ts[k]? =some t) (ht:trB t=false):chkP p ts=1:=by
 unfold chkP;rw [h1,h3,if_neg (by decide),if_neg h2,if_neg (by decide),if_pos (List.all_eq_false.2 ⟨t,Xk hk,by rw [ht];decide⟩)]
theorem chk_good (h1:nmB p.nm=true) (h2: ¬5<ts.length) (h3:okP p=true) (h: ∀j t,j<ts.length→ts[j]? =some t→trB t=true):chkP p ts=0:=by
 unfold chkP;have:ts.all trB=true:=Ye.2 fun t ht=>by
  obtain⟨j,hj⟩:=Yr.1 ht;exact h j t (Xe.1 hj).1 hj
 rw [h1,h3,this,if_neg (by decide),if_neg h2,if_neg (by decide),if_neg (by decide)]
structure PlAt (w:World) (B:Nat) (p:Pd) (sl:Value):Prop where
 c0:w.cell? ⟨B,0,none⟩=some (.string ⟨p.nm.toArray⟩)
 c1:w.cell? ⟨B,1,none⟩=some (.int .i64 p.mn)
 c2:w.cell? ⟨B,2,none⟩=some (.int .i64 p.mx)
 c3:w.cell? ⟨B,3,none⟩=some (.int .i64 p.po)
 c4:w.cell? ⟨B,4,none⟩=some (.int .i64 p.co)
 c5:w.cell? ⟨B,5,none⟩=some (.int .i64 p.tl)
 c6:w.cell? ⟨B,6,none⟩=some (.int .i64 p.bk)
 c7:w.cell? ⟨B,7,none⟩=some (.int .i64 p.af)
 c8:w.cell? ⟨B,8,none⟩=some (.int .i64 p.sh)
 c9:w.cell? ⟨B,9,none⟩=some (.int .i64 p.uw)
 c10:w.cell? ⟨B,10,none⟩=some (.int .i64 p.up)
 c11:w.cell? ⟨B,11,none⟩=some (.int .i64 p.uc)
 c12:w.cell? ⟨B,12,none⟩=some (.int .i64 p.ue)
 c13:w.cell? ⟨B,13,none⟩=some (.int .i64 p.dw)
 c14:w.cell? ⟨B,14,none⟩=some (.int .i64 p.dp)
 c15:w.cell? ⟨B,15,none⟩=some (.int .i64 p.dc)
 c16:w.cell? ⟨B,16,none⟩=some (.int .i64 p.de)
 c17:w.cell? ⟨B,17,none⟩=some sl
theorem PlAt.on {w':World} {n:Nat} {sl:Value} (h:PlAt w B p sl) (hb:Below n w w') (hn:B<n):PlAt w' B p sl:=
 ⟨(hb.cell (p:=⟨B,0,none⟩) hn).trans h.c0,(hb.cell (p:=⟨B,1,none⟩) hn).trans h.c1,(hb.cell (p:=⟨B,2,none⟩) hn).trans h.c2,(hb.cell (p:=⟨B,3,none⟩) hn).trans h.c3,(hb.cell (p:=⟨B,4,none⟩) hn).trans h.c4,(hb.cell (p:=⟨B,5,none⟩) hn).trans h.c5,(hb.cell (p:=⟨B,6,none⟩) hn).trans h.c6,(hb.cell (p:=⟨B,7,none⟩) hn).trans h.c7,(hb.cell (p:=⟨B,8,none⟩) hn).trans h.c8,(hb.cell (p:=⟨B,9,none⟩) hn).trans h.c9,(hb.cell (p:=⟨B,10,none⟩) hn).trans h.c10,(hb.cell (p:=⟨B,11,none⟩) hn).trans h.c11,(hb.cell (p:=⟨B,12,none⟩) hn).trans h.c12,(hb.cell (p:=⟨B,13,none⟩) hn).trans h.c13,(hb.cell (p:=⟨B,14,none⟩) hn).trans h.c14,(hb.cell (p:=⟨B,15,none⟩) hn).trans h.c15,(hb.cell (p:=⟨B,16,none⟩) hn).trans h.c16,(hb.cell (p:=⟨B,17,none⟩) hn).trans h.c17⟩
theorem PlAt.of {sl:Value} (h: ∀o,w.cell? ⟨B,o,none⟩=(planC p sl)[o]?):PlAt w B p sl:=by
 constructor
 ·simpa using h 0
 ·simpa using h 1
 ·simpa using h 2
 ·simpa using h 3
 ·simpa using h 4
 ·simpa using h 5
 ·simpa using h 6
 ·simpa using h 7
 ·simpa using h 8
 ·simpa using h 9
 ·simpa using h 10
 ·simpa using h 11
 ·simpa using h 12
 ·simpa using h 13
 ·simpa using h 14
 ·simpa using h 15
 ·simpa using h 16
 ·simpa using h 17
theorem range_plan {sl:Value} (h:PlAt w B p sl):w.rangeAt B 0 [.string ⟨p.nm.toArray⟩,.int .i64 p.mn,.int .i64 p.mx,.int .i64 p.po,.int .i64 p.co,.int .i64 p.tl,.int .i64 p.bk,.int .i64 p.af,.int .i64 p.sh,.int .i64 p.uw,.int .i64 p.up,.int .i64 p.uc,.int .i64 p.ue,.int .i64 p.dw,.int .i64 p.dp,.int .i64 p.dc,.int .i64 p.de,sl]:=by
 intro j v hv;match j,hv with
 |0,hv=>simp at hv;subst hv;simpa using h.c0
 |1,hv=>simp at hv;subst hv;simpa using h.c1
 |2,hv=>simp at hv;subst hv;simpa using h.c2
 |3,hv=>simp at hv;subst hv;simpa using h.c3
 |4,hv=>simp at hv;subst hv;simpa using h.c4
 |5,hv=>simp at hv;subst hv;simpa using h.c5
 |6,hv=>simp at hv;subst hv;simpa using h.c6
 |7,hv=>simp at hv;subst hv;simpa using h.c7
 |8,hv=>simp at hv;subst hv;simpa using h.c8
 |9,hv=>simp at hv;subst hv;simpa using h.c9
 |10,hv=>simp at hv;subst hv;simpa using h.c10
 |11,hv=>simp at hv;subst hv;simpa using h.c11
 |12,hv=>simp at hv;subst hv;simpa using h.c12
 |13,hv=>simp at hv;subst hv;simpa using h.c13
 |14,hv=>simp at hv;subst hv;simpa using h.c14
 |15,hv=>simp at hv;subst hv;simpa using h.c15
 |16,hv=>simp at hv;subst hv;simpa using h.c16
 |17,hv=>simp at hv;subst hv;simpa using h.c17
 |j+18,hv=>simp at hv
theorem range_tr (h:TrAt w b o t):w.rangeAt b o [.int .i64 t.k,.int .i64 t.tg,.int .i64 t.ac,.int .u64 t.a.mi,.int .u64 t.a.ho,.int .u64 t.a.da,.int .u64 t.a.mn,.int .u64 t.a.we,.bool t.a.ad,.bool t.a.aw,.int .u64 t.b.mi,.int .u64 t.b.ho,.int .u64 t.b.da,.int .u64 t.b.mn,.int .u64 t.b.we,.bool t.b.ad,.bool t.b.aw]:=by
 intro j v hv;match j,hv with
 |0,hv=>simp at hv;subst hv;simpa using h.c0
 |1,hv=>simp at hv;subst hv;simpa using h.c1
 |2,hv=>simp at hv;subst hv;simpa using h.c2
 |3,hv=>simp at hv;subst hv;simpa using h.c3
 |4,hv=>simp at hv;subst hv;simpa using h.c4
 |5,hv=>simp at hv;subst hv;simpa using h.c5
 |6,hv=>simp at hv;subst hv;simpa using h.c6
 |7,hv=>simp at hv;subst hv;simpa using h.c7
 |8,hv=>simp at hv;subst hv;simpa using h.c8
 |9,hv=>simp at hv;subst hv;simpa using h.c9
 |10,hv=>simp at hv;subst hv;simpa using h.c10
 |11,hv=>simp at hv;subst hv;simpa using h.c11
 |12,hv=>simp at hv;subst hv;simpa using h.c12
 |13,hv=>simp at hv;subst hv;simpa using h.c13
 |14,hv=>simp at hv;subst hv;simpa using h.c14
 |15,hv=>simp at hv;subst hv;simpa using h.c15
 |16,hv=>simp at hv;subst hv;simpa using h.c16
 |j+17,hv=>simp at hv
theorem wp_plan {rest:List Oper} {sl:Value} (h:PlAt w B p sl) (hx:A.eval x=.pointer (some ⟨B,0,none⟩))
  (g:wpList prog ops Q rest (A.put d (planV p sl)) w):wpList prog ops Q ({ dst:=d,op:=.load 26 x,type:=26,pos:=ps,after:=af,guard:=none } ::rest) A w:=
 wpList_load_mid rfl 26 x rfl B 0 hx [.string ⟨p.nm.toArray⟩,.int .i64 p.mn,.int .i64 p.mx,.int .i64 p.po,.int .i64 p.co,.int .i64 p.tl,.int .i64 p.bk,.int .i64 p.af,.int .i64 p.sh,.int .i64 p.uw,.int .i64 p.up,.int .i64 p.uc,.int .i64 p.ue,.int .i64 p.dw,.int .i64 p.dp,.int .i64 p.dc,.int .i64 p.de,sl] _ (range_plan h) underlying26 rfl (by kernel_rfl) g
theorem wp_tr {rest:List Oper} (h:TrAt w b o t) (hx:A.eval x=.pointer (some ⟨b,o,none⟩))
  (g:wpList prog ops Q rest (A.put d (trV t)) w):wpList prog ops Q ({ dst:=d,op:=.load 84 x,type:=84,pos:=ps,after:=af,guard:=none } ::rest) A w:=
 wpList_load_mid rfl 84 x rfl b o hx [.int .i64 t.k,.int .i64 t.tg,.int .i64 t.ac,.int .u64 t.a.mi,.int .u64 t.a.ho,.int .u64 t.a.da,.int .u64 t.a.mn,.int .u64 t.a.we,.bool t.a.ad,.bool t.a.aw,.int .u64 t.b.mi,.int .u64 t.b.ho,.int .u64 t.b.da,.int .u64 t.b.mn,.int .u64 t.b.we,.bool t.b.ad,.bool t.b.aw] _ (range_tr h) underlying84 rfl (by kernel_rfl) g
theorem TrAt.new (w:World) (t:Tr) (ta:TypeId):TrAt (w.alloc (.cells (trC t) ta)) w.heap.size 0 t:=by
 constructor<;>simp
theorem boxB {w1:World} {A:Array Value} {ta:TypeId} (hb:Below (w.alloc (.cells A ta)).heap.size (w.alloc (.cells A ta)) w1):(∀o,w1.cell? ⟨w.heap.size,o,none⟩=A[o]?)∧w.heap.size<w1.heap.size∧Below w.heap.size w w1:=
 ⟨fun o=>by rw [hb.cell (p:=⟨w.heap.size,o,none⟩) (by simp)];simp,Xb (by simp) hb.size,(balloc _).trans (hb.mono (by simp))⟩
theorem check_name (p:Pd) (ts:List Tr) (a:Option Addr) (cap:Nat) (w:World) (hl:p.nm.length≤9223372036854775807) (h1:nmB p.nm=false):
  CB 57 #[planV p (.slice a ts.length cap)] w (.int .i64 (chkP p ts)):=by
 have c1:=fun w=>isName_any p.nm w hl;rw [h1]at c1;have HR:Hid (chkP p ts=3):=by unfold Hid chkP;rw [if_pos h1]
 clear h1;go_enter func57,ntmps57;go_wp2_with(go_at_call 98;(with_reducible refine zg (c1 _) fun w1 hb1=>?_);obtain⟨hA1,hz1,hw1⟩:=boxB hb1;have hq:PlAt w1 w.heap.size p (.slice a ts.length cap):=PlAt.of hA1;clear hA1;have hA1:=hq;clear hq)
 go_ret;exact⟨ret_n HR.out.symm,hw1⟩
theorem check_many (p:Pd) (ts:List Tr) (a:Option Addr) (cap:Nat) (w:World) (hl:p.nm.length≤9223372036854775807) (h1:nmB p.nm=true) (h2:5<ts.length):
  CB 57 #[planV p (.slice a ts.length cap)] w (.int .i64 (chkP p ts)):=by
 have c1:=fun w=>isName_any p.nm w hl;rw [h1]at c1;have HR:Hid (chkP p ts=2):=by unfold Hid chkP;rw [h1,if_neg (by decide),if_pos h2]
 have h2':(5:Int)<ts.length:=by omega
 clear h1;go_enter func57,ntmps57;go_wp2_with(go_at_call 98;(with_reducible refine zg (c1 _) fun w1 hb1=>?_);obtain⟨hA1,hz1,hw1⟩:=boxB hb1;have hq:PlAt w1 w.heap.size p (.slice a ts.length cap):=PlAt.of hA1;clear hA1;have hA1:=hq;clear hq;have p17:=hA1.c17)
 go_ret;exact⟨ret_n HR.out.symm,hw1⟩
theorem check_num (p:Pd) (ts:List Tr) (a:Option Addr) (cap:Nat) (w:World) (hi:PdI p) (hl:p.nm.length≤9223372036854775807) (h1:nmB p.nm=true) (h2: ¬5<ts.length) (hn:numB p=false):
  CB 57 #[planV p (.slice a ts.length cap)] w (.int .i64 (chkP p ts)):=by
 have c1:=fun w=>isName_any p.nm w hl;rw [h1]at c1;have h2': ¬(5:Int)<ts.length:=by omega
 have c2:=fun w=>numbers_any p (.slice a ts.length cap) w hi;rw [hn]at c2;have HR:Hid (chkP p ts=1):=by unfold Hid chkP okP;rw [h1,if_neg (by decide),if_neg h2,hn];rfl
 clear h1 hn hi hl;go_enter func57,ntmps57
 go_wp2_with (first
  |(with_reducible refine wp_plan hA1 (by with_unfolding_all rfl) ?_)
  |(go_at_call 98;(with_reducible refine zg (c1 _) fun w1 hb1=>?_);obtain⟨hA1,hz1,hw1⟩:=boxB hb1;have hq:PlAt w1 w.heap.size p (.slice a ts.length cap):=PlAt.of hA1;clear hA1;have hA1:=hq;clear hq;have p17:=hA1.c17)
  |(go_at_call 99;(with_reducible refine zg (c2 _) fun w2 hb2=>?_);have hw2:Below w.heap.size w w2:=(zu hw1 hb2);have hz2:=Xb hz1 hb2.size))
 go_ret;exact⟨ret_n HR.out.symm,hw2⟩
theorem check_up (p:Pd) (ts:List Tr) (a:Option Addr) (cap:Nat) (w:World) (hi:PdI p) (hl:p.nm.length≤9223372036854775807) (h1:nmB p.nm=true) (h2: ¬5<ts.length) (hn:numB p=true) (hu:paceB p.uw p.up p.uc p.ue=false):
  CB 57 #[planV p (.slice a ts.length cap)] w (.int .i64 (chkP p ts)):=by
 have c1:=fun w=>isName_any p.nm w hl;rw [h1]at c1;have h2': ¬(5:Int)<ts.length:=by omega
 have c2:=fun w=>numbers_any p (.slice a ts.length cap) w hi;rw [hn]at c2;have c3:=fun w=>pace_any p.uw p.up p.uc p.ue w;rw [hu]at c3;have HR:Hid (chkP p ts=1):=by unfold Hid chkP okP;rw [h1,if_neg (by decide),if_neg h2,hn,hu];rfl
 clear h1 hn hu hi hl;go_enter func57,ntmps57
 go_wp2_with (first
  |(with_reducible refine wp_plan hA1 (by with_unfolding_all rfl) ?_)
  |(go_at_call 98;(with_reducible refine zg (c1 _) fun w1 hb1=>?_);obtain⟨hA1,hz1,hw1⟩:=boxB hb1;have hq:PlAt w1 w.heap.size p (.slice a ts.length cap):=PlAt.of hA1;clear hA1;have hA1:=hq;clear hq;have p17:=hA1.c17)
  |(go_at_call 99;(with_reducible refine zg (c2 _) fun w2 hb2=>?_);have hw2:Below w.heap.size w w2:=(zu hw1 hb2);have hz2:=Xb hz1 hb2.size;have hA2:=hA1.on hb2 hz1;clear p17;have u9:=hA2.c9;have u10:=hA2.c10;have u11:=hA2.c11;have u12:=hA2.c12)
  |(go_at_call 100;(with_reducible refine zg (c3 w2) fun w3 hb3=>?_);have hw3:Below w.heap.size w w3:=(zu hw2 hb3);have hz3:=Xb hz2 hb3.size))
 go_ret;exact⟨ret_n HR.out.symm,hw3⟩
theorem check_down (p:Pd) (ts:List Tr) (a:Option Addr) (cap:Nat) (w:World) (hi:PdI p) (hl:p.nm.length≤9223372036854775807) (h1:nmB p.nm=true) (h2: ¬5<ts.length) (hn:numB p=true) (hu:paceB p.uw p.up p.uc p.ue=true) (hd:paceB p.dw p.dp p.dc p.de=false):
  CB 57 #[planV p (.slice a ts.length cap)] w (.int .i64 (chkP p ts)):=by
 have c1:=fun w=>isName_any p.nm w hl;rw [h1]at c1;have h2': ¬(5:Int)<ts.length:=by omega
 have c2:=fun w=>numbers_any p (.slice a ts.length cap) w hi;rw [hn]at c2;have c3:=fun w=>pace_any p.uw p.up p.uc p.ue w;rw [hu]at c3;have c4:=fun w=>pace_any p.dw p.dp p.dc p.de w;rw [hd]at c4;have HR:Hid (chkP p ts=1):=by unfold Hid chkP okP;rw [h1,if_neg (by decide),if_neg h2,hn,hu,hd];rfl
 clear h1 hn hu hd hi hl;go_enter func57,ntmps57
 go_wp2_with (first
  |(with_reducible refine wp_plan hA1 (by with_unfolding_all rfl) ?_)
  |(go_at_call 98;(with_reducible refine zg (c1 _) fun w1 hb1=>?_);obtain⟨hA1,hz1,hw1⟩:=boxB hb1;have hq:PlAt w1 w.heap.size p (.slice a ts.length cap):=PlAt.of hA1;clear hA1;have hA1:=hq;clear hq;have p17:=hA1.c17)
  |(go_at_call 99;(with_reducible refine zg (c2 _) fun w2 hb2=>?_);have hw2:Below w.heap.size w w2:=(zu hw1 hb2);have hz2:=Xb hz1 hb2.size;have hA2:=hA1.on hb2 hz1;clear p17;have u9:=hA2.c9;have u10:=hA2.c10;have u11:=hA2.c11;have u12:=hA2.c12)
  |(go_at_call 100;(with_reducible refine zg (c3 w2) fun w3 hb3=>?_);have hw3:Below w.heap.size w w3:=(zu hw2 hb3);have hz3:=Xb hz2 hb3.size;have hA3:=hA2.on hb3 hz2;clear u9 u10 u11 u12;have d13:=hA3.c13;have d14:=hA3.c14;have d15:=hA3.c15;have d16:=hA3.c16)
  |(go_at_call 100;(with_reducible refine zg (c4 w3) fun w4 hb4=>?_);have hw4:Below w.heap.size w w4:=(zu hw3 hb4);have hz4:=Xb hz3 hb4.size))
 go_ret;exact⟨ret_n HR.out.symm,hw4⟩

theorem setCells_new (w:World) (ta:TypeId): ∀(cs zs pre:List Value),zs.length=cs.length→(w.alloc (.cells (pre++zs).toArray ta)).setCells w.heap.size pre.length cs=w.alloc (.cells (pre++cs).toArray ta)
 | [],[],pre,_=>rfl
 |v::r,z::zs,pre,h=>by
  have ih:=setCells_new w ta r zs (pre++ [v]) (by simpa using h)
  unfold World.setCells
  rw [World.setCell_alloc_at _ _ _ _ _ rfl]
  have e:(pre++z::zs).toArray.setIfInBounds pre.length v=((pre++ [v])++zs).toArray:=by
   apply Array.ext'
   simp
  rw [show(pre++ [v]).length=pre.length+1 by simp]at ih
  first
   |(rw [e,ih];simp)
   |(simp only [e];rw [ih];simp)
 | [],z::zs,pre,h=>by simp at h
 |v::r,[],pre,h=>by simp at h
def trZ:List Value:=[.int .i64 0,.int .i64 0,.int .i64 0,.int .u64 0,.int .u64 0,.int .u64 0,.int .u64 0,.int .u64 0,.bool false,.bool false,.int .u64 0,.int .u64 0,.int .u64 0,.int .u64 0,.int .u64 0,.bool false,.bool false]
theorem there_new (w:World) (A:Array Value) (ta:TypeId):(w.alloc (.cells A ta)).there w.heap.size 0 A.size:=by
 intro j hj;rw [Xv];refine⟨?_,by simp⟩;rw [Yl _ _ _ _ rfl];simp [hj]
theorem wp_newTr {rest:List Oper} {y:Operand} (_:TrAt (w.alloc (.cells (trC t) 84)) w.heap.size 0 t) (hx:A.eval x=.pointer (some ⟨w.heap.size,0,none⟩)) (hy:A.eval y=trV t)
  (g:wpList prog ops Q rest (A.put none undef) (w.alloc (.cells (trC t) 84))):
  wpList prog ops Q ({ dst:=none,op:=.store 84 x y,type:=0,pos:=ps,after:=af,guard:=none } ::rest) A (w.alloc (.cells #[.int .i64 0,.int .i64 0,.int .i64 0,.int .u64 0,.int .u64 0,.int .u64 0,.int .u64 0,.int .u64 0,.bool false,.bool false,.int .u64 0,.int .u64 0,.int .u64 0,.int .u64 0,.int .u64 0,.bool false,.bool false] 84)):=by
 have e:=setCells_new w 84 (trC t).toList trZ [] (by rfl);refine wpList_store_mid rfl 84 x y rfl w.heap.size 0 (trC t) hx hy (there_new w _ _) (by kernel_rfl) (by simp [Value.oneCell']) ?_;have e2:(w.alloc (.cells #[.int .i64 0,.int .i64 0,.int .i64 0,.int .u64 0,.int .u64 0,.int .u64 0,.int .u64 0,.int .u64 0,.bool false,.bool false,.int .u64 0,.int .u64 0,.int .u64 0,.int .u64 0,.int .u64 0,.bool false,.bool false] 84)).setCells w.heap.size 0 (trC t).toList=w.alloc (.cells (trC t) 84):=e;rw [e2];exact g

theorem check_good (p:Pd) (ts:List Tr) (a:Option Addr) (cap:Nat) (w:World) (hB:BdsAt w) (hi:PdI p) (hl:p.nm.length≤9223372036854775807) (hT:TrsAt w a ts) (h1:nmB p.nm=true) (h2: ¬5<ts.length) (hn:numB p=true) (hu:paceB p.uw p.up p.uc p.ue=true) (hd:paceB p.dw p.dp p.dc p.de=true):
  CB 57 #[planV p (.slice a ts.length cap)] w (.int .i64 (chkP p ts)):=by
 have c1:=fun w=>isName_any p.nm w hl;rw [h1]at c1;have h2': ¬(5:Int)<ts.length:=by omega
 have c2:=fun w=>numbers_any p (.slice a ts.length cap) w hi;rw [hn]at c2;have c3:=fun w=>pace_any p.uw p.up p.uc p.ue w;rw [hu]at c3;have c4:=fun w=>pace_any p.dw p.dp p.dc p.de w;rw [hd]at c4;have h3:okP p=true:=by unfold okP;rw [hn,hu,hd];rfl
 have HG:Hid (∀k t,ts[k]? =some t→trB t=false→chkP p ts=1):=fun k t hk ht=>chk_bad h1 h2 h3 hk ht;have HO:Hid ((∀j t,j<ts.length→ts[j]? =some t→trB t=true)→chkP p ts=0):=fun h=>chk_good h1 h2 h3 h;clear hn hu hd h1 h3 hi hl;go_enter func57,ntmps57
 go_wp2_with (first
  |(with_reducible refine wp_plan hA1 (by with_unfolding_all rfl) ?_)
  |(go_at_call 98;(with_reducible refine zg (c1 _) fun w1 hb1=>?_);obtain⟨hA1,hz1,hw1⟩:=boxB hb1;have hq:PlAt w1 w.heap.size p (.slice a ts.length cap):=PlAt.of hA1;clear hA1;have hA1:=hq;clear hq;have p17:=hA1.c17)
  |(go_at_call 99;(with_reducible refine zg (c2 _) fun w2 hb2=>?_);have hw2:Below w.heap.size w w2:=(zu hw1 hb2);have hz2:=Xb hz1 hb2.size;have hA2:=hA1.on hb2 hz1;clear p17;have u9:=hA2.c9;have u10:=hA2.c10;have u11:=hA2.c11;have u12:=hA2.c12)
  |(go_at_call 100;(with_reducible refine zg (c3 w2) fun w3 hb3=>?_);have hw3:Below w.heap.size w w3:=(zu hw2 hb3);have hz3:=Xb hz2 hb3.size;have hA3:=hA2.on hb3 hz2;clear u9 u10 u11 u12;have d13:=hA3.c13;have d14:=hA3.c14;have d15:=hA3.c15;have d16:=hA3.c16)
  |(go_at_call 100;(with_reducible refine zg (c4 w3) fun w4 hb4=>?_);have hw4:Below w.heap.size w w4:=(zu hw3 hb4);have hz4:=Xb hz3 hb4.size;have hA4:=hA3.on hb4 hz3;clear d13 d14 d15 d16;have q17:=hA4.c17))
 clear c1 c2 c3 c4 hA1 hA2 hA3 hA4 q17;go_loopw [32] (fun i wr=>CkR ts w i wr) (fun i _=>ts.length-(intOf i).toNat)
 case atStart=>exact⟨0,Xx _,rfl,(fun j x hj=>absurd hj (by omega)),hw4⟩
 case round=>
  clear hb1 hw1 hb2 hw2 hb3 hw3 hb4 hw4 hz1 hz2 hz3 hz4;obtain⟨k,hk1,rfl,hd0,hbw⟩:=hrel;have HD:=zh hd0;clear hd0;have hBr:=hB.below hbw (Xa _);by_cases hlt:k<ts.length
  ·have hlt':(k:Int)<ts.length:=by omega
   obtain⟨t,hx⟩: ∃x,ts[k]? =some x:=⟨ts[k],by simp [hlt]⟩
   obtain⟨b,off,rfl,hbl,hA⟩:=(hT.below hbw (Xa _)).elem hx;have HX:=zh hx;have hN:=TrAt.new wr t 84;have c6:=fun w hB=>ctrig_any t w hB;have hB6:=fun o=>hBr.below (balloc o) (Xa _);clear hx hT;cases ht:trB t
   ·rw [trE_bad ht]at c6;have HR:Hid (chkP p ts=1):=HG.out k t HX.out ht;clear ht HG HO
    go_wp2_with (first
     |(with_reducible refine wp_tr hA (by with_unfolding_all rfl) ?_)
     |(with_reducible refine wp_tr hN (by with_unfolding_all rfl) ?_)
     |(go_at_call 101;(with_reducible refine zg (c6 _ (hB6 _)) fun w6 hb6=>?_)))
    go_ret;exact⟨ret_n HR.out.symm,hbw.trans ((balloc _).trans (hb6.mono (by simp))|>.mono hbw.size)⟩
   ·rw [trE_ok ht]at c6;have HR:=zh ht;clear ht HG HO
    go_wp2_with (first
     |(with_reducible refine wp_tr hA (by with_unfolding_all rfl) ?_)
     |(with_reducible refine wp_tr hN (by with_unfolding_all rfl) ?_)
     |(go_at_call 101;(with_reducible refine zg (c6 _ (hB6 _)) fun w6 hb6=>?_)))
    go_roundw
    case rel=>
     refine⟨k+1,by omega,rfl,fun j y hj hy=> ?_,hbw.trans ((balloc _).trans (hb6.mono (by simp))|>.mono hbw.size)⟩;by_cases e:j=k
     ·subst e;rw [HX.out]at hy;cases hy;exact HR.out
     ·exact HD.out j y (by omega) hy
    case measure=>simp [intOf];omega
  ·obtain rfl:k=ts.length:=by omega
   have HR:Hid (chkP p ts=0):=HO.out HD.out;clear hT;go_wp2;go_ret;exact⟨ret_n HR.out.symm,hbw⟩
theorem check_any (p:Pd) (ts:List Tr) (a:Option Addr) (cap:Nat) (w:World) (hB:BdsAt w) (hi:PdI p) (hl:p.nm.length≤9223372036854775807) (hT:TrsAt w a ts):
  CB 57 #[planV p (.slice a ts.length cap)] w (.int .i64 (chkP p ts)):=by
 cases h1:nmB p.nm
 ·exact check_name p ts a cap w hl h1
 ·by_cases h2:5<ts.length
  ·exact check_many p ts a cap w hl h1 h2
  ·cases hn:numB p
   ·exact check_num p ts a cap w hi hl h1 h2 hn
   ·cases hu:paceB p.uw p.up p.uc p.ue
    ·exact check_up p ts a cap w hi hl h1 h2 hn hu
    ·cases hd:paceB p.dw p.dp p.dc p.de
     ·exact check_down p ts a cap w hi hl h1 h2 hn hu hd
     ·exact check_good p ts a cap w hB hi hl hT h1 h2 hn hu hd
