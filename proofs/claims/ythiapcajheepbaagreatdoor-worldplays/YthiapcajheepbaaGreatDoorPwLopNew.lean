/- A part. -/
import Derived.Test.YthiapcajheepbaaGreatDoorPwLopAsk
import Derived.Test.YthiapcajheepbaaGreatDoorPwStbNew2
import Derived.Lib.SliceRun
import Derived.Test.YthiapcajheepbaaGreatDoorPwWatLook
set_option linter.all false
open Go.Proofs.Tryz
set_option maxHeartbeats 32000000
set_option maxRecDepth 8000
namespace Go.Proofs.YthiapcajheepbaaGreatDoor
namespace Lop
open Go.RowKit Rw Rec Plain Pln Frm Lpp Crn
variable {B g:Nat} {w:World} {p:Pd}

theorem info_parts {P:Program} {t:TypeId} {z:Value} {a b:Nat} (h:(P.info? t).map (fun i=>(i.zero,i.size,i.bytes))=some (some z,a,b)): ∃i,P.info? t=some i∧i.zero=some z∧i.size=a∧i.bytes=b:=by
 cases hi:P.info? t with
 |none=>rw [hi]at h;cases h
 |some i=>
  rw [hi]at h;simp only [Option.map_some,Option.some.injEq,Prod.mk.injEq]at h;exact⟨i,rfl,h.1,h.2.1,h.2.2⟩
theorem info_trg:(prog.info? 84).map (fun i=>(i.zero,i.size,i.bytes))=some (some (.agg #[.int .i64 0,.int .i64 0,.int .i64 0,.int .u64 0,.int .u64 0,.int .u64 0,.int .u64 0,.int .u64 0,.bool false,.bool false,.int .u64 0,.int .u64 0,.int .u64 0,.int .u64 0,.int .u64 0,.bool false,.bool false]),17,120):=by kernel_rfl
theorem info_i:(prog.info? 3).map (fun i=>(i.zero,i.size,i.bytes))=some (some (.int .i64 0),1,8):=by kernel_rfl
def tK:Kd Tr:=⟨fun t=>(trC t).toList,17,fun _=>rfl,fun m u hu=>by simp at hu;rcases hu with rfl|rfl|rfl|rfl|rfl|rfl|rfl|rfl|rfl|rfl|rfl|rfl|rfl|rfl|rfl|rfl|rfl<;>rfl,by decide⟩
theorem tK_len (ts:List Tr):(cels tK.c ts).length=ts.length*17:=Rw.cels_len tK.len ts
theorem cels_at: ∀(ts:List Tr) (j:Nat) (u:Value),(cels tK.c ts)[j]? =some u→ ∃t,ts[j/17]? =some t∧(trC t)[j%17]? =some u
 | [],j,u,h=>by simp [cels]at h
 |t::ts,j,u,h=>by
  simp only [cels]at h
  have hl:(tK.c t).length=17:=tK.len t
  by_cases hj:j<17
  ·rw [XY (by omega)]at h
   refine⟨t,by rw [Nat.div_eq_of_lt hj];rfl,?_⟩
   rw [Nat.mod_eq_of_lt hj]
   simpa [tK]using h
  ·rw [Yh (by omega),hl]at h
   obtain⟨t',h1,h2⟩:=cels_at ts (j-17) u h
   have e1:j/17=(j-17)/17+1:=by omega
   have e2:j%17=(j-17)%17:=by omega
   rw [e1,e2]
   exact⟨t',by simpa using h1,h2⟩
def ClA (ts:List Tr) (w:World) (e:Ending) (w':World):Prop:=
 ∃tb tcb,e=.returned (.slice tb ts.length tcb)∧TrsAt w' tb ts∧(∀b off,0<ts.length→tb=some ⟨b,off,none⟩→w.heap.size≤b)∧Below w.heap.size w w'
theorem trs_nil (w:World) (a:Option Addr):TrsAt w a []:=fun i t h=>by simp at h
theorem tclone_any (ta:Option Addr) (ts:List Tr) (tc:Nat) (w:World) (hl:ts.length≤5) (hT:TrsAt w ta ts):
  Calls prog 58 #[.slice ta ts.length tc] w (ClA ts w):=by
 have q: ∀(w:World) (a:Option Addr) (n c n' c':Nat),(binOp .eql 24 (.slice a n c) (.slice none n' c')).run prog w=.ok (.bool a.isNone) w:=fun w a n c n' c'=>Lib.run_eql_slice_nil w _ _ a n c n' c' underlying24;obtain⟨i0,hi,hz0,hz1,hz2⟩:=info_parts info_trg;cases ta with
 |none=>
  have h0:ts=[]:=by
   cases ts with
   |nil=>rfl
   |cons t ts=>obtain⟨b,off,e,_⟩:=hT 0 t rfl;cases e
  subst h0;have HE:Hid (ClA [] w (.returned (.slice none 0 0)) w):=⟨none,0,rfl,trs_nil _ _,fun _ _ h=>by simp at h,Below.refl _ _⟩
  clear hT;go_enter func58,ntmps58;go_wp2;go_ret;exact HE.out
 |some ad=>
  have HX:Hid (∀j u,(cels tK.c ts)[j]? =some u→w.cell? (ad.add j)=some u):=by
   intro j u hj;obtain⟨t,h1,h2⟩:=cels_at ts j u hj;obtain⟨b,off,e1,_,e2⟩:=hT _ t h1;cases e1;have:=e2 (j%17) (Nat.mod_lt _ (by decide));rw [h2]at this;have e:off+(j/17*17+j%17)=off+j:=by omega
   rw [e]at this;rw [Addr.add_lit];exact this
  have HL:=zh hl;clear hT hl;go_enter func58,ntmps58;go_wp2_with(at_builtin;(refine wpList_append_own _ rfl _ _ 24 rfl w.heap.size 84 i0 (.agg #[.int .i64 0,.int .i64 0,.int .i64 0,.int .u64 0,.int .u64 0,.int .u64 0,.int .u64 0,.int .u64 0,.bool false,.bool false,.int .u64 0,.int .u64 0,.int .u64 0,.int .u64 0,.int .u64 0,.bool false,.bool false]) 17 120 underlying24 hi hz0 hz1 hz2 rfl (by decide) _ _ _ rfl (World.ownsRow_made w #[] 0 (Xa _) (Xx _) (by simp)) ad ts.length tc (cels tK.c ts) rfl ?qc1 ?qc2 ?qc3 ?qc4 ?qc5 ?qc6 ?_))
  case qc1=>exact tK_len ts
  case qc2=>exact fun j u hj=>Lib.cell?_alloc_some _ (HX.out j u hj)
  case qc3=>exact cels_one tK ts
  case qc4=>have:=HL.out;unfold maxLen;omega
  case qc5=>have:=HL.out;omega
  case qc6=>simp
  intro v' w1 hown hgrow hnil;have ho:w1.ownsRow w.heap.size 84 17 v' ts.length (cels tK.c ts):=by simpa using hown
  have hb:Below w.heap.size w w1:=((Below.refl _ w).alloc (Xa _) _).grown hgrow (by simp) (by intro k hk;simp [Value.ownBlock]at hk;omega);have HE:Hid (ClA ts w (.returned v') w1):=by
   rcases ho.2 with⟨h1,h2⟩|⟨b,c,cur,rfl,_⟩
   ·have:ts=[]:=Yy.1 h2;subst this;exact⟨none,0,by rw [h1];rfl,trs_nil _ _,fun _ _ h=>by simp at h,hb⟩
   ·refine⟨some ⟨b,0,none⟩,c,rfl,fun i t hi=>⟨b,0,rfl,(ho.lt b rfl).2,fun j hj=> ?_⟩,fun b' off' _ e=>by cases e;exact(ho.lt b rfl).1,hb⟩;have hlt:i<ts.length:=(Xe.1 hi).1;rw [Xv,ho.cellAt (i*17+j) (by omega)];have:=Rw.cels_get tK.len ts i j t hi hj;rw [show tK.s=17 from rfl]at this;rw [this];simp [tK]
  clear ho hown hgrow hnil hb;go_wp2;go_ret;exact HE.out
theorem made_run (w:World) (n:Nat) (h:n≤5):(Instr.makeSlice 54 (.int .i64 (n:Int)) (.int .i64 (n:Int))).run prog w=.ok (.slice (some ⟨w.heap.size,0,none⟩) n n) (w.alloc (.cells (madeCells #[.int .i64 0] n) 3)):=by
 obtain⟨i,hi,hz0,hz1,hz2⟩:=info_parts info_i;have hr:=run_make (P:=prog) w 54 3 i _ underlying54 hi hz0 .i64 .i64 (n:Int) (n:Int) (by omega) (Xu _) (by rw [hz2];omega) (by omega);simpa [hz1,Value.cells]using hr
theorem cels_zero (n:Nat):cels iK.c (List.replicate n 0)=List.replicate n (.int .i64 0):=by
 induction n with
 |zero=>rfl
 |succ n ih=>simp only [List.replicate_succ,cels,ih];rfl
theorem made_list (n:Nat):(madeCells #[.int .i64 0] n).toList=List.replicate n (.int .i64 0):=by
 apply Yo;intro j;by_cases hj:j<n
 ·simp [madeCells,hj,Nat.mod_one]
 ·simp [madeCells,hj]
theorem own_made {W:World} {n:Nat} (hB:B≤g) (hn:n≤5) (h:W.heap[g]? =some (.cells (madeCells #[.int .i64 0] n) 3 (0,0))):W.ownsRow B 3 iK.s (.slice (some ⟨g,0,none⟩) n n) (List.replicate n (0:Int)).length (cels iK.c (List.replicate n 0)):=by
 have hl:=made_list n;have hz:(madeCells #[Value.int .i64 0] n).size=n:=by rw [←Array.length_toList,hl];simp
 rw [cels_zero,List.length_replicate];refine⟨by simp [iK],Or.inr ⟨g,n,_,rfl,hB,h,Xa _,by unfold maxLen;omega,by rw [hz];simp [iK],?_⟩⟩;rw [hl];simp [iK]
theorem heapN (W:World) (o:Obj):(W.alloc o).heap[W.heap.size]? =some o:=by show(W.heap.push o)[W.heap.size]? =some o;simp
def newL (n:Nat):Lp:=⟨List.replicate n 0,false,0,0,-1⟩
def noN (p:Pd):Pd:=⟨[],p.mn,p.mx,p.po,p.co,p.tl,p.bk,p.af,p.sh,p.uw,p.up,p.uc,p.ue,p.dw,p.dp,p.dc,p.de⟩
def nU (p:Pd):Stb.Pc:=⟨p.uw,p.up,p.uc,p.ue⟩
def nD (p:Pd):Stb.Pc:=⟨p.dw,p.dp,p.dc,p.de⟩
def newA (p:Pd) (sl vF:Value):Array Value:=(pC (noN p) sl++(Stb.newC (nU p) (nD p)).toList++ [vF,.bool false,.int .i64 0,.int .i64 0,.bool false,.int .i64 0]).toArray
theorem lop_new {w9:World} {tb:Option Addr} {tcb:Nat} {ts:List Tr} {A:Array Value} {e:TypeId} (hl:ts.length≤5) (hT:TrsAt w9 tb ts) (hb9:Below w.heap.size w w9)
  (hg:w9.heap[g]? =some (.cells (madeCells #[.int .i64 0] ts.length) 3 (0,0))) (hgB:w.heap.size≤g) (hgT: ∀b off,0<ts.length→tb=some ⟨b,off,none⟩→b≠g) (hA:A=newA p (.slice tb ts.length tcb) (.slice (some ⟨g,0,none⟩) ts.length ts.length)):
  LAtO 0 (w9.alloc (.cells A e)) w.heap.size ⟨w9.heap.size,.slice (some ⟨g,0,none⟩) ts.length ts.length,Stb.nilV,fun j=>(w9.alloc (.cells A e)).cell? ⟨w9.heap.size,j,none⟩⟩ (noN p) tb tcb ts (newL ts.length) (Stb.new (nU p) (nD p)):=by
 have hbA:Below w9.heap.size w9 (w9.alloc (.cells A e)):=(Below.refl _ _).alloc (Xa _) _;have hgl:g<w9.heap.size:=(XM.1 hg).1;have hc: ∀j v,A[j]? =some v→(w9.alloc (.cells A e)).cell? ⟨w9.heap.size,j,none⟩=some v:=fun j v h=>by simpa using h
 subst hA;have hnb: ∀k,Stb.blk w9.heap.size Stb.nilV k→k=w9.heap.size:=fun k h=>by
  rcases h with h|⟨i,_,h⟩
  ·exact h
  ·simp [Stb.nilV,Value.ownBlock]at h
 refine⟨fun j u hu=>(congrArg (fun k=>(w9.alloc (.cells (newA p (.slice tb ts.length tcb) (.slice (some ⟨g,0,none⟩) ts.length ts.length)) e)).cell? ⟨w9.heap.size,k,none⟩) (Xv j)).trans (hc j u ?_),hc _ _ rfl,hc _ _ rfl,hc _ _ rfl,hc _ _ rfl,hc _ _ rfl,⟨0,hc _ _ rfl,fun h=>by simp [newL]at h⟩,(own_made hgB hl hg).alloc _,⟨by simp,hb9.size,fun j=>by simp,fun j hj=>hc _ _ ?_,fun i hi=>hc _ _ ?_,fun i hi=> ?_,fun i _=>by simp [Stb.nilV,Value.ownBlock],fun i j _ _ _ g h=>by simp [Stb.nilV,Value.ownBlock]at h⟩,fun x hx h=> ?_,hT.below hbA (Xa _),fun b off hp ht h=> ?_,fun _ _=>rfl⟩
 ·have hj:j<(pC (noN p) (.slice tb ts.length tcb)).length:=(Xe.1 hu).1;unfold newA;rw [List.getElem?_toArray,X4,XY hj];exact hu
 ·rcases hj with hj|rfl|rfl
  ·rcases(by omega:j=0∨j=1∨j=2∨j=3∨j=4∨j=5∨j=6∨j=7∨j=8)with rfl|rfl|rfl|rfl|rfl|rfl|rfl|rfl|rfl<;>rfl
  ·rfl
  ·rfl
 ·rcases(by omega:i=0∨i=1∨i=2∨i=3)with rfl|rfl|rfl|rfl<;>rfl
 ·have:Stb.rws (Stb.new (nU p) (nD p)) i=[]:=by rcases(by omega:i=0∨i=1∨i=2∨i=3)with rfl|rfl|rfl|rfl<;>rfl
  rw [this];exact Own.nil _ _ _ _
 ·have:=hnb x h;simp [Value.ownBlock]at hx;omega
 ·obtain⟨t,h0⟩: ∃t,ts[0]? =some t:=⟨ts[0],by simp⟩
  obtain⟨b',off',e',hlt,_⟩:=hT 0 t h0;rw [ht]at e';cases e';rcases h with h|h
  ·simp [Value.ownBlock]at h;exact hgT b off hp ht h.symm
  ·have:=hnb b h;omega
theorem plan_new (w:World) (p:Pd) (sl:Value) (ta:TypeId):PlAt (w.alloc (.cells (planC p sl) ta)) w.heap.size p sl:=by
 constructor<;>simp
theorem plan_drew {sl:Value} (h:PlAt w B p sl):PlAt w.drew B p sl:=⟨h.c0,h.c1,h.c2,h.c3,h.c4,h.c5,h.c6,h.c7,h.c8,h.c9,h.c10,h.c11,h.c12,h.c13,h.c14,h.c15,h.c16,h.c17⟩
theorem plan_name {sl:Value} (h:PlAt w B p sl):PlAt (w.setCell ⟨B,0,none⟩ (.string ⟨#[]⟩)) B (noN p) sl:=by
 have e: ∀i,i≠0→(w.setCell ⟨B,0,none⟩ (.string ⟨#[]⟩)).cell? ⟨B,i,none⟩=w.cell? ⟨B,i,none⟩:=fun i hi=>by
  rw [Xd (h:=fun e=>hi (congrArg Addr.off e).symm)]
 exact⟨Xn _ _ _ h.c0,(e _ (by decide)).trans h.c1,(e _ (by decide)).trans h.c2,(e _ (by decide)).trans h.c3,(e _ (by decide)).trans h.c4,(e _ (by decide)).trans h.c5,(e _ (by decide)).trans h.c6,(e _ (by decide)).trans h.c7,(e _ (by decide)).trans h.c8,(e _ (by decide)).trans h.c9,(e _ (by decide)).trans h.c10,(e _ (by decide)).trans h.c11,(e _ (by decide)).trans h.c12,(e _ (by decide)).trans h.c13,(e _ (by decide)).trans h.c14,(e _ (by decide)).trans h.c15,(e _ (by decide)).trans h.c16,(e _ (by decide)).trans h.c17⟩
theorem plan_trs {sl sl':Value} (h:PlAt w B p sl):PlAt (w.setCell ⟨B,17,none⟩ sl') B p sl':=by
 have e: ∀i,i≠17→(w.setCell ⟨B,17,none⟩ sl').cell? ⟨B,i,none⟩=w.cell? ⟨B,i,none⟩:=fun i hi=>by
  rw [Xd (h:=fun e=>hi (congrArg Addr.off e).symm)]
 exact⟨(e _ (by decide)).trans h.c0,(e _ (by decide)).trans h.c1,(e _ (by decide)).trans h.c2,(e _ (by decide)).trans h.c3,(e _ (by decide)).trans h.c4,(e _ (by decide)).trans h.c5,(e _ (by decide)).trans h.c6,(e _ (by decide)).trans h.c7,(e _ (by decide)).trans h.c8,(e _ (by decide)).trans h.c9,(e _ (by decide)).trans h.c10,(e _ (by decide)).trans h.c11,(e _ (by decide)).trans h.c12,(e _ (by decide)).trans h.c13,(e _ (by decide)).trans h.c14,(e _ (by decide)).trans h.c15,(e _ (by decide)).trans h.c16,Xn _ _ _ h.c17⟩
theorem range_st {Q:Nat} {u d:Stb.Pc} (h:Stb.SAt w B Q 0 Stb.nilV (Stb.new u d)):w.rangeAt Q 0 (Stb.newC u d).toList:=by
 have hn: ∀j,Stb.isNum j→w.cell? ⟨Q,j,none⟩=some (.int .i64 (Stb.num (Stb.new u d) j)):=fun j hj=>by have:=h.num j hj;rwa [Xv]at this
 have hr: ∀i,i<4→w.cell? ⟨Q,Stb.pos i,none⟩=some (Stb.nilV i):=fun i hi=>by have:=h.row i hi;rwa [Xv]at this
 intro j v hv;rw [Xv];match j,hv with
 |0,hv=>cases hv;exact hn 0 (Or.inl (by decide))
 |1,hv=>cases hv;exact hn 1 (Or.inl (by decide))
 |2,hv=>cases hv;exact hn 2 (Or.inl (by decide))
 |3,hv=>cases hv;exact hn 3 (Or.inl (by decide))
 |4,hv=>cases hv;exact hn 4 (Or.inl (by decide))
 |5,hv=>cases hv;exact hn 5 (Or.inl (by decide))
 |6,hv=>cases hv;exact hn 6 (Or.inl (by decide))
 |7,hv=>cases hv;exact hn 7 (Or.inl (by decide))
 |8,hv=>cases hv;exact hn 8 (Or.inl (by decide))
 |9,hv=>cases hv;exact hr 0 (by decide)
 |10,hv=>cases hv;exact hr 1 (by decide)
 |11,hv=>cases hv;exact hr 2 (by decide)
 |12,hv=>cases hv;exact hn 12 (Or.inr (Or.inl rfl))
 |13,hv=>cases hv;exact hr 3 (by decide)
 |14,hv=>cases hv;exact hn 14 (Or.inr (Or.inr rfl))
 |j+15,hv=>simp [Stb.newC]at hv
theorem lnew_no (p:Pd) (ta:Option Addr) (tc:Nat) (ts:List Tr) (w:World) (hB:Lai.BdsAt w) (hi:PdI p) (hl:p.nm.length≤9223372036854775807) (hT:TrsAt w ta ts) (hc:chkP p ts≠0):
  CB 11 #[planV p (.slice ta ts.length tc)] w (.tuple #[.pointer none,.int .i64 (chkP p ts)]):=by
 obtain⟨W,hW⟩: ∃W,W=w.alloc (.cells (planC p (.slice ta ts.length tc)) 26):=⟨_,rfl⟩
 have hPl:PlAt W w.heap.size p (.slice ta ts.length tc):=by rw [hW];exact plan_new _ _ _ _
 have hbW:Below w.heap.size w W:=by rw [hW];exact(Below.refl _ _).alloc (Xa _) _
 have HW:=zh hW;have cC:=check_any p ts ta tc W (hB.below hbW (Xa _)) hi hl (hT.below hbW (Xa _));have HB:=zh hbW;have dne:(chkP p ts !=0)=true:=by rw [bne_iff_ne];exact hc
 clear hW hbW hT hB hi hc;generalize chkP p ts=E at*;go_enter func11,ntmps11;go_upto_region 1 with fail
 rw [←HW.out];clear HW
 go_wp2_with (first
  |(with_reducible refine wp_plan hPl (by with_unfolding_all rfl) ?_)
  |(go_at_call 57;(with_reducible refine zg cC fun w1 hb1=>?_)))
 go_ret2;exact⟨rfl,(zu HB.out hb1)⟩
def NewA (p:Pd) (ts:List Tr) (w:World) (e:Ending) (w':World):Prop:=
 ∃D vF R tb tcb,e=.returned (.tuple #[.pointer (some ⟨D,0,none⟩),.int .i64 0])∧LAtO 0 w' w.heap.size ⟨D,vF,Stb.nilV,R⟩ (noN p) tb tcb ts (newL ts.length) (Stb.new (nU p) (nD p))∧Below w.heap.size w w'∧ ∀b off,0<ts.length→tb=some ⟨b,off,none⟩→w.heap.size≤b
theorem lnew_yes (p:Pd) (ta:Option Addr) (tc:Nat) (ts:List Tr) (w:World) (hB:Lai.BdsAt w) (hi:PdI p) (hl:p.nm.length≤9223372036854775807) (hT:TrsAt w ta ts) (hc:chkP p ts=0):
  Calls prog 11 #[planV p (.slice ta ts.length tc)] w (NewA p ts w):=by
 have hl5:=(plOk_of hc).len;obtain⟨W,hW⟩: ∃W,W=w.alloc (.cells (planC p (.slice ta ts.length tc)) 26):=⟨_,rfl⟩
 have hPl:PlAt W w.heap.size p (.slice ta ts.length tc):=by rw [hW];exact plan_new _ _ _ _
 have hbW:Below w.heap.size w W:=by rw [hW];exact(Below.refl _ _).alloc (Xa _) _
 have hzW:w.heap.size<W.heap.size:=by rw [hW];simp
 have hfz: ∀j,W.frozen? ⟨w.heap.size,j,none⟩=false:=fun j=>by rw [hW];exact frozN rfl
 have HW:=zh hW;have cC:=check_any p ts ta tc W (hB.below hbW (Xa _)) hi hl (hT.below hbW (Xa _));rw [hc]at cC;have HB:=zh hbW;have HT:=zh hT;clear hW hbW hT hB hi hc;go_enter func11,ntmps11;go_upto_region 1 with fail
 rw [←HW.out];clear HW
 go_upto_region 4 with (first
  |(with_reducible refine wp_plan hPl (by with_unfolding_all rfl) ?_)
  |(go_at_call 57;(with_reducible refine zg cC fun w1 hb1=>?_)))
 have hP1:=hPl.on hb1 hzW;have hB1:Below w.heap.size w w1:=(zu HB.out hb1)
 have hf1: ∀j,w1.frozen? ⟨w.heap.size,j,none⟩=false:=fun j=>(hb1.frozen (p:=⟨w.heap.size,j,none⟩) hzW).trans (hfz j);have hz1:w.heap.size<w1.heap.size:=Xb hzW hb1.size;clear hPl cC HB hfz hb1 hzW;have hP2:=plan_name hP1;have a0:=hP1.c0;have f0:=hf1 0;have hB2:Below w.heap.size w (w1.setCell ⟨w.heap.size,0,none⟩ (.string ⟨#[]⟩)):=hB1.setCell (p:=⟨w.heap.size,0,none⟩) (Xa _) _;have hf2: ∀j,(w1.setCell ⟨w.heap.size,0,none⟩ (.string ⟨#[]⟩)).frozen? ⟨w.heap.size,j,none⟩=false:=fun j=>by rw [Xi];exact hf1 j
 have hz2:w.heap.size<(w1.setCell ⟨w.heap.size,0,none⟩ (.string ⟨#[]⟩)).heap.size:=by simpa using hz1
 go_upto_region 5 with fail
 generalize w1.setCell ⟨w.heap.size,0,none⟩ (.string ⟨#[]⟩)=W2 at*;clear a0 f0 hP1 hB1 hf1 hz1;have a17:=hP2.c17;have f17:=hf2 17;have cL:=tclone_any ta ts tc W2 hl5 (HT.out.below hB2 (Xa _));have HP2:=zh hP2;have HB2:=zh hB2;clear hP2 hB2 hf2 HT;go_upto_region 6 with(go_at_call 58;(with_reducible refine cL.mono ?_);rintro e w3 ⟨tb,tcb,rfl,hT3,hg3,hb3⟩;have b17:=(zk a17 hb3);have g17:=(hb3.frozen (p:=⟨w.heap.size,17,none⟩) hz2).trans f17)
 clear a17 f17 cL;have hP4:=plan_trs (sl':=.slice tb ts.length tcb) (HP2.out.on hb3 hz2);have hB4:Below w.heap.size w (w3.setCell ⟨w.heap.size,17,none⟩ (.slice tb ts.length tcb)):=(zu HB2.out hb3).setCell (p:=⟨w.heap.size,17,none⟩) (Xa _) _;have hz4:w.heap.size<(w3.setCell ⟨w.heap.size,17,none⟩ (.slice tb ts.length tcb)).heap.size:=by have:=hb3.size;simp;omega
 have hg4: ∀b off,0<ts.length→tb=some ⟨b,off,none⟩→w.heap.size<b∧b<w3.heap.size:=fun b off hp e=>by
  refine⟨by have:=hg3 b off hp e;omega,?_⟩;obtain⟨t,h0⟩: ∃t,ts[0]? =some t:=⟨ts[0],by simp⟩
  obtain⟨b',off',e',hlt,_⟩:=hT3 0 t h0;rw [e]at e';cases e';exact hlt
 have hT4:TrsAt (w3.setCell ⟨w.heap.size,17,none⟩ (.slice tb ts.length tcb)) tb ts:=trs_kept hT3 (fun b off hp e=>Below.heap_setCell _ _ _ b (by have:=(hg4 b off hp e).1;simp only;omega)) (by simp);have HG4:Hid (∀b off,0<ts.length→tb=some ⟨b,off,none⟩→w.heap.size≤b∧b<(w3.setCell ⟨w.heap.size,17,none⟩ (.slice tb ts.length tcb)).heap.size):=fun b off hp e=>⟨Xw (hg4 b off hp e).1,by have:=(hg4 b off hp e).2;simpa using this⟩
 clear hg4 hg3 hT3 hb3 b17 g17 HP2 HB2 hz2;(try simp only [Act.put]);generalize w3.setCell ⟨w.heap.size,17,none⟩ (.slice tb ts.length tcb)=W4 at*;have hmk:=fun W=>made_run W ts.length hl5;have cN:=fun W=>Stb.new_any (nU (noN p)) (nD (noN p)) W;simp only [Stb.pcV,nU,nD]at cN;refine wp_region_held_drew (S:=fun w'=>PlAt w' w.heap.size (noN p) (.slice tb ts.length tcb)) (by kernel_rfl) (plan_drew hP4) (fun hHeld=> ?_);refine Tk.gi 1 ?_;(try simp only [Act.put,ar,ag]);refine wpAnyH_take (i:=2) (oi:=_) (v:= ?_) rfl (by kernel_rfl) (by kernel_rfl) (by kernel_rfl) (fun _ _ _ h=>h) (Or.inl ⟨by rfl,?_⟩) (by assumption) ?_;rotate_left
 ·intro w' hSw;(try dsimp only at hSw);have a9:=hSw.c9;have a10:=hSw.c10;have a11:=hSw.c11;have a12:=hSw.c12;go_simp;all_goals with_reducible rfl
 (try simp only [Act.put,ar,ag]);refine Tk.gi 3 ?_;(try simp only [Act.put,ar,ag]);refine wpAnyH_take (i:=4) (oi:=_) (v:= ?_) rfl (by kernel_rfl) (by kernel_rfl) (by kernel_rfl) (fun _ _ _ h=>h) (Or.inl ⟨by rfl,?_⟩) (by assumption) ?_;rotate_left
 ·intro w' hSw;(try dsimp only at hSw);have a13:=hSw.c13;have a14:=hSw.c14;have a15:=hSw.c15;have a16:=hSw.c16;go_simp;all_goals with_reducible rfl
 (try simp only [Act.put,ar,ag]);refine Tk.gi 8 ?_;(try simp only [Act.put,ar,ag]);refine wpAnyH_take (i:=9) (oi:=_) (v:= ?_) rfl (by kernel_rfl) (by kernel_rfl) (by kernel_rfl) (fun _ _ _ h=>h) (Or.inl ⟨by rfl,?_⟩) (by assumption) ?_;rotate_left
 ·intro w' hSw;(try dsimp only at hSw);have a17:=hSw.c17;go_simp;all_goals with_reducible rfl
 (try simp only [Act.put,ar,ag]);refine Tk.gi 10 ?_;(try simp only [Act.put,ar,ag]);refine Tk.gi 0 (v:=planV (noN p) (.slice tb ts.length tcb)) ?_ (hy:=yieldsIf_load_mid (by rfl) 26 (.tmp 1) rfl w.heap.size 0 (by with_unfolding_all rfl) [.string ⟨(noN p).nm.toArray⟩,.int .i64 p.mn,.int .i64 p.mx,.int .i64 p.po,.int .i64 p.co,.int .i64 p.tl,.int .i64 p.bk,.int .i64 p.af,.int .i64 p.sh,.int .i64 p.uw,.int .i64 p.up,.int .i64 p.uc,.int .i64 p.ue,.int .i64 p.dw,.int .i64 p.dp,.int .i64 p.dc,.int .i64 p.de,.slice tb ts.length tcb] _ (fun W h=>range_plan h) underlying26 rfl (by kernel_rfl));(try simp only [Act.put,ar,ag]);refine wpAnyH_ready (rs:=[5,11]) (by kernel_rfl) (by simp) ?_;refine AllReadyH.cons rfl (fun K hK=> ?_) (AllReadyH.cons rfl (fun K hK=> ?_) AllReadyH.nil)
 ·go_simp;go_wp2_with(go_at_call 59;(with_reducible refine(cN _).mono ?_);rintro e w8 ⟨S8,rfl,hS8,hb8⟩;have s8:=(plan_drew hP4).on hb8 hz4)
  refine hK.out _ _ s8 (fun hHeld=> ?_);clear hK K;refine Tk.gi 6 ?_;(try simp only [Act.put,ar,ag]);have hz8:w.heap.size<w8.heap.size:=Xb hz4 hb8.size;have hb9:Below w.heap.size w (w8.alloc (.cells (madeCells #[.int .i64 0] ts.length) 3)):=((hB4.drew).trans (hb8.mono hB4.size)).alloc (Xc hB4.size hb8.size) _;have s9:=s8.on ((Below.refl w8.heap.size w8).alloc (Xa _) (.cells (madeCells #[.int .i64 0] ts.length) 3)) hz8;have HN:Hid (∀A e,A=newA p (.slice tb ts.length tcb) (.slice (some ⟨w8.heap.size,0,none⟩) ts.length ts.length)→NewA p ts w (.returned (.tuple #[.pointer (some ⟨w8.heap.size+1,0,none⟩),.int .i64 0])) ((w8.alloc (.cells (madeCells #[.int .i64 0] ts.length) 3)).alloc (.cells A e))):=fun A e hA=>by
   have hT8:TrsAt w8 tb ts:=(show TrsAt W4.drew tb ts from hT4).below hb8 (Xa _);have h9:=lop_new (e:=e) hl5 (hT8.below ((Below.refl w8.heap.size w8).alloc (Xa _) _) (Xa _)) hb9 (heapN _ _) (Xw hz8) (fun b off hp e=>by have h1:=(HG4.out b off hp e).2;have h2:W4.heap.size≤w8.heap.size:=hb8.size;omega) hA;have hz9:(w8.alloc (.cells (madeCells #[.int .i64 0] ts.length) 3)).heap.size=w8.heap.size+1:=by simp
   rw [hz9]at h9;exact⟨_,_,_,tb,tcb,rfl,h9,hb9.alloc hb9.size _,fun b off hp e=>(HG4.out b off hp e).1⟩
  refine wpAnyH_ready (rs:=[7,11]) (by kernel_rfl) (by simp) ?_;refine AllReadyH.cons rfl (fun K hK=> ?_) (AllReadyH.cons rfl (fun K hK=> ?_) AllReadyH.nil)
  ·rw [if_pos (by rfl)];refine wp_load_mid 53 (.tmp 21) rfl S8 0 (by with_unfolding_all rfl) [.int .i64 (Stb.cl p.uw),.int .i64 (Stb.cl p.up),.int .i64 (Stb.cl p.uc),.int .i64 (Stb.cl p.ue),.int .i64 (Stb.cl p.dw),.int .i64 (Stb.cl p.dp),.int .i64 (Stb.cl p.dc),.int .i64 (Stb.cl p.de),.int .i64 0,.slice none 0 0,.slice none 0 0,.slice none 0 0,.int .i64 0,.slice none 0 0,.int .i64 0] _ (range_st (u:=nU p) (d:=nD p) hS8) underlying53 rfl (by kernel_rfl) ?_;refine hK.out _ _ s8 (fun hHeld=> ?_);clear hK K;(try simp only [Act.put,ar,ag]);refine Tk.r1 11 fun K hK=> ?_;go_simp;refine hK.out _ _ s9 (fun hHeld=> ?_);clear hK K;refine Tk.gi 12 ?_;(try simp only [Act.put,ar,ag]);refine Tk.r1 13 fun K hK=> ?_;go_simp;refine hK.out _ _ (s9.on ((Below.refl _ _).alloc (Xa _) _) (Xb hz8 (by simp))) (fun hHeld=> ?_);clear hK K;refine Tk.gi 14 ?_;(try simp only [Act.put,ar,ag]);refine Tk.gi 15 ?_;(try simp only [Act.put,ar,ag]);refine wpAnyH_done (by kernel_rfl) ?_ _;(try go_wp2);go_ret2;exact HN.out _ _ rfl
  ·go_simp;refine hK.out _ _ s9 (fun hHeld=> ?_);clear hK K;refine Tk.r1 7 fun K hK=> ?_;rw [if_pos (by rfl)];refine wp_load_mid 53 (.tmp 21) rfl S8 0 (by with_unfolding_all rfl) [.int .i64 (Stb.cl p.uw),.int .i64 (Stb.cl p.up),.int .i64 (Stb.cl p.uc),.int .i64 (Stb.cl p.ue),.int .i64 (Stb.cl p.dw),.int .i64 (Stb.cl p.dp),.int .i64 (Stb.cl p.dc),.int .i64 (Stb.cl p.de),.int .i64 0,.slice none 0 0,.slice none 0 0,.slice none 0 0,.int .i64 0,.slice none 0 0,.int .i64 0] _ (range_st (u:=nU p) (d:=nD p) (hS8.alloc _)) underlying53 rfl (by kernel_rfl) ?_;refine hK.out _ _ s9 (fun hHeld=> ?_);clear hK K;(try simp only [Act.put,ar,ag]);refine Tk.gi 12 ?_;(try simp only [Act.put,ar,ag]);refine Tk.r1 13 fun K hK=> ?_;go_simp;refine hK.out _ _ (s9.on ((Below.refl _ _).alloc (Xa _) _) (Xb hz8 (by simp))) (fun hHeld=> ?_);clear hK K;refine Tk.gi 14 ?_;(try simp only [Act.put,ar,ag]);refine Tk.gi 15 ?_;(try simp only [Act.put,ar,ag]);refine wpAnyH_done (by kernel_rfl) ?_ _;(try go_wp2);go_ret2;exact HN.out _ _ rfl
 ·go_simp;have hbD:Below W4.heap.size W4 (W4.alloc (.cells (madeCells #[.int .i64 0] ts.length) 3)).drew:=((Below.refl _ _).alloc (Xa _) _).drew;have sD:=hP4.on hbD hz4;refine hK.out _ _ sD (fun hHeld=> ?_);clear hK K;refine Tk.r1 5 fun K hK=> ?_;go_simp;go_wp2_with(go_at_call 59;(with_reducible refine(cN _).mono ?_);rintro e w8 ⟨S8,rfl,hS8,hb8⟩;have s8:=sD.on hb8 (Xb hz4 hbD.size))
  refine hK.out _ _ s8 (fun hHeld=> ?_);clear hK K;have hz8:w.heap.size<w8.heap.size:=Xb (Xb hz4 hbD.size) hb8.size;have hb9:Below w.heap.size w w8:=(zu hB4 hbD).trans (hb8.mono (Xc hB4.size hbD.size));have HN:Hid (∀A e,A=newA p (.slice tb ts.length tcb) (.slice (some ⟨W4.heap.size,0,none⟩) ts.length ts.length)→NewA p ts w (.returned (.tuple #[.pointer (some ⟨w8.heap.size,0,none⟩),.int .i64 0])) (w8.alloc (.cells A e))):=fun A e hA=>by
   have hT8:TrsAt w8 tb ts:=(hT4.below hbD (Xa _)).below hb8 (Xa _);have hg8:w8.heap[W4.heap.size]? =some (.cells (madeCells #[.int .i64 0] ts.length) 3 (0,0)):=(hb8.block W4.heap.size (by simp)).trans (heapN _ _);have h9:=lop_new (e:=e) hl5 hT8 hb9 hg8 (Xw hz4) (fun b off hp e=>by have h1:=(HG4.out b off hp e).2;omega) hA;exact⟨_,_,_,tb,tcb,rfl,h9,hb9.alloc hb9.size _,fun b off hp e=>(HG4.out b off hp e).1⟩
  refine Tk.gi 6 ?_;(try simp only [Act.put,ar,ag]);refine Tk.r1 7 fun K hK=> ?_;rw [if_pos (by rfl)];refine wp_load_mid 53 (.tmp 21) rfl S8 0 (by with_unfolding_all rfl) [.int .i64 (Stb.cl p.uw),.int .i64 (Stb.cl p.up),.int .i64 (Stb.cl p.uc),.int .i64 (Stb.cl p.ue),.int .i64 (Stb.cl p.dw),.int .i64 (Stb.cl p.dp),.int .i64 (Stb.cl p.dc),.int .i64 (Stb.cl p.de),.int .i64 0,.slice none 0 0,.slice none 0 0,.slice none 0 0,.int .i64 0,.slice none 0 0,.int .i64 0] _ (range_st (u:=nU p) (d:=nD p) hS8) underlying53 rfl (by kernel_rfl) ?_;refine hK.out _ _ s8 (fun hHeld=> ?_);clear hK K;(try simp only [Act.put,ar,ag]);refine Tk.gi 12 ?_;(try simp only [Act.put,ar,ag]);refine Tk.r1 13 fun K hK=> ?_;go_simp;refine hK.out _ _ (s8.on ((Below.refl _ _).alloc (Xa _) _) hz8) (fun hHeld=> ?_);clear hK K;refine Tk.gi 14 ?_;(try simp only [Act.put,ar,ag]);refine Tk.gi 15 ?_;(try simp only [Act.put,ar,ag]);refine wpAnyH_done (by kernel_rfl) ?_ _;(try go_wp2);go_ret2;exact HN.out _ _ rfl
end Lop
namespace Lop
open Plain Pln Frm Lpp

structure LI (ts:List Tr) (s:Lp) (st:Stb.St) (k:Nat):Prop where
 fl:s.fs.length=ts.length
 fo:FsOk s.fs k
 la:0≤s.la∧s.la≤1099511627776
 nd:0≤s.nd∧s.nd≤1099511627776
 fi:Stb.Fit st (2*k)
 ls:st.last≤s.la
theorem LI.new (ts:List Tr) (u d:Stb.Pc):LI ts (newL ts.length) (Stb.new u d) 0:=
 ⟨by simp [newL],fun f hf=>by simp [newL]at hf;omega,by simp [newL],by simp [newL],Stb.new_fit u d,by simp [Stb.new,newL]⟩
theorem LI.pause {ts:List Tr} {s:Lp} {st:Stb.St} {k:Nat} (h:LI ts s st k) (n:Int):LI ts ⟨s.fs,s.lk,s.la,s.nd,n⟩ st k:=⟨h.fl,h.fo,h.la,h.nd,h.fi,h.ls⟩
theorem LI.mono {ts:List Tr} {s:Lp} {st:Stb.St} {k l:Nat} (h:LI ts s st k) (hk:k≤l):LI ts s st l:=
 ⟨h.fl,fun f hf=>by have:=h.fo f hf;omega,h.la,h.nd,h.fi.mono (by omega),h.ls⟩
theorem LI.big {ts:List Tr} {s:Lp} {st:Stb.St} {k:Nat} (h:LI ts s st k) (hk:k≤1000000):FsOk s.fs 1000000:=fun f hf=>by have:=h.fo f hf;omega
theorem ok_noN {p:Pd} {ts:List Tr} (h:PlOk p ts):PlOk (noN p) ts:=⟨h.mn,h.mx,h.po,h.co,h.tl,h.bk,h.af,h.sh,h.len,h.tr⟩
section
variable {p : Pd} {ts : List Tr} {rs : List Rd} {s : Lp} {st : Stb.St} {k : Nat} {now hv WK : Int} {AK : Bool} {H : List Stb.Mo}
theorem low_bd (hP:PlOk p ts) (hv now nd:Int) (need:Bool):0≤lowF p hv now nd need∧p.mn≤lowF p hv now nd need∧lowF p hv now nd need≤p.mx:=by
 have h1:=hP.mn;have h2:=hP.mx;unfold lowF;split
 ·omega
 ·split<;>omega
theorem ok_set (h:LI ts s st k) (hP:PlOk p ts) (hn:s.la≤now∧now≤1099511627776) (hh:0≤hv∧hv≤50):Stb.okArg st.last now hv (askF p WK (lowF p hv now s.nd AK))=true:=by
 have h1:=h.ls;have h2:=low_bd hP hv now s.nd AK;have h3:=hP.mx;rw [Stb.okArg_iff];generalize lowF p hv now s.nd AK=L at*;refine⟨by omega,hn.2,hh.1,hh.2,?_,?_⟩<;>unfold askF<;>omega
theorem LI.look (h:LI ts s st k) (hP:PlOk p ts) (hn:s.la≤now∧now≤1099511627776) (hh:0≤hv∧hv≤50):LI ts (nextL s ts rs now AK) (nextS p s st now hv WK AK) (k+1):=by
 have hl:=h.la;have hd:=h.nd;have ho:=ok_set (WK:=WK) (AK:=AK) h hP hn hh;refine⟨?_,?_,⟨show 0≤now by omega,hn.2⟩,?_,?_,?_⟩
 ·show(fsK ts rs s.fs ts.length).length=_;rw [fsK_len,h.fl]
 ·have:=fsK_ok (ts:=ts) (rs:=rs) (k:=ts.length) h.fo;intro f hf;have:=this f hf;omega
 ·unfold nextL;split
  ·exact⟨show 0≤now by omega,hn.2⟩
  ·exact hd
 ·unfold nextS;split
  ·exact h.fi.mono (by omega)
  ·exact h.fi.setS now hv _
 ·show(nextS p s st now hv WK AK).last≤now;unfold nextS;split
  ·have:=h.ls;omega
  ·rw [Stb.setS_last ho];exact Xu _
theorem look_bds (hP:PlOk p ts) (hpa:s.pa<0):p.mn≤lookP p s st now hv WK AK∧lookP p s st now hv WK AK≤p.mx∧(AK=true→1≤lookP p s st now hv WK AK)∧(now-s.nd<p.co→1≤hv→1≤lookP p s st now hv WK AK):=by
 have h1:=hP.mn;have h2:=hP.mx;have h3:=low_bd hP hv now s.nd AK;unfold lookP;rw [if_neg (by omega)];have h4:AK=true→1≤lowF p hv now s.nd AK:=fun e=>by unfold lowF;rw [if_pos e];omega
 have h5:now-s.nd<p.co→1≤hv→1≤lowF p hv now s.nd AK:=fun e e2=>by
  unfold lowF;split
  ·omega
  ·omega
 generalize Stb.setN st now hv (askF p WK (lowF p hv now s.nd AK))=N;generalize lowF p hv now s.nd AK=L at*;unfold toldF;refine⟨by omega,by omega,fun e=>by have:=h4 e;omega,fun e e2=>by have:=h5 e e2;omega⟩
end
end Lop
namespace Lop
open Go.RowKit Rw Rec Plain Pln Frm Lpp Crn
variable {w w':World} {R:Nat} {v:Value}

structure PX (w:World) (R:Nat) (p:Pd) (v:Value):Prop where
 lt:R<w.heap.size
 cel: ∀o,w.cell? ⟨R,o,none⟩=(planC p v)[o]?
 fz: ∀o,w.frozen? ⟨R,o,none⟩=false
theorem PX.below {n:Nat} {p:Pd} (h:PX w R p v) (hb:Below n w w') (hn:R<n):PX w' R p v:=
 ⟨Xb h.lt hb.size,fun o=>(Xf (w:=w) (a:=⟨R,o,none⟩) (hb.block R hn)).trans (h.cel o),fun o=>(Xl (w:=w) (a:=⟨R,o,none⟩) (hb.block R hn)).trans (h.fz o)⟩
theorem PX.kept {p:Pd} (h:PX w R p v) (hb:w'.heap[R]? =w.heap[R]?):PX w' R p v:=
 ⟨by have:=h.lt;rw [X7 this]at hb;exact(XM.1 hb).1,fun o=>(Xf (w:=w) (a:=⟨R,o,none⟩) hb).trans (h.cel o),fun o=>(Xl (w:=w) (a:=⟨R,o,none⟩) hb).trans (h.fz o)⟩
theorem PX.set {j:Nat} {p p':Pd} {v' u:Value} (h:PX w R p v) (hp:planC p' v'=(planC p v).setIfInBounds j u) (hj:j<18):PX (w.setCell ⟨R,j,none⟩ u) R p' v':=by
 have hs:(planC p v).size=18:=rfl;refine⟨by simpa using h.lt,fun o=> ?_,fun o=>by rw [Xi];exact h.fz o⟩;rw [hp,Array.getElem?_setIfInBounds];by_cases e:j=o
 ·subst e;rw [if_pos rfl,if_pos (by omega)];have: ∃x,w.cell? ⟨R,j,none⟩=some x:=⟨(planC p v)[j]'(by omega),by rw [h.cel];simp [hj]⟩
  obtain⟨x,hx⟩:=this;exact Xn _ _ _ hx
 ·rw [if_neg e,Xd (h:=fun e2=>e (congrArg Addr.off e2))];exact h.cel o

theorem wK_noN (p:Pd) (hv:Int) (inF:Tr→Bool) (ts:List Tr) (rs:List Rd) (fs:List Int): ∀k,wK (noN p) hv inF ts rs fs k=wK p hv inF ts rs fs k
 |0=>rfl
 |k+1=>by
  have ih:=wK_noN p hv inF ts rs fs k
  simp only [wK]
  split
  ·rw [ih];rfl
  ·exact ih
structure DI (p:Pd) (ts:List Tr) (s:Lp) (st:Stb.St) (c:Stb.Cm) (k:Nat):Prop where
 i:LI ts s st k
 sm:Stb.Sim st c
 cf:Stb.CFit c k
theorem DI.mono {p:Pd} {ts:List Tr} {s:Lp} {st:Stb.St} {c:Stb.Cm} {k l:Nat} (h:DI p ts s st c k) (hk:k≤l):DI p ts s st c l:=
 ⟨h.i.mono hk,h.sm,⟨h.cf.u,h.cf.d,h.cf.last,h.cf.ws,h.cf.ms,Xc h.cf.wl hk,Xc h.cf.ml hk⟩⟩
section
variable {p : Pd} {ts : List Tr} {rs : List Rd} {s : Lp} {st : Stb.St} {c : Stb.Cm} {k : Nat} {now hv WK : Int} {AK : Bool}
theorem look_same (h:DI p ts s st c k):Wat.lookN p s c now hv WK AK=lookP (noN p) s st now hv WK AK:=by
 unfold Wat.lookN lookP;split
 ·rfl
 ·rw [(h.sm.n h.i.fi now hv (askF p WK (lowF p hv now s.nd AK))).1];rfl
theorem di_look (h:DI p ts s st c k) (hP:PlOk (noN p) ts) (hn:s.la≤now∧now≤1099511627776) (hh:0≤hv∧hv≤50):DI p ts (nextL s ts rs now AK) (nextS (noN p) s st now hv WK AK) (Wat.nextC p s c now hv WK AK) (k+1):=by
 refine⟨h.i.look hP hn hh,?_,?_⟩
 ·unfold nextS Wat.nextC;split
  ·exact h.sm
  ·exact h.sm.step h.i.fi now hv _
 ·unfold Wat.nextC;split
  ·exact(h.mono (Xm _)).cf
  ·exact Stb.cfit_step h.sm h.i.fi h.cf now hv _
end
theorem due_same {p:Pd} {s:Lp} (h:1≤p.po) (now:Int):Wat.dueF p s now=dueP (noN p) s now:=by
 unfold Wat.dueF dueP;have e:(decide (s.la<now)&&decide (p.po≤now-s.la))=decide (s.la+(noN p).po≤now):=by
  have hq:(noN p).po=p.po:=rfl;rw [hq];by_cases h1:s.la+p.po≤now
  ·have h2:s.la<now:=by omega
   have h3:p.po≤now-s.la:=by omega
   simp [h1,h2,h3]
  ·by_cases h2:s.la<now
   ·have h3: ¬p.po≤now-s.la:=(by omega);simp [h1,h3]
   ·simp [h1,h2]
 rw [e]
