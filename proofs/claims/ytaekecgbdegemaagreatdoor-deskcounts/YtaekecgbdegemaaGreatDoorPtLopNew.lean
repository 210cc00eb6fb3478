/- A part. -/
import Derived.Test.YtaekecgbdegemaaGreatDoorPtLopAsk
import Derived.Test.YtaekecgbdegemaaGreatDoorPtStbNew
import Derived.Lib.SliceRun
import Derived.Test.YtaekecgbdegemaaGreatDoorPtFltWalks
import Derived.Test.YtaekecgbdegemaaGreatDoorPtBufMem
import Derived.Test.YtaekecgbdegemaaGreatDoorPtQueWalks
set_option linter.all false
open Go.Proofs.Tryz
set_option maxHeartbeats 32000000
set_option maxRecDepth 8000
namespace Go.Proofs.YtaekecgbdegemaaGreatDoor
namespace Lop
open Go.RowKit Rw Rec Plain Pln Frm Lpp Crn
variable {B g:Nat} {w:World} {p:Pd} {sl:Value}

theorem info_parts {P:Program} {t:TypeId} {z:Value} {a b:Nat} (h:(P.info? t).map (fun i=>(i.zero,i.size,i.bytes))=some (some z,a,b)): ∃i,P.info? t=some i∧i.zero=some z∧i.size=a∧i.bytes=b:=by
 cases hi:P.info? t with
 |none=>rw [hi]at h;cases h
 |some i=>
  rw [hi]at h;simp only [Option.map_some,Option.some.injEq,Prod.mk.injEq]at h;exact⟨i,rfl,h.1,h.2.1,h.2.2⟩
theorem info_trg:(prog.info? 171).map (fun i=>(i.zero,i.size,i.bytes))=some (some (.agg #[.int .i64 0,.int .i64 0,.int .i64 0,.int .u64 0,.int .u64 0,.int .u64 0,.int .u64 0,.int .u64 0,.bool false,.bool false,.int .u64 0,.int .u64 0,.int .u64 0,.int .u64 0,.int .u64 0,.bool false,.bool false]),17,120):=by kernel_rfl
theorem info_i:(prog.info? 3).map (fun i=>(i.zero,i.size,i.bytes))=some (some (.int .i64 0),1,8):=by kernel_rfl
def tK:Kd Tr:=⟨fun t=>(trC t).toList,17,fun _=>rfl,fun m u hu=>by simp at hu;rcases hu with rfl|rfl|rfl|rfl|rfl|rfl|rfl|rfl|rfl|rfl|rfl|rfl|rfl|rfl|rfl|rfl|rfl<;>rfl,by decide⟩
theorem tK_len (ts:List Tr):(cels tK.c ts).length=ts.length*17:=Rw.cels_len tK.len ts
theorem cels_at: ∀(ts:List Tr) (j:Nat) (u:Value),(cels tK.c ts)[j]? =some u→ ∃t,ts[j/17]? =some t∧(trC t)[j%17]? =some u
 | [],j,u,h=>by simp [cels]at h
 |t::ts,j,u,h=>by
  simp only [cels]at h
  have hl:(tK.c t).length=17:=tK.len t
  by_cases hj:j<17
  ·rw [XY (by omega)]at h
   refine⟨t,by rw [Nat.div_eq_of_lt hj];rfl,?_⟩
   rw [Nat.mod_eq_of_lt hj]
   simpa [tK]using h
  ·rw [Yh (by omega),hl]at h
   obtain⟨t',h1,h2⟩:=cels_at ts (j-17) u h
   have e1:j/17=(j-17)/17+1:=by omega
   have e2:j%17=(j-17)%17:=by omega
   rw [e1,e2]
   exact⟨t',by simpa using h1,h2⟩
def ClA (ts:List Tr) (w:World) (e:Ending) (w':World):Prop:=
 ∃tb tcb,e=.returned (.slice tb ts.length tcb)∧TrsAt w' tb ts∧(∀b off,0<ts.length→tb=some ⟨b,off,none⟩→w.heap.size≤b)∧Below w.heap.size w w'
theorem trs_nil (w:World) (a:Option Addr):TrsAt w a []:=fun i t h=>by simp at h
theorem tclone_any (ta:Option Addr) (ts:List Tr) (tc:Nat) (w:World) (hl:ts.length≤5) (hT:TrsAt w ta ts):
  Calls prog 138 #[.slice ta ts.length tc] w (ClA ts w):=by
 have q: ∀(w:World) (a:Option Addr) (n c n' c':Nat),(binOp .eql 109 (.slice a n c) (.slice none n' c')).run prog w=.ok (.bool a.isNone) w:=fun w a n c n' c'=>Lib.run_eql_slice_nil w _ _ a n c n' c' underlying109;obtain⟨i0,hi,hz0,hz1,hz2⟩:=info_parts info_trg;cases ta with
 |none=>
  have h0:ts=[]:=by
   cases ts with
   |nil=>rfl
   |cons t ts=>obtain⟨b,off,e,_⟩:=hT 0 t rfl;cases e
  subst h0;have HE:Hid (ClA [] w (.returned (.slice none 0 0)) w):=⟨none,0,rfl,trs_nil _ _,fun _ _ h=>by simp at h,Below.refl _ _⟩
  clear hT;go_enter func138,ntmps138;go_wp2;go_ret;exact HE.out
 |some ad=>
  have HX:Hid (∀j u,(cels tK.c ts)[j]? =some u→w.cell? (ad.add j)=some u):=by
   intro j u hj;obtain⟨t,h1,h2⟩:=cels_at ts j u hj;obtain⟨b,off,e1,_,e2⟩:=hT _ t h1;cases e1;have:=e2 (j%17) (Nat.mod_lt _ (by decide));rw [h2]at this;have e:off+(j/17*17+j%17)=off+j:=by omega
   rw [e]at this;rw [Addr.add_lit];exact this
  have HL:=zh hl;clear hT hl;go_enter func138,ntmps138;go_wp2_with(at_builtin;(refine wpList_append_own _ rfl _ _ 109 rfl w.heap.size 171 i0 (.agg #[.int .i64 0,.int .i64 0,.int .i64 0,.int .u64 0,.int .u64 0,.int .u64 0,.int .u64 0,.int .u64 0,.bool false,.bool false,.int .u64 0,.int .u64 0,.int .u64 0,.int .u64 0,.int .u64 0,.bool false,.bool false]) 17 120 underlying109 hi hz0 hz1 hz2 rfl (by decide) _ _ _ rfl (World.ownsRow_made w #[] 0 (Xa _) (Xx _) (by simp)) ad ts.length tc (cels tK.c ts) rfl ?qc1 ?qc2 ?qc3 ?qc4 ?qc5 ?qc6 ?_))
  case qc1=>exact tK_len ts
  case qc2=>exact fun j u hj=>Lib.cell?_alloc_some _ (HX.out j u hj)
  case qc3=>exact cels_one tK ts
  case qc4=>have:=HL.out;unfold maxLen;omega
  case qc5=>have:=HL.out;omega
  case qc6=>simp
  intro v' w1 hown hgrow hnil;have ho:w1.ownsRow w.heap.size 171 17 v' ts.length (cels tK.c ts):=by simpa using hown
  have hb:Below w.heap.size w w1:=((Below.refl _ w).alloc (Xa _) _).grown hgrow (by simp) (by intro k hk;simp [Value.ownBlock]at hk;omega);have HE:Hid (ClA ts w (.returned v') w1):=by
   rcases ho.2 with⟨h1,h2⟩|⟨b,c,cur,rfl,_⟩
   ·have:ts=[]:=Yy.1 h2;subst this;exact⟨none,0,by rw [h1];rfl,trs_nil _ _,fun _ _ h=>by simp at h,hb⟩
   ·refine⟨some ⟨b,0,none⟩,c,rfl,fun i t hi=>⟨b,0,rfl,(ho.lt b rfl).2,fun j hj=> ?_⟩,fun b' off' _ e=>by cases e;exact(ho.lt b rfl).1,hb⟩;have hlt:i<ts.length:=(Xe.1 hi).1;rw [Xv,ho.cellAt (i*17+j) (by omega)];have:=Rw.cels_get tK.len ts i j t hi hj;rw [show tK.s=17 from rfl]at this;rw [this];simp [tK]
  clear ho hown hgrow hnil hb;go_wp2;go_ret;exact HE.out
theorem made_run (w:World) (n:Nat) (h:n≤5):(Instr.makeSlice 58 (.int .i64 (n:Int)) (.int .i64 (n:Int))).run prog w=.ok (.slice (some ⟨w.heap.size,0,none⟩) n n) (w.alloc (.cells (madeCells #[.int .i64 0] n) 3)):=by
 obtain⟨i,hi,hz0,hz1,hz2⟩:=info_parts info_i;have hr:=run_make (P:=prog) w 58 3 i _ underlying58 hi hz0 .i64 .i64 (n:Int) (n:Int) (by omega) (Xu _) (by rw [hz2];omega) (by omega);simpa [hz1,Value.cells]using hr
theorem cels_zero (n:Nat):cels iK.c (List.replicate n 0)=List.replicate n (.int .i64 0):=by
 induction n with
 |zero=>rfl
 |succ n ih=>simp only [List.replicate_succ,cels,ih];rfl
theorem made_list (n:Nat):(madeCells #[.int .i64 0] n).toList=List.replicate n (.int .i64 0):=by
 apply Yo;intro j;by_cases hj:j<n
 ·simp [madeCells,hj,Nat.mod_one]
 ·simp [madeCells,hj]
theorem own_made {W:World} {n:Nat} (hB:B≤g) (hn:n≤5) (h:W.heap[g]? =some (.cells (madeCells #[.int .i64 0] n) 3 (0,0))):W.ownsRow B 3 iK.s (.slice (some ⟨g,0,none⟩) n n) (List.replicate n (0:Int)).length (cels iK.c (List.replicate n 0)):=by
 have hl:=made_list n;have hz:(madeCells #[Value.int .i64 0] n).size=n:=by rw [←Array.length_toList,hl];simp
 rw [cels_zero,List.length_replicate];refine⟨by simp [iK],Or.inr ⟨g,n,_,rfl,hB,h,Xa _,by unfold maxLen;omega,by rw [hz];simp [iK],?_⟩⟩;rw [hl];simp [iK]
theorem heapN (W:World) (o:Obj):(W.alloc o).heap[W.heap.size]? =some o:=by show(W.heap.push o)[W.heap.size]? =some o;simp
def newL (n:Nat):Lp:=⟨List.replicate n 0,false,0,0,-1⟩
def noN (p:Pd):Pd:=⟨[],p.mn,p.mx,p.po,p.co,p.tl,p.bk,p.af,p.sh,p.uw,p.up,p.uc,p.ue,p.dw,p.dp,p.dc,p.de⟩
def nU (p:Pd):Stb.Pc:=⟨p.uw,p.up,p.uc,p.ue⟩
def nD (p:Pd):Stb.Pc:=⟨p.dw,p.dp,p.dc,p.de⟩
def newA (p:Pd) (sl vF:Value):Array Value:=(pC (noN p) sl++(Stb.newC (nU p) (nD p)).toList++ [vF,.bool false,.int .i64 0,.int .i64 0,.bool false,.int .i64 0]).toArray
theorem lop_new {w9:World} {tb:Option Addr} {tcb:Nat} {ts:List Tr} {A:Array Value} {e:TypeId} (hl:ts.length≤5) (hT:TrsAt w9 tb ts) (hb9:Below w.heap.size w w9)
  (hg:w9.heap[g]? =some (.cells (madeCells #[.int .i64 0] ts.length) 3 (0,0))) (hgB:w.heap.size≤g) (hgT: ∀b off,0<ts.length→tb=some ⟨b,off,none⟩→b≠g) (hA:A=newA p (.slice tb ts.length tcb) (.slice (some ⟨g,0,none⟩) ts.length ts.length)):
  LAtO 0 (w9.alloc (.cells A e)) w.heap.size ⟨w9.heap.size,.slice (some ⟨g,0,none⟩) ts.length ts.length,Stb.nilV,fun j=>(w9.alloc (.cells A e)).cell? ⟨w9.heap.size,j,none⟩⟩ (noN p) tb tcb ts (newL ts.length) (Stb.new (nU p) (nD p)):=by
 have hbA:Below w9.heap.size w9 (w9.alloc (.cells A e)):=(Below.refl _ _).alloc (Xa _) _;have hgl:g<w9.heap.size:=(XM.1 hg).1;have hc: ∀j v,A[j]? =some v→(w9.alloc (.cells A e)).cell? ⟨w9.heap.size,j,none⟩=some v:=fun j v h=>by simpa using h
 subst hA;have hnb: ∀k,Stb.blk w9.heap.size Stb.nilV k→k=w9.heap.size:=fun k h=>by
  rcases h with h|⟨i,_,h⟩
  ·exact h
  ·simp [Stb.nilV,Value.ownBlock]at h
 refine⟨fun j u hu=>(congrArg (fun k=>(w9.alloc (.cells (newA p (.slice tb ts.length tcb) (.slice (some ⟨g,0,none⟩) ts.length ts.length)) e)).cell? ⟨w9.heap.size,k,none⟩) (Xv j)).trans (hc j u ?_),hc _ _ rfl,hc _ _ rfl,hc _ _ rfl,hc _ _ rfl,hc _ _ rfl,⟨0,hc _ _ rfl,fun h=>by simp [newL]at h⟩,(own_made hgB hl hg).alloc _,⟨by simp,hb9.size,fun j=>by simp,fun j hj=>hc _ _ ?_,fun i hi=>hc _ _ ?_,fun i hi=> ?_,fun i _=>by simp [Stb.nilV,Value.ownBlock],fun i j _ _ _ g h=>by simp [Stb.nilV,Value.ownBlock]at h⟩,fun x hx h=> ?_,hT.below hbA (Xa _),fun b off hp ht h=> ?_,fun _ _=>rfl⟩
 ·have hj:j<(pC (noN p) (.slice tb ts.length tcb)).length:=(Xe.1 hu).1;unfold newA;rw [List.getElem?_toArray,X4,XY hj];exact hu
 ·rcases hj with hj|rfl|rfl
  ·rcases(by omega:j=0∨j=1∨j=2∨j=3∨j=4∨j=5∨j=6∨j=7∨j=8)with rfl|rfl|rfl|rfl|rfl|rfl|rfl|rfl|rfl<;>rfl
  ·rfl
  ·rfl
 ·rcases(by omega:i=0∨i=1∨i=2∨i=3)with rfl|rfl|rfl|rfl<;>rfl
 ·have:Stb.rws (Stb.new (nU p) (nD p)) i=[]:=by rcases(by omega:i=0∨i=1∨i=2∨i=3)with rfl|rfl|rfl|rfl<;>rfl
  rw [this];exact Own.nil _ _ _ _
 ·have:=hnb x h;simp [Value.ownBlock]at hx;omega
 ·obtain⟨t,h0⟩: ∃t,ts[0]? =some t:=⟨ts[0],by simp⟩
  obtain⟨b',off',e',hlt,_⟩:=hT 0 t h0;rw [ht]at e';cases e';rcases h with h|h
  ·simp [Value.ownBlock]at h;exact hgT b off hp ht h.symm
  ·have:=hnb b h;omega
theorem plan_new (w:World) (p:Pd) (sl:Value) (ta:TypeId):PlAt (w.alloc (.cells (planC p sl) ta)) w.heap.size p sl:=by
 constructor<;>simp
theorem plan_drew (h:PlAt w B p sl):PlAt w.drew B p sl:=⟨h.c0,h.c1,h.c2,h.c3,h.c4,h.c5,h.c6,h.c7,h.c8,h.c9,h.c10,h.c11,h.c12,h.c13,h.c14,h.c15,h.c16,h.c17⟩
theorem plan_name (h:PlAt w B p sl):PlAt (w.setCell ⟨B,0,none⟩ (.string ⟨#[]⟩)) B (noN p) sl:=by
 have e: ∀i,i≠0→(w.setCell ⟨B,0,none⟩ (.string ⟨#[]⟩)).cell? ⟨B,i,none⟩=w.cell? ⟨B,i,none⟩:=fun i hi=>by
  rw [Xd (h:=fun e=>hi (congrArg Addr.off e).symm)]
 exact⟨Xn _ _ _ h.c0,(e _ (by decide)).trans h.c1,(e _ (by decide)).trans h.c2,(e _ (by decide)).trans h.c3,(e _ (by decide)).trans h.c4,(e _ (by decide)).trans h.c5,(e _ (by decide)).trans h.c6,(e _ (by decide)).trans h.c7,(e _ (by decide)).trans h.c8,(e _ (by decide)).trans h.c9,(e _ (by decide)).trans h.c10,(e _ (by decide)).trans h.c11,(e _ (by decide)).trans h.c12,(e _ (by decide)).trans h.c13,(e _ (by decide)).trans h.c14,(e _ (by decide)).trans h.c15,(e _ (by decide)).trans h.c16,(e _ (by decide)).trans h.c17⟩
theorem plan_trs {sl':Value} (h:PlAt w B p sl):PlAt (w.setCell ⟨B,17,none⟩ sl') B p sl':=by
 have e: ∀i,i≠17→(w.setCell ⟨B,17,none⟩ sl').cell? ⟨B,i,none⟩=w.cell? ⟨B,i,none⟩:=fun i hi=>by
  rw [Xd (h:=fun e=>hi (congrArg Addr.off e).symm)]
 exact⟨(e _ (by decide)).trans h.c0,(e _ (by decide)).trans h.c1,(e _ (by decide)).trans h.c2,(e _ (by decide)).trans h.c3,(e _ (by decide)).trans h.c4,(e _ (by decide)).trans h.c5,(e _ (by decide)).trans h.c6,(e _ (by decide)).trans h.c7,(e _ (by decide)).trans h.c8,(e _ (by decide)).trans h.c9,(e _ (by decide)).trans h.c10,(e _ (by decide)).trans h.c11,(e _ (by decide)).trans h.c12,(e _ (by decide)).trans h.c13,(e _ (by decide)).trans h.c14,(e _ (by decide)).trans h.c15,(e _ (by decide)).trans h.c16,Xn _ _ _ h.c17⟩
theorem range_st {Q:Nat} {u d:Stb.Pc} (h:Stb.SAt w B Q 0 Stb.nilV (Stb.new u d)):w.rangeAt Q 0 (Stb.newC u d).toList:=by
 have hn: ∀j,Stb.isNum j→w.cell? ⟨Q,j,none⟩=some (.int .i64 (Stb.num (Stb.new u d) j)):=fun j hj=>by have:=h.num j hj;rwa [Xv]at this
 have hr: ∀i,i<4→w.cell? ⟨Q,Stb.pos i,none⟩=some (Stb.nilV i):=fun i hi=>by have:=h.row i hi;rwa [Xv]at this
 intro j v hv;rw [Xv];match j,hv with
 |0,hv=>cases hv;exact hn 0 (Or.inl (by decide))
 |1,hv=>cases hv;exact hn 1 (Or.inl (by decide))
 |2,hv=>cases hv;exact hn 2 (Or.inl (by decide))
 |3,hv=>cases hv;exact hn 3 (Or.inl (by decide))
 |4,hv=>cases hv;exact hn 4 (Or.inl (by decide))
 |5,hv=>cases hv;exact hn 5 (Or.inl (by decide))
 |6,hv=>cases hv;exact hn 6 (Or.inl (by decide))
 |7,hv=>cases hv;exact hn 7 (Or.inl (by decide))
 |8,hv=>cases hv;exact hn 8 (Or.inl (by decide))
 |9,hv=>cases hv;exact hr 0 (by decide)
 |10,hv=>cases hv;exact hr 1 (by decide)
 |11,hv=>cases hv;exact hr 2 (by decide)
 |12,hv=>cases hv;exact hn 12 (Or.inr (Or.inl rfl))
 |13,hv=>cases hv;exact hr 3 (by decide)
 |14,hv=>cases hv;exact hn 14 (Or.inr (Or.inr rfl))
 |j+15,hv=>simp [Stb.newC]at hv
theorem lnew_no (p:Pd) (ta:Option Addr) (tc:Nat) (ts:List Tr) (w:World) (hB:Lai.BdsAt w) (hi:PdI p) (hl:p.nm.length≤9223372036854775807) (hT:TrsAt w ta ts) (hc:chkP p ts≠0):
  CB 95 #[planV p (.slice ta ts.length tc)] w (.tuple #[.pointer none,.int .i64 (chkP p ts)]):=by
 obtain⟨W,hW⟩: ∃W,W=w.alloc (.cells (planC p (.slice ta ts.length tc)) 111):=⟨_,rfl⟩
 have hPl:PlAt W w.heap.size p (.slice ta ts.length tc):=by rw [hW];exact plan_new _ _ _ _
 have hbW:Below w.heap.size w W:=by rw [hW];exact(Below.refl _ _).alloc (Xa _) _
 have HW:=zh hW;have cC:=check_any p ts ta tc W (hB.below hbW (Xa _)) hi hl (hT.below hbW (Xa _));have HB:=zh hbW;have dne:(chkP p ts !=0)=true:=by rw [bne_iff_ne];exact hc
 clear hW hbW hT hB hi hc;generalize chkP p ts=E at*;go_enter func95,ntmps95;go_upto_region 1 with fail
 rw [←HW.out];clear HW
 go_wp2_with (first
  |(with_reducible refine wp_plan hPl (by with_unfolding_all rfl) ?_)
  |(go_at_call 92;(with_reducible refine zg cC fun w1 hb1=>?_)))
 go_ret2;exact⟨rfl,(zu HB.out hb1)⟩
def NewA (p:Pd) (ts:List Tr) (w:World) (e:Ending) (w':World):Prop:=
 ∃D vF R tb tcb,e=.returned (.tuple #[.pointer (some ⟨D,0,none⟩),.int .i64 0])∧LAtO 0 w' w.heap.size ⟨D,vF,Stb.nilV,R⟩ (noN p) tb tcb ts (newL ts.length) (Stb.new (nU p) (nD p))∧Below w.heap.size w w'∧ ∀b off,0<ts.length→tb=some ⟨b,off,none⟩→w.heap.size≤b
theorem lnew_yes (p:Pd) (ta:Option Addr) (tc:Nat) (ts:List Tr) (w:World) (hB:Lai.BdsAt w) (hi:PdI p) (hl:p.nm.length≤9223372036854775807) (hT:TrsAt w ta ts) (hc:chkP p ts=0):
  Calls prog 95 #[planV p (.slice ta ts.length tc)] w (NewA p ts w):=by
 have hl5:=(plOk_of hc).len;obtain⟨W,hW⟩: ∃W,W=w.alloc (.cells (planC p (.slice ta ts.length tc)) 111):=⟨_,rfl⟩
 have hPl:PlAt W w.heap.size p (.slice ta ts.length tc):=by rw [hW];exact plan_new _ _ _ _
 have hbW:Below w.heap.size w W:=by rw [hW];exact(Below.refl _ _).alloc (Xa _) _
 have hzW:w.heap.size<W.heap.size:=by rw [hW];simp
 have hfz: ∀j,W.frozen? ⟨w.heap.size,j,none⟩=false:=fun j=>by rw [hW];exact frozN rfl
 have HW:=zh hW;have cC:=check_any p ts ta tc W (hB.below hbW (Xa _)) hi hl (hT.below hbW (Xa _));rw [hc]at cC;have HB:=zh hbW;have HT:=zh hT;clear hW hbW hT hB hi hc;go_enter func95,ntmps95;go_upto_region 1 with fail
 rw [←HW.out];clear HW
 go_upto_region 4 with (first
  |(with_reducible refine wp_plan hPl (by with_unfolding_all rfl) ?_)
  |(go_at_call 92;(with_reducible refine zg cC fun w1 hb1=>?_)))
 have hP1:=hPl.on hb1 hzW;have hB1:Below w.heap.size w w1:=(zu HB.out hb1)
 have hf1: ∀j,w1.frozen? ⟨w.heap.size,j,none⟩=false:=fun j=>(hb1.frozen (p:=⟨w.heap.size,j,none⟩) hzW).trans (hfz j);have hz1:w.heap.size<w1.heap.size:=Xb hzW hb1.size;clear hPl cC HB hfz hb1 hzW;have hP2:=plan_name hP1;have a0:=hP1.c0;have f0:=hf1 0;have hB2:Below w.heap.size w (w1.setCell ⟨w.heap.size,0,none⟩ (.string ⟨#[]⟩)):=hB1.setCell (p:=⟨w.heap.size,0,none⟩) (Xa _) _;have hf2: ∀j,(w1.setCell ⟨w.heap.size,0,none⟩ (.string ⟨#[]⟩)).frozen? ⟨w.heap.size,j,none⟩=false:=fun j=>by rw [Xi];exact hf1 j
 have hz2:w.heap.size<(w1.setCell ⟨w.heap.size,0,none⟩ (.string ⟨#[]⟩)).heap.size:=by simpa using hz1
 go_upto_region 5 with fail
 generalize w1.setCell ⟨w.heap.size,0,none⟩ (.string ⟨#[]⟩)=W2 at*;clear a0 f0 hP1 hB1 hf1 hz1;have a17:=hP2.c17;have f17:=hf2 17;have cL:=tclone_any ta ts tc W2 hl5 (HT.out.below hB2 (Xa _));have HP2:=zh hP2;have HB2:=zh hB2;clear hP2 hB2 hf2 HT;go_upto_region 6 with(go_at_call 138;(with_reducible refine cL.mono ?_);rintro e w3 ⟨tb,tcb,rfl,hT3,hg3,hb3⟩;have b17:=(zk a17 hb3);have g17:=(hb3.frozen (p:=⟨w.heap.size,17,none⟩) hz2).trans f17)
 clear a17 f17 cL;have hP4:=plan_trs (sl':=.slice tb ts.length tcb) (HP2.out.on hb3 hz2);have hB4:Below w.heap.size w (w3.setCell ⟨w.heap.size,17,none⟩ (.slice tb ts.length tcb)):=(zu HB2.out hb3).setCell (p:=⟨w.heap.size,17,none⟩) (Xa _) _;have hz4:w.heap.size<(w3.setCell ⟨w.heap.size,17,none⟩ (.slice tb ts.length tcb)).heap.size:=by have:=hb3.size;simp;omega
 have hg4: ∀b off,0<ts.length→tb=some ⟨b,off,none⟩→w.heap.size<b∧b<w3.heap.size:=fun b off hp e=>by
  refine⟨by have:=hg3 b off hp e;omega,?_⟩;obtain⟨t,h0⟩: ∃t,ts[0]? =some t:=⟨ts[0],by simp⟩
  obtain⟨b',off',e',hlt,_⟩:=hT3 0 t h0;rw [e]at e';cases e';exact hlt
 have hT4:TrsAt (w3.setCell ⟨w.heap.size,17,none⟩ (.slice tb ts.length tcb)) tb ts:=trs_kept hT3 (fun b off hp e=>Below.heap_setCell _ _ _ b (by have:=(hg4 b off hp e).1;simp only;omega)) (by simp);have HG4:Hid (∀b off,0<ts.length→tb=some ⟨b,off,none⟩→w.heap.size≤b∧b<(w3.setCell ⟨w.heap.size,17,none⟩ (.slice tb ts.length tcb)).heap.size):=fun b off hp e=>⟨Xw (hg4 b off hp e).1,by have:=(hg4 b off hp e).2;simpa using this⟩
 clear hg4 hg3 hT3 hb3 b17 g17 HP2 HB2 hz2;(try simp only [Act.put]);generalize w3.setCell ⟨w.heap.size,17,none⟩ (.slice tb ts.length tcb)=W4 at*;have hmk:=fun W=>made_run W ts.length hl5;have cN:=fun W=>Stb.new_any (nU (noN p)) (nD (noN p)) W;simp only [Stb.pcV,nU,nD]at cN;refine wp_region_held_drew (S:=fun w'=>PlAt w' w.heap.size (noN p) (.slice tb ts.length tcb)) (by kernel_rfl) (plan_drew hP4) (fun hHeld=> ?_);refine Tk.gi 1 ?_;(try simp only [Act.put,ar,ag]);refine wpAnyH_take (i:=2) (oi:=_) (v:= ?_) rfl (by kernel_rfl) (by kernel_rfl) (by kernel_rfl) (fun _ _ _ h=>h) (Or.inl ⟨by rfl,?_⟩) (by assumption) ?_;rotate_left
 ·intro w' hSw;(try dsimp only at hSw);have a9:=hSw.c9;have a10:=hSw.c10;have a11:=hSw.c11;have a12:=hSw.c12;go_simp;all_goals with_reducible rfl
 (try simp only [Act.put,ar,ag]);refine Tk.gi 3 ?_;(try simp only [Act.put,ar,ag]);refine wpAnyH_take (i:=4) (oi:=_) (v:= ?_) rfl (by kernel_rfl) (by kernel_rfl) (by kernel_rfl) (fun _ _ _ h=>h) (Or.inl ⟨by rfl,?_⟩) (by assumption) ?_;rotate_left
 ·intro w' hSw;(try dsimp only at hSw);have a13:=hSw.c13;have a14:=hSw.c14;have a15:=hSw.c15;have a16:=hSw.c16;go_simp;all_goals with_reducible rfl
 (try simp only [Act.put,ar,ag]);refine Tk.gi 8 ?_;(try simp only [Act.put,ar,ag]);refine wpAnyH_take (i:=9) (oi:=_) (v:= ?_) rfl (by kernel_rfl) (by kernel_rfl) (by kernel_rfl) (fun _ _ _ h=>h) (Or.inl ⟨by rfl,?_⟩) (by assumption) ?_;rotate_left
 ·intro w' hSw;(try dsimp only at hSw);have a17:=hSw.c17;go_simp;all_goals with_reducible rfl
 (try simp only [Act.put,ar,ag]);refine Tk.gi 10 ?_;(try simp only [Act.put,ar,ag]);refine Tk.gi 0 (v:=planV (noN p) (.slice tb ts.length tcb)) ?_ (hy:=yieldsIf_load_mid (by rfl) 111 (.tmp 1) rfl w.heap.size 0 (by with_unfolding_all rfl) [.string ⟨(noN p).nm.toArray⟩,.int .i64 p.mn,.int .i64 p.mx,.int .i64 p.po,.int .i64 p.co,.int .i64 p.tl,.int .i64 p.bk,.int .i64 p.af,.int .i64 p.sh,.int .i64 p.uw,.int .i64 p.up,.int .i64 p.uc,.int .i64 p.ue,.int .i64 p.dw,.int .i64 p.dp,.int .i64 p.dc,.int .i64 p.de,.slice tb ts.length tcb] _ (fun W h=>range_plan h) underlying111 rfl (by kernel_rfl));(try simp only [Act.put,ar,ag]);refine wpAnyH_ready (rs:=[5,11]) (by kernel_rfl) (by simp) ?_;refine AllReadyH.cons rfl (fun K hK=> ?_) (AllReadyH.cons rfl (fun K hK=> ?_) AllReadyH.nil)
 ·go_simp;go_wp2_with(go_at_call 139;(with_reducible refine(cN _).mono ?_);rintro e w8 ⟨S8,rfl,hS8,hb8⟩;have s8:=(plan_drew hP4).on hb8 hz4)
  refine hK.out _ _ s8 (fun hHeld=> ?_);clear hK K;refine Tk.gi 6 ?_;(try simp only [Act.put,ar,ag]);have hz8:w.heap.size<w8.heap.size:=Xb hz4 hb8.size;have hb9:Below w.heap.size w (w8.alloc (.cells (madeCells #[.int .i64 0] ts.length) 3)):=((hB4.drew).trans (hb8.mono hB4.size)).alloc (Xc hB4.size hb8.size) _;have s9:=s8.on ((Below.refl w8.heap.size w8).alloc (Xa _) (.cells (madeCells #[.int .i64 0] ts.length) 3)) hz8;have HN:Hid (∀A e,A=newA p (.slice tb ts.length tcb) (.slice (some ⟨w8.heap.size,0,none⟩) ts.length ts.length)→NewA p ts w (.returned (.tuple #[.pointer (some ⟨w8.heap.size+1,0,none⟩),.int .i64 0])) ((w8.alloc (.cells (madeCells #[.int .i64 0] ts.length) 3)).alloc (.cells A e))):=fun A e hA=>by
   have hT8:TrsAt w8 tb ts:=(show TrsAt W4.drew tb ts from hT4).below hb8 (Xa _);have h9:=lop_new (e:=e) hl5 (hT8.below ((Below.refl w8.heap.size w8).alloc (Xa _) _) (Xa _)) hb9 (heapN _ _) (Xw hz8) (fun b off hp e=>by have h1:=(HG4.out b off hp e).2;have h2:W4.heap.size≤w8.heap.size:=hb8.size;omega) hA;have hz9:(w8.alloc (.cells (madeCells #[.int .i64 0] ts.length) 3)).heap.size=w8.heap.size+1:=by simp
   rw [hz9]at h9;exact⟨_,_,_,tb,tcb,rfl,h9,hb9.alloc hb9.size _,fun b off hp e=>(HG4.out b off hp e).1⟩
  refine wpAnyH_ready (rs:=[7,11]) (by kernel_rfl) (by simp) ?_;refine AllReadyH.cons rfl (fun K hK=> ?_) (AllReadyH.cons rfl (fun K hK=> ?_) AllReadyH.nil)
  ·rw [if_pos (by rfl)];refine wp_load_mid 185 (.tmp 21) rfl S8 0 (by with_unfolding_all rfl) [.int .i64 (Stb.cl p.uw),.int .i64 (Stb.cl p.up),.int .i64 (Stb.cl p.uc),.int .i64 (Stb.cl p.ue),.int .i64 (Stb.cl p.dw),.int .i64 (Stb.cl p.dp),.int .i64 (Stb.cl p.dc),.int .i64 (Stb.cl p.de),.int .i64 0,.slice none 0 0,.slice none 0 0,.slice none 0 0,.int .i64 0,.slice none 0 0,.int .i64 0] _ (range_st (u:=nU p) (d:=nD p) hS8) underlying185 rfl (by kernel_rfl) ?_;refine hK.out _ _ s8 (fun hHeld=> ?_);clear hK K;(try simp only [Act.put,ar,ag]);refine Tk.r1 11 fun K hK=> ?_;go_simp;refine hK.out _ _ s9 (fun hHeld=> ?_);clear hK K;refine Tk.gi 12 ?_;(try simp only [Act.put,ar,ag]);refine Tk.r1 13 fun K hK=> ?_;go_simp;refine hK.out _ _ (s9.on ((Below.refl _ _).alloc (Xa _) _) (Xb hz8 (by simp))) (fun hHeld=> ?_);clear hK K;refine Tk.gi 14 ?_;(try simp only [Act.put,ar,ag]);refine Tk.gi 15 ?_;(try simp only [Act.put,ar,ag]);refine wpAnyH_done (by kernel_rfl) ?_ _;(try go_wp2);go_ret2;exact HN.out _ _ rfl
  ·go_simp;refine hK.out _ _ s9 (fun hHeld=> ?_);clear hK K;refine Tk.r1 7 fun K hK=> ?_;rw [if_pos (by rfl)];refine wp_load_mid 185 (.tmp 21) rfl S8 0 (by with_unfolding_all rfl) [.int .i64 (Stb.cl p.uw),.int .i64 (Stb.cl p.up),.int .i64 (Stb.cl p.uc),.int .i64 (Stb.cl p.ue),.int .i64 (Stb.cl p.dw),.int .i64 (Stb.cl p.dp),.int .i64 (Stb.cl p.dc),.int .i64 (Stb.cl p.de),.int .i64 0,.slice none 0 0,.slice none 0 0,.slice none 0 0,.int .i64 0,.slice none 0 0,.int .i64 0] _ (range_st (u:=nU p) (d:=nD p) (hS8.alloc _)) underlying185 rfl (by kernel_rfl) ?_;refine hK.out _ _ s9 (fun hHeld=> ?_);clear hK K;(try simp only [Act.put,ar,ag]);refine Tk.gi 12 ?_;(try simp only [Act.put,ar,ag]);refine Tk.r1 13 fun K hK=> ?_;go_simp;refine hK.out _ _ (s9.on ((Below.refl _ _).alloc (Xa _) _) (Xb hz8 (by simp))) (fun hHeld=> ?_);clear hK K;refine Tk.gi 14 ?_;(try simp only [Act.put,ar,ag]);refine Tk.gi 15 ?_;(try simp only [Act.put,ar,ag]);refine wpAnyH_done (by kernel_rfl) ?_ _;(try go_wp2);go_ret2;exact HN.out _ _ rfl
 ·go_simp;have hbD:Below W4.heap.size W4 (W4.alloc (.cells (madeCells #[.int .i64 0] ts.length) 3)).drew:=((Below.refl _ _).alloc (Xa _) _).drew;have sD:=hP4.on hbD hz4;refine hK.out _ _ sD (fun hHeld=> ?_);clear hK K;refine Tk.r1 5 fun K hK=> ?_;go_simp;go_wp2_with(go_at_call 139;(with_reducible refine(cN _).mono ?_);rintro e w8 ⟨S8,rfl,hS8,hb8⟩;have s8:=sD.on hb8 (Xb hz4 hbD.size))
  refine hK.out _ _ s8 (fun hHeld=> ?_);clear hK K;have hz8:w.heap.size<w8.heap.size:=Xb (Xb hz4 hbD.size) hb8.size;have hb9:Below w.heap.size w w8:=(zu hB4 hbD).trans (hb8.mono (Xc hB4.size hbD.size));have HN:Hid (∀A e,A=newA p (.slice tb ts.length tcb) (.slice (some ⟨W4.heap.size,0,none⟩) ts.length ts.length)→NewA p ts w (.returned (.tuple #[.pointer (some ⟨w8.heap.size,0,none⟩),.int .i64 0])) (w8.alloc (.cells A e))):=fun A e hA=>by
   have hT8:TrsAt w8 tb ts:=(hT4.below hbD (Xa _)).below hb8 (Xa _);have hg8:w8.heap[W4.heap.size]? =some (.cells (madeCells #[.int .i64 0] ts.length) 3 (0,0)):=(hb8.block W4.heap.size (by simp)).trans (heapN _ _);have h9:=lop_new (e:=e) hl5 hT8 hb9 hg8 (Xw hz4) (fun b off hp e=>by have h1:=(HG4.out b off hp e).2;omega) hA;exact⟨_,_,_,tb,tcb,rfl,h9,hb9.alloc hb9.size _,fun b off hp e=>(HG4.out b off hp e).1⟩
  refine Tk.gi 6 ?_;(try simp only [Act.put,ar,ag]);refine Tk.r1 7 fun K hK=> ?_;rw [if_pos (by rfl)];refine wp_load_mid 185 (.tmp 21) rfl S8 0 (by with_unfolding_all rfl) [.int .i64 (Stb.cl p.uw),.int .i64 (Stb.cl p.up),.int .i64 (Stb.cl p.uc),.int .i64 (Stb.cl p.ue),.int .i64 (Stb.cl p.dw),.int .i64 (Stb.cl p.dp),.int .i64 (Stb.cl p.dc),.int .i64 (Stb.cl p.de),.int .i64 0,.slice none 0 0,.slice none 0 0,.slice none 0 0,.int .i64 0,.slice none 0 0,.int .i64 0] _ (range_st (u:=nU p) (d:=nD p) hS8) underlying185 rfl (by kernel_rfl) ?_;refine hK.out _ _ s8 (fun hHeld=> ?_);clear hK K;(try simp only [Act.put,ar,ag]);refine Tk.gi 12 ?_;(try simp only [Act.put,ar,ag]);refine Tk.r1 13 fun K hK=> ?_;go_simp;refine hK.out _ _ (s8.on ((Below.refl _ _).alloc (Xa _) _) hz8) (fun hHeld=> ?_);clear hK K;refine Tk.gi 14 ?_;(try simp only [Act.put,ar,ag]);refine Tk.gi 15 ?_;(try simp only [Act.put,ar,ag]);refine wpAnyH_done (by kernel_rfl) ?_ _;(try go_wp2);go_ret2;exact HN.out _ _ rfl
end Lop
namespace Lop
open Plain Pln Frm Lpp

structure LI (ts:List Tr) (s:Lp) (st:Stb.St) (k:Nat):Prop where
 fl:s.fs.length=ts.length
 fo:FsOk s.fs k
 la:0≤s.la∧s.la≤1099511627776
 nd:0≤s.nd∧s.nd≤1099511627776
 fi:Stb.Fit st (2*k)
 ls:st.last≤s.la
theorem LI.new (ts:List Tr) (u d:Stb.Pc):LI ts (newL ts.length) (Stb.new u d) 0:=
 ⟨by simp [newL],fun f hf=>by simp [newL]at hf;omega,by simp [newL],by simp [newL],Stb.new_fit u d,by simp [Stb.new,newL]⟩
theorem LI.pause {ts:List Tr} {s:Lp} {st:Stb.St} {k:Nat} (h:LI ts s st k) (n:Int):LI ts ⟨s.fs,s.lk,s.la,s.nd,n⟩ st k:=⟨h.fl,h.fo,h.la,h.nd,h.fi,h.ls⟩
theorem LI.mono {ts:List Tr} {s:Lp} {st:Stb.St} {k l:Nat} (h:LI ts s st k) (hk:k≤l):LI ts s st l:=
 ⟨h.fl,fun f hf=>by have:=h.fo f hf;omega,h.la,h.nd,h.fi.mono (by omega),h.ls⟩
theorem LI.big {ts:List Tr} {s:Lp} {st:Stb.St} {k:Nat} (h:LI ts s st k) (hk:k≤1000000):FsOk s.fs 1000000:=fun f hf=>by have:=h.fo f hf;omega
theorem ok_noN {p:Pd} {ts:List Tr} (h:PlOk p ts):PlOk (noN p) ts:=⟨h.mn,h.mx,h.po,h.co,h.tl,h.bk,h.af,h.sh,h.len,h.tr⟩
section
variable {p : Pd} {ts : List Tr} {rs : List Rd} {s : Lp} {st : Stb.St} {k : Nat} {now hv WK : Int} {AK : Bool} {H : List Stb.Mo}
theorem low_bd (hP:PlOk p ts) (hv now nd:Int) (need:Bool):0≤lowF p hv now nd need∧p.mn≤lowF p hv now nd need∧lowF p hv now nd need≤p.mx:=by
 have h1:=hP.mn;have h2:=hP.mx;unfold lowF;split
 ·omega
 ·split<;>omega
theorem ok_set (h:LI ts s st k) (hP:PlOk p ts) (hn:s.la≤now∧now≤1099511627776) (hh:0≤hv∧hv≤50):Stb.okArg st.last now hv (askF p WK (lowF p hv now s.nd AK))=true:=by
 have h1:=h.ls;have h2:=low_bd hP hv now s.nd AK;have h3:=hP.mx;rw [Stb.okArg_iff];generalize lowF p hv now s.nd AK=L at*;refine⟨by omega,hn.2,hh.1,hh.2,?_,?_⟩<;>unfold askF<;>omega
theorem LI.look (h:LI ts s st k) (hP:PlOk p ts) (hn:s.la≤now∧now≤1099511627776) (hh:0≤hv∧hv≤50):LI ts (nextL s ts rs now AK) (nextS p s st now hv WK AK) (k+1):=by
 have hl:=h.la;have hd:=h.nd;have ho:=ok_set (WK:=WK) (AK:=AK) h hP hn hh;refine⟨?_,?_,⟨show 0≤now by omega,hn.2⟩,?_,?_,?_⟩
 ·show(fsK ts rs s.fs ts.length).length=_;rw [fsK_len,h.fl]
 ·have:=fsK_ok (ts:=ts) (rs:=rs) (k:=ts.length) h.fo;intro f hf;have:=this f hf;omega
 ·unfold nextL;split
  ·exact⟨show 0≤now by omega,hn.2⟩
  ·exact hd
 ·unfold nextS;split
  ·exact h.fi.mono (by omega)
  ·exact h.fi.setS now hv _
 ·show(nextS p s st now hv WK AK).last≤now;unfold nextS;split
  ·have:=h.ls;omega
  ·rw [Stb.setS_last ho];exact Xu _
theorem look_bds (hP:PlOk p ts) (hpa:s.pa<0):p.mn≤lookP p s st now hv WK AK∧lookP p s st now hv WK AK≤p.mx∧(AK=true→1≤lookP p s st now hv WK AK)∧(now-s.nd<p.co→1≤hv→1≤lookP p s st now hv WK AK):=by
 have h1:=hP.mn;have h2:=hP.mx;have h3:=low_bd hP hv now s.nd AK;unfold lookP;rw [if_neg (by omega)];have h4:AK=true→1≤lowF p hv now s.nd AK:=fun e=>by unfold lowF;rw [if_pos e];omega
 have h5:now-s.nd<p.co→1≤hv→1≤lowF p hv now s.nd AK:=fun e e2=>by
  unfold lowF;split
  ·omega
  ·omega
 generalize Stb.setN st now hv (askF p WK (lowF p hv now s.nd AK))=N;generalize lowF p hv now s.nd AK=L at*;unfold toldF;refine⟨by omega,by omega,fun e=>by have:=h4 e;omega,fun e e2=>by have:=h5 e e2;omega⟩
end
end Lop
namespace Wld
open Plain Pln Frm Lpp Crn

structure WS where
 now:Int
 sec:Int
 tg:Int
 fl:List Bool
 lp:Lp
 st:Stb.St
 n:Nat
 E:Nat→Int
 O:Nat→Int
 ql:Int
 qL:List Que.M
 F:Flt.FS
 R:List Buf.Rq
def onF:Nat→Flt.FS→List Buf.Rq→Flt.FS×List Buf.Rq
 |0,F,R=>(F,R)
 |k+1,F,R=>if Buf.nextB R=true∧Flt.giveE F=0 then onF k (Flt.giveS F) (Buf.runL R (Buf.nextN R) (Flt.giveN F))else(F,R)
def onW (S:WS):WS:= { S with F:=(onF S.R.length S.F S.R).1,R:=(onF S.R.length S.F S.R).2 }
noncomputable def inW (sec sh:Int) (t:Tr):Bool:= @decide (InP (mt t.a) (mt t.b) (minOf sec sh) sh) (Classical.propDecidable _)
theorem inW_iff (sec sh:Int) (t:Tr):inW sec sh t=true↔InP (mt t.a) (mt t.b) (minOf sec sh) sh:=by
 unfold inW;rw [@decide_eq_true_iff _ (Classical.propDecidable _)]
def secW (S:WS):Int:=min (S.sec+S.now) 100000000000
def rdOf (S:WS) (t:Tr) (f:Bool):Rd:=
 if t.k=1 then⟨f,S.n,Top.dif S.E S.O⟩else if t.k=2 then⟨f,1,fun _=>(Que.depth (Que.backL S.now S.qL):Int)⟩else⟨f,0,fun _=>0⟩
def rdsW (ts:List Tr) (S:WS):List Rd:=List.zipWith (rdOf S) ts S.fl
def busyW (S:WS):Bool:=decide (0<Buf.many (-1) 1 S.R)||decide (0<Buf.many (-1) 2 S.R)
def isQ (t:Tr):Bool:=t.k==2
def readQ (ts:List Tr) (S:WS):List Que.M:=if ts.any isQ=true then Que.backL S.now S.qL else S.qL
noncomputable def wantW (p:Pd) (ts:List Tr) (S:WS):Int:=wK p (Flt.cnt S.F.L) (inW (secW S) p.sh) ts (rdsW ts S) S.lp.fs ts.length
noncomputable def needW (p:Pd) (ts:List Tr) (S:WS):Bool:=aK (busyW S) (inW (secW S) p.sh) ts (rdsW ts S) S.lp.fs ts.length
noncomputable def toldW (p:Pd) (ts:List Tr) (S:WS):Int:=Lop.lookP p S.lp S.st S.now (Flt.cnt S.F.L) (wantW p ts S) (needW p ts S)
noncomputable def lookW (p:Pd) (ts:List Tr) (S:WS):WS:=
 { S with tg:=toldW p ts S,lp:=nextL S.lp ts (rdsW ts S) S.now (needW p ts S),st:=Lop.nextS p S.lp S.st S.now (Flt.cnt S.F.L) (wantW p ts S) (needW p ts S),qL:=readQ ts S,F:=Flt.scaleF S.F (toldW p ts S) }
def lateW (S:WS):WS:= { S with now:=S.now+1,R:=Buf.turnL (Buf.isLate (S.now+1)) 4 S.R }
noncomputable def dueW (p:Pd) (ts:List Tr) (S:WS):WS:=if Lop.dueP p S.lp S.now=true then lookW p ts S else S
noncomputable def tick1 (p:Pd) (ts:List Tr) (S:WS):WS:=onW (dueW p ts (lateW S))
noncomputable def tickW (p:Pd) (ts:List Tr):Nat→WS→WS
 |0,S=>S
 |k+1,S=>tickW p ts k (tick1 p ts S)
theorem tickW_succ (p:Pd) (ts:List Tr): ∀(k:Nat) (S:WS),tickW p ts (k+1) S=tick1 p ts (tickW p ts k S)
 |0,_=>rfl
 |k+1,S=>by rw [tickW,tickW_succ p ts k (tick1 p ts S)];rfl
def putE (L:List Que.M) (n:Int):Int:=if n<1 then 1 else if 200<L.length+n then 6 else 0
def putW (S:WS) (n:Int):WS:=if putE S.qL n=0 then { S with ql:=S.ql+n,qL:=S.qL++Que.news S.ql n.toNat } else S
def leaseE (L:List Que.M) (now n:Int):Int:=if¬(1≤n∧n≤100000)then 1 else match (Que.backL now L).findIdx? Que.free with
 |none=>4
 |some _=>0
def leaseL (L:List Que.M) (now n:Int):List Que.M:=if¬(1≤n∧n≤100000)then L else match (Que.backL now L).findIdx? Que.free with
 |none=>Que.backL now L
 |some i=>match (Que.backL now L)[i]? with
  |none=>Que.backL now L
  |some m=>(Que.backL now L).set i ⟨m.id,now+n,true⟩
def ackE (L:List Que.M) (now id:Int):Int:=match (Que.backL now L).findIdx? (Que.isId id)with
 |none=>4
 |some i=>match (Que.backL now L)[i]? with
  |none=>4
  |some m=>if m.tk=true then 0 else 7
def ackL (L:List Que.M) (now id:Int):List Que.M:=match (Que.backL now L).findIdx? (Que.isId id)with
 |none=>Que.backL now L
 |some i=>match (Que.backL now L)[i]? with
  |none=>Que.backL now L
  |some m=>if m.tk=true then(Que.backL now L).eraseIdx i else Que.backL now L
def inN (S:WS) (a:Int):Bool:=decide (0≤a)&&decide (a<(S.n:Int))
def makeE (S:WS) (a n:Int):Int:=if inN S a=true then(if 1≤n∧n≤100000 then 0 else 1)else 4
def makeW (S:WS) (a n:Int):WS:=if makeE S a n=0 then { S with E:=Top.upd S.E a.toNat (S.E a.toNat+n) } else S
def takeE (S:WS) (a n:Int):Int:=if inN S a=true then(if S.O a.toNat≤n∧n≤S.E a.toNat then 0 else 1)else 4
def takeW (S:WS) (a n:Int):WS:=if takeE S a n=0 then { S with O:=Top.upd S.O a.toNat n } else S
def failE (S:WS) (a n:Int):Int:=if 0≤a∧a<(S.fl.length:Int)then(if n=0∨n=1 then 0 else 1)else 4
def failW (S:WS) (a n:Int):WS:=if failE S a n=0 then { S with fl:=S.fl.set a.toNat (n==1) } else S
def pauseE (n:Int):Int:=if-1≤n∧n≤50 then 0 else 1
def pauseW (S:WS) (n:Int):WS:=if pauseE n=0 then { S with lp:=⟨S.lp.fs,S.lp.lk,S.lp.la,S.lp.nd,n⟩ } else S
def readyW (S:WS) (n:Int):WS:=if Flt.turnE S.F.L n 2=0 then onW { S with F:=Flt.turnS S.F n 2 } else S
def crashW (S:WS) (n:Int):WS:=if Flt.crashE S.F.L n=0 then onW { S with F:=Flt.crashS S.F n,R:=Buf.turnL (Buf.isAt n) 5 S.R } else S
def askW (S:WS) (a n:Int):WS:=if Buf.askE S.R S.now a n=0 then onW { S with R:=Buf.askL S.R S.now a n } else S
def doneW (S:WS) (n:Int):WS:=if Buf.doneE S.R n=0 then onW { S with R:=Buf.doneL S.R n,F:=Flt.doneS S.F (Buf.doneN S.R n) } else S
def tickE (S:WS) (n:Int):Int:=if(1≤n∧n≤1000)∧S.now+n≤1099511627776 then 0 else 1
def doE (S:WS) (k a n:Int):Int:=
 if k=1 then tickE S n else if k=2 then makeE S a n else if k=3 then takeE S a n else if k=4 then putE S.qL n else if k=5 then leaseE S.qL S.now n
 else if k=6 then ackE S.qL S.now n else if k=7 then failE S a n else if k=8 then Flt.turnE S.F.L n 1 else if k=9 then Flt.turnE S.F.L n 2
 else if k=10 then Flt.crashE S.F.L n else if k=11 then Buf.askE S.R S.now a n else if k=12 then Buf.doneE S.R n else if k=13 then pauseE n else 1
noncomputable def doW (p:Pd) (ts:List Tr) (S:WS) (k a n:Int):WS:=
 if k=1 then(if tickE S n=0 then tickW p ts n.toNat S else S)else if k=2 then makeW S a n else if k=3 then takeW S a n else if k=4 then putW S n
 else if k=5 then { S with qL:=leaseL S.qL S.now n } else if k=6 then { S with qL:=ackL S.qL S.now n } else if k=7 then failW S a n
 else if k=8 then { S with F:=Flt.turnS S.F n 1 } else if k=9 then readyW S n else if k=10 then crashW S n else if k=11 then askW S a n
 else if k=12 then doneW S n else if k=13 then pauseW S n else S
def newW (p:Pd) (ts:List Tr) (n:Nat) (most sec:Int):WS:=
 ⟨0,sec,0,List.replicate ts.length false,Lop.newL ts.length,Stb.new (Lop.nU p) (Lop.nD p),n,fun _=>0,fun _=>0,0,[],⟨Flt.mostN most,0,[]⟩,[]⟩

structure WI (ts:List Tr) (S:WS) (h k:Nat):Prop where
 nw:0≤S.now∧S.now≤1099511627776
 sc: -10000000000≤S.sec∧S.sec≤10000000000
 fl:S.fl.length=ts.length
 lp:Lop.LI ts S.lp S.st k
 la:S.lp.la≤S.now
 pa: -1≤S.lp.pa∧S.lp.pa≤50
 n:1≤S.n∧S.n≤20
 tb: ∀i,i<S.n→0≤S.O i∧S.O i≤S.E i∧S.E i≤100000*(h:Int)
 q:Que.Inv S.qL S.ql
 qb:0≤S.ql∧S.ql≤200*(h:Int)
 f:Flt.Inv S.F
 fb:S.F.last≤50*(k:Int)
 cn:(Flt.cnt S.F.L:Int)≤50
 r:Buf.Inv S.R
section
variable {p : Pd} {ts : List Tr} {S : WS} {h k : Nat}
theorem cnt_set {L:List Flt.Pd} {i:Nat} {x y:Flt.Pd} (hx:L[i]? =some x) (hs:Flt.stays y=Flt.stays x):Flt.cnt (L.set i y)=Flt.cnt L:=by
 induction L generalizing i with
 |nil=>simp at hx
 |cons a L ih=>
  cases i with
  |zero=>simp at hx;subst hx;rw [List.set_cons_zero,Flt.cnt_cons,Flt.cnt_cons,hs]
  |succ i=>rw [List.set_cons_succ,Flt.cnt_cons,Flt.cnt_cons,ih (by simpa using hx)]
theorem cnt_erase (L:List Flt.Pd) (i:Nat):Flt.cnt (L.eraseIdx i)≤Flt.cnt L:=(List.eraseIdx_sublist L i).countP_le
theorem turn_cnt (L:List Flt.Pd) (id fr:Int) (h1:fr=1∨fr=2):Flt.cnt (Flt.turnL L id fr)=Flt.cnt L:=by
 cases hf:L.findIdx? (Flt.isId id)with
 |none=>rw [(Flt.turn_none hf).2]
 |some i=>
  obtain⟨x,hx,_⟩:=Flt.find_get hf;by_cases hs:x.st=fr
  ·rw [(Flt.turn_ok hf hx hs).2,cnt_set hx];unfold Flt.stays;rcases h1 with rfl|rfl<;>simp [hs]
  ·rw [(Flt.turn_state hf hx hs).2]
theorem crash_cnt (L:List Flt.Pd) (id:Int):Flt.cnt (Flt.crashL L id)≤Flt.cnt L:=by
 unfold Flt.crashL;split
 ·exact Xa _
 ·exact cnt_erase _ _
theorem give_cnt (F:Flt.FS):Flt.cnt (Flt.giveS F).L=Flt.cnt F.L∧(Flt.giveS F).last=F.last:=by
 cases hp:Flt.pick (Flt.room F.most) Flt.given F.L 0 none with
 |none=>rw [(Flt.give_none hp).1];exact⟨rfl,rfl⟩
 |some x=>
  obtain⟨i,q⟩:=x;rw [(Flt.give_some hp).1];obtain⟨_,h2,_⟩:=Flt.pick_mem hp;exact⟨cnt_set h2 rfl,rfl⟩
theorem done_cnt (L:List Flt.Pd) (id:Int):Flt.cnt (Flt.doneL L id)≤Flt.cnt L:=by
 cases hf:L.findIdx? (Flt.isId id)with
 |none=>rw [(Flt.done_none hf).2];exact Xa _
 |some i=>
  obtain⟨x,hx,_⟩:=Flt.find_get hf;by_cases hs:x.ld=0
  ·rw [(Flt.done_state hf hx hs).2];exact Xa _
  ·rw [(Flt.done_ok hf hx hs).2];unfold Flt.doneL1;have e:Flt.cnt (L.set i ⟨x.id,x.st,x.ld-1⟩)=Flt.cnt L:=cnt_set hx rfl;split
   ·exact Xc (cnt_erase _ _) (Nat.le_of_eq e)
   ·exact Nat.le_of_eq e
theorem WI.len (g:WI ts S h k):(S.F.L.length:Int)≤50*(k:Int):=by
 have:=Flt.len_gap S.F.L 0 S.F.last g.f.srt (fun q hq=>⟨(g.f.bd q hq).1,(g.f.bd q hq).2.1⟩) g.f.l0;have:=g.fb;omega
theorem WI.mono {h' k':Nat} (g:WI ts S h k) (h1:h≤h') (h2:k≤k'):WI ts S h' k':=
 ⟨g.nw,g.sc,g.fl,g.lp.mono h2,g.la,g.pa,g.n,fun i hi=>by have:=g.tb i hi;omega,g.q,by have:=g.qb;omega,g.f,by have:=g.fb;omega,g.cn,g.r⟩
theorem WI.fr (g:WI ts S h k) {F:Flt.FS} {R:List Buf.Rq} (hF:Flt.Inv F) (hR:Buf.Inv R) (hc:Flt.cnt F.L≤Flt.cnt S.F.L) (hl:F.last≤S.F.last):WI ts { S with F:=F,R:=R } h k:=
 ⟨g.nw,g.sc,g.fl,g.lp,g.la,g.pa,g.n,g.tb,g.q,g.qb,hF,Yc hl g.fb,by have:=g.cn;show(Flt.cnt F.L:Int)≤50;omega,hR⟩
theorem on_inv: ∀(m:Nat) (F:Flt.FS) (R:List Buf.Rq),Flt.Inv F→Buf.Inv R→Flt.Inv (onF m F R).1∧Buf.Inv (onF m F R).2∧Flt.cnt (onF m F R).1.L=Flt.cnt F.L∧(onF m F R).1.last=F.last
 |0,_,_,hF,hR=>⟨hF,hR,rfl,rfl⟩
 |m+1,F,R,hF,hR=>by
  unfold onF
  split
  ·obtain⟨a,b,c,d⟩:=on_inv m _ _ (Flt.give_inv hF) (Buf.run_inv hR (Buf.nextN R) (Flt.giveN F))
   obtain⟨e,f⟩:=give_cnt F
   exact⟨a,b,c.trans e,d.trans f⟩
  ·exact⟨hF,hR,rfl,rfl⟩
theorem WI.on (g:WI ts S h k):WI ts (onW S) h k:=by
 obtain⟨a,b,c,d⟩:=on_inv S.R.length S.F S.R g.f g.r;exact g.fr a b (Nat.le_of_eq c) (Int.le_of_eq d)
theorem WI.late (g:WI ts S h k) (hn:S.now+1≤1099511627776):WI ts (lateW S) h k:=
 ⟨⟨by have:=g.nw;show 0≤S.now+1;omega,hn⟩,g.sc,g.fl,g.lp,by have:=g.la;show S.lp.la≤S.now+1;omega,g.pa,g.n,g.tb,g.q,g.qb,g.f,g.fb,g.cn,Buf.turn_inv g.r _ 4 (by omega)⟩
theorem back_inv {L:List Que.M} {l c:Int} (h:Que.Inv L l):Que.Inv (Que.backL c L) l:=h.back c
theorem readQ_inv (g:WI ts S h k):Que.Inv (readQ ts S) S.ql:=by
 unfold readQ;split
 ·exact back_inv g.q
 ·exact g.q
theorem rds_len (g:WI ts S h k):(rdsW ts S).length=ts.length:=by
 unfold rdsW;rw [List.length_zipWith,g.fl,Nat.min_self]
theorem told_bd (hP:PlOk p ts) (g:WI ts S h k):0≤toldW p ts S∧toldW p ts S≤50:=by
 have h1:=hP.mn;have h2:=hP.mx;by_cases hpa:0≤S.lp.pa
 ·unfold toldW Lop.lookP;rw [if_pos hpa];exact⟨hpa,g.pa.2⟩
 ·have:=Lop.look_bds (st:=S.st) (now:=S.now) (hv:=(Flt.cnt S.F.L:Int)) (WK:=wantW p ts S) (AK:=needW p ts S) hP (show S.lp.pa<0 by omega);unfold toldW;omega
theorem WI.look (hP:PlOk p ts) (g:WI ts S h k):WI ts (lookW p ts S) h (k+1):=by
 have hb:=told_bd hP g;have hc:=g.cn;refine⟨g.nw,g.sc,g.fl,g.lp.look hP ⟨g.la,g.nw.2⟩ ⟨by omega,hc⟩,Xu _,g.pa,g.n,g.tb,readQ_inv g,g.qb,Flt.scaleF_inv g.f _,?_,?_,g.r⟩
 ·have:=Flt.scaleF_last (F:=S.F) (toldW p ts S);have:=g.fb;show(Flt.scaleF S.F (toldW p ts S)).last≤_;omega
 ·show(Flt.cnt (Flt.scaleF S.F (toldW p ts S)).L:Int)≤50;unfold Flt.scaleF;rw [if_pos hb,Flt.scale_cnt hb.1];exact hb.2
theorem WI.due (hP:PlOk p ts) (g:WI ts S h k):WI ts (dueW p ts S) h (k+1):=by
 unfold dueW;split
 ·exact g.look hP
 ·exact g.mono (Xa _) (by omega)
theorem WI.tick1 (hP:PlOk p ts) (g:WI ts S h k) (hn:S.now+1≤1099511627776):WI ts (tick1 p ts S) h (k+1):=((g.late hn).due hP).on
theorem due_now (S:WS):(dueW p ts S).now=S.now:=by unfold dueW;split<;>rfl
theorem tick1_now (S:WS):(tick1 p ts S).now=S.now+1:=due_now (lateW S)
theorem tickW_now: ∀(m:Nat) (S:WS),(tickW p ts m S).now=S.now+m
 |0,S=>by simp [tickW]
 |m+1,S=>by rw [tickW,tickW_now m,tick1_now];omega
theorem WI.ticks (hP:PlOk p ts): ∀(m:Nat) {S:WS} {k:Nat},WI ts S h k→S.now+m≤1099511627776→WI ts (tickW p ts m S) h (k+m)
 |0,_,_,g,_=>g
 |m+1,S,k,g,hn=>by
  have:=(g.tick1 hP (by omega)).ticks hP m (by rw [tick1_now];omega)
  rw [Nat.add_assoc,Nat.add_comm 1 m]at this
  exact this
end
end Wld
namespace Wld
open Go.RowKit Plain Pln Frm Lpp Crn
variable {i j a n G:Nat} {u v:Value} {F:Flt.FS} {R:List Buf.Rq} {X:Nat→Int} {t:Tr} {wr:World} {id:Int}

structure Ch (D:Nat) (r:Nat→Prop) (b b':Nat→Prop) (w w':World):Prop where
 os:w'.os=w.os
 tape:w'.tape=w.tape
 output:w'.output=w.output
 size:w.heap.size≤w'.heap.size
 block: ∀k,k<w.heap.size→k≠D→ ¬b k→w'.heap[k]? =w.heap[k]?
 loc: ∀k,b' k→b k∨w.heap.size≤k
 cell: ∀j,¬r j→w'.cell? ⟨D,j,none⟩=w.cell? ⟨D,j,none⟩
 fz: ∀j,w'.frozen? ⟨D,j,none⟩=false
structure Fam (B D:Nat) (b:Nat→Nat→Prop) (w:World):Prop where
 lt: ∀i k,i<6→b i k→B≤k∧k<w.heap.size∧k≠D
 ap: ∀i j k,i<6→j<6→i≠j→b i k→ ¬b j k
theorem Fam.step {B D:Nat} {b b':Nat→Nat→Prop} {r:Nat→Prop} {w w':World} (h:Fam B D b w) (hD:D<w.heap.size) (hB:B≤D) (hi:i<6) (m:Ch D r (b i) (b' i) w w') (hc: ∀k,b' i k→k<w'.heap.size) (ho: ∀j,j<6→j≠i→b' j=b j):Fam B D b' w':=by
 have new: ∀k,b' i k→b i k∨w.heap.size≤k:=m.loc;refine⟨fun j k hj hk=> ?_,fun j l k hj hl hne hk hn=> ?_⟩
 ·by_cases e:j=i
  ·subst e;rcases new k hk with a|a
   ·obtain⟨x,y,z⟩:=h.lt j k hj a;exact⟨x,Xb y m.size,z⟩
   ·exact⟨by omega,hc k hk,by omega⟩
  ·rw [ho j hj e]at hk;obtain⟨x,y,z⟩:=h.lt j k hj hk;exact⟨x,Xb y m.size,z⟩
 ·by_cases e:j=i
  ·subst e;rw [ho l hl hne.symm]at hn;rcases new k hk with a|a
   ·exact h.ap j l k hj hl hne a hn
   ·have:=(h.lt l k hl hn).2.1;omega
  ·rw [ho j hj e]at hk;by_cases e2:l=i
   ·subst e2;rcases new k hn with a|a
    ·exact h.ap j l k hj hl hne hk a
    ·have:=(h.lt j k hj hk).2.1;omega
   ·rw [ho l hl e2]at hn;exact h.ap j l k hj hl hne hk hn
structure Pc where
 x:Lop.Pl
 ta:Option Addr
 tc:Nat
 T:Nat
 G:Nat
 vq:Value
 vf:Value
 vb:Value
def part (c:Pc) (ts:List Tr):Nat→Nat→Prop
 |0,k=>k=c.T
 |1,k=>(Lop.blk c.x k∧k≠c.x.D)∨ ∃off,0<ts.length∧c.ta=some ⟨k,off,none⟩
 |2,k=>k=c.G
 |3,k=>c.vq.ownBlock=some k
 |4,k=>c.vf.ownBlock=some k
 |_,k=>c.vb.ownBlock=some k
def bk (c:Pc) (ts:List Tr) (k:Nat):Prop:=k=c.x.D∨ ∃i,i<6∧part c ts i k
structure TrgAt (w:World) (T:Nat) (ts:List Tr) (fl:List Bool):Prop where
 lt:T<w.heap.size
 fz: ∀j,w.frozen? ⟨T,j,none⟩=false
 k: ∀i t,ts[i]? =some t→w.cell? ⟨T,i*2,none⟩=some (.int .i64 t.k)
 f: ∀i b,fl[i]? =some b→w.cell? ⟨T,i*2+1,none⟩=some (.bool b)
theorem TrgAt.kept {w w':World} {T:Nat} {ts:List Tr} {fl:List Bool} (h:TrgAt w T ts fl) (hb:w'.heap[T]? =w.heap[T]?) (hz:w.heap.size≤w'.heap.size):TrgAt w' T ts fl:=
 ⟨Xb h.lt hz,fun j=>(Xl (w:=w) (a:=⟨T,j,none⟩) hb).trans (h.fz j),fun i t ht=>(Xf (w:=w) (a:=⟨T,i*2,none⟩) hb).trans (h.k i t ht),fun i b hf=>(Xf (w:=w) (a:=⟨T,i*2+1,none⟩) hb).trans (h.f i b hf)⟩
def Bas (B:Nat) (w:World):Prop:= ∃w0:World,Lai.BdsAt w0∧w0.heap.size≤B∧Below w0.heap.size w0 w
theorem Bas.below {B:Nat} {w w':World} (h:Bas B w) (g:Below w.heap.size w w'):Bas B w':=by
 obtain⟨w0,a,b,d⟩:=h;exact⟨w0,a,b,(zu d g)⟩
theorem Bas.mv {B:Nat} {b b':Nat→Prop} {w w':World} (h:Bas B w) (hb: ∀k,b k→B≤k) (m:Mm.Mv b b' w w'):Bas B w':=by
 obtain⟨w0,a,e,d⟩:=h;exact⟨w0,a,e,d.trans (m.below (fun k hk=>Xc e (hb k hk)) d.size)⟩
theorem Bas.bds {B:Nat} {w:World} (h:Bas B w):Lai.BdsAt w:=by
 obtain⟨w0,a,_,d⟩:=h;exact a.below d (Xa _)
structure WAt (w:World) (B:Nat) (c:Pc) (p:Pd) (ts:List Tr) (S:WS):Prop where
 lo:Lop.LAt w B c.x p c.ta c.tc ts S.lp S.st
 c0:w.cell? ⟨c.x.D,0,none⟩=some (.int .i64 S.now)
 c1:w.cell? ⟨c.x.D,1,none⟩=some (.int .i64 S.sec)
 c2:w.cell? ⟨c.x.D,2,none⟩=some (.int .i64 S.tg)
 c3:w.cell? ⟨c.x.D,3,none⟩=some (.slice (some ⟨c.T,0,none⟩) ts.length ts.length)
 tr:TrgAt w c.T ts S.fl
 tp:Top.TopAt w c.x.D c.G S.n S.E S.O
 qu:Que.QAt w 241 B c.x.D 44 45 S.ql c.vq S.qL
 fl:Flt.FAt w B c.x.D c.vf S.F
 bu:Buf.HAt w B c.x.D c.vb S.R
 fa:Fam B c.x.D (part c ts) w
 ba:Bas B w
section
variable {w w' : World} {B : Nat} {c c' : Pc} {p : Pd} {ts : List Tr} {S : WS} {r b b' : Nat → Prop}
theorem WAt.lt (h:WAt w B c p ts S):c.x.D<w.heap.size:=h.lo.lt
theorem WAt.bD (h:WAt w B c p ts S):B≤c.x.D:=h.lo.bD
theorem WAt.fz (h:WAt w B c p ts S) (j:Nat):w.frozen? ⟨c.x.D,j,none⟩=false:=h.lo.fz j
theorem WAt.low (h:WAt w B c p ts S) {k:Nat} (hk:bk c ts k):B≤k∧k<w.heap.size:=by
 rcases hk with rfl|⟨i,hi,hk⟩
 ·exact⟨h.bD,h.lt⟩
 ·exact⟨(h.fa.lt i k hi hk).1,(h.fa.lt i k hi hk).2.1⟩
def reR (c:Pc) (w':World):Pc:= { c with x:=⟨c.x.D,c.x.vF,c.x.V,fun j=>w'.cell? ⟨c.x.D,j,none⟩⟩ }
theorem part_reR (c:Pc) (w':World) (ts:List Tr):part (reR c w') ts=part c ts:=by
 funext i k;rcases i with _|_|_|_|_|i<;>rfl
theorem keepL (h:WAt w B c p ts S) (m:Ch c.x.D r b b' w w') (hr: ∀j,4≤j→j<43→ ¬r j) (hb: ∀k,part c ts 1 k→ ¬b k):Lop.LAt w' B (reR c w').x p c.ta c.tc ts S.lp S.st:=by
 refine Lop.LAtO.sib h.lo (Xb h.lt m.size) m.fz (fun j h1 h2=>m.cell j (hr j h1 h2)) (fun k hk ho=> ?_) m.size (fun j _=>rfl);have hp:part c ts 1 k:=by
  rcases ho with a|a
  ·exact Or.inl ⟨a,hk⟩
  ·exact Or.inr a
 exact m.block k (h.fa.lt 1 k (by decide) hp).2.1 hk (hb k hp)
theorem keepT (h:WAt w B c p ts S) (m:Ch c.x.D r b b' w w') (hb: ¬b c.T):TrgAt w' c.T ts S.fl:=
 h.tr.kept (m.block c.T h.tr.lt (h.fa.lt 0 c.T (by decide) rfl).2.2 hb) m.size
theorem keepO (h:WAt w B c p ts S) (m:Ch c.x.D r b b' w w') (hr: ¬r 43) (hb: ¬b c.G):Top.TopAt w' c.x.D c.G S.n S.E S.O:=by
 obtain⟨a,b1,c1,d⟩:=h.tp;exact⟨a,Xb b1 m.size,(m.cell _ hr).trans c1,d.kept (m.block c.G d.1 a.symm hb)⟩
theorem keepQ (h:WAt w B c p ts S) (m:Ch c.x.D r b b' w w') (hr: ¬r 44) (hr2: ¬r 45) (hb: ∀k,part c ts 3 k→ ¬b k):Que.QAt w' 241 B c.x.D 44 45 S.ql c.vq S.qL:=
 h.qu.sib (Xb h.lt m.size) m.fz (m.cell _ hr) (m.cell _ hr2) (fun g hg=>m.block g (h.fa.lt 3 g (by decide) hg).2.1 (h.fa.lt 3 g (by decide) hg).2.2 (hb g hg))
theorem keepF (h:WAt w B c p ts S) (m:Ch c.x.D r b b' w w') (hr: ∀j,46≤j→j<49→ ¬r j) (hb: ∀k,part c ts 4 k→ ¬b k):Flt.FAt w' B c.x.D c.vf S.F:=
 Rec.RAt.sib h.fl (Xb h.lt m.size) m.fz (fun j hj=>m.cell _ (hr _ (by omega) (by simp at hj;omega))) (fun g hg=>m.block g (h.fa.lt 4 g (by decide) hg).2.1 (h.fa.lt 4 g (by decide) hg).2.2 (hb g hg))
theorem keepB (h:WAt w B c p ts S) (m:Ch c.x.D r b b' w w') (hr: ¬r 49) (hb: ∀k,part c ts 5 k→ ¬b k):Buf.HAt w' B c.x.D c.vb S.R:=
 Rec.RAt.sib h.bu (Xb h.lt m.size) m.fz (fun j hj => by
  have:j=0:=by simp at hj;omega
  subst this
  exact m.cell _ hr) (fun g hg=>m.block g (h.fa.lt 5 g (by decide) hg).2.1 (h.fa.lt 5 g (by decide) hg).2.2 (hb g hg))
theorem Ch.mv (m:Ch c.x.D r (part c ts i) (part c' ts i) w w') (hi:i<6) (hx:c'.x.D=c.x.D) (ho: ∀j,j<6→j≠i→part c' ts j=part c ts j):Mm.Mv (bk c ts) (bk c' ts) w w':=by
 refine⟨m.os,m.tape,m.output,m.size,fun k hk hn=>m.block k hk (fun e=>hn (Or.inl e)) (fun e=>hn (Or.inr ⟨i,hi,e⟩)),fun k hk=> ?_⟩;rcases hk with e|⟨j,hj,e⟩
 ·exact Or.inl (Or.inl (e.trans hx))
 ·by_cases ej:j=i
  ·subst ej;rcases m.loc k e with a|a
   ·exact Or.inl (Or.inr ⟨j,hj,a⟩)
   ·exact Or.inr a
  ·rw [ho j hj ej]at e;exact Or.inl (Or.inr ⟨j,hj,e⟩)
theorem WAt.kept (h:WAt w B c p ts S) (hb: ∀k,bk c ts k→w'.heap[k]? =w.heap[k]?) (hz:w.heap.size≤w'.heap.size) (ba:Bas B w'):WAt w' B c p ts S:=by
 have hD:w'.heap[c.x.D]? =w.heap[c.x.D]? :=hb _ (Or.inl rfl);have e: ∀j,w'.cell? ⟨c.x.D,j,none⟩=w.cell? ⟨c.x.D,j,none⟩:=fun j=>Xf (w:=w) (a:=⟨c.x.D,j,none⟩) hD;have hp: ∀i k,i<6→part c ts i k→w'.heap[k]? =w.heap[k]? :=fun i k hi hk=>hb k (Or.inr ⟨i,hi,hk⟩);obtain⟨a,b1,c1,d⟩:=h.tp
 exact ⟨Lop.LAtO.kept h.lo (fun k hk => by
  by_cases e:k=c.x.D
  ·rw [e];exact hD
  ·rcases hk with x|x
   ·exact hp 1 k (by decide) (Or.inl ⟨x,e⟩)
   ·exact hp 1 k (by decide) (Or.inr x)) hz, (e _).trans h.c0, (e _).trans h.c1, (e _).trans h.c2, (e _).trans h.c3, h.tr.kept (hp 0 _ (by decide) rfl) hz, ⟨a, Xb b1 hz, (e _).trans c1, d.kept (hp 2 _ (by decide) rfl)⟩, h.qu.kept hD (fun g hg => hp 3 g (by decide) hg), Rec.RAt.kept h.fl hD (fun g hg => hp 4 g (by decide) hg), Rec.RAt.kept h.bu hD (fun g hg => hp 5 g (by decide) hg), ⟨fun i k hi hk => by
  obtain⟨x,y,z⟩:=h.fa.lt i k hi hk;exact⟨x,Xb y hz,z⟩,h.fa.ap⟩,ba⟩
theorem WAt.below (h:WAt w B c p ts S) (g:Below w.heap.size w w'):WAt w' B c p ts S:=
 h.kept (fun k hk=>g.block k (h.low hk).2) g.size (h.ba.below g)
theorem WAt.put {k:Nat} (h:WAt w B c p ts S) (hn: ¬bk c ts k) (hk:B≤k):WAt (w.setCell ⟨k,j,none⟩ u) B c p ts S:=by
 refine h.kept (fun i hi=>Below.heap_setCell w _ _ i (fun e=>hn (by rw [←show i=k from e];exact hi))) (by simp) ?_;obtain⟨w0,a,e,d⟩:=h.ba;exact⟨w0,a,e,d.setCell (p:=⟨k,j,none⟩) (Xc e hk) u⟩
theorem mv_put {k:Nat} (h:Mm.Mv b b' w w') (hk:w.heap.size≤k):Mm.Mv b b' w (w'.setCell ⟨k,j,none⟩ u):=
 ⟨h.os,h.tape,h.output,by simpa using h.size,fun i hi hn=>(Below.heap_setCell w' _ _ i (fun e=>by have:i=k:=e;omega)).trans (h.block i hi hn),h.loc⟩
end

def Wst (B:Nat) (c:Pc) (p:Pd) (ts:List Tr) (S':WS) (w w':World):Prop:= ∃c',WAt w' B c' p ts S'∧c'.x.D=c.x.D∧Mm.Mv (bk c ts) (bk c' ts) w w'
def Same (c c':Pc):Prop:=Lop.blk c'.x=Lop.blk c.x∧c'.T=c.T
theorem Same.trans {c c' c'':Pc} (h:Same c c') (g:Same c' c''):Same c c'':=⟨g.1.trans h.1,g.2.trans h.2⟩
def Wsk (B:Nat) (c:Pc) (p:Pd) (ts:List Tr) (S':WS) (w w':World):Prop:= ∃c',WAt w' B c' p ts S'∧c'.x.D=c.x.D∧Same c c'∧Mm.Mv (bk c ts) (bk c' ts) w w'
section
variable {w w' w'' : World} {B : Nat} {c c' : Pc} {p : Pd} {ts : List Tr} {S S' S'' : WS}
theorem Wsk.st (h:Wsk B c p ts S w w'):Wst B c p ts S w w':=by
 obtain⟨c',a,b,_,m⟩:=h;exact⟨c',a,b,m⟩
theorem Wsk.refl (h:WAt w B c p ts S):Wsk B c p ts S w w:=⟨c,h,rfl,⟨rfl,rfl⟩,Mm.Mv.refl _ _⟩
theorem Wsk.below (h:Wsk B c p ts S w w') (g:Below w'.heap.size w' w''):Wsk B c p ts S w w'':=by
 obtain⟨c',a,b,e,m⟩:=h;exact⟨c',a.below g,b,e,m.trans (Mm.Mv.of_below g)⟩
theorem Wsk.trans (m:Mm.Mv (bk c ts) (bk c' ts) w w') (e:c'.x.D=c.x.D) (e2:Same c c') (h:Wsk B c' p ts S w' w''):Wsk B c p ts S w w'':=by
 obtain⟨c2,a,b,d,m2⟩:=h;exact⟨c2,a,b.trans e,e2.trans d,m.trans m2⟩
theorem WAt.lows (h:WAt w B c p ts S): ∀k,bk c ts k→B≤k:=fun _ hk=>(h.low hk).1
theorem Wst.refl (h:WAt w B c p ts S):Wst B c p ts S w w:=⟨c,h,rfl,Mm.Mv.refl _ _⟩
theorem Wst.below (h:Wst B c p ts S w w') (g:Below w'.heap.size w' w''):Wst B c p ts S w w'':=by
 obtain⟨c',a,b,m⟩:=h;exact⟨c',a.below g,b,m.trans (Mm.Mv.of_below g)⟩
theorem WAt.on (h:WAt w B c p ts S) (g:Below w.heap.size w w'):Wst B c p ts S w w':=(Wst.refl h).below g
theorem Wst.trans (m:Mm.Mv (bk c ts) (bk c' ts) w w') (e:c'.x.D=c.x.D) (h:Wst B c' p ts S w' w''):Wst B c p ts S w w'':=by
 obtain⟨c2,a,b,m2⟩:=h;exact⟨c2,a,b.trans e,m.trans m2⟩
theorem part_q (c:Pc) (w':World) (ts:List Tr) (u:Value): ∀j,j<6→j≠3→part { reR c w' with vq:=u } ts j=part c ts j:=by
 intro j hj hn;rcases j with _|_|_|_|_|_|j
 ·rfl
 ·rfl
 ·rfl
 ·exact absurd rfl hn
 ·rfl
 ·rfl
 ·omega
theorem part_f (c:Pc) (w':World) (ts:List Tr) (u:Value): ∀j,j<6→j≠4→part { reR c w' with vf:=u } ts j=part c ts j:=by
 intro j hj hn;rcases j with _|_|_|_|_|_|j
 ·rfl
 ·rfl
 ·rfl
 ·rfl
 ·exact absurd rfl hn
 ·rfl
 ·omega
theorem part_b (c:Pc) (w':World) (ts:List Tr) (u:Value): ∀j,j<6→j≠5→part { reR c w' with vb:=u } ts j=part c ts j:=by
 intro j hj hn;rcases j with _|_|_|_|_|_|j
 ·rfl
 ·rfl
 ·rfl
 ·rfl
 ·rfl
 ·exact absurd rfl hn
 ·omega
theorem WAt.queue (h:WAt w B c p ts S) {l:Int} {L:List Que.M} (hq:Que.QAt w' 241 B c.x.D 44 45 l v L) (t:Que.Turn Que.rQ c.x.D c.vq v w w'):Wsk B c p ts { S with ql:=l,qL:=L } w w':=by
 have m:Ch c.x.D Que.rQ (part c ts 3) (part { reR c w' with vq:=v } ts 3) w w':=⟨t.os,t.tape,t.output,t.size,fun k hk hD hb=>t.block k hk hD (fun e=>hb e.symm),fun k hk=>t.loc k hk,fun j hj=>t.rest h.lt h.qu.ne j hj,hq.fz⟩
 exact⟨{ reR c w' with vq:=v },⟨(keepL (c:=c) (S:=S) h m (fun j h1 h2 e=>by have:=e.1;have:=e.2;omega) (fun k hk e=>h.fa.ap 1 3 k (by decide) (by decide) (by decide) hk e)),(m.cell 0 (by decide)).trans h.c0,(m.cell 1 (by decide)).trans h.c1,(m.cell 2 (by decide)).trans h.c2,(m.cell 3 (by decide)).trans h.c3,(keepT (c:=c) (S:=S) h m (fun e=>h.fa.ap 0 3 c.T (by decide) (by decide) (by decide) rfl e)),(keepO (c:=c) (S:=S) h m (by decide) (fun e=>h.fa.ap 2 3 c.G (by decide) (by decide) (by decide) rfl e)),hq,(keepF (c:=c) (S:=S) h m (fun j h1 h2 e=>by have:=e.1;have:=e.2;omega) (fun k hk e=>h.fa.ap 4 3 k (by decide) (by decide) (by decide) hk e)),(keepB (c:=c) (S:=S) h m (by decide) (fun k hk e=>h.fa.ap 5 3 k (by decide) (by decide) (by decide) hk e)),h.fa.step h.lt h.bD (by decide) m (fun k hk=>hq.rowLt k hk) (part_q c w' ts v),h.ba.mv h.lows (m.mv (by decide) rfl (part_q c w' ts v))⟩,rfl,⟨rfl,rfl⟩,m.mv (by decide) rfl (part_q c w' ts v)⟩
theorem WAt.fleet (h:WAt w B c p ts S) (hq:Flt.FAt w' B c.x.D v F) (t:Rec.Turn Flt.rF c.x.D c.vf v w w'):Wst B c p ts { S with F:=F } w w':=by
 have m:Ch c.x.D Flt.rF (part c ts 4) (part { reR c w' with vf:=v } ts 4) w w':=⟨t.os,t.tape,t.output,t.size,fun k hk hD hb=>t.block k hk hD (fun e=>hb e.symm),fun k hk=>t.loc k hk,fun j hj=>t.rest h.lt h.fl.ne j hj,hq.fz⟩
 exact⟨{ reR c w' with vf:=v },⟨(keepL (c:=c) (S:=S) h m (fun j h1 h2 e=>by have:=e.1;have:=e.2;omega) (fun k hk e=>h.fa.ap 1 4 k (by decide) (by decide) (by decide) hk e)),(m.cell 0 (by decide)).trans h.c0,(m.cell 1 (by decide)).trans h.c1,(m.cell 2 (by decide)).trans h.c2,(m.cell 3 (by decide)).trans h.c3,(keepT (c:=c) (S:=S) h m (fun e=>h.fa.ap 0 4 c.T (by decide) (by decide) (by decide) rfl e)),(keepO (c:=c) (S:=S) h m (by decide) (fun e=>h.fa.ap 2 4 c.G (by decide) (by decide) (by decide) rfl e)),(keepQ (c:=c) (S:=S) h m (by decide) (by decide) (fun k hk e=>h.fa.ap 3 4 k (by decide) (by decide) (by decide) hk e)),hq,(keepB (c:=c) (S:=S) h m (by decide) (fun k hk e=>h.fa.ap 5 4 k (by decide) (by decide) (by decide) hk e)),h.fa.step h.lt h.bD (by decide) m (fun k hk=>hq.rowLt k hk) (part_f c w' ts v),h.ba.mv h.lows (m.mv (by decide) rfl (part_f c w' ts v))⟩,rfl,m.mv (by decide) rfl (part_f c w' ts v)⟩
theorem WAt.buffer (h:WAt w B c p ts S) (hq:Buf.HAt w' B c.x.D v R) (t:Rec.Turn Buf.rB c.x.D c.vb v w w'):Wst B c p ts { S with R:=R } w w':=by
 have m:Ch c.x.D Buf.rB (part c ts 5) (part { reR c w' with vb:=v } ts 5) w w':=⟨t.os,t.tape,t.output,t.size,fun k hk hD hb=>t.block k hk hD (fun e=>hb e.symm),fun k hk=>t.loc k hk,fun j hj=>t.rest h.lt h.bu.ne j hj,hq.fz⟩
 exact⟨{ reR c w' with vb:=v },⟨(keepL (c:=c) (S:=S) h m (fun j h1 h2 e=>by have:=e.1;have:=e.2;omega) (fun k hk e=>h.fa.ap 1 5 k (by decide) (by decide) (by decide) hk e)),(m.cell 0 (by decide)).trans h.c0,(m.cell 1 (by decide)).trans h.c1,(m.cell 2 (by decide)).trans h.c2,(m.cell 3 (by decide)).trans h.c3,(keepT (c:=c) (S:=S) h m (fun e=>h.fa.ap 0 5 c.T (by decide) (by decide) (by decide) rfl e)),(keepO (c:=c) (S:=S) h m (by decide) (fun e=>h.fa.ap 2 5 c.G (by decide) (by decide) (by decide) rfl e)),(keepQ (c:=c) (S:=S) h m (by decide) (by decide) (fun k hk e=>h.fa.ap 3 5 k (by decide) (by decide) (by decide) hk e)),(keepF (c:=c) (S:=S) h m (fun j h1 h2 e=>by have:=e.1;have:=e.2;omega) (fun k hk e=>h.fa.ap 4 5 k (by decide) (by decide) (by decide) hk e)),hq,h.fa.step h.lt h.bD (by decide) m (fun k hk=>hq.rowLt k hk) (part_b c w' ts v),h.ba.mv h.lows (m.mv (by decide) rfl (part_b c w' ts v))⟩,rfl,m.mv (by decide) rfl (part_b c w' ts v)⟩
theorem part_l (c:Pc) (x:Lop.Pl) (_hx:x.D=c.x.D) (ts:List Tr): ∀j,j<6→j≠1→part { c with x:=x } ts j=part c ts j:=by
 intro j hj hn;rcases j with _|_|_|_|_|_|j
 ·rfl
 ·exact absurd rfl hn
 ·rfl
 ·rfl
 ·rfl
 ·rfl
 ·omega
abbrev rP:Nat→Prop:=fun j=>4≤j∧j<43
theorem WAt.loop {V':Nat→Value} {s':Lp} {st':Stb.St} (h:WAt w B c p ts S) (hl:Lop.LAt w' B ⟨c.x.D,c.x.vF,V',c.x.R⟩ p c.ta c.tc ts s' st') (t:Lop.Mv (Lop.blk c.x) (Lop.blk ⟨c.x.D,c.x.vF,V',c.x.R⟩) w w'):Wst B c p ts { S with lp:=s',st:=st' } w w':=by
 have m:Ch c.x.D rP (part c ts 1) (part { c with x:=⟨c.x.D,c.x.vF,V',c.x.R⟩ } ts 1) w w':=by
  refine⟨t.os,t.tape,t.output,t.size,fun k hk hD hb=>t.block k hk (fun e=>hb (Or.inl ⟨e,hD⟩)),fun k hk=> ?_,fun j hj=> ?_,fun j=>hl.fz j⟩
  ·rcases hk with⟨a,e⟩|a
   ·rcases t.loc k a with g|g
    ·exact Or.inl (Or.inl ⟨g,e⟩)
    ·exact Or.inr g
   ·exact Or.inl (Or.inr a)
  ·have hn:j<4∨4+39≤j:=by
    by_cases e:j<4
    ·exact Or.inl e
    ·exact Or.inr (Nat.le_of_not_lt (fun e2=>hj ⟨Nat.le_of_not_lt e,e2⟩))
   exact(hl.rest j hn).trans (h.lo.rest j hn).symm
 exact ⟨{ c with x := ⟨c.x.D, c.x.vF, V', c.x.R⟩ }, ⟨hl, (m.cell 0 (by decide)).trans h.c0, (m.cell 1 (by decide)).trans h.c1, (m.cell 2 (by decide)).trans h.c2, (m.cell 3 (by decide)).trans h.c3, (keepT (c := c) (S := S) h m (fun e => h.fa.ap 0 1 c.T (by decide) (by decide) (by decide) rfl e)), (keepO (c := c) (S := S) h m (by decide) (fun e => h.fa.ap 2 1 c.G (by decide) (by decide) (by decide) rfl e)), (keepQ (c := c) (S := S) h m (by decide) (by decide) (fun k hk e => h.fa.ap 3 1 k (by decide) (by decide) (by decide) hk e)), (keepF (c := c) (S := S) h m (fun j h1 h2 e => by have := e.1; have := e.2; omega) (fun k hk e => h.fa.ap 4 1 k (by decide) (by decide) (by decide) hk e)), (keepB (c := c) (S := S) h m (by decide) (fun k hk e => h.fa.ap 5 1 k (by decide) (by decide) (by decide) hk e)), h.fa.step h.lt h.bD (by decide) m (fun k hk => by
  rcases hk with⟨a,_⟩|⟨off,hp,e⟩
  ·exact(hl.blt a).2
  ·exact hl.tlt hp e) (part_l c ⟨c.x.D,c.x.vF,V',c.x.R⟩ rfl ts),h.ba.mv h.lows (m.mv (by decide) rfl (part_l c ⟨c.x.D,c.x.vF,V',c.x.R⟩ rfl ts))⟩,rfl,m.mv (by decide) rfl (part_l c ⟨c.x.D,c.x.vF,V',c.x.R⟩ rfl ts)⟩
theorem WAt.topic {E O:Nat→Int} (h:WAt w B c p ts S) (hq:Top.TopAt w' c.x.D c.G S.n E O) (t:Top.Only c.G w w'):Wst B c p ts { S with E:=E,O:=O } w w':=by
 have hD:=h.tp.1;have e:w'.heap[c.x.D]? =w.heap[c.x.D]? :=t.block _ hD;have m:Ch c.x.D (fun _=>False) (part c ts 2) (part (reR c w') ts 2) w w':=⟨t.os,t.tape,t.output,Nat.le_of_eq t.size.symm,fun k hk _ hb=>t.block k hb,fun k hk=>Or.inl hk,fun j _=>Xf (w:=w) (a:=⟨c.x.D,j,none⟩) e,fun j=>(Xl (w:=w) (a:=⟨c.x.D,j,none⟩) e).trans (h.fz j)⟩
 exact⟨reR c w',⟨(keepL (c:=c) (S:=S) h m (fun j h1 h2 e=>e) (fun k hk e=>h.fa.ap 1 2 k (by decide) (by decide) (by decide) hk e)),(m.cell 0 (fun e=>e)).trans h.c0,(m.cell 1 (fun e=>e)).trans h.c1,(m.cell 2 (fun e=>e)).trans h.c2,(m.cell 3 (fun e=>e)).trans h.c3,(keepT (c:=c) (S:=S) h m (fun e=>h.fa.ap 0 2 c.T (by decide) (by decide) (by decide) rfl e)),hq,(keepQ (c:=c) (S:=S) h m (fun e=>e) (fun e=>e) (fun k hk e=>h.fa.ap 3 2 k (by decide) (by decide) (by decide) hk e)),(keepF (c:=c) (S:=S) h m (fun j h1 h2 e=>e) (fun k hk e=>h.fa.ap 4 2 k (by decide) (by decide) (by decide) hk e)),(keepB (c:=c) (S:=S) h m (fun e=>e) (fun k hk e=>h.fa.ap 5 2 k (by decide) (by decide) (by decide) hk e)),h.fa.step h.lt h.bD (by decide) m (fun k hk=>by rw [show k=c.G from hk];exact hq.2.2.2.1) (fun j hj _=>by rw [part_reR]),h.ba.mv h.lows (m.mv (c':=reR c _) (by decide) rfl (fun j hj _=>by rw [part_reR]))⟩,rfl,m.mv (by decide) rfl (fun j hj _=>by rw [part_reR])⟩
theorem WAt.trig {b:Bool} (h:WAt w B c p ts S) (ha:a<S.fl.length):Wst B c p ts { S with fl:=S.fl.set a b } w (w.setCell ⟨c.T,a*2+1,none⟩ (.bool b)):=by
 have hD:=(h.fa.lt 0 c.T (by decide) rfl).2.2;have m:Ch c.x.D (fun _=>False) (part c ts 0) (part (reR c (w.setCell ⟨c.T,a*2+1,none⟩ (.bool b))) ts 0) w (w.setCell ⟨c.T,a*2+1,none⟩ (.bool b)):=⟨rfl,rfl,rfl,by simp,fun k hk _ hb=>Below.heap_setCell w _ _ k hb,fun k hk=>Or.inl hk,fun j _=>Xd _ _ _ _ (fun e=>hD (congrArg Addr.block e)),fun j=>by rw [Xi];exact h.fz j⟩
 have hq:TrgAt (w.setCell ⟨c.T,a*2+1,none⟩ (.bool b)) c.T ts (S.fl.set a b):=by
  refine⟨by simpa using h.tr.lt,fun j=>by rw [Xi];exact h.tr.fz j,fun i t ht=> ?_,fun i f hf=> ?_⟩
  ·rw [Xd (h:=fun e=>by have:=congrArg Addr.off e;simp at this;omega)];exact h.tr.k i t ht
  ·by_cases e:a=i
   ·subst e;rw [Ys ha]at hf;cases hf;exact Xn _ _ _ (h.tr.f a _ (Xz ha))
   ·rw [Yt e]at hf;rw [Xd (h:=fun e2=>by have:=congrArg Addr.off e2;simp at this;omega)];exact h.tr.f i f hf
 exact⟨reR c _,⟨(keepL (c:=c) (S:=S) h m (fun j h1 h2 e=>e) (fun k hk e=>h.fa.ap 1 0 k (by decide) (by decide) (by decide) hk e)),(m.cell 0 (fun e=>e)).trans h.c0,(m.cell 1 (fun e=>e)).trans h.c1,(m.cell 2 (fun e=>e)).trans h.c2,(m.cell 3 (fun e=>e)).trans h.c3,hq,(keepO (c:=c) (S:=S) h m (fun e=>e) (fun e=>h.fa.ap 2 0 c.G (by decide) (by decide) (by decide) rfl e)),(keepQ (c:=c) (S:=S) h m (fun e=>e) (fun e=>e) (fun k hk e=>h.fa.ap 3 0 k (by decide) (by decide) (by decide) hk e)),(keepF (c:=c) (S:=S) h m (fun j h1 h2 e=>e) (fun k hk e=>h.fa.ap 4 0 k (by decide) (by decide) (by decide) hk e)),(keepB (c:=c) (S:=S) h m (fun e=>e) (fun k hk e=>h.fa.ap 5 0 k (by decide) (by decide) (by decide) hk e)),h.fa.step h.lt h.bD (by decide) m (fun k hk=>by rw [show k=c.T from hk];exact hq.lt) (fun j hj _=>by rw [part_reR]),h.ba.mv h.lows (m.mv (c':=reR c _) (by decide) rfl (fun j hj _=>by rw [part_reR]))⟩,rfl,m.mv (by decide) rfl (fun j hj _=>by rw [part_reR])⟩
theorem WAt.clock (h:WAt w B c p ts S) (n:Int):Wst B c p ts { S with now:=n } w (w.setCell ⟨c.x.D,0,none⟩ (.int .i64 n)):=by
 have m:Ch c.x.D (fun i=>i=0) (fun _=>False) (fun _=>False) w (w.setCell ⟨c.x.D,0,none⟩ (.int .i64 n)):=⟨rfl,rfl,rfl,by simp,fun k hk hD _=>Below.heap_setCell w _ _ k hD,fun k hk=>hk.elim,fun i hi=>Xd _ _ _ _ (fun e=>hi (congrArg Addr.off e).symm),fun i=>by rw [Xi];exact h.fz i⟩
 have hf:Fam B c.x.D (part (reR c (w.setCell ⟨c.x.D,0,none⟩ (.int .i64 n))) ts) (w.setCell ⟨c.x.D,0,none⟩ (.int .i64 n)):=by
  rw [part_reR]
  exact ⟨fun i k hi hk => by
   obtain⟨x,y,z⟩:=h.fa.lt i k hi hk;exact⟨x,by simpa using y,z⟩,h.fa.ap⟩
 have mv:Mm.Mv (bk c ts) (bk (reR c (w.setCell ⟨c.x.D,0,none⟩ (.int .i64 n))) ts) w (w.setCell ⟨c.x.D,0,none⟩ (.int .i64 n)):=by
  refine⟨rfl,rfl,rfl,by simp,fun k hk hn=>Below.heap_setCell w _ _ k (fun e=>hn (Or.inl e)),fun k hk=> ?_⟩;unfold bk at hk⊢;rw [part_reR]at hk;exact Or.inl hk
 exact⟨reR c _,⟨(keepL (c:=c) (S:=S) h m (fun j h1 h2 (e:j=0)=>by omega) (fun _ _ e=>e)),Xn _ _ _ h.c0,(m.cell 1 (by decide)).trans h.c1,(m.cell 2 (by decide)).trans h.c2,(m.cell 3 (by decide)).trans h.c3,(keepT (c:=c) (S:=S) h m (fun e=>e)),(keepO (c:=c) (S:=S) h m (by decide) (fun e=>e)),(keepQ (c:=c) (S:=S) h m (by decide) (by decide) (fun _ _ e=>e)),(keepF (c:=c) (S:=S) h m (fun j h1 h2 (e:j=0)=>by omega) (fun _ _ e=>e)),(keepB (c:=c) (S:=S) h m (by decide) (fun _ _ e=>e)),hf,h.ba.mv h.lows mv⟩,rfl,mv⟩
theorem WAt.target (h:WAt w B c p ts S) (n:Int):Wst B c p ts { S with tg:=n } w (w.setCell ⟨c.x.D,2,none⟩ (.int .i64 n)):=by
 have m:Ch c.x.D (fun i=>i=2) (fun _=>False) (fun _=>False) w (w.setCell ⟨c.x.D,2,none⟩ (.int .i64 n)):=⟨rfl,rfl,rfl,by simp,fun k hk hD _=>Below.heap_setCell w _ _ k hD,fun k hk=>hk.elim,fun i hi=>Xd _ _ _ _ (fun e=>hi (congrArg Addr.off e).symm),fun i=>by rw [Xi];exact h.fz i⟩
 have hf:Fam B c.x.D (part (reR c (w.setCell ⟨c.x.D,2,none⟩ (.int .i64 n))) ts) (w.setCell ⟨c.x.D,2,none⟩ (.int .i64 n)):=by
  rw [part_reR]
  exact ⟨fun i k hi hk => by
   obtain⟨x,y,z⟩:=h.fa.lt i k hi hk;exact⟨x,by simpa using y,z⟩,h.fa.ap⟩
 have mv:Mm.Mv (bk c ts) (bk (reR c (w.setCell ⟨c.x.D,2,none⟩ (.int .i64 n))) ts) w (w.setCell ⟨c.x.D,2,none⟩ (.int .i64 n)):=by
  refine⟨rfl,rfl,rfl,by simp,fun k hk hn=>Below.heap_setCell w _ _ k (fun e=>hn (Or.inl e)),fun k hk=> ?_⟩;unfold bk at hk⊢;rw [part_reR]at hk;exact Or.inl hk
 exact⟨reR c _,⟨(keepL (c:=c) (S:=S) h m (fun j h1 h2 (e:j=2)=>by omega) (fun _ _ e=>e)),(m.cell 0 (by decide)).trans h.c0,(m.cell 1 (by decide)).trans h.c1,Xn _ _ _ h.c2,(m.cell 3 (by decide)).trans h.c3,(keepT (c:=c) (S:=S) h m (fun e=>e)),(keepO (c:=c) (S:=S) h m (by decide) (fun e=>e)),(keepQ (c:=c) (S:=S) h m (by decide) (by decide) (fun _ _ e=>e)),(keepF (c:=c) (S:=S) h m (fun j h1 h2 (e:j=2)=>by omega) (fun _ _ e=>e)),(keepB (c:=c) (S:=S) h m (by decide) (fun _ _ e=>e)),hf,h.ba.mv h.lows mv⟩,rfl,mv⟩
end

def IntsO (w:World) (a:Option Addr) (n:Nat) (X:Nat→Int) (b:Nat→Prop):Prop:=Ned.IntsAt w a n X∧ ∀g o,0<n→a=some ⟨g,o,none⟩→ ¬b g
theorem IntsO.mv {w w':World} {a:Option Addr} {b b':Nat→Prop} (h:IntsO w a n X b) (m:Mm.Mv b b' w w'):IntsO w' a n X b':=by
 refine⟨fun i hi=> ?_,fun g o hn e=> ?_⟩
 ·obtain⟨g,o,e,hlt,hc,hx⟩:=h.1 i hi;exact⟨g,o,e,Xb hlt m.size,m.cell hc (h.2 g o (by omega) e),hx⟩
 ·obtain⟨g',o',e',hlt,_⟩:=h.1 0 hn;rw [e]at e';cases e';exact m.off hlt (h.2 g o hn e)
theorem IntsO.put {w:World} {a:Option Addr} {k:Nat} {b:Nat→Prop} (h:IntsO w a n X b) (hk: ∀g o,0<n→a=some ⟨g,o,none⟩→g≠k):IntsO (w.setCell ⟨k,j,none⟩ u) a n X b:=by
 refine⟨fun i hi=> ?_,h.2⟩;obtain⟨g,o,e,hlt,hc,hx⟩:=h.1 i hi;refine⟨g,o,e,by simpa using hlt,?_,hx⟩;rw [Xd (h:=fun e2=>hk g o (by omega) e (congrArg Addr.block e2).symm)];exact hc
theorem IntsO.row {w:World} {L:Nat} {b:Nat→Prop} (h:Top.Row1 w L n X) (hX: ∀i,i<n→ -9223372036854775808≤X i∧X i≤9223372036854775807) (hb: ¬b L):IntsO w (some ⟨L,0,none⟩) n X b:=by
 refine⟨fun i hi=>⟨L,0,rfl,h.lt,?_,hX i hi⟩,fun g o _ e=>by cases e;exact hb⟩;rw [Xv];exact h.2.1 i hi
theorem back_idem (now:Int) (L:List Que.M):Que.backL now (Que.backL now L)=Que.backL now L:=by
 unfold Que.backL;rw [List.map_map];refine List.map_congr_left (fun m _=> ?_);show Que.back now (Que.back now m)=Que.back now m;unfold Que.back;by_cases e:m.tk=true∧m.till≤now
 ·rw [if_pos e];simp
 ·rw [if_neg e,if_neg e]
def readT (S:WS) (t:Tr):WS:=if t.k=2 then { S with qL:=Que.backL S.now S.qL } else S
def LagA (B:Nat) (c:Pc) (p:Pd) (ts:List Tr) (S:WS) (t:Tr) (w:World) (e:Ending) (w':World):Prop:=
 ∃la lc c',e=.returned (.slice la (rdOf S t false).n lc)∧(rdOf S t false).n≤20∧WAt w' B c' p ts (readT S t)∧c'.x.D=c.x.D∧Same c c'∧Mm.Mv (bk c ts) (bk c' ts) w w'∧IntsO w' la (rdOf S t false).n (rdOf S t false).X (bk c' ts)∧ ∀g o,0<(rdOf S t false).n→la=some ⟨g,o,none⟩→w.heap.size≤g
section
variable (B : Nat) (c : Pc) (p : Pd) (ts : List Tr) (S : WS) (h k : Nat)
theorem second_any (w:World) (hA:WAt w B c p ts S) (hI:WI ts S h k):
  CB 192 #[.pointer (some ⟨c.x.D,0,none⟩)] w (.int .i64 (secW S)):=by
 have c0:=hA.c0;have c1:=hA.c1;have b1:=hI.nw;have b2:=hI.sc;have HM:Hid (secW S=min (S.sec+S.now) 100000000000):=rfl;clear hA hI;generalize c.x.D=D at*;generalize S.sec=a at*;generalize S.now=b at*;go_enter func192,ntmps192;go_wp2_with fail
 go_quiet (fail)
 go_wp2;go_ret;exact⟨by rw [HM.out];rfl,Top.below_drewN (Below.refl _ _) _⟩
theorem busy_any (w:World) (hA:WAt w B c p ts S) (hI:WI ts S h k):
  CB 195 #[.pointer (some ⟨c.x.D,0,none⟩)] w (.bool (busyW S)):=by
 have cC:=Buf.Count_any B c.x.D c.vb S.R w hA.bu hI.r.len;clear hA hI;generalize c.x.D=D at*;by_cases h1:0<Buf.many (-1) 1 S.R
 ·have HM:Hid (busyW S=true):=by unfold Hid busyW;simp [h1]
  have h2:(0:Int)<(Buf.many (-1) 1 S.R:Int):=by omega
  generalize (Buf.many (-1) 1 S.R:Int)=a at*;generalize (Buf.many (-1) 2 S.R:Int)=b at*;go_enter func195,ntmps195;go_wp2_with(go_at_call 226;(with_reducible refine zg cC fun w1 hb1=>?_))
  go_ret;exact⟨by rw [HM.out];rfl,hb1⟩
 ·have h3:Buf.many (-1) 1 S.R=0:=by omega
  have HM:Hid (busyW S=decide ((Buf.many (-1) 2 S.R:Int)>0)):=by
   unfold Hid busyW;rw [h3];by_cases g:0<Buf.many (-1) 2 S.R
   ·simp [g]
   ·have:Buf.many (-1) 2 S.R=0:=(by omega);simp [this]
  rw [h3]at cC;generalize (Buf.many (-1) 2 S.R:Int)=b at*;go_enter func195,ntmps195;go_wp2_with(go_at_call 226;(with_reducible refine zg cC fun w1 hb1=>?_))
  go_ret;exact⟨by rw [HM.out];rfl,hb1⟩
theorem lags_any (t:Tr) (w:World) (hA:WAt w B c p ts S) (hI:WI ts S h k) (hh:h≤1000):
  Calls prog 225 #[.pointer (some ⟨c.x.D,0,none⟩),.int .i64 t.k] w (LagA B c p ts S t w):=by
 have hbd:=hI.tb;have hn:=hI.n;by_cases h1:t.k=1
 ·have cL:=Top.lags_any c.x.D c.G S.n S.E S.O w hA.tp hn.2 (fun i hi=>by have:=hbd i hi;omega);have er:rdOf S t false=⟨false,S.n,Top.dif S.E S.O⟩:=by unfold rdOf;rw [if_pos h1]
  have es:readT S t=S:=by unfold readT;rw [if_neg (by omega)]
  have HA:=zh hA;have HB:=zh hbd;unfold LagA;rw [er,es,h1];clear hA hI hbd er es h1;generalize hD:c.x.D=D at*;go_enter func225,ntmps225;go_wp2_with(go_at_call 248;(with_reducible refine cL.mono ?_);rintro e w1 ⟨L,rfl,hL,hR,hb1⟩)
  go_ret;have hA1:=HA.out.below hb1;refine⟨_,_,c,rfl,hn.2,hA1,hD,⟨rfl,rfl⟩,Mm.Mv.of_below hb1,IntsO.row hR (fun i hi=> ?_) (fun e=>by have:=(HA.out.low e).2;omega),fun g o _ e=>by cases e;exact hL⟩;have:=HB.out i hi;show _≤S.E i-S.O i∧S.E i-S.O i≤_;omega
 ·by_cases h2:t.k=2
  ·have cL:=Que.depth_yes B c.x.D S.ql c.vq S.qL _ S.now w.drew hA.qu.drew hI.q.len hI.nw.1 hI.nw.2 rfl;have er:rdOf S t false=⟨false,1,fun _=>(Que.depth (Que.backL S.now S.qL):Int)⟩:=by unfold rdOf;rw [if_neg h1,if_pos h2]
   have es:readT S t= { S with qL:=Que.backL S.now S.qL } :=by unfold readT;rw [if_pos h2]
   have hdl:(Que.depth (Que.backL S.now S.qL):Int)≤200:=by
    have:Que.depth (Que.backL S.now S.qL)≤(Que.backL S.now S.qL).length:=Yw;have g:=(hI.q.back S.now).len;omega
   have HA:=zh hA;have c0:=hA.c0;unfold LagA;rw [er,es,h2];clear hA hI hbd er es h1 h2;generalize hd:(Que.depth (Que.backL S.now S.qL):Int)=d at*;have hd0:0≤d:=by omega
   generalize hD:c.x.D=D at*;go_enter func225,ntmps225;go_wp2_with fail
   go_region_with (go_at_call 249;(with_reducible refine cL.mono ?_);rintro e w1 ⟨rfl,v1,hq1,ht1⟩)
   all_goals go_wp2
   all_goals go_ret
   all_goals
    subst hD;obtain⟨c2,a2,e2,f2,m2⟩:=HA.out.queue hq1 ((((Que.Turn.refl (r:=Que.rQ) c.x.D c.vq w)).drew).trans ht1);have hb3:Below w1.heap.size w1 (w1.alloc (.cells #[.int .i64 d] 3)):=(Below.refl _ _).alloc (Xa _) _;refine⟨_,_,c2,rfl,by omega,a2.below hb3,e2,f2,m2.trans (Mm.Mv.of_below hb3),⟨fun i hi=>⟨_,_,rfl,?_,?_,?_⟩,fun g o _ e=> ?_⟩,fun g o _ e=>by cases e;exact m2.size⟩
    ·simp
    ·obtain rfl:i=0:=by omega
     simp
    ·exact⟨by show _≤d;omega,by show d≤_;omega⟩
    ·cases e;exact fun e=>absurd (a2.low e).2 (by omega)
  ·have er:rdOf S t false=⟨false,0,fun _=>0⟩:=by unfold rdOf;rw [if_neg h1,if_neg h2]
   have es:readT S t=S:=by unfold readT;rw [if_neg h2]
   have HA:=zh hA;unfold LagA;rw [er,es];clear hA hI hbd er es;generalize hD:c.x.D=D at*;go_enter func225,ntmps225;go_wp2;go_ret;exact⟨_,_,c,rfl,by omega,HA.out,hD,⟨rfl,rfl⟩,Mm.Mv.refl _ _,⟨fun i hi=>absurd hi (by omega),fun g o hn=>absurd hn (by omega)⟩,fun g o hn=>absurd hn (by omega)⟩
end

theorem info_rd:(prog.info? 305).map (fun i=>(i.zero,i.size,i.bytes))=some (some (.agg #[.bool false,.slice none 0 0]),2,32):=by kernel_rfl
def readK (S:WS) (ts:List Tr) (j:Nat):WS:= { S with qL:=if(ts.take j).any isQ=true then Que.backL S.now S.qL else S.qL }
theorem readK_zero (S:WS) (ts:List Tr):readK S ts 0=S:=by unfold readK;simp
theorem readK_all (S:WS) (ts:List Tr):readK S ts ts.length= { S with qL:=readQ ts S } :=by unfold readK readQ;rw [XC]
theorem any_step {ts:List Tr} (h:ts[j]? =some t):(ts.take (j+1)).any isQ=((ts.take j).any isQ||isQ t):=by
 rw [XB,h];simp
theorem readK_step {S:WS} {ts:List Tr} (h:ts[j]? =some t):readT (readK S ts j) t=readK S ts (j+1):=by
 unfold readT readK;rw [any_step h];unfold isQ;by_cases e:t.k=2
 ·rw [if_pos e];by_cases g:(ts.take j).any (fun t=>t.k==2)=true
  ·simp only [g,if_true,back_idem,Bool.true_or]
  ·simp [g,e]
 ·rw [if_neg e];simp [e]
theorem rdOf_readK (S:WS) (ts:List Tr) (j:Nat) (t:Tr) (f:Bool):(rdOf (readK S ts j) t false).n=(rdOf S t f).n∧(rdOf (readK S ts j) t false).X=(rdOf S t f).X∧(rdOf S t f).f=f:=by
 have e:Que.backL S.now (readK S ts j).qL=Que.backL S.now S.qL:=by
  unfold readK;simp only;split
  ·exact back_idem _ _
  ·rfl
 unfold rdOf;by_cases h1:t.k=1
 ·rw [if_pos h1,if_pos h1];exact⟨rfl,rfl,rfl⟩
 ·rw [if_neg h1,if_neg h1];by_cases h2:t.k=2
  ·rw [if_pos h2,if_pos h2];refine⟨rfl,?_,rfl⟩;show(fun _=>(Que.depth (Que.backL S.now (readK S ts j).qL):Int))=_;rw [e]
  ·rw [if_neg h2,if_neg h2];exact⟨rfl,rfl,rfl⟩
theorem WI.readK {ts:List Tr} {S:WS} {h k:Nat} (g:WI ts S h k) (j:Nat):WI ts (readK S ts j) h k:=by
 refine⟨g.nw,g.sc,g.fl,g.lp,g.la,g.pa,g.n,g.tb,?_,g.qb,g.f,g.fb,g.cn,g.r⟩;unfold Wld.readK;simp only;split
 ·exact g.q.back _
 ·exact g.q
structure RdR (B:Nat) (c:Pc) (p:Pd) (ts:List Tr) (S:WS) (w:World) (G:Nat) (j:Nat) (wr:World) (c1:Pc):Prop where
 a:WAt wr B c1 p ts (readK S ts j)
 d:c1.x.D=c.x.D
 l:Same c c1
 m:Mm.Mv (bk c ts) (bk c1 ts) w wr
 lo:w.heap.size≤G
 lt:G<wr.heap.size
 gn: ¬bk c1 ts G
 fz: ∀q,wr.frozen? ⟨G,q,none⟩=false
 ce: ∀q,q<ts.length*2→ ∃u,wr.cell? ⟨G,q,none⟩=some u
 rd: ∀i r,i<j→(rdsW ts S)[i]? =some r→ ∃la lc,wr.cell? ⟨G,i*2,none⟩=some (.bool r.f)∧wr.cell? ⟨G,i*2+1,none⟩=some (.slice la r.n lc)∧r.n≤20∧IntsO wr la r.n r.X (bk c1 ts)∧ ∀g o,0<r.n→la=some ⟨g,o,none⟩→g≠G
def RdL (B:Nat) (c:Pc) (p:Pd) (ts:List Tr) (S:WS) (w:World) (G:Nat) (i:Value) (wr:World):Prop:= ∃(j:Nat) (c1:Pc),j≤ts.length∧i=.int .i64 j∧RdR B c p ts S w G j wr c1
theorem RdR.below {B:Nat} {c:Pc} {p:Pd} {ts:List Tr} {S:WS} {w:World} {G j:Nat} {wr wy:World} {c1:Pc} (h:RdR B c p ts S w G j wr c1) (g:Below wr.heap.size wr wy):RdR B c p ts S w G j wy c1:=by
 have m:=Mm.Mv.of_below (b:=bk c1 ts) g;refine⟨h.a.below g,h.d,h.l,h.m.trans m,h.lo,Xb h.lt g.size,h.gn,fun q=>(g.frozen (p:=⟨G,q,none⟩) h.lt).trans (h.fz q),fun q hq=> ?_,fun i r hi hr=> ?_⟩
 ·obtain⟨u,hu⟩:=h.ce q hq;exact⟨u,m.cell hu h.gn⟩
 ·obtain⟨la,lc,a1,a2,a3,a4,a5⟩:=h.rd i r hi hr;exact⟨la,lc,m.cell a1 h.gn,m.cell a2 h.gn,a3,a4.mv m,a5⟩
theorem RdR.next {B:Nat} {c:Pc} {p:Pd} {ts:List Tr} {S:WS} {w:World} {w2:World} {c1 c2:Pc} {f:Bool} {la:Option Addr} {lc:Nat} (h:RdR B c p ts S w G j wr c1) (hB:B≤w.heap.size) (ht:ts[j]? =some t) (hf:S.fl[j]? =some f)
  (a2:WAt w2 B c2 p ts (readT (readK S ts j) t)) (d2:c2.x.D=c1.x.D) (l2:Same c1 c2) (m2:Mm.Mv (bk c1 ts) (bk c2 ts) wr w2) (hfz: ∀q,w2.frozen? ⟨G,q,none⟩=false) (hn:(rdOf (readK S ts j) t false).n≤20) (hX:IntsO w2 la (rdOf (readK S ts j) t false).n (rdOf (readK S ts j) t false).X (bk c2 ts)) (hg: ∀g o,0<(rdOf (readK S ts j) t false).n→la=some ⟨g,o,none⟩→g≠G):
  RdR B c p ts S w G (j+1) ((w2.setCell ⟨G,j*2,none⟩ (.bool f)).setCell ⟨G,j*2+1,none⟩ (.slice la (rdOf (readK S ts j) t false).n lc)) c2:=by
 obtain⟨e1,e2,e3⟩:=rdOf_readK S ts j t f;rw [e1,e2]at hX;rw [e1]at hn hg⊢;have hj:j<ts.length:=(Xe.1 ht).1;have gn2: ¬bk c2 ts G:=m2.off h.lt h.gn;have hBG:B≤G:=Xc hB h.lo;have cel: ∀q u,wr.cell? ⟨G,q,none⟩=some u→w2.cell? ⟨G,q,none⟩=some u:=fun q u hu=>m2.cell hu h.gn;rw [readK_step ht]at a2;refine⟨(a2.put gn2 hBG).put gn2 hBG,d2.trans h.d,h.l.trans l2,mv_put (mv_put (h.m.trans m2) h.lo) h.lo,h.lo,by simpa using Xb h.lt m2.size,gn2,fun q=>by rw [Xi,Xi];exact hfz q,fun q hq=> ?_,fun i r hi hr=> ?_⟩
 ·obtain⟨u,hu⟩:=h.ce q hq;have hu2:=cel q u hu;by_cases x:q=j*2+1
  ·subst x;have hx:(w2.setCell ⟨G,j*2,none⟩ (.bool f)).cell? ⟨G,j*2+1,none⟩=some u:=by
    rw [Xd (h:=fun e=>by have:=congrArg Addr.off e;simp at this)];exact hu2
   exact⟨_,Xn _ _ _ hx⟩
  ·by_cases y:q=j*2
   ·subst y;refine⟨.bool f,?_⟩;rw [Xd (h:=fun e=>by have:=congrArg Addr.off e;simp at this)];exact Xn _ _ _ hu2
   ·refine⟨u,?_⟩;rw [Xd (h:=fun e=>x (congrArg Addr.off e).symm),Xd (h:=fun e=>y (congrArg Addr.off e).symm)];exact hu2
 ·by_cases x:i=j
  ·subst x;have er:r=rdOf S t f:=by
    have:(rdsW ts S)[i]? =some (rdOf S t f):=by
     unfold rdsW;rw [List.getElem?_zipWith,ht,hf]
    rw [this]at hr;cases hr;rfl
   subst er;obtain⟨u,hu⟩:=h.ce (i*2) (by omega);obtain⟨v,hv⟩:=h.ce (i*2+1) (by omega);refine⟨la,lc,?_,?_,hn,(hX.put hg).put hg,hg⟩
   ·rw [Xd (h:=fun e=>by have:=congrArg Addr.off e;simp at this),e3];exact Xn _ _ _ (cel _ _ hu)
   ·have hx:(w2.setCell ⟨G,i*2,none⟩ (.bool f)).cell? ⟨G,i*2+1,none⟩=some v:=by
     rw [Xd (h:=fun e=>by have:=congrArg Addr.off e;simp at this)];exact cel _ _ hv
    exact Xn _ _ _ hx
  ·obtain⟨la',lc',b1,b2,b3,b4,b5⟩:=h.rd i r (by omega) hr;refine⟨la',lc',?_,?_,b3,((b4.mv m2).put b5).put b5,b5⟩
   ·rw [Xd (h:=fun e=>by have:=congrArg Addr.off e;simp at this;omega),Xd (h:=fun e=>by have:=congrArg Addr.off e;simp at this;omega)];exact cel _ _ b1
   ·rw [Xd (h:=fun e=>by have:=congrArg Addr.off e;simp at this;omega),Xd (h:=fun e=>by have:=congrArg Addr.off e;simp at this;omega)];exact cel _ _ b2
theorem cell2 {w:World} {C b:Nat} (h:G≠C):((w.setCell ⟨G,a,none⟩ u).setCell ⟨G,b,none⟩ v).cell? ⟨C,j,none⟩=w.cell? ⟨C,j,none⟩:=by
 rw [Xd (h:=fun e=>h (congrArg Addr.block e)),Xd (h:=fun e=>h (congrArg Addr.block e))]
def RdsA (B:Nat) (c:Pc) (p:Pd) (ts:List Tr) (S:WS) (w:World) (e:Ending) (w':World):Prop:=
 ∃(G:Nat) (c1:Pc),e=.returned (.slice (some ⟨G,0,none⟩) ts.length ts.length)∧RdR B c p ts S w G ts.length w' c1
section
variable (B : Nat) (c : Pc) (p : Pd) (ts : List Tr) (S : WS) (h k : Nat)
theorem readings_any (w:World) (hA:WAt w B c p ts S) (hI:WI ts S h k) (hh:h≤1000) (hl5:ts.length≤5) (hB:B≤w.heap.size):
  Calls prog 194 #[.pointer (some ⟨c.x.D,0,none⟩)] w (RdsA B c p ts S w):=by
 obtain⟨i0,hi,hz0,hz1,hz2⟩:=info_parts info_rd;have c3:=hA.c3;have hDl:=hA.lt;have HA:=zh hA;have HI:=zh hI;clear hA hI;generalize hD:c.x.D=D at*;go_enter func194,ntmps194;go_wp2_with(at_make;refine wpList_make_full _ rfl _ _ 285 rfl w.heap.size 305 i0 _ 2 underlying285 hi hz0 hz1 _ _ _ _ ts.length rfl rfl rfl rfl (by rw [hz2];omega) (by unfold maxLen;omega) (Xa _) ?_;intro w1 hown hgrow;have hb1:Below w.heap.size w w1:=(Below.refl _ _).grown hgrow (Xa _) (fun _ h=>by cases h);have c31:w1.cell? ⟨D,3,none⟩=some (.slice (some ⟨c.T,0,none⟩) ts.length ts.length):=(hb1.cell hDl).trans c3)
 have H0:Hid (RdR B c p ts S w w.heap.size 0 w1 c):=by
  have a1:=HA.out.below hb1;have hlt:w.heap.size<w1.heap.size:=(hown.lt _ rfl).2;refine⟨by rw [readK_zero];exact a1,rfl,⟨rfl,rfl⟩,Mm.Mv.of_below hb1,Xa _,hlt,fun e=>absurd (HA.out.low e).2 (XL _),fun q=>hown.frozenAt q,fun q hq=> ?_,fun i r hi=>absurd hi (by omega)⟩;rw [hown.cellAt q hq];have:q<(madeCells #[.bool false,.slice none 0 0] (ts.length*2)).toList.length:=by simp [madeCells];omega
  exact⟨_,Xz this⟩
 clear hown hgrow hb1;go_loopw [17] (fun i wr=>RdL B c p ts S w w.heap.size i wr) (fun i _=>ts.length-(intOf i).toNat)
 case atStart=>exact⟨0,c,by omega,rfl,H0.out⟩
 case round=>
  obtain⟨j,c1,hj,rfl,hR⟩:=hrel;by_cases hlt:j<ts.length
  ·have hlt':(j:Int)<(ts.length:Int):=by omega
   obtain⟨t,ht⟩: ∃t,ts[j]? =some t:=⟨_,Xz hlt⟩
   obtain⟨f,hf⟩: ∃f,S.fl[j]? =some f:=⟨_,Xz (by rw [HI.out.fl];exact hlt)⟩
   have k0:=hR.a.tr.k j t ht;have k1:=hR.a.tr.f j f hf;rw [hR.l.2]at k0 k1;have HR:=zh hR;have HT:Hid (ts[j]? =some t∧S.fl[j]? =some f):=⟨ht,hf⟩
   clear hR ht hf;go_upto_region 5 with fail
   obtain⟨W,hW⟩: ∃W,W=wr.alloc (.cells #[.int .i64 t.k,.bool f] 235):=⟨_,rfl⟩
   have hbW:Below wr.heap.size wr W:=by rw [hW];exact(Below.refl _ _).alloc (Xa _) _
   have x0:W.cell? ⟨wr.heap.size,0,none⟩=some (.int .i64 t.k):=by rw [hW];simp
   have x1:W.cell? ⟨wr.heap.size,1,none⟩=some (.bool f):=by rw [hW];simp
   rw [←hW];clear hW;obtain⟨Wd,hWd⟩: ∃Wd,Wd=W.drew:=⟨_,rfl⟩
   have hbd:Below wr.heap.size wr Wd:=by rw [hWd];exact⟨hbW.os,hbW.tape,hbW.output,hbW.size,hbW.block⟩
   have hR1:RdR B c p ts S w w.heap.size j Wd c1:=HR.out.below hbd;have hC: ¬bk c1 ts wr.heap.size:=fun e=>absurd (HR.out.a.low e).2 (XL _);have hCG:w.heap.size≠wr.heap.size:=Nat.ne_of_lt HR.out.lt;have cL:=lags_any B c1 p ts (readK S ts j) h k t Wd hR1.a (HI.out.readK j) hh;rw [hR1.d,hD]at cL;subst hWd;generalize wr.heap.size=C at*;refine Tk.st 11 [false,false,false,false,false,false,false,false,false,false,false] (S:=fun w'=>w'.cell? ⟨C,0,none⟩=some (.int .i64 t.k)∧w'.cell? ⟨C,1,none⟩=some (.bool f)) (by kernel_rfl) (by kernel_rfl) (⟨x0,x1⟩) (fun hHeld=> ?_)
   iterate 7
    refine Tk.go ?_;(try simp only [Tk.nx,Act.put,ar,ag])
   refine Tk.r1 7 fun K hK=> ?_;go_simp;go_wp2_with((go_at_call 225;(with_reducible refine cL.mono ?_);rintro e w2 ⟨la,lc,c2,rfl,hn2,a2,d2,l2,m2,hX2,hG2⟩;have y0:=m2.cell x0 hC;have y1:=m2.cell x1 hC;have HX2:Hid (_∧_∧_∧_∧_∧_∧_):=⟨hn2,a2,d2,l2,m2,hX2,hG2⟩;clear hn2 a2 d2 l2 m2 hX2 hG2))
   refine hK.out _ _ (⟨y0,y1⟩) (fun hHeld=> ?_);clear hK K;(try simp only [ar])
   iterate 2
    refine Tk.go ?_;(try simp only [Tk.nx,Act.put,ar,ag])
   have gfz: ∀q,w2.frozen? ⟨w.heap.size,q,none⟩=false:=fun q=>(Xl (w:=W.drew) (a:=⟨w.heap.size,q,none⟩) (HX2.out.2.2.2.2.1.block w.heap.size hR1.lt hR1.gn)).trans (hR1.fz q);obtain⟨u1,hu1⟩:=hR1.ce (j*2) (by omega);obtain⟨u2,hu2⟩:=hR1.ce (j*2+1) (by omega);have g1:=HX2.out.2.2.2.2.1.cell hu1 hR1.gn;have g2:=HX2.out.2.2.2.2.1.cell hu2 hR1.gn;have gf1:=gfz (j*2);have gf2:=gfz (j*2+1);refine Tk.r1 10 fun K hK=> ?_;go_simp;refine hK.out _ _ (⟨(cell2 hCG).trans y0,(cell2 hCG).trans y1⟩) (fun hHeld=> ?_);clear hK K;refine wpAnyH_done (by kernel_rfl) ?_ _;go_wp2;go_roundw
   case rel=>
    obtain⟨hn2,a2,d2,l2,m2,hX2,hG2⟩:=HX2.out;refine⟨j+1,c2,hlt,rfl,hR1.next hB HT.out.1 HT.out.2 a2 d2 l2 m2 gfz hn2 hX2 (fun g o hn e=>by have:=hG2 g o hn e;have:=hR1.lt;omega)⟩
   case measure=>simp [intOf];omega
  ·obtain rfl:j=ts.length:=by omega
   go_wp2;go_ret;exact⟨w.heap.size,c1,rfl,hR⟩
end

theorem mm_of {b b':Nat→Prop} {w w':World} (m:Lop.Mv b b' w w'):Mm.Mv b b' w w':=⟨m.os,m.tape,m.output,m.size,m.block,m.loc⟩
theorem RdR.rds {B:Nat} {c:Pc} {p:Pd} {ts:List Tr} {S:WS} {w:World} {wy:World} {c1:Pc} (h:RdR B c p ts S w G ts.length wr c1) (hl:(rdsW ts S).length=ts.length) {b b':Nat→Prop} (m:Mm.Mv b b' wr wy) (hb: ∀k,b k→bk c1 ts k):RdsAt wy (some ⟨G,0,none⟩) (rdsW ts S):=by
 intro i r hr;have hi:i<ts.length:=by have:=(Xe.1 hr).1;omega
 obtain⟨la,lc,a1,a2,a3,a4,_⟩:=h.rd i r hi hr;have hn: ¬b G:=fun e=>h.gn (hb G e);refine⟨G,0,la,lc,rfl,Xb h.lt m.size,?_,?_,by unfold maxLen;omega,fun q hq=> ?_⟩
 ·rw [Xv];exact m.cell a1 hn
 ·rw [Xv];exact m.cell a2 hn
 ·obtain⟨g,o,e,hlt,hc,hx⟩:=a4.1 q hq;exact⟨g,o,e,Xb hlt m.size,m.cell hc (fun x=>a4.2 g o (by omega) e (hb g x)),hx⟩
theorem blk_bk {c:Pc} {ts:List Tr} {k:Nat} (h:Lop.blk c.x k):bk c ts k:=by
 by_cases e:k=c.x.D
 ·exact Or.inl e
 ·exact Or.inr ⟨1,by decide,Or.inl ⟨h,e⟩⟩
section
variable (B : Nat) (c : Pc) (p : Pd) (ts : List Tr) (S : WS) (h k : Nat)
theorem look_at (c1:Pc) (G:Nat) (w0 w:World) (hR:RdR B c p ts S w0 G ts.length w c1) (hI:WI ts S h k) (hP:PlOk p ts) (hU: ∀t∈ts,TrU t) (hk:k≤450000):
  Calls prog 191 #[.pointer (some ⟨c1.x.D,4,none⟩),.int .i64 S.now,.int .i64 (secW S),.int .i64 (Flt.cnt S.F.L),.slice (some ⟨G,0,none⟩) ts.length ts.length,.bool (busyW S)] w (Lop.PLookA B c1.x p c1.ta c1.tc ts (rdsW ts S) S.lp S.st S.now (Flt.cnt S.F.L) (wantW p ts S) (needW p ts S) w):=by
 have hl:=rds_len hI;have b1:=hI.nw;have b2:=hI.sc;have hsec: -100000000000≤secW S∧secW S≤100000000000:=by unfold secW;omega
 have c:=Lop.plook_any B c1.x p c1.ta (some ⟨G,0,none⟩) c1.tc ts.length ts (rdsW ts S) S.lp S.st S.now (secW S) (Flt.cnt S.F.L) (busyW S) (inW (secW S) p.sh) w hR.a.lo (fun wr m=>(hR.a.ba.mv (fun k hk=>(hR.a.low (blk_bk hk)).1) (mm_of m)).bds) hP hU hI.lp.fl (hI.lp.big (by omega)) (fun wr m=>hR.rds hl (mm_of m) (fun k hk=>blk_bk hk)) hl
  (fun t _ _=>inW_iff _ _ t) ⟨hI.la,b1.2⟩ hsec ⟨by omega,hI.cn⟩ hI.lp.nd hI.lp.la.1 (2*k) hI.lp.fi (by omega)
 rw [hl]at c;exact c
theorem scale_any (w:World) (hA:WAt w B c p ts S) (hI:WI ts S h k) (hh:h≤1000) (hk:k≤450000) (hP:PlOk p ts) (hU: ∀t∈ts,TrU t):
  Calls prog 142 #[.pointer (some ⟨c.x.D,0,none⟩)] w fun e w'=>e=.returned (.tuple #[])∧Wst B c p ts (lookW p ts S) w w':=by
 have hl5:=hP.len;have hlen:S.F.L.length≤1000000000:=by have:=hI.len;omega
 have hbd:Below w.heap.size w w.drew:=Mm.bdrew w;have HA0:Hid (WAt w.drew B c p ts S):=hA.below hbd;have c0:=hA.c0;have cS:=second_any B c p ts S h k w.drew HA0.out hI;have HI:=zh hI;have HA:=zh hA;have hDl:=hA.lt;generalize hD:c.x.D=D at*;clear hA hI;go_enter func142,ntmps142;go_upto_region 0 with fail
 refine Tk.st 25 [false,false,false,false,false,false,false,false,false,false,false,false,false,false,false,false,false,false,false,false,false,false,false,false,false] (S:=fun w'=>w'.cell? ⟨D,0,none⟩=some (.int .i64 S.now)) (by kernel_rfl) (by kernel_rfl) (c0) (fun hHeld=> ?_)
 iterate 9
  refine Tk.go ?_;(try simp only [Tk.nx,Act.put,ar,ag])
 refine Tk.gi 10 ?_;(try simp only [Act.put,ar,ag]);refine Tk.gi 11 ?_;(try simp only [Act.put,ar,ag]);refine Tk.gi 12 ?_;(try simp only [Act.put,ar,ag]);refine Tk.gi 14 ?_;(try simp only [Act.put,ar,ag]);refine Tk.gi 16 ?_;(try simp only [Act.put,ar,ag]);refine Tk.r1 9 fun K hK=> ?_;go_simp;go_wp2_with((go_at_call 192;(with_reducible refine zg cS fun w1 hb1=>?_);have HA1:Hid (WAt w1 B c p ts S):=HA0.out.below hb1;have q1:=HA1.out.c0;rw [hD]at q1))
 refine hK.out _ _ (q1) (fun hHeld=> ?_);clear hK K;(try simp only [ar]);refine Tk.r1 13 fun K hK=> ?_;go_simp;go_wp2_with((go_at_call 193;have cC:=Flt.count_any B c.x.D c.vf S.F w1 HA1.out.fl hlen;rw [hD]at cC;(with_reducible refine zg cC fun w2 hb2=>?_);clear cC;have HA2:Hid (WAt w2 B c p ts S):=HA1.out.below hb2;have q2:=HA2.out.c0;rw [hD]at q2))
 refine hK.out _ _ (q2) (fun hHeld=> ?_);clear hK K;(try simp only [ar]);refine Tk.r1 15 fun K hK=> ?_;go_simp;go_wp2_with((go_at_call 194;have cR:=readings_any B c p ts S h k w2 HA2.out HI.out hh hl5 (Xw (Nat.lt_of_le_of_lt HA2.out.bD HA2.out.lt));rw [hD]at cR;(with_reducible refine cR.mono ?_);rintro e w3 ⟨G,c1,rfl,hR3⟩;clear cR;have HR3:=zh hR3;clear hR3;have q3:=HR3.out.a.c0;rw [HR3.out.d,hD]at q3;dsimp only [readK]at q3))
 refine hK.out _ _ (q3) (fun hHeld=> ?_);clear hK K;(try simp only [ar]);refine Tk.r1 17 fun K hK=> ?_;go_simp;go_wp2_with((go_at_call 195;have cB:=busy_any B c1 p ts (readK S ts ts.length) h k w3 HR3.out.a (HI.out.readK _);rw [HR3.out.d,hD,show busyW (readK S ts ts.length)=busyW S from rfl]at cB;(with_reducible refine zg cB fun w4 hb4=>?_);clear cB;have HR4:Hid (RdR B c p ts S w2 G ts.length w4 c1):=HR3.out.below hb4;have q4:=HR4.out.a.c0;rw [HR4.out.d,hD]at q4;dsimp only [readK]at q4))
 refine hK.out _ _ (q4) (fun hHeld=> ?_);clear hK K;(try simp only [ar]);refine Tk.r1 18 fun K hK=> ?_;go_simp;go_wp2_with((go_at_call 191;have cK:=look_at B c p ts S h k c1 G w2 w4 HR4.out HI.out hP hU hk;rw [HR4.out.d,hD]at cK;(with_reducible refine cK.mono ?_);rintro e w5 ⟨rfl,V5,hl5,hm5⟩;clear cK;obtain⟨c5,a5,d5,m5⟩:=HR4.out.a.loop hl5 hm5;clear hl5 hm5;have HX5:Hid (WAt w5 B c5 p ts _∧c5.x.D=c1.x.D∧Mm.Mv (bk c1 ts) (bk c5 ts) w4 w5):=⟨a5,d5,m5⟩;have q5:=a5.c0;have q52:=a5.c2;have f52:=a5.fz 2;rw [d5,HR4.out.d,hD]at q5 q52 f52;dsimp only [readK]at q5 q52;clear a5 d5 m5))
 refine hK.out _ _ (q5) (fun hHeld=> ?_);clear hK K;(try simp only [ar])
 iterate 5
  refine Tk.go ?_;(try simp only [Tk.nx,Act.put,ar,ag])
 refine Tk.r1 24 fun K hK=> ?_;go_simp;refine hK.out _ _ (by rw [Xd (h:=fun e=>by cases e)];exact q5) (fun hHeld=> ?_);clear hK K;refine wpAnyH_done (by kernel_rfl) ?_ _;generalize hN:Lop.lookP p S.lp S.st S.now (Flt.cnt S.F.L) (wantW p ts S) (needW p ts S)=N at*;have hD5:c5.x.D=D:=(HX5.out.2.1.trans HR4.out.d).trans hD;obtain⟨c6,a6,d6,m6⟩:=HX5.out.1.target N;rw [hD5]at a6 m6 d6;generalize w5.setCell ⟨D,2,none⟩ (.int .i64 N)=w6 at*;have hD6:c6.x.D=D:=d6;have HA6:Hid (WAt w6.drew B c6 p ts _):=a6.below (Mm.bdrew w6);have HM6:Hid (Mm.Mv (bk c5 ts) (bk c6 ts) w5 w6.drew):=m6.trans (Mm.Mv.of_below (Mm.bdrew w6));have q6:=a6.c2;rw [hD6]at q6;have cF:=Flt.scale_any S.F N HI.out.f (by have:=HI.out.fb;omega) B c6.x.D c6.vf w6.drew HA6.out.fl;rw [hD6]at cF;clear a6 m6 d6;dsimp only at q6;go_upto_region 1 with fail
 refine Tk.st 8 [false,false,false,false,false,false,false,false] (S:=fun w'=>w'.cell? ⟨D,2,none⟩=some (.int .i64 N)) (by kernel_rfl) (by kernel_rfl) (q6) (fun hHeld=> ?_)
 iterate 7
  refine Tk.go ?_;(try simp only [Tk.nx,Act.put,ar,ag])
 refine Tk.r1 7 fun K hK=> ?_;go_simp;go_wp2_with((go_at_call 196;(with_reducible refine cF.mono ?_);rintro e w7 ⟨rfl,v7,hf7,ht7⟩;rw [←hD6]at hf7 ht7;obtain⟨c7,a7,d7,m7⟩:=HA6.out.fleet hf7 ht7;have HX7:Hid (WAt w7 B c7 p ts _∧c7.x.D=c6.x.D∧Mm.Mv (bk c6 ts) (bk c7 ts) w6.drew w7):=⟨a7,d7,m7⟩;have q7:=a7.c2;rw [d7,hD6]at q7;clear a7 d7 m7 hf7 ht7))
 refine hK.out _ _ (q7) (fun hHeld=> ?_);clear hK K;(try simp only [ar]);refine wpAnyH_done (by kernel_rfl) ?_ _;go_end0;have e:({ readK S ts ts.length with lp:=nextL S.lp ts (rdsW ts S) S.now (needW p ts S),st:=Lop.nextS p S.lp S.st S.now (Flt.cnt S.F.L) (wantW p ts S) (needW p ts S),tg:=N,F:=Flt.scaleF S.F N } :WS)=lookW p ts S:=by
  rw [readK_all,←hN];rfl
 rw [←e];have hR:=HR4.out;have m0:Mm.Mv (bk c ts) (bk c ts) w w2:=Mm.Mv.of_below (hbd.trans ((hb1.mono hbd.size).trans (hb2.mono (Xc hbd.size hb1.size))));exact⟨rfl,c7,HX7.out.1,(HX7.out.2.1.trans hD6).trans hD.symm,(((m0.trans hR.m).trans HX5.out.2.2).trans HM6.out).trans HX7.out.2.2⟩
end

theorem next_run (h:Buf.nextB R=true): ∃(i:Nat) (r:Buf.Rq),R[i]? =some r∧Buf.runOk R i r=true∧Buf.nextN R=(i:Int)+1:=by
 rcases Buf.may_next R with⟨_,_,h3⟩|⟨x,l,h1,h2,_⟩
 ·rw [h3]at h;cases h
 ·have:x∈Buf.mayL R R.length:=by rw [h1];simp
  obtain⟨i,r,_,hr,ho,hx⟩:=(Buf.mem_mayL R R.length x).1 this;exact⟨i,r,hr,ho,h2.trans hx⟩
theorem run_next {r:Buf.Rq} (hr:R[i]? =some r) (ho:Buf.runOk R i r=true) (hn:Buf.nextN R=(i:Int)+1) (pod:Int):Buf.runL R (Buf.nextN R) pod=R.set i ⟨r.id,r.src,r.til,2,pod⟩∧Buf.runE R (Buf.nextN R)=0:=by
 rw [hn];exact⟨(Buf.run_ok hr ho).2,(Buf.run_ok (pod:=pod) hr ho).1⟩
theorem ok_fat {r:Buf.Rq} (ho:Buf.runOk R i r=true):r.fat=1:=by
 unfold Buf.runOk Buf.mayRun at ho;simp only [Xq,beq_iff_eq]at ho;exact ho.1.1
theorem many_set: ∀(R:List Buf.Rq) (i:Nat) (r q:Buf.Rq),R[i]? =some r→r.fat=1→q.fat=2→Buf.many (-1) 1 (R.set i q)+1=Buf.many (-1) 1 R
 | [],i,r,q,h,_,_=>by simp at h
 |x::R,0,r,q,h,h1,h2=>by
  simp at h
  subst h
  unfold Buf.many
  rw [List.set_cons_zero,Yp,Yp]
  simp [Buf.isOf,h1,h2]
 |x::R,i+1,r,q,h,h1,h2=>by
  have:=many_set R i r q (by simpa using h) h1 h2
  unfold Buf.many at*
  rw [List.set_cons_succ,Yp,Yp]
  omega
theorem many_next (h:Buf.nextB R=true) (pod:Int):Buf.many (-1) 1 (Buf.runL R (Buf.nextN R) pod)+1=Buf.many (-1) 1 R:=by
 obtain⟨i,r,hr,ho,hn⟩:=next_run h;rw [(run_next hr ho hn pod).1];exact many_set R i r _ hr (ok_fat ho) rfl
theorem give_len (F:Flt.FS):(Flt.giveS F).L.length=F.L.length:=by
 cases hp:Flt.pick (Flt.room F.most) Flt.given F.L 0 none with
 |none=>rw [(Flt.give_none hp).1]
 |some x=>rw [(Flt.give_some (i:=x.1) (p:=x.2) hp).1];simp
theorem give_no (h:Flt.giveE F≠0):Flt.giveS F=F:=by
 cases hp:Flt.pick (Flt.room F.most) Flt.given F.L 0 none with
 |none=>exact(Flt.give_none hp).1
 |some x=>exact absurd (Flt.give_some (i:=x.1) (p:=x.2) hp).2.2 h
theorem on_stop (h: ¬(Buf.nextB R=true∧Flt.giveE F=0)): ∀k,onF k F R=(F,R)
 |0=>rfl
 |k+1=>by unfold onF;rw [if_neg h]
theorem on_step (h:Buf.nextB R=true∧Flt.giveE F=0) (k:Nat):onF (k+1) F R=onF k (Flt.giveS F) (Buf.runL R (Buf.nextN R) (Flt.giveN F)):=by
 rw [onF,if_pos h]
structure HoS (B:Nat) (c:Pc) (p:Pd) (ts:List Tr) (S:WS) (w:World) (g:Nat) (wr:World) (c1:Pc) (F:Flt.FS) (R:List Buf.Rq):Prop where
 a:WAt wr B c1 p ts { S with F:=F,R:=R }
 d:c1.x.D=c.x.D
 m:Mm.Mv (bk c ts) (bk c1 ts) w wr
 e:onF g F R=onF S.R.length S.F S.R
 f:Flt.Inv F
 r:Buf.Inv R
 n:Buf.many (-1) 1 R≤g
 l:F.L.length≤1000000000
def HoR (B:Nat) (c:Pc) (p:Pd) (ts:List Tr) (S:WS) (w:World) (g:Nat) (wr:World):Prop:= ∃c1 F R,HoS B c p ts S w g wr c1 F R
theorem HoS.stop {B:Nat} {c:Pc} {p:Pd} {ts:List Tr} {S:WS} {w:World} {g:Nat} {c1:Pc} (h:HoS B c p ts S w g wr c1 F R) (hn: ¬(Buf.nextB R=true∧Flt.giveE F=0)):Wst B c p ts (onW S) w wr:=by
 have e:=h.e;rw [on_stop hn]at e;refine⟨c1,?_,h.d,h.m⟩;unfold onW;rw [←e];exact h.a
section
variable (B : Nat) (c : Pc) (p : Pd) (ts : List Tr) (S : WS) (h k : Nat)
theorem handOn_any (w:World) (hA:WAt w B c p ts S) (hI:WI ts S h k) (hk:k≤1000000):
  Calls prog 143 #[.pointer (some ⟨c.x.D,0,none⟩)] w fun e w'=>e=.returned (.tuple #[])∧Wst B c p ts (onW S) w w':=by
 have hlen:S.F.L.length≤1000000000:=by have:=hI.len;omega
 have H0:Hid (HoS B c p ts S w S.R.length w c S.F S.R):=⟨hA,rfl,Mm.Mv.refl _ _,rfl,hI.f,hI.r,Yw,hlen⟩
 generalize hD:c.x.D=D at*;clear hA hI hlen;go_enter func143,ntmps143;go_wp2_with fail
 go_loopg [] S.R.length (fun gk wr=>HoR B c p ts S w gk wr)
 case atStart=>exact⟨c,S.F,S.R,H0.out⟩
 case round=>
  obtain⟨c1,F,R,hS⟩:=hrel;have hD1:c1.x.D=D:=hS.d.trans hD;have HS:=zh hS;have cN:=Buf.next_any B c1.x.D c1.vb R wr hS.a.bu hS.r;rw [hD1]at cN;clear hS;cases hn:Buf.nextB R with
  |false=>
   rw [hn]at cN;go_wp2_with(go_at_call 197;(with_reducible refine zg cN fun w1 hb1=>?_))
   (try simp only [Exit.inBlock,Exit.then]);refine bodyPost_ret (results_none rfl _ _ _) rfl ?_;exact⟨rfl,(HS.out.stop (by simp [hn])).below hb1⟩
  |true=>
   rw [hn]at cN;have HN:=zh hn;clear hn;have hL:=HS.out.l;have hFi:=HS.out.f;by_cases hg:Flt.giveE F=0
   ·have HG:=zh hg
    go_wp2_with (first
     |(go_at_call 197;(with_reducible refine zg cN fun w1 hb1=>?_);clear cN;have HA1:Hid (WAt w1 B c1 p ts { S with F:=F,R:=R }):=HS.out.a.below hb1)
     |(go_at_call 198;have cG:=Flt.give_any F hFi hL B c1.x.D c1.vf w1 HA1.out.fl;rw [hD1,HG.out]at cG;(with_reducible refine cG.mono ?_);rintro e w2 ⟨rfl,v2,hf2,ht2⟩;clear cG;rw [←hD1]at hf2 ht2;obtain⟨c2,a2,d2,m2⟩:=HA1.out.fleet hf2 ht2;clear hf2 ht2;have HX2:Hid (WAt w2 B c2 p ts { S with F:=Flt.giveS F,R:=R } ∧c2.x.D=c1.x.D∧Mm.Mv (bk c1 ts) (bk c2 ts) w1 w2):=⟨a2,d2,m2⟩;clear a2 d2 m2;have hD2:c2.x.D=D:=HX2.out.2.1.trans hD1)
     |(go_at_call 199;have cR:=Buf.run_any R (Buf.nextN R) (Flt.giveN F) HS.out.r B c2.x.D c2.vb w2 HX2.out.1.bu;rw [hD2]at cR;(with_reducible refine cR.mono ?_);rintro e w3 ⟨rfl,v3,hb3,ht3⟩;clear cR;rw [←hD2]at hb3 ht3;obtain⟨c3,a3,d3,m3⟩:=HX2.out.1.buffer hb3 ht3;clear hb3 ht3;have HX3:Hid (WAt w3 B c3 p ts { S with F:=Flt.giveS F,R:=Buf.runL R (Buf.nextN R) (Flt.giveN F) } ∧c3.x.D=c2.x.D∧Mm.Mv (bk c2 ts) (bk c3 ts) w2 w3):=⟨a3,d3,m3⟩;clear a3 d3 m3))
    have hm:=many_next HN.out (Flt.giveN F);have hgn:=HS.out.n;go_roundg (gk-1)
    case rel=>
     refine⟨c3,Flt.giveS F,Buf.runL R (Buf.nextN R) (Flt.giveN F),HX3.out.1,(HX3.out.2.1.trans HX2.out.2.1).trans HS.out.d,((HS.out.m.trans (Mm.Mv.of_below hb1)).trans HX2.out.2.2).trans HX3.out.2.2,?_,Flt.give_inv hFi,Buf.run_inv HS.out.r _ _,by omega,by rw [give_len];exact hL⟩;rw [←HS.out.e,←on_step ⟨HN.out,HG.out⟩ (gk-1),show gk-1+1=gk by omega]
    case measure=>omega
   ·have HG:=zh hg;have hge:(Flt.giveE F !=0)=true:=by simp [hg]
    go_wp2_with (first
     |(go_at_call 197;(with_reducible refine zg cN fun w1 hb1=>?_);clear cN;have HA1:Hid (WAt w1 B c1 p ts { S with F:=F,R:=R }):=HS.out.a.below hb1)
     |(go_at_call 198;have cG:=Flt.give_any F hFi hL B c1.x.D c1.vf w1 HA1.out.fl;rw [hD1,give_no HG.out]at cG;(with_reducible refine cG.mono ?_);rintro e w2 ⟨rfl,v2,hf2,ht2⟩;clear cG;rw [←hD1]at hf2 ht2;obtain⟨c2,a2,d2,m2⟩:=HA1.out.fleet hf2 ht2;clear hf2 ht2;have HX2:Hid (WAt w2 B c2 p ts { S with F:=F,R:=R } ∧c2.x.D=c1.x.D∧Mm.Mv (bk c1 ts) (bk c2 ts) w1 w2):=⟨a2,d2,m2⟩;clear a2 d2 m2))
    (try simp only [Exit.inBlock,Exit.then]);refine bodyPost_ret (results_none rfl _ _ _) rfl ?_;have hs:=HS.out;exact⟨rfl,HoS.stop (c1:=c2) (F:=F) (R:=R) (g:=gk) ⟨HX2.out.1,HX2.out.2.1.trans hs.d,(hs.m.trans (Mm.Mv.of_below hb1)).trans HX2.out.2.2,hs.e,hs.f,hs.r,hs.n,hs.l⟩ (fun e=>HG.out e.2)⟩
end

def TkR (B:Nat) (c:Pc) (p:Pd) (ts:List Tr) (S:WS) (m:Nat) (w:World) (i:Value) (wr:World):Prop:= ∃(j:Nat) (c1:Pc),j≤m∧i=.int .i64 j∧WAt wr B c1 p ts (tickW p ts j S)∧c1.x.D=c.x.D∧Mm.Mv (bk c ts) (bk c1 ts) w wr
section
variable (B : Nat) (c : Pc) (p : Pd) (ts : List Tr) (S : WS) (h k : Nat)
theorem tick_no (n:Int) (w:World) (hA:WAt w B c p ts S) (hI:WI ts S h k) (hn:tickE S n≠0):
  Calls prog 103 #[.pointer (some ⟨c.x.D,0,none⟩),.int .i64 n] w fun e w'=>e=.returned (.int .i64 (tickE S n))∧Wst B c p ts S w w':=by
 have e1:tickE S n=1:=by unfold tickE at*;split at hn<;>simp_all
 have hno: ¬((1≤n∧n≤1000)∧S.now+n≤1099511627776):=fun e=>hn (by unfold tickE;rw [if_pos e]);rw [e1];have c0:=hA.c0;have b1:=hI.nw;have HA:Hid (Wst B c p ts S w w):=Wst.refl hA;clear hA hI hn e1;generalize c.x.D=D at*;by_cases h1:n<1
 ·go_enter func103,ntmps103;go_wp2;go_ret;exact⟨rfl,HA.out⟩
 ·by_cases h2:1000<n
  ·go_enter func103,ntmps103;go_wp2;go_ret;exact⟨rfl,HA.out⟩
  ·have h3:1099511627776<S.now+n:=by omega
   generalize S.now=a at*;go_enter func103,ntmps103;go_wp2;go_ret;exact⟨rfl,HA.out⟩
theorem tick_yes (m:Nat) (w:World) (hA:WAt w B c p ts S) (hI:WI ts S h k) (hh:h≤1000) (hk:k≤400000) (hP:PlOk p ts) (hU: ∀t∈ts,TrU t) (h1:1≤m) (h2:m≤1000) (h3:S.now+m≤1099511627776):
  Calls prog 103 #[.pointer (some ⟨c.x.D,0,none⟩),.int .i64 (m:Int)] w fun e w'=>e=.returned (.int .i64 0)∧Wst B c p ts (tickW p ts m S) w w':=by
 have c0:=hA.c0;have b1:=hI.nw;have g1: ¬(m:Int)<1:=by omega
 have g2: ¬(1000:Int)<(m:Int):=by omega
 have g3: ¬(1099511627776:Int)<S.now+m:=by omega
 have HA:=zh hA;have HI:=zh hI;have H3:=zh h3;clear hA hI;generalize hD:c.x.D=D at*;generalize hN:S.now=a0 at*;go_enter func103,ntmps103;go_wp2_with fail
 go_loopw [21] (fun i wr=>TkR B c p ts S m w i wr) (fun i _=>m-(intOf i).toNat)
 case atStart=>exact⟨0,c,by omega,rfl,HA.out,rfl,Mm.Mv.refl _ _⟩
 case round=>
  obtain⟨j,c1,hj,rfl,hA1,hd1,hm1⟩:=hrel;by_cases hlt:j<m
  ·have hlt':(j:Int)<(m:Int):=by omega
   have hIT:=HI.out.ticks hP j (show S.now+(j:Int)≤1099511627776 by omega);have hnw:(tickW p ts j S).now=S.now+j:=tickW_now j S;obtain⟨T,hT⟩: ∃T,T=tickW p ts j S:=⟨_,rfl⟩
   rw [←hT]at hA1 hIT hnw;have HM:=zh hm1;have hD1:c1.x.D=D:=hd1.trans hD;obtain⟨a,ha⟩: ∃a,a=T.now:=⟨_,rfl⟩
   have HT:Hid (T.now=a):=ha.symm;have HIT:=zh hIT;have ba:0≤a∧a+1≤1099511627776:=by rw [ha,hnw];omega
   have HIL:Hid (WI ts (lateW T) h (k+j)):=hIT.late (by rw [←ha];exact ba.2);have HID:Hid (WI ts (dueW p ts (lateW T)) h (k+j+1)):=HIL.out.due hP;have q0:=hA1.c0;have f0:=hA1.fz 0;rw [hD1,←ha]at q0;rw [hD1]at f0;obtain⟨ca,aa,da,ma⟩:=hA1.clock (T.now+1);rw [←ha,hD1]at aa ma;have hDa:ca.x.D=D:=da.trans hD1;have HXa:Hid (WAt (wr.setCell ⟨D,0,none⟩ (.int .i64 (a+1))) B ca p ts { T with now:=T.now+1 } ∧ca.x.D=D∧Mm.Mv (bk c1 ts) (bk ca ts) wr (wr.setCell ⟨D,0,none⟩ (.int .i64 (a+1)))):=⟨by rw [ha]at aa⊢;exact aa,hDa,ma⟩
   clear hA1 hm1 aa da ma hIT hnw hd1 ha;cases hdu:Lop.dueP p T.lp (a+1)with
   |true=>
    have HDu:=zh hdu;have HDw:Hid (dueW p ts (lateW T)=lookW p ts (lateW T)):=by
     unfold Hid dueW;rw [if_pos (by show Lop.dueP p T.lp (T.now+1)=true;rw [HT.out];exact hdu)]
    clear hdu;go_upto_region 6 with fail
    generalize wr.setCell ⟨D,0,none⟩ (.int .i64 (a+1))=w1 at*;clear q0 f0;have HA1:Hid (WAt w1.drew B ca p ts { T with now:=T.now+1 }):=HXa.out.1.below (Mm.bdrew w1);have cLt:=Buf.late_any B ca.x.D ca.vb T.R (a+1) w1.drew HA1.out.bu HIT.out.r (by omega) (by omega);rw [hDa]at cLt;have q1:=HXa.out.1.c0;rw [hDa]at q1;dsimp only at q1;rw [HT.out]at q1;refine Tk.st 8 [false,false,false,false,false,false,false,false] (S:=fun w'=>w'.cell? ⟨D,0,none⟩=some (.int .i64 (a+1))) (by kernel_rfl) (by kernel_rfl) (q1) (fun hHeld=> ?_)
    iterate 7
     refine Tk.go ?_;(try simp only [Tk.nx,Act.put,ar,ag])
    refine Tk.r1 7 fun K hK=> ?_;go_simp;go_wp2_with((go_at_call 140;(with_reducible refine cLt.mono ?_);rintro e w2 ⟨o,rfl,ho2,hb2,ht2⟩;clear ho2;rw [←hDa]at hb2 ht2;obtain⟨c2,a2,d2,m2⟩:=HA1.out.buffer hb2 ht2;clear hb2 ht2;have HX2:Hid (WAt w2 B c2 p ts (lateW T)∧c2.x.D=ca.x.D∧Mm.Mv (bk ca ts) (bk c2 ts) w1.drew w2):=⟨by rw [←HT.out]at a2;exact a2,d2,m2⟩;have hD2:c2.x.D=D:=d2.trans hDa;have q2:=a2.c0;rw [hD2]at q2;dsimp only [lateW]at q2;rw [HT.out]at q2;clear a2 d2 m2))
    refine hK.out _ _ (q2) (fun hHeld=> ?_);clear hK K;(try simp only [ar]);refine wpAnyH_done (by kernel_rfl) ?_ _;clear cLt;go_upto_region 7 with fail
    refine Tk.st 8 [false,false,false,false,false,false,false,false] (S:=fun w'=>w'.cell? ⟨D,0,none⟩=some (.int .i64 (a+1))) (by kernel_rfl) (by kernel_rfl) (q2) (fun hHeld=> ?_)
    iterate 7
     refine Tk.go ?_;(try simp only [Tk.nx,Act.put,ar,ag])
    refine Tk.r1 7 fun K hK=> ?_;go_simp;go_wp2_with((go_at_call 141;have cD:=Lop.due_any B c2.x p c2.ta c2.tc ts T.lp T.st (a+1) w2.drew (HX2.out.1.below (Mm.bdrew w2)).lo HIT.out.lp.la hP.po;rw [hD2,HDu.out]at cD;(with_reducible refine zg cD fun w3 hb3=>?_);clear cD;have HX3:Hid (WAt w3 B c2 p ts (lateW T)∧Mm.Mv (bk ca ts) (bk c2 ts) w1.drew w3):=⟨(HX2.out.1.below (Mm.bdrew w2)).below hb3,HX2.out.2.2.trans (Mm.Mv.of_below ((Mm.bdrew w2).trans (hb3.mono (Mm.bdrew w2).size)))⟩;have q3:=HX3.out.1.c0;rw [hD2]at q3;dsimp only [lateW]at q3;rw [HT.out]at q3))
    refine hK.out _ _ (q3) (fun hHeld=> ?_);clear hK K;(try simp only [ar]);refine wpAnyH_done (by kernel_rfl) ?_ _
    go_wp2_with (first
     |(go_at_call 142;have cS:=scale_any B c2 p ts (lateW T) h (k+j) w3 HX3.out.1 HIL.out hh (by omega) hP hU;rw [hD2]at cS;(with_reducible refine cS.mono ?_);rintro e w4 ⟨rfl,c4,a4,d4,m4⟩;clear cS;have HX4:Hid (WAt w4 B c4 p ts (dueW p ts (lateW T))∧Mm.Mv (bk ca ts) (bk c4 ts) w1.drew w4):=⟨by rw [HDw.out];exact a4,HX3.out.2.trans m4⟩;have hD4:c4.x.D=D:=d4.trans hD2;clear a4 d4 m4)
     |(go_at_call 143;have cO:=handOn_any B c4 p ts (dueW p ts (lateW T)) h (k+j+1) w4 HX4.out.1 HID.out (by omega);rw [hD4]at cO;(with_reducible refine cO.mono ?_);rintro e w9 ⟨rfl,c9,a9,d9,m9⟩;clear cO;have HX9:Hid (WAt w9 B c9 p ts (tick1 p ts T)∧c9.x.D=D∧Mm.Mv (bk ca ts) (bk c9 ts) w1.drew w9):=⟨a9,d9.trans hD4,HX4.out.2.trans m9⟩;clear a9 d9 m9))
    go_roundw
    case rel=>
     refine⟨j+1,c9,by omega,rfl,?_,HX9.out.2.1.trans hD.symm,((HM.out.trans HXa.out.2.2).trans (Mm.Mv.of_below (Mm.bdrew w1))).trans HX9.out.2.2⟩;rw [tickW_succ,←hT];exact HX9.out.1
    case measure=>simp [intOf];omega
   |false=>
    have HDu:=zh hdu;have HDw:Hid (dueW p ts (lateW T)=lateW T):=by
     unfold Hid dueW;rw [if_neg (by show¬Lop.dueP p T.lp (T.now+1)=true;rw [HT.out,hdu];decide)]
    clear hdu;go_upto_region 6 with fail
    generalize wr.setCell ⟨D,0,none⟩ (.int .i64 (a+1))=w1 at*;clear q0 f0;have HA1:Hid (WAt w1.drew B ca p ts { T with now:=T.now+1 }):=HXa.out.1.below (Mm.bdrew w1);have cLt:=Buf.late_any B ca.x.D ca.vb T.R (a+1) w1.drew HA1.out.bu HIT.out.r (by omega) (by omega);rw [hDa]at cLt;have q1:=HXa.out.1.c0;rw [hDa]at q1;dsimp only at q1;rw [HT.out]at q1;refine Tk.st 8 [false,false,false,false,false,false,false,false] (S:=fun w'=>w'.cell? ⟨D,0,none⟩=some (.int .i64 (a+1))) (by kernel_rfl) (by kernel_rfl) (q1) (fun hHeld=> ?_)
    iterate 7
     refine Tk.go ?_;(try simp only [Tk.nx,Act.put,ar,ag])
    refine Tk.r1 7 fun K hK=> ?_;go_simp;go_wp2_with((go_at_call 140;(with_reducible refine cLt.mono ?_);rintro e w2 ⟨o,rfl,ho2,hb2,ht2⟩;clear ho2;rw [←hDa]at hb2 ht2;obtain⟨c2,a2,d2,m2⟩:=HA1.out.buffer hb2 ht2;clear hb2 ht2;have HX2:Hid (WAt w2 B c2 p ts (lateW T)∧c2.x.D=ca.x.D∧Mm.Mv (bk ca ts) (bk c2 ts) w1.drew w2):=⟨by rw [←HT.out]at a2;exact a2,d2,m2⟩;have hD2:c2.x.D=D:=d2.trans hDa;have q2:=a2.c0;rw [hD2]at q2;dsimp only [lateW]at q2;rw [HT.out]at q2;clear a2 d2 m2))
    refine hK.out _ _ (q2) (fun hHeld=> ?_);clear hK K;(try simp only [ar]);refine wpAnyH_done (by kernel_rfl) ?_ _;clear cLt;go_upto_region 7 with fail
    refine Tk.st 8 [false,false,false,false,false,false,false,false] (S:=fun w'=>w'.cell? ⟨D,0,none⟩=some (.int .i64 (a+1))) (by kernel_rfl) (by kernel_rfl) (q2) (fun hHeld=> ?_)
    iterate 7
     refine Tk.go ?_;(try simp only [Tk.nx,Act.put,ar,ag])
    refine Tk.r1 7 fun K hK=> ?_;go_simp;go_wp2_with((go_at_call 141;have cD:=Lop.due_any B c2.x p c2.ta c2.tc ts T.lp T.st (a+1) w2.drew (HX2.out.1.below (Mm.bdrew w2)).lo HIT.out.lp.la hP.po;rw [hD2,HDu.out]at cD;(with_reducible refine zg cD fun w3 hb3=>?_);clear cD;have HX3:Hid (WAt w3 B c2 p ts (lateW T)∧Mm.Mv (bk ca ts) (bk c2 ts) w1.drew w3):=⟨(HX2.out.1.below (Mm.bdrew w2)).below hb3,HX2.out.2.2.trans (Mm.Mv.of_below ((Mm.bdrew w2).trans (hb3.mono (Mm.bdrew w2).size)))⟩;have q3:=HX3.out.1.c0;rw [hD2]at q3;dsimp only [lateW]at q3;rw [HT.out]at q3))
    refine hK.out _ _ (q3) (fun hHeld=> ?_);clear hK K;(try simp only [ar]);refine wpAnyH_done (by kernel_rfl) ?_ _;go_wp2_with((go_at_call 143;have cO:=handOn_any B c2 p ts (dueW p ts (lateW T)) h (k+j+1) w3 (by rw [HDw.out];exact HX3.out.1) HID.out (by omega);rw [hD2]at cO;(with_reducible refine cO.mono ?_);rintro e w9 ⟨rfl,c9,a9,d9,m9⟩;clear cO;have HX9:Hid (WAt w9 B c9 p ts (tick1 p ts T)∧c9.x.D=D∧Mm.Mv (bk ca ts) (bk c9 ts) w1.drew w9):=⟨a9,d9.trans hD2,HX3.out.2.trans m9⟩;clear a9 d9 m9))
    go_roundw
    case rel=>
     refine⟨j+1,c9,by omega,rfl,?_,HX9.out.2.1.trans hD.symm,((HM.out.trans HXa.out.2.2).trans (Mm.Mv.of_below (Mm.bdrew w1))).trans HX9.out.2.2⟩;rw [tickW_succ,←hT];exact HX9.out.1
    case measure=>simp [intOf];omega
  ·obtain rfl:j=m:=by omega
   go_wp2;go_ret;exact⟨rfl,c1,hA1,hd1,hm1⟩
end

section
variable (B : Nat) (c : Pc) (p : Pd) (ts : List Tr) (S : WS) (h k : Nat)
theorem makeC (a n:Int) (w:World) (hA:WAt w B c p ts S) (hI:WI ts S h k) (hh:h≤1000):
  Calls prog 104 #[.pointer (some ⟨c.x.D,43,none⟩),.int .i64 a,.int .i64 n] w fun e w'=>e=.returned (.int .i64 (makeE S a n))∧Wst B c p ts (makeW S a n) w w':=by
 have hT:=hA.tp.2.2.1;by_cases h1:0≤a∧a<(S.n:Int)
 ·have hin:inN S a=true:=by unfold inN;simp [h1.1,h1.2]
  obtain⟨i,rfl⟩: ∃i:Nat,a=(i:Int):=⟨a.toNat,by omega⟩
  by_cases h2:1≤n∧n≤100000
  ·have e1:makeE S i n=0:=by unfold makeE;rw [if_pos hin,if_pos h2]
   have e2:makeW S i n= { S with E:=Top.upd S.E i (S.E i+n) } :=by unfold makeW;rw [if_pos e1];rfl
   rw [e1,e2];have hb:=hI.tb i (by omega);refine(Top.topMake c.x.D c.G S.n i n S.E S.O w hA.tp (by omega) h2 (by omega)).mono ?_;rintro e w' ⟨rfl,hq,ho⟩;exact⟨rfl,hA.topic hq ho⟩
  ·have e1:makeE S i n=1:=by unfold makeE;rw [if_pos hin,if_neg h2]
   have e2:makeW S i n=S:=by unfold makeW;rw [if_neg (by rw [e1];decide)]
   rw [e1,e2];refine(Top.make_arg c.x.D c.G S.n i n w hT (by omega) (by omega) h2).mono ?_;rintro e w' ⟨rfl,rfl⟩;exact⟨rfl,Wst.refl hA⟩
 ·have hin:inN S a=false:=by unfold inN;by_cases g:0≤a<;>simp [g];omega
  have e1:makeE S a n=4:=by unfold makeE;rw [hin];rfl
  have e2:makeW S a n=S:=by unfold makeW;rw [if_neg (by rw [e1];decide)]
  rw [e1,e2];refine(Top.make_none c.x.D c.G S.n a n w hT h1).mono ?_;rintro e w' ⟨rfl,rfl⟩;exact⟨rfl,Wst.refl hA⟩
theorem takeC (a n:Int) (w:World) (hA:WAt w B c p ts S):
  Calls prog 105 #[.pointer (some ⟨c.x.D,43,none⟩),.int .i64 a,.int .i64 n] w fun e w'=>e=.returned (.int .i64 (takeE S a n))∧Wst B c p ts (takeW S a n) w w':=by
 have hT:=hA.tp.2.2.1;by_cases h1:0≤a∧a<(S.n:Int)
 ·have hin:inN S a=true:=by unfold inN;simp [h1.1,h1.2]
  obtain⟨i,rfl⟩: ∃i:Nat,a=(i:Int):=⟨a.toNat,by omega⟩
  by_cases h2:S.O i≤n∧n≤S.E i
  ·have e1:takeE S i n=0:=by unfold takeE;rw [if_pos hin,if_pos (by simpa using h2)]
   have e2:takeW S i n= { S with O:=Top.upd S.O i n } :=by unfold takeW;rw [if_pos e1];rfl
   rw [e1,e2];refine(Top.topTake c.x.D c.G S.n i n S.E S.O w hA.tp (by omega) h2.1 h2.2).mono ?_;rintro e w' ⟨rfl,hq,ho⟩;exact⟨rfl,hA.topic hq ho⟩
  ·have e1:takeE S i n=1:=by unfold takeE;rw [if_pos hin,if_neg (by simpa using h2)]
   have e2:takeW S i n=S:=by unfold takeW;rw [if_neg (by rw [e1];decide)]
   rw [e1,e2];refine(Top.topTake_no c.x.D c.G S.n i n S.E S.O w hA.tp (by omega) h2).mono ?_;rintro e w' ⟨rfl,rfl⟩;exact⟨rfl,Wst.refl hA⟩
 ·have hin:inN S a=false:=by unfold inN;by_cases g:0≤a<;>simp [g];omega
  have e1:takeE S a n=4:=by unfold takeE;rw [hin];rfl
  have e2:takeW S a n=S:=by unfold takeW;rw [if_neg (by rw [e1];decide)]
  rw [e1,e2];refine(Top.take_none c.x.D c.G S.n a n w hT h1).mono ?_;rintro e w' ⟨rfl,rfl⟩;exact⟨rfl,Wst.refl hA⟩
theorem putC (n:Int) (w:World) (hA:WAt w B c p ts S) (hI:WI ts S h k) (hh:h≤1000):
  Calls prog 106 #[.pointer (some ⟨c.x.D,44,none⟩),.int .i64 n] w fun e w'=> ∃z,e=.returned (.tuple #[.int .i64 z,.int .i64 (putE S.qL n)])∧Wst B c p ts (putW S n) w w':=by
 have hl:=hI.q.len;have hb:=hI.qb;by_cases h1:n<1
 ·have e1:putE S.qL n=1:=by unfold putE;rw [if_pos h1]
  have e2:putW S n=S:=by unfold putW;rw [if_neg (by rw [e1];decide)]
  rw [e1,e2];refine(Que.put_no c.x.D n w h1).mono ?_;rintro e w' ⟨rfl,rfl⟩;exact⟨0,rfl,Wst.refl hA⟩
 ·by_cases h2:200<S.qL.length+n
  ·have e1:putE S.qL n=6:=by unfold putE;rw [if_neg h1,if_pos h2]
   have e2:putW S n=S:=by unfold putW;rw [if_neg (by rw [e1];decide)]
   rw [e1,e2];refine(Que.put_full B c.x.D S.ql c.vq S.qL n w hA.qu hl (by omega) h2).mono ?_;rintro e w' ⟨rfl,rfl⟩;exact⟨0,rfl,Wst.refl hA⟩
  ·have e1:putE S.qL n=0:=by unfold putE;rw [if_neg h1,if_neg h2]
   obtain⟨i,rfl⟩: ∃i:Nat,n=(i:Int):=⟨n.toNat,by omega⟩
   have e2:putW S i= { S with ql:=S.ql+i,qL:=S.qL++Que.news S.ql i } :=by unfold putW;rw [if_pos e1];rfl
   rw [e1,e2];refine(Que.put_yes B c.x.D S.ql c.vq S.qL i w hA.qu (by omega) (by omega) (by omega)).mono ?_;rintro e w' ⟨rfl,v',hq,ht⟩;exact⟨_,rfl,(hA.queue hq ht).st⟩
theorem leaseC (n:Int) (w:World) (hA:WAt w B c p ts S) (hI:WI ts S h k):
  Calls prog 107 #[.pointer (some ⟨c.x.D,44,none⟩),.int .i64 S.now,.int .i64 n] w fun e w'=> ∃z,e=.returned (.tuple #[.int .i64 z,.int .i64 (leaseE S.qL S.now n)])∧Wst B c p ts { S with qL:=leaseL S.qL S.now n } w w':=by
 have hl:=hI.q.len;by_cases h1:1≤n∧n≤100000
 ·cases hf:(Que.backL S.now S.qL).findIdx? Que.free with
  |none=>
   have e1:leaseE S.qL S.now n=4:=by unfold leaseE;rw [if_neg (by simpa using h1),hf]
   have e2:leaseL S.qL S.now n=Que.backL S.now S.qL:=by unfold leaseL;rw [if_neg (by simpa using h1),hf]
   rw [e1,e2];refine(Que.lease_none B c.x.D S.ql c.vq S.qL _ S.now n w hA.qu hl h1.1 h1.2 hI.nw.1 hI.nw.2 rfl hf).mono ?_;rintro e w' ⟨rfl,v',hq,ht⟩;exact⟨_,rfl,(hA.queue hq ht).st⟩
  |some i=>
   obtain⟨m,hm⟩: ∃m,(Que.backL S.now S.qL)[i]? =some m:=by
    obtain⟨hi,_⟩:=Yv.1 hf;exact⟨_,Xz hi⟩
   have e1:leaseE S.qL S.now n=0:=by unfold leaseE;rw [if_neg (by simpa using h1),hf]
   have e2:leaseL S.qL S.now n=(Que.backL S.now S.qL).set i ⟨m.id,S.now+n,true⟩:=by unfold leaseL;rw [if_neg (by simpa using h1),hf];simp only [hm]
   rw [e1,e2];refine(Que.lease_yes B c.x.D S.ql c.vq S.qL _ S.now n i m w hA.qu hl h1.1 h1.2 hI.nw.1 hI.nw.2 rfl hf hm).mono ?_;rintro e w' ⟨rfl,v',hq,ht⟩;exact⟨_,rfl,(hA.queue hq ht).st⟩
 ·have e1:leaseE S.qL S.now n=1:=by unfold leaseE;rw [if_pos h1]
  have e2:leaseL S.qL S.now n=S.qL:=by unfold leaseL;rw [if_pos h1]
  rw [e1,e2];refine(Que.lease_ticks c.x.D S.now n w h1).mono ?_;rintro e w' ⟨rfl,rfl⟩;exact⟨_,rfl,Wst.refl hA⟩
theorem ackC (n:Int) (w:World) (hA:WAt w B c p ts S) (hI:WI ts S h k):
  Calls prog 108 #[.pointer (some ⟨c.x.D,44,none⟩),.int .i64 S.now,.int .i64 n] w fun e w'=>e=.returned (.int .i64 (ackE S.qL S.now n))∧Wst B c p ts { S with qL:=ackL S.qL S.now n } w w':=by
 have hl:=hI.q.len;cases hf:(Que.backL S.now S.qL).findIdx? (Que.isId n)with
 |none=>
  have e1:ackE S.qL S.now n=4:=by unfold ackE;rw [hf]
  have e2:ackL S.qL S.now n=Que.backL S.now S.qL:=by unfold ackL;rw [hf]
  rw [e1,e2];refine(Que.ack_no B c.x.D S.ql c.vq S.qL _ S.now n w hA.qu hl hI.nw.1 hI.nw.2 rfl hf).mono ?_;rintro e w' ⟨rfl,v',hq,ht⟩;exact⟨rfl,(hA.queue hq ht).st⟩
 |some i=>
  obtain⟨m,hm⟩: ∃m,(Que.backL S.now S.qL)[i]? =some m:=by
   obtain⟨hi,_⟩:=Yv.1 hf;exact⟨_,Xz hi⟩
  cases ht:m.tk with
  |true=>
   have e1:ackE S.qL S.now n=0:=by unfold ackE;rw [hf];simp only [hm,ht];rfl
   have e2:ackL S.qL S.now n=(Que.backL S.now S.qL).eraseIdx i:=by unfold ackL;rw [hf];simp only [hm,ht];rfl
   rw [e1,e2];refine(Que.ack_yes B c.x.D S.ql c.vq S.qL _ S.now n i m w hA.qu hl hI.nw.1 hI.nw.2 rfl hf hm ht).mono ?_;rintro e w' ⟨rfl,v',hq,ht⟩;exact⟨rfl,(hA.queue hq ht).st⟩
  |false=>
   have e1:ackE S.qL S.now n=7:=by unfold ackE;rw [hf];simp only [hm,ht];rfl
   have e2:ackL S.qL S.now n=Que.backL S.now S.qL:=by unfold ackL;rw [hf];simp only [hm,ht];rfl
   rw [e1,e2];refine(Que.ack_free B c.x.D S.ql c.vq S.qL _ S.now n i m w hA.qu hl hI.nw.1 hI.nw.2 rfl hf hm ht).mono ?_;rintro e w' ⟨rfl,v',hq,ht⟩;exact⟨rfl,(hA.queue hq ht).st⟩
theorem pauseC (n:Int) (w:World) (hA:WAt w B c p ts S):
  Calls prog 115 #[.pointer (some ⟨c.x.D,4,none⟩),.int .i64 n] w fun e w'=>e=.returned (.int .i64 (pauseE n))∧Wst B c p ts (pauseW S n) w w':=by
 by_cases h1: -1≤n∧n≤50
 ·have e1:pauseE n=0:=by unfold pauseE;rw [if_pos h1]
  have e2:pauseW S n= { S with lp:=⟨S.lp.fs,S.lp.lk,S.lp.la,S.lp.nd,n⟩ } :=by unfold pauseW;rw [if_pos e1]
  rw [e1,e2];refine(Lop.pause_yes B c.x p c.ta c.tc ts S.lp S.st n w hA.lo h1.1 h1.2).mono ?_;rintro e w' ⟨rfl,hl,hm⟩;exact⟨rfl,hA.loop (V':=c.x.V) hl hm⟩
 ·have e1:pauseE n=1:=by unfold pauseE;rw [if_neg h1]
  have e2:pauseW S n=S:=by unfold pauseW;rw [if_neg (by rw [e1];decide)]
  rw [e1,e2];refine(Lop.pause_no c.x n w h1).mono ?_;rintro e w' ⟨rfl,rfl⟩;exact⟨rfl,Wst.refl hA⟩
theorem startC (n:Int) (w:World) (hA:WAt w B c p ts S) (hL:S.F.L.length≤1000000000):
  Calls prog 110 #[.pointer (some ⟨c.x.D,46,none⟩),.int .i64 n] w fun e w'=>e=.returned (.int .i64 (Flt.turnE S.F.L n 1))∧Wst B c p ts { S with F:=Flt.turnS S.F n 1 } w w':=by
 refine(Flt.start_any S.F n hL B c.x.D c.vf w hA.fl).mono ?_;rintro e w' ⟨rfl,v',hq,ht⟩;exact⟨rfl,hA.fleet hq ht⟩
theorem readyC (n:Int) (w:World) (hA:WAt w B c p ts S) (hL:S.F.L.length≤1000000000):
  Calls prog 152 #[.pointer (some ⟨c.x.D,46,none⟩),.int .i64 n] w fun e w'=>e=.returned (.int .i64 (Flt.turnE S.F.L n 2))∧Wst B c p ts { S with F:=Flt.turnS S.F n 2 } w w':=by
 refine(Flt.ready_any S.F n hL B c.x.D c.vf w hA.fl).mono ?_;rintro e w' ⟨rfl,v',hq,ht⟩;exact⟨rfl,hA.fleet hq ht⟩
theorem crashC (n:Int) (w:World) (hA:WAt w B c p ts S) (hL:S.F.L.length≤1000000000):
  Calls prog 153 #[.pointer (some ⟨c.x.D,46,none⟩),.int .i64 n] w fun e w'=>e=.returned (.tuple #[.int .i64 (Flt.crashN S.F.L n),.int .i64 (Flt.crashE S.F.L n)])∧Wst B c p ts { S with F:=Flt.crashS S.F n } w w':=by
 refine(Flt.crash_any S.F n hL B c.x.D c.vf w hA.fl).mono ?_;rintro e w' ⟨rfl,v',hq,ht⟩;exact⟨rfl,hA.fleet hq ht⟩
theorem fdoneC (n:Int) (w:World) (hA:WAt w B c p ts S) (hI:Flt.Inv S.F) (hL:S.F.L.length≤1000000000):
  Calls prog 157 #[.pointer (some ⟨c.x.D,46,none⟩),.int .i64 n] w fun e w'=>e=.returned (.int .i64 (Flt.doneE S.F.L n))∧Wst B c p ts { S with F:=Flt.doneS S.F n } w w':=by
 refine(Flt.done_any S.F n hI hL B c.x.D c.vf w hA.fl).mono ?_;rintro e w' ⟨rfl,v',hq,ht⟩;exact⟨rfl,hA.fleet hq ht⟩
theorem askC (a n:Int) (w:World) (hA:WAt w B c p ts S) (hI:Buf.Inv S.R):
  Calls prog 155 #[.pointer (some ⟨c.x.D,49,none⟩),.int .i64 S.now,.int .i64 a,.int .i64 n] w fun e w'=>e=.returned (.tuple #[.int .i64 (Buf.askN S.R S.now a n),.int .i64 (Buf.askE S.R S.now a n)])∧Wst B c p ts { S with R:=Buf.askL S.R S.now a n } w w':=by
 refine(Buf.ask_any S.R S.now a n hI B c.x.D c.vb w hA.bu).mono ?_;rintro e w' ⟨rfl,v',hq,ht⟩;exact⟨rfl,hA.buffer hq ht⟩
theorem doneC (n:Int) (w:World) (hA:WAt w B c p ts S) (hI:Buf.Inv S.R):
  Calls prog 156 #[.pointer (some ⟨c.x.D,49,none⟩),.int .i64 n] w fun e w'=>e=.returned (.tuple #[.int .i64 (Buf.doneN S.R n),.int .i64 (Buf.doneE S.R n)])∧Wst B c p ts { S with R:=Buf.doneL S.R n } w w':=by
 refine(Buf.done_any S.R n hI B c.x.D c.vb w hA.bu).mono ?_;rintro e w' ⟨rfl,v',hq,ht⟩;exact⟨rfl,hA.buffer hq ht⟩
theorem lostC (n:Int) (w:World) (hA:WAt w B c p ts S) (hI:Buf.Inv S.R):
  Calls prog 154 #[.pointer (some ⟨c.x.D,49,none⟩),.int .i64 n] w fun e w'=> ∃o,e=.returned o∧Wst B c p ts { S with R:=Buf.turnL (Buf.isAt n) 5 S.R } w w':=by
 refine(Buf.lost_any B c.x.D c.vb S.R n w hA.bu hI).mono ?_;rintro e w' ⟨o,rfl,_,hq,ht⟩;exact⟨o,rfl,hA.buffer hq ht⟩
end

theorem turn_same {fr:Int} (h:Flt.turnE F.L id fr≠0):Flt.turnS F id fr=F:=by
 unfold Flt.turnS;cases hf:F.L.findIdx? (Flt.isId id)with
 |none=>rw [(Flt.turn_none hf).2]
 |some i=>
  obtain⟨x,hx,_⟩:=Flt.find_get hf;by_cases hs:x.st=fr
  ·exact absurd (Flt.turn_ok hf hx hs).1 h
  ·rw [(Flt.turn_state hf hx hs).2]
theorem crash_same (h:Flt.crashE F.L id≠0):Flt.crashS F id=F:=by
 unfold Flt.crashS;cases hf:F.L.findIdx? (Flt.isId id)with
 |none=>rw [(Flt.crash_none hf).2.2]
 |some i=>exact absurd (by unfold Flt.crashE;rw [hf]) h
theorem done_same (h:Buf.doneE R id≠0):Buf.doneL R id=R:=by
 cases e:Buf.reqAt R id with
 |none=>unfold Buf.doneL;rw [e]
 |some r=>
  by_cases g:r.fat=2
  ·exact absurd (by unfold Buf.doneE;rw [e];simp [g]) h
  ·unfold Buf.doneL;rw [e];simp [g]
theorem ask_same {now a n:Int} (h:Buf.askE R now a n≠0):Buf.askL R now a n=R:=by unfold Buf.askL;rw [if_neg h]
theorem WI.ready {ts:List Tr} {S:WS} {h k:Nat} (g:WI ts S h k) (n fr:Int) (h1:fr=1∨fr=2):WI ts { S with F:=Flt.turnS S.F n fr } h k:=
 g.fr (R:=S.R) (Flt.turn_inv g.f n fr h1) g.r (Nat.le_of_eq (turn_cnt S.F.L n fr h1)) (Xu _)
theorem WI.crash {ts:List Tr} {S:WS} {h k:Nat} (g:WI ts S h k) (n:Int):WI ts { S with F:=Flt.crashS S.F n,R:=Buf.turnL (Buf.isAt n) 5 S.R } h k:=
 g.fr (Flt.crash_inv g.f n) (Buf.turn_inv g.r _ 5 (by omega)) (crash_cnt S.F.L n) (Xu _)
theorem WI.ask {ts:List Tr} {S:WS} {h k:Nat} (g:WI ts S h k) (a n:Int):WI ts { S with R:=Buf.askL S.R S.now a n } h k:=
 g.fr (F:=S.F) g.f (Buf.ask_inv g.r S.now a n) (Xa _) (Xu _)
theorem WI.done {ts:List Tr} {S:WS} {h k:Nat} (g:WI ts S h k) (n:Int):WI ts { S with R:=Buf.doneL S.R n,F:=Flt.doneS S.F (Buf.doneN S.R n) } h k:=
 g.fr (Flt.done_inv g.f _) (Buf.done_inv g.r n) (done_cnt S.F.L _) (Xu _)
section
variable (B : Nat) (c : Pc) (p : Pd) (ts : List Tr) (S : WS) (h k : Nat)
theorem fail_any (a n:Int) (w:World) (hA:WAt w B c p ts S) (hI:WI ts S h k):
  Calls prog 109 #[.pointer (some ⟨c.x.D,0,none⟩),.int .i64 a,.int .i64 n] w fun e w'=>e=.returned (.int .i64 (failE S a n))∧Wst B c p ts (failW S a n) w w':=by
 have hl:=hI.fl;have c3:=hA.c3;have HA:=zh hA;by_cases h1:0≤a∧a<(S.fl.length:Int)
 ·obtain⟨i,rfl⟩: ∃i:Nat,a=(i:Int):=⟨a.toNat,by omega⟩
  have hi:i<S.fl.length:=by omega
  have g1: ¬(i:Int)<0:=by omega
  have g2: ¬(ts.length:Int)≤(i:Int):=by omega
  have g3:(i:Int)<(ts.length:Int):=by omega
  by_cases h2:n=0∨n=1
  ·have e1:failE S i n=0:=by unfold failE;rw [if_pos h1,if_pos h2]
   have e2:failW S i n= { S with fl:=S.fl.set i (n==1) } :=by unfold failW;rw [if_pos e1];rfl
   have hW:=HA.out.trig (a:=i) (b:=(n==1)) hi;have k1:=HA.out.tr.f i _ (Xz hi);have k2:=HA.out.tr.fz (i*2+1);have HW:=zh hW;rw [e1,e2];clear hA hI hW e1 e2 h1 hl;generalize c.x.D=D at*;rcases h2 with rfl|rfl
   ·go_enter func109,ntmps109;go_wp2;go_ret;exact⟨rfl,HW.out⟩
   ·go_enter func109,ntmps109;go_wp2;go_ret;exact⟨rfl,HW.out⟩
  ·have e1:failE S i n=1:=by unfold failE;rw [if_pos h1,if_neg h2]
   have e2:failW S i n=S:=by unfold failW;rw [if_neg (by rw [e1];decide)]
   have k1:(n !=0)=true:=by simp;omega
   have k2:(n !=1)=true:=by simp;omega
   rw [e1,e2];clear hA hI e1 e2 h1 hl h2;generalize c.x.D=D at*;go_enter func109,ntmps109;go_wp2;go_ret;exact⟨rfl,Wst.refl HA.out⟩
 ·have e1:failE S a n=4:=by unfold failE;rw [if_neg h1]
  have e2:failW S a n=S:=by unfold failW;rw [if_neg (by rw [e1];decide)]
  rw [e1,e2];rw [hl]at h1;clear hA hI e1 e2 hl;generalize c.x.D=D at*;by_cases h2:a<0
  ·clear h1;go_enter func109,ntmps109;go_wp2;go_ret;exact⟨rfl,Wst.refl HA.out⟩
  ·have g2:(ts.length:Int)≤a:=by omega
   clear h1;go_enter func109,ntmps109;go_wp2;go_ret;exact⟨rfl,Wst.refl HA.out⟩
theorem ready_any (n:Int) (w:World) (hA:WAt w B c p ts S) (hI:WI ts S h k) (hk:k≤1000000):
  Calls prog 111 #[.pointer (some ⟨c.x.D,0,none⟩),.int .i64 n] w fun e w'=>e=.returned (.int .i64 (Flt.turnE S.F.L n 2))∧Wst B c p ts (readyW S n) w w':=by
 have hL:S.F.L.length≤1000000000:=by have:=hI.len;omega
 have HA:=zh hA;have HI:Hid (WI ts { S with F:=Flt.turnS S.F n 2 } h k):=hI.ready n 2 (Or.inr rfl);clear hA hI;generalize hD:c.x.D=D at*;by_cases he:Flt.turnE S.F.L n 2=0
 ·have e2:readyW S n=onW { S with F:=Flt.turnS S.F n 2 } :=by unfold readyW;rw [if_pos he]
  have HE:=zh he;rw [e2,he];clear e2 he;go_enter func111,ntmps111
  go_wp2_with (first
   |(go_at_call 152;have cX:=readyC B c p ts S n w HA.out hL;rw [hD,HE.out]at cX;(with_reducible refine cX.mono ?_);rintro e w1 ⟨rfl,c1,a1,d1,m1⟩;clear cX;have HX1:Hid (WAt w1 B c1 p ts { S with F:=Flt.turnS S.F n 2 } ∧c1.x.D=D∧Mm.Mv (bk c ts) (bk c1 ts) w w1):=⟨a1,d1.trans hD,m1⟩;have hD1:c1.x.D=D:=d1.trans hD;clear a1 d1 m1)
   |(go_at_call 143;have cO:=handOn_any B c1 p ts { S with F:=Flt.turnS S.F n 2 } h k w1 HX1.out.1 HI.out hk;rw [hD1]at cO;(with_reducible refine cO.mono ?_);rintro e w9 ⟨rfl,c9,a9,d9,m9⟩;clear cO;have HX9:Hid (WAt w9 B c9 p ts (onW { S with F:=Flt.turnS S.F n 2 })∧c9.x.D=D∧Mm.Mv (bk c1 ts) (bk c9 ts) w1 w9):=⟨a9,d9.trans hD1,m9⟩;clear a9 d9 m9))
  go_ret;exact⟨rfl,c9,HX9.out.1,HX9.out.2.1.trans hD.symm,HX1.out.2.2.trans HX9.out.2.2⟩
 ·have e2:readyW S n=S:=by unfold readyW;rw [if_neg he]
  have es:({ S with F:=Flt.turnS S.F n 2 } :WS)=S:=by rw [turn_same he]
  have hne:(Flt.turnE S.F.L n 2 !=0)=true:=by simp [he]
  have HS:=zh es;rw [e2];clear e2 he es;go_enter func111,ntmps111;go_wp2_with(go_at_call 152;have cX:=readyC B c p ts S n w HA.out hL;rw [hD,HS.out]at cX;(with_reducible refine cX.mono ?_);rintro e w1 ⟨rfl,c1,a1,d1,m1⟩;clear cX;have HX1:Hid (WAt w1 B c1 p ts S∧c1.x.D=D∧Mm.Mv (bk c ts) (bk c1 ts) w w1):=⟨a1,d1.trans hD,m1⟩;have hD1:c1.x.D=D:=d1.trans hD;clear a1 d1 m1)
  go_ret;exact⟨rfl,c1,HX1.out.1,HX1.out.2.1.trans hD.symm,HX1.out.2.2⟩
theorem crash_any (n:Int) (w:World) (hA:WAt w B c p ts S) (hI:WI ts S h k) (hk:k≤1000000):
  Calls prog 112 #[.pointer (some ⟨c.x.D,0,none⟩),.int .i64 n] w fun e w'=>e=.returned (.int .i64 (Flt.crashE S.F.L n))∧Wst B c p ts (crashW S n) w w':=by
 have hL:S.F.L.length≤1000000000:=by have:=hI.len;omega
 have HA:=zh hA;have HI:Hid (WI ts { S with F:=Flt.crashS S.F n,R:=Buf.turnL (Buf.isAt n) 5 S.R } h k):=hI.crash n;have hR:=hI.r;clear hA hI;generalize hD:c.x.D=D at*;by_cases he:Flt.crashE S.F.L n=0
 ·have e2:crashW S n=onW { S with F:=Flt.crashS S.F n,R:=Buf.turnL (Buf.isAt n) 5 S.R } :=by unfold crashW;rw [if_pos he]
  have HE:=zh he;rw [e2,he];clear e2 he;go_enter func112,ntmps112
  go_wp2_with (first
   |(go_at_call 153;have cX:=crashC B c p ts S n w HA.out hL;rw [hD,HE.out]at cX;(with_reducible refine cX.mono ?_);rintro e w1 ⟨rfl,c1,a1,d1,m1⟩;clear cX;have HX1:Hid (WAt w1 B c1 p ts { S with F:=Flt.crashS S.F n } ∧c1.x.D=D∧Mm.Mv (bk c ts) (bk c1 ts) w w1):=⟨a1,d1.trans hD,m1⟩;have hD1:c1.x.D=D:=d1.trans hD;clear a1 d1 m1)
   |(go_at_call 154;have cX:=lostC B c1 p ts { S with F:=Flt.crashS S.F n } n w1 HX1.out.1 hR;rw [hD1]at cX;(with_reducible refine cX.mono ?_);rintro e w2 ⟨o,rfl,c2,a2,d2,m2⟩;clear cX;have HX2:Hid (WAt w2 B c2 p ts { S with F:=Flt.crashS S.F n,R:=Buf.turnL (Buf.isAt n) 5 S.R } ∧c2.x.D=D∧Mm.Mv (bk c1 ts) (bk c2 ts) w1 w2):=⟨a2,d2.trans hD1,m2⟩;have hD2:c2.x.D=D:=d2.trans hD1;clear a2 d2 m2)
   |(go_at_call 143;have cO:=handOn_any B c2 p ts { S with F:=Flt.crashS S.F n,R:=Buf.turnL (Buf.isAt n) 5 S.R } h k w2 HX2.out.1 HI.out hk;rw [hD2]at cO;(with_reducible refine cO.mono ?_);rintro e w9 ⟨rfl,c9,a9,d9,m9⟩;clear cO;have HX9:Hid (WAt w9 B c9 p ts (onW { S with F:=Flt.crashS S.F n,R:=Buf.turnL (Buf.isAt n) 5 S.R })∧c9.x.D=D∧Mm.Mv (bk c2 ts) (bk c9 ts) w2 w9):=⟨a9,d9.trans hD2,m9⟩;clear a9 d9 m9))
  go_ret;exact⟨rfl,c9,HX9.out.1,HX9.out.2.1.trans hD.symm,(HX1.out.2.2.trans HX2.out.2.2).trans HX9.out.2.2⟩
 ·have e2:crashW S n=S:=by unfold crashW;rw [if_neg he]
  have es:({ S with F:=Flt.crashS S.F n } :WS)=S:=by rw [crash_same he]
  have hne:(Flt.crashE S.F.L n !=0)=true:=by simp [he]
  have HS:=zh es;rw [e2];clear e2 he es;go_enter func112,ntmps112;go_wp2_with(go_at_call 153;have cX:=crashC B c p ts S n w HA.out hL;rw [hD,HS.out]at cX;(with_reducible refine cX.mono ?_);rintro e w1 ⟨rfl,c1,a1,d1,m1⟩;clear cX;have HX1:Hid (WAt w1 B c1 p ts S∧c1.x.D=D∧Mm.Mv (bk c ts) (bk c1 ts) w w1):=⟨a1,d1.trans hD,m1⟩;have hD1:c1.x.D=D:=d1.trans hD;clear a1 d1 m1)
  go_ret;exact⟨rfl,c1,HX1.out.1,HX1.out.2.1.trans hD.symm,HX1.out.2.2⟩
theorem done_any (n:Int) (w:World) (hA:WAt w B c p ts S) (hI:WI ts S h k) (hk:k≤1000000):
  Calls prog 114 #[.pointer (some ⟨c.x.D,0,none⟩),.int .i64 n] w fun e w'=>e=.returned (.int .i64 (Buf.doneE S.R n))∧Wst B c p ts (doneW S n) w w':=by
 have hL:S.F.L.length≤1000000000:=by have:=hI.len;omega
 have HA:=zh hA;have HI:Hid (WI ts { S with R:=Buf.doneL S.R n,F:=Flt.doneS S.F (Buf.doneN S.R n) } h k):=hI.done n;have hR:=hI.r;have hF:=hI.f;clear hA hI;generalize hD:c.x.D=D at*;by_cases he:Buf.doneE S.R n=0
 ·have e2:doneW S n=onW { S with R:=Buf.doneL S.R n,F:=Flt.doneS S.F (Buf.doneN S.R n) } :=by unfold doneW;rw [if_pos he]
  have HE:=zh he;rw [e2,he];clear e2 he;go_enter func114,ntmps114
  go_wp2_with (first
   |(go_at_call 156;have cX:=doneC B c p ts S n w HA.out hR;rw [hD,HE.out]at cX;(with_reducible refine cX.mono ?_);rintro e w1 ⟨rfl,c1,a1,d1,m1⟩;clear cX;have HX1:Hid (WAt w1 B c1 p ts { S with R:=Buf.doneL S.R n } ∧c1.x.D=D∧Mm.Mv (bk c ts) (bk c1 ts) w w1):=⟨a1,d1.trans hD,m1⟩;have hD1:c1.x.D=D:=d1.trans hD;clear a1 d1 m1)
   |(go_at_call 157;have cX:=fdoneC B c1 p ts { S with R:=Buf.doneL S.R n } (Buf.doneN S.R n) w1 HX1.out.1 hF hL;rw [hD1]at cX;(with_reducible refine cX.mono ?_);rintro e w2 ⟨rfl,c2,a2,d2,m2⟩;clear cX;have HX2:Hid (WAt w2 B c2 p ts { S with R:=Buf.doneL S.R n,F:=Flt.doneS S.F (Buf.doneN S.R n) } ∧c2.x.D=D∧Mm.Mv (bk c1 ts) (bk c2 ts) w1 w2):=⟨a2,d2.trans hD1,m2⟩;have hD2:c2.x.D=D:=d2.trans hD1;clear a2 d2 m2)
   |(go_at_call 143;have cO:=handOn_any B c2 p ts { S with R:=Buf.doneL S.R n,F:=Flt.doneS S.F (Buf.doneN S.R n) } h k w2 HX2.out.1 HI.out hk;rw [hD2]at cO;(with_reducible refine cO.mono ?_);rintro e w9 ⟨rfl,c9,a9,d9,m9⟩;clear cO;have HX9:Hid (WAt w9 B c9 p ts (onW { S with R:=Buf.doneL S.R n,F:=Flt.doneS S.F (Buf.doneN S.R n) })∧c9.x.D=D∧Mm.Mv (bk c2 ts) (bk c9 ts) w2 w9):=⟨a9,d9.trans hD2,m9⟩;clear a9 d9 m9))
  go_ret;exact⟨rfl,c9,HX9.out.1,HX9.out.2.1.trans hD.symm,(HX1.out.2.2.trans HX2.out.2.2).trans HX9.out.2.2⟩
 ·have e2:doneW S n=S:=by unfold doneW;rw [if_neg he]
  have es:({ S with R:=Buf.doneL S.R n } :WS)=S:=by rw [done_same he]
  have hne:(Buf.doneE S.R n !=0)=true:=by simp [he]
  have HS:=zh es;rw [e2];clear e2 he es;go_enter func114,ntmps114;go_wp2_with(go_at_call 156;have cX:=doneC B c p ts S n w HA.out hR;rw [hD,HS.out]at cX;(with_reducible refine cX.mono ?_);rintro e w1 ⟨rfl,c1,a1,d1,m1⟩;clear cX;have HX1:Hid (WAt w1 B c1 p ts S∧c1.x.D=D∧Mm.Mv (bk c ts) (bk c1 ts) w w1):=⟨a1,d1.trans hD,m1⟩;have hD1:c1.x.D=D:=d1.trans hD;clear a1 d1 m1)
  go_ret;exact⟨rfl,c1,HX1.out.1,HX1.out.2.1.trans hD.symm,HX1.out.2.2⟩
theorem ask_any (a n:Int) (w:World) (hA:WAt w B c p ts S) (hI:WI ts S h k) (hk:k≤1000000):
  Calls prog 113 #[.pointer (some ⟨c.x.D,0,none⟩),.int .i64 a,.int .i64 n] w fun e w'=>e=.returned (.int .i64 (Buf.askE S.R S.now a n))∧Wst B c p ts (askW S a n) w w':=by
 have HA:Hid (WAt w.drew B c p ts S):=hA.below (Mm.bdrew w);have HI:Hid (WI ts { S with R:=Buf.askL S.R S.now a n } h k):=hI.ask a n;have hR:=hI.r;have c0:=hA.c0;clear hA hI;generalize hD:c.x.D=D at*;by_cases he:Buf.askE S.R S.now a n=0
 ·have e2:askW S a n=onW { S with R:=Buf.askL S.R S.now a n } :=by unfold askW;rw [if_pos he]
  have HE:=zh he;rw [e2,he];clear e2 he;go_enter func113,ntmps113;go_upto_region 1 with fail
  refine Tk.st 15 [false,false,false,false,false,false,false,false,false,false,false,false,false,false,false] (S:=fun w'=>w'.cell? ⟨D,0,none⟩=some (.int .i64 S.now)) (by kernel_rfl) (by kernel_rfl) (c0) (fun hHeld=> ?_)
  iterate 9
   refine Tk.go ?_;(try simp only [Tk.nx,Act.put,ar,ag])
  refine Tk.r1 9 fun K hK=> ?_;go_simp;go_wp2_with((go_at_call 155;have cX:=askC B c p ts S a n w.drew HA.out hR;rw [hD,HE.out]at cX;(with_reducible refine cX.mono ?_);rintro e w1 ⟨rfl,c1,a1,d1,m1⟩;clear cX;have HX1:Hid (WAt w1 B c1 p ts { S with R:=Buf.askL S.R S.now a n } ∧c1.x.D=D∧Mm.Mv (bk c ts) (bk c1 ts) w.drew w1):=⟨a1,d1.trans hD,m1⟩;have hD1:c1.x.D=D:=d1.trans hD;clear a1 d1 m1;have q1:=HX1.out.1.c0;rw [hD1]at q1))
  refine hK.out _ _ (q1) (fun hHeld=> ?_);clear hK K;(try simp only [ar])
  iterate 5
   refine Tk.go ?_;(try simp only [Tk.nx,Act.put,ar,ag])
  refine wpAnyH_done (by kernel_rfl) ?_ _;go_wp2_with(go_at_call 143;have cO:=handOn_any B c1 p ts { S with R:=Buf.askL S.R S.now a n } h k w1 HX1.out.1 HI.out hk;rw [hD1]at cO;(with_reducible refine cO.mono ?_);rintro e w9 ⟨rfl,c9,a9,d9,m9⟩;clear cO;have HX9:Hid (WAt w9 B c9 p ts (onW { S with R:=Buf.askL S.R S.now a n })∧c9.x.D=D∧Mm.Mv (bk c1 ts) (bk c9 ts) w1 w9):=⟨a9,d9.trans hD1,m9⟩;clear a9 d9 m9)
  go_ret;exact⟨rfl,c9,HX9.out.1,HX9.out.2.1.trans hD.symm,((Mm.Mv.of_below (Mm.bdrew w)).trans HX1.out.2.2).trans HX9.out.2.2⟩
 ·have e2:askW S a n=S:=by unfold askW;rw [if_neg he]
  have es:({ S with R:=Buf.askL S.R S.now a n } :WS)=S:=by rw [ask_same he]
  have hne:(Buf.askE S.R S.now a n !=0)=true:=by simp [he]
  have HS:=zh es;rw [e2];clear e2 he es;go_enter func113,ntmps113;go_upto_region 1 with fail
  refine Tk.st 15 [false,false,false,false,false,false,false,false,false,false,false,false,false,false,false] (S:=fun w'=>w'.cell? ⟨D,0,none⟩=some (.int .i64 S.now)) (by kernel_rfl) (by kernel_rfl) (c0) (fun hHeld=> ?_)
  iterate 9
   refine Tk.go ?_;(try simp only [Tk.nx,Act.put,ar,ag])
  refine Tk.r1 9 fun K hK=> ?_;go_simp;go_wp2_with((go_at_call 155;have cX:=askC B c p ts S a n w.drew HA.out hR;rw [hD,HS.out]at cX;(with_reducible refine cX.mono ?_);rintro e w1 ⟨rfl,c1,a1,d1,m1⟩;clear cX;have HX1:Hid (WAt w1 B c1 p ts S∧c1.x.D=D∧Mm.Mv (bk c ts) (bk c1 ts) w.drew w1):=⟨a1,d1.trans hD,m1⟩;have hD1:c1.x.D=D:=d1.trans hD;clear a1 d1 m1;have q1:=HX1.out.1.c0;rw [hD1]at q1))
  refine hK.out _ _ (q1) (fun hHeld=> ?_);clear hK K;(try simp only [ar])
  iterate 5
   refine Tk.go ?_;(try simp only [Tk.nx,Act.put,ar,ag])
  refine wpAnyH_done (by kernel_rfl) ?_ _;go_wp2;go_ret;exact⟨rfl,c1,HX1.out.1,HX1.out.2.1.trans hD.symm,(Mm.Mv.of_below (Mm.bdrew w)).trans HX1.out.2.2⟩
end

noncomputable def tickD (p:Pd) (ts:List Tr) (S:WS) (n:Int):WS:=if tickE S n=0 then tickW p ts n.toNat S else S
theorem make_now (S:WS) (a n:Int):(makeW S a n).now=S.now:=by unfold makeW;split<;>rfl
theorem take_now (S:WS) (a n:Int):(takeW S a n).now=S.now:=by unfold takeW;split<;>rfl
theorem put_now (S:WS) (n:Int):(putW S n).now=S.now:=by unfold putW;split<;>rfl
theorem pause_now (S:WS) (n:Int):(pauseW S n).now=S.now:=by unfold pauseW;split<;>rfl
section
variable (B : Nat) (c : Pc) (p : Pd) (ts : List Tr) (S : WS) (h k : Nat)
theorem tick_any (n:Int) (w:World) (hA:WAt w B c p ts S) (hI:WI ts S h k) (hh:h≤1000) (hk:k≤400000) (hP:PlOk p ts) (hU: ∀t∈ts,TrU t):
  Calls prog 103 #[.pointer (some ⟨c.x.D,0,none⟩),.int .i64 n] w fun e w'=>e=.returned (.int .i64 (tickE S n))∧Wst B c p ts (tickD p ts S n) w w':=by
 unfold tickD;by_cases h1:(1≤n∧n≤1000)∧S.now+n≤1099511627776
 ·have e1:tickE S n=0:=by unfold tickE;rw [if_pos h1]
  obtain⟨m,rfl⟩: ∃m:Nat,n=(m:Int):=⟨n.toNat,by omega⟩
  rw [if_pos e1,e1];exact tick_yes B c p ts S h k m w hA hI hh hk hP hU (by omega) (by omega) h1.2
 ·have e1:tickE S n≠0:=by unfold tickE;rw [if_neg h1];decide
  rw [if_neg e1];exact tick_no B c p ts S h k n w hA hI e1
theorem do_1 (a n:Int) (w:World) (hA:WAt w B c p ts S) (hI:WI ts S h k) (hh:h≤1000) (hk:k≤400000) (hP:PlOk p ts) (hU: ∀t∈ts,TrU t):
  Calls prog 70 #[.pointer (some ⟨c.x.D,0,none⟩),.agg #[.int .i64 1,.int .i64 a,.int .i64 n]] w fun e w'=>e=.returned (.int .i64 (tickE S n))∧Wst B c p ts (tickD p ts S n) w w':=by
 obtain⟨W,hW⟩: ∃W,W=w.alloc (.cells #[.int .i64 1,.int .i64 a,.int .i64 n] 76):=⟨_,rfl⟩
 have hbW:Below w.heap.size w W:=by rw [hW];exact(Below.refl _ _).alloc (Xa _) _
 have x0:W.cell? ⟨w.heap.size,0,none⟩=some (.int .i64 1):=by rw [hW];simp
 have x1:W.cell? ⟨w.heap.size,1,none⟩=some (.int .i64 a):=by rw [hW];simp
 have x2:W.cell? ⟨w.heap.size,2,none⟩=some (.int .i64 n):=by rw [hW];simp
 have HW:=zh hW;have HXn:Hid (¬bk c ts w.heap.size):=fun e=>absurd (hA.low e).2 (XL _);have HA:Hid (WAt W B c p ts S):=hA.below hbW;have HB:Hid (Mm.Mv (bk c ts) (bk c ts) w W):=Mm.Mv.of_below hbW;have c0:W.cell? ⟨c.x.D,0,none⟩=some (.int .i64 S.now):=HA.out.c0;have HI:=zh hI;have hL:S.F.L.length≤1000000000:=by have:=hI.len;omega
 have hk2:k≤1000000:=by omega
 clear hA hI hbW hW;generalize hD:c.x.D=D at*;go_enter func70,ntmps70;go_upto_region 1 with fail
 rw [←HW.out];clear HW;generalize w.heap.size=X at*;go_wp2_with(go_at_call 103;have cX:=tick_any B c p ts S h k n W HA.out HI.out hh hk hP hU;rw [hD]at cX;(with_reducible refine cX.mono ?_);rintro e w1 ⟨rfl,c1,a1,d1,m1⟩;clear cX;have HX1:Hid (WAt w1 B c1 p ts (tickD p ts S n)∧c1.x.D=D∧Mm.Mv (bk c ts) (bk c1 ts) W w1):=⟨a1,d1.trans hD,m1⟩;have hD1:c1.x.D=D:=d1.trans hD;clear a1 d1 m1)
 go_ret;exact⟨rfl,c1,HX1.out.1,HX1.out.2.1.trans hD.symm,HB.out.trans HX1.out.2.2⟩
theorem do_2 (a n:Int) (w:World) (hA:WAt w B c p ts S) (hI:WI ts S h k) (hh:h≤1000) (hk:k≤400000) (_hP:PlOk p ts) (_hU: ∀t∈ts,TrU t):
  Calls prog 70 #[.pointer (some ⟨c.x.D,0,none⟩),.agg #[.int .i64 2,.int .i64 a,.int .i64 n]] w fun e w'=>e=.returned (.int .i64 (makeE S a n))∧Wst B c p ts (makeW S a n) w w':=by
 obtain⟨W,hW⟩: ∃W,W=w.alloc (.cells #[.int .i64 2,.int .i64 a,.int .i64 n] 76):=⟨_,rfl⟩
 have hbW:Below w.heap.size w W:=by rw [hW];exact(Below.refl _ _).alloc (Xa _) _
 have x0:W.cell? ⟨w.heap.size,0,none⟩=some (.int .i64 2):=by rw [hW];simp
 have x1:W.cell? ⟨w.heap.size,1,none⟩=some (.int .i64 a):=by rw [hW];simp
 have x2:W.cell? ⟨w.heap.size,2,none⟩=some (.int .i64 n):=by rw [hW];simp
 have HW:=zh hW;have HXn:Hid (¬bk c ts w.heap.size):=fun e=>absurd (hA.low e).2 (XL _);have HA:Hid (WAt W.drew B c p ts S):=(hA.below hbW).below (Mm.bdrew W);have HB:Hid (Mm.Mv (bk c ts) (bk c ts) w W.drew):=Mm.Mv.of_below (hbW.trans ((Mm.bdrew W).mono hbW.size));have c0:W.drew.cell? ⟨c.x.D,0,none⟩=some (.int .i64 S.now):=HA.out.c0;have HI:=zh hI;have hL:S.F.L.length≤1000000000:=by have:=hI.len;omega
 have hk2:k≤1000000:=by omega
 clear hA hI hbW hW;generalize hD:c.x.D=D at*;go_enter func70,ntmps70;go_upto_region 1 with fail
 rw [←HW.out];clear HW;generalize w.heap.size=X at*;go_upto_region 5 with fail
 refine Tk.st 9 [false,false,false,false,false,false,false,false,false] (S:=fun w'=>w'.cell? ⟨X,1,none⟩=some (.int .i64 a)∧w'.cell? ⟨X,2,none⟩=some (.int .i64 n)∧w'.cell? ⟨D,0,none⟩=some (.int .i64 S.now)) (by kernel_rfl) (by kernel_rfl) (⟨x1,x2,c0⟩) (fun hHeld=> ?_)
 iterate 7
  refine Tk.go ?_;(try simp only [Tk.nx,Act.put,ar,ag])
 refine Tk.r1 7 fun K hK=> ?_;go_simp;go_wp2_with((go_at_call 104;have cX:=makeC B c p ts S h k a n W.drew HA.out HI.out hh;rw [hD]at cX;(with_reducible refine cX.mono ?_);rintro e w1 ⟨rfl,c1,a1,d1,m1⟩;clear cX;have HX1:Hid (WAt w1 B c1 p ts (makeW S a n)∧c1.x.D=D∧Mm.Mv (bk c ts) (bk c1 ts) W.drew w1):=⟨a1,d1.trans hD,m1⟩;have hD1:c1.x.D=D:=d1.trans hD;clear a1 d1 m1))
 refine hK.out _ _ (⟨HX1.out.2.2.cell x1 HXn.out,HX1.out.2.2.cell x2 HXn.out,by have q:=HX1.out.1.c0;rw [hD1,make_now]at q;exact q⟩) (fun hHeld=> ?_);clear hK K;(try simp only [ar])
 iterate 1
  refine Tk.go ?_;(try simp only [Tk.nx,Act.put,ar,ag])
 refine wpAnyH_done (by kernel_rfl) ?_ _;(try go_wp2);go_ret;exact⟨rfl,c1,HX1.out.1,HX1.out.2.1.trans hD.symm,HB.out.trans HX1.out.2.2⟩
theorem do_3 (a n:Int) (w:World) (hA:WAt w B c p ts S) (hI:WI ts S h k) (_hh:h≤1000) (hk:k≤400000) (_hP:PlOk p ts) (_hU: ∀t∈ts,TrU t):
  Calls prog 70 #[.pointer (some ⟨c.x.D,0,none⟩),.agg #[.int .i64 3,.int .i64 a,.int .i64 n]] w fun e w'=>e=.returned (.int .i64 (takeE S a n))∧Wst B c p ts (takeW S a n) w w':=by
 obtain⟨W,hW⟩: ∃W,W=w.alloc (.cells #[.int .i64 3,.int .i64 a,.int .i64 n] 76):=⟨_,rfl⟩
 have hbW:Below w.heap.size w W:=by rw [hW];exact(Below.refl _ _).alloc (Xa _) _
 have x0:W.cell? ⟨w.heap.size,0,none⟩=some (.int .i64 3):=by rw [hW];simp
 have x1:W.cell? ⟨w.heap.size,1,none⟩=some (.int .i64 a):=by rw [hW];simp
 have x2:W.cell? ⟨w.heap.size,2,none⟩=some (.int .i64 n):=by rw [hW];simp
 have HW:=zh hW;have HXn:Hid (¬bk c ts w.heap.size):=fun e=>absurd (hA.low e).2 (XL _);have HA:Hid (WAt W.drew B c p ts S):=(hA.below hbW).below (Mm.bdrew W);have HB:Hid (Mm.Mv (bk c ts) (bk c ts) w W.drew):=Mm.Mv.of_below (hbW.trans ((Mm.bdrew W).mono hbW.size));have c0:W.drew.cell? ⟨c.x.D,0,none⟩=some (.int .i64 S.now):=HA.out.c0;have HI:=zh hI;have hL:S.F.L.length≤1000000000:=by have:=hI.len;omega
 have hk2:k≤1000000:=by omega
 clear hA hI hbW hW;generalize hD:c.x.D=D at*;go_enter func70,ntmps70;go_upto_region 1 with fail
 rw [←HW.out];clear HW;generalize w.heap.size=X at*;go_upto_region 7 with fail
 refine Tk.st 9 [false,false,false,false,false,false,false,false,false] (S:=fun w'=>w'.cell? ⟨X,1,none⟩=some (.int .i64 a)∧w'.cell? ⟨X,2,none⟩=some (.int .i64 n)∧w'.cell? ⟨D,0,none⟩=some (.int .i64 S.now)) (by kernel_rfl) (by kernel_rfl) (⟨x1,x2,c0⟩) (fun hHeld=> ?_)
 iterate 7
  refine Tk.go ?_;(try simp only [Tk.nx,Act.put,ar,ag])
 refine Tk.r1 7 fun K hK=> ?_;go_simp;go_wp2_with((go_at_call 105;have cX:=takeC B c p ts S a n W.drew HA.out;rw [hD]at cX;(with_reducible refine cX.mono ?_);rintro e w1 ⟨rfl,c1,a1,d1,m1⟩;clear cX;have HX1:Hid (WAt w1 B c1 p ts (takeW S a n)∧c1.x.D=D∧Mm.Mv (bk c ts) (bk c1 ts) W.drew w1):=⟨a1,d1.trans hD,m1⟩;have hD1:c1.x.D=D:=d1.trans hD;clear a1 d1 m1))
 refine hK.out _ _ (⟨HX1.out.2.2.cell x1 HXn.out,HX1.out.2.2.cell x2 HXn.out,by have q:=HX1.out.1.c0;rw [hD1,take_now]at q;exact q⟩) (fun hHeld=> ?_);clear hK K;(try simp only [ar])
 iterate 1
  refine Tk.go ?_;(try simp only [Tk.nx,Act.put,ar,ag])
 refine wpAnyH_done (by kernel_rfl) ?_ _;(try go_wp2);go_ret;exact⟨rfl,c1,HX1.out.1,HX1.out.2.1.trans hD.symm,HB.out.trans HX1.out.2.2⟩
theorem do_4 (a n:Int) (w:World) (hA:WAt w B c p ts S) (hI:WI ts S h k) (hh:h≤1000) (hk:k≤400000) (_hP:PlOk p ts) (_hU: ∀t∈ts,TrU t):
  Calls prog 70 #[.pointer (some ⟨c.x.D,0,none⟩),.agg #[.int .i64 4,.int .i64 a,.int .i64 n]] w fun e w'=>e=.returned (.int .i64 (putE S.qL n))∧Wst B c p ts (putW S n) w w':=by
 obtain⟨W,hW⟩: ∃W,W=w.alloc (.cells #[.int .i64 4,.int .i64 a,.int .i64 n] 76):=⟨_,rfl⟩
 have hbW:Below w.heap.size w W:=by rw [hW];exact(Below.refl _ _).alloc (Xa _) _
 have x0:W.cell? ⟨w.heap.size,0,none⟩=some (.int .i64 4):=by rw [hW];simp
 have x1:W.cell? ⟨w.heap.size,1,none⟩=some (.int .i64 a):=by rw [hW];simp
 have x2:W.cell? ⟨w.heap.size,2,none⟩=some (.int .i64 n):=by rw [hW];simp
 have HW:=zh hW;have HXn:Hid (¬bk c ts w.heap.size):=fun e=>absurd (hA.low e).2 (XL _);have HA:Hid (WAt W.drew B c p ts S):=(hA.below hbW).below (Mm.bdrew W);have HB:Hid (Mm.Mv (bk c ts) (bk c ts) w W.drew):=Mm.Mv.of_below (hbW.trans ((Mm.bdrew W).mono hbW.size));have c0:W.drew.cell? ⟨c.x.D,0,none⟩=some (.int .i64 S.now):=HA.out.c0;have HI:=zh hI;have hL:S.F.L.length≤1000000000:=by have:=hI.len;omega
 have hk2:k≤1000000:=by omega
 clear hA hI hbW hW;generalize hD:c.x.D=D at*;go_enter func70,ntmps70;go_upto_region 1 with fail
 rw [←HW.out];clear HW;generalize w.heap.size=X at*;go_upto_region 9 with fail
 refine Tk.st 11 [false,false,false,false,false,false,false,false,false,false,false] (S:=fun w'=>w'.cell? ⟨X,1,none⟩=some (.int .i64 a)∧w'.cell? ⟨X,2,none⟩=some (.int .i64 n)∧w'.cell? ⟨D,0,none⟩=some (.int .i64 S.now)) (by kernel_rfl) (by kernel_rfl) (⟨x1,x2,c0⟩) (fun hHeld=> ?_)
 iterate 5
  refine Tk.go ?_;(try simp only [Tk.nx,Act.put,ar,ag])
 refine Tk.r1 5 fun K hK=> ?_;go_simp;go_wp2_with((go_at_call 106;have cX:=putC B c p ts S h k n W.drew HA.out HI.out hh;rw [hD]at cX;(with_reducible refine cX.mono ?_);rintro e w1 ⟨z,rfl,c1,a1,d1,m1⟩;clear cX;have HX1:Hid (WAt w1 B c1 p ts (putW S n)∧c1.x.D=D∧Mm.Mv (bk c ts) (bk c1 ts) W.drew w1):=⟨a1,d1.trans hD,m1⟩;have hD1:c1.x.D=D:=d1.trans hD;clear a1 d1 m1))
 refine hK.out _ _ (⟨HX1.out.2.2.cell x1 HXn.out,HX1.out.2.2.cell x2 HXn.out,by have q:=HX1.out.1.c0;rw [hD1,put_now]at q;exact q⟩) (fun hHeld=> ?_);clear hK K;(try simp only [ar])
 iterate 5
  refine Tk.go ?_;(try simp only [Tk.nx,Act.put,ar,ag])
 refine wpAnyH_done (by kernel_rfl) ?_ _;go_wp2;go_ret;exact⟨rfl,c1,HX1.out.1,HX1.out.2.1.trans hD.symm,HB.out.trans HX1.out.2.2⟩
theorem do_5 (a n:Int) (w:World) (hA:WAt w B c p ts S) (hI:WI ts S h k) (_hh:h≤1000) (hk:k≤400000) (_hP:PlOk p ts) (_hU: ∀t∈ts,TrU t):
  Calls prog 70 #[.pointer (some ⟨c.x.D,0,none⟩),.agg #[.int .i64 5,.int .i64 a,.int .i64 n]] w fun e w'=>e=.returned (.int .i64 (leaseE S.qL S.now n))∧Wst B c p ts ({ S with qL:=leaseL S.qL S.now n }) w w':=by
 obtain⟨W,hW⟩: ∃W,W=w.alloc (.cells #[.int .i64 5,.int .i64 a,.int .i64 n] 76):=⟨_,rfl⟩
 have hbW:Below w.heap.size w W:=by rw [hW];exact(Below.refl _ _).alloc (Xa _) _
 have x0:W.cell? ⟨w.heap.size,0,none⟩=some (.int .i64 5):=by rw [hW];simp
 have x1:W.cell? ⟨w.heap.size,1,none⟩=some (.int .i64 a):=by rw [hW];simp
 have x2:W.cell? ⟨w.heap.size,2,none⟩=some (.int .i64 n):=by rw [hW];simp
 have HW:=zh hW;have HXn:Hid (¬bk c ts w.heap.size):=fun e=>absurd (hA.low e).2 (XL _);have HA:Hid (WAt W.drew B c p ts S):=(hA.below hbW).below (Mm.bdrew W);have HB:Hid (Mm.Mv (bk c ts) (bk c ts) w W.drew):=Mm.Mv.of_below (hbW.trans ((Mm.bdrew W).mono hbW.size));have c0:W.drew.cell? ⟨c.x.D,0,none⟩=some (.int .i64 S.now):=HA.out.c0;have HI:=zh hI;have hL:S.F.L.length≤1000000000:=by have:=hI.len;omega
 have hk2:k≤1000000:=by omega
 clear hA hI hbW hW;generalize hD:c.x.D=D at*;go_enter func70,ntmps70;go_upto_region 1 with fail
 rw [←HW.out];clear HW;generalize w.heap.size=X at*;go_upto_region 12 with fail
 refine Tk.st 15 [false,false,false,false,false,false,false,false,false,false,false,false,false,false,false] (S:=fun w'=>w'.cell? ⟨X,1,none⟩=some (.int .i64 a)∧w'.cell? ⟨X,2,none⟩=some (.int .i64 n)∧w'.cell? ⟨D,0,none⟩=some (.int .i64 S.now)) (by kernel_rfl) (by kernel_rfl) (⟨x1,x2,c0⟩) (fun hHeld=> ?_)
 iterate 9
  refine Tk.go ?_;(try simp only [Tk.nx,Act.put,ar,ag])
 refine Tk.r1 9 fun K hK=> ?_;go_simp;go_wp2_with((go_at_call 107;have cX:=leaseC B c p ts S h k n W.drew HA.out HI.out;rw [hD]at cX;(with_reducible refine cX.mono ?_);rintro e w1 ⟨z,rfl,c1,a1,d1,m1⟩;clear cX;have HX1:Hid (WAt w1 B c1 p ts { S with qL:=leaseL S.qL S.now n } ∧c1.x.D=D∧Mm.Mv (bk c ts) (bk c1 ts) W.drew w1):=⟨a1,d1.trans hD,m1⟩;have hD1:c1.x.D=D:=d1.trans hD;clear a1 d1 m1))
 refine hK.out _ _ (⟨HX1.out.2.2.cell x1 HXn.out,HX1.out.2.2.cell x2 HXn.out,by have q:=HX1.out.1.c0;rw [hD1]at q;exact q⟩) (fun hHeld=> ?_);clear hK K;(try simp only [ar])
 iterate 5
  refine Tk.go ?_;(try simp only [Tk.nx,Act.put,ar,ag])
 refine wpAnyH_done (by kernel_rfl) ?_ _;go_wp2;go_ret;exact⟨rfl,c1,HX1.out.1,HX1.out.2.1.trans hD.symm,HB.out.trans HX1.out.2.2⟩
theorem do_6 (a n:Int) (w:World) (hA:WAt w B c p ts S) (hI:WI ts S h k) (_hh:h≤1000) (hk:k≤400000) (_hP:PlOk p ts) (_hU: ∀t∈ts,TrU t):
  Calls prog 70 #[.pointer (some ⟨c.x.D,0,none⟩),.agg #[.int .i64 6,.int .i64 a,.int .i64 n]] w fun e w'=>e=.returned (.int .i64 (ackE S.qL S.now n))∧Wst B c p ts ({ S with qL:=ackL S.qL S.now n }) w w':=by
 obtain⟨W,hW⟩: ∃W,W=w.alloc (.cells #[.int .i64 6,.int .i64 a,.int .i64 n] 76):=⟨_,rfl⟩
 have hbW:Below w.heap.size w W:=by rw [hW];exact(Below.refl _ _).alloc (Xa _) _
 have x0:W.cell? ⟨w.heap.size,0,none⟩=some (.int .i64 6):=by rw [hW];simp
 have x1:W.cell? ⟨w.heap.size,1,none⟩=some (.int .i64 a):=by rw [hW];simp
 have x2:W.cell? ⟨w.heap.size,2,none⟩=some (.int .i64 n):=by rw [hW];simp
 have HW:=zh hW;have HXn:Hid (¬bk c ts w.heap.size):=fun e=>absurd (hA.low e).2 (XL _);have HA:Hid (WAt W.drew B c p ts S):=(hA.below hbW).below (Mm.bdrew W);have HB:Hid (Mm.Mv (bk c ts) (bk c ts) w W.drew):=Mm.Mv.of_below (hbW.trans ((Mm.bdrew W).mono hbW.size));have c0:W.drew.cell? ⟨c.x.D,0,none⟩=some (.int .i64 S.now):=HA.out.c0;have HI:=zh hI;have hL:S.F.L.length≤1000000000:=by have:=hI.len;omega
 have hk2:k≤1000000:=by omega
 clear hA hI hbW hW;generalize hD:c.x.D=D at*;go_enter func70,ntmps70;go_upto_region 1 with fail
 rw [←HW.out];clear HW;generalize w.heap.size=X at*;go_upto_region 15 with fail
 refine Tk.st 11 [false,false,false,false,false,false,false,false,false,false,false] (S:=fun w'=>w'.cell? ⟨X,1,none⟩=some (.int .i64 a)∧w'.cell? ⟨X,2,none⟩=some (.int .i64 n)∧w'.cell? ⟨D,0,none⟩=some (.int .i64 S.now)) (by kernel_rfl) (by kernel_rfl) (⟨x1,x2,c0⟩) (fun hHeld=> ?_)
 iterate 9
  refine Tk.go ?_;(try simp only [Tk.nx,Act.put,ar,ag])
 refine Tk.r1 9 fun K hK=> ?_;go_simp;go_wp2_with((go_at_call 108;have cX:=ackC B c p ts S h k n W.drew HA.out HI.out;rw [hD]at cX;(with_reducible refine cX.mono ?_);rintro e w1 ⟨rfl,c1,a1,d1,m1⟩;clear cX;have HX1:Hid (WAt w1 B c1 p ts { S with qL:=ackL S.qL S.now n } ∧c1.x.D=D∧Mm.Mv (bk c ts) (bk c1 ts) W.drew w1):=⟨a1,d1.trans hD,m1⟩;have hD1:c1.x.D=D:=d1.trans hD;clear a1 d1 m1))
 refine hK.out _ _ (⟨HX1.out.2.2.cell x1 HXn.out,HX1.out.2.2.cell x2 HXn.out,by have q:=HX1.out.1.c0;rw [hD1]at q;exact q⟩) (fun hHeld=> ?_);clear hK K;(try simp only [ar])
 iterate 1
  refine Tk.go ?_;(try simp only [Tk.nx,Act.put,ar,ag])
 refine wpAnyH_done (by kernel_rfl) ?_ _;(try go_wp2);go_ret;exact⟨rfl,c1,HX1.out.1,HX1.out.2.1.trans hD.symm,HB.out.trans HX1.out.2.2⟩
theorem do_7 (a n:Int) (w:World) (hA:WAt w B c p ts S) (hI:WI ts S h k) (_hh:h≤1000) (hk:k≤400000) (_hP:PlOk p ts) (_hU: ∀t∈ts,TrU t):
  Calls prog 70 #[.pointer (some ⟨c.x.D,0,none⟩),.agg #[.int .i64 7,.int .i64 a,.int .i64 n]] w fun e w'=>e=.returned (.int .i64 (failE S a n))∧Wst B c p ts (failW S a n) w w':=by
 obtain⟨W,hW⟩: ∃W,W=w.alloc (.cells #[.int .i64 7,.int .i64 a,.int .i64 n] 76):=⟨_,rfl⟩
 have hbW:Below w.heap.size w W:=by rw [hW];exact(Below.refl _ _).alloc (Xa _) _
 have x0:W.cell? ⟨w.heap.size,0,none⟩=some (.int .i64 7):=by rw [hW];simp
 have x1:W.cell? ⟨w.heap.size,1,none⟩=some (.int .i64 a):=by rw [hW];simp
 have x2:W.cell? ⟨w.heap.size,2,none⟩=some (.int .i64 n):=by rw [hW];simp
 have HW:=zh hW;have HXn:Hid (¬bk c ts w.heap.size):=fun e=>absurd (hA.low e).2 (XL _);have HA:Hid (WAt W B c p ts S):=hA.below hbW;have HB:Hid (Mm.Mv (bk c ts) (bk c ts) w W):=Mm.Mv.of_below hbW;have c0:W.cell? ⟨c.x.D,0,none⟩=some (.int .i64 S.now):=HA.out.c0;have HI:=zh hI;have hL:S.F.L.length≤1000000000:=by have:=hI.len;omega
 have hk2:k≤1000000:=by omega
 clear hA hI hbW hW;generalize hD:c.x.D=D at*;go_enter func70,ntmps70;go_upto_region 1 with fail
 rw [←HW.out];clear HW;generalize w.heap.size=X at*;go_wp2_with(go_at_call 109;have cX:=fail_any B c p ts S h k a n W HA.out HI.out;rw [hD]at cX;(with_reducible refine cX.mono ?_);rintro e w1 ⟨rfl,c1,a1,d1,m1⟩;clear cX;have HX1:Hid (WAt w1 B c1 p ts (failW S a n)∧c1.x.D=D∧Mm.Mv (bk c ts) (bk c1 ts) W w1):=⟨a1,d1.trans hD,m1⟩;have hD1:c1.x.D=D:=d1.trans hD;clear a1 d1 m1)
 go_ret;exact⟨rfl,c1,HX1.out.1,HX1.out.2.1.trans hD.symm,HB.out.trans HX1.out.2.2⟩
theorem do_8 (a n:Int) (w:World) (hA:WAt w B c p ts S) (hI:WI ts S h k) (_hh:h≤1000) (hk:k≤400000) (_hP:PlOk p ts) (_hU: ∀t∈ts,TrU t):
  Calls prog 70 #[.pointer (some ⟨c.x.D,0,none⟩),.agg #[.int .i64 8,.int .i64 a,.int .i64 n]] w fun e w'=>e=.returned (.int .i64 (Flt.turnE S.F.L n 1))∧Wst B c p ts ({ S with F:=Flt.turnS S.F n 1 }) w w':=by
 obtain⟨W,hW⟩: ∃W,W=w.alloc (.cells #[.int .i64 8,.int .i64 a,.int .i64 n] 76):=⟨_,rfl⟩
 have hbW:Below w.heap.size w W:=by rw [hW];exact(Below.refl _ _).alloc (Xa _) _
 have x0:W.cell? ⟨w.heap.size,0,none⟩=some (.int .i64 8):=by rw [hW];simp
 have x1:W.cell? ⟨w.heap.size,1,none⟩=some (.int .i64 a):=by rw [hW];simp
 have x2:W.cell? ⟨w.heap.size,2,none⟩=some (.int .i64 n):=by rw [hW];simp
 have HW:=zh hW;have HXn:Hid (¬bk c ts w.heap.size):=fun e=>absurd (hA.low e).2 (XL _);have HA:Hid (WAt W.drew B c p ts S):=(hA.below hbW).below (Mm.bdrew W);have HB:Hid (Mm.Mv (bk c ts) (bk c ts) w W.drew):=Mm.Mv.of_below (hbW.trans ((Mm.bdrew W).mono hbW.size));have c0:W.drew.cell? ⟨c.x.D,0,none⟩=some (.int .i64 S.now):=HA.out.c0;have HI:=zh hI;have hL:S.F.L.length≤1000000000:=by have:=hI.len;omega
 have hk2:k≤1000000:=by omega
 clear hA hI hbW hW;generalize hD:c.x.D=D at*;go_enter func70,ntmps70;go_upto_region 1 with fail
 rw [←HW.out];clear HW;generalize w.heap.size=X at*;go_upto_region 19 with fail
 refine Tk.st 7 [false,false,false,false,false,false,false] (S:=fun w'=>w'.cell? ⟨X,1,none⟩=some (.int .i64 a)∧w'.cell? ⟨X,2,none⟩=some (.int .i64 n)∧w'.cell? ⟨D,0,none⟩=some (.int .i64 S.now)) (by kernel_rfl) (by kernel_rfl) (⟨x1,x2,c0⟩) (fun hHeld=> ?_)
 iterate 5
  refine Tk.go ?_;(try simp only [Tk.nx,Act.put,ar,ag])
 refine Tk.r1 5 fun K hK=> ?_;go_simp;go_wp2_with((go_at_call 110;have cX:=startC B c p ts S n W.drew HA.out hL;rw [hD]at cX;(with_reducible refine cX.mono ?_);rintro e w1 ⟨rfl,c1,a1,d1,m1⟩;clear cX;have HX1:Hid (WAt w1 B c1 p ts { S with F:=Flt.turnS S.F n 1 } ∧c1.x.D=D∧Mm.Mv (bk c ts) (bk c1 ts) W.drew w1):=⟨a1,d1.trans hD,m1⟩;have hD1:c1.x.D=D:=d1.trans hD;clear a1 d1 m1))
 refine hK.out _ _ (⟨HX1.out.2.2.cell x1 HXn.out,HX1.out.2.2.cell x2 HXn.out,by have q:=HX1.out.1.c0;rw [hD1]at q;exact q⟩) (fun hHeld=> ?_);clear hK K;(try simp only [ar])
 iterate 1
  refine Tk.go ?_;(try simp only [Tk.nx,Act.put,ar,ag])
 refine wpAnyH_done (by kernel_rfl) ?_ _;(try go_wp2);go_ret;exact⟨rfl,c1,HX1.out.1,HX1.out.2.1.trans hD.symm,HB.out.trans HX1.out.2.2⟩
theorem do_9 (a n:Int) (w:World) (hA:WAt w B c p ts S) (hI:WI ts S h k) (_hh:h≤1000) (hk:k≤400000) (_hP:PlOk p ts) (_hU: ∀t∈ts,TrU t):
  Calls prog 70 #[.pointer (some ⟨c.x.D,0,none⟩),.agg #[.int .i64 9,.int .i64 a,.int .i64 n]] w fun e w'=>e=.returned (.int .i64 (Flt.turnE S.F.L n 2))∧Wst B c p ts (readyW S n) w w':=by
 obtain⟨W,hW⟩: ∃W,W=w.alloc (.cells #[.int .i64 9,.int .i64 a,.int .i64 n] 76):=⟨_,rfl⟩
 have hbW:Below w.heap.size w W:=by rw [hW];exact(Below.refl _ _).alloc (Xa _) _
 have x0:W.cell? ⟨w.heap.size,0,none⟩=some (.int .i64 9):=by rw [hW];simp
 have x1:W.cell? ⟨w.heap.size,1,none⟩=some (.int .i64 a):=by rw [hW];simp
 have x2:W.cell? ⟨w.heap.size,2,none⟩=some (.int .i64 n):=by rw [hW];simp
 have HW:=zh hW;have HXn:Hid (¬bk c ts w.heap.size):=fun e=>absurd (hA.low e).2 (XL _);have HA:Hid (WAt W B c p ts S):=hA.below hbW;have HB:Hid (Mm.Mv (bk c ts) (bk c ts) w W):=Mm.Mv.of_below hbW;have c0:W.cell? ⟨c.x.D,0,none⟩=some (.int .i64 S.now):=HA.out.c0;have HI:=zh hI;have hL:S.F.L.length≤1000000000:=by have:=hI.len;omega
 have hk2:k≤1000000:=by omega
 clear hA hI hbW hW;generalize hD:c.x.D=D at*;go_enter func70,ntmps70;go_upto_region 1 with fail
 rw [←HW.out];clear HW;generalize w.heap.size=X at*;go_wp2_with(go_at_call 111;have cX:=ready_any B c p ts S h k n W HA.out HI.out hk2;rw [hD]at cX;(with_reducible refine cX.mono ?_);rintro e w1 ⟨rfl,c1,a1,d1,m1⟩;clear cX;have HX1:Hid (WAt w1 B c1 p ts (readyW S n)∧c1.x.D=D∧Mm.Mv (bk c ts) (bk c1 ts) W w1):=⟨a1,d1.trans hD,m1⟩;have hD1:c1.x.D=D:=d1.trans hD;clear a1 d1 m1)
 go_ret;exact⟨rfl,c1,HX1.out.1,HX1.out.2.1.trans hD.symm,HB.out.trans HX1.out.2.2⟩
theorem do_10 (a n:Int) (w:World) (hA:WAt w B c p ts S) (hI:WI ts S h k) (_hh:h≤1000) (hk:k≤400000) (_hP:PlOk p ts) (_hU: ∀t∈ts,TrU t):
  Calls prog 70 #[.pointer (some ⟨c.x.D,0,none⟩),.agg #[.int .i64 10,.int .i64 a,.int .i64 n]] w fun e w'=>e=.returned (.int .i64 (Flt.crashE S.F.L n))∧Wst B c p ts (crashW S n) w w':=by
 obtain⟨W,hW⟩: ∃W,W=w.alloc (.cells #[.int .i64 10,.int .i64 a,.int .i64 n] 76):=⟨_,rfl⟩
 have hbW:Below w.heap.size w W:=by rw [hW];exact(Below.refl _ _).alloc (Xa _) _
 have x0:W.cell? ⟨w.heap.size,0,none⟩=some (.int .i64 10):=by rw [hW];simp
 have x1:W.cell? ⟨w.heap.size,1,none⟩=some (.int .i64 a):=by rw [hW];simp
 have x2:W.cell? ⟨w.heap.size,2,none⟩=some (.int .i64 n):=by rw [hW];simp
 have HW:=zh hW;have HXn:Hid (¬bk c ts w.heap.size):=fun e=>absurd (hA.low e).2 (XL _);have HA:Hid (WAt W B c p ts S):=hA.below hbW;have HB:Hid (Mm.Mv (bk c ts) (bk c ts) w W):=Mm.Mv.of_below hbW;have c0:W.cell? ⟨c.x.D,0,none⟩=some (.int .i64 S.now):=HA.out.c0;have HI:=zh hI;have hL:S.F.L.length≤1000000000:=by have:=hI.len;omega
 have hk2:k≤1000000:=by omega
 clear hA hI hbW hW;generalize hD:c.x.D=D at*;go_enter func70,ntmps70;go_upto_region 1 with fail
 rw [←HW.out];clear HW;generalize w.heap.size=X at*;go_wp2_with(go_at_call 112;have cX:=crash_any B c p ts S h k n W HA.out HI.out hk2;rw [hD]at cX;(with_reducible refine cX.mono ?_);rintro e w1 ⟨rfl,c1,a1,d1,m1⟩;clear cX;have HX1:Hid (WAt w1 B c1 p ts (crashW S n)∧c1.x.D=D∧Mm.Mv (bk c ts) (bk c1 ts) W w1):=⟨a1,d1.trans hD,m1⟩;have hD1:c1.x.D=D:=d1.trans hD;clear a1 d1 m1)
 go_ret;exact⟨rfl,c1,HX1.out.1,HX1.out.2.1.trans hD.symm,HB.out.trans HX1.out.2.2⟩
theorem do_11 (a n:Int) (w:World) (hA:WAt w B c p ts S) (hI:WI ts S h k) (_hh:h≤1000) (hk:k≤400000) (_hP:PlOk p ts) (_hU: ∀t∈ts,TrU t):
  Calls prog 70 #[.pointer (some ⟨c.x.D,0,none⟩),.agg #[.int .i64 11,.int .i64 a,.int .i64 n]] w fun e w'=>e=.returned (.int .i64 (Buf.askE S.R S.now a n))∧Wst B c p ts (askW S a n) w w':=by
 obtain⟨W,hW⟩: ∃W,W=w.alloc (.cells #[.int .i64 11,.int .i64 a,.int .i64 n] 76):=⟨_,rfl⟩
 have hbW:Below w.heap.size w W:=by rw [hW];exact(Below.refl _ _).alloc (Xa _) _
 have x0:W.cell? ⟨w.heap.size,0,none⟩=some (.int .i64 11):=by rw [hW];simp
 have x1:W.cell? ⟨w.heap.size,1,none⟩=some (.int .i64 a):=by rw [hW];simp
 have x2:W.cell? ⟨w.heap.size,2,none⟩=some (.int .i64 n):=by rw [hW];simp
 have HW:=zh hW;have HXn:Hid (¬bk c ts w.heap.size):=fun e=>absurd (hA.low e).2 (XL _);have HA:Hid (WAt W B c p ts S):=hA.below hbW;have HB:Hid (Mm.Mv (bk c ts) (bk c ts) w W):=Mm.Mv.of_below hbW;have c0:W.cell? ⟨c.x.D,0,none⟩=some (.int .i64 S.now):=HA.out.c0;have HI:=zh hI;have hL:S.F.L.length≤1000000000:=by have:=hI.len;omega
 have hk2:k≤1000000:=by omega
 clear hA hI hbW hW;generalize hD:c.x.D=D at*;go_enter func70,ntmps70;go_upto_region 1 with fail
 rw [←HW.out];clear HW;generalize w.heap.size=X at*;go_wp2_with(go_at_call 113;have cX:=ask_any B c p ts S h k a n W HA.out HI.out hk2;rw [hD]at cX;(with_reducible refine cX.mono ?_);rintro e w1 ⟨rfl,c1,a1,d1,m1⟩;clear cX;have HX1:Hid (WAt w1 B c1 p ts (askW S a n)∧c1.x.D=D∧Mm.Mv (bk c ts) (bk c1 ts) W w1):=⟨a1,d1.trans hD,m1⟩;have hD1:c1.x.D=D:=d1.trans hD;clear a1 d1 m1)
 go_ret;exact⟨rfl,c1,HX1.out.1,HX1.out.2.1.trans hD.symm,HB.out.trans HX1.out.2.2⟩
theorem do_12 (a n:Int) (w:World) (hA:WAt w B c p ts S) (hI:WI ts S h k) (_hh:h≤1000) (hk:k≤400000) (_hP:PlOk p ts) (_hU: ∀t∈ts,TrU t):
  Calls prog 70 #[.pointer (some ⟨c.x.D,0,none⟩),.agg #[.int .i64 12,.int .i64 a,.int .i64 n]] w fun e w'=>e=.returned (.int .i64 (Buf.doneE S.R n))∧Wst B c p ts (doneW S n) w w':=by
 obtain⟨W,hW⟩: ∃W,W=w.alloc (.cells #[.int .i64 12,.int .i64 a,.int .i64 n] 76):=⟨_,rfl⟩
 have hbW:Below w.heap.size w W:=by rw [hW];exact(Below.refl _ _).alloc (Xa _) _
 have x0:W.cell? ⟨w.heap.size,0,none⟩=some (.int .i64 12):=by rw [hW];simp
 have x1:W.cell? ⟨w.heap.size,1,none⟩=some (.int .i64 a):=by rw [hW];simp
 have x2:W.cell? ⟨w.heap.size,2,none⟩=some (.int .i64 n):=by rw [hW];simp
 have HW:=zh hW;have HXn:Hid (¬bk c ts w.heap.size):=fun e=>absurd (hA.low e).2 (XL _);have HA:Hid (WAt W B c p ts S):=hA.below hbW;have HB:Hid (Mm.Mv (bk c ts) (bk c ts) w W):=Mm.Mv.of_below hbW;have c0:W.cell? ⟨c.x.D,0,none⟩=some (.int .i64 S.now):=HA.out.c0;have HI:=zh hI;have hL:S.F.L.length≤1000000000:=by have:=hI.len;omega
 have hk2:k≤1000000:=by omega
 clear hA hI hbW hW;generalize hD:c.x.D=D at*;go_enter func70,ntmps70;go_upto_region 1 with fail
 rw [←HW.out];clear HW;generalize w.heap.size=X at*;go_wp2_with(go_at_call 114;have cX:=done_any B c p ts S h k n W HA.out HI.out hk2;rw [hD]at cX;(with_reducible refine cX.mono ?_);rintro e w1 ⟨rfl,c1,a1,d1,m1⟩;clear cX;have HX1:Hid (WAt w1 B c1 p ts (doneW S n)∧c1.x.D=D∧Mm.Mv (bk c ts) (bk c1 ts) W w1):=⟨a1,d1.trans hD,m1⟩;have hD1:c1.x.D=D:=d1.trans hD;clear a1 d1 m1)
 go_ret;exact⟨rfl,c1,HX1.out.1,HX1.out.2.1.trans hD.symm,HB.out.trans HX1.out.2.2⟩
theorem do_13 (a n:Int) (w:World) (hA:WAt w B c p ts S) (hI:WI ts S h k) (_hh:h≤1000) (hk:k≤400000) (_hP:PlOk p ts) (_hU: ∀t∈ts,TrU t):
  Calls prog 70 #[.pointer (some ⟨c.x.D,0,none⟩),.agg #[.int .i64 13,.int .i64 a,.int .i64 n]] w fun e w'=>e=.returned (.int .i64 (pauseE n))∧Wst B c p ts (pauseW S n) w w':=by
 obtain⟨W,hW⟩: ∃W,W=w.alloc (.cells #[.int .i64 13,.int .i64 a,.int .i64 n] 76):=⟨_,rfl⟩
 have hbW:Below w.heap.size w W:=by rw [hW];exact(Below.refl _ _).alloc (Xa _) _
 have x0:W.cell? ⟨w.heap.size,0,none⟩=some (.int .i64 13):=by rw [hW];simp
 have x1:W.cell? ⟨w.heap.size,1,none⟩=some (.int .i64 a):=by rw [hW];simp
 have x2:W.cell? ⟨w.heap.size,2,none⟩=some (.int .i64 n):=by rw [hW];simp
 have HW:=zh hW;have HXn:Hid (¬bk c ts w.heap.size):=fun e=>absurd (hA.low e).2 (XL _);have HA:Hid (WAt W.drew B c p ts S):=(hA.below hbW).below (Mm.bdrew W);have HB:Hid (Mm.Mv (bk c ts) (bk c ts) w W.drew):=Mm.Mv.of_below (hbW.trans ((Mm.bdrew W).mono hbW.size));have c0:W.drew.cell? ⟨c.x.D,0,none⟩=some (.int .i64 S.now):=HA.out.c0;have HI:=zh hI;have hL:S.F.L.length≤1000000000:=by have:=hI.len;omega
 have hk2:k≤1000000:=by omega
 clear hA hI hbW hW;generalize hD:c.x.D=D at*;go_enter func70,ntmps70;go_upto_region 1 with fail
 rw [←HW.out];clear HW;generalize w.heap.size=X at*;go_upto_region 29 with fail
 refine Tk.st 7 [false,false,false,false,false,false,false] (S:=fun w'=>w'.cell? ⟨X,1,none⟩=some (.int .i64 a)∧w'.cell? ⟨X,2,none⟩=some (.int .i64 n)∧w'.cell? ⟨D,0,none⟩=some (.int .i64 S.now)) (by kernel_rfl) (by kernel_rfl) (⟨x1,x2,c0⟩) (fun hHeld=> ?_)
 iterate 5
  refine Tk.go ?_;(try simp only [Tk.nx,Act.put,ar,ag])
 refine Tk.r1 5 fun K hK=> ?_;go_simp;go_wp2_with((go_at_call 115;have cX:=pauseC B c p ts S n W.drew HA.out;rw [hD]at cX;(with_reducible refine cX.mono ?_);rintro e w1 ⟨rfl,c1,a1,d1,m1⟩;clear cX;have HX1:Hid (WAt w1 B c1 p ts (pauseW S n)∧c1.x.D=D∧Mm.Mv (bk c ts) (bk c1 ts) W.drew w1):=⟨a1,d1.trans hD,m1⟩;have hD1:c1.x.D=D:=d1.trans hD;clear a1 d1 m1))
 refine hK.out _ _ (⟨HX1.out.2.2.cell x1 HXn.out,HX1.out.2.2.cell x2 HXn.out,by have q:=HX1.out.1.c0;rw [hD1,pause_now]at q;exact q⟩) (fun hHeld=> ?_);clear hK K;(try simp only [ar])
 iterate 1
  refine Tk.go ?_;(try simp only [Tk.nx,Act.put,ar,ag])
 refine wpAnyH_done (by kernel_rfl) ?_ _;(try go_wp2);go_ret;exact⟨rfl,c1,HX1.out.1,HX1.out.2.1.trans hD.symm,HB.out.trans HX1.out.2.2⟩
theorem do_no (x a n:Int) (w:World) (hA:WAt w B c p ts S) (hx: ¬(1≤x∧x≤13)):
  Calls prog 70 #[.pointer (some ⟨c.x.D,0,none⟩),.agg #[.int .i64 x,.int .i64 a,.int .i64 n]] w fun e w'=>e=.returned (.int .i64 1)∧Wst B c p ts S w w':=by
 have HA:=zh hA;have k1:(x==1)=false:=by simp;omega
 have k2:(x==2)=false:=by simp;omega
 have k3:(x==3)=false:=by simp;omega
 have k4:(x==4)=false:=by simp;omega
 have k5:(x==5)=false:=by simp;omega
 have k6:(x==6)=false:=by simp;omega
 have k7:(x==7)=false:=by simp;omega
 have k8:(x==8)=false:=by simp;omega
 have k9:(x==9)=false:=by simp;omega
 have k10:(x==10)=false:=by simp;omega
 have k11:(x==11)=false:=by simp;omega
 have k12:(x==12)=false:=by simp;omega
 have k13:(x==13)=false:=by simp;omega
 clear hA;generalize hD:c.x.D=D at*;go_enter func70,ntmps70;go_wp2;go_ret;exact⟨rfl,HA.out.on ((Below.refl _ _).alloc (Xa _) _)⟩
theorem do_any (x a n:Int) (w:World) (hA:WAt w B c p ts S) (hI:WI ts S h k) (hh:h≤1000) (hk:k≤400000) (hP:PlOk p ts) (hU: ∀t∈ts,TrU t):
  Calls prog 70 #[.pointer (some ⟨c.x.D,0,none⟩),.agg #[.int .i64 x,.int .i64 a,.int .i64 n]] w fun e w'=>e=.returned (.int .i64 (doE S x a n))∧Wst B c p ts (doW p ts S x a n) w w':=by
 by_cases hx:1≤x∧x≤13
 ·rcases(by omega:x=1∨x=2∨x=3∨x=4∨x=5∨x=6∨x=7∨x=8∨x=9∨x=10∨x=11∨x=12∨x=13)with rfl|rfl|rfl|rfl|rfl|rfl|rfl|rfl|rfl|rfl|rfl|rfl|rfl
  ·exact do_1 B c p ts S h k a n w hA hI hh hk hP hU
  ·exact do_2 B c p ts S h k a n w hA hI hh hk hP hU
  ·exact do_3 B c p ts S h k a n w hA hI hh hk hP hU
  ·exact do_4 B c p ts S h k a n w hA hI hh hk hP hU
  ·exact do_5 B c p ts S h k a n w hA hI hh hk hP hU
  ·exact do_6 B c p ts S h k a n w hA hI hh hk hP hU
  ·exact do_7 B c p ts S h k a n w hA hI hh hk hP hU
  ·exact do_8 B c p ts S h k a n w hA hI hh hk hP hU
  ·exact do_9 B c p ts S h k a n w hA hI hh hk hP hU
  ·exact do_10 B c p ts S h k a n w hA hI hh hk hP hU
  ·exact do_11 B c p ts S h k a n w hA hI hh hk hP hU
  ·exact do_12 B c p ts S h k a n w hA hI hh hk hP hU
  ·exact do_13 B c p ts S h k a n w hA hI hh hk hP hU
 ·have e1:doE S x a n=1:=by unfold doE;rw [if_neg (by omega)];rw [if_neg (by omega)];rw [if_neg (by omega)];rw [if_neg (by omega)];rw [if_neg (by omega)];rw [if_neg (by omega)];rw [if_neg (by omega)];rw [if_neg (by omega)];rw [if_neg (by omega)];rw [if_neg (by omega)];rw [if_neg (by omega)];rw [if_neg (by omega)];rw [if_neg (by omega)]
  have e2:doW p ts S x a n=S:=by unfold doW;rw [if_neg (by omega)];rw [if_neg (by omega)];rw [if_neg (by omega)];rw [if_neg (by omega)];rw [if_neg (by omega)];rw [if_neg (by omega)];rw [if_neg (by omega)];rw [if_neg (by omega)];rw [if_neg (by omega)];rw [if_neg (by omega)];rw [if_neg (by omega)];rw [if_neg (by omega)];rw [if_neg (by omega)]
  rw [e1,e2];exact do_no B c p ts S x a n w hA hx
end
end Wld
namespace Wld
open Plain Pln Frm Lpp Crn

section
variable {p : Pd} {ts : List Tr} {S : WS} {h k : Nat}
theorem WI.more (g:WI ts S h k):WI ts S (h+1) (k+1000):=g.mono (by omega) (by omega)
theorem WI.que (g:WI ts S h k) {l:Int} {L:List Que.M} (hq:Que.Inv L l) (hl:0≤l∧l≤200*(h:Int)):WI ts { S with ql:=l,qL:=L } h k:=
 ⟨g.nw,g.sc,g.fl,g.lp,g.la,g.pa,g.n,g.tb,hq,hl,g.f,g.fb,g.cn,g.r⟩
theorem lease_inv (g:WI ts S h k) (n:Int):Que.Inv (leaseL S.qL S.now n) S.ql:=by
 have hb:=g.q.back S.now;have hn:=g.nw;unfold leaseL;split
 ·exact g.q
 ·rename_i h1;have h1:1≤n∧n≤100000:=Decidable.of_not_not h1;split
  ·exact hb
  ·split
   ·exact hb
   ·rename_i m hm;exact hb.set hm (by omega)
theorem ack_inv (g:WI ts S h k) (n:Int):Que.Inv (ackL S.qL S.now n) S.ql:=by
 have hb:=g.q.back S.now;unfold ackL;split
 ·exact hb
 ·split
  ·exact hb
  ·split
   ·exact hb.erase _
   ·exact hb
theorem make_inv (g:WI ts S h k) (a n:Int):WI ts (makeW S a n) (h+1) k:=by
 unfold makeW;split
 ·rename_i e;have hn:(0≤a∧a<(S.n:Int))∧(1≤n∧n≤100000):=by
   unfold makeE at e;split at e
   ·rename_i hi;split at e
    ·rename_i hr;unfold inN at hi;simp at hi;exact⟨hi,hr⟩
    ·cases e
   ·cases e
  refine⟨g.nw,g.sc,g.fl,g.lp,g.la,g.pa,g.n,fun i hi=> ?_,g.q,⟨g.qb.1,by have:=g.qb.2;show S.ql≤_;omega⟩,g.f,g.fb,g.cn,g.r⟩;have:=g.tb i hi;show 0≤S.O i∧S.O i≤Top.upd S.E a.toNat (S.E a.toNat+n) i∧Top.upd S.E a.toNat (S.E a.toNat+n) i≤_;unfold Top.upd;by_cases x:i=a.toNat
  ·rw [if_pos x,←x];omega
  ·rw [if_neg x];omega
 ·exact g.mono (by omega) (Xa _)
theorem take_inv (g:WI ts S h k) (a n:Int):WI ts (takeW S a n) h k:=by
 unfold takeW;split
 ·rename_i e;have hn:(0≤a∧a<(S.n:Int))∧(S.O a.toNat≤n∧n≤S.E a.toNat):=by
   unfold takeE at e;split at e
   ·rename_i hi;split at e
    ·rename_i hr;unfold inN at hi;simp at hi;exact⟨hi,hr⟩
    ·cases e
   ·cases e
  refine⟨g.nw,g.sc,g.fl,g.lp,g.la,g.pa,g.n,fun i hi=> ?_,g.q,g.qb,g.f,g.fb,g.cn,g.r⟩;have:=g.tb i hi;show 0≤Top.upd S.O a.toNat n i∧Top.upd S.O a.toNat n i≤S.E i∧S.E i≤_;unfold Top.upd;by_cases x:i=a.toNat
  ·rw [if_pos x];rw [x]at this⊢;omega
  ·rw [if_neg x];omega
 ·exact g
theorem put_inv (g:WI ts S h k) (n:Int):WI ts (putW S n) (h+1) k:=by
 unfold putW;split
 ·rename_i e;have hn:1≤n∧S.qL.length+n≤200:=by
   unfold putE at e;split at e
   ·cases e
   ·split at e
    ·cases e
    ·omega
  obtain⟨i,rfl⟩: ∃i:Nat,n=(i:Int):=⟨n.toNat,by omega⟩
  have hb:=g.qb;exact(g.mono (h':=h+1) (by omega) (Xa _)).que (g.q.put (n:=i) (by omega)) (by omega)
 ·exact g.mono (by omega) (Xa _)
theorem fail_inv (g:WI ts S h k) (a n:Int):WI ts (failW S a n) h k:=by
 unfold failW;split
 ·exact⟨g.nw,g.sc,by rw [Yg];exact g.fl,g.lp,g.la,g.pa,g.n,g.tb,g.q,g.qb,g.f,g.fb,g.cn,g.r⟩
 ·exact g
theorem pause_inv (g:WI ts S h k) (n:Int):WI ts (pauseW S n) h k:=by
 unfold pauseW;split
 ·rename_i e;have hn: -1≤n∧n≤50:=by
   unfold pauseE at e;split at e
   ·assumption
   ·cases e
  exact⟨g.nw,g.sc,g.fl,g.lp.pause n,g.la,hn,g.n,g.tb,g.q,g.qb,g.f,g.fb,g.cn,g.r⟩
 ·exact g
theorem WI.do (hP:PlOk p ts) (g:WI ts S h k) (x a n:Int):WI ts (doW p ts S x a n) (h+1) (k+1000):=by
 unfold doW;by_cases h1:x=1
 ·rw [if_pos h1];split
  ·rename_i e;have hn:(1≤n∧n≤1000)∧S.now+n≤1099511627776:=by
    unfold tickE at e;split at e
    ·assumption
    ·cases e
   exact(g.ticks hP n.toNat (by omega)).mono (by omega) (by omega)
  ·exact g.more
 rw [if_neg h1];by_cases h2:x=2
 ·rw [if_pos h2];exact(make_inv g a n).mono (Xa _) (by omega)
 rw [if_neg h2];by_cases h3:x=3
 ·rw [if_pos h3];exact(take_inv g a n).more
 rw [if_neg h3];by_cases h4:x=4
 ·rw [if_pos h4];exact(put_inv g n).mono (Xa _) (by omega)
 rw [if_neg h4];by_cases h5:x=5
 ·rw [if_pos h5];exact(g.que (lease_inv g n) g.qb).more
 rw [if_neg h5];by_cases h6:x=6
 ·rw [if_pos h6];exact(g.que (ack_inv g n) g.qb).more
 rw [if_neg h6];by_cases h7:x=7
 ·rw [if_pos h7];exact(fail_inv g a n).more
 rw [if_neg h7];by_cases h8:x=8
 ·rw [if_pos h8];exact(g.ready n 1 (Or.inl rfl)).more
 rw [if_neg h8];by_cases h9:x=9
 ·rw [if_pos h9];unfold readyW;split
  ·exact(g.ready n 2 (Or.inr rfl)).on.more
  ·exact g.more
 rw [if_neg h9];by_cases h10:x=10
 ·rw [if_pos h10];unfold crashW;split
  ·exact(g.crash n).on.more
  ·exact g.more
 rw [if_neg h10];by_cases h11:x=11
 ·rw [if_pos h11];unfold askW;split
  ·exact(g.ask a n).on.more
  ·exact g.more
 rw [if_neg h11];by_cases h12:x=12
 ·rw [if_pos h12];unfold doneW;split
  ·exact(g.done n).on.more
  ·exact g.more
 rw [if_neg h12];by_cases h13:x=13
 ·rw [if_pos h13];exact(pause_inv g n).more
 rw [if_neg h13];exact g.more
theorem WI.new (p:Pd) (ts:List Tr) (n:Nat) (most sec:Int) (hn:1≤n∧n≤20) (hs: -10000000000≤sec∧sec≤10000000000):WI ts (newW p ts n most sec) 0 0:=
 ⟨⟨Xu _,by show(0:Int)≤_;omega⟩,hs,by simp [newW],Lop.LI.new ts _ _,Xu _,by simp [newW,Lop.newL],hn,fun i _=>⟨Xu _,Xu _,Xu _⟩,Que.Inv.nil,⟨Xu _,Xu _⟩,Flt.inv_new most,Xu _,by simp [newW,Flt.cnt],Buf.Inv.nil⟩
end
end Wld
namespace Wld
open Go.RowKit Plain Pln Frm Lpp Crn Lop
variable {w wr:World} {G j tc D n A:Nat} {sec most:Int} {tg tp:Value} {CV:Nat→Value} {x:Pl} {ta:Option Addr} {s:Lp} {e:TypeId}

theorem info_tg:(prog.info? 235).map (fun i=>(i.zero,i.size,i.bytes))=some (some (.agg #[.int .i64 0,.bool false]),2,16):=by kernel_rfl
def kj (ts : List Tr) (j i : Nat) : Int := if i < j then (match ts[i]? with
 |some t=>t.k
 |none=>0)else 0
structure TgS (ts:List Tr) (w:World) (G j:Nat) (wr:World):Prop where
 b:Below w.heap.size w wr
 lo:w.heap.size≤G
 lt:G<wr.heap.size
 fz: ∀q,wr.frozen? ⟨G,q,none⟩=false
 c: ∀i,i<ts.length→wr.cell? ⟨G,i*2,none⟩=some (.int .i64 (kj ts j i))∧wr.cell? ⟨G,i*2+1,none⟩=some (.bool false)
theorem TgS.below {ts:List Tr} {wy:World} (h:TgS ts w G j wr) (g:Below wr.heap.size wr wy):TgS ts w G j wy:=
 ⟨h.b.trans (g.mono h.b.size),h.lo,Xb h.lt g.size,fun q=>(g.frozen (p:=⟨G,q,none⟩) h.lt).trans (h.fz q),fun i hi=>⟨(g.cell (p:=⟨G,i*2,none⟩) h.lt).trans (h.c i hi).1,(g.cell (p:=⟨G,i*2+1,none⟩) h.lt).trans (h.c i hi).2⟩⟩
theorem TgS.next {ts:List Tr} {t:Tr} (h:TgS ts w G j wr) (ht:ts[j]? =some t):TgS ts w G (j+1) (wr.setCell ⟨G,j*2,none⟩ (.int .i64 t.k)):=by
 have hj:j<ts.length:=(Xe.1 ht).1;refine⟨h.b.setCell (p:=⟨G,j*2,none⟩) h.lo _,h.lo,by simpa using h.lt,fun q=>by rw [Xi];exact h.fz q,fun i hi=>⟨?_,?_⟩⟩
 ·by_cases e:j=i
  ·subst e;have:kj ts (j+1) j=t.k:=by unfold kj;rw [if_pos (by omega),ht]
   rw [this];exact Xn _ _ _ (h.c j hi).1
  ·have:kj ts (j+1) i=kj ts j i:=by
    unfold kj;by_cases x:i<j
    ·rw [if_pos (by omega),if_pos x]
    ·rw [if_neg (by omega),if_neg x]
   rw [this,Xd (h:=fun e2=>by have:=congrArg Addr.off e2;simp at this;omega)];exact(h.c i hi).1
 ·rw [Xd (h:=fun e2=>by have:=congrArg Addr.off e2;simp at this;omega)];exact(h.c i hi).2
def TgR (ts:List Tr) (w:World) (G:Nat) (i:Value) (wr:World):Prop:= ∃j:Nat,j≤ts.length∧i=.int .i64 j∧TgS ts w G j wr
theorem made_tg (m j:Nat) (h:j<m):(madeCells #[.int .i64 0,.bool false] m).toList[j]? =some (if j%2=0 then .int .i64 0 else .bool false):=by
 have:j%2=0∨j%2=1:=by omega
 rcases this with g|g<;>simp [madeCells,h,g]
theorem trigOf_any (p:Pd) (ta:Option Addr) (tc:Nat) (ts:List Tr) (w:World) (hT:TrsAt w ta ts) (hl5:ts.length≤5):
  Calls prog 97 #[planV p (.slice ta ts.length tc)] w fun e w'=> ∃G,e=.returned (.slice (some ⟨G,0,none⟩) ts.length ts.length)∧w.heap.size≤G∧TrgAt w' G ts (List.replicate ts.length false)∧Below w.heap.size w w':=by
 obtain⟨i0,hi,hz0,hz1,hz2⟩:=info_parts info_tg;obtain⟨W,hW⟩: ∃W,W=w.alloc (.cells (planC p (.slice ta ts.length tc)) 111):=⟨_,rfl⟩
 have hPl:PlAt W w.heap.size p (.slice ta ts.length tc):=by rw [hW];exact plan_new _ _ _ _
 have hbW:Below w.heap.size w W:=by rw [hW];exact(Below.refl _ _).alloc (Xa _) _
 have hzW:w.heap.size<W.heap.size:=by rw [hW];simp
 have HW:=zh hW;have HB:=zh hbW;have HT:=zh hT;have a17:=hPl.c17;clear hW hbW hT hPl;go_enter func97,ntmps97;go_upto_region 1 with fail
 rw [←HW.out];clear HW;generalize hP:w.heap.size=P at*;go_wp2_with(at_make;refine wpList_make_full _ rfl _ _ 179 rfl W.heap.size 235 i0 _ 2 underlying179 hi hz0 hz1 _ _ _ _ ts.length rfl rfl rfl rfl (by rw [hz2];omega) (by unfold maxLen;omega) (Xa _) ?_;intro w1 hown hgrow;have hb1:Below W.heap.size W w1:=(Below.refl _ _).grown hgrow (Xa _) (fun _ h=>by cases h);have a171:=(zk a17 hb1))
 have H0:Hid (TgS ts w W.heap.size 0 w1):=by
  have hb:=HB.out;rw [←hP]at hb;have hlt:W.heap.size<w1.heap.size:=(hown.lt _ rfl).2;refine⟨(zu hb hb1),hb.size,hlt,fun q=>hown.frozenAt q,fun i hi=>⟨?_,?_⟩⟩
  ·exact(hown.cellAt (i*2) (by omega)).trans ((made_tg (ts.length*2) (i*2) (by omega)).trans (by simp [kj]))
  ·exact(hown.cellAt (i*2+1) (by omega)).trans ((made_tg (ts.length*2) (i*2+1) (by omega)).trans (by simp))
 clear hown hgrow hb1;go_loopw [13] (fun i wr=>TgR ts w W.heap.size i wr) (fun i _=>ts.length-(intOf i).toNat)
 case atStart=>exact⟨0,by omega,rfl,H0.out⟩
 case round=>
  obtain⟨j,hj,rfl,hR⟩:=hrel;by_cases hlt:j<ts.length
  ·have hlt':(j:Int)<(ts.length:Int):=by omega
   obtain⟨t,ht⟩: ∃t,ts[j]? =some t:=⟨_,Xz hlt⟩
   obtain⟨tb,toff,rfl,htl,hTr⟩:=TrsAt.elem (HT.out.below hR.b (Xa _)) ht;obtain⟨W1,hW1⟩: ∃W1,W1=wr.alloc (.cells (trC t) 171):=⟨_,rfl⟩
   have hN:TrAt (wr.alloc (.cells (trC t) 171)) wr.heap.size 0 t:=TrAt.new wr t 171;have hT1:TrAt W1 wr.heap.size 0 t:=by rw [hW1];exact hN
   have hb1:Below wr.heap.size wr W1:=by rw [hW1];exact(Below.refl _ _).alloc (Xa _) _
   have hR1:=hR.below hb1;have k0:=hT1.c0;have k1:=(hR1.c j hlt).1;have k2:=hR1.fz (j*2);have HR1:=zh hR1;have HJ:=zh ht;have HW1:=zh hW1;clear hR hR1 hb1 hW1 ht hT1
   go_upto_region 5 with (first
    |(with_reducible refine wp_tr hTr (by with_unfolding_all rfl) ?_)
    |(with_reducible refine wp_newTr hN (by with_unfolding_all rfl) (by with_unfolding_all rfl) ?_))
   rw [←HW1.out];clear HW1 hN hTr;generalize wr.heap.size=C at*;go_wp2;go_roundw
   case rel=>exact⟨j+1,hlt,rfl,HR1.out.next HJ.out⟩
   case measure=>simp [intOf];omega
  ·obtain rfl:j=ts.length:=by omega
   go_wp2;go_ret;refine⟨W.heap.size,rfl,hP▸hR.lo,⟨hR.lt,hR.fz,fun i t ht=> ?_,fun i b hb=> ?_⟩,hP▸hR.b⟩
   ·have hi:i<ts.length:=(Xe.1 ht).1;rw [(hR.c i hi).1];unfold kj;rw [if_pos hi,ht]
   ·have hi:i<ts.length:=by have:=(Xe.1 hb).1;simpa using this
    rw [List.getElem?_replicate,if_pos hi]at hb;cases hb;exact(hR.c i hi).2

def cells (sec:Int) (tg tp:Value) (CV:Nat→Value) (most:Int):List Value:=[.int .i64 0,.int .i64 sec,.int .i64 0,tg]++(List.range 39).map CV++ [tp,.int .i64 0,.slice none 0 0,.int .i64 most,.int .i64 0,.slice none 0 0,.slice none 0 0]
theorem cells_mid (h:j<39):(cells sec tg tp CV most)[4+j]? =some (CV j):=by
 unfold cells;rw [XY (by simp;omega),Yh (by simp),XQ,List.getElem?_range (by simp;omega)];simp
theorem cells_end (j:Nat):(cells sec tg tp CV most)[43+j]? =[tp,.int .i64 0,.slice none 0 0,.int .i64 most,.int .i64 0,.slice none 0 0,.slice none 0 0][j]? :=by
 unfold cells;rw [Yh (by simp)];congr 1;simp
theorem stb_pos {k:Nat} (h:k<15) (hn: ¬Stb.isNum k): ∃i,i<4∧Stb.pos i=k:=by
 unfold Stb.isNum at hn;rcases(by omega:k=9∨k=10∨k=11∨k=13)with rfl|rfl|rfl|rfl
 ·exact⟨0,by decide,rfl⟩
 ·exact⟨1,by decide,rfl⟩
 ·exact⟨2,by decide,rfl⟩
 ·exact⟨3,by decide,rfl⟩
theorem loop_cells {B:Nat} {p:Pd} {ts:List Tr} {st:Stb.St} (h:LAtO 0 w B x p ta tc ts s st) (j:Nat) (hj:j<39): ∃u,w.cell? ⟨x.D,j,none⟩=some u:=by
 by_cases h1:j<18
 ·have hl:j<(pC p (.slice ta ts.length tc)).length:=by simp [pC];omega
  have:=h.cc j _ (Xz hl);rw [Xv]at this;exact⟨_,this⟩
 ·by_cases h2:j<33
  ·have q:=h.so;by_cases h3:Stb.isNum (j-18)
   ·have:=q.num (j-18) h3;rw [show 0+18+(j-18)=j by omega]at this;exact⟨_,this⟩
   ·have: ∃i,i<4∧Stb.pos i=j-18:=stb_pos (by omega) h3;obtain⟨i,hi,e⟩:=this;have:=q.row i hi;rw [e,show 0+18+(j-18)=j by omega]at this;exact⟨_,this⟩
  ·obtain⟨z,hz,_⟩:=h.c8;rcases(by omega:j=33∨j=34∨j=35∨j=36∨j=37∨j=38)with rfl|rfl|rfl|rfl|rfl|rfl
   ·exact⟨_,h.cf⟩
   ·exact⟨_,h.c4⟩
   ·exact⟨_,h.c5⟩
   ·exact⟨_,h.c6⟩
   ·exact⟨_,h.c7⟩
   ·exact⟨_,hz⟩
theorem range39 (h: ∀j,j<39→w.cell? ⟨D,j,none⟩=some (CV j)):w.rangeAt D 0 [CV 0,CV 1,CV 2,CV 3,CV 4,CV 5,CV 6,CV 7,CV 8,CV 9,CV 10,CV 11,CV 12,CV 13,CV 14,CV 15,CV 16,CV 17,CV 18,CV 19,CV 20,CV 21,CV 22,CV 23,CV 24,CV 25,CV 26,CV 27,CV 28,CV 29,CV 30,CV 31,CV 32,CV 33,CV 34,CV 35,CV 36,CV 37,CV 38]:=by
 intro j v hv;have hj:j<39:=by have:=(Xe.1 hv).1;simpa using this
 have e:([CV 0,CV 1,CV 2,CV 3,CV 4,CV 5,CV 6,CV 7,CV 8,CV 9,CV 10,CV 11,CV 12,CV 13,CV 14,CV 15,CV 16,CV 17,CV 18,CV 19,CV 20,CV 21,CV 22,CV 23,CV 24,CV 25,CV 26,CV 27,CV 28,CV 29,CV 30,CV 31,CV 32,CV 33,CV 34,CV 35,CV 36,CV 37,CV 38]:List Value)=(List.range 39).map CV:=rfl;rw [e,XQ,List.getElem?_range hj]at hv;simp at hv;subst hv;rw [Xv];exact h j hj
theorem new_at {w9:World} {Tg N1 N2:Nat} {vF:Value} {R:Nat→Option Value} {tb:Option Addr} {tcb:Nat} {p:Pd} {ts:List Tr} {A:Array Value} (hb:Below w.heap.size w w9) (hBd:Lai.BdsAt w)
  (hl:LAtO 0 w9 w.heap.size ⟨D,vF,Stb.nilV,R⟩ (noN p) tb tcb ts (newL ts.length) (Stb.new (nU p) (nD p))) (hcv: ∀j,j<39→w9.cell? ⟨D,j,none⟩=some (CV j)) (htb: ∀b off,0<ts.length→tb=some ⟨b,off,none⟩→w.heap.size≤b)
  (h1: ∀k,(vF.ownBlock=some k∨ ∃off,0<ts.length∧tb=some ⟨k,off,none⟩)→k<N1) (hN:w.heap.size≤N1) (hR:Top.Row2 w9 G n (fun _=>0) (fun _=>0)) (hG:N1≤G) (hG2:G<N2) (hT:TrgAt w9 Tg ts (List.replicate ts.length false)) (hTg:N2≤Tg)
  (hA:A=(cells sec (.slice (some ⟨Tg,0,none⟩) ts.length ts.length) (.slice (some ⟨G,0,none⟩) n n) CV (Flt.mostN most)).toArray):
  ∃c:Pc,c.x.D=w9.heap.size∧WAt (w9.alloc (.cells A e)) w.heap.size c (noN p) ts (newW (noN p) ts n most sec)∧Below w.heap.size w (w9.alloc (.cells A e)):=by
 have hbA:Below w9.heap.size w9 (w9.alloc (.cells A e)):=(Below.refl _ _).alloc (Xa _) _;have hc: ∀j v,A[j]? =some v→(w9.alloc (.cells A e)).cell? ⟨w9.heap.size,j,none⟩=some v:=fun j v h=>by simpa using h
 have hz:(w9.alloc (.cells A e)).heap.size=w9.heap.size+1:=by simp
 have hf: ∀j,(w9.alloc (.cells A e)).frozen? ⟨w9.heap.size,j,none⟩=false:=fun j=>by simp
 have hal: ∀k,k<w9.heap.size→(w9.alloc (.cells A e)).heap[k]? =w9.heap[k]? :=fun k hk=>hbA.block k hk;have hle:w.heap.size≤w9.heap.size:=hb.size;have hGl:=hR.1;have hTl:=hT.lt;subst hA;have hm: ∀j,j<39→(w9.alloc (.cells (cells sec (.slice (some ⟨Tg,0,none⟩) ts.length ts.length) (.slice (some ⟨G,0,none⟩) n n) CV (Flt.mostN most)).toArray e)).cell? ⟨w9.heap.size,4+j,none⟩=w9.cell? ⟨D,0+j,none⟩:=fun j hj=>by
  rw [Xv,hcv j hj];exact hc _ _ (by rw [List.getElem?_toArray];exact cells_mid hj)
 have he: ∀j v,[.slice (some ⟨G,0,none⟩) n n,.int .i64 0,.slice none 0 0,.int .i64 (Flt.mostN most),.int .i64 0,.slice none 0 0,.slice none 0 0][j]? =some v→(w9.alloc (.cells (cells sec (.slice (some ⟨Tg,0,none⟩) ts.length ts.length) (.slice (some ⟨G,0,none⟩) n n) CV (Flt.mostN most)).toArray e)).cell? ⟨w9.heap.size,43+j,none⟩=some v:=fun j v h=>hc _ _ (by rw [List.getElem?_toArray,cells_end];exact h);generalize w9.alloc (.cells (cells sec (.slice (some ⟨Tg,0,none⟩) ts.length ts.length) (.slice (some ⟨G,0,none⟩) n n) CV (Flt.mostN most)).toArray e)=W at*
 have hlW := Lop.LAtO.moved (P := 4) (E := w9.heap.size) (R' := fun j => W.cell? ⟨w9.heap.size, j, none⟩) hl (by omega) hle hf hm (fun k _ ho => by
  have hk:k<w9.heap.size:=by
   rcases ho with a|⟨off,hp,e⟩
   ·exact(hl.blt a).2
   ·exact hl.tlt hp e
  exact⟨by omega,hal k hk⟩) hbA.size (fun j _=>rfl)
 refine⟨⟨⟨w9.heap.size,vF,Stb.nilV,fun j=>W.cell? ⟨w9.heap.size,j,none⟩⟩,tb,tcb,Tg,G,.slice none 0 0,.slice none 0 0,.slice none 0 0⟩,rfl,⟨hlW,hc 0 _ rfl,hc 1 _ rfl,hc 2 _ rfl,hc 3 _ rfl,hT.kept (hal _ hTl) hbA.size,⟨by show w9.heap.size≠G;omega,by show w9.heap.size<_;omega,he 0 _ rfl,hR.kept (hal _ hGl)⟩,⟨by show w9.heap.size<_;omega,hle,he 1 _ rfl,he 2 _ rfl,hf,XO _ _ _ _,by simp [Value.ownBlock]⟩,⟨by show w9.heap.size<_;omega,hle,fun j u hu=> ?_,rfl,hf,XO _ _ _ _,by simp [Value.ownBlock]⟩,⟨by show w9.heap.size<_;omega,hle,fun j u hu=> ?_,rfl,hf,XO _ _ _ _,by simp [Value.ownBlock]⟩,⟨fun i k hi hk=> ?_,fun i j k hi hj hne hk hn=> ?_⟩,⟨w,hBd,Xa _,hb.trans (hbA.mono hle)⟩⟩,hb.trans (hbA.mono hle)⟩
 ·match j,hu with
  |0,hu=>simp at hu;subst hu;exact he 3 _ rfl
  |1,hu=>simp [newW]at hu;subst hu;exact he 4 _ rfl
  |2,hu=>simp at hu;subst hu;exact he 5 _ rfl
  |j+3,hu=>simp at hu
 ·match j,hu with
  |0,hu=>simp at hu;subst hu;exact he 6 _ rfl
  |j+1,hu=>simp at hu
 ·have p1: ∀k,part ⟨⟨w9.heap.size,vF,Stb.nilV,fun j=>W.cell? ⟨w9.heap.size,j,none⟩⟩,tb,tcb,Tg,G,.slice none 0 0,.slice none 0 0,.slice none 0 0⟩ ts 1 k→w.heap.size≤k∧k<w9.heap.size:=fun k hk=>by
   rcases hk with⟨a,b⟩|⟨off,hp,e⟩
   ·rcases a with a|a|⟨i,_,a⟩
    ·exact hl.blt (Or.inl a)
    ·exact absurd a b
    ·simp [Stb.nilV,Value.ownBlock]at a
   ·exact⟨htb k off hp e,hl.tlt hp e⟩
  rcases i with _|_|_|_|_|_|i
  ·cases hk;exact⟨by show w.heap.size≤Tg;omega,by show Tg<_;omega,by show Tg≠w9.heap.size;omega⟩
  ·have:=p1 k hk;exact⟨this.1,by omega,by show k≠w9.heap.size;omega⟩
  ·cases hk;exact⟨by show w.heap.size≤G;omega,by show G<_;omega,by show G≠w9.heap.size;omega⟩
  ·simp [part,Value.ownBlock]at hk
  ·simp [part,Value.ownBlock]at hk
  ·simp [part,Value.ownBlock]at hk
  ·omega
 ·have p1: ∀k,part ⟨⟨w9.heap.size,vF,Stb.nilV,fun j=>W.cell? ⟨w9.heap.size,j,none⟩⟩,tb,tcb,Tg,G,.slice none 0 0,.slice none 0 0,.slice none 0 0⟩ ts 1 k→k<N1:=fun k hk=>by
   rcases hk with⟨a,b⟩|hk
   ·rcases a with a|a|⟨i,_,a⟩
    ·exact h1 k (Or.inl a)
    ·exact absurd a b
    ·simp [Stb.nilV,Value.ownBlock]at a
   ·exact h1 k (Or.inr hk)
  have pr: ∀i,i<6→part ⟨⟨w9.heap.size,vF,Stb.nilV,fun j=>W.cell? ⟨w9.heap.size,j,none⟩⟩,tb,tcb,Tg,G,.slice none 0 0,.slice none 0 0,.slice none 0 0⟩ ts i k→(i=0∧k=Tg)∨(i=1∧k<N1)∨(i=2∧k=G):=fun i hi hk=>by
   rcases i with _|_|_|_|_|_|i
   ·exact Or.inl ⟨rfl,hk⟩
   ·exact Or.inr (Or.inl ⟨rfl,p1 k hk⟩)
   ·exact Or.inr (Or.inr ⟨rfl,hk⟩)
   ·simp [part,Value.ownBlock]at hk
   ·simp [part,Value.ownBlock]at hk
   ·simp [part,Value.ownBlock]at hk
   ·omega
  have q1:=pr i hi hk;have q2:=pr j hj hn;omega

theorem rows_low {B:Nat} {s:Nat} {v:Value} {xs:List Value} (h:w.ownsRow B e s v n xs) (hAB:A≤B):w.ownsRow A e s v n xs:=by
 refine⟨h.1,?_⟩;rcases h.2 with a|⟨g,cap,cur,rfl,h1,h2⟩
 ·exact Or.inl a
 ·exact Or.inr ⟨g,cap,cur,rfl,Xc hAB h1,h2⟩
theorem loop_low {O:Nat} {B:Nat} {p:Pd} {ts:List Tr} {u d:Stb.Pc} (h:LAtO O w B x p ta tc ts s (Stb.new u d)) (hV:x.V=Stb.nilV) (hAB:A≤B):LAtO O w A x p ta tc ts s (Stb.new u d):=by
 have q:=h.so;refine⟨h.cc,h.cf,h.c4,h.c5,h.c6,h.c7,h.c8,rows_low h.own hAB,⟨q.lt,Xc hAB q.bQ,q.fz,q.num,q.row,fun i hi=> ?_,q.ne,q.ap⟩,h.aF,h.t,h.tb,h.rest⟩;have:Stb.rws (Stb.new u d) i=[]:=by rcases(by omega:i=0∨i=1∨i=2∨i=3)with rfl|rfl|rfl|rfl<;>rfl
 rw [this,hV];exact Rw.Own.nil _ _ _ _
theorem keepN {w':World} {P T:Nat} {p:Pd} {ts:List Tr} (h:PlAt w P p (.slice ta ts.length tc)∧(∀j,j<39→w.cell? ⟨D,j,none⟩=some (CV j))∧w.cell? ⟨T,0,none⟩=some (.slice (some ⟨G,0,none⟩) n n)) (hb:Below w.heap.size w w'):
  PlAt w' P p (.slice ta ts.length tc)∧(∀j,j<39→w'.cell? ⟨D,j,none⟩=some (CV j))∧w'.cell? ⟨T,0,none⟩=some (.slice (some ⟨G,0,none⟩) n n):=
 ⟨h.1.on hb (Xj w _ h.1.c0),fun j hj=>Tk.kc (h.2.1 j hj) hb,Tk.kc h.2.2 hb⟩
def NewWA (p:Pd) (ts:List Tr) (n:Nat) (most sec:Int) (w:World) (e:Ending) (w':World):Prop:=
 ∃c:Pc,e=.returned (.tuple #[.pointer (some ⟨c.x.D,0,none⟩),.int .i64 0])∧WAt w' w.heap.size c (noN p) ts (newW (noN p) ts n most sec)∧Below w.heap.size w w'
theorem new_yes (p:Pd) (ta:Option Addr) (tc:Nat) (ts:List Tr) (n:Nat) (most sec:Int) (w:World) (hB:Lai.BdsAt w) (hi:PdI p) (hl:p.nm.length≤9223372036854775807) (hT:TrsAt w ta ts) (hc:chkP p ts=0) (hn:1≤n∧n≤20) (hs: -10000000000≤sec∧sec≤10000000000):
  Calls prog 65 #[planV p (.slice ta ts.length tc),.int .i64 (n:Int),.int .i64 most,.int .i64 sec] w (NewWA p ts n most sec w):=by
 have hl5:=(plOk_of hc).len;obtain⟨W,hW⟩: ∃W,W=w.alloc (.cells (planC p (.slice ta ts.length tc)) 111):=⟨_,rfl⟩
 have hPl:PlAt W w.heap.size p (.slice ta ts.length tc):=by rw [hW];exact plan_new _ _ _ _
 have hbW:Below w.heap.size w W:=by rw [hW];exact(Below.refl _ _).alloc (Xa _) _
 have hzW:w.heap.size<W.heap.size:=by rw [hW];simp
 have HW:=zh hW;have HBd:=zh hB;have HT:=zh hT;have HB:=zh hbW;have cL:=lnew_yes p ta tc ts W (hB.below hbW (Xa _)) hi hl (hT.below hbW (Xa _)) hc;have cT:=fun w=>Top.new_yes n w hn.1 hn.2;have s1: ¬sec< -10000000000:=by omega
 have s2: ¬10000000000<sec:=by omega
 clear hW hbW hB hi hl hT hc hn hs;go_enter func65,ntmps65;go_upto_region 1 with fail
 rw [←HW.out];clear HW
 go_upto_region 9 with (first
  |(with_reducible refine wp_plan hPl (by with_unfolding_all rfl) ?_)
  |(go_at_call 95;(with_reducible refine cL.mono ?_);rintro e w1 ⟨D,vF,R,tb,tcb,rfl,hl1,hb1,htb⟩;clear cL)
  |(go_at_call 96;(with_reducible refine(cT _).mono ?_);rintro e w2 ⟨T,G,rfl,hT2,hG2,⟨hTG,hTl,hTc,hR2⟩,hb2⟩;clear cT))
 have hL2:LAtO 0 w2.drew W.heap.size ⟨D,vF,Stb.nilV,R⟩ (noN p) tb tcb ts (newL ts.length) (Stb.new (nU p) (nD p)):=(hl1.below hb2).drew
 obtain ⟨CV, hCV⟩ : ∃ CV : Nat → Value, ∀ j, j < 39 → w2.drew.cell? ⟨D, j, none⟩ = some (CV j) := ⟨fun j => (w2.drew.cell? ⟨D, j, none⟩).getD (.int .i64 0), fun j hj => by
  obtain⟨u,hu⟩:=loop_cells hL2 j hj;show _=some ((w2.drew.cell? ⟨D,j,none⟩).getD _);rw [show w2.drew.cell? ⟨D,j,none⟩=some u from hu];rfl⟩
 have ltP2:w.heap.size<w2.drew.heap.size:=Xb hzW (Xc hb1.size hb2.size);have ltD2:D<w2.drew.heap.size:=hL2.lt;have ltT2:T<w2.drew.heap.size:=hTl;have hs2:PlAt w2.drew w.heap.size p (.slice ta ts.length tc)∧(∀j,j<39→w2.drew.cell? ⟨D,j,none⟩=some (CV j))∧w2.drew.cell? ⟨T,0,none⟩=some (.slice (some ⟨G,0,none⟩) n n):=⟨plan_drew ((hPl.on hb1 hzW).on hb2 (Xb hzW hb1.size)),hCV,hTc⟩
 have hb12:Below W.heap.size W w2.drew:=(zu hb1 hb2).drew;have hbw2:Below w.heap.size w w2.drew:=(zu HB.out hb12)
 have cG:=trigOf_any p ta tc ts w2.drew (HT.out.below hbw2 (Xa _)) hl5
 have HF : Hid (∀ {w3 w4 w5 : World} (w6 : World) (A : Array Value) (e : TypeId) {Tg : Nat}, Below w2.drew.heap.size w2.drew w3 → Below w3.heap.size w3 w4 → Below w4.heap.size w4 w5 → Below w5.heap.size w5 w6 → TrgAt w3 Tg ts (List.replicate ts.length false) → w2.drew.heap.size ≤ Tg →
   A=(cells sec (.slice (some ⟨Tg,0,none⟩) ts.length ts.length) (.slice (some ⟨G,0,none⟩) n n) CV (Flt.mostN most)).toArray→NewWA p ts n most sec w (.returned (.tuple #[.pointer (some ⟨w6.heap.size,0,none⟩),.int .i64 0])) (w6.alloc (.cells A e))):=fun {w3 w4 w5} w6 A e {Tg} k3 k4 k5 k6 kT kg hA=>by
  have kb:Below w3.heap.size w3 w6:=(zu k4 k5).trans (k6.mono (Xc k4.size k5.size));have ka:Below w2.drew.heap.size w2.drew w6:=(zu k3 kb)
  have hla:=loop_low (hL2.below ka) rfl HB.out.size;have hbx:Below w.heap.size w w6:=(zu hbw2 ka)
  have hR6:Top.Row2 w6 G n (fun _=>0) (fun _=>0):=hR2.drew.below ka hR2.1
  obtain⟨c,hc,hWA,hbe⟩:=new_at (w:=w) (w9:=w6) (D:=D) (G:=G) (Tg:=Tg) (n:=n) (N1:=w1.heap.size) (N2:=w2.drew.heap.size) (A:=A) (e:=e) (most:=most) (sec:=sec) hbx HBd.out hla (fun j hj=>(ka.cell (p:=⟨D,j,none⟩) ltD2).trans (hCV j hj)) (fun b off hp e=>Xc HB.out.size (htb b off hp e))
   (fun k hk => by
    rcases hk with a|⟨off,hp,e⟩
    ·exact(hl1.blt (Or.inl a)).2
    ·exact hl1.tlt hp e) (Xc HB.out.size hb1.size) hR6 hG2 hR2.1 (kT.kept (kb.block Tg kT.lt) kb.size) kg hA
  exact⟨c,by rw [hc],hWA,hbe⟩
 clear hL2 hl1 hb1 hb2 htb hT2 hG2 hTG hTl hR2 hPl HBd HT HB hb12 hbw2 hTc hCV hzW s1 s2;refine wp_region_held_drew (S:=fun w'=>PlAt w' w.heap.size p (.slice ta ts.length tc)∧(∀j,j<39→w'.cell? ⟨D,j,none⟩=some (CV j))∧w'.cell? ⟨T,0,none⟩=some (.slice (some ⟨G,0,none⟩) n n)) (by kernel_rfl) (hs2) (fun hHeld=> ?_);refine Tk.gi 0 ?_;(try simp only [Act.put,ar,ag]);refine Tk.gi 3 ?_;(try simp only [Act.put,ar,ag]);refine Tk.gi 4 ?_;(try simp only [Act.put,ar,ag]);refine Tk.gi 6 ?_;(try simp only [Act.put,ar,ag]);refine Tk.gi 7 ?_;(try simp only [Act.put,ar,ag]);refine Tk.gi 12 ?_;(try simp only [Act.put,ar,ag]);refine Tk.gi 1 (v:=planV p (.slice ta ts.length tc)) ?_ (hy:=yieldsIf_load_mid (by rfl) 111 (.tmp 4) rfl w.heap.size 0 (by with_unfolding_all rfl) [.string ⟨p.nm.toArray⟩,.int .i64 p.mn,.int .i64 p.mx,.int .i64 p.po,.int .i64 p.co,.int .i64 p.tl,.int .i64 p.bk,.int .i64 p.af,.int .i64 p.sh,.int .i64 p.uw,.int .i64 p.up,.int .i64 p.uc,.int .i64 p.ue,.int .i64 p.dw,.int .i64 p.dp,.int .i64 p.dc,.int .i64 p.de,.slice ta ts.length tc] _ (fun W h=>range_plan h.1) underlying111 rfl (by kernel_rfl));(try simp only [Act.put,ar,ag]);refine Tk.gi 5 (v:=.agg #[CV 0,CV 1,CV 2,CV 3,CV 4,CV 5,CV 6,CV 7,CV 8,CV 9,CV 10,CV 11,CV 12,CV 13,CV 14,CV 15,CV 16,CV 17,CV 18,CV 19,CV 20,CV 21,CV 22,CV 23,CV 24,CV 25,CV 26,CV 27,CV 28,CV 29,CV 30,CV 31,CV 32,CV 33,CV 34,CV 35,CV 36,CV 37,CV 38]) ?_ (hy:=yieldsIf_load_mid (by rfl) 187 (.tmp 39) rfl D 0 (by with_unfolding_all rfl) [CV 0,CV 1,CV 2,CV 3,CV 4,CV 5,CV 6,CV 7,CV 8,CV 9,CV 10,CV 11,CV 12,CV 13,CV 14,CV 15,CV 16,CV 17,CV 18,CV 19,CV 20,CV 21,CV 22,CV 23,CV 24,CV 25,CV 26,CV 27,CV 28,CV 29,CV 30,CV 31,CV 32,CV 33,CV 34,CV 35,CV 36,CV 37,CV 38] _ (fun W h=>range39 h.2.1) underlying187 rfl (by kernel_rfl));(try simp only [Act.put,ar,ag]);refine Tk.gi 8 ?_;(try simp only [Act.put,ar,ag]);refine Tk.r1 2 fun K hK=> ?_;go_simp;go_wp2_with(go_at_call 97;(with_reducible refine(cG).mono ?_);rintro e w3 ⟨Tg,rfl,hTg3,hTr3,hb3⟩;have hs3:=keepN hs2 hb3)
 refine hK.out _ _ hs3 (fun hHeld=> ?_);clear hK K;(try simp only [ar]);clear cG;refine Tk.r1 9 fun K hK=> ?_;go_simp;go_wp2_with(go_at_call 98;(with_reducible refine(Que.new_any w3).mono ?_);rintro e w4 ⟨rfl,hq4,hb4⟩;have hs4:=keepN hs3 hb4;have qN4:=hq4.cN;have qS4:=hq4.cS;clear hq4)
 refine hK.out _ _ hs4 (fun hHeld=> ?_);clear hK K;(try simp only [ar]);refine Tk.gi 10 ?_;(try simp only [Act.put,ar,ag]);have x4:(PlAt w4 w.heap.size p (.slice ta ts.length tc)∧(∀j,j<39→w4.cell? ⟨D,j,none⟩=some (CV j))∧w4.cell? ⟨T,0,none⟩=some (.slice (some ⟨G,0,none⟩) n n))∧w4.cell? ⟨w3.heap.size,0,none⟩=some (.int .i64 0)∧w4.cell? ⟨w3.heap.size,1,none⟩=some (.slice none 0 0):=⟨hs4,qN4,qS4⟩
 refine Tk.up (S':=fun w'=>(PlAt w' w.heap.size p (.slice ta ts.length tc)∧(∀j,j<39→w'.cell? ⟨D,j,none⟩=some (CV j))∧w'.cell? ⟨T,0,none⟩=some (.slice (some ⟨G,0,none⟩) n n))∧w'.cell? ⟨w3.heap.size,0,none⟩=some (.int .i64 0)∧w'.cell? ⟨w3.heap.size,1,none⟩=some (.slice none 0 0)) (fun _ h=>h.1) ?_;refine Tk.gi 11 ?_;(try simp only [Act.put,ar,ag]);refine Tk.r1 13 fun K hK=> ?_;go_simp;go_wp2_with(go_at_call 99;(with_reducible refine(Flt.new_any most w4).mono ?_);rintro e w5 ⟨rfl,hf5,hb5⟩;have hs5:(PlAt w5 w.heap.size p (.slice ta ts.length tc)∧(∀j,j<39→w5.cell? ⟨D,j,none⟩=some (CV j))∧w5.cell? ⟨T,0,none⟩=some (.slice (some ⟨G,0,none⟩) n n))∧w5.cell? ⟨w3.heap.size,0,none⟩=some (.int .i64 0)∧w5.cell? ⟨w3.heap.size,1,none⟩=some (.slice none 0 0):=⟨keepN hs4 hb5,Tk.kc qN4 hb5,Tk.kc qS4 hb5⟩;have fM5:=hf5.cQ 0 _ rfl;have fL5:=hf5.cQ 1 _ rfl;have fV5:=hf5.cQ 2 _ rfl;simp only [Xv]at fM5 fL5 fV5;clear hf5)
 refine hK.out _ _ hs5 (fun hHeld=> ?_);clear hK K;(try simp only [ar]);clear x4;refine Tk.gi 14 ?_;(try simp only [Act.put,ar,ag]);have x5:((PlAt w5 w.heap.size p (.slice ta ts.length tc)∧(∀j,j<39→w5.cell? ⟨D,j,none⟩=some (CV j))∧w5.cell? ⟨T,0,none⟩=some (.slice (some ⟨G,0,none⟩) n n))∧w5.cell? ⟨w3.heap.size,0,none⟩=some (.int .i64 0)∧w5.cell? ⟨w3.heap.size,1,none⟩=some (.slice none 0 0))∧w5.cell? ⟨w4.heap.size,0,none⟩=some (.int .i64 (Flt.mostN most))∧w5.cell? ⟨w4.heap.size,1,none⟩=some (.int .i64 0)∧w5.cell? ⟨w4.heap.size,2,none⟩=some (.slice none 0 0):=⟨hs5,fM5,fL5,fV5⟩
 refine Tk.up (S':=fun w'=>((PlAt w' w.heap.size p (.slice ta ts.length tc)∧(∀j,j<39→w'.cell? ⟨D,j,none⟩=some (CV j))∧w'.cell? ⟨T,0,none⟩=some (.slice (some ⟨G,0,none⟩) n n))∧w'.cell? ⟨w3.heap.size,0,none⟩=some (.int .i64 0)∧w'.cell? ⟨w3.heap.size,1,none⟩=some (.slice none 0 0))∧w'.cell? ⟨w4.heap.size,0,none⟩=some (.int .i64 (Flt.mostN most))∧w'.cell? ⟨w4.heap.size,1,none⟩=some (.int .i64 0)∧w'.cell? ⟨w4.heap.size,2,none⟩=some (.slice none 0 0)) (fun _ h=>h.1) ?_;refine Tk.gi 15 ?_;(try simp only [Act.put,ar,ag]);refine Tk.r1 16 fun K hK=> ?_;go_simp;go_wp2_with(go_at_call 100;(with_reducible refine(Buf.new_any w5).mono ?_);rintro e w6 ⟨rfl,hf6,hb6⟩;have hs6:((PlAt w6 w.heap.size p (.slice ta ts.length tc)∧(∀j,j<39→w6.cell? ⟨D,j,none⟩=some (CV j))∧w6.cell? ⟨T,0,none⟩=some (.slice (some ⟨G,0,none⟩) n n))∧w6.cell? ⟨w3.heap.size,0,none⟩=some (.int .i64 0)∧w6.cell? ⟨w3.heap.size,1,none⟩=some (.slice none 0 0))∧w6.cell? ⟨w4.heap.size,0,none⟩=some (.int .i64 (Flt.mostN most))∧w6.cell? ⟨w4.heap.size,1,none⟩=some (.int .i64 0)∧w6.cell? ⟨w4.heap.size,2,none⟩=some (.slice none 0 0):=⟨⟨keepN hs5.1 hb6,Tk.kc hs5.2.1 hb6,Tk.kc hs5.2.2 hb6⟩,Tk.kc fM5 hb6,Tk.kc fL5 hb6,Tk.kc fV5 hb6⟩;have bV6:=hf6.cQ 0 _ rfl;simp only [Xv]at bV6;clear hf6)
 refine hK.out _ _ hs6 (fun hHeld=> ?_);clear hK K;(try simp only [ar]);clear x5;refine Tk.gi 17 ?_;(try simp only [Act.put,ar,ag]);have x6:(((PlAt w6 w.heap.size p (.slice ta ts.length tc)∧(∀j,j<39→w6.cell? ⟨D,j,none⟩=some (CV j))∧w6.cell? ⟨T,0,none⟩=some (.slice (some ⟨G,0,none⟩) n n))∧w6.cell? ⟨w3.heap.size,0,none⟩=some (.int .i64 0)∧w6.cell? ⟨w3.heap.size,1,none⟩=some (.slice none 0 0))∧w6.cell? ⟨w4.heap.size,0,none⟩=some (.int .i64 (Flt.mostN most))∧w6.cell? ⟨w4.heap.size,1,none⟩=some (.int .i64 0)∧w6.cell? ⟨w4.heap.size,2,none⟩=some (.slice none 0 0))∧w6.cell? ⟨w5.heap.size,0,none⟩=some (.slice none 0 0):=⟨hs6,bV6⟩
 refine Tk.up (S':=fun w'=>(((PlAt w' w.heap.size p (.slice ta ts.length tc)∧(∀j,j<39→w'.cell? ⟨D,j,none⟩=some (CV j))∧w'.cell? ⟨T,0,none⟩=some (.slice (some ⟨G,0,none⟩) n n))∧w'.cell? ⟨w3.heap.size,0,none⟩=some (.int .i64 0)∧w'.cell? ⟨w3.heap.size,1,none⟩=some (.slice none 0 0))∧w'.cell? ⟨w4.heap.size,0,none⟩=some (.int .i64 (Flt.mostN most))∧w'.cell? ⟨w4.heap.size,1,none⟩=some (.int .i64 0)∧w'.cell? ⟨w4.heap.size,2,none⟩=some (.slice none 0 0))∧w'.cell? ⟨w5.heap.size,0,none⟩=some (.slice none 0 0)) (fun _ h=>h.1) ?_;refine Tk.gi 18 ?_;(try simp only [Act.put,ar,ag]);refine Tk.gi 19 ?_;(try simp only [Act.put,ar,ag]);refine Tk.r1 20 fun K hK=> ?_;go_simp;have kb:=fun o=>(Below.refl w6.heap.size w6).alloc (Xa _) o;refine hK.out _ _ ⟨⟨⟨keepN hs6.1.1 (kb _),Tk.kc hs6.1.2.1 (kb _),Tk.kc hs6.1.2.2 (kb _)⟩,Tk.kc hs6.2.1 (kb _),Tk.kc hs6.2.2.1 (kb _),Tk.kc hs6.2.2.2 (kb _)⟩,Tk.kc bV6 (kb _)⟩ (fun hHeld=> ?_);clear hK K;(try simp only [ar]);refine Tk.gi 21 ?_;(try simp only [Act.put,ar,ag]);refine Tk.gi 22 ?_;(try simp only [Act.put,ar,ag]);refine wpAnyH_done (by kernel_rfl) ?_ _;(try go_wp2);go_ret2;exact HF.out w6 _ _ hb3 hb4 hb5 hb6 hTr3 hTg3 rfl

def newE (p:Pd) (ts:List Tr) (parts sec:Int):Int:=if chkP p ts≠0 then chkP p ts else if(1≤parts∧parts≤20)∧(-10000000000≤sec∧sec≤10000000000)then 0 else 1
theorem new_no (p:Pd) (ta:Option Addr) (tc:Nat) (ts:List Tr) (parts most sec:Int) (w:World) (hB:Lai.BdsAt w) (hi:PdI p) (hl:p.nm.length≤9223372036854775807) (hT:TrsAt w ta ts) (hc:newE p ts parts sec≠0):
  CB 65 #[planV p (.slice ta ts.length tc),.int .i64 parts,.int .i64 most,.int .i64 sec] w (.tuple #[.pointer none,.int .i64 (newE p ts parts sec)]):=by
 obtain⟨W,hW⟩: ∃W,W=w.alloc (.cells (planC p (.slice ta ts.length tc)) 111):=⟨_,rfl⟩
 have hPl:PlAt W w.heap.size p (.slice ta ts.length tc):=by rw [hW];exact plan_new _ _ _ _
 have hbW:Below w.heap.size w W:=by rw [hW];exact(Below.refl _ _).alloc (Xa _) _
 have HW:=zh hW;have HB:=zh hbW;by_cases h1:chkP p ts=0
 ·have cL:=lnew_yes p ta tc ts W (hB.below hbW (Xa _)) hi hl (hT.below hbW (Xa _)) h1;have hno: ¬((1≤parts∧parts≤20)∧(-10000000000≤sec∧sec≤10000000000)):=fun e=>hc (by unfold newE;rw [if_neg (by simpa using h1),if_pos e]);have e1:newE p ts parts sec=1:=by unfold newE;rw [if_neg (by simpa using h1),if_neg hno]
  rw [e1];clear hW hbW hB hi hl hT hc e1;by_cases h2:1≤parts∧parts≤20
  ·obtain⟨n,rfl⟩: ∃n:Nat,parts=(n:Int):=⟨parts.toNat,by omega⟩
   have cT:=fun w=>Top.new_yes n w (by omega) (by omega);by_cases h3:sec< -10000000000
   ·clear hno h2;go_enter func65,ntmps65;go_upto_region 1 with fail
    rw [←HW.out];clear HW
    go_wp2_with (first
     |(with_reducible refine wp_plan hPl (by with_unfolding_all rfl) ?_)
     |(go_at_call 95;(with_reducible refine cL.mono ?_);rintro e w1 ⟨D,vF,R,tb,tcb,rfl,hl1,hb1,htb⟩;clear cL hl1 htb)
     |(go_at_call 96;(with_reducible refine(cT _).mono ?_);rintro e w2 ⟨T,G,rfl,hT2,hG2,hX2,hb2⟩;clear cT hX2))
    go_ret2;exact⟨rfl,HB.out.trans ((zu hb1 hb2).mono HB.out.size)⟩
   ·have h4:10000000000<sec:=(by omega);clear hno h2;go_enter func65,ntmps65;go_upto_region 1 with fail
    rw [←HW.out];clear HW
    go_wp2_with (first
     |(with_reducible refine wp_plan hPl (by with_unfolding_all rfl) ?_)
     |(go_at_call 95;(with_reducible refine cL.mono ?_);rintro e w1 ⟨D,vF,R,tb,tcb,rfl,hl1,hb1,htb⟩;clear cL hl1 htb)
     |(go_at_call 96;(with_reducible refine(cT _).mono ?_);rintro e w2 ⟨T,G,rfl,hT2,hG2,hX2,hb2⟩;clear cT hX2))
    go_ret2;exact⟨rfl,HB.out.trans ((zu hb1 hb2).mono HB.out.size)⟩
  ·have cT:=fun w=>Top.new_no parts w h2;clear hno h2;go_enter func65,ntmps65;go_upto_region 1 with fail
   rw [←HW.out];clear HW
   go_wp2_with (first
    |(with_reducible refine wp_plan hPl (by with_unfolding_all rfl) ?_)
    |(go_at_call 95;(with_reducible refine cL.mono ?_);rintro e w1 ⟨D,vF,R,tb,tcb,rfl,hl1,hb1,htb⟩;clear cL hl1 htb)
    |(go_at_call 96;(with_reducible refine zq (cT _) ?_)))
   go_ret2;exact⟨rfl,(zu HB.out hb1)⟩
 ·have cL:=lnew_no p ta tc ts W (hB.below hbW (Xa _)) hi hl (hT.below hbW (Xa _)) h1;have e1:newE p ts parts sec=chkP p ts:=by unfold newE;rw [if_pos h1]
  have dne:(chkP p ts !=0)=true:=by rw [bne_iff_ne];exact h1
  rw [e1];clear hW hbW hB hi hl hT hc e1 h1;generalize chkP p ts=E at*;go_enter func65,ntmps65;go_upto_region 1 with fail
  rw [←HW.out];clear HW
  go_wp2_with (first
   |(with_reducible refine wp_plan hPl (by with_unfolding_all rfl) ?_)
   |(go_at_call 95;(with_reducible refine zg cL fun w1 hb1=>?_);clear cL))
  go_ret2;exact⟨rfl,(zu HB.out hb1)⟩
section
variable (B : Nat) (c : Pc) (p : Pd) (ts : List Tr) (S : WS) (h k : Nat)
theorem now_any (w:World) (hA:WAt w B c p ts S):CS 66 #[.pointer (some ⟨c.x.D,0,none⟩)] w (.int .i64 S.now):=by
 have c0:=hA.c0;clear hA;generalize c.x.D=D at*;go_enter func66,ntmps66;go_wp2;go_ret;exact⟨rfl,rfl⟩
theorem target_any (w:World) (hA:WAt w B c p ts S):CS 67 #[.pointer (some ⟨c.x.D,0,none⟩)] w (.int .i64 S.tg):=by
 have c2:=hA.c2;clear hA;generalize c.x.D=D at*;go_enter func67,ntmps67;go_wp2;go_ret;exact⟨rfl,rfl⟩
theorem pods_any (w:World) (hA:WAt w B c p ts S) (hL:S.F.L.length≤1000000000):Calls prog 68 #[.pointer (some ⟨c.x.D,0,none⟩)] w fun e w'=>e=.returned (.slice (some ⟨w.heap.size,0,none⟩) S.F.L.length S.F.L.length)∧Rec.RowAt Flt.pK w' (some ⟨w.heap.size,0,none⟩) S.F.L∧Below w.heap.size w w':=by
 have cX:=Flt.all_any B c.x.D c.vf S.F w hA.fl hL;clear hA;generalize c.x.D=D at*;go_enter func68,ntmps68;go_wp2_with(go_at_call 101;(with_reducible refine cX.mono ?_);rintro e w1 ⟨rfl,hR,hb⟩)
 go_ret;exact⟨rfl,hR,hb⟩
theorem requests_any (w:World) (hA:WAt w B c p ts S) (hL:S.R.length≤200):Calls prog 69 #[.pointer (some ⟨c.x.D,0,none⟩)] w fun e w'=> ∃G,e=.returned (.slice (some ⟨G,0,none⟩) S.R.length S.R.length)∧w.heap.size≤G∧Rec.RowAt Buf.rK w' (some ⟨G,0,none⟩) S.R∧Below w.heap.size w w':=by
 have cX:=Buf.all_any B c.x.D c.vb S.R w hA.bu hL;clear hA;generalize c.x.D=D at*;go_enter func69,ntmps69;go_wp2_with(go_at_call 102;(with_reducible refine cX.mono ?_);rintro e w1 ⟨G,rfl,hG,hR,hb⟩)
 go_ret;exact⟨G,rfl,hG,hR,hb⟩
end
end Wld
namespace Dsk
open Plain Pln Frm Lpp Crn Lop Wld

def TgB (S:WS):Prop:=0≤S.tg∧S.tg≤50
section
variable {p : Pd} {ts : List Tr} {S : WS} {h k : Nat}
theorem tg_tick1 (hP:PlOk p ts) (g:WI ts S h k) (hn:S.now+1≤1099511627776) (b:TgB S):TgB (tick1 p ts S):=by
 show TgB (onW (dueW p ts (lateW S)));unfold dueW;split
 ·exact told_bd hP (g.late hn)
 ·exact b
theorem tg_ticks (hP:PlOk p ts): ∀(m:Nat) {S:WS} {k:Nat},WI ts S h k→S.now+m≤1099511627776→TgB S→TgB (tickW p ts m S)
 |0,_,_,_,_,b=>b
 |m+1,S,k,g,hn,b=>tg_ticks hP m (g.tick1 hP (by omega)) (by rw [tick1_now];omega) (tg_tick1 hP g (by omega) b)
theorem tg_do (hP:PlOk p ts) (g:WI ts S h k) (b:TgB S) (x a n:Int):TgB (doW p ts S x a n):=by
 have e: ∀S':WS,S'.tg=S.tg→TgB S':=fun S' e=>by unfold TgB;rw [e];exact b
 unfold doW;by_cases h1:x=1
 ·rw [if_pos h1];by_cases hE:tickE S n=0
  ·rw [if_pos hE];have hn:(1≤n∧n≤1000)∧S.now+n≤1099511627776:=by
    unfold tickE at hE;split at hE
    ·assumption
    ·cases hE
   exact tg_ticks hP _ g (by omega) b
  ·rw [if_neg hE];exact b
 rw [if_neg h1];refine e _ ?_
 iterate 12 (refine (apply_ite (fun S : WS => S.tg) _ _ _).trans ?_; split; (first
  |rfl
  |(unfold makeW;split<;>rfl)
  |(unfold takeW;split<;>rfl)
  |(unfold putW;split<;>rfl)
  |(unfold failW;split<;>rfl)
  |(unfold readyW;split<;>rfl)
  |(unfold crashW;split<;>rfl)
  |(unfold askW;split<;>rfl)
  |(unfold doneW;split<;>rfl)
  |(unfold pauseW;split<;>rfl)))
 rfl
end
