/- A part. -/
import Derived.Test.YtaekecgbdegemaaGreatDoorPtDskErr
import Derived.Test.YtaekecgbdegemaaGreatDoorPtPrintPlan
import Derived.Test.YtaekecgbdegemaaGreatDoorPtRefText0
set_option linter.all false
open Go.Proofs.Tryz
set_option maxHeartbeats 32000000
set_option maxRecDepth 8000
namespace Go.Proofs.YtaekecgbdegemaaGreatDoor
namespace Dsk
open Go.RowKit Go.Extern.Stop Go.Stop Go.Extern Lai Crn Pln
variable {w' W w1:World} {m j:Nat} {c:List Int} {e:Int} {o:Value}

def EtAt (w:World):Prop:=w.cell? ⟨1,0,none⟩=some (rT 40)
theorem EtAt.below {w:World} (h:EtAt w) (hb:Below w.heap.size w w'):EtAt w':=(zk h hb)
theorem As_any {T E:Nat} (h:TE T E) (x:Value) (k:Nat) (w:World) (hg:EtAt w) {b:Bool} (R:World→Prop) (F:Nat)
  (c: ∀w1,w1.cell? ⟨w.heap.size,0,none⟩=some (.pointer (some ⟨k,0,none⟩))→Below w.heap.size w w1→Calls prog 54 #[.iface F x,.iface T (.pointer (some ⟨k,0,none⟩)),vA T ⟨w.heap.size,0,none⟩ 150,rT E] w1 fun ev w'=>ev=.returned (.bool b)∧R w'):
  Calls prog 29 #[.iface F x,.iface T (.pointer (some ⟨k,0,none⟩))] w fun ev w'=>ev=.returned (.bool b)∧R w':=by
 have h51:= @run_callFunc_extern prog 51 _ (fun args=>ReflectliteValue.unpack (args.getD 0 (.tuple #[]))) func51 (by kernel_rfl) (by kernel_rfl) (by kernel_rfl) (by kernel_rfl)
 have h52 := @run_callFunc_extern prog 52 _ (ReflectliteValue.methodAny (ReflectliteValue.valueError "reflectlite.Value.Type" 0) (fun t _ _ _ => ReflectliteType.toType t)) func52 (by kernel_rfl) (by kernel_rfl) (by kernel_rfl) (by kernel_rfl)
 have h53 := @run_callFunc_extern prog 53 _ (ReflectliteValue.method (ReflectliteValue.valueError "reflectlite.Value.IsNil" 0) ReflectliteValue.isNil) func53 (by kernel_rfl) (by kernel_rfl) (by kernel_rfl) (by kernel_rfl)
 have h292:= @run_callFunc_extern prog 292 _ (ReflectliteType.abiMethod fun t=>do pure (.int .u8 (←Rtype.kind t))) func292 (by kernel_rfl) (by kernel_rfl) (by kernel_rfl) (by kernel_rfl);have h305:= @run_callFunc_extern prog 305 _ (ReflectliteType.method ReflectliteType.elem) func305 (by kernel_rfl) (by kernel_rfl) (by kernel_rfl) (by kernel_rfl)
 have h306 := @run_callFunc_extern prog 306 _ (ReflectliteType.relation "Implements" ReflectliteType.implements_) func306 (by kernel_rfl) (by kernel_rfl) (by kernel_rfl) (by kernel_rfl)
 have f6:=fun w=>vOfT ⟨k,0,none⟩ w h;have f7:=fun t w=>typT t w h;have mK:=mKind;have mE:=mElem;have mI:=mImpl;have k1:=fun w=>kindT w h;have k2:=fun w=>kindE w h;have e2:=fun w=>elT w h;have i2:=fun w=>impE w h;have n8:=nilT ⟨k,0,none⟩ ⟨w.heap.size,0,none⟩ ((w.alloc (.cells #[.pointer (some ⟨k,0,none⟩)] T)).alloc (.cells #[hd T,.pointer (some ⟨w.heap.size,0,none⟩),.int .u64 150] 83)) h (by simp);have hg2:((w.alloc (.cells #[.pointer (some ⟨k,0,none⟩)] T)).alloc (.cells #[hd T,.pointer (some ⟨w.heap.size,0,none⟩),.int .u64 150] 83)).cell? ⟨1,0,none⟩=some (rT 40):=cell_al (cell_al hg _) _;have c2:=c ((w.alloc (.cells #[.pointer (some ⟨k,0,none⟩)] T)).alloc (.cells #[hd T,.pointer (some ⟨w.heap.size,0,none⟩),.int .u64 150] 83)) (by simp) ((balloc _ _).alloc (by simp) _);clear c hg;go_enter func29,ntmps29;go_wp2_with(go_at_call 54;(with_reducible refine zg c2 fun w' hq=>?_))
 go_ret;exact⟨rfl,hq⟩
def erV:Option (Int×Option Int)→Value
 |none=> .nilIface
 |some (e,none)=> .iface 31 (fA e)
 |some (e,some n)=> .iface 63 (lA e n)
def ErI:Option (Int×Option Int)→Prop
 |none=>True
 |some (e,none)=>I e
 |some (e,some n)=>I e∧I n
def errT:List UInt8:=[101,114,114,111,114]
def telT (a:List UInt8):Option (Int×Option Int)→List UInt8
 |none=>a
 |some (e,none)=>errT++([32]++Lib.itoa e)
 |some (e,some n)=>errT++([32]++Lib.itoa e)++([32]++Lib.itoa n)
def Found (k:Nat) (c:List Int) (W w':World):Prop:=(∀j v,c[j]? =some v→w'.cell? ⟨k,j,none⟩=some (.int .i64 v))∧Mm.Mv (· =k) (· =k) W w'
theorem Found.off {k:Nat} {v:Value} (h:Found k c W w') (hm:m≠k) (hc:W.cell? ⟨m,j,none⟩=some v):w'.cell? ⟨m,j,none⟩=some v:=h.2.cell hc hm
theorem Found.fz {k:Nat} (h:Found k c W w') (hm:m≠k) (hk:m<W.heap.size) (hf:W.frozen? ⟨m,j,none⟩=false):w'.frozen? ⟨m,j,none⟩=false:=(Xl (w:=W) (a:=⟨m,j,none⟩) (h.2.block m hk hm)).trans hf
theorem found1 {k:Nat} (hc:W.cell? ⟨k,0,none⟩=some o) (hb:Below W.heap.size W w1):Found k [e] W (w1.setCell ⟨k,0,none⟩ (.int .i64 e)):=by
 refine⟨fun j v hj=> ?_,(Mm.Mv.of_below hb).trans (Mm.Mv.set (k:=k) (j:=0) (b:=(· =k)) rfl _)⟩;match j,hj with
 |0,hj=>cases hj;exact Xn _ _ _ ((zk hc hb))
 |j+1,hj=>cases hj
theorem found2 {k:Nat} {n:Int} {p:Value} (hc:W.cell? ⟨k,0,none⟩=some o) (hd:W.cell? ⟨k,1,none⟩=some p) (hb:Below W.heap.size W w1):Found k [e,n] W ((w1.setCell ⟨k,0,none⟩ (.int .i64 e)).setCell ⟨k,1,none⟩ (.int .i64 n)):=by
 have h0:=(zk hc hb)
 have h1:=(zk hd hb)
 refine⟨fun j v hj=> ?_,((Mm.Mv.of_below hb).trans (Mm.Mv.set (k:=k) (j:=0) (b:=(· =k)) rfl _)).trans (Mm.Mv.set (k:=k) (j:=1) (b:=(· =k)) rfl _)⟩;match j,hj with
 |0,hj=>cases hj;rw [Xd (h:=fun e=>by cases e)];exact Xn _ _ _ h0
 |1,hj=>cases hj;exact Xn _ _ _ (u:=p) (by rw [Xd (h:=fun e=>by cases e)];exact h1)
 |j+2,hj=>cases hj
section
variable (k : Nat) (w : World) (hg : EtAt w)
theorem As_f (hg:EtAt w) (e:Int) (o:Value) (hc:w.cell? ⟨k,0,none⟩=some o) (hf:w.frozen? ⟨k,0,none⟩=false):Calls prog 29 #[.iface 31 (fA e),.iface 65 (.pointer (some ⟨k,0,none⟩))] w fun ev w'=>ev=.returned (.bool true)∧Found k [e] w w':=
 As_any TE.f (fA e) k w hg _ 31 fun w1 h1 hb=>(as_f k w1 e _ _ ((zk hc hb)) ((hb.frozen (p:=⟨k,0,none⟩) (Xj _ _ hc)).trans hf) h1).mono fun _ _ ⟨h,_,b,e⟩=>⟨h,e▸found1 hc (zu hb b)⟩
theorem As_u (hg:EtAt w) (e n:Int) (o:Value) (hc:w.cell? ⟨k,0,none⟩=some o) (hf:w.frozen? ⟨k,0,none⟩=false):Calls prog 29 #[.iface 63 (lA e n),.iface 65 (.pointer (some ⟨k,0,none⟩))] w fun ev w'=>ev=.returned (.bool true)∧Found k [e] w w':=
 As_any TE.f (lA e n) k w hg _ 63 fun w1 h1 hb=>(as_u k w1 e n _ _ ((zk hc hb)) ((hb.frozen (p:=⟨k,0,none⟩) (Xj _ _ hc)).trans hf) h1).mono fun _ _ ⟨h,_,b,e⟩=>⟨h,e▸found1 hc (zu hb b)⟩
theorem As_l (hg:EtAt w) (e n:Int) (o p:Value) (hc:w.cell? ⟨k,0,none⟩=some o) (hd:w.cell? ⟨k,1,none⟩=some p) (hf: ∀j,w.frozen? ⟨k,j,none⟩=false):Calls prog 29 #[.iface 63 (lA e n),.iface 67 (.pointer (some ⟨k,0,none⟩))] w fun ev w'=>ev=.returned (.bool true)∧Found k [e,n] w w':=
 As_any TE.l (lA e n) k w hg _ 63 fun w1 h1 hb=>(as_l k w1 e n _ _ _ ((zk hc hb)) ((zk hd hb)) (fun j=>(hb.frozen (p:=⟨k,j,none⟩) (show k<w.heap.size from Xj _ _ hc)).trans (hf j)) h1).mono fun _ _ ⟨h,_,b,e⟩=>⟨h,e▸found2 hc hd (zu hb b)⟩
theorem As_n (hg:EtAt w) (e:Int):CB 29 #[.iface 31 (fA e),.iface 67 (.pointer (some ⟨k,0,none⟩))] w (.bool false):=
 As_any TE.l (fA e) k w hg _ 31 fun w1 _ hb=>(as_n w1 e _ _).mono fun _ _ ⟨h,b⟩=>⟨h,(zu hb b)⟩
end
theorem two_new (w:World): ∃W,W=(w.alloc (.cells #[.int .i64 0] 31)).alloc (.cells #[.int .i64 0,.int .i64 0] 63)∧Below w.heap.size w W∧w.heap.size<W.heap.size∧w.heap.size+1<W.heap.size∧W.cell? ⟨w.heap.size,0,none⟩=some (.int .i64 0)∧W.cell? ⟨w.heap.size+1,0,none⟩=some (.int .i64 0)∧W.cell? ⟨w.heap.size+1,1,none⟩=some (.int .i64 0)∧W.frozen? ⟨w.heap.size,0,none⟩=false∧ ∀j,W.frozen? ⟨w.heap.size+1,j,none⟩=false:=by
 refine⟨_,rfl,(balloc _ _).alloc (by simp) _,by simp;omega,by simp,by simp,?_,?_,by simp,fun j=> ?_⟩
 ·rw [Yl _ _ _ _ (by simp)];rfl
 ·rw [Yl _ _ _ _ (by simp)];rfl
 ·simp
end Dsk
namespace Dsk
open Go.RowKit Lai Crn Pln

theorem tellF (e:Int) (he:I e) (w:World) (hg:EtAt w) (hP:PowAt w):
  CB 21 #[.iface 31 (fA e)] w (strV (telT [] (some (e,none)))):=by
 obtain⟨W,hW,hbW,hz1,hz2,x1,y1,y2,f1,f2⟩:=two_new w;have HW:=zh hW;have cA:=As_f w.heap.size W (hg.below hbW) e _ x1 f1;have hl:=itoa_len20 he;clear hW;go_enter func21,ntmps21;go_upto_region 4 with fail
 rw [←HW.out]
 go_wp2_with (first
  |(go_at_call 29;(with_reducible refine zg cA fun w2 hF=>?_);clear cA;have hb2:Below w.heap.size w w2:=hbW.trans (hF.2.below (fun k hk=>by omega) (Xw hz1));have q1:=hF.1 0 e rfl;have cI:=itoa_any e he w2 (hP.below hb2 (Xa _)))
  |(go_at_call 30;(with_reducible refine zg cI fun w3 hb3=>?_);clear cI;have hbw:=(zu hb2 hb3);have cA:=As_n (w.heap.size+1) w3 (hg.below hbw) e)
  |(go_at_call 29;(with_reducible refine zg cA fun w4 hb4=>?_)))
 go_ret;exact⟨rfl,(zu hbw hb4)⟩
theorem tellL (e n:Int) (he:I e) (hn:I n) (w:World) (hg:EtAt w) (hP:PowAt w):
  CB 21 #[.iface 63 (lA e n)] w (strV (telT [] (some (e,some n)))):=by
 obtain⟨W,hW,hbW,hz1,hz2,x1,y1,y2,f1,f2⟩:=two_new w;have HW:=zh hW;have cA:=As_u w.heap.size W (hg.below hbW) e n _ x1 f1;have hl:=itoa_len20 he;have hl2:=itoa_len20 hn;clear hW;go_enter func21,ntmps21;go_upto_region 4 with fail
 rw [←HW.out]
 go_wp2_with (first
  |(go_at_call 29;(with_reducible refine zg cA fun w2 hF=>?_);clear cA;have hb2:Below w.heap.size w w2:=hbW.trans (hF.2.below (fun k hk=>by omega) (Xw hz1));have q1:=hF.1 0 e rfl;have cI:=itoa_any e he w2 (hP.below hb2 (Xa _)))
  |(go_at_call 30;(with_reducible refine zg cI fun w3 hb3=>?_);clear cI;have hbw:=(zu hb2 hb3);have cA:=As_l (w.heap.size+1) w3 (hg.below hbw) e n _ _ ((hb3.cell (p:=⟨w.heap.size+1,0,none⟩) (Xb hz2 hF.2.size)).trans (hF.off (by omega) y1)) ((hb3.cell (p:=⟨w.heap.size+1,1,none⟩) (Xb hz2 hF.2.size)).trans (hF.off (by omega) y2)) (fun j=>(hb3.frozen (p:=⟨w.heap.size+1,j,none⟩) (Xb hz2 hF.2.size)).trans (hF.fz (by omega) hz2 (f2 j))))
  |(go_at_call 29;(with_reducible refine zg cA fun w4 hG=>?_);clear cA;have hb4:Below w.heap.size w w4:=hbw.trans (hG.2.below (fun k hk=>by have:=hbw.size;omega) hbw.size);have q2:=hG.1 1 n rfl;have cJ:=itoa_any n hn w4 (hP.below hb4 (Xa _)))
  |(go_at_call 30;(with_reducible refine zg cJ fun w5 hb5=>?_)))
 go_ret;exact⟨rfl,(zu hb4 hb5)⟩
theorem telT_len (a:List UInt8) (er:Option (Int×Option Int)) (h:ErI er):(telT a er).length≤a.length+100:=by
 match er,h with
 |none,_=>exact Nat.le_add_right _ _
 |some (e,none),h=>have:=itoa_len20 h;simp [telT,errT];omega
 |some (e,some n),h=>have:=itoa_len20 h.1;have:=itoa_len20 h.2;simp [telT,errT];omega
theorem tell_any (a:List UInt8) (er:Option (Int×Option Int)) (h:ErI er) (ha:a.length≤4000000000) (w:World) (hg:EtAt w) (hP:PowAt w):
  CB 10 #[strV a,erV er] w (strV (telT a er++ [10])):=by
 match er,h with
 |none,_=>
  simp only [erV,telT];go_enter func10,ntmps10;go_wp2;go_ret;exact⟨rfl,Below.refl _ _⟩
 |some (e,none),h=>
  have c:=tellF e h w hg hP;have hl:(telT [] (some (e,none))).length≤100:=by simpa using telT_len [] (some (e,none)) h
  have hT:Hid (telT a (some (e,none))=telT [] (some (e,none))):=rfl;rw [hT.out];simp only [erV];generalize telT [] (some (e,none))=T at*;go_enter func10,ntmps10;go_wp2_with(go_at_call 21;(with_reducible refine zg c fun w1 hb=>?_))
  go_ret;exact⟨rfl,hb⟩
 |some (e,some n),h=>
  have c:=tellL e n h.1 h.2 w hg hP;have hl:(telT [] (some (e,some n))).length≤100:=by simpa using telT_len [] (some (e,some n)) h
  have hT:Hid (telT a (some (e,some n))=telT [] (some (e,some n))):=rfl;rw [hT.out];simp only [erV];generalize telT [] (some (e,some n))=T at*;go_enter func10,ntmps10;go_wp2_with(go_at_call 21;(with_reducible refine zg c fun w1 hb=>?_))
  go_ret;exact⟨rfl,hb⟩
end Dsk
namespace Pln
open Go.RowKit Lai Civ Crn RCrn
variable {w w' wr:World} {b B G:Nat} {t:Tr} {T e:TypeId} {bs:List Value} {p:Pd} {sl:Value} {txt s:List UInt8} {x y z u:Int} {ts:List Tr}

def kT (c:K):List UInt8:=cronT (wds c.mi c.ho c.da c.mn c.we c.ad c.aw)
theorem printK (c:K) (w:World) (hB:BdsAt w) (hT:TabIs64 w) (u:Us c) (hc:kc c=true):
  CB 137 #[kV c] w (.tuple #[strV (kT c),.int .i64 0]):=
 print_yes c.mi c.ho c.da c.mn c.we c.ad c.aw w hB hT u.u0 u.u1 u.u2 u.u3 u.u4 hc (words_len u.u0 u.u1 u.u2 u.u3 u.u4 hc)
theorem kT_len (c:K) (u:Us c) (hc:kc c=true):(kT c).length≤7000:=cron_len (words_len u.u0 u.u1 u.u2 u.u3 u.u4 hc)
theorem cat_span (N A B:List UInt8):((((((⟨#[115,112,97,110,32]⟩:ByteArray)++(⟨N.toArray⟩:ByteArray))++(⟨#[32]⟩:ByteArray))++(⟨A.toArray⟩:ByteArray))++(⟨#[32,47,32]⟩:ByteArray))++(⟨B.toArray⟩:ByteArray))++(⟨#[10]⟩:ByteArray)=⟨(wSpan++ [32]++N++ [32]++A++ [32,47,32]++B++ [10]).toArray⟩:=by
 rw [show(⟨#[115,112,97,110,32]⟩:ByteArray)=⟨([115,112,97,110,32]:List UInt8).toArray⟩from rfl,show(⟨#[32]⟩:ByteArray)=⟨([32]:List UInt8).toArray⟩from rfl,show(⟨#[32,47,32]⟩:ByteArray)=⟨([32,47,32]:List UInt8).toArray⟩from rfl,show(⟨#[10]⟩:ByteArray)=⟨([10]:List UInt8).toArray⟩from rfl,str_add,str_add,str_add,str_add,str_add,str_add];rfl
theorem TrAt.on {o n:Nat} (h:TrAt w b o t) (hb:Below n w w') (hn:b<n):TrAt w' b o t:=
 ⟨(hb.cell (p:=⟨b,o,none⟩) hn).trans h.c0,(hb.cell (p:=⟨b,o+1,none⟩) hn).trans h.c1,(hb.cell (p:=⟨b,o+2,none⟩) hn).trans h.c2,(hb.cell (p:=⟨b,o+3,none⟩) hn).trans h.c3,(hb.cell (p:=⟨b,o+4,none⟩) hn).trans h.c4,(hb.cell (p:=⟨b,o+5,none⟩) hn).trans h.c5,(hb.cell (p:=⟨b,o+6,none⟩) hn).trans h.c6,(hb.cell (p:=⟨b,o+7,none⟩) hn).trans h.c7,(hb.cell (p:=⟨b,o+8,none⟩) hn).trans h.c8,(hb.cell (p:=⟨b,o+9,none⟩) hn).trans h.c9,(hb.cell (p:=⟨b,o+10,none⟩) hn).trans h.c10,(hb.cell (p:=⟨b,o+11,none⟩) hn).trans h.c11,(hb.cell (p:=⟨b,o+12,none⟩) hn).trans h.c12,(hb.cell (p:=⟨b,o+13,none⟩) hn).trans h.c13,(hb.cell (p:=⟨b,o+14,none⟩) hn).trans h.c14,(hb.cell (p:=⟨b,o+15,none⟩) hn).trans h.c15,(hb.cell (p:=⟨b,o+16,none⟩) hn).trans h.c16⟩
theorem TrAt.end7 (h:TrAt w b 0 t):w.cell? ⟨b,1,none⟩=some (.int .i64 t.tg)∧w.cell? ⟨b,10,none⟩=some (.int .u64 t.b.mi)∧w.cell? ⟨b,11,none⟩=some (.int .u64 t.b.ho)∧w.cell? ⟨b,12,none⟩=some (.int .u64 t.b.da)∧w.cell? ⟨b,13,none⟩=some (.int .u64 t.b.mn)∧w.cell? ⟨b,14,none⟩=some (.int .u64 t.b.we)∧w.cell? ⟨b,15,none⟩=some (.bool t.b.ad)∧w.cell? ⟨b,16,none⟩=some (.bool t.b.aw):=by
 have h1:=h.c1;have h10:=h.c10;have h11:=h.c11;have h12:=h.c12;have h13:=h.c13;have h14:=h.c14;have h15:=h.c15;have h16:=h.c16;simp only [Xv]at h1 h10 h11 h12 h13 h14 h15 h16;exact⟨h1,h10,h11,h12,h13,h14,h15,h16⟩
theorem two_cells (w:World) (A:Array Value) (ta:TypeId) (x y:Int): ∀(j:Nat) n,[x,y][j]? =some n→((w.alloc (.cells A ta)).alloc (.cells #[.int .i64 x,.int .i64 y] 3)).cell? ⟨w.heap.size+1,j,none⟩=some (.int .i64 n):=by
 intro j n hj;have e:w.heap.size+1=(w.alloc (.cells A ta)).heap.size:=by simp
 match j,hj with
 |0,hj=>simp at hj;subst hj;rw [e];simp
 |1,hj=>simp at hj;subst hj;rw [e];simp
 |j+2,hj=>simp at hj
theorem pline2 (word:List UInt8) (x y:Int) (B:Nat) (w:World) (hP:PowAt w) (hI: ∀n∈ [x,y],I n) (hw:word.length≤100) (hc: ∀(j:Nat) n,[x,y][j]? =some n→w.cell? ⟨B,j,none⟩=some (.int .i64 n)) (hB:B<w.heap.size):
  CB 93 #[.string ⟨word.toArray⟩,.slice (some ⟨B,0,none⟩) 2 2] w (strV (lnT word [x,y]++ [10])):=
 pline_any word [x,y] B 2 w hP (by simp) hI hw hc hB
theorem ptr_two (k tg ac:Int) (a b:K) (w:World) (hP:PowAt w) (hk:k=1∨k=2) (h1:I tg) (h2:I ac):
  CB 94 #[trV ⟨k,tg,ac,a,b⟩] w (strV (trT kT ⟨k,tg,ac,a,b⟩++ [10])):=by
 have hI: ∀n∈ [tg,ac],I n:=fun n hn=>by
  simp only [XG,List.not_mem_nil,or_false]at hn;rcases hn with rfl|rfl
  ·exact h1
  ·exact h2
 have hP2:=fun o p=>hP.below (balloc2 o p) (Xa _);rcases hk with rfl|rfl
 ·have HT:Hid (trT kT ⟨1,tg,ac,a,b⟩=lnT wLag [tg,ac]):=rfl;go_enter func94,ntmps94;go_wp2_with(go_at_call 93;(with_reducible refine zg (pline2 [108,97,103] tg ac (w.heap.size+1) _ (hP2 _ _) hI (by decide) (two_cells _ _ _ _ _) (by simp)) fun w1 hb1=>?_))
  go_ret;exact⟨by rw [HT.out];rfl,ballocs hb1⟩
 ·have HT:Hid (trT kT ⟨2,tg,ac,a,b⟩=lnT wDepth [tg,ac]):=rfl;go_enter func94,ntmps94;go_wp2_with(go_at_call 93;(with_reducible refine zg (pline2 [100,101,112,116,104] tg ac (w.heap.size+1) _ (hP2 _ _) hI (by decide) (two_cells _ _ _ _ _) (by simp)) fun w1 hb1=>?_))
  go_ret;exact⟨by rw [HT.out];rfl,ballocs hb1⟩
theorem ptr_span (tg ac:Int) (a b:K) (w:World) (hB:BdsAt w) (hT:TabIs64 w) (hP:PowAt w) (h1:I tg) (ua:Us a) (ub:Us b) (ha:kc a=true) (hb:kc b=true):
  CB 94 #[trV ⟨3,tg,ac,a,b⟩] w (strV (trT kT ⟨3,tg,ac,a,b⟩++ [10])):=by
 have HT:Hid (trT kT ⟨3,tg,ac,a,b⟩=wSpan++ [32]++Lib.itoa tg++ [32]++kT a++ [32,47,32]++kT b):=rfl;have c1:=fun w hB hT=>printK a w hB hT ua ha;have c2:=fun w hB hT=>printK b w hB hT ub hb;have c3:=fun w hP=>itoa_any tg h1 w hP;have l1:=kT_len a ua ha;have l2:=kT_len b ub hb;have l3:=itoa_len20 h1;have hB0:=fun o=>hB.below (balloc o) (Xa _);have hT0:=fun o=>hT.below (balloc o) (Xa _);clear ua ub ha hb h1;generalize kT a=A at c1 l1 HT;generalize kT b=B at c2 l2 HT;generalize Lib.itoa tg=N at c3 l3 HT;have z1:(⟨A.toArray⟩:ByteArray).size=A.length:=rfl;have z2:(⟨B.toArray⟩:ByteArray).size=B.length:=rfl;have z3:(⟨N.toArray⟩:ByteArray).size=N.length:=rfl;have hN0:=TrAt.new w ⟨3,tg,ac,a,b⟩ 171;go_enter func94,ntmps94
 go_wp2_with (first
  |(go_at_call 137;(with_reducible refine zg (c1 _ (hB0 _) (hT0 _)) fun w1 hb1=>?_);have hw1:Below w.heap.size w w1:=(balloc _).trans (hb1.mono (by simp));have hB1:=hB.below hw1 (Xa _);have hT1:=hT.below hw1 (Xa _);have hN1:=hN0.on hb1 (by simp);have hz1:w.heap.size<w1.heap.size:=Xb (by simp) hb1.size;obtain⟨-,e10,e11,e12,e13,e14,e15,e16⟩:=hN1.end7)
  |(go_at_call 137;(with_reducible refine zg (c2 _ hB1 hT1) fun w2 hb2=>?_);have hw2:Below w.heap.size w w2:=(zu hw1 hb2);have hP2:=hP.below hw2 (Xa _);obtain⟨e1,-⟩:=(hN1.on hb2 hz1).end7)
  |(go_at_call 30;(with_reducible refine zg (c3 _ hP2) fun w3 hb3=>?_);have hw3:Below w.heap.size w w3:=(zu hw2 hb3)))
 go_ret;exact⟨by rw [HT.out];exact ret_str' (cat_span N A B),hw3⟩

theorem PlAt.new' (w:World) (p:Pd) (sl:Value) (ta:TypeId):PlAt (w.alloc (.cells (planC p sl) ta)) w.heap.size p sl:=by
 constructor<;>simp
theorem bwrite (B b:Nat) (bs:List Value) (s:ByteArray) (w:World) (h:Lib.IsBuilder 38 5 B b bs w) (hlen:bs.length+s.size≤140737488355328) (hBw:B≤w.heap.size):
  Calls prog 13 #[.pointer (some ⟨b,0,none⟩),.string s] w fun e w'=>e=.returned (.tuple #[.int .i64 s.size,.nilIface])∧(Lib.BuilderAt 38 5 B b (.pointer (some ⟨b,0,none⟩)) (bs++Lib.strCells s) w'∧Below B w w'):=
 Any.Builder_WriteString { lays156 with } Builder_Extra_156 B b bs s w h hlen hBw
theorem bat_below {p:Value} (h:Lib.BuilderAt T e B b p bs w) (hb:Below w.heap.size w w'):Lib.BuilderAt T e B b p bs w':=by
 have hlt:=h.lt;obtain⟨hB,v,hk,hown,hne⟩:=h;exact⟨hB,v,by rw [hb.block b hlt];exact hk,own_below hown hb (fun g hg=>(hown.lt g hg).2),hne⟩
theorem bld_below (h:Lib.IsBuilder T e B b bs w) (hb:Below w.heap.size w w'):Lib.IsBuilder T e B b bs w':=by
 rcases h with h|h
 ·exact Or.inl (bat_below h hb)
 ·exact Or.inr (bat_below h hb)
structure PrS (w:World) (G:Nat) (p:Pd) (sl:Value) (txt:List UInt8) (wr:World):Prop where
 pl:PlAt wr w.heap.size p sl
 bd:Lib.IsBuilder 38 5 G G (Lib.byteCells txt) wr
 lt:w.heap.size<G
 bel:Below w.heap.size w wr
 le:G≤wr.heap.size
theorem PrS.below (h:PrS w G p sl txt wr) (hb:Below wr.heap.size wr w'):PrS w G p sl txt w':=
 ⟨h.pl.on hb (Xb h.lt h.le),bld_below h.bd hb,h.lt,h.bel.trans (hb.mono h.bel.size),Xc h.le hb.size⟩
theorem PrS.wrote (h:PrS w G p sl txt wr) (hb:Lib.BuilderAt 38 5 G G (.pointer (some ⟨G,0,none⟩)) (Lib.byteCells txt++Lib.strCells ⟨s.toArray⟩) w'∧Below G wr w'):PrS w G p sl (txt++s) w':=by
 refine⟨h.pl.on hb.2 h.lt,Or.inr ?_,h.lt,h.bel.trans (hb.2.mono (Xw h.lt)),Xc h.le hb.2.size⟩;have e:Lib.byteCells (txt++s)=Lib.byteCells txt++Lib.strCells ⟨s.toArray⟩:=by
  unfold Lib.byteCells Lib.strCells;rw [X2]
 rw [e];exact hb.1
theorem writeS (s:List UInt8) (h:PrS w G p sl txt wr) (hl:txt.length+s.length≤1000000):
  Calls prog 13 #[.pointer (some ⟨G,0,none⟩),.string ⟨s.toArray⟩] wr fun e w'=>e=.returned (.tuple #[.int .i64 s.length,.nilIface])∧PrS w G p sl (txt++s) w':=
 (bwrite G G _ ⟨s.toArray⟩ wr h.bd (by rw [Lib.byteCells_length];show txt.length+s.length≤_;omega) h.le).mono fun _ _ ⟨he,hb⟩=>⟨he,h.wrote hb⟩
theorem pline4 (word:List UInt8) (x y z u:Int) (B:Nat) (w:World) (hP:PowAt w) (hI: ∀n∈ [x,y,z,u],I n) (hw:word.length≤100) (hc: ∀(j:Nat) n,[x,y,z,u][j]? =some n→w.cell? ⟨B,j,none⟩=some (.int .i64 n)) (hB:B<w.heap.size):
  CB 93 #[.string ⟨word.toArray⟩,.slice (some ⟨B,0,none⟩) 4 4] w (strV (lnT word [x,y,z,u]++ [10])):=
 pline_any word [x,y,z,u] B 4 w hP (by simp) hI hw hc hB
theorem four_cells (w:World) (x y z u:Int) (B:Nat) (hB:B=w.heap.size): ∀(j:Nat) n,[x,y,z,u][j]? =some n→(w.alloc (.cells #[.int .i64 x,.int .i64 y,.int .i64 z,.int .i64 u] 3)).cell? ⟨B,j,none⟩=some (.int .i64 n):=by
 intro j n hj;subst hB;match j,hj with
 |0,hj=>simp at hj;subst hj;simp
 |1,hj=>simp at hj;subst hj;simp
 |2,hj=>simp at hj;subst hj;simp
 |3,hj=>simp at hj;subst hj;simp
 |j+4,hj=>simp at hj
theorem I4 (a:I x) (b:I y) (c:I z) (d:I u): ∀n∈ [x,y,z,u],I n:=fun n hn=>by
 simp only [XG,List.not_mem_nil,or_false]at hn
 rcases hn with rfl|rfl|rfl|rfl
 ·exact a
 ·exact b
 ·exact c
 ·exact d
theorem len4 {word:List UInt8} (hw:word.length≤100) (hI: ∀n∈ [x,y,z,u],I n):(lnT word [x,y,z,u]++ [10]).length≤200:=by
 have:=ln_len (word:=word) hI;simp only [Xg,Xr,XK]at this⊢;omega
def hd1 (p:Pd):List UInt8:=[]++(lnT (wPlan++ [32]++p.nm) [p.mn,p.mx,p.po,p.co]++ [10])
def hd2 (p:Pd):List UInt8:=hd1 p++(lnT wRest [p.tl,p.bk,p.af,p.sh]++ [10])
def hd3 (p:Pd):List UInt8:=hd2 p++(lnT wUp [p.uw,p.up,p.uc,p.ue]++ [10])
def hd4 (p:Pd):List UInt8:=hd3 p++(lnT wDown [p.dw,p.dp,p.dc,p.de]++ [10])
theorem hd_is (p:Pd):hd4 p=headT p:=by unfold hd4 hd3 hd2 hd1 headT;rw [Yf]
theorem bld_new {w1:World} (hA:PlAt w1 w.heap.size p sl) (hz:w.heap.size<w1.heap.size) (hw:Below w.heap.size w w1):PrS w w1.heap.size p sl [] (w1.alloc (.cells #[.pointer none,.slice none 0 0] 38)):=
 ⟨hA.on (balloc _) hz,Lib.fresh_isBuilder _ _ w1,hz,hw.alloc hw.size _,by simp⟩

theorem cat_name (nm:List UInt8):(⟨#[112,108,97,110,32]⟩:ByteArray)++(⟨nm.toArray⟩:ByteArray)=⟨(wPlan++ [32]++nm).toArray⟩:=by
 rw [show(⟨#[112,108,97,110,32]⟩:ByteArray)=⟨([112,108,97,110,32]:List UInt8).toArray⟩from rfl,str_add];rfl
theorem pline4n (nm:List UInt8) (x y z u:Int) (B:Nat) (w:World) (hP:PowAt w) (hI: ∀n∈ [x,y,z,u],I n) (hw:(wPlan++ [32]++nm).length≤100) (hc: ∀(j:Nat) n,[x,y,z,u][j]? =some n→w.cell? ⟨B,j,none⟩=some (.int .i64 n)) (hB:B<w.heap.size):
  CB 93 #[.string ((⟨#[112,108,97,110,32]⟩:ByteArray)++(⟨nm.toArray⟩:ByteArray)),.slice (some ⟨B,0,none⟩) 4 4] w (strV (lnT (wPlan++ [32]++nm) [x,y,z,u]++ [10])):=by
 rw [cat_name];exact pline4 _ x y z u B w hP hI hw hc hB
theorem chk_parts (h:chkP p ts=0):nmB p.nm=true∧ts.length≤5∧okP p=true∧ ∀t∈ts,trB t=true:=by
 unfold chkP at h;cases h1:nmB p.nm
 ·rw [if_pos h1]at h;cases h
 ·rw [h1,if_neg (by decide)]at h;by_cases h2:5<ts.length
  ·rw [if_pos h2]at h;cases h
  ·rw [if_neg h2]at h;cases h3:okP p
   ·rw [if_pos h3]at h;cases h
   ·rw [h3,if_neg (by decide)]at h;cases h4:ts.all trB
    ·rw [if_pos h4]at h;cases h
    ·exact⟨rfl,by omega,rfl,fun t ht=>Ye.1 h4 t ht⟩
theorem nm_len (h:nmB s=true):s.length≤16:=by
 unfold nmB at h;rw [Xq,decide_eq_true_eq]at h;exact h.1.2
theorem ptr_any (t:Tr) (w:World) (hB:BdsAt w) (hT:TabIs64 w) (hP:PowAt w) (u:TrU t) (h:trB t=true):
  CB 94 #[trV t] w (strV (trT kT t++ [10])):=by
 obtain⟨k,tg,ac,a,b⟩:=t;unfold trB at h;dsimp only at h;by_cases hk:k=3
 ·subst hk;rw [if_pos rfl]at h;simp only [Xq,decide_eq_true_eq]at h;exact ptr_span tg ac a b w hB hT hP u.tg u.a u.b h.2.2.1 h.2.2.2
 ·rw [if_neg hk]at h;simp only [Xq,decide_eq_true_eq]at h;exact ptr_two k tg ac a b w hP h.1 u.tg u.ac
theorem tr_len (u:TrU t) (h:trB t=true):(trT kT t++ [10]).length≤15000:=by
 obtain⟨k,tg,ac,a,b⟩:=t;unfold trB at h;dsimp only at h;have h2: ∀n∈ [tg,ac],I n:=fun n hn=>by
  simp only [XG,List.not_mem_nil,or_false]at hn;rcases hn with rfl|rfl
  ·exact u.tg
  ·exact u.ac
 by_cases hk:k=3
 ·subst hk;rw [if_pos rfl]at h;simp only [Xq,decide_eq_true_eq]at h;have e:trT kT ⟨3,tg,ac,a,b⟩=wSpan++ [32]++Lib.itoa tg++ [32]++kT a++ [32,47,32]++kT b:=rfl;have l1:=kT_len a u.a h.2.2.1;have l2:=kT_len b u.b h.2.2.2;have l3:=itoa_len20 u.tg;dsimp only at l3;rw [e];simp only [Xg,Xr,XK];omega
 ·rw [if_neg hk]at h;simp only [Xq,decide_eq_true_eq]at h;rcases h.1 with rfl|rfl
  ·have e:trT kT ⟨1,tg,ac,a,b⟩=lnT wLag [tg,ac]:=rfl;have:=ln_len (word:=wLag) h2;rw [e];simp only [Xg,Xr,XK]at this⊢;omega
  ·have e:trT kT ⟨2,tg,ac,a,b⟩=lnT wDepth [tg,ac]:=rfl;have:=ln_len (word:=wDepth) h2;rw [e];simp only [Xg,Xr,XK]at this⊢;omega
theorem tail_step {k:Nat} (h:ts[k]? =some t):tailT kT (ts.take (k+1))=tailT kT (ts.take k)++(trT kT t++ [10]):=by
 unfold tailT;rw [XB,h,Option.toList_some,X2,XV,X5,List.flatten_append];simp
theorem tail_len {ts:List Tr} (h: ∀t∈ts,(trT kT t++ [10]).length≤15000): ∀k,(tailT kT (ts.take k)).length≤15000*k
 |0=>by simp [tailT]
 |k+1=>by
  have ih:=tail_len h k
  cases hk:ts[k]? with
  |none=>
   have e:ts.take (k+1)=ts.take k:=by rw [XB,hk];simp
   rw [e];omega
  |some t=>
   have:=h t (Xk hk)
   rw [tail_step hk,Xg]
   omega
def PtR (w:World) (G:Nat) (p:Pd) (sl:Value) (ts:List Tr) (i:Value) (wr:World):Prop:= ∃k:Nat,k≤ts.length∧i=.int .i64 k∧PrS w G p sl (hd4 p++tailT kT (ts.take k)) wr
theorem print_ok (p:Pd) (ts:List Tr) (a:Option Addr) (cap:Nat) (w:World) (hB:BdsAt w) (hT:TabIs64 w) (hP:PowAt w) (hi:PdI p) (hTr:TrsAt w a ts) (hU: ∀t∈ts,TrU t) (h:chkP p ts=0):
  CB 63 #[planV p (.slice a ts.length cap)] w (.tuple #[strV (planT kT p ts),.int .i64 0]):=by
 obtain⟨h1,h2,h3,h4⟩:=chk_parts h;have hln:=nm_len h1;have c0:=fun w hB hTr=>check_any p ts a cap w hB hi (by omega) hTr;rw [h]at c0;have hA0:=PlAt.new' w p (.slice a ts.length cap) 111;have hB0:=fun o=>hB.below (balloc o) (Xa _);have hTr0:=fun o=>hTr.below (balloc o) (Xa _);have hPs: ∀ {G:Nat} {txt:List UInt8} {W:World},PrS w G p (.slice a ts.length cap) txt W→PowAt W:=fun h=>hP.below h.bel (Xa _);have i1:=I4 hi.mn hi.mx hi.po hi.co;have i2:=I4 hi.tl hi.bk hi.af hi.sh;have i3:=I4 hi.uw hi.up hi.uc hi.ue;have i4:=I4 hi.dw hi.dp hi.dc hi.de;have m1:(wPlan++ [32]++p.nm).length≤100:=by simp;omega
 have n1:=len4 m1 i1;have n2:=len4 (word:=wRest) (by decide) i2;have n3:=len4 (word:=wUp) (by decide) i3;have n4:=len4 (word:=wDown) (by decide) i4;have e1:(hd1 p).length≤200:=by unfold hd1;rw [Yf];exact n1
 have e2:(hd2 p).length≤400:=by unfold hd2;rw [Xg];omega
 have e3:(hd3 p).length≤600:=by unfold hd3;rw [Xg];omega
 have e4:(hd4 p).length≤800:=by unfold hd4;rw [Xg];omega
 have E4:=zh e4;obtain⟨T1,hT1⟩: ∃T,T=lnT (wPlan++ [32]++p.nm) [p.mn,p.mx,p.po,p.co]++ [10]:=⟨_,rfl⟩
 obtain⟨T2,hT2⟩: ∃T,T=lnT wRest [p.tl,p.bk,p.af,p.sh]++ [10]:=⟨_,rfl⟩
 obtain⟨T3,hT3⟩: ∃T,T=lnT wUp [p.uw,p.up,p.uc,p.ue]++ [10]:=⟨_,rfl⟩
 obtain⟨T4,hT4⟩: ∃T,T=lnT wDown [p.dw,p.dp,p.dc,p.de]++ [10]:=⟨_,rfl⟩
 have k1:=fun B w hP hc hB=>pline4n p.nm p.mn p.mx p.po p.co B w hP i1 m1 hc hB;have k2:=fun B w hP hc hB=>pline4 [114,101,115,116] p.tl p.bk p.af p.sh B w hP i2 (by decide) hc hB;have k3:=fun B w hP hc hB=>pline4 [117,112] p.uw p.up p.uc p.ue B w hP i3 (by decide) hc hB;have k4:=fun B w hP hc hB=>pline4 [100,111,119,110] p.dw p.dp p.dc p.de B w hP i4 (by decide) hc hB;rw [←hT1]at k1 n1;rw [←hT2]at k2 n2;rw [←hT3]at k3 n3;rw [←hT4]at k4 n4;have HH:Hid (([]++T1)++T2++T3++T4=hd4 p):=by unfold Hid hd4 hd3 hd2 hd1;rw [hT1,hT2,hT3,hT4]
 clear hT1 hT2 hT3 hT4;clear e1 e2 e3 e4 i1 i2 i3 i4 m1 h1 h3 h;have z0:(⟨p.nm.toArray⟩:ByteArray).size=p.nm.length:=rfl;go_enter func63,ntmps63
 go_wp2_with (first
  |(with_reducible refine wp_plan hA0 (by with_unfolding_all rfl) ?_)
  |(go_at_call 92;(with_reducible refine zg (c0 _ (hB0 _) (hTr0 _)) fun w1 hb1=>?_);obtain⟨hC1,hz1,hw1⟩:=boxB hb1;have hA1:PlAt w1 w.heap.size p (.slice a ts.length cap):=PlAt.of hC1;clear hC1;have S0:=bld_new hA1 hz1 hw1;have q0:=S0.pl.c0;have q1:=S0.pl.c1;have q2:=S0.pl.c2;have q3:=S0.pl.c3;have q4:=S0.pl.c4)
  |(go_at_call 93;(with_reducible refine zg (k1 (w1.heap.size+1) _ (hPs (S0.below (balloc _))) (four_cells _ _ _ _ _ _ (by simp)) (by simp)) fun w2 hb2=>?_);have S1:=(S0.below (balloc _)).below hb2)
  |(go_at_call 13;(with_reducible refine zg (writeS T1 S1 (by simp only [XK];omega)) fun w3 S2=>?_);clear q0 q1 q2 q3 q4;have r0:=S2.pl.c5;have r1:=S2.pl.c6;have r2:=S2.pl.c7;have r3:=S2.pl.c8)
  |(go_at_call 93;(with_reducible refine zg (k2 w3.heap.size _ (hPs (S2.below (balloc _))) (four_cells _ _ _ _ _ _ rfl) (by simp)) fun w4 hb4=>?_);have S3:=(S2.below (balloc _)).below hb4)
  |(go_at_call 13;(with_reducible refine zg (writeS T2 S3 (by simp only [Xg,XK];omega)) fun w5 S4=>?_);clear r0 r1 r2 r3;have r0:=S4.pl.c9;have r1:=S4.pl.c10;have r2:=S4.pl.c11;have r3:=S4.pl.c12)
  |(go_at_call 93;(with_reducible refine zg (k3 w5.heap.size _ (hPs (S4.below (balloc _))) (four_cells _ _ _ _ _ _ rfl) (by simp)) fun w6 hb6=>?_);have S5:=(S4.below (balloc _)).below hb6)
  |(go_at_call 13;(with_reducible refine zg (writeS T3 S5 (by simp only [Xg,XK];omega)) fun w7 S6=>?_);clear r0 r1 r2 r3;have r0:=S6.pl.c13;have r1:=S6.pl.c14;have r2:=S6.pl.c15;have r3:=S6.pl.c16)
  |(go_at_call 93;(with_reducible refine zg (k4 w7.heap.size _ (hPs (S6.below (balloc _))) (four_cells _ _ _ _ _ _ rfl) (by simp)) fun w8 hb8=>?_);have S7:=(S6.below (balloc _)).below hb8)
  |(go_at_call 13;(with_reducible refine zg (writeS T4 S7 (by simp only [Xg,XK];omega)) fun w9 S8=>?_);clear r0 r1 r2 r3;have r17:=S8.pl.c17))
 rw [HH.out]at S8;clear S0 S1 S2 S3 S4 S5 S6 S7 r17 hb1 hb2 hb4 hb6 hb8 hA1 hw1 k1 k2 k3 k4 c0 hA0;generalize hG:w1.heap.size=G at*;clear hG;go_loopw [71] (fun i wr=>PtR w G p (.slice a ts.length cap) ts i wr) (fun i _=>ts.length-(intOf i).toNat)
 case atStart=>exact⟨0,Xx _,rfl,by rw [show tailT kT (ts.take 0)=[]from rfl,List.append_nil];exact S8⟩
 case round=>
  clear S8;obtain⟨k,hk1,rfl,S9⟩:=hrel;have lt9:(hd4 p++tailT kT (ts.take k)).length≤100000:=by
   have:=tail_len (ts:=ts) (fun t ht=>tr_len (hU t ht) (h4 t ht)) k;have:=E4.out;rw [Xg];omega
  by_cases hlt:k<ts.length
  ·have hlt':(k:Int)<ts.length:=by omega
   obtain⟨t,hx⟩: ∃x,ts[k]? =some x:=⟨ts[k],by simp [hlt]⟩
   have hm:=Xk hx;obtain⟨b,off,rfl,hbl,hE⟩:=(hTr.below S9.bel (Xa _)).elem hx;have hN:=TrAt.new wr t 171;have lT:=tr_len (hU t hm) (h4 t hm);have c1:=fun w hB hT hP=>ptr_any t w hB hT hP (hU t hm) (h4 t hm);have HX:Hid (hd4 p++tailT kT (ts.take (k+1))=hd4 p++tailT kT (ts.take k)++(trT kT t++ [10])):=by unfold Hid;rw [tail_step hx,X4]
   have SA:=S9.below (balloc (.cells (trC t) 171));have hBA:=hB.below SA.bel (Xa _);have hTA:=hT.below SA.bel (Xa _);have hPA:=hP.below SA.bel (Xa _);generalize trT kT t++ [10]=TT at c1 lT HX;generalize hd4 p++tailT kT (ts.take k)=TX at lt9 HX SA S9;clear hx hm hTr hU h4
   go_wp2_with (first
    |(with_reducible refine wp_tr hE (by with_unfolding_all rfl) ?_)
    |(with_reducible refine wp_tr hN (by with_unfolding_all rfl) ?_)
    |(go_at_call 94;(with_reducible refine zg (c1 _ hBA hTA hPA) fun w10 hb10=>?_);have SB:=SA.below hb10)
    |(go_at_call 13;(with_reducible refine zg (writeS TT SB (by omega)) fun w11 SC=>?_)))
   go_roundw
   case rel=>exact⟨k+1,by omega,rfl,by rw [HX.out];exact SC⟩
   case measure=>simp [intOf];omega
  ·obtain rfl:k=ts.length:=by omega
   rw [XC]at S9;have HT:Hid (hd4 p++tailT kT ts=planT kT p ts):=by unfold Hid planT;rw [hd_is]
   rw [HT.out]at S9;have cS:=Builder_String_any G G (planT kT p ts) wr S9.bd S9.le;clear hTr hU h4 HT lt9;obtain⟨TX,hTX⟩: ∃T,T=planT kT p ts:=⟨_,rfl⟩
   have HT2:=zh hTX;rw [←hTX]at cS S9;clear hTX;go_wp2_with(go_at_call 15;(with_reducible refine zg cS fun w12 hb12=>?_))
   go_ret2;exact⟨by rw [←HT2.out];rfl,S9.bel.trans (hb12.mono (Xw S9.lt))⟩
