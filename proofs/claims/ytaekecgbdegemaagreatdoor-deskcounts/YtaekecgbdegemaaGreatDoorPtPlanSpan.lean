/- A part. -/
import Derived.Test.YtaekecgbdegemaaGreatDoorPtPlanNums
import Derived.Test.YtaekecgbdegemaaGreatDoorPtParseCron
import Derived.Deep.DeepCutAuto
import Derived.Test.YtaekecgbdegemaaGreatDoorPtTak
set_option linter.all false
open Go.Proofs.Tryz
set_option maxHeartbeats 32000000
set_option maxRecDepth 8000
namespace Go.Proofs.YtaekecgbdegemaaGreatDoor
namespace Pln
open Go.RowKit Lai Civ Crn Pie
variable {w w' Wf:World} {n T B N R:Nat} {rd:List UInt8→Option K} {ops:Array Oper} {x y:Operand} {ps:String} {af:Array Edge} {A a:Act} {Q:Exit→Act→World→Prop} {t:Tr} {s:List UInt8} {b:Bool} {o:Option Tr} {e:TypeId} {v v':Value} {p p':Pd} {ts:List Tr}

def MlAt (w:World):Prop:= ∃m:Int,w.cell? ⟨0,0,none⟩=some (.int .i64 m)
theorem MlAt.below (h:MlAt w) (hb:Below n w w') (hn:w.heap.size≤n):MlAt w':=by
 obtain⟨m,hm⟩:=h;exact⟨m,(hb.cell (Xb (cell_lt hm) hn)).trans hm⟩
theorem cut_slash (s:List UInt8) (w:World) (h:MlAt w) (hs:s.length≤10000000):
  Calls prog 131 #[strV s,.string ⟨#[32,47,32]⟩] w fun e w'=>(∃a b f,CutR s a b f∧e=.returned (.tuple #[strV a,strV b,.bool f]))∧Below w.heap.size w w':=by
 obtain⟨m,hm⟩:=h;have c0:=Any.strings_Cut (P:=prog) (ρ:=laysM145_ren) { laysM145 with } ⟨s.toArray⟩ ⟨#[32,47,32]⟩ m w (by show s.length<_;omega) hm;refine c0.mono fun e w' h=>⟨⟨_,_,_,cut_rel s,h.1⟩,?_⟩
 obtain⟨q,rfl⟩:=h.2;exact Pie.below_drewN (Below.refl _ _) q
def RdAns (rd:List UInt8→Option K) (s:List UInt8) (c:K) (E:Int):Prop:=(rd s=some c∧E=0)∨(rd s=none∧E≠0)
theorem cparse_any (hrd:RdOk rd) (s:List UInt8) (w:World) (hB:BdsAt w):
  Calls prog 59 #[strV s] w fun e w'=>(∃c E,RdAns rd s c E∧e=.returned (.tuple #[kV c,.int .i64 E]))∧Below w.heap.size w w':=by
 refine(parse_any s w hB).mono fun e w' h=>⟨?_,h.2⟩
 cases hr:rd s with
 |none=>
  obtain⟨E,hE,g⟩:=hrd.no s hr;exact⟨k0,E,Or.inr ⟨hr,by omega⟩,g e h.1⟩
 |some c=>
  obtain⟨_,_,_,g⟩:=hrd.yes s c hr;exact⟨c,0,Or.inl ⟨hr,rfl⟩,g e h.1⟩
theorem join_tx (r:List (List UInt8)) (B o cap:Nat) (w:World) (hW:TxAt w B o r) (hcap:r.length≤cap) (hl:r.length≤3000) (hx: ∀x∈r,x.length≤3000):
  CB 60 #[.slice (some ⟨B,o,none⟩) r.length cap,.string ⟨#[32]⟩] w (strV (Lib.join r [32])):=by
 have em:(r.map (fun x=>(⟨x.toArray⟩:ByteArray))).map (·.data.toList)=r:=by
  rw [List.map_map];conv=>rhs;rw [←List.map_id r]
  exact List.map_congr_left fun x _=>by simp
 have hjl:=join_len [32] 3000 r hx;have hle:r.length*(([32]:List UInt8).length+3000)≤3000*3001:=Nat.mul_le_mul hl (by simp)
 have := strings_Join B o cap (r.map (fun x => (⟨x.toArray⟩ : ByteArray))) ⟨#[32]⟩ w (fun j x hj => by
  rw [XQ,XH]at hj;obtain⟨y,hy,rfl⟩:=hj;exact hW.2 j y hy) hW.1 (by rw [XE];omega) (by rw [XE];omega) (by rw [em];exact Xc hjl (by omega))
 rw [XE,em]at this;exact this
theorem join_small (r:List (List UInt8)) (hl:r.length≤3000) (hx: ∀x∈r,x.length≤3000):(Lib.join r [32]).length≤10000000:=by
 have hjl:=join_len [32] 3000 r hx;have hle:r.length*(([32]:List UInt8).length+3000)≤3000*3001:=Nat.mul_le_mul hl (by simp);omega
theorem wp_setK {rest:List Oper} {o:Nat} {c:K} (h:TS w T t) (ho:o+7≤17) (hx:A.eval x=.pointer (some ⟨T,o,none⟩)) (hy:A.eval y=kV c)
  (g:wpList prog ops Q rest (A.put none undef) (w.setCells T o [.int .u64 c.mi,.int .u64 c.ho,.int .u64 c.da,.int .u64 c.mn,.int .u64 c.we,.bool c.ad,.bool c.aw])):
  wpList prog ops Q ({ dst:=none,op:=.store 101 x y,type:=0,pos:=ps,after:=af,guard:=none } ::rest) A w:=
 wpList_store_mid rfl 101 x y rfl T o #[.int .u64 c.mi,.int .u64 c.ho,.int .u64 c.da,.int .u64 c.mn,.int .u64 c.we,.bool c.ad,.bool c.aw] hx hy (h.there o 7 ho) (by kernel_rfl) (by simp [Value.oneCell']) g
def SpanR (o:Option Tr) (T:Nat) (w:World) (e:Ending) (w':World):Prop:=OnlyQ T w w'∧match o with
 |none=>e=.returned (.bool false)∧ ∃t,TS w' T t
 |some t=>e=.returned (.bool true)∧TS w' T t
theorem one_w {x:List UInt8} {off cap:Nat} (hS:TS w T ⟨3,0,0,k0,k0⟩) (hW:TxAt w B off [x]) (hBT:B≠T) (hx:x.length≤3000) (w1:World) (hb:Below w.heap.size w w1) (hP:PlcAt w1 w.heap.size T [1]):
  Calls prog 179 #[.slice (some ⟨B,off,none⟩) 1 cap,.slice (some ⟨w.heap.size,0,none⟩) 1 1] w1 fun e w'=>e=.returned (.bool (num7 x).isSome)∧OnlyQ T w w'∧ ∃a,TS w' T ⟨3,a,0,k0,k0⟩∧ ∀q,num7 x=some q→q=a:=by
 refine(pnums_w [x] [1] B off cap T 1 w w1 hW hBT ⟨hS.lt,hS.fz,hS.told1⟩ (by decide) rfl (by decide) (by simp) (by simpa using hx) hb hP).mono fun e w' h=> ?_;obtain⟨a,h1,h2,h3,h4⟩:=h.one hS;exact⟨h2,h3,a,h1,h4⟩
theorem pspan_nil (B off cap T:Nat) (w:World) (hS:TS w T ⟨3,0,0,k0,k0⟩):
  Calls prog 215 #[.pointer (some ⟨T,0,none⟩),.slice (some ⟨B,off,none⟩) 0 cap] w fun e w'=>SpanR none T w e w':=by
 have hTl:=hS.lt;go_enter func215,ntmps215;go_wp2_with fail
 go_region
 go_wp2;go_ret;exact⟨(OnlyQ.of_below ((Below.refl _ _).drew) hTl),rfl,_,hS.below ((Below.refl _ _).drew)⟩
def SpC (x:List UInt8) (T:Nat) (w:World) (v:Value) (wx:World):Prop:=v=.bool (!(num7 x).isSome)∧OnlyQ T w wx∧ ∃a,TS wx T ⟨3,a,0,k0,k0⟩∧ ∀q,num7 x=some q→q=a
theorem span_fin (hrd:RdOk rd) {x:List UInt8} {r:List (List UInt8)} {m:Int} {sa sb:List UInt8} {f:Bool} {ca cb:K} {ea eb:Int} {w7:World}
  (hL:spanS rd (x::r)=(spanC rd r).map fun p=>⟨3,m,0,p.1,p.2⟩) (hSC:spanC rd (pieces 32 s)=spanC rd r) (hC:CutR s sa sb f) (hA:RdAns rd sa ca ea) (hA2:RdAns rd sb cb eb) (hO:OnlyQ T w w7) (hT:TS w7 T ⟨3,m,0,ca,cb⟩) (hb:b=true↔ea=0∧eb=0):
  SpanR (spanS rd (x::r)) T w (.returned (.bool b)) w7:=by
 have hc:=span_cut (rd_slash hrd) (rd_nil hrd) hC;rw [hL,←hSC,←hc];have no:both (rd sa) (rd sb)=none→b=false→SpanR ((both (rd sa) (rd sb)).map fun p=>(⟨3,m,0,p.1,p.2⟩:Tr)) T w (.returned (.bool b)) w7:=fun h1 h2=>by
  rw [h1,h2];exact⟨hO,rfl,_,hT⟩
 rcases hA with⟨e1,rfl⟩|⟨e1,h1⟩
 ·rcases hA2 with⟨e2,rfl⟩|⟨e2,h2⟩
  ·rw [e1,e2,hb.2 ⟨rfl,rfl⟩];exact⟨hO,rfl,hT⟩
  ·refine no (by rw [e1,e2];rfl) ?_;cases b
   ·rfl
   ·exact absurd (hb.1 rfl).2 h2
 ·refine no (by rw [e1];cases rd sb<;>rfl) ?_;cases b
  ·rfl
  ·exact absurd (hb.1 rfl).1 h1
theorem pspan_cons (hrd:RdOk rd) (x:List UInt8) (r:List (List UInt8)) (B off cap T:Nat) (w:World) (hS:TS w T ⟨3,0,0,k0,k0⟩) (hW:TxAt w B off (x::r)) (hBT:B≠T) (w0:World) (hB:BdsAt w0) (hM:MlAt w0) (hb0:Below w0.heap.size w0 w) (hT0:w0.heap.size≤T) (hcap:r.length+1≤cap) (hws:r.length+1≤3000) (hx: ∀y∈x::r,y.length≤3000) (hno: ∀y∈x::r,(32:UInt8)∉y):
  Calls prog 215 #[.pointer (some ⟨T,0,none⟩),.slice (some ⟨B,off,none⟩) (r.length+1) cap] w fun e w'=>SpanR (spanS rd (x::r)) T w e w':=by
 have hTl:=hS.lt;have h1: ¬((r.length:Int)+1<1):=by omega
 have h2:(1:Int)≤(r.length:Int)+1:=by omega
 have h3:(1:Int)≤(cap:Int):=by omega
 have c1:=fun w1 hb hP=>one_w (cap:=cap) hS (hW.take 1:TxAt w B off [x]) hBT (hx x XF) w1 hb hP;have HS:=zh hS;have HW:=zh hW;have HX:=zh hx;have HNo:=zh hno;clear hW hS hx hno;go_enter func215,ntmps215;go_upto_region 1 with fail
 go_cut [22] (fun v wx=>SpC x T w v wx)
 case first=>
  generalize hbx:(num7 x).isSome=bx at c1;have HBX:=zh hbx;clear hbx;go_region_with (go_at_call 179;(with_reducible refine(c1 _ (bad1 _ _) ?_).mono ?_);exact(plc1 w _ T 1).drew;rintro e w1 ⟨rfl,hO1,a,hT1,ha⟩)
  go_wp2_with fail
  go_meet;exact⟨by rw [HBX.out],hO1,a,hT1,ha⟩
 case rest=>
  obtain⟨rfl,hO1,a,hT1,ha⟩:=hcut;clear c1;cases hnx:num7 x with
  |none=>
   have HL:Hid (spanS rd (x::r)=none):=by unfold Hid spanS;dsimp only;rw [hnx]
   clear hnx ha;go_wp2;go_ret;rw [HL.out];exact⟨hO1,rfl,_,hT1⟩
  |some m=>
   obtain rfl:=ha m hnx;have HL:Hid (spanS rd (x::r)=(spanC rd r).map fun p=>⟨3,m,0,p.1,p.2⟩):=by unfold Hid spanS;dsimp only;rw [hnx];cases spanC rd r<;>rfl
   clear hnx ha;have hs1:=hO1.size;obtain⟨o2,hif,hW2⟩:=(HW.out.only hO1 hBT).cut hcap;have hX2:=fun y hy=>HX.out y (Xy _ hy);have cJ:=join_tx r B o2 (cap-1) wc hW2 (by omega) (by omega) hX2;have cC:=fun w h=>cut_slash (Lib.join r [32]) w h (join_small r (by omega) hX2);have HSC:Hid (spanC rd (pieces 32 (Lib.join r [32]))=spanC rd r):=spanC_join fun y hy=>HNo.out y (Xy _ hy);have cP:=fun s w h=>cparse_any hrd s w h;have hb1:Below w0.heap.size w0 wc:=hb0.trans (hO1.below hT0 hb0.size);have HO1:=zh hO1;have hT1l:=hT1.lt;have HT1:=zh hT1;have HB:Hid (∀w',Below w0.heap.size w0 w'→BdsAt w'∧MlAt w'):=fun w' h=>⟨hB.below h (Xa _),hM.below h (Xa _)⟩
   have hz0:=hb1.size;clear hW2 hO1 hT1 hX2 HX HW HS hB hM
   go_wp2_with (first
    |((with_reducible refine wp_setK (o:=3) (c:=ca) hT4 (by decide) (by with_unfolding_all rfl) (by with_unfolding_all rfl) ?_);have hT5:=hT4.setA ca;have hO5:=HO4.out.trans (OnlyQ.sets T [.int .u64 ca.mi,.int .u64 ca.ho,.int .u64 ca.da,.int .u64 ca.mn,.int .u64 ca.we,.bool ca.ad,.bool ca.aw] w4 3);clear HO4 hT4;generalize w4.setCells T 3 [.int .u64 ca.mi,.int .u64 ca.ho,.int .u64 ca.da,.int .u64 ca.mn,.int .u64 ca.we,.bool ca.ad,.bool ca.aw]=w5 at*;have hw5:Below w0.heap.size w0 w5:=hb0.trans (hO5.below hT0 hb0.size);have hB5:=(HB.out _ hw5).1;have HO5:=zh hO5;have HT5:=zh hT5;clear hO5 hT5)
    |((with_reducible refine wp_setK (o:=10) (c:=cb) hT6 (by decide) (by with_unfolding_all rfl) (by with_unfolding_all rfl) ?_);have hT7:=hT6.setB cb;have hO7:=HO6.out.trans (OnlyQ.sets T [.int .u64 cb.mi,.int .u64 cb.ho,.int .u64 cb.da,.int .u64 cb.mn,.int .u64 cb.we,.bool cb.ad,.bool cb.aw] w6 10);clear HO6 hT6;generalize w6.setCells T 10 [.int .u64 cb.mi,.int .u64 cb.ho,.int .u64 cb.da,.int .u64 cb.mn,.int .u64 cb.we,.bool cb.ad,.bool cb.aw]=w7 at*;have HO7:=zh hO7;have HT7:=zh hT7;clear hO7 hT7)
    |(go_at_call 60;(with_reducible refine zg cJ fun w2 hb2=>?_);have hw2:Below w0.heap.size w0 w2:=hb1.trans (hb2.mono hz0);have hM2:=(HB.out w2 hw2).2;have HT2:Hid (TS w2 T ⟨3,m,0,k0,k0⟩):=HT1.out.below hb2;have HO2:Hid (OnlyQ T w w2):=HO1.out.trans (OnlyQ.of_below hb2 hT1l))
    |(go_at_call 131;(with_reducible refine(cC _ hM2).mono ?_);rintro e w3 ⟨⟨sa,sb,f,hC,rfl⟩,hb3⟩;have hw3:Below w0.heap.size w0 w3:=(zu hw2 hb3);have hB3:=(HB.out _ hw3).1;have HT3:Hid (TS w3 T ⟨3,m,0,k0,k0⟩):=HT2.out.below hb3;have HO3:Hid (OnlyQ T w w3):=HO2.out.trans (OnlyQ.of_below hb3 HT2.out.lt))
    |(go_at_call 59;(with_reducible refine(cP sa w3 hB3).mono ?_);rintro e w4 ⟨⟨ca,ea,hA,rfl⟩,hb4⟩;have hT4:=HT3.out.below hb4;have hw4:Below w0.heap.size w0 w4:=(zu hw3 hb4);have HO4:Hid (OnlyQ T w w4):=HO3.out.trans (OnlyQ.of_below hb4 HT3.out.lt))
    |(go_at_call 59;(with_reducible refine(cP sb w5 hB5).mono ?_);rintro e w6 ⟨⟨cb,eb,hA2,rfl⟩,hb6⟩;have hT6:=HT5.out.below hb6;have HO6:Hid (OnlyQ T w w6):=HO5.out.trans (OnlyQ.of_below hb6 HT5.out.lt)))
   all_goals
    go_ret;exact span_fin hrd HL.out HSC.out hC hA hA2 HO7.out HT7.out (by simp [*])
theorem pspan_any (hrd:RdOk rd) (ws:List (List UInt8)) (B off cap T:Nat) (w:World) (hS:TS w T ⟨3,0,0,k0,k0⟩) (hW:TxAt w B off ws) (hBT:B≠T) (w0:World) (hB:BdsAt w0) (hM:MlAt w0) (hb0:Below w0.heap.size w0 w) (hT0:w0.heap.size≤T) (hcap:ws.length≤cap) (hws:ws.length≤3000) (hx: ∀y∈ws,y.length≤3000) (hno: ∀y∈ws,(32:UInt8)∉y):
  Calls prog 215 #[.pointer (some ⟨T,0,none⟩),.slice (some ⟨B,off,none⟩) ws.length cap] w fun e w'=>SpanR (spanS rd ws) T w e w':=by
 cases ws with
 |nil=>exact pspan_nil B off cap T w hS
 |cons x r=>exact pspan_cons hrd x r B off cap T w hS hW hBT w0 hB hM hb0 hT0 hcap hws hx hno

def TgR (o:Option Tr) (E:Ending):Prop:=match o with
 |none=> ∃t,E=.returned (.tuple #[trV t,.bool false])
 |some t=>E=.returned (.tuple #[trV t,.bool true])
theorem TS.at (h:TS w T t):TrAt w T 0 t:=by
 constructor
 ·simpa using h.cel 0
 ·simpa using h.cel 1
 ·simpa using h.cel 2
 ·simpa using h.cel 3
 ·simpa using h.cel 4
 ·simpa using h.cel 5
 ·simpa using h.cel 6
 ·simpa using h.cel 7
 ·simpa using h.cel 8
 ·simpa using h.cel 9
 ·simpa using h.cel 10
 ·simpa using h.cel 11
 ·simpa using h.cel 12
 ·simpa using h.cel 13
 ·simpa using h.cel 14
 ·simpa using h.cel 15
 ·simpa using h.cel 16
theorem tz (w:World) (ta:TypeId) (k:Int):TS (w.alloc (.cells #[.int .i64 k,.int .i64 0,.int .i64 0,.int .u64 0,.int .u64 0,.int .u64 0,.int .u64 0,.int .u64 0,.bool false,.bool false,.int .u64 0,.int .u64 0,.int .u64 0,.int .u64 0,.int .u64 0,.bool false,.bool false] ta)) w.heap.size ⟨k,0,0,k0,k0⟩:=TS.new w ta ⟨k,0,0,k0,k0⟩
theorem TS.again (h:TS w T t):TS (w.setCells T 0 (trC t).toList) T t:=
 h.turn (OnlyQ.sets T _ _ _) (by
  have e:setRow (trC t) 0 (trC t).toList=trC t:=by simp [setRow]
  have:=cells_sets (trC t).toList 0 h.cel (by simp)
  rw [e]at this
  exact this)
theorem wp_setTr {rest:List Oper} (h:TS w T t) (hx:A.eval x=.pointer (some ⟨T,0,none⟩)) (hy:A.eval y=trV t)
  (g: ∀w',TS w' T t→OnlyQ T w w'→wpList prog ops Q rest (A.put none undef) w'):
  wpList prog ops Q ({ dst:=none,op:=.store 171 x y,type:=0,pos:=ps,after:=af,guard:=none } ::rest) A w:=
 wpList_store_mid rfl 171 x y rfl T 0 (trC t) hx hy (h.there 0 17 (by decide)) (by kernel_rfl) (by simp [Value.oneCell']) (g _ h.again (OnlyQ.sets T _ _ _))
theorem finT (hp:a.tmps[4]? =some (.pointer (some ⟨T,0,none⟩))) (he:a.tmps[5]? =some (.bool b)) (ha:a.defers=[]) (hT:TS Wf T t) (hA:TgR o (.returned (.tuple #[trV t,.bool b]))) (hb:Below w.heap.size w Wf):
  bodyPost prog f181 (fun e w'=>TgR o e∧Below w.heap.size w w') Exit.ret a Wf:=by
 refine bodyPost_ret (v:=.tuple #[trV t,.bool b]) ?_ ha ⟨hA,hb⟩;have e4:a.tmps.getD 4 undef=.pointer (some ⟨T,0,none⟩):=by rw [Yi,hp];rfl
 have e5:a.tmps.getD 5 undef=.bool b:=by rw [Yi,he];rfl
 rw [results_cell_tmp results181,e4,e5];have hl:=run_loadVar_mid (P:=prog) Wf T 0 171 _ _ (range_tr hT.at) underlying171 rfl (by kernel_rfl);simp only [asAddr,X8,X9,hl]
theorem tnum (k:Int) (ws:List (List UInt8)) (B off cap:Nat) (ta tb:TypeId) (w:World) (hW:TxAt w B off ws) (hws:ws.length≤3000) (hx: ∀x∈ws,x.length≤3000):
  Calls prog 179 #[.slice (some ⟨B,off,none⟩) ws.length cap,.slice (some ⟨w.heap.size+1,0,none⟩) 2 2] ((w.alloc (.cells #[.int .i64 k,.int .i64 0,.int .i64 0,.int .u64 0,.int .u64 0,.int .u64 0,.int .u64 0,.int .u64 0,.bool false,.bool false,.int .u64 0,.int .u64 0,.int .u64 0,.int .u64 0,.int .u64 0,.bool false,.bool false] ta)).alloc (.cells #[.pointer (some ⟨w.heap.size,1,none⟩),.pointer (some ⟨w.heap.size,2,none⟩)] tb)) fun e w'=>e=.returned (.bool (two ws).isSome)∧Below w.heap.size w w'∧ ∃a b,TS w' w.heap.size ⟨k,a,b,k0,k0⟩∧ ∀q,two ws=some q→q=(a,b):=by
 have hS:=tz w ta k;have hz:(w.alloc (.cells #[.int .i64 k,.int .i64 0,.int .i64 0,.int .u64 0,.int .u64 0,.int .u64 0,.int .u64 0,.int .u64 0,.bool false,.bool false,.int .u64 0,.int .u64 0,.int .u64 0,.int .u64 0,.int .u64 0,.bool false,.bool false] ta)).heap.size=w.heap.size+1:=by simp
 have hb0:Below w.heap.size w (w.alloc (.cells #[.int .i64 k,.int .i64 0,.int .i64 0,.int .u64 0,.int .u64 0,.int .u64 0,.int .u64 0,.int .u64 0,.bool false,.bool false,.int .u64 0,.int .u64 0,.int .u64 0,.int .u64 0,.int .u64 0,.bool false,.bool false] ta)):=balloc _;generalize w.alloc (.cells #[.int .i64 k,.int .i64 0,.int .i64 0,.int .u64 0,.int .u64 0,.int .u64 0,.int .u64 0,.int .u64 0,.bool false,.bool false,.int .u64 0,.int .u64 0,.int .u64 0,.int .u64 0,.int .u64 0,.bool false,.bool false] ta)=W at*;rw [←hz];have hBl:=hW.1;refine(pnums_w ws [1,2] B off cap w.heap.size 2 W _ (hW.below hb0 hBl) (by omega) ⟨hS.lt,hS.fz,hS.told2⟩ (by decide) rfl (by decide) hws hx (balloc _) (plc2 W tb w.heap.size 1 2)).mono fun e w' h=> ?_;obtain⟨a,b,h1,h2,h3,h4⟩:=h.two hS;exact⟨h2,hb0.trans (h3.below (Xa _) (by omega)),a,b,h1,h4⟩
theorem ptrig_lag (rd:List UInt8→Option K) (ws:List (List UInt8)) (B off cap:Nat) (w:World) (hW:TxAt w B off ws) (hws:ws.length≤3000) (hx: ∀x∈ws,x.length≤3000):
  Calls prog 181 #[strV wLag,.slice (some ⟨B,off,none⟩) ws.length cap] w fun e w'=>TgR (trS rd wLag ws) e∧Below w.heap.size w w':=by
 have c1:=fun ta tb=>tnum 1 ws B off cap ta tb w hW hws hx;obtain⟨z,hz⟩: ∃z,z=trS rd wLag ws:=⟨_,rfl⟩
 rw [←hz];have HL:Hid (z=(two ws).map fun p=>⟨1,p.1,p.2,k0,k0⟩):=by unfold Hid;rw [hz];unfold trS;rw [if_pos rfl]
 clear hW hx hz;generalize two ws=o at*;go_enter func181,ntmps181
 go_wp2_with (first
  |(with_reducible refine wp_tr hA (by with_unfolding_all rfl) ?_)
  |((with_reducible refine wp_setTr hT (by with_unfolding_all rfl) (by with_unfolding_all rfl) ?_);intro w2 hT2 hO2)
  |(go_at_call 179;(with_reducible refine(c1 _ _).mono ?_);rintro e w1 ⟨rfl,hb1,a,b,hT,hq⟩;have hA:=hT.at))
 rw [HL.out];refine finT rfl rfl rfl hT2 ?_ (hb1.trans (hO2.below (Xa _) hb1.size));cases o with
 |none=>exact⟨_,rfl⟩
 |some q=>
  obtain rfl:=hq q rfl;rfl
theorem ptrig_depth (rd:List UInt8→Option K) (ws:List (List UInt8)) (B off cap:Nat) (w:World) (hW:TxAt w B off ws) (hws:ws.length≤3000) (hx: ∀x∈ws,x.length≤3000):
  Calls prog 181 #[strV wDepth,.slice (some ⟨B,off,none⟩) ws.length cap] w fun e w'=>TgR (trS rd wDepth ws) e∧Below w.heap.size w w':=by
 have c1:=fun ta tb=>tnum 2 ws B off cap ta tb w hW hws hx;obtain⟨z,hz⟩: ∃z,z=trS rd wDepth ws:=⟨_,rfl⟩
 rw [←hz];have HL:Hid (z=(two ws).map fun p=>⟨2,p.1,p.2,k0,k0⟩):=by unfold Hid;rw [hz];unfold trS;rw [if_neg (by simp),if_pos rfl]
 clear hW hx hz;generalize two ws=o at*;go_enter func181,ntmps181
 go_wp2_with (first
  |(with_reducible refine wp_tr hA (by with_unfolding_all rfl) ?_)
  |((with_reducible refine wp_setTr hT (by with_unfolding_all rfl) (by with_unfolding_all rfl) ?_);intro w2 hT2 hO2)
  |(go_at_call 179;(with_reducible refine(c1 _ _).mono ?_);rintro e w1 ⟨rfl,hb1,a,b,hT,hq⟩;have hA:=hT.at))
 rw [HL.out];refine finT rfl rfl rfl hT2 ?_ (hb1.trans (hO2.below (Xa _) hb1.size));cases o with
 |none=>exact⟨_,rfl⟩
 |some q=>
  obtain rfl:=hq q rfl;rfl
theorem SpanR.said {e:Ending} (h:SpanR o T w e w'):e=.returned (.bool o.isSome)∧OnlyQ T w w'∧ ∃t,TS w' T t∧ ∀q,o=some q→q=t:=by
 obtain⟨h1,h2⟩:=h;cases o with
 |none=>
  obtain⟨h3,t,h4⟩:=h2;exact⟨h3,h1,t,h4,fun q h=>by cases h⟩
 |some t=>exact⟨h2.1,h1,t,h2.2,fun q h=>by cases h;rfl⟩
theorem ptrig_span (hrd:RdOk rd) (ws:List (List UInt8)) (B off cap:Nat) (w:World) (hW:TxAt w B off ws) (hB:BdsAt w) (hM:MlAt w) (hcap:ws.length≤cap) (hws:ws.length≤3000) (hx: ∀x∈ws,x.length≤3000) (hno: ∀y∈ws,(32:UInt8)∉y):
  Calls prog 181 #[strV wSpan,.slice (some ⟨B,off,none⟩) ws.length cap] w fun e w'=>TgR (trS rd wSpan ws) e∧Below w.heap.size w w':=by
 have hBl:=hW.1;have c1:=fun ta=>(pspan_any hrd ws B off cap w.heap.size _ (tz w ta 3) (hW.below (balloc _) hBl) (by omega) w hB hM (balloc _) (Xa _) hcap hws hx hno).mono fun e w' h=>h.said;obtain⟨z,hz⟩: ∃z,z=trS rd wSpan ws:=⟨_,rfl⟩
 rw [←hz];have HL:Hid (z=spanS rd ws):=by unfold Hid;rw [hz];unfold trS;rw [if_neg (by simp),if_neg (by simp),if_pos rfl]
 clear hW hx hB hM hno hrd hz;generalize spanS rd ws=o at*;go_enter func181,ntmps181
 go_wp2_with (first
  |(with_reducible refine wp_tr hA (by with_unfolding_all rfl) ?_)
  |((with_reducible refine wp_setTr hT (by with_unfolding_all rfl) (by with_unfolding_all rfl) ?_);intro w2 hT2 hO2)
  |(go_at_call 215;(with_reducible refine(c1 _).mono ?_);rintro e w1 ⟨rfl,hO,t,hT,hq⟩;have hA:=hT.at))
 rw [HL.out];have hb1:=(balloc (w:=w) _).trans (hO.below (Xa _) (by simp));refine finT rfl rfl rfl hT2 ?_ (hb1.trans (hO2.below (Xa _) hb1.size));cases o with
 |none=>exact⟨_,rfl⟩
 |some q=>
  obtain rfl:=hq q rfl;rfl
theorem ptrig_none (rd:List UInt8→Option K) (f:List UInt8) (v:Value) (w:World) (h1:f≠wLag) (h2:f≠wDepth) (h3:f≠wSpan) (ws:List (List UInt8)):
  Calls prog 181 #[strV f,v] w fun e w'=>TgR (trS rd f ws) e∧Below w.heap.size w w':=by
 obtain⟨z,hz⟩: ∃z,z=trS rd f ws:=⟨_,rfl⟩
 rw [←hz];have HL:Hid (z=none):=by unfold Hid;rw [hz];unfold trS;rw [if_neg h1,if_neg h2,if_neg h3]
 clear hz;have e1:(f==[108,97,103])=false:=by rw [beq_eq_false_iff_ne];exact h1
 have e2:(f==[100,101,112,116,104])=false:=by rw [beq_eq_false_iff_ne];exact h2
 have e3:(f==[115,112,97,110])=false:=by rw [beq_eq_false_iff_ne];exact h3
 clear h1 h2 h3;go_enter func181,ntmps181;go_wp2;rw [HL.out];exact finT rfl rfl rfl (tz w _ 0) ⟨_,rfl⟩ (balloc _)
theorem ptrig_any (hrd:RdOk rd) (f:List UInt8) (ws:List (List UInt8)) (B off cap:Nat) (w:World) (hW:TxAt w B off ws) (hB:BdsAt w) (hM:MlAt w) (hcap:ws.length≤cap) (hws:ws.length≤3000) (hx: ∀x∈ws,x.length≤3000) (hno: ∀y∈ws,(32:UInt8)∉y):
  Calls prog 181 #[strV f,.slice (some ⟨B,off,none⟩) ws.length cap] w fun e w'=>TgR (trS rd f ws) e∧Below w.heap.size w w':=by
 by_cases h1:f=wLag
 ·subst h1;exact ptrig_lag rd ws B off cap w hW hws hx
 ·by_cases h2:f=wDepth
  ·subst h2;exact ptrig_depth rd ws B off cap w hW hws hx
  ·by_cases h3:f=wSpan
   ·subst h3;exact ptrig_span hrd ws B off cap w hW hB hM hcap hws hx hno
   ·exact ptrig_none rd f _ w h1 h2 h3 ws

theorem words_any (text:List UInt8) (w:World) (ht:text.length≤2048): ∃(x:List UInt8) (r:List (List UInt8)) (n o2:Nat),pieces 32 text=x::r∧r.length=n-1∧1≤n∧n≤3000∧(∀y∈x::r,y.length≤3000)∧(∀y∈r,(32:UInt8)∉y)∧
  (if n=1 then some (⟨w.heap.size,0,none⟩:Addr)else some ⟨w.heap.size,1,none⟩)=some ⟨w.heap.size,o2,none⟩∧
  Calls prog 22 #[strV text,.string ⟨#[32]⟩] w fun e w'=>e=.returned (.slice (some ⟨w.heap.size,0,none⟩) n n)∧w'.cell? ⟨w.heap.size,0,none⟩=some (strV x)∧TxAt w' w.heap.size o2 r∧Below w.heap.size w w':=by
 have c0:=split_any text 32 w (by omega);have hsub:=pieces_sub 32 text;have hno:=pieces_no 32 text;have hlen:=pieces_len 32 text;have hcl:=X6 (a:=(32:UInt8)) (l:=text);cases hp:pieces 32 text with
 |nil=>exact absurd hp (pieces_ne 32 text)
 |cons x r=>
  rw [hp]at c0 hsub hno hlen;have hl2:(x::r).length=r.length+1:=rfl;have key: ∃o2,(if r.length+1=1 then some (⟨w.heap.size,0,none⟩:Addr)else some ⟨w.heap.size,1,none⟩)=some ⟨w.heap.size,o2,none⟩∧ ∀w',Texts w' w.heap.size (x::r)→TxAt w' w.heap.size o2 r:=by
   by_cases e:r.length+1=1
   ·have:r=[]:=Yy.1 (by omega);subst this;exact⟨0,rfl,fun w' h=>⟨h.1,fun j y hy=>by simp at hy⟩⟩
   ·exact⟨1,by rw [if_neg e],fun w' h=>(TxAt.of h).tail⟩
  obtain⟨o2,h1,h2⟩:=key;refine⟨x,r,r.length+1,o2,rfl,by omega,by omega,by omega,fun y hy=>Xc (hsub y hy) (by omega),fun y hy=>hno y (Xy _ hy),h1,c0.mono fun e w' h=>⟨h.1,h.2.1.2 0 x rfl,h2 w' h.2.1,h.2.2⟩⟩
theorem LineR.bool {e:TypeId} {N Q:Nat} {w w':World} {o:Option (Pd×List Tr)} {E:Ending} (h:LineR e N Q w o E w'): ∃b,E=.returned (.bool b):=by
 unfold LineR at h;split at h
 ·exact⟨_,h.1⟩
 ·exact⟨_,h.1⟩
theorem pln0 (rd:List UInt8→Option K) (text:List UInt8) (N Q:Nat) (p:Pd) (ts:List Tr) (v:Value) (w:World) (hS:PS w 171 N Q p ts v) (ht:text.length≤2048):
  Calls prog 132 #[.pointer (some ⟨Q,0,none⟩),.int .i64 1,strV text] w fun e w'=>LineR 171 N Q w (lineS rd 0 (p,ts) (pieces 32 text)) e w':=by
 obtain⟨x,r,n,o2,hp,hr,hn1,hn2,hx,hno,hif,c0⟩:=words_any text w ht;obtain⟨z,hz⟩: ∃z,z=lineS rd 0 (p,ts) (pieces 32 text):=⟨_,rfl⟩
 rw [←hz];have hQl:=hS.lt;have hNn:=hS.nN;have HS:=zh hS;by_cases hw:x=wPlan
 ·subst hw;have HZ:Hid (z=(line0 (wPlan::r) p).map fun p=>(p,ts)):=by
   unfold Hid;rw [hz,hp];rfl
  have HX:Hid (∀y∈r,y.length≤3000):=fun y hy=>hx y (Xy _ hy);clear hx hno hS hz hp;go_enter func132,ntmps132;go_wp2_with(first|(go_at_call 22;(with_reducible refine c0.mono ?_);rintro e w1 ⟨rfl,cx,hW,hb1⟩))
  go_quiet (fail)
  have hb2:Below w.heap.size w (w1.drewN nq):=Pie.below_drewN hb1 nq;have hW2:TxAt (w1.drewN nq) w.heap.size o2 r:=hW;generalize w1.drewN nq=w2 at*;clear cx hW hb1 c0;have hS2:=HS.out.below hb2;have hne:w.heap.size≠Q:=by omega
  have c:=pplan_any r w.heap.size o2 (n-1) N Q p ts v w2 hS2 hW2 hne (by omega) (by omega) HX.out;rw [hr]at c;clear hW2 hS2;go_wp2_with(go_at_call 178;(with_reducible refine c.mono ?_);intro e w5 hN5;obtain⟨b5,rfl⟩: ∃b,e=.returned (.bool b):=hN5.bool)
  go_ret;rw [HZ.out];exact hN5.from (hb2.mono hNn)
 ·have he:(x==[112,108,97,110])=false:=by rw [beq_eq_false_iff_ne];exact hw
  have HZ:Hid (z=none):=by
   unfold Hid;rw [hz,hp];show(line0 (x::r) p).map _=none;unfold line0;cases r with|nil=>rfl|cons a b=>dsimp only;rw [if_neg (fun q=>hw q.1)];rfl
  clear hx hno hS hz hp hw;go_enter func132,ntmps132;go_wp2_with(first|(go_at_call 22;(with_reducible refine c0.mono ?_);rintro e w1 ⟨rfl,cx,hW,hb1⟩))
  go_quiet (fail)
  have hb2:Below w.heap.size w (w1.drewN nq):=Pie.below_drewN hb1 nq;have hW2:TxAt (w1.drewN nq) w.heap.size o2 r:=hW;generalize w1.drewN nq=w2 at*;clear cx hW hb1 c0;go_wp2;go_ret;rw [HZ.out];exact⟨rfl,hb2.mono hNn⟩
set_option linter.unusedSimpArgs false

theorem pln1 (rd:List UInt8→Option K) (text:List UInt8) (N Q:Nat) (p:Pd) (ts:List Tr) (v:Value) (w:World) (hS:PS w 171 N Q p ts v) (ht:text.length≤2048):
  Calls prog 132 #[.pointer (some ⟨Q,0,none⟩),.int .i64 2,strV text] w fun e w'=>LineR 171 N Q w (lineS rd 1 (p,ts) (pieces 32 text)) e w':=by
 obtain⟨x,r,n,o2,hp,hr,hn1,hn2,hx,hno,hif,c0⟩:=words_any text w ht;obtain⟨z,hz⟩: ∃z,z=lineS rd 1 (p,ts) (pieces 32 text):=⟨_,rfl⟩
 rw [←hz];have hQl:=hS.lt;have hNn:=hS.nN;have HS:=zh hS;by_cases hw:x=wRest
 ·subst hw;have HZ:Hid (z=(four r).map fun q=>(({ p with tl:=q.1,bk:=q.2.1,af:=q.2.2.1,sh:=q.2.2.2 } :Pd),ts)):=by
   unfold Hid;rw [hz,hp];show(line1 (wRest::r) p).map _=_;unfold line1;dsimp only;rw [if_pos rfl,Option.map_map];rfl
  have HX:Hid (∀y∈r,y.length≤3000):=fun y hy=>hx y (Xy _ hy);clear hx hno hS hz hp;go_enter func132,ntmps132;go_wp2_with(first|(go_at_call 22;(with_reducible refine c0.mono ?_);rintro e w1 ⟨rfl,cx,hW,hb1⟩))
  go_quiet (fail)
  have hb2:Below w.heap.size w (w1.drewN nq):=Pie.below_drewN hb1 nq;have hW2:TxAt (w1.drewN nq) w.heap.size o2 r:=hW;generalize w1.drewN nq=w2 at*;clear cx hW hb1 c0;have hS2:=HS.out.below hb2;have hne:w.heap.size≠Q:=by omega
  have c:=fun w1 hb hP=>pnums_w r [5,6,7,8] w.heap.size o2 (n-1) Q 4 w2 w1 hW2 hne (hS2.room (by simp)) (by decide) rfl (by decide) (by omega) HX.out hb hP;rw [hr]at c;have HS2:=zh hS2;clear hW2 hS2;go_wp2_with fail
  refine wp_region_held_drew (S:=fun _=>True) (by kernel_rfl) trivial (fun hHeld=> ?_);refine wpAnyH_take (i:=0) (oi:=_) (v:= ?_) rfl (by kernel_rfl) (by kernel_rfl) (by kernel_rfl) (fun _ _ _ h=>h) (Or.inl ⟨by rfl,?_⟩) trivial ?_;rotate_left
  ·intro w' hSw;go_simp;all_goals with_reducible rfl
  (try simp only [Act.put,ar,ag]);refine wpAnyH_take (i:=1) (oi:=_) (v:= ?_) rfl (by kernel_rfl) (by kernel_rfl) (by kernel_rfl) (fun _ _ _ h=>h) (Or.inl ⟨by rfl,?_⟩) trivial ?_;rotate_left
  ·intro w' hSw;go_simp;all_goals with_reducible rfl
  (try simp only [Act.put,ar,ag]);refine wpAnyH_take (i:=2) (oi:=_) (v:= ?_) rfl (by kernel_rfl) (by kernel_rfl) (by kernel_rfl) (fun _ _ _ h=>h) (Or.inl ⟨by rfl,?_⟩) trivial ?_;rotate_left
  ·intro w' hSw;go_simp;all_goals with_reducible rfl
  (try simp only [Act.put,ar,ag]);refine wpAnyH_take (i:=3) (oi:=_) (v:= ?_) rfl (by kernel_rfl) (by kernel_rfl) (by kernel_rfl) (fun _ _ _ h=>h) (Or.inl ⟨by rfl,?_⟩) trivial ?_;rotate_left
  ·intro w' hSw;go_simp;all_goals with_reducible rfl
  (try simp only [Act.put,ar,ag]);refine wpAnyH_take (i:=4) (oi:=_) (v:= ?_) rfl (by kernel_rfl) (by kernel_rfl) (by kernel_rfl) (fun _ _ _ h=>h) (Or.inl ⟨by rfl,?_⟩) trivial ?_;rotate_left
  ·intro w' hSw;go_simp;all_goals with_reducible rfl
  (try simp only [Act.put,ar,ag]);refine wpAnyH_take (i:=5) (oi:=_) (v:= ?_) rfl (by kernel_rfl) (by kernel_rfl) (by kernel_rfl) (fun _ _ _ h=>h) (Or.inl ⟨by rfl,?_⟩) trivial ?_;rotate_left
  ·intro w' hSw;go_simp;all_goals with_reducible rfl
  (try simp only [Act.put,ar,ag]);refine wpAnyH_take (i:=6) (oi:=_) (v:= ?_) rfl (by kernel_rfl) (by kernel_rfl) (by kernel_rfl) (fun _ _ _ h=>h) (Or.inl ⟨by rfl,?_⟩) trivial ?_;rotate_left
  ·intro w' hSw;go_simp;all_goals with_reducible rfl
  (try simp only [Act.put,ar,ag]);refine wpAnyH_take (i:=7) (oi:=_) (v:= ?_) rfl (by kernel_rfl) (by kernel_rfl) (by kernel_rfl) (fun _ _ _ h=>h) (Or.inl ⟨by rfl,?_⟩) trivial ?_;rotate_left
  ·intro w' hSw;go_simp;all_goals with_reducible rfl
  (try simp only [Act.put,ar,ag]);refine wpAnyH_take (i:=8) (oi:=_) (v:= ?_) rfl (by kernel_rfl) (by kernel_rfl) (by kernel_rfl) (fun _ _ _ h=>h) (Or.inl ⟨by rfl,?_⟩) trivial ?_;rotate_left
  ·intro w' hSw;go_simp;all_goals with_reducible rfl
  (try simp only [Act.put,ar,ag]);refine wpAnyH_take (i:=9) (oi:=_) (v:= ?_) rfl (by kernel_rfl) (by kernel_rfl) (by kernel_rfl) (fun _ _ _ h=>h) (Or.inl ⟨by rfl,?_⟩) trivial ?_;rotate_left
  ·intro w' hSw;go_simp;all_goals with_reducible rfl
  (try simp only [Act.put,ar,ag]);refine wpAnyH_take (i:=10) (oi:=_) (v:= ?_) rfl (by kernel_rfl) (by kernel_rfl) (by kernel_rfl) (fun _ _ _ h=>h) (Or.inl ⟨by rfl,?_⟩) trivial ?_;rotate_left
  ·intro w' hSw;go_simp;all_goals with_reducible rfl
  (try simp only [Act.put,ar,ag]);refine wpAnyH_take (i:=11) (oi:=_) (v:= ?_) rfl (by kernel_rfl) (by kernel_rfl) (by kernel_rfl) (fun _ _ _ h=>h) (Or.inl ⟨by rfl,?_⟩) trivial ?_;rotate_left
  ·intro w' hSw;go_simp;all_goals with_reducible rfl
  (try simp only [Act.put,ar,ag]);refine wpAnyH_take (i:=12) (oi:=_) (v:= ?_) rfl (by kernel_rfl) (by kernel_rfl) (by kernel_rfl) (fun _ _ _ h=>h) (Or.inl ⟨by rfl,?_⟩) trivial ?_;rotate_left
  ·intro w' hSw;go_simp;all_goals with_reducible rfl
  (try simp only [Act.put,ar,ag]);refine wpAnyH_take (i:=13) (oi:=_) (v:= ?_) rfl (by kernel_rfl) (by kernel_rfl) (by kernel_rfl) (fun _ _ _ h=>h) (Or.inl ⟨by rfl,?_⟩) trivial ?_;rotate_left
  ·intro w' hSw;go_simp;all_goals with_reducible rfl
  (try simp only [Act.put,ar,ag]);refine wpAnyH_take (i:=14) (oi:=_) (v:= ?_) rfl (by kernel_rfl) (by kernel_rfl) (by kernel_rfl) (fun _ _ _ h=>h) (Or.inl ⟨by rfl,?_⟩) trivial ?_;rotate_left
  ·intro w' hSw;go_simp;all_goals with_reducible rfl
  (try simp only [Act.put,ar,ag]);refine wpAnyH_take (i:=15) (oi:=_) (v:= ?_) rfl (by kernel_rfl) (by kernel_rfl) (by kernel_rfl) (fun _ _ _ h=>h) (Or.inl ⟨by rfl,?_⟩) trivial ?_;rotate_left
  ·intro w' hSw;go_simp;all_goals with_reducible rfl
  (try simp only [Act.put,ar,ag]);refine Tk.r1 16 fun K hK=> ?_;go_simp;refine hK.out _ _ trivial (fun hHeld=> ?_);clear hK K;refine Tk.r1 17 fun K hK=> ?_;go_simp;go_wp2_with(go_at_call 179;(with_reducible refine(c _ (bad1 _ _) ?_).mono ?_);exact(plc4 w2 _ Q 5 6 7 8).drew;intro e w5 hN5;obtain⟨rfl,_⟩:=id hN5)
  refine hK.out _ _ trivial (fun hHeld=> ?_);clear hK K;refine wpAnyH_take (i:=18) (oi:=_) (v:= ?_) rfl (by kernel_rfl) (by kernel_rfl) (by kernel_rfl) (fun _ _ _ h=>h) (Or.inl ⟨by rfl,?_⟩) trivial ?_;rotate_left
  ·intro w' hSw;go_simp;all_goals with_reducible rfl
  (try simp only [Act.put,ar,ag]);refine wpAnyH_take (i:=19) (oi:=_) (v:= ?_) rfl (by kernel_rfl) (by kernel_rfl) (by kernel_rfl) (fun _ _ _ h=>h) (Or.inl ⟨by rfl,?_⟩) trivial ?_;rotate_left
  ·intro w' hSw;go_simp;all_goals with_reducible rfl
  (try simp only [Act.put,ar,ag]);refine wpAnyH_done (by kernel_rfl) ?_ _;go_wp2;go_ret;rw [HZ.out];exact(hN5.line HS2.out rfl (by decide) (by simp) (fun q=>({ p with tl:=q.1,bk:=q.2.1,af:=q.2.2.1,sh:=q.2.2.2 } :Pd)) (fun a b c d=>by simp [setAll])).from (hb2.mono hNn)
 ·have he:(x==[114,101,115,116])=false:=by rw [beq_eq_false_iff_ne];exact hw
  have HZ:Hid (z=none):=by
   unfold Hid;rw [hz,hp];show(line1 (x::r) p).map _=none;unfold line1;dsimp only;rw [if_neg hw];rfl
  clear hx hno hS hz hp hw;go_enter func132,ntmps132;go_wp2_with(first|(go_at_call 22;(with_reducible refine c0.mono ?_);rintro e w1 ⟨rfl,cx,hW,hb1⟩))
  go_quiet (fail)
  have hb2:Below w.heap.size w (w1.drewN nq):=Pie.below_drewN hb1 nq;have hW2:TxAt (w1.drewN nq) w.heap.size o2 r:=hW;generalize w1.drewN nq=w2 at*;clear cx hW hb1 c0;go_wp2_with fail
  go_region
  go_wp2;go_ret;rw [HZ.out];exact⟨rfl,(hb2.mono hNn).drew⟩

theorem pln2 (rd:List UInt8→Option K) (text:List UInt8) (N Q:Nat) (p:Pd) (ts:List Tr) (v:Value) (w:World) (hS:PS w 171 N Q p ts v) (ht:text.length≤2048):
  Calls prog 132 #[.pointer (some ⟨Q,0,none⟩),.int .i64 3,strV text] w fun e w'=>LineR 171 N Q w (lineS rd 2 (p,ts) (pieces 32 text)) e w':=by
 obtain⟨x,r,n,o2,hp,hr,hn1,hn2,hx,hno,hif,c0⟩:=words_any text w ht;obtain⟨z,hz⟩: ∃z,z=lineS rd 2 (p,ts) (pieces 32 text):=⟨_,rfl⟩
 rw [←hz];have hQl:=hS.lt;have hNn:=hS.nN;have HS:=zh hS;by_cases hw:x=wUp
 ·subst hw;have HZ:Hid (z=(four r).map fun q=>(({ p with uw:=q.1,up:=q.2.1,uc:=q.2.2.1,ue:=q.2.2.2 } :Pd),ts)):=by
   unfold Hid;rw [hz,hp];show(line2 (wUp::r) p).map _=_;unfold line2;dsimp only;rw [if_pos rfl,Option.map_map];rfl
  have HX:Hid (∀y∈r,y.length≤3000):=fun y hy=>hx y (Xy _ hy);clear hx hno hS hz hp;go_enter func132,ntmps132;go_wp2_with(first|(go_at_call 22;(with_reducible refine c0.mono ?_);rintro e w1 ⟨rfl,cx,hW,hb1⟩))
  go_quiet (fail)
  have hb2:Below w.heap.size w (w1.drewN nq):=Pie.below_drewN hb1 nq;have hW2:TxAt (w1.drewN nq) w.heap.size o2 r:=hW;generalize w1.drewN nq=w2 at*;clear cx hW hb1 c0;have hS2:=HS.out.below hb2;have hne:w.heap.size≠Q:=by omega
  have c:=fun w1 (hb:Below w2.heap.size w2 w1)=>(ppace_any r w.heap.size o2 (n-1) Q 9 w1 (hW2.below hb hW2.1) hne ((hS2.room (by simp)).below hb) (by omega) HX.out).mono fun e w' h=>h.from hb hS2.lt;rw [hr]at c;have HS2:=zh hS2;clear hW2 hS2;go_wp2_with(go_at_call 180;(with_reducible refine(c _ (Below.refl _ _)).mono ?_);intro e w5 hN5;obtain⟨rfl,_⟩:=id hN5)
  go_ret;rw [HZ.out];exact(hN5.line HS2.out rfl (by simp) (by simp) (fun q=>({ p with uw:=q.1,up:=q.2.1,uc:=q.2.2.1,ue:=q.2.2.2 } :Pd)) (fun a b c d=>by simp [setAll])).from (hb2.mono hNn)
 ·have he:(x==[117,112])=false:=by rw [beq_eq_false_iff_ne];exact hw
  have HZ:Hid (z=none):=by
   unfold Hid;rw [hz,hp];show(line2 (x::r) p).map _=none;unfold line2;dsimp only;rw [if_neg hw];rfl
  clear hx hno hS hz hp hw;go_enter func132,ntmps132;go_wp2_with(first|(go_at_call 22;(with_reducible refine c0.mono ?_);rintro e w1 ⟨rfl,cx,hW,hb1⟩))
  go_quiet (fail)
  have hb2:Below w.heap.size w (w1.drewN nq):=Pie.below_drewN hb1 nq;have hW2:TxAt (w1.drewN nq) w.heap.size o2 r:=hW;generalize w1.drewN nq=w2 at*;clear cx hW hb1 c0;go_wp2;go_ret;rw [HZ.out];exact⟨rfl,hb2.mono hNn⟩
theorem pln3 (rd:List UInt8→Option K) (text:List UInt8) (N Q:Nat) (p:Pd) (ts:List Tr) (v:Value) (w:World) (hS:PS w 171 N Q p ts v) (ht:text.length≤2048):
  Calls prog 132 #[.pointer (some ⟨Q,0,none⟩),.int .i64 4,strV text] w fun e w'=>LineR 171 N Q w (lineS rd 3 (p,ts) (pieces 32 text)) e w':=by
 obtain⟨x,r,n,o2,hp,hr,hn1,hn2,hx,hno,hif,c0⟩:=words_any text w ht;obtain⟨z,hz⟩: ∃z,z=lineS rd 3 (p,ts) (pieces 32 text):=⟨_,rfl⟩
 rw [←hz];have hQl:=hS.lt;have hNn:=hS.nN;have HS:=zh hS;by_cases hw:x=wDown
 ·subst hw;have HZ:Hid (z=(four r).map fun q=>(({ p with dw:=q.1,dp:=q.2.1,dc:=q.2.2.1,de:=q.2.2.2 } :Pd),ts)):=by
   unfold Hid;rw [hz,hp];show(line3 (wDown::r) p).map _=_;unfold line3;dsimp only;rw [if_pos rfl,Option.map_map];rfl
  have HX:Hid (∀y∈r,y.length≤3000):=fun y hy=>hx y (Xy _ hy);clear hx hno hS hz hp;go_enter func132,ntmps132;go_wp2_with(first|(go_at_call 22;(with_reducible refine c0.mono ?_);rintro e w1 ⟨rfl,cx,hW,hb1⟩))
  go_quiet (fail)
  have hb2:Below w.heap.size w (w1.drewN nq):=Pie.below_drewN hb1 nq;have hW2:TxAt (w1.drewN nq) w.heap.size o2 r:=hW;generalize w1.drewN nq=w2 at*;clear cx hW hb1 c0;have hS2:=HS.out.below hb2;have hne:w.heap.size≠Q:=by omega
  have c:=fun w1 (hb:Below w2.heap.size w2 w1)=>(ppace_any r w.heap.size o2 (n-1) Q 13 w1 (hW2.below hb hW2.1) hne ((hS2.room (by simp)).below hb) (by omega) HX.out).mono fun e w' h=>h.from hb hS2.lt;rw [hr]at c;have HS2:=zh hS2;clear hW2 hS2;go_wp2_with(go_at_call 180;(with_reducible refine(c _ (Below.refl _ _)).mono ?_);intro e w5 hN5;obtain⟨rfl,_⟩:=id hN5)
  go_ret;rw [HZ.out];exact(hN5.line HS2.out rfl (by simp) (by simp) (fun q=>({ p with dw:=q.1,dp:=q.2.1,dc:=q.2.2.1,de:=q.2.2.2 } :Pd)) (fun a b c d=>by simp [setAll])).from (hb2.mono hNn)
 ·have he:(x==[100,111,119,110])=false:=by rw [beq_eq_false_iff_ne];exact hw
  have HZ:Hid (z=none):=by
   unfold Hid;rw [hz,hp];show(line3 (x::r) p).map _=none;unfold line3;dsimp only;rw [if_neg hw];rfl
  clear hx hno hS hz hp hw;go_enter func132,ntmps132;go_wp2_with(first|(go_at_call 22;(with_reducible refine c0.mono ?_);rintro e w1 ⟨rfl,cx,hW,hb1⟩))
  go_quiet (fail)
  have hb2:Below w.heap.size w (w1.drewN nq):=Pie.below_drewN hb1 nq;have hW2:TxAt (w1.drewN nq) w.heap.size o2 r:=hW;generalize w1.drewN nq=w2 at*;clear cx hW hb1 c0;go_wp2;go_ret;rw [HZ.out];exact⟨rfl,hb2.mono hNn⟩
set_option linter.unusedSimpArgs false

theorem step_own_at {P:Program} {o:Oper} {K:Act→World→Prop} {E:Prop}
  (hg:o.guard=none) (s x:Operand) (t:TypeId) (hop:o.op=Op.call { callee:=Callee.builtin Builtin.append,args:=#[s,x],argTypes:=#[t,t] })
  (base:Nat) (e:TypeId) (i:TypeInfo) (z:Value) (size bytes:Nat) (h1:P.underlying t=some (.slice e)) (h2:P.info? e=some i) (h3:i.zero=some z) (h4:i.size=size) (h5:i.bytes=bytes) (h6:z.cells.size=size) (h7:0<size)
  (v:Value) (n:Nat) (xs:List Value) (hs:a.eval s=v) (hown:w.ownsRow base e size v n xs)
  (ad:Addr) (m c:Nat) (news:List Value) (hx:a.eval x=.slice (some ad) m c) (hn:news.length=m*size) (hc: ∀j u,news[j]? =some u→w.cell? (ad.add j)=some u) (h1c: ∀u∈news,u.oneCell'=true)
  (b1:n+m≤maxLen) (b2:(n+m)*bytes≤140737488355328) (hb:base≤w.heap.size)
  (hK: ∀v' w',w'.ownsRow base e size v' (n+m) (xs++news)→w.grownBy w' v.ownBlock→(v'.ownBlock=v.ownBlock∨v'.ownBlock=some w.heap.size)→K (a.put o.dst v') w'):
  if Region.wanted o (yielded ops a.tmps)=true then Oper.wp P o a w K Q else E:=by
 have hw:Region.wanted o (yielded ops a.tmps)=true:=by simp [Region.wanted,hg]
 rw [if_pos hw];obtain⟨v',w',hr,g2,g3,_,g5⟩:=run_append_own_at (P:=P) w base t o.type e i z size bytes h1 h2 h3 h4 h5 h6 h7 v n xs hown ad m c news hn hc h1c b1 b2 hb;unfold Oper.wp execOp;simp only [hop,resolve,invoke,builtin,XX,X8,X9,Ym,XV,X5,hs,hx,hr];exact hK v' w' g2 g3 g5
theorem info_trg:(prog.info? 171).map (fun i=>(i.zero,i.size,i.bytes))=some (some (.agg #[.int .i64 0,.int .i64 0,.int .i64 0,.int .u64 0,.int .u64 0,.int .u64 0,.int .u64 0,.int .u64 0,.bool false,.bool false,.int .u64 0,.int .u64 0,.int .u64 0,.int .u64 0,.int .u64 0,.bool false,.bool false]),17,120):=by kernel_rfl
def RgT (w:World) (T:Nat) (t:Tr):Prop:=w.rangeAt T 0 [.int .i64 t.k,.int .i64 t.tg,.int .i64 t.ac,.int .u64 t.a.mi,.int .u64 t.a.ho,.int .u64 t.a.da,.int .u64 t.a.mn,.int .u64 t.a.we,.bool t.a.ad,.bool t.a.aw,.int .u64 t.b.mi,.int .u64 t.b.ho,.int .u64 t.b.da,.int .u64 t.b.mn,.int .u64 t.b.we,.bool t.b.ad,.bool t.b.aw]
theorem RgT.alloc {w:World} {T:Nat} {t:Tr} (h:RgT w T t) (o:Obj):RgT (w.alloc o) T t:=World.rangeAt_alloc h o
theorem RgT.kept (h:RgT w T t) (hb:w'.heap[T]? =w.heap[T]?):RgT w' T t:=fun j v hv=>(Xf (w:=w) (a:=⟨T,0+j,none⟩) hb).trans (h j v hv)
theorem own_succT {xs:List Value} (h:w.ownsRow B e 17 v (n+1) xs): ∃g cap,v=.slice (some ⟨g,0,none⟩) (n+1) cap:=by
 rcases h.2 with⟨_,h⟩|⟨g3,cap3,_,h,_⟩
 ·omega
 ·exact⟨g3,cap3,h⟩
theorem cell17 (w:World) (e:TypeId) (t:Tr): ∀(j:Nat) (u:Value),(trC t).toList[j]? =some u→(w.alloc (.cells (trC t) e)).cell? ((⟨w.heap.size,0,none⟩:Addr).add j)=some u:=by
 intro j u h;rw [Addr.add_mid,Xv,Yl _ _ _ _ rfl];simpa using h
theorem one17 (t:Tr): ∀u∈(trC t).toList,u.oneCell'=true:=by
 intro u hu;simp at hu;rcases hu with rfl|rfl|rfl|rfl|rfl|rfl|rfl|rfl|rfl|rfl|rfl|rfl|rfl|rfl|rfl|rfl|rfl<;>rfl
theorem pln4 (hrd:RdOk rd) (i:Nat) (hi:4≤i) (hi2:i≤10000) (text:List UInt8) (N Q:Nat) (p:Pd) (ts:List Tr) (v:Value) (w:World) (hS:PS w 171 N Q p ts v) (hB:BdsAt w) (hM:MlAt w) (ht:text.length≤2048) (hts:ts.length≤10000):
  Calls prog 132 #[.pointer (some ⟨Q,0,none⟩),.int .i64 ((i:Int)+1),strV text] w fun e w'=>LineR 171 N Q w (lineS rd i (p,ts) (pieces 32 text)) e w':=by
 obtain⟨i0,hi0,hz0,hz1,hz2⟩:=info_parts info_trg;obtain⟨x,r,n,o2,hp,hr,hn1,hn2,hx,hno,hif,c0⟩:=words_any text w ht;obtain⟨z,hz⟩: ∃z,z=lineS rd i (p,ts) (pieces 32 text):=⟨_,rfl⟩
 rw [←hz];have hQl:=hS.lt;have hNn:=hS.nN;have HS:=zh hS;have HX:Hid (∀y∈r,y.length≤3000):=fun y hy=>hx y (Xy _ hy);have HZ:Hid (z=(trS rd x r).map fun t=>(p,ts++ [t])):=by
  unfold Hid;rw [hz,hp];unfold lineS;rw [if_neg (by omega),if_neg (by omega),if_neg (by omega),if_neg (by omega)];rfl
 have HNo:=zh hno;have HB:Hid (BdsAt w∧MlAt w):=⟨hB,hM⟩
 have n1:(((i:Int)+1)==1)=false:=by rw [beq_eq_false_iff_ne];omega
 have n2:(((i:Int)+1)==2)=false:=by rw [beq_eq_false_iff_ne];omega
 have n3:(((i:Int)+1)==3)=false:=by rw [beq_eq_false_iff_ne];omega
 have n4:(((i:Int)+1)==4)=false:=by rw [beq_eq_false_iff_ne];omega
 clear hx hno hS hz hp hB hM hi;go_enter func132,ntmps132;go_wp2_with(first|(go_at_call 22;(with_reducible refine c0.mono ?_);rintro e w1 ⟨rfl,cx,hW,hb1⟩))
 go_quiet (fail)
 have hb2:Below w.heap.size w (w1.drewN nq):=Pie.below_drewN hb1 nq;have hW2:TxAt (w1.drewN nq) w.heap.size o2 r:=hW;generalize w1.drewN nq=w2 at*;clear cx hW hb1 c0;have hS2:=HS.out.below hb2;have c:=ptrig_any hrd x r w.heap.size o2 (n-1) w2 hW2 (HB.out.1.below hb2 (Xa _)) (HB.out.2.below hb2 (Xa _)) (by omega) (by omega) HX.out HNo.out;rw [hr]at c;clear hW2;have HS2:=zh hS2;clear hS2;generalize trS rd x r=y at*;obtain⟨o,ho⟩: ∃o:Bool,o=y.isSome:=⟨_,rfl⟩
 have c':Calls prog 181 #[strV x,.slice (some ⟨w.heap.size,o2,none⟩) (n-1) (n-1)] w2 fun e w'=>(∃t,e=.returned (.tuple #[trV t,.bool o])∧ ∀q,y=some q→q=t)∧Below w2.heap.size w2 w':=c.mono fun e w' h=>by
  refine⟨?_,h.2⟩;subst ho;cases y with
  |none=>obtain⟨t,ht⟩:=h.1;exact⟨t,ht,fun q hq=>by cases hq⟩
  |some q=>exact⟨q,h.1,fun q' hq=>by cases hq;rfl⟩
 have HO:=zh ho;clear c ho;go_wp2_with(go_at_call 181;(with_reducible refine c'.mono ?_);rintro e w3 ⟨⟨t,rfl,hq⟩,hb3⟩)
 have hs3:=hb3.size;have hs2:=hb2.size;have hS3:=HS2.out.below hb3;have hvl: ∀g,v.ownBlock=some g→g<w3.heap.size:=fun g hg=>(hS3.own.lt g hg).2;have hS4:=hS3.below (balloc (.cells (trC t) 171));have hb4:Below N w (w3.alloc (.cells (trC t) 171)):=((hb2.mono hNn).trans (hb3.mono (Xc hNn hb2.size))).trans ((balloc _).mono (Xc hNn (Xc hb2.size hs3)));have hT4:=TS.new w3 171 t;generalize hw4:w3.alloc (.cells (trC t) 171)=w4 at*;have hz4:w4.heap.size=w3.heap.size+1:=by rw [←hw4];simp
 clear hw4 hS3 hz4;have hTl:=hT4.lt;have hR0:RgT w4 w3.heap.size t:=range_tr hT4.at;have hR4:RgT w4.drew w3.heap.size t:=hR0;have cS:w4.cell? ⟨Q,17,none⟩=some v:=by simpa using hS4.cel 17
 have hQ4l:Q<w4.heap.size:=hS4.lt;have hQ4n: ¬Q=w4.heap.size:=by omega
 have HS4:=zh hS4;have HB4:=zh hb4;have HV:=zh hvl;have HHq:=zh hq;clear hS4 hb4 hT4 hvl hq c' HS2 HS HX HNo HB;refine wp_region_held_drew (S:=fun w'=>RgT w' w3.heap.size t) (by kernel_rfl) hR4 (fun hHeld=> ?_);refine wpAnyH_take (i:=0) (oi:=_) (v:= ?_) rfl (by kernel_rfl) (by kernel_rfl) (by kernel_rfl) (fun _ _ _ h=>h) (Or.inl ⟨by rfl,?_⟩) (by assumption) ?_;rotate_left
 ·intro w' hSw;go_simp;all_goals with_reducible rfl
 (try simp only [Act.put,ar,ag]);refine wpAnyH_take (i:=1) (oi:=_) (v:= ?_) rfl (by kernel_rfl) (by kernel_rfl) (by kernel_rfl) (fun _ _ _ h=>h) (Or.inl ⟨by rfl,?_⟩) (by assumption) ?_;rotate_left
 ·intro w' hSw;go_simp;all_goals with_reducible rfl
 (try simp only [Act.put,ar,ag]);refine wpAnyH_take (i:=2) (oi:=_) (v:= ?_) rfl (by kernel_rfl) (by kernel_rfl) (by kernel_rfl) (fun _ _ _ h=>h) (Or.inl ⟨by rfl,?_⟩) (by assumption) ?_;rotate_left
 ·intro w' hSw;go_simp;all_goals with_reducible rfl
 (try simp only [Act.put,ar,ag]);refine wpAnyH_take (i:=3) (oi:=_) (v:= ?_) rfl (by kernel_rfl) (by kernel_rfl) (by kernel_rfl) (fun _ _ _ h=>h) (Or.inl ⟨by rfl,?_⟩) (by assumption) ?_;rotate_left
 ·intro w' hSw;go_simp;all_goals with_reducible rfl
 (try simp only [Act.put,ar,ag]);refine Tk.gi 5 (v:=trV t) ?_ (hy:=yieldsIf_load_mid (by rfl) 171 (.tmp 10) rfl w3.heap.size 0 (by with_unfolding_all rfl) [.int .i64 t.k,.int .i64 t.tg,.int .i64 t.ac,.int .u64 t.a.mi,.int .u64 t.a.ho,.int .u64 t.a.da,.int .u64 t.a.mn,.int .u64 t.a.we,.bool t.a.ad,.bool t.a.aw,.int .u64 t.b.mi,.int .u64 t.b.ho,.int .u64 t.b.da,.int .u64 t.b.mn,.int .u64 t.b.we,.bool t.b.ad,.bool t.b.aw] _ (fun w h=>h) underlying171 rfl (by kernel_rfl));(try simp only [Act.put,ar,ag]);refine wpAnyH_ready (rs:=[4,6]) (by kernel_rfl) (by simp) ?_;refine AllReadyH.cons rfl (fun K hK=> ?_) (AllReadyH.cons rfl (fun K hK=> ?_) AllReadyH.nil)
 ·go_simp;refine hK.out _ _ ?_ (fun hHeld=> ?_)
  ·exact hR4
  clear hK K;refine Tk.r1 6 fun K hK=> ?_
  ·go_simp;refine hK.out _ _ ?_ (fun hHeld=> ?_)
   ·first|exact RgT.alloc hR4 _|exact RgT.alloc hR0 _
   clear hK K;have hS6:PS (w4.alloc (.cells (trC t) 171)).drew 171 N Q p ts v:=HS4.out.below (bad1 w4 _);have hown6:=hS6.own;refine Tk.r1 7 fun K hK=> ?_
   ·refine step_own_at rfl (.tmp 82) (.tmp 84) 109 rfl N 171 i0 (.agg #[.int .i64 0,.int .i64 0,.int .i64 0,.int .u64 0,.int .u64 0,.int .u64 0,.int .u64 0,.int .u64 0,.bool false,.bool false,.int .u64 0,.int .u64 0,.int .u64 0,.int .u64 0,.int .u64 0,.bool false,.bool false]) 17 120 underlying109 hi0 hz0 hz1 hz2 rfl (by decide) v ts.length (celT ts) rfl hown6 ⟨w4.heap.size,0,none⟩ 1 1 (trC t).toList rfl rfl (cell17 _ _ t) (one17 t) (by unfold maxLen;omega) (by omega) (by simp;omega) ?_;intro v' w7 hown7 hgrow7 hloc7;have hR7:RgT w7 w3.heap.size t:=RgT.kept (w:=(w4.alloc (.cells (trC t) 171)).drew) (RgT.alloc hR0 _) (hgrow7.block w3.heap.size (by simp;omega) (fun e=>by have:=HV.out _ e.symm;omega));have hQ7:=hgrow7.block Q hS6.lt (fun e=>hS6.ne e.symm);have cS7:w7.cell? ⟨Q,17,none⟩=some v:=(Xf (w:=(w4.alloc (.cells (trC t) 171)).drew) (a:=⟨Q,17,none⟩) hQ7).trans (by simpa using hS6.cel 17);have fS7:w7.frozen? ⟨Q,17,none⟩=false:=(Xl (w:=(w4.alloc (.cells (trC t) 171)).drew) (a:=⟨Q,17,none⟩) hQ7).trans (hS6.fz 17);have hA8:=hS6.appended hgrow7 (ts':=ts++ [t]) (by rw [Xg,celT_snoc];exact hown7) hloc7;have hBf:=(HB4.out.trans ((bad1 w4 (.cells (trC t) 171)).mono HS4.out.nN)).trans (hS6.grown_below hgrow7 v');obtain⟨g7,cap7,rfl⟩:=own_succT hown7;have hQ7l:Q<w7.heap.size:=by have:=hA8.lt;simpa using this
    refine hK.out _ _ ?_ (fun hHeld=> ?_)
    ·exact hR7
    clear hK K;refine wpAnyH_take (i:=8) (oi:=_) (v:= ?_) rfl (by kernel_rfl) (by kernel_rfl) (by kernel_rfl) (fun _ _ _ h=>h) (Or.inl ⟨by rfl,?_⟩) (by assumption) ?_;rotate_left
    ·intro w' hSw;go_simp;all_goals with_reducible rfl
    (try simp only [Act.put,ar,ag]);refine wpAnyH_take (i:=9) (oi:=_) (v:= ?_) rfl (by kernel_rfl) (by kernel_rfl) (by kernel_rfl) (fun _ _ _ h=>h) (Or.inl ⟨by rfl,?_⟩) (by assumption) ?_;rotate_left
    ·intro w' hSw;go_simp;all_goals with_reducible rfl
    (try simp only [Act.put,ar,ag]);refine Tk.r1 10 fun K hK=> ?_
    ·go_simp;refine hK.out _ _ ?_ (fun hHeld=> ?_)
     ·exact hR7.kept (Below.heap_setCell w7 ⟨Q,17,none⟩ _ w3.heap.size (by show w3.heap.size≠Q;omega))
     clear hK K;refine wpAnyH_done (by kernel_rfl) ?_ _;go_wp2;go_ret;rw [HZ.out,HO.out];cases y with
     |none=>exact⟨rfl,hBf⟩
     |some q=>
      obtain rfl:=HHq.out q rfl;exact⟨rfl,hBf,_,hA8⟩
 ·go_simp;refine hK.out _ _ ?_ (fun hHeld=> ?_)
  ·first|exact RgT.alloc hR4 _|exact RgT.alloc hR0 _
  clear hK K;refine Tk.r1 4 fun K hK=> ?_
  ·go_simp;refine hK.out _ _ ?_ (fun hHeld=> ?_)
   ·first|exact RgT.alloc hR4 _|exact RgT.alloc hR0 _
   clear hK K;have hS6:PS (w4.alloc (.cells (trC t) 171)).drew 171 N Q p ts v:=HS4.out.below (bad1 w4 _);have hown6:=hS6.own;refine Tk.r1 7 fun K hK=> ?_
   ·refine step_own_at rfl (.tmp 82) (.tmp 84) 109 rfl N 171 i0 (.agg #[.int .i64 0,.int .i64 0,.int .i64 0,.int .u64 0,.int .u64 0,.int .u64 0,.int .u64 0,.int .u64 0,.bool false,.bool false,.int .u64 0,.int .u64 0,.int .u64 0,.int .u64 0,.int .u64 0,.bool false,.bool false]) 17 120 underlying109 hi0 hz0 hz1 hz2 rfl (by decide) v ts.length (celT ts) rfl hown6 ⟨w4.heap.size,0,none⟩ 1 1 (trC t).toList rfl rfl (cell17 _ _ t) (one17 t) (by unfold maxLen;omega) (by omega) (by simp;omega) ?_;intro v' w7 hown7 hgrow7 hloc7;have hR7:RgT w7 w3.heap.size t:=RgT.kept (w:=(w4.alloc (.cells (trC t) 171)).drew) (RgT.alloc hR0 _) (hgrow7.block w3.heap.size (by simp;omega) (fun e=>by have:=HV.out _ e.symm;omega));have hQ7:=hgrow7.block Q hS6.lt (fun e=>hS6.ne e.symm);have cS7:w7.cell? ⟨Q,17,none⟩=some v:=(Xf (w:=(w4.alloc (.cells (trC t) 171)).drew) (a:=⟨Q,17,none⟩) hQ7).trans (by simpa using hS6.cel 17);have fS7:w7.frozen? ⟨Q,17,none⟩=false:=(Xl (w:=(w4.alloc (.cells (trC t) 171)).drew) (a:=⟨Q,17,none⟩) hQ7).trans (hS6.fz 17);have hA8:=hS6.appended hgrow7 (ts':=ts++ [t]) (by rw [Xg,celT_snoc];exact hown7) hloc7;have hBf:=(HB4.out.trans ((bad1 w4 (.cells (trC t) 171)).mono HS4.out.nN)).trans (hS6.grown_below hgrow7 v');obtain⟨g7,cap7,rfl⟩:=own_succT hown7;have hQ7l:Q<w7.heap.size:=by have:=hA8.lt;simpa using this
    refine hK.out _ _ ?_ (fun hHeld=> ?_)
    ·exact hR7
    clear hK K;refine wpAnyH_take (i:=8) (oi:=_) (v:= ?_) rfl (by kernel_rfl) (by kernel_rfl) (by kernel_rfl) (fun _ _ _ h=>h) (Or.inl ⟨by rfl,?_⟩) (by assumption) ?_;rotate_left
    ·intro w' hSw;go_simp;all_goals with_reducible rfl
    (try simp only [Act.put,ar,ag]);refine wpAnyH_take (i:=9) (oi:=_) (v:= ?_) rfl (by kernel_rfl) (by kernel_rfl) (by kernel_rfl) (fun _ _ _ h=>h) (Or.inl ⟨by rfl,?_⟩) (by assumption) ?_;rotate_left
    ·intro w' hSw;go_simp;all_goals with_reducible rfl
    (try simp only [Act.put,ar,ag]);refine Tk.r1 10 fun K hK=> ?_
    ·go_simp;refine hK.out _ _ ?_ (fun hHeld=> ?_)
     ·exact hR7.kept (Below.heap_setCell w7 ⟨Q,17,none⟩ _ w3.heap.size (by show w3.heap.size≠Q;omega))
     clear hK K;refine wpAnyH_done (by kernel_rfl) ?_ _;go_wp2;go_ret;rw [HZ.out,HO.out];cases y with
     |none=>exact⟨rfl,hBf⟩
     |some q=>
      obtain rfl:=HHq.out q rfl;exact⟨rfl,hBf,_,hA8⟩

theorem pln_any (hrd:RdOk rd) (i:Nat) (hi2:i≤10000) (text:List UInt8) (N Q:Nat) (p:Pd) (ts:List Tr) (v:Value) (w:World) (hS:PS w 171 N Q p ts v) (hB:BdsAt w) (hM:MlAt w) (ht:text.length≤2048) (hts:ts.length≤10000):
  Calls prog 132 #[.pointer (some ⟨Q,0,none⟩),.int .i64 ((i:Int)+1),strV text] w fun e w'=>LineR 171 N Q w (lineS rd i (p,ts) (pieces 32 text)) e w':=by
 match i with
 |0=>exact pln0 rd text N Q p ts v w hS ht
 |1=>exact pln1 rd text N Q p ts v w hS ht
 |2=>exact pln2 rd text N Q p ts v w hS ht
 |3=>exact pln3 rd text N Q p ts v w hS ht
 |i+4=>exact pln4 hrd (i+4) (by omega) hi2 text N Q p ts v w hS hB hM ht hts
theorem PS.plat {Q:Nat} (h:PS w e N Q p ts v):PlAt w Q p v:=PlAt.of h.cel
theorem PS.other {Q:Nat} (h:PS w e N Q p ts v) (o:OnlyQ R w w') (hR:R<N):PS w' e N Q p ts v:=by
 have hQ:w'.heap[Q]? =w.heap[Q]? :=o.block Q h.lt (by have:=h.bQ;omega);exact⟨Xb h.lt o.size,h.bQ,fun j=>(Xf (w:=w) (a:=⟨Q,j,none⟩) hQ).trans (h.cel j),fun j=>(Xl (w:=w) (a:=⟨Q,j,none⟩) hQ).trans (h.fz j),owns_blockT h.own (fun g hg=>o.block g (h.own.lt g hg).2 (by have:=(h.own.lt g hg).1;omega)),h.ne⟩
structure BX (w:World) (R:Nat) (p:Pd) (v:Value):Prop where
 lt:R<w.heap.size
 cel: ∀o,w.cell? ⟨R,o,none⟩=(planC p v)[o]?
 fz: ∀o,w.frozen? ⟨R,o,none⟩=false
theorem BX.below (h:BX w R p v) (hb:Below n w w') (hn:R<n):BX w' R p v:=
 ⟨Xb h.lt hb.size,fun o=>(Xf (w:=w) (a:=⟨R,o,none⟩) (hb.block R hn)).trans (h.cel o),fun o=>(Xl (w:=w) (a:=⟨R,o,none⟩) (hb.block R hn)).trans (h.fz o)⟩
theorem BX.again (h:BX w R p v):BX (w.setCells R 0 (planC p' v').toList) R p' v':=by
 have o:=OnlyQ.sets R (planC p' v').toList w 0;refine⟨Xb h.lt o.size,?_,fun j=>(o.fz j).trans (h.fz j)⟩;have e:setRow (planC p v) 0 (planC p' v').toList=planC p' v':=by simp [setRow]
 have:=cells_sets (planC p' v').toList 0 h.cel (by simp);rw [e]at this;exact this
theorem wp_setPl {rest:List Oper} (h:BX w R p v) (hv:v'.oneCell'=true) (hx:A.eval x=.pointer (some ⟨R,0,none⟩)) (hy:A.eval y=planV p' v')
  (g: ∀w',BX w' R p' v'→OnlyQ R w w'→wpList prog ops Q rest (A.put none undef) w'):
  wpList prog ops Q ({ dst:=none,op:=.store 111 x y,type:=0,pos:=ps,after:=af,guard:=none } ::rest) A w:=
 wpList_store_mid rfl 111 x y rfl R 0 (planC p' v') hx hy (fun j hj=>⟨by rw [h.cel];simp at hj⊢;omega,h.fz _⟩) (by kernel_rfl) (by simp [Value.oneCell'];exact hv) (g _ h.again (OnlyQ.sets R _ _ _))
theorem results_cell2 {fn:Func} {p u x:Tmp} {ty:TypeId} (h:fn.results=#[.cell p ty,.tmp u,.tmp x]) (tmps:Array Value) (P:Program) (w:World):
  (results fn tmps).run P w=((asAddr (tmps.getD p undef)).run P w).andThen fun a w₁=>((loadVar ty a).run P w₁).andThen fun v w₂=> .ok (.tuple #[v,tmps.getD u undef,tmps.getD x undef]) w₂:=by
 simp only [results,h];simp [XX,Result.andThen]
theorem finPl {n E:Int} (hp:a.tmps[2]? =some (.pointer (some ⟨R,0,none⟩))) (h3:a.tmps[3]? =some (.int .i64 n)) (h4:a.tmps[4]? =some (.int .i64 E)) (ha:a.defers=[]) (hX:BX Wf R p v) (hA:PlanR rd s (.returned (.tuple #[planV p v,.int .i64 n,.int .i64 E])) Wf) (hb:Below w.heap.size w Wf):
  bodyPost prog f91 (fun e w'=>PlanR rd s e w'∧Below w.heap.size w w') Exit.ret a Wf:=by
 refine bodyPost_ret (v:=.tuple #[planV p v,.int .i64 n,.int .i64 E]) ?_ ha ⟨hA,hb⟩;have e2:a.tmps.getD 2 undef=.pointer (some ⟨R,0,none⟩):=by rw [Yi,hp];rfl
 have e3:a.tmps.getD 3 undef=.int .i64 n:=by rw [Yi,h3];rfl
 have e4:a.tmps.getD 4 undef=.int .i64 E:=by rw [Yi,h4];rfl
 rw [results_cell2 results91,e2,e3,e4];have hl:=run_loadVar_mid (P:=prog) Wf R 0 111 _ _ (range_plan (PlAt.of hX.cel)) underlying111 rfl (by kernel_rfl);simp only [asAddr,X8,X9,hl]
def PaR (rd:List UInt8→Option K) (s:List UInt8) (w w1:World) (sv lv:Value) (wr:World):Prop:=
 ∃(i:Nat) (p:Pd) (ts:List Tr) (s':List UInt8) (v:Value),sv=strV s'∧lv=.int .i64 ((i:Int)+1)∧readL rd 0 (p0,[]) (pieces 10 s)=readL rd i (p,ts) (pieces 10 s')∧s'.length+i≤s.length∧ts.length≤i∧GoodP p∧PS wr 171 (w.heap.size+1) (w.heap.size+1) p ts v∧Below (w.heap.size+1) w1 wr
def strLen:Value→Nat
 | .string b=>b.size
 |_=>0
theorem parse_large (rd:List UInt8→Option K) (s:List UInt8) (w:World) (h:2048<s.length) (h2:s.length≤9223372036854775807):
  Calls prog 91 #[strV s] w fun e w'=>PlanR rd s e w'∧Below w.heap.size w w':=by
 have hsz:(⟨s.toArray⟩:ByteArray).size=s.length:=rfl;have h1:(2048:Int)<s.length:=by omega
 go_enter func91,ntmps91;go_wp2;exact finPl (R:=w.heap.size) (p:=p0) (v:=.slice none 0 0) rfl rfl rfl rfl ⟨by simp,fun o=>by simp [p0],fun o=>by simp⟩ (Or.inl ⟨h,rfl⟩) (balloc _)
theorem pa_start (rd:List UInt8→Option K) (s:List UInt8) (w:World) (ta:TypeId): ∃w1,w1=w.alloc (.cells #[.string ⟨#[]⟩,.int .i64 0,.int .i64 0,.int .i64 0,.int .i64 0,.int .i64 0,.int .i64 0,.int .i64 0,.int .i64 0,.int .i64 0,.int .i64 0,.int .i64 0,.int .i64 0,.int .i64 0,.int .i64 0,.int .i64 0,.int .i64 0,.slice none 0 0] ta)∧BX w1 w.heap.size p0 (.slice none 0 0)∧w1.heap.size=w.heap.size+1∧Below w.heap.size w w1∧PaR rd s w w1 (strV s) (.int .i64 1) (w1.alloc (.cells #[.string ⟨#[]⟩,.int .i64 0,.int .i64 0,.int .i64 0,.int .i64 0,.int .i64 0,.int .i64 0,.int .i64 0,.int .i64 0,.int .i64 0,.int .i64 0,.int .i64 0,.int .i64 0,.int .i64 0,.int .i64 0,.int .i64 0,.int .i64 0,.slice none 0 0] ta)):=by
 have hX:BX (w.alloc (.cells (planC p0 (.slice none 0 0)) ta)) w.heap.size p0 (.slice none 0 0):=⟨by simp,fun o=>by simp,fun o=>by simp⟩
 have hz:(w.alloc (.cells (planC p0 (.slice none 0 0)) ta)).heap.size=w.heap.size+1:=by simp
 refine⟨_,rfl,hX,hz,balloc _,0,p0,[],s,.slice none 0 0,rfl,rfl,rfl,by omega,Xa _,good0,?_,?_⟩
 ·have:=PS.new (w.alloc (.cells (planC p0 (.slice none 0 0)) ta)) 171 ta;rw [hz]at this;exact this
 ·have:=balloc (w:=w.alloc (.cells (planC p0 (.slice none 0 0)) ta)) (.cells (planC p0 (.slice none 0 0)) ta);rw [hz]at this;exact this

theorem parse_short (hrd:RdOk rd) (s:List UInt8) (w:World) (hB:BdsAt w) (hM:MlAt w) (h:s.length≤2048):
  Calls prog 91 #[strV s] w fun e w'=>PlanR rd s e w'∧Below w.heap.size w w':=by
 have hsz:(⟨s.toArray⟩:ByteArray).size=s.length:=rfl;have h1: ¬(2048:Int)<s.length:=by omega
 obtain⟨w1,hw1,hX1,hz1,hb1,hP1⟩:=pa_start rd s w 111;have HA:Hid (∀e w',ReadR (readL rd 0 (p0,[]) (pieces 10 s)) e w'→PlanR rd s e w'):=fun e w' g=>Or.inr ⟨h,g⟩;have HB:Hid (∀w',Below (w.heap.size+1) w1 w'→BdsAt w'∧MlAt w'):=fun w' g=>⟨(hB.below hb1 (Xa _)).below g (by omega),(hM.below hb1 (Xa _)).below g (by omega)⟩
 have HX:Hid (∀w',Below (w.heap.size+1) w1 w'→BX w' w.heap.size p0 (.slice none 0 0)):=fun w' g=>hX1.below g (by omega);have HW:Hid (∀w',Below (w.heap.size+1) w1 w'→Below w.heap.size w w'):=fun w' g=>hb1.trans (g.mono (by omega));have HP1:=zh hP1;clear hB hM hX1 hb1 hP1;go_enter func91,ntmps91;go_wp2;rw [←hw1];go_loopw [0,6] (fun sv lv wr=>PaR rd s w w1 sv lv wr) (fun sv _ _=>strLen sv)
 case atStart=>exact HP1.out
 case round=>
  clear HP1;obtain⟨i,p,ts,s',v,rfl,rfl,hrd',hlen,htl,hgp,hS,hbr⟩:=hrel;have hs':(⟨s'.toArray⟩:ByteArray).size=s'.length:=rfl;have hbl:=HX.out wr hbr;have hSN:=hS.nN;have hWs:w.heap.size≤wr.heap.size:=by omega
  have HS:=zh hS;have hgi:(i:Int)≤2048:=by omega
  by_cases hend:4≤i∧s'=[]
  ·obtain⟨h4,rfl⟩:=hend;have d1: ¬(i:Int)+1≤4:=by omega
   have HR:Hid (readL rd 0 (p0,[]) (pieces 10 s)=.inr (p,ts)):=hrd'.trans (readL_stop h4);obtain⟨ao,cap,rfl,hc1,hc2,hTr⟩:=hS.form;have cK:=check_any p ts ao cap wr (HB.out _ hbr).1 hgp.1 (by have:=hgp.2;omega) hTr;have hA:=hS.plat;clear hrd' hgp hTr hS;by_cases hE:chkP p ts=0
   ·rw [hE]at cK;have HE:=zh hE;clear hE
    go_wp2_with (first
     |(with_reducible refine wp_plan hA (by with_unfolding_all rfl) ?_)
     |(with_reducible refine wp_plan hA3 (by with_unfolding_all rfl) ?_)
     |((with_reducible refine wp_setPl (p':=p) (v':=.slice ao ts.length cap) hX3 rfl (by with_unfolding_all rfl) (by with_unfolding_all rfl) ?_);intro w5 hX5 hO5)
     |(go_at_call 92;(with_reducible refine zg cK fun w3 hb3=>?_);have hw3:Below (w.heap.size+1) w1 w3:=hbr.trans (hb3.mono hSN);have hX3:=HX.out _ hw3;have hA3:=(HS.out.below hb3).plat))
    have hWs3:=(HW.out _ hw3).size;have hS5:=(HS.out.below hb3).other hO5 (by omega);obtain⟨ao',cap',hv,hc1',hc2',hTr'⟩:=hS5.form;simp only [Value.slice.injEq]at hv;obtain⟨rfl,_,rfl⟩:=hv;exact finPl rfl rfl rfl rfl hX5 (HA.out _ _ (by rw [HR.out];exact Or.inr ⟨HE.out,_,_,rfl,hTr',hc1',hc2'⟩)) ((HW.out _ hw3).trans (hO5.below (Xa _) hWs3))
   ·have HE:=zh hE;generalize hEE:chkP p ts=E at cK;have HEE:=zh hEE;have hE2:(E !=0)=true:=by rw [bne_iff_ne];rw [←hEE];exact hE
    have hE3: ¬E=0:=by rw [←hEE];exact hE
    clear hE hEE
    go_wp2_with (first
     |(with_reducible refine wp_plan hA (by with_unfolding_all rfl) ?_)
     |((with_reducible refine wp_setPl (p':=p0) (v':=.slice none 0 0) hX3 rfl (by with_unfolding_all rfl) (by with_unfolding_all rfl) ?_);intro w5 hX5 hO5)
     |(go_at_call 92;(with_reducible refine zg cK fun w3 hb3=>?_);have hw3:Below (w.heap.size+1) w1 w3:=hbr.trans (hb3.mono hSN);have hX3:=HX.out _ hw3))
    have hWs3:=(HW.out _ hw3).size;exact finPl rfl rfl rfl rfl hX5 (HA.out _ _ (by rw [HR.out];exact Or.inl ⟨HE.out,by rw [HEE.out];rfl⟩)) ((HW.out _ hw3).trans (hO5.below (Xa _) hWs3))
  ·rcases cut_cases 10 s' with hno|⟨a,b,rfl,ha⟩
   ·have cC:=fun w=>cut_no s' 10 w hno;have HR:Hid (∀w',ReadR (readL rd 0 (p0,[]) (pieces 10 s)) (.returned (.tuple #[planV p0 (.slice none 0 0),.int .i64 ((i:Int)+1),.int .i64 3])) w'):=by
     intro w';rw [hrd',readL_none hno hend];rfl
    clear hrd' hno hS hgp;by_cases hi4:i<4
    ·have d1:(i:Int)+1≤4:=(by omega)
     go_wp2_with (first
      |((with_reducible refine wp_setPl (p':=p0) (v':=.slice none 0 0) hbl rfl (by with_unfolding_all rfl) (by with_unfolding_all rfl) ?_);intro w5 hX5 hO5)
      |(go_at_call 131;(with_reducible refine zq (cC _) ?_)))
     exact finPl rfl rfl rfl rfl hX5 (HA.out _ _ (HR.out _)) ((HW.out _ hbr).trans (hO5.below (Xa _) hWs))
    ·have d1: ¬(i:Int)+1≤4:=(by omega);have d2: ¬s'=[]:=fun e=>hend ⟨by omega,e⟩;have d3:(s'==[])=false:=by rw [beq_eq_false_iff_ne];exact d2
     have d4:(s' !=[])=true:=by rw [bne_iff_ne];exact d2
     clear d2
     go_wp2_with (first
      |((with_reducible refine wp_setPl (p':=p0) (v':=.slice none 0 0) hbl rfl (by with_unfolding_all rfl) (by with_unfolding_all rfl) ?_);intro w5 hX5 hO5)
      |(go_at_call 131;(with_reducible refine zq (cC _) ?_)))
     exact finPl rfl rfl rfl rfl hX5 (HA.out _ _ (HR.out _)) ((HW.out _ hbr).trans (hO5.below (Xa _) hWs))
   ·have cC: ∀w,CB 131 #[strV (a++10::b),.string ⟨#[10]⟩] w (.tuple #[strV a,strV b,.bool true]):=fun w=>(cut_yes a b 10 w ha (by omega)).mono fun e w' g=>⟨g.1,by obtain⟨q,rfl⟩:=g.2;exact Pie.below_drewN (Below.refl _ _) q⟩
    have hal:a.length≤2048:=by simp at hlen;omega
    have cL:=fun w2 hS2 (hBM:BdsAt w2∧MlAt w2)=>pln_any hrd i (by omega) a (w.heap.size+1) (w.heap.size+1) p ts v w2 hS2 hBM.1 hBM.2 hal (by omega);cases hz:lineS rd i (p,ts) (pieces 32 a)with
    |none=>
     rw [hz]at cL;replace cL: ∀w2,PS w2 171 (w.heap.size+1) (w.heap.size+1) p ts v→BdsAt w2∧MlAt w2→Calls prog 132 #[.pointer (some ⟨w.heap.size+1,0,none⟩),.int .i64 ((i:Int)+1),strV a] w2 fun e w'=>e=.returned (.bool false)∧Below (w.heap.size+1) w2 w':=cL;have HR:Hid (∀w',ReadR (readL rd 0 (p0,[]) (pieces 10 s)) (.returned (.tuple #[planV p0 (.slice none 0 0),.int .i64 ((i:Int)+1),.int .i64 3])) w'):=by
      intro w';rw [hrd',readL_bad ha hz];rfl
     clear hrd' ha hS hgp hz;by_cases hi4:i<4
     ·have d1:(i:Int)+1≤4:=(by omega)
      go_wp2_with (first
       |((with_reducible refine wp_setPl (p':=p0) (v':=.slice none 0 0) hX3 rfl (by with_unfolding_all rfl) (by with_unfolding_all rfl) ?_);intro w5 hX5 hO5)
       |(go_at_call 131;(with_reducible refine zg (cC _) fun w2 hb2=>?_);have hw2:Below (w.heap.size+1) w1 w2:=hbr.trans (hb2.mono hSN))
       |(go_at_call 132;(with_reducible refine zg (cL w2 (HS.out.below hb2) (HB.out _ hw2)) fun w3 hb3=>?_);have hw3:=hw2.trans hb3;have hX3:=HX.out _ hw3))
      have hWs3:=(HW.out _ hw3).size;exact finPl rfl rfl rfl rfl hX5 (HA.out _ _ (HR.out _)) ((HW.out _ hw3).trans (hO5.below (Xa _) hWs3))
     ·have d1: ¬(i:Int)+1≤4:=(by omega);have d2: ¬(a++10::b)=[]:=fun e=>hend ⟨by omega,e⟩;have d3:((a++10::b)==[])=false:=by rw [beq_eq_false_iff_ne];exact d2
      have d4:((a++10::b) !=[])=true:=by rw [bne_iff_ne];exact d2
      clear d2
      go_wp2_with (first
       |((with_reducible refine wp_setPl (p':=p0) (v':=.slice none 0 0) hX3 rfl (by with_unfolding_all rfl) (by with_unfolding_all rfl) ?_);intro w5 hX5 hO5)
       |(go_at_call 131;(with_reducible refine zg (cC _) fun w2 hb2=>?_);have hw2:Below (w.heap.size+1) w1 w2:=hbr.trans (hb2.mono hSN))
       |(go_at_call 132;(with_reducible refine zg (cL w2 (HS.out.below hb2) (HB.out _ hw2)) fun w3 hb3=>?_);have hw3:=hw2.trans hb3;have hX3:=HX.out _ hw3))
      have hWs3:=(HW.out _ hw3).size;exact finPl rfl rfl rfl rfl hX5 (HA.out _ _ (HR.out _)) ((HW.out _ hw3).trans (hO5.below (Xa _) hWs3))
    |some st=>
     obtain⟨p',ts'⟩:=st;rw [hz]at cL;replace cL: ∀w2,PS w2 171 (w.heap.size+1) (w.heap.size+1) p ts v→BdsAt w2∧MlAt w2→Calls prog 132 #[.pointer (some ⟨w.heap.size+1,0,none⟩),.int .i64 ((i:Int)+1),strV a] w2 fun e w'=>e=.returned (.bool true)∧Below (w.heap.size+1) w2 w'∧ ∃v',PS w' 171 (w.heap.size+1) (w.heap.size+1) p' ts' v':=cL;have HR:Hid (readL rd 0 (p0,[]) (pieces 10 s)=readL rd (i+1) (p',ts') (pieces 10 b)):=hrd'.trans (readL_good ha hz);have HG:Hid (GoodP p'∧ts'.length≤ts.length+1):=line_good hz hgp;clear hrd' ha hS hgp hz;by_cases hi4:i<4
     ·have d1:(i:Int)+1≤4:=(by omega)
      go_wp2_with (first
       |(go_at_call 131;(with_reducible refine zg (cC _) fun w2 hb2=>?_);have hw2:Below (w.heap.size+1) w1 w2:=hbr.trans (hb2.mono hSN))
       |(go_at_call 132;(with_reducible refine(cL w2 (HS.out.below hb2) (HB.out _ hw2)).mono ?_);rintro e w3 ⟨rfl,hb3,v3,hS3⟩;have hw3:=hw2.trans hb3))
      go_roundw
      case rel=>exact⟨i+1,p',ts',b,v3,rfl,rfl,HR.out,by simp at hlen;omega,by have:=HG.out.2;omega,HG.out.1,hS3,hw3⟩
      case measure=>show b.length<(a++10::b).length;simp;omega
     ·have d1: ¬(i:Int)+1≤4:=(by omega);have d2: ¬(a++10::b)=[]:=fun e=>hend ⟨by omega,e⟩;have d3:((a++10::b)==[])=false:=by rw [beq_eq_false_iff_ne];exact d2
      have d4:((a++10::b) !=[])=true:=by rw [bne_iff_ne];exact d2
      clear d2
      go_wp2_with (first
       |(go_at_call 131;(with_reducible refine zg (cC _) fun w2 hb2=>?_);have hw2:Below (w.heap.size+1) w1 w2:=hbr.trans (hb2.mono hSN))
       |(go_at_call 132;(with_reducible refine(cL w2 (HS.out.below hb2) (HB.out _ hw2)).mono ?_);rintro e w3 ⟨rfl,hb3,v3,hS3⟩;have hw3:=hw2.trans hb3))
      go_roundw
      case rel=>exact⟨i+1,p',ts',b,v3,rfl,rfl,HR.out,by simp at hlen;omega,by have:=HG.out.2;omega,HG.out.1,hS3,hw3⟩
      case measure=>show b.length<(a++10::b).length;simp;omega
theorem pparse_any (hrd:RdOk rd) (s:List UInt8) (w:World) (hB:BdsAt w) (hM:MlAt w) (hl:s.length≤9223372036854775807):
  Calls prog 91 #[strV s] w fun e w'=>PlanR rd s e w'∧Below w.heap.size w w':=by
 by_cases h:s.length≤2048
 ·exact parse_short hrd s w hB hM h
 ·exact parse_large rd s w (by omega) hl
