/- The crons of a trigger's line: strings.Join, strings.Cut, cron.Parse as they are wanted; parseSpan. -/
import Derived.Test.YtddabkmppobcdaaGreatDoorPsPlanNums
import Derived.Test.YtddabkmppobcdaaGreatDoorPsParseRow
import Derived.Deep.DeepCutAuto
set_option maxHeartbeats 32000000
set_option maxRecDepth 8000
namespace Go.Proofs.YtddabkmppobcdaaGreatDoor
namespace Pln
open Go.RowKit Lai Civ Crn Pie

def MlAt (w:World):Prop:= ∃m:Int,w.cell? ⟨1,0,none⟩=some (.int .i64 m)
theorem MlAt.below {w w':World} {n:Nat} (h:MlAt w) (hb:Below n w w') (hn:w.heap.size≤n):MlAt w':=by
 obtain⟨m,hm⟩:=h
 exact⟨m,(hb.cell (Nat.lt_of_lt_of_le (cell_lt hm) hn)).trans hm⟩
theorem cut_slash (s:List UInt8) (w:World) (h:MlAt w) (hs:s.length≤10000000):
  Calls Tryz.prog 22 #[strV s,.string ⟨#[32,47,32]⟩] w fun e w'=>(∃a b f,CutR s a b f∧e=.returned (.tuple #[strV a,strV b,.bool f]))∧Below w.heap.size w w':=by
 obtain⟨m,hm⟩:=h
 have c0:=Any.strings_Cut (P:=Tryz.prog) (ρ:=Tryz.laysM145_ren) { Tryz.laysM145 with } ⟨s.toArray⟩ ⟨#[32,47,32]⟩ m w (by show s.length<_;omega) hm
 refine c0.mono fun e w' h=>⟨⟨_,_,_,cut_rel s,h.1⟩,?_⟩
 obtain⟨q,rfl⟩:=h.2
 exact Pie.below_drewN (Below.refl _ _) q
def RdAns (rd:List UInt8→Option K) (s:List UInt8) (c:K) (E:Int):Prop:=(rd s=some c∧E=0)∨(rd s=none∧E≠0)
theorem cparse_any {rd:List UInt8→Option K} (hrd:RdOk rd) (s:List UInt8) (w:World) (hB:BdsAt w):
  Calls Tryz.prog 128 #[strV s] w fun e w'=>(∃c E,RdAns rd s c E∧e=.returned (.tuple #[kV c,.int .i64 E]))∧Below w.heap.size w w':=by
 refine(parse_any s w hB).mono fun e w' h=>⟨?_,h.2⟩
 cases hr:rd s with
 |none=>
  obtain⟨E,hE,g⟩:=hrd.no s hr
  exact⟨k0,E,Or.inr ⟨hr,by omega⟩,g e h.1⟩
 |some c=>
  obtain⟨_,_,_,g⟩:=hrd.yes s c hr
  exact⟨c,0,Or.inl ⟨hr,rfl⟩,g e h.1⟩
theorem join_tx (r:List (List UInt8)) (B o cap:Nat) (w:World) (hW:TxAt w B o r) (hcap:r.length≤cap) (hl:r.length≤3000) (hx: ∀x∈r,x.length≤3000):
  Calls Tryz.prog 86 #[.slice (some ⟨B,o,none⟩) r.length cap,.string ⟨#[32]⟩] w fun e w'=>e=.returned (strV (Lib.join r [32]))∧Below w.heap.size w w':=by
 have em:(r.map (fun x=>(⟨x.toArray⟩:ByteArray))).map (·.data.toList)=r:=by
  rw [List.map_map]
  conv=>rhs;rw [←List.map_id r]
  exact List.map_congr_left fun x _=>by simp
 have hjl:=join_len [32] 3000 r hx
 have hle:r.length*(([32]:List UInt8).length+3000)≤3000*3001:=Nat.mul_le_mul hl (by simp)
 have := Tryz.strings_Join B o cap (r.map (fun x => (⟨x.toArray⟩ : ByteArray))) ⟨#[32]⟩ w (fun j x hj => by
  rw [List.getElem?_map,Option.map_eq_some_iff]at hj
  obtain⟨y,hy,rfl⟩:=hj
  exact hW.2 j y hy) hW.1 (by rw [List.length_map];omega) (by rw [List.length_map];omega) (by rw [em];exact Nat.le_trans hjl (by omega))
 rw [List.length_map,em]at this
 exact this
theorem join_small (r:List (List UInt8)) (hl:r.length≤3000) (hx: ∀x∈r,x.length≤3000):(Lib.join r [32]).length≤10000000:=by
 have hjl:=join_len [32] 3000 r hx
 have hle:r.length*(([32]:List UInt8).length+3000)≤3000*3001:=Nat.mul_le_mul hl (by simp)
 omega
theorem wp_setK {ops:Array Oper} {rest:List Oper} {x y:Operand} {ps:String} {af:Array Edge} {A:Act} {Q:Exit→Act→World→Prop} {w:World} {T o:Nat} {t:Tr} {c:K} (h:TS w T t) (ho:o+7≤17) (hx:A.eval x=.pointer (some ⟨T,o,none⟩)) (hy:A.eval y=kV c)
  (g:wpList Tryz.prog ops Q rest (A.put none undef) (w.setCells T o [.int .u64 c.mi,.int .u64 c.ho,.int .u64 c.da,.int .u64 c.mn,.int .u64 c.we,.bool c.ad,.bool c.aw])):
  wpList Tryz.prog ops Q ({ dst:=none,op:=.store 67 x y,type:=0,pos:=ps,after:=af,guard:=none } ::rest) A w:=
 wpList_store_mid rfl 67 x y rfl T o #[.int .u64 c.mi,.int .u64 c.ho,.int .u64 c.da,.int .u64 c.mn,.int .u64 c.we,.bool c.ad,.bool c.aw] hx hy (h.there o 7 ho) (by kernel_rfl) (by simp [Value.oneCell']) g
def SpanR (o:Option Tr) (T:Nat) (w:World) (e:Ending) (w':World):Prop:=OnlyQ T w w'∧match o with
 |none=>e=.returned (.bool false)∧ ∃t,TS w' T t
 |some t=>e=.returned (.bool true)∧TS w' T t
theorem one_w {x:List UInt8} {B off cap T:Nat} {w:World} (hS:TS w T ⟨3,0,0,k0,k0⟩) (hW:TxAt w B off [x]) (hBT:B≠T) (hx:x.length≤3000) (w1:World) (hb:Below w.heap.size w w1) (hP:PlcAt w1 w.heap.size T [1]):
  Calls Tryz.prog 55 #[.slice (some ⟨B,off,none⟩) 1 cap,.slice (some ⟨w.heap.size,0,none⟩) 1 1] w1 fun e w'=>e=.returned (.bool (num7 x).isSome)∧OnlyQ T w w'∧ ∃a,TS w' T ⟨3,a,0,k0,k0⟩∧ ∀q,num7 x=some q→q=a:=by
 refine(pnums_w [x] [1] B off cap T 1 w w1 hW hBT ⟨hS.lt,hS.fz,hS.told1⟩ (by decide) rfl (by decide) (by simp) (by simpa using hx) hb hP).mono fun e w' h=> ?_
 obtain⟨a,h1,h2,h3,h4⟩:=h.one hS
 exact⟨h2,h3,a,h1,h4⟩
theorem pspan_nil (B off cap T:Nat) (w:World) (hS:TS w T ⟨3,0,0,k0,k0⟩):
  Calls Tryz.prog 91 #[.pointer (some ⟨T,0,none⟩),.slice (some ⟨B,off,none⟩) 0 cap] w fun e w'=>SpanR none T w e w':=by
 have hTl:=hS.lt
 go_enter Tryz.func91,Tryz.ntmps91
 go_wp2_with fail
 go_region
 go_wp2
 go_ret
 exact⟨(OnlyQ.of_below ((Below.refl _ _).drew) hTl),rfl,_,hS.below ((Below.refl _ _).drew)⟩
def SpC (x:List UInt8) (T:Nat) (w:World) (v:Value) (wx:World):Prop:=v=.bool (!(num7 x).isSome)∧OnlyQ T w wx∧ ∃a,TS wx T ⟨3,a,0,k0,k0⟩∧ ∀q,num7 x=some q→q=a
theorem span_fin {rd:List UInt8→Option K} (hrd:RdOk rd) {x:List UInt8} {r:List (List UInt8)} {m:Int} {s sa sb:List UInt8} {f:Bool} {ca cb:K} {ea eb:Int} {T:Nat} {w w7:World} {b:Bool}
  (hL:spanS rd (x::r)=(spanC rd r).map fun p=>⟨3,m,0,p.1,p.2⟩) (hSC:spanC rd (pieces 32 s)=spanC rd r) (hC:CutR s sa sb f) (hA:RdAns rd sa ca ea) (hA2:RdAns rd sb cb eb) (hO:OnlyQ T w w7) (hT:TS w7 T ⟨3,m,0,ca,cb⟩) (hb:b=true↔ea=0∧eb=0):
  SpanR (spanS rd (x::r)) T w (.returned (.bool b)) w7:=by
 have hc:=span_cut (rd_slash hrd) (rd_nil hrd) hC
 rw [hL,←hSC,←hc]
 have no:both (rd sa) (rd sb)=none→b=false→SpanR ((both (rd sa) (rd sb)).map fun p=>(⟨3,m,0,p.1,p.2⟩:Tr)) T w (.returned (.bool b)) w7:=fun h1 h2=>by
  rw [h1,h2]
  exact⟨hO,rfl,_,hT⟩
 rcases hA with⟨e1,rfl⟩|⟨e1,h1⟩
 ·rcases hA2 with⟨e2,rfl⟩|⟨e2,h2⟩
  ·rw [e1,e2,hb.2 ⟨rfl,rfl⟩]
   exact⟨hO,rfl,hT⟩
  ·refine no (by rw [e1,e2];rfl) ?_
   cases b
   ·rfl
   ·exact absurd (hb.1 rfl).2 h2
 ·refine no (by rw [e1];cases rd sb<;>rfl) ?_
  cases b
  ·rfl
  ·exact absurd (hb.1 rfl).1 h1
theorem pspan_cons {rd:List UInt8→Option K} (hrd:RdOk rd) (x:List UInt8) (r:List (List UInt8)) (B off cap T:Nat) (w:World) (hS:TS w T ⟨3,0,0,k0,k0⟩) (hW:TxAt w B off (x::r)) (hBT:B≠T) (w0:World) (hB:BdsAt w0) (hM:MlAt w0) (hb0:Below w0.heap.size w0 w) (hT0:w0.heap.size≤T) (hcap:r.length+1≤cap) (hws:r.length+1≤3000) (hx: ∀y∈x::r,y.length≤3000) (hno: ∀y∈x::r,(32:UInt8)∉y):
  Calls Tryz.prog 91 #[.pointer (some ⟨T,0,none⟩),.slice (some ⟨B,off,none⟩) (r.length+1) cap] w fun e w'=>SpanR (spanS rd (x::r)) T w e w':=by
 have hTl:=hS.lt
 have h1: ¬((r.length:Int)+1<1):=by omega
 have h2:(1:Int)≤(r.length:Int)+1:=by omega
 have h3:(1:Int)≤(cap:Int):=by omega
 have c1:=fun w1 hb hP=>one_w (cap:=cap) hS (hW.take 1:TxAt w B off [x]) hBT (hx x List.mem_cons_self) w1 hb hP
 have HS:Hid (TS w T ⟨3,0,0,k0,k0⟩):=hS
 have HW:Hid (TxAt w B off (x::r)):=hW
 have HX:Hid (∀y∈x::r,y.length≤3000):=hx
 have HNo:Hid (∀y∈x::r,(32:UInt8)∉y):=hno
 clear hW hS hx hno
 go_enter Tryz.func91,Tryz.ntmps91
 go_upto_region 1 with fail
 go_cut [22] (fun v wx=>SpC x T w v wx)
 case first=>
  generalize hbx:(num7 x).isSome=bx at c1
  have HBX:Hid ((num7 x).isSome=bx):=hbx
  clear hbx
  go_region_with (go_at_call 55;(with_reducible refine(c1 _ (bad1 _ _) ?_).mono ?_);exact(plc1 w _ T 1).drew;rintro e w1 ⟨rfl,hO1,a,hT1,ha⟩)
  go_wp2_with fail
  go_meet
  exact⟨by rw [HBX.out],hO1,a,hT1,ha⟩
 case rest=>
  obtain⟨rfl,hO1,a,hT1,ha⟩:=hcut
  clear c1
  cases hnx:num7 x with
  |none=>
   have HL:Hid (spanS rd (x::r)=none):=by unfold Hid spanS;dsimp only;rw [hnx]
   clear hnx ha
   go_wp2
   go_ret
   rw [HL.out]
   exact⟨hO1,rfl,_,hT1⟩
  |some m=>
   obtain rfl:=ha m hnx
   have HL:Hid (spanS rd (x::r)=(spanC rd r).map fun p=>⟨3,m,0,p.1,p.2⟩):=by unfold Hid spanS;dsimp only;rw [hnx];cases spanC rd r<;>rfl
   clear hnx ha
   have hs1:=hO1.size
   obtain⟨o2,hif,hW2⟩:=(HW.out.only hO1 hBT).cut hcap
   have hX2:=fun y hy=>HX.out y (List.mem_cons_of_mem _ hy)
   have cJ:=join_tx r B o2 (cap-1) wc hW2 (by omega) (by omega) hX2
   have cC:=fun w h=>cut_slash (Lib.join r [32]) w h (join_small r (by omega) hX2)
   have HSC:Hid (spanC rd (pieces 32 (Lib.join r [32]))=spanC rd r):=spanC_join fun y hy=>HNo.out y (List.mem_cons_of_mem _ hy)
   have cP:=fun s w h=>cparse_any hrd s w h
   have hb1:Below w0.heap.size w0 wc:=hb0.trans (hO1.below hT0 hb0.size)
   have HO1:Hid (OnlyQ T w wc):=hO1
   have hT1l:=hT1.lt
   have HT1:Hid (TS wc T ⟨3,m,0,k0,k0⟩):=hT1
   have HB:Hid (∀w',Below w0.heap.size w0 w'→BdsAt w'∧MlAt w'):=fun w' h=>⟨hB.below h (Nat.le_refl _),hM.below h (Nat.le_refl _)⟩
   have hz0:=hb1.size
   clear hW2 hO1 hT1 hX2 HX HW HS hB hM
   go_wp2_with (first
    |((with_reducible refine wp_setK (o:=3) (c:=ca) hT4 (by decide) (by with_unfolding_all rfl) (by with_unfolding_all rfl) ?_);have hT5:=hT4.setA ca;have hO5:=HO4.out.trans (OnlyQ.sets T [.int .u64 ca.mi,.int .u64 ca.ho,.int .u64 ca.da,.int .u64 ca.mn,.int .u64 ca.we,.bool ca.ad,.bool ca.aw] w4 3);clear HO4 hT4;generalize w4.setCells T 3 [.int .u64 ca.mi,.int .u64 ca.ho,.int .u64 ca.da,.int .u64 ca.mn,.int .u64 ca.we,.bool ca.ad,.bool ca.aw]=w5 at*;have hw5:Below w0.heap.size w0 w5:=hb0.trans (hO5.below hT0 hb0.size);have hB5:=(HB.out _ hw5).1;have HO5:Hid (OnlyQ T w w5):=hO5;have HT5:Hid (TS w5 T ⟨3,m,0,ca,k0⟩):=hT5;clear hO5 hT5)
    |((with_reducible refine wp_setK (o:=10) (c:=cb) hT6 (by decide) (by with_unfolding_all rfl) (by with_unfolding_all rfl) ?_);have hT7:=hT6.setB cb;have hO7:=HO6.out.trans (OnlyQ.sets T [.int .u64 cb.mi,.int .u64 cb.ho,.int .u64 cb.da,.int .u64 cb.mn,.int .u64 cb.we,.bool cb.ad,.bool cb.aw] w6 10);clear HO6 hT6;generalize w6.setCells T 10 [.int .u64 cb.mi,.int .u64 cb.ho,.int .u64 cb.da,.int .u64 cb.mn,.int .u64 cb.we,.bool cb.ad,.bool cb.aw]=w7 at*;have HO7:Hid (OnlyQ T w w7):=hO7;have HT7:Hid (TS w7 T ⟨3,m,0,ca,cb⟩):=hT7;clear hO7 hT7)
    |(go_at_call 86;(with_reducible refine cJ.mono ?_);rintro e w2 ⟨rfl,hb2⟩;have hw2:Below w0.heap.size w0 w2:=hb1.trans (hb2.mono hz0);have hM2:=(HB.out w2 hw2).2;have HT2:Hid (TS w2 T ⟨3,m,0,k0,k0⟩):=HT1.out.below hb2;have HO2:Hid (OnlyQ T w w2):=HO1.out.trans (OnlyQ.of_below hb2 hT1l))
    |(go_at_call 22;(with_reducible refine(cC _ hM2).mono ?_);rintro e w3 ⟨⟨sa,sb,f,hC,rfl⟩,hb3⟩;have hw3:Below w0.heap.size w0 w3:=hw2.trans (hb3.mono hw2.size);have hB3:=(HB.out _ hw3).1;have HT3:Hid (TS w3 T ⟨3,m,0,k0,k0⟩):=HT2.out.below hb3;have HO3:Hid (OnlyQ T w w3):=HO2.out.trans (OnlyQ.of_below hb3 HT2.out.lt))
    |(go_at_call 128;(with_reducible refine(cP sa w3 hB3).mono ?_);rintro e w4 ⟨⟨ca,ea,hA,rfl⟩,hb4⟩;have hT4:=HT3.out.below hb4;have hw4:Below w0.heap.size w0 w4:=hw3.trans (hb4.mono hw3.size);have HO4:Hid (OnlyQ T w w4):=HO3.out.trans (OnlyQ.of_below hb4 HT3.out.lt))
    |(go_at_call 128;(with_reducible refine(cP sb w5 hB5).mono ?_);rintro e w6 ⟨⟨cb,eb,hA2,rfl⟩,hb6⟩;have hT6:=HT5.out.below hb6;have HO6:Hid (OnlyQ T w w6):=HO5.out.trans (OnlyQ.of_below hb6 HT5.out.lt)))
   all_goals
    go_ret
    exact span_fin hrd HL.out HSC.out hC hA hA2 HO7.out HT7.out (by simp [*])
theorem pspan_any {rd:List UInt8→Option K} (hrd:RdOk rd) (ws:List (List UInt8)) (B off cap T:Nat) (w:World) (hS:TS w T ⟨3,0,0,k0,k0⟩) (hW:TxAt w B off ws) (hBT:B≠T) (w0:World) (hB:BdsAt w0) (hM:MlAt w0) (hb0:Below w0.heap.size w0 w) (hT0:w0.heap.size≤T) (hcap:ws.length≤cap) (hws:ws.length≤3000) (hx: ∀y∈ws,y.length≤3000) (hno: ∀y∈ws,(32:UInt8)∉y):
  Calls Tryz.prog 91 #[.pointer (some ⟨T,0,none⟩),.slice (some ⟨B,off,none⟩) ws.length cap] w fun e w'=>SpanR (spanS rd ws) T w e w':=by
 cases ws with
 |nil=>exact pspan_nil B off cap T w hS
 |cons x r=>exact pspan_cons hrd x r B off cap T w hS hW hBT w0 hB hM hb0 hT0 hcap hws hx hno
end Pln
end Go.Proofs.YtddabkmppobcdaaGreatDoor
