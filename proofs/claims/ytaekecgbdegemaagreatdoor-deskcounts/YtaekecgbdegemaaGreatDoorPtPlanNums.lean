/- A part. -/
import Derived.Test.YtaekecgbdegemaaGreatDoorPtPlanNum
import Derived.Test.YtaekecgbdegemaaGreatDoorPtPlanMem
import Derived.Test.YtaekecgbdegemaaGreatDoorPtCutWalks
import Derived.Test.YtaekecgbdegemaaGreatDoorPtPlanCheck
set_option linter.all false
open Go.Proofs.Tryz
set_option maxHeartbeats 32000000
set_option maxRecDepth 8000
namespace Go.Proofs.YtaekecgbdegemaaGreatDoor
namespace Pln
open Go.RowKit Lai Civ Crn Pie
variable {w w':World} {B Q N:Nat} {l:List (List UInt8)} {x:List UInt8} {os:List Nat} {e:TypeId} {p:Pd} {ts:List Tr} {v:Value}

def TxAt (w:World) (B off:Nat) (l:List (List UInt8)):Prop:=B<w.heap.size∧ ∀(j:Nat) x,l[j]? =some x→w.cell? ⟨B,off+j,none⟩=some (strV x)
theorem TxAt.of (h:Texts w B l):TxAt w B 0 l:=⟨h.1,fun j x hx=>by rw [Xv];exact h.2 j x hx⟩
theorem TxAt.tail {off:Nat} (h:TxAt w B off (x::l)):TxAt w B (off+1) l:=
 ⟨h.1,fun j y hy=>by have:=h.2 (j+1) y (by simpa using hy);rw [show off+1+j=off+(j+1) by omega];exact this⟩
theorem TxAt.take {w:World} {B off:Nat} {l:List (List UInt8)} (h:TxAt w B off l) (n:Nat):TxAt w B off (l.take n):=
 ⟨h.1,fun j y hy=>h.2 j y (by rw [List.getElem?_take]at hy;split at hy;exact hy;cases hy)⟩
theorem TxAt.below {off n:Nat} (h:TxAt w B off l) (hb:Below n w w') (hn:B<n):TxAt w' B off l:=
 ⟨Xb h.1 hb.size,fun j x hx=>(hb.cell (p:=⟨B,off+j,none⟩) hn).trans (h.2 j x hx)⟩
theorem TxAt.only {off:Nat} (h:TxAt w B off l) (hb:OnlyQ Q w w') (hn:B≠Q):TxAt w' B off l:=
 ⟨Xb h.1 hb.size,fun j x hx=>(hb.cell (a:=⟨B,off+j,none⟩) h.1 hn).trans (h.2 j x hx)⟩
def PlcAt (w:World) (P Q:Nat) (os:List Nat):Prop:=P<w.heap.size∧ ∀(j o:Nat),os[j]? =some o→w.cell? ⟨P,j,none⟩=some (.pointer (some ⟨Q,o,none⟩))
theorem PlcAt.only {P:Nat} (h:PlcAt w P Q os) (hb:OnlyQ Q w w') (hn:P≠Q):PlcAt w' P Q os:=
 ⟨Xb h.1 hb.size,fun j o ho=>(hb.cell (a:=⟨P,j,none⟩) h.1 hn).trans (h.2 j o ho)⟩
def PnR (ws:List (List UInt8)) (os:List Nat) (Q:Nat) (w:World) (i:Value) (wr:World):Prop:=
 ∃(k:Nat) (ns:List Int),k≤ws.length∧i=.int .i64 k∧OnlyQ Q w wr∧Told Q os ns w wr∧ ∀(j:Nat) x,j<k→ws[j]? =some x→num7 x=ns[j]?
theorem pnums_any (ws:List (List UInt8)) (os:List Nat) (ns0:List Int) (B off cap P Q:Nat) (w:World) (hW:TxAt w B off ws) (hBQ:B≠Q) (hP:PlcAt w P Q os) (hPQ:P≠Q) (hQ:Q<w.heap.size) (hf: ∀o,w.frozen? ⟨Q,o,none⟩=false) (h0:Told Q os ns0 w w) (hd:os.Nodup) (ho:os.length≤10) (hws:ws.length≤3000) (hx: ∀x∈ws,x.length≤3000):
  Calls prog 179 #[.slice (some ⟨B,off,none⟩) ws.length cap,.slice (some ⟨P,0,none⟩) os.length os.length] w fun e w'=>NumsR ws os Q w e w':=by
 by_cases hl:ws.length=os.length
 ·have HL:Hid (os.length=ws.length):=hl.symm;rw [←hl];have hwl:ws.length≤10:=by omega
  clear hl ho;go_enter func179,ntmps179;go_wp2;go_loopw [16] (fun i wr=>PnR ws os Q w i wr) (fun i _=>ws.length-(intOf i).toNat)
  case atStart=>exact⟨0,ns0,Xx _,rfl,OnlyQ.refl _ _,h0,fun j x hj=>absurd hj (by omega)⟩
  case round=>
   clear h0;obtain⟨k,ns,hk,rfl,hO,hT,hn⟩:=hrel;have HN:=zh hn;clear hn;by_cases hlt:k<ws.length
   ·have hlt':(k:Int)<ws.length:=(by omega);have hlt2:k<os.length:=by rw [HL.out];exact hlt
    obtain⟨x,hwx⟩: ∃x,ws[k]? =some x:=⟨ws[k],by simp [hlt]⟩
    obtain⟨o,hoo⟩: ∃o,os[k]? =some o:=⟨os[k],by simp [hlt2]⟩
    clear hlt2;have hbs:=hW.1;have hps:=hP.1;have hsz:=hO.size;have cx:=(hW.only hO hBQ).2 k x hwx;have cp:=(hP.only hO hPQ).2 k o hoo;have HX:=zh hwx;have HO:=zh hoo;have HOn:=zh hO;have HT:=zh hT;have c0:=fun w=>pnum_any x w (hx x (Xk hwx));have hfr: ∀o,wr.frozen? ⟨Q,o,none⟩=false:=fun o=>(hO.fz o).trans (hf o);clear hwx hoo hx hW hP hO hT hf;cases hnx:num7 x with
    |none=>
     rw [hnx]at c0;replace c0: ∀w,CB 214 #[strV x] w (.tuple #[.int .i64 0,.bool false]):=c0;have HB:Hid (NsB os.length ws=false):=nsB_no HX.out hnx;clear hnx;go_wp2_with(go_at_call 214;(with_reducible refine zg (c0 _) fun w1 hb1=>?_))
     go_ret;exact⟨ret_b HB.out.symm,HOn.out.trans (OnlyQ.of_below hb1 (by omega)),ns,HT.out.below hb1 (by omega),fun h=>by rw [HB.out]at h;cases h⟩
    |some m=>
     rw [hnx]at c0;replace c0: ∀w,CB 214 #[strV x] w (.tuple #[.int .i64 m,.bool true]):=c0;have HM:=zh hnx;clear hnx;go_wp2_with(go_at_call 214;(with_reducible refine zg (c0 _) fun w1 hb1=>?_);have hb1s:=hb1.size;have cp1:w1.cell? ⟨P,k,none⟩=some (.pointer (some ⟨Q,o,none⟩)):=(zk cp hb1);obtain⟨n1,_,cq1⟩:=(HT.out.below hb1 (by omega)).ex HO.out;have fq1:w1.frozen? ⟨Q,o,none⟩=false:=(Xl (w:=wr) (a:=⟨Q,o,none⟩) (hb1.block Q (by omega))).trans (hfr o);have hQ1:Q<w1.heap.size:=by omega)
     go_roundw
     case rel=>
      refine⟨k+1,ns.set k m,by omega,rfl,(HOn.out.trans (OnlyQ.of_below hb1 (by omega))).trans (OnlyQ.set Q _ _ _),(HT.out.below hb1 (by omega)).set hd HO.out m,fun j y hj hy=> ?_⟩;have hkl:k<ns.length:=by rw [HT.out.len,HL.out];exact hlt
      by_cases e:j=k
      ·subst e;rw [HX.out]at hy;cases hy;rw [HM.out,Ys hkl]
      ·rw [Yt (fun g=>e g.symm)];exact HN.out j y (by omega) hy
     case measure=>simp [intOf];omega
   ·obtain rfl:k=ws.length:=by omega
    have HB:Hid (NsB os.length ws=true):=nsB_all HL.out.symm fun j y hy=>by
     have hj:j<ws.length:=(Xe.1 hy).1;rw [HN.out j y hj hy,Xz (by rw [hT.len,HL.out];exact hj)];rfl
    have HT:=zh hT;have HOn:=zh hO;clear hT hO hW hP hx;go_wp2;go_ret;exact⟨ret_b HB.out.symm,HOn.out,ns,HT.out,fun _ j y hy=>HN.out j y (Xe.1 hy).1 hy⟩
 ·have hl': ¬(ws.length:Int)=os.length:=by omega
  have HN:Hid (NsB os.length ws=false):=nsB_len hl;have HT:=zh h0;clear h0 hl hW hP;go_enter func179,ntmps179;go_wp2;go_ret;exact⟨ret_b HN.out.symm,OnlyQ.refl _ _,ns0,HT.out,fun h=>by rw [HN.out]at h;cases h⟩

theorem plc4 (w:World) (ta:TypeId) (Q a b c d:Nat):PlcAt (w.alloc (.cells #[.pointer (some ⟨Q,a,none⟩),.pointer (some ⟨Q,b,none⟩),.pointer (some ⟨Q,c,none⟩),.pointer (some ⟨Q,d,none⟩)] ta)) w.heap.size Q [a,b,c,d]:=by
 refine⟨by simp,fun j o h=> ?_⟩;match j,h with
 |0,h=>simp at h;subst h;simp
 |1,h=>simp at h;subst h;simp
 |2,h=>simp at h;subst h;simp
 |3,h=>simp at h;subst h;simp
 |j+4,h=>simp at h
theorem plc2 (w:World) (ta:TypeId) (Q a b:Nat):PlcAt (w.alloc (.cells #[.pointer (some ⟨Q,a,none⟩),.pointer (some ⟨Q,b,none⟩)] ta)) w.heap.size Q [a,b]:=by
 refine⟨by simp,fun j o h=> ?_⟩;match j,h with
 |0,h=>simp at h;subst h;simp
 |1,h=>simp at h;subst h;simp
 |j+2,h=>simp at h
theorem plc1 (w:World) (ta:TypeId) (Q a:Nat):PlcAt (w.alloc (.cells #[.pointer (some ⟨Q,a,none⟩)] ta)) w.heap.size Q [a]:=by
 refine⟨by simp,fun j o h=> ?_⟩;match j,h with
 |0,h=>simp at h;subst h;simp
 |j+1,h=>simp at h
structure Room (w:World) (Q:Nat) (os:List Nat):Prop where
 lt:Q<w.heap.size
 fz: ∀o,w.frozen? ⟨Q,o,none⟩=false
 num: ∃ns,Told Q os ns w w
theorem Room.alloc {w:World} {Q:Nat} {os:List Nat} (h:Room w Q os) (o:Obj):Room (w.alloc o) Q os:=by
 have hb:=balloc (w:=w) o;obtain⟨ns,hn⟩:=h.num;refine⟨Xb h.lt hb.size,fun j=>(Xl (w:=w) (a:=⟨Q,j,none⟩) (hb.block Q h.lt)).trans (h.fz j),ns,hn.len,fun j o n h1 h2=>(Xf (w:=w) (a:=⟨Q,o,none⟩) (hb.block Q h.lt)).trans (hn.got j o n h1 h2),fun _ _=>rfl⟩
theorem PS.room (h:PS w e N Q p ts v) (ho: ∀o∈os,1≤o∧o≤16):Room w Q os:=⟨h.lt,h.fz,h.told0 ho⟩
theorem PlcAt.drew {w:World} {P Q:Nat} {os:List Nat} (h:PlcAt w P Q os):PlcAt w.drew P Q os:=h
theorem Room.below (h:Room w Q os) (hb:Below w.heap.size w w'):Room w' Q os:=by
 obtain⟨ns,hn⟩:=h.num;exact⟨Xb h.lt hb.size,fun j=>(Xl (w:=w) (a:=⟨Q,j,none⟩) (hb.block Q h.lt)).trans (h.fz j),ns,hn.len,fun j o n h1 h2=>(Xf (w:=w) (a:=⟨Q,o,none⟩) (hb.block Q h.lt)).trans (hn.got j o n h1 h2),fun _ _=>rfl⟩
theorem pnums_w (ws:List (List UInt8)) (os:List Nat) (B off cap Q n:Nat) (w w1:World) (hW:TxAt w B off ws) (hBQ:B≠Q) (hR:Room w Q os) (hd:os.Nodup) (hn:os.length=n) (hn2:n≤10) (hws:ws.length≤3000) (hx: ∀x∈ws,x.length≤3000) (hb:Below w.heap.size w w1) (hP:PlcAt w1 w.heap.size Q os):
  Calls prog 179 #[.slice (some ⟨B,off,none⟩) ws.length cap,.slice (some ⟨w.heap.size,0,none⟩) n n] w1 fun e w'=>NumsR ws os Q w e w':=by
 subst hn;have hR':=hR.below hb;obtain⟨ns,hn⟩:=hR'.num;have hne:w.heap.size≠Q:=by have:=hR.lt;omega
 exact(pnums_any ws os ns B off cap w.heap.size Q _ (hW.below hb hW.1) hBQ hP hne hR'.lt hR'.fz hn hd hn2 hws hx).mono fun e w' h=>h.from hb hR.lt
theorem bad1 (w:World) (o:Obj):Below w.heap.size w (w.alloc o).drew:=((Below.refl _ _).alloc (Xa _) o).drew
theorem nodup4 (o:Nat):[o,o+1,o+2,o+3].Nodup:=by simp
theorem ppace_any (ws:List (List UInt8)) (B off cap Q o:Nat) (w:World) (hW:TxAt w B off ws) (hBQ:B≠Q) (hR:Room w Q [o,o+1,o+2,o+3]) (hws:ws.length≤3000) (hx: ∀x∈ws,x.length≤3000):
  Calls prog 180 #[.pointer (some ⟨Q,o,none⟩),.slice (some ⟨B,off,none⟩) ws.length cap] w fun e w'=>NumsR ws [o,o+1,o+2,o+3] Q w e w':=by
 have c0:=fun w1 hb hP=>pnums_w ws [o,o+1,o+2,o+3] B off cap Q 4 w w1 hW hBQ hR (nodup4 o) rfl (by decide) hws hx hb hP;clear hW hR hx;go_enter func180,ntmps180;go_wp2_with fail
 go_region_with (go_at_call 179;(with_reducible refine(c0 _ (bad1 _ _) ?_).mono ?_);exact(plc4 w _ Q o (o+1) (o+2) (o+3)).drew;intro e w1 hN;obtain⟨rfl,_⟩:=id hN)
 go_wp2;go_ret;exact hN

theorem clone_any (s:List UInt8) (w:World) (hs:s.length≤3000):
  CB 213 #[strV s] w (strV s):=by
 have c0:=stringslite_Clone ⟨s.toArray⟩ w (by show s.length≤_;omega);go_enter func213,ntmps213;go_wp2_with(go_at_call 209;(with_reducible refine zg c0 fun w1 h1=>?_))
 go_ret;exact⟨rfl,h1⟩
theorem PS.name (h:PS w e N Q p ts v) (nm:List UInt8):PS (w.setCell ⟨Q,0,none⟩ (strV nm)) e N Q { p with nm:=nm } ts v:=by
 refine h.turn (OnlyQ.set Q _ _ _) ?_;have e1:(planC p v).setIfInBounds 0 (strV nm)=planC { p with nm:=nm } v:=by simp
 rw [←e1];exact cells_set h.cel 0 _ (by simp)
theorem TxAt.cut {off cap:Nat} {r:List (List UInt8)} (h:TxAt w B off (x::r)) (hc:r.length+1≤cap): ∃o2,(if cap=1 then some (⟨B,off,none⟩:Addr)else some ⟨B,off+1,none⟩)=some ⟨B,o2,none⟩∧TxAt w B o2 r:=by
 by_cases e:cap=1
 ·have:r=[]:=Yy.1 (by omega);subst this;exact⟨off,by rw [if_pos e],h.1,fun j y hy=>by simp at hy⟩
 ·exact⟨off+1,by rw [if_neg e],h.tail⟩
theorem pplan_any (ws:List (List UInt8)) (B off cap N Q:Nat) (p:Pd) (ts:List Tr) (v:Value) (w:World) (hS:PS w 171 N Q p ts v) (hW:TxAt w B off ws) (hBQ:B≠Q) (hws:ws.length≤3000) (hcap:ws.length≤cap) (hx: ∀x∈ws,x.length≤3000):
  Calls prog 178 #[.pointer (some ⟨Q,0,none⟩),.slice (some ⟨B,off,none⟩) ws.length cap] w fun e w'=>LineR 171 N Q w ((line0 (wPlan::ws) p).map fun p=>(p,ts)) e w':=by
 have hN:=hS.nN;cases ws with
 |nil=>
  clear hW hx;go_enter func178,ntmps178;go_wp2;go_ret;exact⟨rfl,Below.refl _ _⟩
 |cons nm r=>
  have cx:w.cell? ⟨B,off,none⟩=some (strV nm):=hW.2 0 nm rfl;have hln:=hx nm XF;have c1:=fun w=>isName_any nm w (by omega);have hlen:(nm::r).length=r.length+1:=rfl;rw [hlen];rw [hlen]at hcap hws;have h1: ¬((r.length:Int)+1<1):=by omega
  have HS:=zh hS;have hQl:=hS.lt;have hBl:=hW.1;cases hnm:nmB nm
  ·rw [hnm]at c1;have HL:Hid (line0 (wPlan::nm::r) p=none):=by unfold Hid line0;dsimp only;rw [if_neg (fun q=>by rw [hnm]at q;cases q.2)]
   clear hW hx hS hnm;go_enter func178,ntmps178;go_wp2_with(go_at_call 133;(with_reducible refine zg (c1 _) fun w1 hb1=>?_))
   go_ret;rw [HL.out];exact⟨rfl,hb1.mono hN⟩
  ·rw [hnm]at c1;have c2:=fun w=>clone_any nm w hln;have HL:Hid (line0 (wPlan::nm::r) p=(four r).map fun q=> { p with nm:=nm,mn:=q.1,mx:=q.2.1,po:=q.2.2.1,co:=q.2.2.2 }):=by unfold Hid line0;dsimp only;rw [if_pos ⟨rfl,hnm⟩]
   have HW:=zh hW;have HX:=zh hx;clear hW hx hS hnm;go_enter func178,ntmps178
   go_wp2_with (first
    |(go_at_call 133;(with_reducible refine zg (c1 _) fun w1 hb1=>?_);have hs1:=hb1.size;have cx1:=(zk cx hb1))
    |(go_at_call 213;(with_reducible refine zg (c2 _) fun w2 hb2=>?_);have hs2:=hb2.size;have HS2:Hid (PS w2 171 N Q p ts v):=(HS.out.below hb1).below hb2;have d0:w2.cell? ⟨Q,0,none⟩=some (strV p.nm):=HS2.out.cel 0;have f0:=HS2.out.fz 0;have hQ2:=HS2.out.lt))
   have hS3:=HS2.out.name nm;have hb3:Below N w (w2.setCell ⟨Q,0,none⟩ (strV nm)):=(hb1.mono hN).trans ((hb2.mono (by omega)).trans ((OnlyQ.set Q w2 0 (strV nm)).below hS3.bQ HS2.out.nN));have hW3:TxAt (w2.setCell ⟨Q,0,none⟩ (strV nm)) B off (nm::r):=((HW.out.below hb1 hBl).below hb2 (by omega)).only (OnlyQ.set Q w2 0 (strV nm)) hBQ;generalize w2.setCell ⟨Q,0,none⟩ (strV nm)=W at*;obtain⟨o2,hif,hW4⟩:=hW3.cut hcap;have c3:=fun w1 hb hP=>pnums_w r [1,2,3,4] B o2 (cap-1) Q 4 W w1 hW4 hBQ (hS3.room (by simp)) (by decide) rfl (by decide) (by omega) (fun x hx=>HX.out x (Xy _ hx)) hb hP;have HS3:=zh hS3;have HB3:=zh hb3;clear hS3 hb3 hW3 hW4 HS2 HS HW c1 c2 d0 f0 hb1 hb2 cx1 cx;go_region_with (go_at_call 179;(with_reducible refine(c3 _ (bad1 _ _) ?_).mono ?_);exact(plc4 W _ Q 1 2 3 4).drew;intro e w5 hN5;obtain⟨rfl,_⟩:=id hN5)
   go_wp2;go_ret;have:=(hN5.line HS3.out rfl (by decide) (by simp) (fun q=> { p with nm:=nm,mn:=q.1,mx:=q.2.1,po:=q.2.2.1,co:=q.2.2.2 }) (fun a b c d=>by simp [setAll])).from HB3.out;rw [HL.out,Option.map_map];exact this
