/- A part. -/
import Derived.Test.YtaekecgbdegemaaGreatDoorPtPlanNums
import Derived.Test.YtaekecgbdegemaaGreatDoorPtPrintPlan
set_option linter.all false
open Go.Proofs.Tryz
set_option maxHeartbeats 32000000
set_option maxRecDepth 8000
namespace Go.Proofs.YtaekecgbdegemaaGreatDoor
namespace Dsk
open Go.RowKit Lai Crn Pln Pie
variable {w w':World} {e:TypeId} {n B s c:Nat} {v:Value} {xs:List Value} {ns:List Int}

theorem join_tx (rows:List (List UInt8)) (sep:List UInt8) (w:World) (g off cv:Nat) (hT:TxAt w g off rows) (hc:rows.length≤cv) (hn:rows.length≤65536) (hk: ∀x∈rows,x.length≤65536) (hs:sep.length≤10):
  CB 60 #[.slice (some ⟨g,off,none⟩) rows.length cv,.string ⟨sep.toArray⟩] w (strV (Lib.join rows sep)):=by
 have em:(rows.map (fun x=>(⟨x.toArray⟩:ByteArray))).map (·.data.toList)=rows:=by
  rw [List.map_map];conv=>rhs;rw [←List.map_id rows]
  exact List.map_congr_left fun x _=>by simp
 have hjl:=join_len sep 65536 rows hk;have hle:rows.length*(sep.length+65536)≤65536*65546:=Nat.mul_le_mul hn (by omega)
 have := strings_Join g off cv (rows.map (fun x => (⟨x.toArray⟩ : ByteArray))) ⟨sep.toArray⟩ w (fun j x hj => by
  rw [XQ,XH]at hj;obtain⟨y,hy,rfl⟩:=hj;exact hT.2 j y hy) hT.1 (by rw [XE];omega) (by rw [XE];omega) (by rw [em];exact Xc hjl (by omega))
 rw [XE,em]at this;exact this
theorem join_ow (rows:List (List UInt8)) (sep:List UInt8) (w:World) (base:Nat) (ao:Option Addr) (cv:Nat) (hown:w.ownsRow base 9 1 (.slice ao rows.length cv) rows.length (rows.map strV)) (hn:rows.length≤65536) (hk: ∀x∈rows,x.length≤65536) (hs:sep.length≤10):
  CB 60 #[.slice ao rows.length cv,.string ⟨sep.toArray⟩] w (strV (Lib.join rows sep)):=by
 rcases hown.2 with⟨h,hz⟩|⟨g,cap,cur,h,hb,hh,hc,hm,hcs,ht⟩
 ·have hr:rows=[]:=XW hz;subst hr;exact(strings_Join_none ao cv ⟨sep.toArray⟩ w).mono fun e w' ⟨he,hw⟩=>⟨he,hw▸Below.refl _ _⟩
 ·simp only [Value.slice.injEq]at h;obtain⟨rfl,_,rfl⟩:=h;refine join_tx rows sep w g 0 cv ⟨(XM.1 hh).1,fun j x hj=> ?_⟩ hc hn hk hs;have:=hown.cells rfl j (strV x) (by rw [XQ,hj];rfl);have e:((⟨g,0,none⟩:Addr).add j)=⟨g,0+j,none⟩:=by simp [Addr.add];intro h;exact h.symm
  rw [←e];exact this
theorem ownB {base:Nat} {size:Nat} (h:w.ownsRow base e size v n xs) (hb:Below w.heap.size w w'):w'.ownsRow base e size v n xs:=by
 refine⟨h.1,?_⟩;rcases h.2 with g|⟨g,cap,cur,h1,h2,h3,h4⟩
 ·exact Or.inl g
 ·exact Or.inr ⟨g,cap,cur,h1,h2,(hb.block g (XM.1 h3).1).trans h3,h4⟩
def JnR (ns:List Int) (w:World) (v i:Value) (wr:World):Prop:= ∃(k:Nat) (a:Option Addr) (c:Nat),k≤ns.length∧v=.slice a k c∧i=.int .i64 k∧wr.ownsRow w.heap.size 9 1 (.slice a k c) k (((ns.take k).map Lib.itoa).map strV)∧Below w.heap.size w wr
theorem own_sh (h:w.ownsRow B e s v n xs): ∃a c,v=.slice a n c:=by
 rcases h.2 with⟨h1,h2⟩|⟨g,cap,cur,h1,_⟩
 ·exact⟨none,0,by rw [h1,h2]⟩
 ·exact⟨_,cap,h1⟩
theorem cell_1 (w:World) (x:Value) (t:TypeId): ∀(j:Nat) u,[x][j]? =some u→(w.alloc (.cells #[x] t)).cell? ((⟨w.heap.size,0,none⟩:Addr).add j)=some u:=by
 intro j u hj;cases j with
 |zero=>simp at hj;subst hj;simp [Addr.add]
 |succ j=>simp at hj
theorem join_any (sep:List UInt8) (ns:List Int) (G cap:Nat) (w:World) (hG: ∀(j:Nat) n,ns[j]? =some n→w.cell? ⟨G,j,none⟩=some (.int .i64 n)) (hl:ns.length≤3) (hI: ∀n∈ns,I n) (hs:sep.length≤10) (hP:PowAt w):
  CB 58 #[strV sep,.slice (some ⟨G,0,none⟩) ns.length cap] w (strV (Lib.join (ns.map Lib.itoa) sep)):=by
 obtain⟨i0,hi,hz0,hz1,hz2⟩:=info_parts info_str;have HI:=zh hI;have HG:=zh hG;clear hI hG;go_enter func58,ntmps58;go_wp2;go_loopw [5,10] (fun v i wr=>JnR ns w v i wr) (fun _ i _=>ns.length-(intOf i).toNat)
 case atStart=>exact⟨0,none,0,by omega,rfl,rfl,XO _ _ _ _,Below.refl _ _⟩
 case round=>
  obtain⟨k,va,vc,hk,rfl,rfl,ho,hb⟩:=hrel;by_cases hlt:k<ns.length
  ·have hlt':(k:Int)<(ns.length:Int):=by omega
   obtain⟨n,hn⟩: ∃n,ns[k]? =some n:=⟨ns[k],by simp [hlt]⟩
   have hGc:=HG.out k n hn;have hcw:wr.cell? ⟨G,k,none⟩=some (.int .i64 n):=(zk hGc hb)
   have hin:=HI.out n (Xk hn);have c0:=itoa_any n hin wr (hP.below hb (Xa _));have HN:=zh hn;have HO:=zh ho;have HB:=zh hb;clear hn ho hb hGc
   go_wp2_with (first
    |(go_at_call 30;(with_reducible refine zg c0 fun w1 hb1=>?_);have HB1:Hid (Below w.heap.size w w1):=(zu HB.out hb1);have ho1:=(ownB HO.out hb1).alloc (.cells #[strV (Lib.itoa n)] 9);have HBx:Hid (Below w.heap.size w (w1.alloc (.cells #[strV (Lib.itoa n)] 9))∧w.heap.size≤w1.heap.size):=⟨HB1.out.alloc HB1.out.size _,HB1.out.size⟩;clear hb1 c0)
    | (at_builtin; refine wpList_append_own _ rfl _ _ 23 rfl w.heap.size 9 i0 (.string ByteArray.empty) 1 16 underlying23 hi hz0 hz1 hz2 rfl (by decide) _ _ _ rfl ho1 ⟨w1.heap.size, 0, none⟩ 1 1 [strV (Lib.itoa n)] rfl rfl (cell_1 _ _ _) (fun u hu => by simp at hu; subst hu; rfl) (by unfold maxLen; omega) (by omega) (by have := HBx.out.2; simp; omega) ?_; intro v' w9 hown hgrow hnil; obtain ⟨va9, vc9, rfl⟩ := own_sh hown; have HX : Hid (JnR ns w (.slice va9 (k + 1) vc9) (.int .i64 ((k + 1 : Nat) : Int)) w9) := (by
      refine⟨k+1,va9,vc9,hlt,rfl,rfl,?_,HBx.out.1.grown hgrow HBx.out.1.size fun g hg=>(HO.out.lt g hg).1⟩;rw [XB,HN.out];simpa using hown);clear hown hgrow hnil))
   go_roundw
   case rel=>exact HX.out
   case measure=>simp [intOf];omega
  ·obtain rfl:k=ns.length:=by omega
   have c1:=join_ow (ns.map Lib.itoa) sep wr w.heap.size va vc (by rw [XE];rw [XC]at ho;exact ho) (by rw [XE];omega) (fun x hx=>by obtain⟨n,hn,rfl⟩:=XS.1 hx;have:=itoa_len20 (HI.out n hn);omega) hs;rw [XE]at c1;have HB:=zh hb;clear hb ho;go_wp2_with(go_at_call 60;(with_reducible refine zg c1 fun w1 hb1=>?_))
   go_ret;exact⟨rfl,(zu HB.out hb1)⟩

def NumsAt (w:World) (ao:Option Addr) (ns:List Int):Prop:= ∀(j:Nat) n,ns[j]? =some n→ ∃g,ao=some ⟨g,0,none⟩∧w.cell? ⟨g,j,none⟩=some (.int .i64 n)
theorem NumsAt.below {ao:Option Addr} (h:NumsAt w ao ns) (hb:Below w.heap.size w w'):NumsAt w' ao ns:=fun j n hj=>by
 obtain⟨g,e,hc⟩:=h j n hj
 exact⟨g,e,(zk hc hb)⟩
def readP (N:Nat) (M:Bool) (ws:List (List UInt8)):Option (List Int×List (List UInt8)):=
 if N≤ws.length∧(∀x∈ws.take N,numP x≠none)∧M=decide (0<ws.length-N)then some ((ws.take N).filterMap numP,ws.drop N)else none
def ReadA (B0 N:Nat) (M:Bool) (ws:List (List UInt8)) (A:Nat) (e:Ending) (w':World):Prop:=
 (readP N M ws=none∧ ∃v1 v2,e=.returned (.tuple #[v1,v2,.bool false]))∨
 ∃ns more ao c off c',readP N M ws=some (ns,more)∧more.length≤c'∧e=.returned (.tuple #[.slice ao ns.length c,.slice (some ⟨A,off,none⟩) more.length c',.bool true])∧(NumsAt w' ao ns∧ ∀g,ao=some ⟨g,0,none⟩→B0≤g)∧TxAt w' A off more
def RdL (N:Nat) (ws:List (List UInt8)) (_w w:World) (v i:Value) (wr:World):Prop:= ∃(k:Nat) (a:Option Addr) (c:Nat),k≤N∧v=.slice a k c∧i=.int .i64 k∧(∀x∈ws.take k,numP x≠none)∧((ws.take k).filterMap numP).length=k∧wr.ownsRow w.heap.size 3 1 (.slice a k c) k (((ws.take k).filterMap numP).map (Value.int .i64))∧Below w.heap.size w wr
theorem info_i:(prog.info? 3).map (fun i=>(i.zero,i.size,i.bytes))=some (some (.int .i64 0),1,8):=by kernel_rfl
theorem numsAt_own {k:Nat} {va:Option Addr} (h:w.ownsRow B 3 1 (.slice va k c) k (ns.map (Value.int .i64))) (_hk:ns.length=k):NumsAt w va ns:=fun j n hj=>by
 rcases h.2 with⟨h1,h2⟩|⟨g,cap,cur,h1,hb,hh,hc,hm,hcs,ht⟩
 ·cases h1
  have:=(Xe.1 hj).1
  omega
 ·cases h1
  refine⟨g,rfl,?_⟩
  have:=h.cells rfl j (.int .i64 n) (by rw [XQ,hj];rfl)
  have e:((⟨g,0,none⟩:Addr).add j)=⟨g,j,none⟩:=by simp [Addr.add];intro h;exact h.symm
  rw [←e];exact this
theorem own_new {g:Nat} (h:w.ownsRow B e s (.slice (some ⟨g,0,none⟩) n c) n xs):B≤g:=by
 rcases h.2 with⟨h1,_⟩|⟨g',cap,cur,h1,hb,_⟩
 ·cases h1
 ·cases h1;exact hb
theorem fn_nil (g:Nat) (ca cb:Array Value) (w:World):(binOp .eql 54 (.func (.func g) ca cb) .nilFunc).run prog w=.ok (.bool false) w:=by kernel_rfl
theorem read_any (N:Nat) (M Wn:Bool) (g:Nat) (ca cb:Array Value) (ws:List (List UInt8)) (A off cap:Nat) (w:World) (hT:TxAt w A off ws) (hN:N≤3) (hcap:ws.length≤cap∧cap≤65536) (hk: ∀x∈ws,x.length≤65536) (hg:NeAt w) (hP:PowAt w):
  Calls prog 27 #[.agg #[.int .i64 N,.bool M,.bool Wn,.func (.func g) ca cb],.slice (some ⟨A,off,none⟩) ws.length cap] w fun e w'=>ReadA w.heap.size N M ws A e w'∧Below w.heap.size w w':=by
 have hq:=fn_nil g ca cb;by_cases hlen:N≤ws.length
 ·obtain⟨i0,hi,hz0,hz1,hz2⟩:=info_parts info_i;have hlen':(N:Int)≤(ws.length:Int):=by omega
  have hlen2: ¬ws.length<N:=by omega
  obtain⟨W,hW⟩: ∃W,W=w.alloc (.cells #[.int .i64 N,.bool M,.bool Wn,.func (.func g) ca cb] 56):=⟨_,rfl⟩
  have hbW:Below w.heap.size w W:=by rw [hW];exact(Below.refl _ _).alloc (Xa _) _
  have hzW:w.heap.size<W.heap.size:=by rw [hW];simp
  have x0:W.cell? ⟨w.heap.size,0,none⟩=some (.int .i64 N):=by rw [hW];simp
  have x1:W.cell? ⟨w.heap.size,1,none⟩=some (.bool M):=by rw [hW];simp
  have x3:W.cell? ⟨w.heap.size,3,none⟩=some (.func (.func g) ca cb):=by rw [hW];simp
  have HW:=zh hW;clear hW;go_enter func27,ntmps27;go_upto_region 1 with fail
  rw [←HW.out];go_wp2;have HB0:=zh hbW;have HT:=zh hT;have HK:=zh hk;have X1:=zh x1;have X0:=zh x0;clear hbW hT hk x1 x0 x3;go_loopw [4,26] (fun v i wr=>RdL N ws w W v i wr) (fun _ i _=>N-(intOf i).toNat)
  case atStart=>exact⟨0,none,0,Xx _,rfl,rfl,fun x hx=>by simp at hx,by simp,XO _ _ _ _,Below.refl _ _⟩
  case round=>
   obtain⟨k,va,vc,hk,rfl,rfl,ha,hf,ho,hb⟩:=hrel;have HA:=zh ha;have HF:=zh hf;have HO:=zh ho;have HBW:=zh hb;have HB:Hid (Below w.heap.size w wr):=(zu HB0.out hb)
   clear ha hf ho;by_cases hlt:k<N
   ·have hlt':(k:Int)<(N:Int):=(by omega);obtain⟨x,hx⟩: ∃x,ws[k]? =some x:=⟨ws[k]'(by omega),by simp⟩
    have cx:=HT.out.2 k x hx;have cw:wr.cell? ⟨A,off+k,none⟩=some (strV x):=(HB.out.cell (p:=⟨A,off+k,none⟩) (Xj w _ cx)).trans cx;have HX:=zh hx;have hxl:=HK.out x (Xk hx);have hg1:=hg.below HB.out;have hP1:=hP.below HB.out (Xa _);clear hx cx hb;cases hv:numP x with
    |none=>
     have c0:=num_no hxl hg1 hP1 hv;have hR:readP N M ws=none:=if_neg fun h=>h.2.1 x (Xk (by rw [List.getElem?_take_of_lt hlt];exact HX.out)) hv;clear hv;go_wp2_with(go_at_call 46;(with_reducible refine c0.mono ?_);rintro e w1 ⟨⟨n,rfl⟩,hb1⟩)
     go_ret3
     exact⟨Or.inl ⟨hR,_,_,rfl⟩,(zu HB.out hb1)⟩
    |some n=>
     have c0:=num_yes hxl hg1 hP1 hv;have HV:=zh hv;clear hv
     go_wp2_with (first
      |(go_at_call 46;(with_reducible refine zg c0 fun w1 hb1=>?_);have HB1:Hid (Below W.heap.size W w1):=(zu HBW.out hb1);have ho1:=(ownB HO.out hb1).alloc (.cells #[.int .i64 n] 3);have HBx:Hid (Below W.heap.size W (w1.alloc (.cells #[.int .i64 n] 3))∧W.heap.size≤w1.heap.size):=⟨HB1.out.alloc HB1.out.size _,HB1.out.size⟩;clear hb1 c0)
      | (at_builtin; refine wpList_append_own _ rfl _ _ 58 rfl W.heap.size 3 i0 (.int .i64 0) 1 8 underlying58 hi hz0 hz1 hz2 rfl (by decide) _ _ _ rfl ho1 ⟨w1.heap.size, 0, none⟩ 1 1 [.int .i64 n] rfl rfl (cell_1 _ _ _) (fun u hu => by simp at hu; subst hu; rfl) (by unfold maxLen; omega) (by omega) (by have := HBx.out.2; simp; omega) ?_; intro v' w9 hown hgrow hnil; obtain ⟨va9, vc9, rfl⟩ := own_sh hown; have HY : Hid (RdL N ws w W (.slice va9 (k + 1) vc9) (.int .i64 ((k + 1 : Nat) : Int)) w9) := (by
        refine⟨k+1,va9,vc9,hlt,rfl,rfl,?_,?_,?_,HBx.out.1.grown hgrow HBx.out.1.size fun g hg=>(HO.out.lt g hg).1⟩
        ·intro y hy;rw [XB,HX.out]at hy;rcases Xp.1 hy with h|h
         ·exact HA.out y h
         ·obtain rfl:y=x:=by simpa using h
          rw [HV.out];simp
        ·rw [XB,HX.out,List.filterMap_append,Xg,HF.out];simp [HV.out]
        ·rw [XB,HX.out,List.filterMap_append];have e:(some x).toList.filterMap numP=[n]:=by simp [HV.out]
         rw [e,X2];exact hown);clear hown hgrow hnil))
     go_roundw
     case rel=>exact HY.out
     case measure=>simp [intOf];omega
   ·obtain rfl:k=N:=by omega
    have hcM:=X1.out;have hcN:=X0.out;have d1:wr.cell? ⟨w.heap.size,1,none⟩=some (.bool M):=(zk hcM hb)
    have d0:wr.cell? ⟨w.heap.size,0,none⟩=some (.int .i64 k):=(zk hcN hb)
    clear hcM hcN hb;have hS: ∀M',M'=decide (0<ws.length-k)→readP k M' ws=some ((ws.take k).filterMap numP,ws.drop k):=fun M' h=>if_pos ⟨hlen,HA.out,h⟩;have hNo: ∀M',¬M'=decide (0<ws.length-k)→readP k M' ws=none:=fun M' h=>if_neg fun g=>h g.2.2;have hNu:Hid (NumsAt wr va ((ws.take k).filterMap numP)∧ ∀g,va=some ⟨g,0,none⟩→w.heap.size≤g):=⟨numsAt_own HO.out HF.out,fun g hg=>Xc (Xw hzW) (own_new (hg▸HO.out))⟩
    have hDr : Hid (∀ off', (off' = off + k ∨ ws.length - k = 0) → TxAt wr A off' (ws.drop k)) := fun off' ho => ⟨Xb HT.out.1 HB.out.size, fun j x hx => by
     have hj:=(Xe.1 hx).1;rw [XT]at hj;obtain rfl:off'=off+k:=by omega
     have cx:=HT.out.2 (k+j) x (by rw [←Yk];exact hx);rw [show off+k+j=off+(k+j) by omega];exact(HB.out.cell (p:=⟨A,off+(k+j),none⟩) (Xj w _ cx)).trans cx⟩
    obtain⟨off',hof,he⟩: ∃off',(off'=off+k∨ws.length-k=0)∧(if cap=k then some (⟨A,off,none⟩:Addr)else some ⟨A,off+k,none⟩)=some ⟨A,off',none⟩:=by
     by_cases h:cap=k
     ·exact⟨off,by omega,by rw [if_pos h]⟩
     ·exact⟨off+k,Or.inl rfl,by rw [if_neg h]⟩
    have hDr:=hDr.out off' hof;have HDr:=zh hDr;have hle:(ws.drop k).length≤cap-k:=by rw [XT];omega
    clear hg hP hDr hof;rcases Nat.eq_zero_or_pos (ws.length-k)with hz|hz<;>cases M
    all_goals
     go_upto_region 12 with fail
     all_goals
      go_quiet (fail)
      go_wp2;go_ret3
      refine⟨?_,⟨HB.out.os,HB.out.tape,HB.out.output,HB.out.size,HB.out.block⟩⟩
      first
       |exact Or.inl ⟨hNo _ (by simp [hz]),_,_,rfl⟩
       |exact Or.inr ⟨_,_,va,vc,off',cap-k,hS _ (by simp [hz]),hle,(by rw [HF.out,XT,hz];rfl),hNu.out,HDr.out⟩
       |exact Or.inr ⟨_,_,va,vc,off',cap-k,hS _ (by simp [hz]),hle,(by rw [HF.out,XT];rfl),hNu.out,HDr.out⟩
 ·have hlen':(ws.length:Int)<N:=by omega
  have hR:readP N M ws=none:=if_neg fun h=>hlen h.1;go_enter func27,ntmps27;go_wp2;go_ret3
  exact⟨Or.inl ⟨hR,_,_,rfl⟩,(Below.refl _ _).alloc (Xa _) _⟩
