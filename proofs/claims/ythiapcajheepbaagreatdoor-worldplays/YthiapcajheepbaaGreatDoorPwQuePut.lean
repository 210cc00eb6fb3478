/- A part. -/
import Derived.Test.YthiapcajheepbaaGreatDoorPwQueWalks
import Derived.Deep.RegionLaw
set_option linter.all false
open Go.Proofs.Tryz
set_option maxHeartbeats 32000000
set_option maxRecDepth 8000
namespace Go.Proofs.YthiapcajheepbaaGreatDoor
namespace Que
open Go.RowKit
variable {P:Program} {ops:Array Oper} {o:Oper} {a:Act} {w:World} {Q:Exit→Act→World→Prop} {E:Prop} {g B cap:Nat} {e:TypeId} {L:List M}

theorem step_own_at {K:Act→World→Prop}
  (hg:o.guard=none) (s x:Operand) (t:TypeId) (hop:o.op=Op.call { callee:=Callee.builtin Builtin.append,args:=#[s,x],argTypes:=#[t,t] })
  (base:Nat) (e:TypeId) (i:TypeInfo) (z:Value) (size bytes:Nat) (h1:P.underlying t=some (.slice e)) (h2:P.info? e=some i) (h3:i.zero=some z) (h4:i.size=size) (h5:i.bytes=bytes) (h6:z.cells.size=size) (h7:0<size)
  (v:Value) (n:Nat) (xs:List Value) (hs:a.eval s=v) (hown:w.ownsRow base e size v n xs)
  (ad:Addr) (m c:Nat) (news:List Value) (hx:a.eval x=.slice (some ad) m c) (hn:news.length=m*size) (hc: ∀j u,news[j]? =some u→w.cell? (ad.add j)=some u) (h1c: ∀u∈news,u.oneCell'=true)
  (b1:n+m≤maxLen) (b2:(n+m)*bytes≤140737488355328) (hb:base≤w.heap.size)
  (hK: ∀v' w',w'.ownsRow base e size v' (n+m) (xs++news)→w.grownBy w' v.ownBlock→(v'.ownBlock=v.ownBlock∨v'.ownBlock=some w.heap.size)→K (a.put o.dst v') w'):
  if Region.wanted o (yielded ops a.tmps)=true then Oper.wp P o a w K Q else E:=by
 have hw:Region.wanted o (yielded ops a.tmps)=true:=by simp [Region.wanted,hg]
 rw [if_pos hw];obtain⟨v',w',hr,g2,g3,_,g5⟩:=run_append_own_at (P:=P) w base t o.type e i z size bytes h1 h2 h3 h4 h5 h6 h7 v n xs hown ad m c news hn hc h1c b1 b2 hb;unfold Oper.wp execOp;simp only [hop,resolve,invoke,builtin,XX,X8,X9,Ym,XV,X5,hs,hx,hr];exact hK v' w' g2 g3 g5
theorem cell_three (w:World) (e:TypeId) (a b c:Value): ∀(j:Nat) (u:Value),[a,b,c][j]? =some u→(w.alloc (.cells #[a,b,c] e)).cell? ((⟨w.heap.size,0,none⟩:Addr).add j)=some u:=by
 intro j u h;match j,h with
 |0,h=>simp at h;subst h;simp [Addr.add]
 |1,h=>simp at h;subst h;simp [Addr.add]
 |2,h=>simp at h;subst h;simp [Addr.add]
 |j+3,h=>simp at h

theorem new_any (w:World):Calls prog 14 #[] w fun e w'=>e=.returned (.pointer (some ⟨w.heap.size,0,none⟩))∧QAt w' 128 w.heap.size w.heap.size 0 1 0 (.slice none 0 0) []∧Below w.heap.size w w':=by
 go_enter func14,ntmps14;go_wp2;go_ret;exact⟨rfl,⟨by simp,Xa _,by simp,by simp,fun j=>by simp,XO _ _ _ _,by simp [Value.ownBlock]⟩,(Below.refl _ _).alloc (Xa _) _⟩

theorem put_no (Q:Nat) (n:Int) (w:World) (h:n<1):
  CS 22 #[.pointer (some ⟨Q,44,none⟩),.int .i64 n] w (.tuple #[.int .i64 0,.int .i64 1]):=by
 go_enter func22,ntmps22;go_wp2;go_ret2;exact⟨rfl,rfl⟩
theorem put_full (B Q:Nat) (last:Int) (v:Value) (L:List M) (n:Int) (w:World) (hA:QAt w 128 B Q 44 45 last v L) (hL:L.length≤200) (h:1≤n) (h2:200<L.length+n):
  CS 22 #[.pointer (some ⟨Q,44,none⟩),.int .i64 n] w (.tuple #[.int .i64 0,.int .i64 6]):=by
 obtain⟨ao,cap,rfl,hc1,hc2,hao⟩:=hA.form;have cS:=hA.cS;have h3:(200:Int)-(L.length:Int)<n:=by omega
 have h4: ¬n<1:=by omega
 go_enter func22,ntmps22;go_wp2;go_ret2;exact⟨rfl,rfl⟩

def PutR (B Q oN oS:Nat) (last:Int) (v:Value) (L:List M) (n:Nat) (w:World) (i:Value) (wr:World):Prop:=
 ∃(k:Nat) (v':Value),k≤n∧i=.int .i64 k∧QAt wr 128 B Q oN oS (last+k) v' (L++news last k)∧Turn rQ Q v v' w wr
theorem put_yes (B Q:Nat) (last:Int) (v:Value) (L:List M) (n:Nat) (w:World) (hA:QAt w 128 B Q 44 45 last v L) (hl:0≤last∧last≤1000000) (h:1≤n) (h2:L.length+n≤200):
  Calls prog 22 #[.pointer (some ⟨Q,44,none⟩),.int .i64 (n:Int)] w fun e w'=>e=.returned (.tuple #[.int .i64 (last+1),.int .i64 0])∧ ∃v',QAt w' 128 B Q 44 45 (last+n) v' (L++news last n)∧Turn rQ Q v v' w w':=by
 obtain⟨i0,hi,hz0,hz1,hz2⟩:=info_parts info_msg;have hT0:=Turn.refl (r:=rQ) Q v w;obtain⟨ao,cap,hv,hc1,hc2,hao⟩:=hA.form;have cS:=hA.cS;have cN:=hA.cN;rw [hv]at cS;have h3: ¬(200:Int)-(L.length:Int)<n:=by omega
 have h4: ¬(n:Int)<1:=by omega
 go_enter func22,ntmps22;go_wp2;go_loopw [23] (fun i wr=>PutR B Q 44 45 last v L n w i wr) (fun i _=>n-(intOf i).toNat)
 case atStart=>exact⟨0,v,by omega,rfl,by simpa [news_zero]using hA,hT0⟩
 case round=>
  clear hA cS cN hv hao hc1 hc2 hT0;obtain⟨k,v1,hk,rfl,hA,hT⟩:=hrel;by_cases hlt:k<n
  ·have hlt':(k:Int)<(n:Int):=by omega
   have cS:=hA.cS;have cN:=hA.cN;have f0:=hA.fz 44;have f1:=hA.fz 45;have hQl:=hA.lt;have hA1:=hA.setN (by decide) (last+k+1);have hT1:=hT.trans (Turn.setQ 44 (.int .i64 (last+k+1)));clear hA hT;have cS1:=hA1.cS;have cN1:=hA1.cN;have f01:=hA1.fz 44;have f11:=hA1.fz 45;go_wp2_with fail
   generalize wr.setCell ⟨Q,44,none⟩ (.int .i64 (last+k+1))=w1 at*;have hQ1:=hA1.lt;have hBs:B≤w1.heap.size:=by have:=hA1.bQ;omega
   have hlen:(L++news last k).length=L.length+k:=by rw [Xg,news_len]
   have hown:=hA1.own;rw [hlen]at hown;have HA:=zh hA1;have HT:=zh hT1;clear hA1 hT1 cS cN f0 f1 f01;go_region_law (refine step_own_at rfl (.tmp 36) (.tmp 42) 60 rfl B 128 i0 (.agg #[.int .i64 0,.int .i64 0,.bool false]) 3 24 underlying60 hi hz0 hz1 hz2 rfl (by decide) _ (L.length+k) (cels (L++news last k)) rfl ((hown.drew).alloc _) ⟨w1.heap.size,0,none⟩ 1 1 [.int .i64 (last+k+1),.int .i64 0,.bool false] rfl rfl (cell_three _ _ _ _ _) (fun u hu=>by simp at hu;rcases hu with rfl|rfl|rfl<;>rfl) (by unfold maxLen;omega) (by omega) (by simp;omega) ?_;intro v' w3 hown3 hgrow3 hloc3;obtain⟨g3,cap3,rfl⟩:=own_succ hown3;have hQ3:=HA.out.appended hgrow3;have cS3:w3.cell? ⟨Q,45,none⟩=some v1:=(Xf (w:=w1) (a:=⟨Q,45,none⟩) hQ3).trans cS1;have f13:w3.frozen? ⟨Q,45,none⟩=false:=(Xl (w:=w1) (a:=⟨Q,45,none⟩) hQ3).trans f11)
   all_goals
    have hL':(L++news last (k+1)).length=L.length+k+1:=by rw [Xg,news_len];omega
    have hC':cels (L++news last k)++ [.int .i64 (last+k+1),.int .i64 0,.bool false]=cels (L++news last (k+1)):=by
     rw [←news_step,←X4,cels_append (L++news last k),show last+1+(k:Int)=last+k+1 by omega];rfl
    rw [hC',←hL']at hown3;have hA3:=HA.out.regrown (by decide) hQ3 hown3 (own_off HA.out hloc3);rw [hL']at hA3;have hT3:=(HT.out.trans (Turn.appended hgrow3 hloc3)).setRow 45 (.slice (some ⟨g3,0,none⟩) (L.length+k+1) cap3);go_wp2;go_roundw
    case rel=>exact⟨k+1,_,by omega,rfl,by rw [show last+((k+1:Nat):Int)=last+k+1 by omega];exact hA3,hT3⟩
    case measure=>simp [intOf];omega
  ·obtain rfl:k=n:=by omega
   go_wp2;go_ret2;exact⟨rfl,v1,hA,hT⟩

theorem lease_ticks (Q:Nat) (now ticks:Int) (w:World) (h: ¬(1≤ticks∧ticks≤100000)):
  CS 23 #[.pointer (some ⟨Q,44,none⟩),.int .i64 now,.int .i64 ticks] w (.tuple #[.int .i64 0,.int .i64 1]):=by
 by_cases h2:ticks<1
 ·go_enter func23,ntmps23;go_wp2;go_ret2;exact⟨rfl,rfl⟩
 ·have h3:100000<ticks:=by omega
  go_enter func23,ntmps23;go_wp2;go_ret2;exact⟨rfl,rfl⟩
theorem giveBackS (B Q cap:Nat) (ao:Option Addr) (last:Int) (L L1:List M) (now:Int) (w:World) (hA:QAt w 128 B Q 44 45 last (.slice ao L.length cap) L) (h0:0≤now) (h1:now≤1099511627776) (hL:L.length≤200) (h:backL now L=L1):
  Calls prog 68 #[.pointer (some ⟨Q,44,none⟩),.int .i64 now] w fun e w'=>e=.returned (.int .i64 0)∧QAt w' 128 B Q 44 45 last (.slice ao L1.length cap) L1∧Turn rQ Q (.slice ao L.length cap) (.slice ao L1.length cap) w w':=by
 refine(giveBack_yes B Q last _ L now w hA h0 h1 hL).mono ?_;rintro e w' ⟨rfl,hA1,hT1⟩;subst h;rw [backL_len];exact⟨rfl,hA1,hT1⟩
theorem lease_none (B Q:Nat) (last:Int) (v:Value) (L L1:List M) (now ticks:Int) (w:World) (hA:QAt w 128 B Q 44 45 last v L) (hL:L.length≤200) (h1:1≤ticks) (h2:ticks≤100000) (h3:0≤now) (h4:now≤1099511627776) (hb:backL now L=L1) (hn:L1.findIdx? free=none):
  Calls prog 23 #[.pointer (some ⟨Q,44,none⟩),.int .i64 now,.int .i64 ticks] w fun e w'=>e=.returned (.tuple #[.int .i64 0,.int .i64 4])∧ ∃v',QAt w' 128 B Q 44 45 last v' L1∧Turn rQ Q v v' w w':=by
 have hl:L1.length≤200:=by rw [←hb,backL_len];exact hL
 obtain⟨ao,cap,rfl,hc1,hc2,hao⟩:=hA.form;have c:=giveBackS B Q cap ao last L L1 now w hA h3 h4 hL hb;have c2:=fun w hR=>free_none ao cap L1 w hR hl hn;clear hA hb hn hao hc1 hc2;go_enter func23,ntmps23
 go_wp2_with (first
  |(go_at_call 68;(with_reducible refine c.mono ?_);rintro e w1 ⟨rfl,hA1,hT1⟩;have cS1:=hA1.cS;have hR1:=hA1.row)
  |(go_at_call 69;(with_reducible refine zg (c2 w1 hR1) fun w2 hb2=>?_)))
 go_ret2;exact⟨rfl,_,hA1.below hb2,hT1.trans (Turn.of_below hb2)⟩
theorem lease_yes (B Q:Nat) (last:Int) (v:Value) (L L1:List M) (now ticks:Int) (i:Nat) (m:M) (w:World) (hA:QAt w 128 B Q 44 45 last v L) (hL:L.length≤200) (h1:1≤ticks) (h2:ticks≤100000) (h3:0≤now) (h4:now≤1099511627776) (hb:backL now L=L1) (hn:L1.findIdx? free=some i) (hm:L1[i]? =some m):
  Calls prog 23 #[.pointer (some ⟨Q,44,none⟩),.int .i64 now,.int .i64 ticks] w fun e w'=>e=.returned (.tuple #[.int .i64 m.id,.int .i64 0])∧ ∃v',QAt w' 128 B Q 44 45 last v' (L1.set i ⟨m.id,now+ticks,true⟩)∧Turn rQ Q v v' w w':=by
 have hl:L1.length≤200:=by rw [←hb,backL_len];exact hL
 have hil:i<L1.length:=(Xe.1 hm).1;obtain⟨ao,cap,rfl,hc1,hc2,hao⟩:=hA.form;obtain⟨g,rfl⟩:=hao (by rw [←hb,backL_len]at hil;omega);have c:=giveBackS B Q cap (some ⟨g,0,none⟩) last L L1 now w hA h3 h4 hL hb;have c2:=fun w hR=>free_some (some ⟨g,0,none⟩) cap L1 w hR hl hn;have hil':(i:Int)<(L1.length:Int):=by omega
 clear hA hb hn hao hc1 hc2;go_enter func23,ntmps23
 go_wp2_with (first
  |(go_at_call 68;(with_reducible refine c.mono ?_);rintro e w1 ⟨rfl,hA1,hT1⟩;have cS1:=hA1.cS;have hR1:=hA1.row)
  |(go_at_call 69;(with_reducible refine zg (c2 w1 hR1) fun w2 hb2=>?_);have hA2:=hA1.below hb2;have hT2:=hT1.trans (Turn.of_below hb2);obtain⟨c0,c1,c2,fz⟩:=hA2.cells rfl hm;have f1:=fz (i*3+1);have f2:=fz (i*3+2);have cS2:=hA2.cS;have hgQ:g≠Q:=fun e=>hA2.ne (by rw [e];rfl);have hA3:=hA2.set2 rfl hm (now+ticks) true;have hT3:=(hT2.trans (Turn.setG (i*3+2) (.bool true))).trans (Turn.setG (i*3+1) (.int .i64 (now+ticks)));clear hA2 hT2 hA1 hT1 hR1 fz))
 go_ret2;exact⟨rfl,_,hA3,hT3⟩

theorem step_room {W1:World} {K:Act→World→Prop}
  (hg:o.guard=none) (s x:Operand) (t:TypeId) (hop:o.op=Op.call { callee:=Callee.builtin Builtin.append,args:=#[s,x],argTypes:=#[t,t] })
  (e:TypeId) (i:TypeInfo) (h1:P.underlying t=some (.slice e)) (h2:P.info? e=some i)
  (g n cap:Nat) (cur:Array Value) (hgr:w.heap[g]? =some (.cells cur e (0,0))) (hs:a.eval s=.slice (some ⟨g,0,none⟩) n cap)
  (ad:Addr) (m c:Nat) (news:List Value) (hx:a.eval x=.slice (some ad) m c) (hn:news.length=m*i.size) (hc: ∀j u,news[j]? =some u→w.cell? (ad.add j)=some u) (h1c: ∀u∈news,u.oneCell'=true)
  (hroom:n+m≤cap) (hfit:n*i.size+news.length≤cur.size)
  (hW:W1=w.setRow g (cur.toList.take (n*i.size)++news++cur.toList.drop (n*i.size+news.length)).toArray)
  (hK:K (a.put o.dst (.slice (some ⟨g,0,none⟩) (n+m) cap)) W1):
  if Region.wanted o (yielded ops a.tmps)=true then Oper.wp P o a w K Q else E:=by
 have hw:Region.wanted o (yielded ops a.tmps)=true:=by simp [Region.wanted,hg]
 rw [if_pos hw];have hr:=run_append_room (P:=P) w t o.type e i h1 h2 g n cap cur hgr ad m c news hn hc h1c hroom hfit;rw [←hW]at hr;unfold Oper.wp execOp;simp only [hop,resolve,invoke,builtin,XX,X8,X9,Ym,XV,X5,hs,hx,hr];exact hK

theorem run_clear_row (w:World) (t e ty:TypeId) (z:Value) (ht:P.underlying t=some (.slice e)) (hv:(zeroValue e).run P w=.ok z w) (h1: ∀u∈z.cells.toList,u.oneCell'=true) (g o c:Nat) (cur:Array Value)
  (hg:w.heap[g]? =some (.cells cur e (0,0))) (hfit:o+z.cells.size≤cur.size):
  (Builtin.clear_ #[t] ty #[.slice (some ⟨g,o,none⟩) 1 c]).run P w=.ok (.tuple #[]) (w.setRow g (cur.toList.take o++z.cells.toList++cur.toList.drop (o+z.cells.toList.length)).toArray):=by
 have hzc:(Builtin.zeroCells z.cells 1).toList=z.cells.toList:=by
  apply Yo;intro j;simp [Builtin.zeroCells];by_cases hj:j<z.cells.size
  ·simp [hj,Nat.mod_eq_of_lt hj]
  ·simp [hj]
 have hst:=run_storeCells_at P g o e z.cells.toList 0 cur w hg (by simpa using hfit) h1;simp only [XD]at hst;simp [Builtin.clear_,run_underlying ht,hv,hzc,hst]
theorem delete_one (B g n cap i:Nat) (xs:List Value) (w:World) (hown:w.ownsRow B 128 3 (.slice (some ⟨g,0,none⟩) n cap) n xs) (hone0: ∀u∈xs,u.oneCell'=true) (hi:i<n) (hn:n≤200):
  Calls prog 72 #[.slice (some ⟨g,0,none⟩) n cap,.int .i64 (i:Int),.int .i64 ((i:Int)+1)] w fun e w'=>
   e=.returned (.slice (some ⟨g,0,none⟩) (n-1) cap)∧w'.ownsRow B 128 3 (.slice (some ⟨g,0,none⟩) (n-1) cap) (n-1) (xs.take (i*3)++xs.drop ((i+1)*3))∧w.grownBy w' (some g):=by
 obtain⟨i0,hi0,hz0,hz1,hz2⟩:=info_parts info_msg;have hi1:(i:Int)<n:=by omega
 have hp2:((i:Int)+1).toNat=i+1:=by omega
 have hp1:(i:Int)+1≤(n:Int):=by omega
 have hp0:(0:Int)≤(i:Int)+1:=by omega
 have hp3: ¬(i:Int)=(i:Int)+1:=by omega
 obtain⟨hxl,hform⟩:=hown;rcases hform with⟨h0,_⟩|⟨g',cap',cur,h0,hBg,hgr,hnc,hcm,hcs,htake⟩
 ·cases h0
 cases h0;have hgr0:=zh hgr;have hic:i≤cap:=by omega
 have hjc:i+1≤cap:=by omega
 have hcapl:cap≤9223372036854775807:=by unfold maxLen at hcm;omega
 obtain⟨news,hnews⟩: ∃news,news=xs.drop ((i+1)*3):=⟨_,rfl⟩
 have hlen:news.length=(n-(i+1))*3:=by rw [hnews,XT,hxl];omega
 have hone: ∀u∈xs,u.oneCell'=true:=hone0;obtain⟨A,hA,hsrc⟩: ∃A:Addr,(if cap=i+1 then some (⟨g,0,none⟩:Addr)else some ⟨g,(i+1)*3,none⟩)=some A∧Hid (∀t u,news[t]? =some u→w.drew.cell? (A.add t)=some u):=by
  by_cases h:cap=i+1
  ·refine⟨⟨g,0,none⟩,by simp [h],fun t u hu=> ?_⟩;have h0:news.length=0:=by rw [hlen];omega
   rw [Yy.1 h0]at hu;simp at hu
  ·refine⟨⟨g,(i+1)*3,none⟩,by simp [h],fun t u hu=> ?_⟩;have ht:t<(n-(i+1))*3:=by
    have:=(Xe.1 hu).1;rwa [hlen]at this
   rw [Addr.add_lit];show w.cell? _=some u;rw [cell_of_row w g _ cur _ (0,0) hgr];rw [hnews,Yk,←htake,List.getElem?_take,if_pos (by omega)]at hu;simpa using hu
 have hnew1:Hid (∀u∈news,u.oneCell'=true):=fun u hu=>hone u (by rw [hnews]at hu;exact List.mem_of_mem_drop hu);have hlen':Hid (news.length=(n-(i+1))*i0.size):=by unfold Hid;rw [hz1];exact hlen
 have hfit:Hid (i*i0.size+news.length≤cur.size):=by unfold Hid;rw [hz1,hlen,hcs];omega
 obtain⟨W1,hW1⟩: ∃W1,W1=w.drew.setRow g (cur.toList.take (i*i0.size)++news++cur.toList.drop (i*i0.size+news.length)).toArray:=⟨_,rfl⟩
 have hg1:W1.heap[g]? =some (.cells (cur.toList.take (i*3)++news++cur.toList.drop (i*3+news.length)).toArray 128 (0,0)):=by
  rw [hW1,hz1];exact setRow_heap w.drew g cur _ _ _ hgr
 have hs1:(cur.toList.take (i*3)++news++cur.toList.drop (i*3+news.length)).toArray.size=cap*3:=by
  simp [hlen];omega
 have ht1:(cur.toList.take (i*3)++news++cur.toList.drop (i*3+news.length)).take ((n-1)*3)=xs.take (i*3)++xs.drop ((i+1)*3):=by
  have e1:cur.toList.take (i*3)=xs.take (i*3):=by rw [←htake,List.take_take,Nat.min_eq_left (by omega)]
  rw [e1,←hnews];have hl2:(xs.take (i*3)++news).length=(n-1)*3:=by rw [Xg,Xt,hxl,hlen];omega
  rw [←hl2];exact List.take_left
 have HW:=zh hW1;have hb1:Hid (w.grownBy W1 (some g)):=by
  unfold Hid;rw [hW1];exact⟨rfl,rfl,rfl,by simp,fun k _ hk=>setRow_other w.drew g k _ (fun e=>hk (by rw [e]))⟩
 generalize (cur.toList.take (i*3)++news++cur.toList.drop (i*3+news.length))=cur1 at hg1 hs1 ht1;have hcl:=fun ty=>run_clear_row (P:=prog) W1 60 128 ty (.agg #[.int .i64 0,.int .i64 0,.bool false]) underlying60 (by kernel_rfl) (by simp [Value.cells,Value.oneCell']) g ((i+(n-(i+1)))*3) (cap-(i+(n-(i+1)))) cur1.toArray hg1 (by rw [hs1];simp [Value.cells];omega);obtain⟨W2,hW2⟩: ∃W2,W2=W1.setRow g (cur1.toArray.toList.take ((i+(n-(i+1)))*3)++(Value.agg #[.int .i64 0,.int .i64 0,.bool false]).cells.toList++cur1.toArray.toList.drop ((i+(n-(i+1)))*3+(Value.agg #[.int .i64 0,.int .i64 0,.bool false]).cells.toList.length)).toArray:=⟨_,rfl⟩
 rw [←hW2]at hcl;have hfin:Hid (W2.ownsRow B 128 3 (.slice (some ⟨g,0,none⟩) (n-1) cap) (n-1) (xs.take (i*3)++xs.drop ((i+1)*3))∧w.grownBy W2 (some g)):=by
  have ho:(i+(n-(i+1)))*3=(n-1)*3:=by omega
  have hz3:(Value.agg #[.int .i64 0,.int .i64 0,.bool false]).cells.toList.length=3:=rfl;rw [ho,hz3]at hW2;have hs1':cur1.length=cap*3:=by simpa using hs1
  refine⟨⟨?_,Or.inr ⟨g,cap,_,rfl,hBg,by rw [hW2];exact setRow_heap W1 g _ _ _ _ hg1,by omega,hcm,?_,?_⟩⟩,?_⟩
  ·rw [Xg,Xt,XT,hxl];omega
  ·simp only [List.size_toArray,Xg,Xt,XT,hz3,hs1'];omega
  ·rw [←ht1];have hl:(cur1.take ((n-1)*3)).length=(n-1)*3:=by rw [Xt,hs1'];omega
   show((cur1.take ((n-1)*3)++_++_)).take ((n-1)*3)=_;rw [X4,List.take_append_of_le_length (by omega),Yx (by omega)]
  ·have hb:=hb1.out;rw [hW2];exact⟨hb.os,hb.tape,hb.output,by simpa using hb.size,fun k h1 hk=>(setRow_other W1 g k _ (fun e=>hk (by rw [e]))).trans (hb.block k h1 hk)⟩
 have e1:n-(i+(n-(i+1)))=1:=by omega
 have e2: ¬cap=i+(n-(i+1)):=by omega
 clear hW2 hW1 hg1 hs1 ht1 hlen hnews htake hgr hxl hone;go_enter func72,ntmps72;go_wp2_with fail
 go_region_law (refine step_room rfl (.tmp 22) (.tmp 25) 60 rfl 128 i0 underlying60 hi0 g i cap cur hgr0.out (by simp [Act.eval,Act.put]) A (n-(i+1)) (cap-(i+1)) news (by simp [Act.eval,Act.put]) hlen'.out hsrc.out hnew1.out (by omega) hfit.out HW.out ?_)
 go_wp2;go_ret;exact⟨by rw [show i+(n-(i+1))=n-1 by omega];rfl,hfin.out⟩

theorem box_kept {w1:World} {Q C:Nat} {v v':Value} {id:Int} (hT:Turn rQ Q v v' w w1) (hC:w.cell? ⟨C,0,none⟩=some (.int .i64 id)) (h1:C≠Q) (h2:v.ownBlock≠some C):w1.cell? ⟨C,0,none⟩=some (.int .i64 id):=
 (Xf (w:=w) (a:=⟨C,0,none⟩) (hT.block C (Xj w _ hC) h1 (fun e=>h2 e.symm))).trans hC
theorem ack_no (B Q:Nat) (last:Int) (v:Value) (L L1:List M) (now id:Int) (w:World) (hA:QAt w 128 B Q 44 45 last v L) (hL:L.length≤200) (h3:0≤now) (h4:now≤1099511627776) (hb:backL now L=L1) (hn:L1.findIdx? (isId id)=none):
  Calls prog 24 #[.pointer (some ⟨Q,44,none⟩),.int .i64 now,.int .i64 id] w fun e w'=>e=.returned (.int .i64 4)∧ ∃v',QAt w' 128 B Q 44 45 last v' L1∧Turn rQ Q v v' w w':=by
 have hl:L1.length≤200:=by rw [←hb,backL_len];exact hL
 obtain⟨ao,cap,rfl,hc1,hc2,hao⟩:=hA.form;obtain⟨w0,hw0⟩: ∃w0,w0=w.alloc (.cells #[.int .i64 id] 3):=⟨_,rfl⟩
 have hA0:=hA.alloc (.cells #[.int .i64 id] 3);have hT0:=(Turn.refl (r:=rQ) Q (.slice ao L.length cap) w).alloc (.cells #[.int .i64 id] 3);have hC0:w0.cell? ⟨w.heap.size,0,none⟩=some (.int .i64 id):=by rw [hw0];simp
 have hCQ:w.heap.size≠Q:=by have:=hA.lt;omega
 have hCv:(Value.slice ao L.length cap).ownBlock≠some w.heap.size:=fun e=>by have:=hA.rowLt _ e;omega
 rw [←hw0]at hA0 hT0;have c:=giveBackS B Q cap ao last L L1 now w0 hA0 h3 h4 hL hb;have c2:=fun w hR hC=>id_none ao cap w.heap.size id L1 w hR hl hC hn;have c2:=fun C w hR hC=>id_none ao cap C id L1 w hR hl hC hn;clear hA hb hn hao hc1 hc2;go_enter func24,ntmps24
 go_wp2_with (first
  |(go_at_call 68;rw [←hw0];(with_reducible refine c.mono ?_);rintro e w1 ⟨rfl,hA1,hT1⟩;have cS1:=hA1.cS;have hR1:=hA1.row;have hC1:=box_kept hT1 hC0 hCQ hCv)
  |(go_at_call 69;(with_reducible refine zg (c2 _ w1 hR1 hC1) fun w2 hb2=>?_)))
 go_ret;exact⟨rfl,_,hA1.below hb2,(hT0.trans hT1).trans (Turn.of_below hb2)⟩
theorem ack_free (B Q:Nat) (last:Int) (v:Value) (L L1:List M) (now id:Int) (i:Nat) (m:M) (w:World) (hA:QAt w 128 B Q 44 45 last v L) (hL:L.length≤200) (h3:0≤now) (h4:now≤1099511627776) (hb:backL now L=L1) (hn:L1.findIdx? (isId id)=some i) (hm:L1[i]? =some m) (hf:m.tk=false):
  Calls prog 24 #[.pointer (some ⟨Q,44,none⟩),.int .i64 now,.int .i64 id] w fun e w'=>e=.returned (.int .i64 7)∧ ∃v',QAt w' 128 B Q 44 45 last v' L1∧Turn rQ Q v v' w w':=by
 have hl:L1.length≤200:=by rw [←hb,backL_len];exact hL
 have hil:i<L1.length:=(Xe.1 hm).1;have hil':(i:Int)<(L1.length:Int):=by omega
 obtain⟨ao,cap,rfl,hc1,hc2,hao⟩:=hA.form;obtain⟨g,rfl⟩:=hao (by rw [←hb,backL_len]at hil;omega);obtain⟨w0,hw0⟩: ∃w0,w0=w.alloc (.cells #[.int .i64 id] 3):=⟨_,rfl⟩
 have hA0:=hA.alloc (.cells #[.int .i64 id] 3);have hT0:=(Turn.refl (r:=rQ) Q (.slice (some ⟨g,0,none⟩) L.length cap) w).alloc (.cells #[.int .i64 id] 3);have hC0:w0.cell? ⟨w.heap.size,0,none⟩=some (.int .i64 id):=by rw [hw0];simp
 have hCQ:w.heap.size≠Q:=by have:=hA.lt;omega
 have hCv:(Value.slice (some ⟨g,0,none⟩) L.length cap).ownBlock≠some w.heap.size:=fun e=>by have:=hA.rowLt _ e;omega
 rw [←hw0]at hA0 hT0;have c:=giveBackS B Q cap (some ⟨g,0,none⟩) last L L1 now w0 hA0 h3 h4 hL hb;have c2:=fun C w hR hC=>id_some (some ⟨g,0,none⟩) cap C id L1 w hR hl hC hn;have hfree:free m=true:=by simp [free,hf]
 have c3:=fun w=>waits_any m w;rw [hfree]at c3;simp only [mV,hf]at c3;clear hA hb hn hao hc1 hc2;go_enter func24,ntmps24
 go_wp2_with (first
  |(go_at_call 68;rw [←hw0];(with_reducible refine c.mono ?_);rintro e w1 ⟨rfl,hA1,hT1⟩;have cS1:=hA1.cS;have hR1:=hA1.row;have hC1:=box_kept hT1 hC0 hCQ hCv)
  |(go_at_call 69;(with_reducible refine zg (c2 _ w1 hR1 hC1) fun w2 hb2=>?_);have hA2:=hA1.below hb2;obtain⟨d0,d1,d2,fz⟩:=hA2.cells rfl hm;have cS2:=hA2.cS)
  |(go_at_call 70;(with_reducible refine zg (c3 _) fun w3 hb3=>?_)))
 go_ret;exact⟨rfl,_,hA2.below hb3,((hT0.trans hT1).trans (Turn.of_below hb2)).trans (Turn.of_below hb3)⟩
theorem ack_yes (B Q:Nat) (last:Int) (v:Value) (L L1:List M) (now id:Int) (i:Nat) (m:M) (w:World) (hA:QAt w 128 B Q 44 45 last v L) (hL:L.length≤200) (h3:0≤now) (h4:now≤1099511627776) (hb:backL now L=L1) (hn:L1.findIdx? (isId id)=some i) (hm:L1[i]? =some m) (hf:m.tk=true):
  Calls prog 24 #[.pointer (some ⟨Q,44,none⟩),.int .i64 now,.int .i64 id] w fun e w'=>e=.returned (.int .i64 0)∧ ∃v',QAt w' 128 B Q 44 45 last v' (L1.eraseIdx i)∧Turn rQ Q v v' w w':=by
 have hl:L1.length≤200:=by rw [←hb,backL_len];exact hL
 have hil:i<L1.length:=(Xe.1 hm).1;have hil':(i:Int)<(L1.length:Int):=by omega
 obtain⟨ao,cap,rfl,hc1,hc2,hao⟩:=hA.form;obtain⟨g,rfl⟩:=hao (by rw [←hb,backL_len]at hil;omega);obtain⟨w0,hw0⟩: ∃w0,w0=w.alloc (.cells #[.int .i64 id] 3):=⟨_,rfl⟩
 have hA0:=hA.alloc (.cells #[.int .i64 id] 3);have hT0:=(Turn.refl (r:=rQ) Q (.slice (some ⟨g,0,none⟩) L.length cap) w).alloc (.cells #[.int .i64 id] 3);have hC0:w0.cell? ⟨w.heap.size,0,none⟩=some (.int .i64 id):=by rw [hw0];simp
 have hCQ:w.heap.size≠Q:=by have:=hA.lt;omega
 have hCv:(Value.slice (some ⟨g,0,none⟩) L.length cap).ownBlock≠some w.heap.size:=fun e=>by have:=hA.rowLt _ e;omega
 rw [←hw0]at hA0 hT0;have c:=giveBackS B Q cap (some ⟨g,0,none⟩) last L L1 now w0 hA0 h3 h4 hL hb;have c2:=fun C w hR hC=>id_some (some ⟨g,0,none⟩) cap C id L1 w hR hl hC hn;have hfree:free m=false:=by simp [free,hf]
 have c3:=fun w=>waits_any m w;rw [hfree]at c3;simp only [mV,hf]at c3;have c4:=fun w h=>delete_one B g L1.length cap i (cels L1) w h (cels_one L1) hil hl;have hLe:(L1.eraseIdx i).length=L1.length-1:=List.length_eraseIdx_of_lt hil;have hCe:(cels L1).take (i*3)++(cels L1).drop ((i+1)*3)=cels (L1.eraseIdx i):=by rw [erase_at,cels_append,cels_take,cels_drop]
 clear hA hb hn hao hc1 hc2;go_enter func24,ntmps24
 go_wp2_with (first
  |(go_at_call 68;rw [←hw0];(with_reducible refine c.mono ?_);rintro e w1 ⟨rfl,hA1,hT1⟩;have cS1:=hA1.cS;have hR1:=hA1.row;have hC1:=box_kept hT1 hC0 hCQ hCv)
  |(go_at_call 69;(with_reducible refine zg (c2 _ w1 hR1 hC1) fun w2 hb2=>?_);have hA2:=hA1.below hb2;obtain⟨d0,d1,d2,fz⟩:=hA2.cells rfl hm;have cS2:=hA2.cS)
  |(go_at_call 70;(with_reducible refine zg (c3 _) fun w3 hb3=>?_);have hA3:=hA2.below hb3;have cS3:=hA3.cS)
  |(go_at_call 72;(with_reducible refine(c4 _ hA3.own).mono ?_);rintro e w4 ⟨rfl,hown4,hg4⟩;have hQ4:w4.heap[Q]? =w3.heap[Q]? :=hg4.block Q hA3.lt (fun e=>hA3.ne (by rw [e];rfl));have cS4:=(Xf (w:=w3) (a:=⟨Q,45,none⟩) hQ4).trans cS3;have fS4:=(Xl (w:=w3) (a:=⟨Q,45,none⟩) hQ4).trans (hA3.fz 45)))
 go_ret;rw [hCe,←hLe]at hown4;have hA5:=hA3.regrown (by decide) hQ4 hown4 hA3.ne;rw [hLe]at hA5;refine⟨rfl,_,hA5,((((hT0.trans hT1).trans (Turn.of_below hb2)).trans (Turn.of_below hb3)).trans (Turn.of_grown (v':=.slice (some ⟨g,0,none⟩) (L1.length-1) cap) hg4 (Or.inl rfl))).setRow 45 _⟩

theorem run_copy_all (w:World) (dT sT ty e:TypeId) (i:TypeInfo) (hu:P.underlying dT=some (.slice e)) (hi:P.info? e=some i) (g n dc sc:Nat) (sp:Option Addr) (cur:Array Value) (cs:List Value)
  (hg:w.heap[g]? =some (.cells cur e (0,0))) (hcur:cur.size=n*i.size) (hl:cs.length=n*i.size) (hsrc:0<n→ ∃ad,sp=some ad∧ ∀j u,cs[j]? =some u→w.cell? (ad.add j)=some u) (h1: ∀u∈cs,u.oneCell'=true):
  ∃w',(Builtin.copy_ #[dT,sT] ty #[.slice (some ⟨g,0,none⟩) n dc,.slice sp n sc]).run P w=.ok (goInt n) w'∧w'.heap[g]? =some (.cells cs.toArray e (0,0))∧w.grownBy w' (some g):=by
 by_cases h0:n=0
 ·subst h0;have hcs:cs=[]:=XW (by simpa using hl);have hce:cur=#[]:=Array.eq_empty_of_size_eq_zero (by simpa using hcur);refine⟨w,?_,by rw [hcs,hg,hce],⟨rfl,rfl,rfl,Xa _,fun _ _ _=>rfl⟩⟩;have hl0: ∀(x:Addr),(loadCells x 0).run P w=.ok #[] w:=fun x=>by simpa using run_loadCells_list (P:=P) w x [] (by simp)
  cases sp<;>simp [Builtin.copy_,run_underlying hu,Builtin.lenOf,Builtin.firstCells,sizeOf,typeInfo,hi,storeCells,hl0]
 ·obtain⟨ad,rfl,hs⟩:=hsrc (by omega);have hf:=run_firstCells_some (P:=P) w i.size n ad n sc cs hl hs;have hst:=run_storeCells_at P g 0 e cs 0 cur w hg (by omega) h1;simp only [XD,Xv,List.take_zero,Yf]at hst;rw [List.drop_of_length_le (by rw [Array.length_toList,hcur,hl];exact Xa _),List.append_nil]at hst;refine⟨w.setRow g cs.toArray,?_,setRow_heap w g cur _ e _ hg,⟨rfl,rfl,rfl,by simp,fun k _ hk=>setRow_other w g k _ (fun e=>hk (by rw [e]))⟩⟩;simp [Builtin.copy_,run_underlying hu,Builtin.lenOf,sizeOf,typeInfo,hi,hf,hst]
theorem row_of_block (h:w.heap[g]? =some (.cells (cels L).toArray e (0,0))):RowAt w (some ⟨g,0,none⟩) L:=by
 intro _;refine⟨g,rfl,(XM.1 h).1,fun i m hm=> ?_⟩;obtain⟨a,b,c⟩:=cels_get L i m hm;have hc: ∀j,w.cell? ⟨g,j,none⟩=(cels L)[j]? :=fun j=>by rw [cell_of_row w g j _ _ _ h];simp
 exact⟨(hc _).trans a,(hc _).trans b,(hc _).trans c⟩
theorem row_src {ao:Option Addr} {Q oN oS:Nat} {last:Int} (h:QAt w 128 B Q oN oS last (.slice ao L.length cap) L):0<L.length→ ∃ad,ao=some ad∧ ∀j u,(cels L)[j]? =some u→w.cell? (ad.add j)=some u:=by
 intro hl;obtain⟨ao',cap',he,_,_,hg⟩:=h.form;cases he;obtain⟨g,rfl⟩:=hg hl;exact⟨_,rfl,h.own.cells rfl⟩

theorem own_block {n:Nat} {xs:List Value} (h:w.ownsRow B e 3 (.slice (some ⟨g,0,none⟩) n cap) n xs): ∃cur,w.heap[g]? =some (.cells cur e (0,0))∧cur.size=cap*3:=by
 rcases h.2 with⟨h0,_⟩|⟨g',cap',cur,h0,_,h1,_,_,h2,_⟩
 ·cases h0
 ·cases h0;exact⟨cur,h1,h2⟩

theorem all_own (B Q:Nat) (last:Int) (v:Value) (L L1:List M) (now:Int) (w:World) (hA:QAt w 128 B Q 44 45 last v L) (hL:L.length≤200) (h3:0≤now) (h4:now≤1099511627776) (hb:backL now L=L1):
  Calls prog 97 #[.pointer (some ⟨Q,44,none⟩),.int .i64 now] w fun e w'=> ∃G,e=.returned (.tuple #[.slice (some ⟨G,0,none⟩) L1.length L1.length,.int .i64 0])∧w.heap.size≤G∧(∃e,w'.heap[G]? =some (.cells (cels L1).toArray e (0,0)))∧ ∃v',v'.ownBlock≠some G∧QAt w' 128 B Q 44 45 last v' L1∧Turn rQ Q v v' w w':=by
 obtain⟨i0,hi,hz0,hz1,hz2⟩:=info_parts info_msg;have hl:L1.length≤200:=by rw [←hb,backL_len];exact hL
 obtain⟨ao,cap,rfl,hc1,hc2,hao⟩:=hA.form;have c:=giveBackS B Q cap ao last L L1 now w hA h3 h4 hL hb;clear hA hb hao hc1 hc2;have hcl:(cels L1).length=L1.length*i0.size:=by rw [hz1];exact cels_len L1
 have HC:=zh hcl;clear hcl;go_enter func97,ntmps97
 go_wp2_with (first
  |(go_at_call 68;(with_reducible refine c.mono ?_);rintro e w1 ⟨rfl,hA1,hT1⟩;have cS1:=hA1.cS)
  |(at_make;refine wpList_make_full _ rfl _ _ 60 rfl w1.heap.size 128 i0 _ 3 underlying60 hi hz0 hz1 _ _ _ _ L1.length rfl rfl rfl rfl (by rw [hz2];omega) (by unfold maxLen;omega) (Xa _) ?_;intro w2 hown2 hgrow2;have hb2:Below w1.heap.size w1 w2:=(Below.refl _ _).grown hgrow2 (Xa _) (fun _ h=>by cases h);have hA2:=hA1.below hb2;have cS2:=hA2.cS;obtain⟨cur2,q2,q5⟩:=own_block hown2;obtain⟨w3,hcp,hr3,hgrow3⟩:=run_copy_all (P:=prog) w2 60 60 3 128 i0 underlying60 hi w1.heap.size L1.length L1.length cap ao cur2 (cels L1) q2 (by rw [hz1];exact q5) HC.out (row_src hA2) (cels_one L1);clear hown2 hgrow2))
 go_ret2;have hlt:=hA1.lt;have hb3:Below w1.heap.size w2 w3:=⟨hgrow3.os,hgrow3.tape,hgrow3.output,hgrow3.size,fun k hk=>hgrow3.block k (Xb hk hb2.size) (fun e=>by cases e;omega)⟩
 have hb13:=hb2.trans hb3;exact⟨w1.heap.size,rfl,hT1.size,⟨_,hr3⟩,_,(fun e=>by have:=hA1.rowLt _ e;omega),hA1.below hb13,hT1.trans (Turn.of_below hb13)⟩

def DpR (L:List M) (w:World) (d i:Value) (wr:World):Prop:= ∃k:Nat,k≤L.length∧i=.int .i64 k∧d=.int .i64 (depth (L.take k):Int)∧Below w.heap.size w wr
theorem depth_yes (B Q:Nat) (last:Int) (v:Value) (L L1:List M) (now:Int) (w:World) (hA:QAt w 128 B Q 44 45 last v L) (hL:L.length≤200) (h3:0≤now) (h4:now≤1099511627776) (hb:backL now L=L1):
  Calls prog 169 #[.pointer (some ⟨Q,44,none⟩),.int .i64 now] w fun e w'=>e=.returned (.tuple #[.int .i64 (depth L1:Int),.int .i64 0])∧ ∃v',QAt w' 128 B Q 44 45 last v' L1∧Turn rQ Q v v' w w':=by
 have hl:L1.length≤200:=by rw [←hb,backL_len];exact hL
 obtain⟨ao,cap,rfl,hc1,hc2,hao⟩:=hA.form;have c:=giveBackS B Q cap ao last L L1 now w hA h3 h4 hL hb;clear hA hb hao hc1 hc2;go_enter func169,ntmps169;go_wp2_with(go_at_call 68;(with_reducible refine c.mono ?_);rintro e w1 ⟨rfl,hA1,hT1⟩;have cS1:=hA1.cS)
 have hR1:=hA1.row;go_loopw [7,21] (fun d i wr=>DpR L1 w1 d i wr) (fun _ i _=>L1.length-(intOf i).toNat)
 case atStart=>exact⟨0,by omega,rfl,by simp [depth],Below.refl _ _⟩
 case round=>
  obtain⟨k,hk,rfl,rfl,hb⟩:=hrel;by_cases hlt:k<L1.length
  ·have hlt':(k:Int)<(L1.length:Int):=by omega
   obtain⟨g,rfl,hg,hc⟩:=hR1.below hb (by omega);obtain⟨m,hm⟩: ∃m,L1[k]? =some m:=⟨L1[k],by simp [hlt]⟩
   obtain⟨c0,c1,c2⟩:=hc k m hm;have hs:=depth_step hm;have hd:depth (L1.take k)≤200:=Xc (depth_le _) (by rw [Xt];omega);clear hc hR1;obtain⟨id,till,tk⟩:=m;simp only at c0 c1 c2;cases tk
   ·have c3:=fun w=>waits_any ⟨id,till,false⟩ w;simp only [mV,free,Bool.not_false]at c3;simp only [free,Bool.not_false,if_true]at hs;go_wp2_with(go_at_call 70;(with_reducible refine zg (c3 _) fun w3 hb3=>?_))
    go_roundw
    case rel=>
     have hbw:=hb.alloc hb.size (.cells #[.int .i64 id,.int .i64 till,.bool false] 128);exact⟨k+1,by omega,rfl,by rw [hs];simp,(zu hbw hb3)⟩
    case measure=>simp [intOf];omega
   ·have c3:=fun w=>waits_any ⟨id,till,true⟩ w;simp only [mV,free,Bool.not_true]at c3;simp only [free,Bool.not_true,XU,if_false,XD]at hs;go_wp2_with(go_at_call 70;(with_reducible refine zg (c3 _) fun w3 hb3=>?_))
    go_roundw
    case rel=>
     have hbw:=hb.alloc hb.size (.cells #[.int .i64 id,.int .i64 till,.bool true] 128);exact⟨k+1,by omega,rfl,by rw [hs],(zu hbw hb3)⟩
    case measure=>simp [intOf];omega
  ·obtain rfl:k=L1.length:=by omega
   go_wp2;go_ret2;exact⟨by rw [XC];rfl,_,hA1.below hb,hT1.trans (Turn.of_below hb)⟩

def EqR (n:Nat) (w:World) (i:Value) (wr:World):Prop:= ∃k q:Nat,k≤n∧i=.int .i64 k∧wr=w.drewN q
theorem equal_msgs (ao bo:Option Addr) (L:List M) (c d:Nat) (w:World) (hX:RowAt w ao L) (hY:RowAt w bo L) (hn:L.length≤200):
  Calls prog 55 #[.slice ao L.length c,.slice bo L.length d] w fun e w'=>e=.returned (.bool true)∧ ∃q,w'=w.drewN q:=by
 go_enter func55,ntmps55;go_wp2;go_loopw [13] (fun i wr=>EqR L.length w i wr) (fun i _=>L.length-(intOf i).toNat)
 case atStart=>exact⟨0,0,by omega,rfl,rfl⟩
 case round=>
  obtain⟨k,q,hk,rfl,hq⟩:=hrel;have HQ:=zh hq;by_cases hlt:k<L.length
  ·have hlt':(k:Int)<(L.length:Int):=by omega
   obtain⟨g,rfl,hg,hc⟩:=hX (by omega);obtain⟨h,rfl,hh,hd⟩:=hY (by omega);obtain⟨m,hm⟩: ∃m,L[k]? =some m:=⟨L[k],by simp [hlt]⟩
   obtain⟨c0,c1,c2⟩:=hc k m hm;obtain⟨d0,d1,d2⟩:=hd k m hm;have x0:wr.cell? ⟨g,k*3,none⟩=some (.int .i64 m.id):=by rw [hq];exact c0
   have x1:wr.cell? ⟨g,k*3+1,none⟩=some (.int .i64 m.till):=by rw [hq];exact c1
   have x2:wr.cell? ⟨g,k*3+2,none⟩=some (.bool m.tk):=by rw [hq];exact c2
   have y0:wr.cell? ⟨h,k*3,none⟩=some (.int .i64 m.id):=by rw [hq];exact d0
   have y1:wr.cell? ⟨h,k*3+1,none⟩=some (.int .i64 m.till):=by rw [hq];exact d1
   have y2:wr.cell? ⟨h,k*3+2,none⟩=some (.bool m.tk):=by rw [hq];exact d2
   clear hq hc hd c0 c1 c2 d0 d1 d2;go_wp2_with fail
   go_quiet (fail)
   go_wp2;go_roundw
   case rel=>exact⟨k+1,q+nq,by omega,rfl,by rw [HQ.out,World.drewN_drewN]⟩
   case measure=>simp [intOf];omega
  ·obtain rfl:k=L.length:=by omega
   go_wp2;go_ret;exact⟨rfl,q,rfl⟩

theorem rin_yes (n lo hi:Int) (w:World) (h1:lo≤n) (h2:n≤hi):
  CS 6 #[.int .i64 n,.int .i64 lo,.int .i64 hi] w (.bool true):=by
 have d1:decide (lo≤n)=true:=by simp [h1]
 have d2:decide (n≤hi)=true:=by simp [h2]
 go_enter func6,ntmps6;go_wp2;go_ret;exact⟨rfl,rfl⟩
theorem rin_no (n lo hi:Int) (w:World) (h: ¬(lo≤n∧n≤hi)):
  CS 6 #[.int .i64 n,.int .i64 lo,.int .i64 hi] w (.bool false):=by
 by_cases h1:lo≤n
 ·have d1:decide (lo≤n)=true:=by simp [h1]
  have d2:decide (n≤hi)=false:=by simp;omega
  clear h;go_enter func6,ntmps6;go_wp2;go_ret;exact⟨rfl,rfl⟩
 ·have d1:decide (lo≤n)=false:=by simp;omega
  clear h;go_enter func6,ntmps6;go_wp2;go_ret;exact⟨rfl,rfl⟩

def LGbR (B Q oN oS:Nat) (last:Int) (v:Value) (L:List M) (now:Int) (w:World) (i:Value) (wr:World):Prop:=
 ∃k:Nat,k≤L.length∧i=.int .i64 k∧QAt wr 128 B Q oN oS last v (half (back now) L k)∧Turn rL Q v v w wr
theorem at_yes (B Q:Nat) (last:Int) (v:Value) (L:List M) (now:Int) (w:World) (hA:QAt w 128 B Q 1 0 last v L) (h0:0≤now) (h1:now≤1099511627776) (hL:L.length≤200):
  Calls prog 88 #[.pointer (some ⟨Q,0,none⟩),.int .i64 now] w fun e w'=>e=.returned (.bool true)∧QAt w' 128 B Q 1 0 last v (backL now L)∧Turn rL Q v v w w':=by
 have c:=fun w=>rin_yes now 0 1099511627776 w h0 h1;obtain⟨ao,cap,rfl,hc1,hc2,hao⟩:=hA.form;go_enter func88,ntmps88;go_wp2_with(go_at_call 6;(with_reducible refine zq (c _) ?_))
 go_loopw [5] (fun i wr=>LGbR B Q 1 0 last (.slice ao L.length cap) L now w i wr) (fun i _=>L.length-(intOf i).toNat)
 case atStart=>exact⟨0,by omega,rfl,by rw [half_zero];exact hA,Turn.refl _ _ _⟩
 case round=>
  clear hA c;obtain⟨k,hk,rfl,hA,hT⟩:=hrel;have cS:=hA.cS;by_cases hlt:k<L.length
  ·have hlt':(k:Int)<(L.length:Int):=by omega
   obtain⟨g,rfl⟩:=hao (by omega);obtain⟨m,hm⟩: ∃m,L[k]? =some m:=⟨L[k],by simp [hlt]⟩
   have hgm:=half_get (back now) L k m hm;have hgl:=hA.rowLt g rfl;have hQl:=hA.lt;have hgQ:g≠Q:=fun e=>hA.ne (by rw [e];rfl);obtain⟨c0,c1,c2,fz⟩:=hA.cells (half_len _ _ _).symm hgm;have f0:=fz (k*3);have f1:=fz (k*3+1);have f2:=fz (k*3+2);have HA:=zh hA;have HT:=zh hT;clear hA hT fz;obtain⟨id,till,tk⟩:=m;simp only at c0 c1 c2;cases tk
   ·have hb:back now ⟨id,till,false⟩=⟨id,till,false⟩:=by simp [back]
    have hh:=half_same (back now) L k _ hm hb;go_wp2;go_roundw
    case rel=>exact⟨k+1,by omega,rfl,by rw [←hh];exact HA.out,HT.out⟩
    case measure=>simp [intOf];omega
   ·by_cases ht:till≤now
    ·have hb:back now ⟨id,till,true⟩=⟨id,0,false⟩:=by simp [back,ht]
     have hh:=half_step (back now) L k _ hm;rw [hb]at hh;go_wp2_with fail
     go_region
     all_goals
     go_wp2;go_roundw
     case rel=>
      have h3:=HA.out.set3 (half_len _ _ _).symm (by rw [half_len];exact hlt) id 0 false;rw [hh]at h3;have t3:=((HT.out.trans (Turn.setG (k*3) (.int .i64 id))).trans (Turn.setG (k*3+1) (.int .i64 0))).trans (Turn.setG (k*3+2) (.bool false));exact⟨k+1,by omega,rfl,h3.drew,t3.drew⟩
     case measure=>simp [intOf];omega
    ·have hb:back now ⟨id,till,true⟩=⟨id,till,true⟩:=by simp [back,ht]
     have hh:=half_same (back now) L k _ hm hb;go_wp2;go_roundw
     case rel=>exact⟨k+1,by omega,rfl,by rw [←hh];exact HA.out,HT.out⟩
     case measure=>simp [intOf];omega
  ·obtain rfl:k=L.length:=by omega
   go_wp2;go_ret;exact⟨rfl,by rw [half_all]at hA;exact hA,hT⟩
theorem atS (B Q cap:Nat) (ao:Option Addr) (last:Int) (L L1:List M) (now:Int) (w:World) (hA:QAt w 128 B Q 1 0 last (.slice ao L.length cap) L) (h0:0≤now) (h1:now≤1099511627776) (hL:L.length≤200) (h:backL now L=L1):
  Calls prog 88 #[.pointer (some ⟨Q,0,none⟩),.int .i64 now] w fun e w'=>e=.returned (.bool true)∧QAt w' 128 B Q 1 0 last (.slice ao L1.length cap) L1∧Turn rL Q (.slice ao L.length cap) (.slice ao L1.length cap) w w':=by
 refine(at_yes B Q last _ L now w hA h0 h1 hL).mono ?_;rintro e w' ⟨rfl,hA1,hT1⟩;subst h;rw [backL_len];exact⟨rfl,hA1,hT1⟩

theorem lput_no (Q:Nat) (n:Int) (w:World) (h:n<1):
  CS 35 #[.pointer (some ⟨Q,0,none⟩),.int .i64 n] w (.tuple #[.int .i64 0,.int .i64 1]):=by
 go_enter func35,ntmps35;go_wp2;go_ret2;exact⟨rfl,rfl⟩
theorem lput_full (B Q:Nat) (last:Int) (v:Value) (L:List M) (n:Int) (w:World) (hA:QAt w 128 B Q 1 0 last v L) (hL:L.length≤200) (h:1≤n) (h2:200<L.length+n):
  CS 35 #[.pointer (some ⟨Q,0,none⟩),.int .i64 n] w (.tuple #[.int .i64 0,.int .i64 6]):=by
 obtain⟨ao,cap,rfl,hc1,hc2,hao⟩:=hA.form;have cS:=hA.cS;have h4: ¬n<1:=by omega
 by_cases h5:200<n
 ·go_enter func35,ntmps35;go_wp2;go_ret2;exact⟨rfl,rfl⟩
 ·have h3:(200:Int)<(L.length:Int)+n:=by omega
  go_enter func35,ntmps35;go_wp2;go_ret2;exact⟨rfl,rfl⟩
def LPutR (B Q:Nat) (last:Int) (v:Value) (L:List M) (n:Nat) (w:World) (i:Value) (wr:World):Prop:=
 ∃(k:Nat) (v':Value),k≤n∧i=.int .i64 ((k:Int)+1)∧QAt wr 128 B Q 1 0 last v' (L++news last k)∧Turn rL Q v v' w wr
theorem lput_yes (B Q:Nat) (last:Int) (v:Value) (L:List M) (n:Nat) (w:World) (hA:QAt w 128 B Q 1 0 last v L) (hl:0≤last∧last≤1000000) (h:1≤n) (h2:L.length+n≤200):
  Calls prog 35 #[.pointer (some ⟨Q,0,none⟩),.int .i64 (n:Int)] w fun e w'=>e=.returned (.tuple #[.int .i64 (last+1),.int .i64 0])∧ ∃v',QAt w' 128 B Q 1 0 (last+n) v' (L++news last n)∧Turn rL Q v v' w w':=by
 obtain⟨i0,hi,hz0,hz1,hz2⟩:=info_parts info_msg;have hT0:Turn rL Q v v w w:=Turn.refl Q v w;obtain⟨ao,cap,hv,hc1,hc2,hao⟩:=hA.form;have cS:=hA.cS;rw [hv]at cS;have h3: ¬(200:Int)<(L.length:Int)+n:=by omega
 have h4: ¬(n:Int)<1:=by omega
 have h5: ¬(200:Int)<n:=by omega
 go_enter func35,ntmps35;go_wp2;go_loopw [6] (fun i wr=>LPutR B Q last v L n w i wr) (fun i _=>n+1-(intOf i).toNat)
 case atStart=>exact⟨0,v,by omega,rfl,by simpa [news_zero]using hA,hT0⟩
 case round=>
  clear hA cS hv hao hc1 hc2 hT0;obtain⟨k,v1,hk,rfl,hA,hT⟩:=hrel;have cN1:=hA.cN;have cS1:=hA.cS;have f01:=hA.fz 0;have f11:=hA.fz 1;have hQ1:=hA.lt;by_cases hlt:k<n
  ·have hlt':(k:Int)+1≤(n:Int):=by omega
   have hBs:B≤wr.heap.size:=by have:=hA.bQ;omega
   have hlen:(L++news last k).length=L.length+k:=by rw [Xg,news_len]
   have hown:=hA.own;rw [hlen]at hown;have HA:=zh hA;have HT:=zh hT;have hwr:IntKind.i64.wrap (last+((k:Int)+1))=last+((k:Int)+1):=by rw [IntKind.wrap_i64];omega
   clear hA hT;go_wp2_with fail
   go_region_law (refine step_own_at rfl (.tmp 30) (.tmp 38) 60 rfl B 128 i0 (.agg #[.int .i64 0,.int .i64 0,.bool false]) 3 24 underlying60 hi hz0 hz1 hz2 rfl (by decide) _ (L.length+k) (cels (L++news last k)) rfl ((hown.drew).alloc _) ⟨wr.heap.size,0,none⟩ 1 1 [.int .i64 (last+(k+1)),.int .i64 0,.bool false] rfl rfl (cell_three _ _ _ _ _) (fun u hu=>by simp at hu;rcases hu with rfl|rfl|rfl<;>rfl) (by unfold maxLen;omega) (by omega) (by simp;omega) ?_;intro v' w3 hown3 hgrow3 hloc3;obtain⟨g3,cap3,rfl⟩:=own_succ hown3;have hQ3:=HA.out.appended hgrow3;have cS3:w3.cell? ⟨Q,0,none⟩=some v1:=(Xf (w:=wr) (a:=⟨Q,0,none⟩) hQ3).trans cS1;have f13:w3.frozen? ⟨Q,0,none⟩=false:=(Xl (w:=wr) (a:=⟨Q,0,none⟩) hQ3).trans f01)
   all_goals
    have hL':(L++news last (k+1)).length=L.length+k+1:=by rw [Xg,news_len];omega
    have hC':cels (L++news last k)++ [.int .i64 (last+(k+1)),.int .i64 0,.bool false]=cels (L++news last (k+1)):=by
     rw [←news_step,←X4,cels_append (L++news last k),show last+1+(k:Int)=last+(k+1) by omega];rfl
    rw [hC',←hL']at hown3;have hA3:=HA.out.regrown (by decide) hQ3 hown3 (own_off HA.out hloc3);rw [hL']at hA3;have hT3:=(HT.out.trans (Turn.appended hgrow3 hloc3)).setRow 0 (.slice (some ⟨g3,0,none⟩) (L.length+k+1) cap3);go_wp2;go_roundw
    case rel=>exact⟨k+1,_,by omega,rfl,hA3,hT3⟩
    case measure=>simp [intOf];omega
  ·obtain rfl:k=n:=by omega
   have hA1:=hA.setN (by decide) (last+k);have hT1:=hT.trans (Turn.setQ 1 (.int .i64 (last+k)));go_wp2;go_ret2;exact⟨rfl,v1,hA1,hT1⟩

theorem llease_ticks (Q:Nat) (now ticks:Int) (w:World) (h: ¬(1≤ticks∧ticks≤100000)):
  CS 36 #[.pointer (some ⟨Q,0,none⟩),.int .i64 now,.int .i64 ticks] w (.tuple #[.int .i64 0,.int .i64 1]):=by
 have c:=fun w=>rin_no ticks 1 100000 w h;clear h;go_enter func36,ntmps36;go_wp2_with(go_at_call 6;(with_reducible refine(c _).mono ?_);rintro e w' ⟨rfl,rfl⟩)
 go_ret2;exact⟨rfl,rfl⟩
def LsR (L:List M) (w:World) (i:Value) (wr:World):Prop:=
 ∃k:Nat,k≤L.length∧i=.int .i64 k∧(∀j,j<k→ ∀x,L[j]? =some x→free x=false)∧wr=w
def LeaseAns (L1:List M) (now ticks:Int) (e:Ending) (L2:List M):Prop:=
 (L1.findIdx? free=none∧e=.returned (.tuple #[.int .i64 0,.int .i64 4])∧L2=L1)∨
 ∃i m,L1.findIdx? free=some i∧L1[i]? =some m∧e=.returned (.tuple #[.int .i64 m.id,.int .i64 0])∧L2=L1.set i ⟨m.id,now+ticks,true⟩
theorem llease_yes (B Q:Nat) (last:Int) (v:Value) (L L1:List M) (now ticks:Int) (w:World) (hA:QAt w 128 B Q 1 0 last v L) (hL:L.length≤200) (h1:1≤ticks) (h2:ticks≤100000) (h3:0≤now) (h4:now≤1099511627776) (hb:backL now L=L1):
  Calls prog 36 #[.pointer (some ⟨Q,0,none⟩),.int .i64 now,.int .i64 ticks] w fun e w'=> ∃L2 v',LeaseAns L1 now ticks e L2∧QAt w' 128 B Q 1 0 last v' L2∧Turn rL Q v v' w w':=by
 have hl:L1.length≤200:=by rw [←hb,backL_len];exact hL
 have hll:L1.length=L.length:=by rw [←hb,backL_len]
 obtain⟨ao,cap,rfl,hc1,hc2,hao⟩:=hA.form;have c:=fun w=>rin_yes ticks 1 100000 w h1 h2;have c2:=atS B Q cap ao last L L1 now w hA h3 h4 hL hb;clear hA hb;go_enter func36,ntmps36
 go_wp2_with (first
  |(go_at_call 6;(with_reducible refine zq (c _) ?_))
  |(go_at_call 88;(with_reducible refine c2.mono ?_);rintro e w1 ⟨rfl,hA1,hT1⟩))
 go_loopw [8] (fun i wr=>LsR L1 w1 i wr) (fun i _=>L1.length-(intOf i).toNat)
 case atStart=>exact⟨0,by omega,rfl,fun j hj=>absurd hj (by omega),rfl⟩
 case round=>
  obtain⟨k,hk,rfl,hno,hwr⟩:=hrel;subst hwr;have cS1:=hA1.cS;by_cases hlt:k<L1.length
  ·have hlt':(k:Int)<(L1.length:Int):=by omega
   obtain⟨g,rfl⟩:=hao (by omega);obtain⟨m,hm⟩: ∃m,L1[k]? =some m:=⟨L1[k],by simp [hlt]⟩
   obtain⟨d0,d1,d2,fz⟩:=hA1.cells rfl hm;have hgQ:g≠Q:=fun e=>hA1.ne (by rw [e];rfl);have f0:=fz (k*3);have f1:=fz (k*3+1);have f2:=fz (k*3+2);obtain⟨id,till,tk⟩:=m;simp only at d0 d1 d2;clear fz;cases tk
   ·have hf:=find_at hno hm (show free ⟨id,till,false⟩=true from rfl);have hA3:=hA1.set3 rfl hlt id (now+ticks) true;have hT3:=((hT1.trans (Turn.setG (k*3) (.int .i64 id))).trans (Turn.setG (k*3+1) (.int .i64 (now+ticks)))).trans (Turn.setG (k*3+2) (.bool true));have HA3:Hid (∃L2 v',LeaseAns L1 now ticks (.returned (.tuple #[.int .i64 id,.int .i64 0])) L2∧QAt ((((wr.setCell ⟨g,k*3,none⟩ (.int .i64 id)).setCell ⟨g,k*3+1,none⟩ (.int .i64 (now+ticks))).setCell ⟨g,k*3+2,none⟩ (.bool true)).drew) 128 B Q 1 0 last v' L2∧Turn rL Q (.slice (some ⟨g,0,none⟩) L.length cap) v' w ((((wr.setCell ⟨g,k*3,none⟩ (.int .i64 id)).setCell ⟨g,k*3+1,none⟩ (.int .i64 (now+ticks))).setCell ⟨g,k*3+2,none⟩ (.bool true)).drew)):=⟨_,_,Or.inr ⟨k,_,hf,hm,rfl,rfl⟩,hA3.drew,hT3.drew⟩
    clear hA3 hT3 hA1 hT1 hf hno;have hwr2:IntKind.i64.wrap (now+ticks)=now+ticks:=by rw [IntKind.wrap_i64];omega
    go_wp2_with fail
    go_region
    all_goals
    go_wp2;go_ret2;exact HA3.out
   ·have hs:=ix_step hno hm (show free ⟨id,till,true⟩=false from rfl);go_wp2;go_roundw
    case rel=>exact⟨k+1,by omega,rfl,hs,rfl⟩
    case measure=>simp [intOf];omega
  ·obtain rfl:k=L1.length:=by omega
   have hf:=find_no hno;go_wp2;go_ret2;exact⟨L1,_,Or.inl ⟨hf,rfl,rfl⟩,hA1,hT1⟩

def AkR (id:Int) (L:List M) (w:World) (v e i:Value) (wr:World):Prop:=
 ∃k:Nat,k≤L.length∧i=.int .i64 k∧e=.int .i64 (ackE id (L.take k))∧wr.ownsRow w.heap.size 128 3 v (ackL id (L.take k)).length (cels (ackL id (L.take k)))∧Below w.heap.size w wr
