/- A part. -/
import Derived.Test.YthiapcajheepbaaGreatDoorRows
import Derived.ProofKit
import Derived.Test.YthiapcajheepbaaGreatDoorPwRowMem
import Derived.Deep.Quiet
set_option linter.all false
open Go.Proofs.Tryz
set_option maxHeartbeats 32000000
set_option maxRecDepth 8000
namespace Go.Proofs.YthiapcajheepbaaGreatDoor
namespace Stb
open Rw Go.RowKit
variable {e:TypeId} {g cap i k j:Nat} {L:List Mo} {m:Mo} {ao:Option Addr} {t now pods:Int} {r:Option Nat} {q:Int→Bool} {w3:World} {v':Value}

abbrev MOwn (w:World) (B:Nat) (v:Value) (L:List Mo):Prop:=Own w B 222 2 v L.length (cels mc L)
theorem own_mo {w:World} {B:Nat} {off n:Nat} (h:Own w B e 2 (.slice (some ⟨g,off,none⟩) n cap) L.length (cels mc L)) (hn:n=L.length) (hm:L[i]? =some m):
  w.cell? ⟨g,off+i*2,none⟩=some (.int .i64 m.t)∧w.cell? ⟨g,off+i*2+1,none⟩=some (.int .i64 m.p)∧w.frozen? ⟨g,off+i*2,none⟩=false∧w.frozen? ⟨g,off+i*2+1,none⟩=false∧g<w.heap.size:=by
 subst hn;have hi:i<L.length:=(Xe.1 hm).1;have a:=h.cell (i*2) (by omega);have b:=h.cell (i*2+1) (by omega);have c0:=cels_get mc_len L i 0 m hm (by omega);have c1:=cels_get mc_len L i 1 m hm (by omega);rw [XD]at c0;rw [c0]at a;rw [c1]at b;exact⟨a.1,b.1,a.2.1,b.2.1,a.2.2⟩

theorem own_abv {w:World} {B:Nat} (h:Own w B e 2 (.slice ao L.length cap) L.length (cels mc L)) (k:Nat) (hk:k≤L.length):
  Own w B e 2 (.slice (if cap=k then ao else ao.map (·.add (k*2))) (L.length-k) (cap-k)) (L.drop k).length (cels mc (L.drop k))∧(Value.slice (if cap=k then ao else ao.map (·.add (k*2))) (L.length-k) (cap-k)).ownBlock=(Value.slice ao L.length cap).ownBlock:=by
 rw [cels_drop mc_len,XT];obtain⟨ao',cap',he,h1,h2,h3,h4,h5⟩:=h.form;cases he;cases ao with
 |none=>
  have hc:=h4 rfl;have hl:L.length=0:=by omega
  have hk0:k=0:=by omega
  subst hk0 hc;have hL:L=[]:=XW hl;subst hL;exact⟨by simpa [cels]using Own.nil w B e 2,by simp⟩
 |some a=>
  obtain⟨g,off,rfl⟩:=h5 a rfl;by_cases hc:cap=k
  ·have:=h.rest (off':=off) k hk (Or.inr ⟨hc,rfl⟩);rw [if_pos hc];exact⟨this,by simp [Value.ownBlock]⟩
  ·have:=h.rest (off':=off+k*2) k hk (Or.inl rfl);have hadd:(⟨g,off,none⟩:Addr).add (k*2)=⟨g,off+k*2,none⟩:=by unfold Addr.add;split<;>simp_all
   rw [if_neg hc];simp only [Option.map_some,hadd];exact⟨this,by simp [Value.ownBlock]⟩
def AbA (B:Nat) (v:Value) (L:List Mo) (t:Int) (w:World) (e:Ending) (w':World):Prop:= ∃v',e=.returned v'∧MOwn w B v' (abv L t)∧v'.ownBlock=v.ownBlock∧w'=w
theorem aba_end {B:Nat} {w:World} (hO:MOwn w B (.slice ao L.length L.length) L) (e1:abv L t=L.drop L.length):AbA B (.slice ao L.length L.length) L t w (.returned (.slice ao 0 0)) w:=by
 obtain⟨a,b⟩:=own_abv hO L.length (Xa _);rw [←e1]at a;simp only [if_true,Nat.sub_self]at a b;exact⟨_,rfl,a,b,rfl⟩
theorem aba_mid {B off:Nat} {w:World} (hO:MOwn w B (.slice (some ⟨g,off,none⟩) L.length cap) L) (k:Nat) (hk:k≤L.length) (e1:abv L t=L.drop k) (hc: ¬cap=k):
  AbA B (.slice (some ⟨g,off,none⟩) L.length cap) L t w (.returned (.slice (some ⟨g,off+k*2,none⟩) (L.length-k) (cap-k))) w:=by
 obtain⟨a,b⟩:=own_abv hO k hk;rw [←e1]at a;have hadd:(⟨g,off,none⟩:Addr).add (k*2)=⟨g,off+k*2,none⟩:=by unfold Addr.add;split<;>simp_all
 rw [if_neg hc]at a b;simp only [Option.map_some,hadd]at a b;exact⟨_,rfl,a,b,rfl⟩

def AbR (L:List Mo) (t:Int) (w:World) (i:Value) (wr:World):Prop:=
 ∃k:Nat,k≤L.length∧i=.int .i64 k∧(∀j m,j<k→L[j]? =some m→m.t≤t)∧wr=w
theorem ab_step (h: ∀j x,j<k→L[j]? =some x→x.t≤t) (hm:L[k]? =some m) (hp:m.t≤t): ∀j x,j<k+1→L[j]? =some x→x.t≤t:=by
 intro j x hj hx;by_cases e:j=k
 ·subst e;rw [hm]at hx;cases hx;exact hp
 ·exact h j x (by omega) hx

theorem above_any (B:Nat) (v:Value) (L:List Mo) (t:Int) (w:World) (hO:MOwn w B v L) (hL:L.length≤10000000):
  Calls prog 182 #[v,.int .i64 t] w (AbA B v L t w):=by
 obtain⟨ao,cap,rfl,hc1,hc2,hao,hnn,hsm⟩:=hO.form;go_enter func182,ntmps182;go_wp2;go_loopw [5] (fun i wr=>AbR L t w i wr) (fun i _=>L.length-(intOf i).toNat)
 case atStart=>exact⟨0,by omega,rfl,fun j m hj=>absurd hj (by omega),rfl⟩
 case round=>
  obtain⟨k,hk,rfl,hno,rfl⟩:=hrel;by_cases hlt:k<L.length
  ·have hlt':(k:Int)<(L.length:Int):=by omega
   obtain⟨g,off,rfl⟩:=hao (by omega);obtain⟨m,hm⟩: ∃m,L[k]? =some m:=⟨L[k],by simp [hlt]⟩
   obtain⟨c0,c1,_,_,hg⟩:=own_mo hO rfl hm;by_cases hp:m.t≤t
   ·have hs:=ab_step hno hm hp;go_wp2;go_roundw
    case rel=>exact⟨k+1,by omega,rfl,hs,rfl⟩
    case measure=>simp [intOf];omega
   ·have hc: ¬cap=k:=(by omega);have HA:Hid (AbA B (.slice (some ⟨g,off,none⟩) L.length cap) L t wr (.returned (.slice (some ⟨g,off+k*2,none⟩) (L.length-k) (cap-k))) wr):=aba_mid (t:=t) hO k hk (abv_is L t k hk (fun i m hi=>hno i m hi) (Or.inr ⟨m,hm,hp⟩)).1 hc;have hk2:(k:Int)≤(L.length:Int):=(by omega);clear hno;go_wp2;go_ret;exact HA.out
  ·obtain rfl:k=L.length:=by omega
   have e1:=(abv_is L t L.length hk (fun i m hi=>hno i m hi) (Or.inl rfl)).1;by_cases hc:cap=L.length
   ·subst hc;have HA:Hid (AbA B (.slice ao L.length L.length) L t wr (.returned (.slice ao 0 0)) wr):=aba_end (t:=t) hO e1;clear hno e1;go_wp2;go_ret;exact HA.out
   ·cases ao with
    |none=>exact absurd (hnn rfl) (by omega)
    |some a=>
     obtain⟨g,off,rfl⟩:=hsm a rfl;have hA:=aba_mid (t:=t) hO L.length hk e1 hc;rw [Nat.sub_self]at hA;have HA:=zh hA;clear hA;clear hno e1;go_wp2;go_ret;exact HA.out

theorem info_mo:(prog.info? 222).map (fun i=>(i.zero,i.size,i.bytes))=some (some (.agg #[.int .i64 0,.int .i64 0]),2,16):=by kernel_rfl
theorem cell_two (w:World) (e:TypeId) (a b:Value): ∀(j:Nat) (u:Value),[a,b][j]? =some u→(w.alloc (.cells #[a,b] e)).cell? ((⟨w.heap.size,0,none⟩:Addr).add j)=some u:=by
 intro j u h;match j,h with
 |0,h=>simp at h;subst h;simp [Addr.add]
 |1,h=>simp at h;subst h;simp [Addr.add]
 |j+2,h=>simp at h
theorem grown_trans {w w1 w2:World} (h:w.grownBy w1 r) (g:w1.grownBy w2 r):w.grownBy w2 r:=
 ⟨g.os.trans h.os,g.tape.trans h.tape,g.output.trans h.output,Xc h.size g.size,fun b h1 h2=>(g.block b (Xb h1 h.size) h2).trans (h.block b h1 h2)⟩
theorem grown_drew (w:World) (o:Obj) (r:Option Nat):w.grownBy (w.drew.alloc o) r:=⟨rfl,rfl,rfl,by simp,fun k hk _=>Below.heap_alloc w.drew o k hk⟩
def FolA (B:Nat) (v:Value) (q:Int→Bool) (L:List Mo) (m:Mo) (w:World) (e:Ending) (w':World):Prop:=
 ∃v',e=.returned v'∧MOwn w' B v' (fol q L m)∧w.grownBy w' v.ownBlock∧(v'.ownBlock=v.ownBlock∨ ∃g,v'.ownBlock=some g∧w.heap.size≤g)
theorem fol_is {B:Nat} {w w1:World} (hw:w.grownBy w1 (Value.slice ao L.length cap).ownBlock) (hk:k≤L.length) (he:cutE q L=L.take k)
  (hO:Own w3 B 222 2 v' (k+1) (cels mc (L.take k)++ [.int .i64 m.t,.int .i64 m.p])) (hg:w1.grownBy w3 (Value.slice ao k cap).ownBlock) (hl:v'.ownBlock=(Value.slice ao k cap).ownBlock∨v'.ownBlock=some w1.heap.size):FolA B (.slice ao L.length cap) q L m w (.returned v') w3:=by
 have hb:(Value.slice ao k cap).ownBlock=(Value.slice ao L.length cap).ownBlock:=by cases ao<;>rfl
 rw [hb]at hg hl;refine⟨v',rfl,?_,⟨hg.os.trans hw.os,hg.tape.trans hw.tape,hg.output.trans hw.output,Xc hw.size hg.size,fun b h1 h2=>(hg.block b (Xb h1 hw.size) h2).trans (hw.block b h1 h2)⟩,hl.imp id fun e=>⟨_,e,hw.size⟩⟩;have h1:(fol q L m).length=k+1:=by simp [fol,he];omega
 have h2:cels mc (fol q L m)=cels mc (L.take k)++ [.int .i64 m.t,.int .i64 m.p]:=by
  unfold fol;rw [cels_append,he];rfl
 show Own w3 B _ 2 v' _ _;rw [h1,h2];exact hO
def FoR (q:Int→Bool) (L:List Mo) (w1:World) (i:Value) (wr:World):Prop:=
 ∃k:Nat,k≤L.length∧i=.int .i64 k∧(∀j m,k≤j→L[j]? =some m→q m.p=true)∧wr=w1
theorem fo_step (h: ∀j x,k+1≤j→L[j]? =some x→q x.p=true) (hm:L[k]? =some m) (hp:q m.p=true): ∀j x,k≤j→L[j]? =some x→q x.p=true:=by
 intro j x hj hx;by_cases e:j=k
 ·subst e;rw [hm]at hx;cases hx;exact hp
 ·exact h j x (by omega) hx

theorem kn1_any (old want:Int) (C:Nat) (w:World) (hC:w.cell? ⟨C,0,none⟩=some (.int .i64 want)):
  CS 180 #[.int .i64 old,.pointer (some ⟨C,0,none⟩)] w (.bool (geq want old)):=by
 go_enter func180,ntmps180;go_wp2;go_ret;exact⟨rfl,rfl⟩
theorem fol1_any (B C:Nat) (v:Value) (L:List Mo) (t p want:Int) (w:World) (hO:MOwn w B v L) (hL:L.length≤10000000) (hB:B≤w.heap.size) (hC:w.cell? ⟨C,0,none⟩=some (.int .i64 want)):
  Calls prog 179 #[v,.agg #[.int .i64 t,.int .i64 p],.func (.func 180) #[] #[.pointer (some ⟨C,0,none⟩)]] w (FolA B v (geq want) L ⟨t,p⟩ w):=by
 obtain⟨i0,hi,hz0,hz1,hz2⟩:=info_parts info_mo;obtain⟨ao,cap,rfl,hc1,hc2,hao,hnn,hsm⟩:=hO.form;have hCl:=Xj w _ hC;simp only at hCl;go_enter func179,ntmps179;go_wp2;have hC1:(w.alloc (.cells #[.int .i64 t,.int .i64 p] 222)).cell? ⟨C,0,none⟩=some (.int .i64 want):=(Xf (w:=w) (a:=⟨C,0,none⟩) (Below.heap_alloc w _ C hCl)).trans hC;have hO1:MOwn (w.alloc (.cells #[.int .i64 t,.int .i64 p] 222)) B (.slice ao L.length cap) L:=Own.alloc hO _;have hE0:(w.alloc (.cells #[.int .i64 t,.int .i64 p] 222)).cell? ⟨w.heap.size,0,none⟩=some (.int .i64 t):=by simp
 have hE1:(w.alloc (.cells #[.int .i64 t,.int .i64 p] 222)).cell? ⟨w.heap.size,1,none⟩=some (.int .i64 p):=by simp
 have hG1:=World.grownBy_alloc w (.cells #[.int .i64 t,.int .i64 p] 222) (Value.slice ao L.length cap).ownBlock;have hB1:B≤(w.alloc (.cells #[.int .i64 t,.int .i64 p] 222)).heap.size:=by simp;omega
 generalize w.alloc (.cells #[.int .i64 t,.int .i64 p] 222)=w1 at*;clear hO hC hCl;go_loopw [7] (fun i wr=>FoR (geq want) L w1 i wr) (fun i _=>(intOf i).toNat)
 case atStart=>exact⟨L.length,Xa _,rfl,fun j m hj hm=>absurd (Xe.1 hm).1 (by omega),rfl⟩
 case round=>
  obtain⟨k,hk,rfl,hall,hwr⟩:=hrel;subst hwr;have hF: ∀k,k≤L.length→Own wr B 222 2 (.slice ao k cap) k (cels mc (L.take k)):=fun k hk=>by
   have:=hO1.front k hk;rw [←cels_take mc_len]at this;exact this
  have hfin: ∀k,k≤L.length→(∀j m,k≤j→L[j]? =some m→geq want m.p=true)→(k=0∨ ∃m,L[k-1]? =some m∧geq want m.p=false)→Hid (∀(o:Obj) (w3:World) (v':Value),Own w3 B 222 2 v' (k+1) (cels mc (L.take k)++ [.int .i64 t,.int .i64 p])→(wr.drew.alloc o).grownBy w3 (Value.slice ao k cap).ownBlock→(v'.ownBlock=(Value.slice ao k cap).ownBlock∨v'.ownBlock=some (wr.drew.alloc o).heap.size)→FolA B (.slice ao L.length cap) (geq want) L ⟨t,p⟩ w (.returned v') w3):=
   fun k hk h1 h2 o w3 v' a b c=>fol_is (m:=⟨t,p⟩) (grown_trans hG1 (grown_drew wr o _)) hk (cutE_is _ L k hk h1 h2) a b c
  cases k with
  |zero=>
   have HF:=hfin 0 (Xx _) hall (Or.inl rfl);have hF0:=hF 0 (Xx _);clear hfin hall hF;have hk0:((0:Nat):Int)≤(cap:Int):=by omega
   go_wp2_with fail
   cases ao with
   |none=>
    obtain rfl:=hnn rfl;go_region_law (refine step_at rfl (.tmp 26) (.tmp 28) 49 rfl B 222 i0 (.agg #[.int .i64 0,.int .i64 0]) 2 16 underlying49 hi hz0 hz1 hz2 rfl _ 0 (cels mc (L.take (0))) rfl ((hF0.drew).alloc _) ⟨wr.heap.size,0,none⟩ 1 1 [.int .i64 t,.int .i64 p] rfl rfl (cell_two _ _ _ _) (fun u hu=>by simp at hu;rcases hu with rfl|rfl<;>rfl) (by decide) (by unfold maxLen;omega) (by omega) (by simp;omega) ?_;intro v' w3 hown3 hgrow3 hloc3)
    all_goals
     go_wp2;go_ret;exact HF.out _ w3 v' hown3 hgrow3 hloc3
   |some a=>
    obtain⟨g,off,rfl⟩:=hsm a rfl;go_region_law (refine step_at rfl (.tmp 26) (.tmp 28) 49 rfl B 222 i0 (.agg #[.int .i64 0,.int .i64 0]) 2 16 underlying49 hi hz0 hz1 hz2 rfl _ 0 (cels mc (L.take (0))) rfl ((hF0.drew).alloc _) ⟨wr.heap.size,0,none⟩ 1 1 [.int .i64 t,.int .i64 p] rfl rfl (cell_two _ _ _ _) (fun u hu=>by simp at hu;rcases hu with rfl|rfl<;>rfl) (by decide) (by unfold maxLen;omega) (by omega) (by simp;omega) ?_;intro v' w3 hown3 hgrow3 hloc3)
    all_goals
     go_wp2;go_ret;exact HF.out _ w3 v' hown3 hgrow3 hloc3
  |succ k=>
   have hlt:k<L.length:=by omega
   obtain⟨g,off,rfl⟩:=hao (by omega);obtain⟨m,hm⟩: ∃m,L[k]? =some m:=⟨L[k],by simp [hlt]⟩
   obtain⟨c0,c1,_,_,hg⟩:=own_mo hO1 rfl hm;have hk1:((k+1:Nat):Int)-1=(k:Int):=by omega
   have hk2:(0:Int)<((k+1:Nat):Int):=by omega
   cases hp:geq want m.p
   ·have HF:=hfin (k+1) hk hall (Or.inr ⟨m,hm,hp⟩);have hF0:=hF (k+1) hk;have hq1:(0:Int)≤(k:Int)+1:=(by omega);have hq2:(k:Int)+1≤(cap:Int):=(by omega);clear hfin hall hF;go_wp2_with(go_at_call 180;(with_reducible refine(kn1_any m.p want C _ hC1).mono ?_);rw [hp];rintro e w' ⟨rfl,h9⟩;have h8:=h9.symm;clear h9;subst h8)
    go_region_law (refine step_at rfl (.tmp 26) (.tmp 28) 49 rfl B 222 i0 (.agg #[.int .i64 0,.int .i64 0]) 2 16 underlying49 hi hz0 hz1 hz2 rfl _ (k+1) (cels mc (L.take ((k+1)))) rfl ((hF0.drew).alloc _) ⟨wr.heap.size,0,none⟩ 1 1 [.int .i64 t,.int .i64 p] rfl rfl (cell_two _ _ _ _) (fun u hu=>by simp at hu;rcases hu with rfl|rfl<;>rfl) (by decide) (by unfold maxLen;omega) (by omega) (by simp;omega) ?_;intro v' w3 hown3 hgrow3 hloc3)
    all_goals
     go_wp2;go_ret;exact HF.out _ w3 v' hown3 hgrow3 hloc3
   ·have hs:=fo_step hall hm hp;clear hfin hall hF;go_wp2_with(go_at_call 180;(with_reducible refine(kn1_any m.p want C _ hC1).mono ?_);rw [hp];rintro e w' ⟨rfl,h9⟩;have h8:=h9.symm;clear h9;subst h8)
    go_roundw
    case rel=>exact⟨k,by omega,by simp,hs,rfl⟩
    case measure=>simp [intOf]

theorem kn2_any (old want:Int) (C:Nat) (w:World) (hC:w.cell? ⟨C,0,none⟩=some (.int .i64 want)):
  CS 181 #[.int .i64 old,.pointer (some ⟨C,0,none⟩)] w (.bool (leq want old)):=by
 go_enter func181,ntmps181;go_wp2;go_ret;exact⟨rfl,rfl⟩
theorem fol2_any (B C:Nat) (v:Value) (L:List Mo) (t p want:Int) (w:World) (hO:MOwn w B v L) (hL:L.length≤10000000) (hB:B≤w.heap.size) (hC:w.cell? ⟨C,0,none⟩=some (.int .i64 want)):
  Calls prog 179 #[v,.agg #[.int .i64 t,.int .i64 p],.func (.func 181) #[] #[.pointer (some ⟨C,0,none⟩)]] w (FolA B v (leq want) L ⟨t,p⟩ w):=by
 obtain⟨i0,hi,hz0,hz1,hz2⟩:=info_parts info_mo;obtain⟨ao,cap,rfl,hc1,hc2,hao,hnn,hsm⟩:=hO.form;have hCl:=Xj w _ hC;simp only at hCl;go_enter func179,ntmps179;go_wp2;have hC1:(w.alloc (.cells #[.int .i64 t,.int .i64 p] 222)).cell? ⟨C,0,none⟩=some (.int .i64 want):=(Xf (w:=w) (a:=⟨C,0,none⟩) (Below.heap_alloc w _ C hCl)).trans hC;have hO1:MOwn (w.alloc (.cells #[.int .i64 t,.int .i64 p] 222)) B (.slice ao L.length cap) L:=Own.alloc hO _;have hE0:(w.alloc (.cells #[.int .i64 t,.int .i64 p] 222)).cell? ⟨w.heap.size,0,none⟩=some (.int .i64 t):=by simp
 have hE1:(w.alloc (.cells #[.int .i64 t,.int .i64 p] 222)).cell? ⟨w.heap.size,1,none⟩=some (.int .i64 p):=by simp
 have hG1:=World.grownBy_alloc w (.cells #[.int .i64 t,.int .i64 p] 222) (Value.slice ao L.length cap).ownBlock;have hB1:B≤(w.alloc (.cells #[.int .i64 t,.int .i64 p] 222)).heap.size:=by simp;omega
 generalize w.alloc (.cells #[.int .i64 t,.int .i64 p] 222)=w1 at*;clear hO hC hCl;go_loopw [7] (fun i wr=>FoR (leq want) L w1 i wr) (fun i _=>(intOf i).toNat)
 case atStart=>exact⟨L.length,Xa _,rfl,fun j m hj hm=>absurd (Xe.1 hm).1 (by omega),rfl⟩
 case round=>
  obtain⟨k,hk,rfl,hall,hwr⟩:=hrel;subst hwr;have hF: ∀k,k≤L.length→Own wr B 222 2 (.slice ao k cap) k (cels mc (L.take k)):=fun k hk=>by
   have:=hO1.front k hk;rw [←cels_take mc_len]at this;exact this
  have hfin: ∀k,k≤L.length→(∀j m,k≤j→L[j]? =some m→leq want m.p=true)→(k=0∨ ∃m,L[k-1]? =some m∧leq want m.p=false)→Hid (∀(o:Obj) (w3:World) (v':Value),Own w3 B 222 2 v' (k+1) (cels mc (L.take k)++ [.int .i64 t,.int .i64 p])→(wr.drew.alloc o).grownBy w3 (Value.slice ao k cap).ownBlock→(v'.ownBlock=(Value.slice ao k cap).ownBlock∨v'.ownBlock=some (wr.drew.alloc o).heap.size)→FolA B (.slice ao L.length cap) (leq want) L ⟨t,p⟩ w (.returned v') w3):=
   fun k hk h1 h2 o w3 v' a b c=>fol_is (m:=⟨t,p⟩) (grown_trans hG1 (grown_drew wr o _)) hk (cutE_is _ L k hk h1 h2) a b c
  cases k with
  |zero=>
   have HF:=hfin 0 (Xx _) hall (Or.inl rfl);have hF0:=hF 0 (Xx _);clear hfin hall hF;have hk0:((0:Nat):Int)≤(cap:Int):=by omega
   go_wp2_with fail
   cases ao with
   |none=>
    obtain rfl:=hnn rfl;go_region_law (refine step_at rfl (.tmp 26) (.tmp 28) 49 rfl B 222 i0 (.agg #[.int .i64 0,.int .i64 0]) 2 16 underlying49 hi hz0 hz1 hz2 rfl _ 0 (cels mc (L.take (0))) rfl ((hF0.drew).alloc _) ⟨wr.heap.size,0,none⟩ 1 1 [.int .i64 t,.int .i64 p] rfl rfl (cell_two _ _ _ _) (fun u hu=>by simp at hu;rcases hu with rfl|rfl<;>rfl) (by decide) (by unfold maxLen;omega) (by omega) (by simp;omega) ?_;intro v' w3 hown3 hgrow3 hloc3)
    all_goals
     go_wp2;go_ret;exact HF.out _ w3 v' hown3 hgrow3 hloc3
   |some a=>
    obtain⟨g,off,rfl⟩:=hsm a rfl;go_region_law (refine step_at rfl (.tmp 26) (.tmp 28) 49 rfl B 222 i0 (.agg #[.int .i64 0,.int .i64 0]) 2 16 underlying49 hi hz0 hz1 hz2 rfl _ 0 (cels mc (L.take (0))) rfl ((hF0.drew).alloc _) ⟨wr.heap.size,0,none⟩ 1 1 [.int .i64 t,.int .i64 p] rfl rfl (cell_two _ _ _ _) (fun u hu=>by simp at hu;rcases hu with rfl|rfl<;>rfl) (by decide) (by unfold maxLen;omega) (by omega) (by simp;omega) ?_;intro v' w3 hown3 hgrow3 hloc3)
    all_goals
     go_wp2;go_ret;exact HF.out _ w3 v' hown3 hgrow3 hloc3
  |succ k=>
   have hlt:k<L.length:=by omega
   obtain⟨g,off,rfl⟩:=hao (by omega);obtain⟨m,hm⟩: ∃m,L[k]? =some m:=⟨L[k],by simp [hlt]⟩
   obtain⟨c0,c1,_,_,hg⟩:=own_mo hO1 rfl hm;have hk1:((k+1:Nat):Int)-1=(k:Int):=by omega
   have hk2:(0:Int)<((k+1:Nat):Int):=by omega
   cases hp:leq want m.p
   ·have HF:=hfin (k+1) hk hall (Or.inr ⟨m,hm,hp⟩);have hF0:=hF (k+1) hk;have hq1:(0:Int)≤(k:Int)+1:=(by omega);have hq2:(k:Int)+1≤(cap:Int):=(by omega);clear hfin hall hF;go_wp2_with(go_at_call 181;(with_reducible refine(kn2_any m.p want C _ hC1).mono ?_);rw [hp];rintro e w' ⟨rfl,h9⟩;have h8:=h9.symm;clear h9;subst h8)
    go_region_law (refine step_at rfl (.tmp 26) (.tmp 28) 49 rfl B 222 i0 (.agg #[.int .i64 0,.int .i64 0]) 2 16 underlying49 hi hz0 hz1 hz2 rfl _ (k+1) (cels mc (L.take ((k+1)))) rfl ((hF0.drew).alloc _) ⟨wr.heap.size,0,none⟩ 1 1 [.int .i64 t,.int .i64 p] rfl rfl (cell_two _ _ _ _) (fun u hu=>by simp at hu;rcases hu with rfl|rfl<;>rfl) (by decide) (by unfold maxLen;omega) (by omega) (by simp;omega) ?_;intro v' w3 hown3 hgrow3 hloc3)
    all_goals
     go_wp2;go_ret;exact HF.out _ w3 v' hown3 hgrow3 hloc3
   ·have hs:=fo_step hall hm hp;clear hfin hall hF;go_wp2_with(go_at_call 181;(with_reducible refine(kn2_any m.p want C _ hC1).mono ?_);rw [hp];rintro e w' ⟨rfl,h9⟩;have h8:=h9.symm;clear h9;subst h8)
    go_roundw
    case rel=>exact⟨k,by omega,by simp,hs,rfl⟩
    case measure=>simp [intOf]

/-- nothing but the cells J of the block Q and the block R has turned -/
structure Wr (Q:Nat) (J:Nat→Prop) (R:Option Nat) (w w':World):Prop where
  os:w'.os=w.os
  tape:w'.tape=w.tape
  output:w'.output=w.output
  size:w.heap.size≤w'.heap.size
  block: ∀k,k<w.heap.size→k≠Q→some k≠R→w'.heap[k]? =w.heap[k]?
  cell: ∀j,¬J j→w'.cell? ⟨Q,j,none⟩=w.cell? ⟨Q,j,none⟩
  fz: ∀j,w'.frozen? ⟨Q,j,none⟩=w.frozen? ⟨Q,j,none⟩
section
variable {Q : Nat} {J J' : Nat → Prop} {R : Option Nat} {w w1 w2 : World}
theorem Wr.refl (Q:Nat) (J:Nat→Prop) (R:Option Nat) (w:World):Wr Q J R w w:=⟨rfl,rfl,rfl,Xa _,fun _ _ _ _=>rfl,fun _ _=>rfl,fun _=>rfl⟩
theorem Wr.trans (h:Wr Q J R w w1) (g:Wr Q J R w1 w2):Wr Q J R w w2:=
  ⟨g.os.trans h.os,g.tape.trans h.tape,g.output.trans h.output,Xc h.size g.size,fun k a b c=>(g.block k (Xb a h.size) b c).trans (h.block k a b c),fun j hj=>(g.cell j hj).trans (h.cell j hj),fun j=>(g.fz j).trans (h.fz j)⟩
theorem Wr.mono (h:Wr Q J R w w1) (hj: ∀j,J j→J' j):Wr Q J' R w w1:=⟨h.os,h.tape,h.output,h.size,h.block,fun j a=>h.cell j (fun b=>a (hj j b)),h.fz⟩
theorem Wr.any (h:Wr Q J none w w1) (R:Option Nat):Wr Q J R w w1:=⟨h.os,h.tape,h.output,h.size,fun k a b _=>h.block k a b (fun e=>by cases e),h.cell,h.fz⟩
theorem Wr.drew (h:Wr Q J R w w1):Wr Q J R w w1.drew:=⟨h.os,h.tape,h.output,h.size,h.block,h.cell,h.fz⟩
theorem Wr.below (hb:Below w.heap.size w w1) (hQ:Q<w.heap.size):Wr Q J R w w1:=
  ⟨hb.os,hb.tape,hb.output,hb.size,fun k a _ _=>hb.block k a,fun j _=>Xf (a:=⟨Q,j,none⟩) (hb.block Q hQ),fun j=>Xl (a:=⟨Q,j,none⟩) (hb.block Q hQ)⟩
theorem Wr.alloc (h:Wr Q J R w w1) (hQ:Q<w.heap.size) (o:Obj):Wr Q J R w (w1.alloc o):=
  h.trans (Wr.below ((Below.refl _ _).alloc (Xa _) _) (Xb hQ h.size))
theorem Wr.grown (h:w.grownBy w1 R) (hQ:Q<w.heap.size) (hR:R≠some Q):Wr Q J R w w1:=
  ⟨h.os,h.tape,h.output,h.size,fun k a _ c=>h.block k a c,fun j _=>Xf (a:=⟨Q,j,none⟩) (h.block Q hQ (fun e=>hR e.symm)),fun j=>Xl (a:=⟨Q,j,none⟩) (h.block Q hQ (fun e=>hR e.symm))⟩
theorem Wr.set (h:Wr Q J R w w1) (hj:J j) (u:Value):Wr Q J R w (w1.setCell ⟨Q,j,none⟩ u):=
  ⟨h.os, h.tape, h.output, by simpa using h.size, fun k a b c => (Below.heap_setCell w1 ⟨Q, j, none⟩ u k b).trans (h.block k a b c),
   fun i hi=>by rw [Xd (h:=fun e=>hi (by have:=congrArg Addr.off e;simp at this;subst this;exact hj))];exact h.cell i hi,
   fun i=>by rw [Xi];exact h.fz i⟩
theorem Wr.setR (h:Wr Q J R w w1) (hg:R=some g) (hne:g≠Q) (j:Nat) (u:Value):Wr Q J R w (w1.setCell ⟨g,j,none⟩ u):=
  ⟨h.os, h.tape, h.output, by simpa using h.size, fun k a b c => (Below.heap_setCell w1 ⟨g, j, none⟩ u k (fun e => c (by rw [e, hg]))).trans (h.block k a b c),
   fun i hi=>by rw [Xd (h:=fun e=>hne (congrArg Addr.block e))];exact h.cell i hi,
   fun i=>by rw [Xi];exact h.fz i⟩
end
/-- a tally lies at cell o of the block Q -/
structure TAt (w:World) (B Q o:Nat) (v:Value) (T:Ta):Prop where
  lt:Q<w.heap.size
  cM:w.cell? ⟨Q,o,none⟩=some v
  cS:w.cell? ⟨Q,o+1,none⟩=some (.int .i64 T.s)
  fM:w.frozen? ⟨Q,o,none⟩=false
  fS:w.frozen? ⟨Q,o+1,none⟩=false
  own:MOwn w B v T.l
  ne:v.ownBlock≠some Q
theorem own_set {w:World} {B Q:Nat} {v u:Value} (h:MOwn w B v L) (hne:v.ownBlock≠some Q):MOwn (w.setCell ⟨Q,j,none⟩ u) B v L:=
  Own.kept h (fun g hg=>Below.heap_setCell w ⟨Q,j,none⟩ u g (fun e=>hne (by rw [hg];exact congrArg some e)))
theorem own_wr {Q B:Nat} {J:Nat→Prop} {R:Option Nat} {w w1:World} {v:Value} (h:MOwn w B v L) (hw:Wr Q J R w w1) (hne:v.ownBlock≠some Q) (hR:v.ownBlock=none∨v.ownBlock≠R):MOwn w1 B v L:=by
  refine Own.kept h (fun g hg=>hw.block g (h.lt g hg).2 (fun e=>hne (by rw [hg,e])) (fun e=> ?_));rcases hR with a|a
  · rw [a]at hg;cases hg
  · exact a (hg.trans e)

section
variable {w w1 : World} {B Q o : Nat} {v : Value} {T : Ta}
theorem TAt.kept (h:TAt w B Q o v T) (hb: ∀g,(g=Q∨v.ownBlock=some g)→w1.heap[g]? =w.heap[g]?):TAt w1 B Q o v T:=by
  have hQ:=hb Q (Or.inl rfl);refine⟨?_,(Xf (a:=⟨Q,o,none⟩) hQ).trans h.cM,(Xf (a:=⟨Q,o+1,none⟩) hQ).trans h.cS,(Xl (a:=⟨Q,o,none⟩) hQ).trans h.fM,(Xl (a:=⟨Q,o+1,none⟩) hQ).trans h.fS,Own.kept h.own (fun g hg=>hb g (Or.inr hg)),h.ne⟩;have:=h.lt;rw [X7 this]at hQ;exact(XM.1 hQ).1
theorem TAt.drew (h:TAt w B Q o v T):TAt w.drew B Q o v T:=h.kept (fun _ _=>rfl)
theorem TAt.below (h:TAt w B Q o v T) (hb:Below w.heap.size w w1):TAt w1 B Q o v T:=h.kept (fun g hg=>hb.block g (by rcases hg with rfl|hg;exact h.lt;exact(h.own.lt g hg).2))
theorem TAt.alloc (h:TAt w B Q o v T) (x:Obj):TAt (w.alloc x) B Q o v T:=h.below ((Below.refl _ _).alloc (Xa _) _)
theorem TAt.setS (h:TAt w B Q o v T) (x:Int):TAt (w.setCell ⟨Q,o+1,none⟩ (.int .i64 x)) B Q o v ⟨T.l,x⟩:=
  ⟨by simpa using h.lt,by rw [Xd (h:=fun e=>by have:=congrArg Addr.off e;simp at this)];exact h.cM,Xn _ _ _ h.cS,by rw [Xi];exact h.fM,by rw [Xi];exact h.fS,own_set h.own h.ne,h.ne⟩
theorem TAt.setM (h:TAt w B Q o v T) (hO:MOwn w B v' L) (hne:v'.ownBlock≠some Q):TAt (w.setCell ⟨Q,o,none⟩ v') B Q o v' ⟨L,T.s⟩:=
  ⟨by simpa using h.lt,Xn _ _ _ h.cM,by rw [Xd (h:=fun e=>by have:=congrArg Addr.off e;simp at this)];exact h.cS,by rw [Xi];exact h.fM,by rw [Xi];exact h.fS,own_set hO hne,hne⟩
end
/-- what forget comes to -/
def FgA (B Q o:Nat) (v:Value) (T:Ta) (t:Int) (w:World) (e:Ending) (w':World):Prop:=
  e=.returned (.tuple #[])∧ ∃v',TAt w' B Q o v' (T.forget t)∧v'.ownBlock=v.ownBlock∧Wr Q (fun j=>j=o∨j=o+1) none w w'
/-- some of what is behind is taken off -/
def FgR (B Q o:Nat) (v:Value) (T:Ta) (n:Nat) (w:World) (i:Value) (wr:World):Prop:=
  ∃k:Nat,k≤n∧i=.int .i64 k∧TAt wr B Q o v ⟨T.l,T.s-sumP (T.l.take k)⟩∧Wr Q (fun j=>j=o∨j=o+1) none w wr
theorem tw_len (L:List Mo) (t:Int):(L.takeWhile (fun m=>decide (m.t≤t))).length+(abv L t).length=L.length:=by
  rw [←Xg];unfold abv;rw [YA]
theorem tw_take (L:List Mo) (t:Int):L.takeWhile (fun m=>decide (m.t≤t))=L.take (L.takeWhile (fun m=>decide (m.t≤t))).length:=by
  conv=>rhs;rw [←YA (p:=fun m:Mo=>decide (m.t≤t)) (l:=L)]
  have h:(List.takeWhile (fun m:Mo=>decide (m.t≤t)) (List.takeWhile (fun m:Mo=>decide (m.t≤t)) L++List.dropWhile (fun m:Mo=>decide (m.t≤t)) L))=List.takeWhile (fun m:Mo=>decide (m.t≤t)) L:=by rw [YA]
  rw [h,List.take_left'];rfl

theorem forget_any (B Q o:Nat) (v:Value) (T:Ta) (t:Int) (k:Nat) (w:World) (hA:TAt w B Q o v T) (hT:TaOk T k) (hk:k≤1000000):
    Calls prog 183 #[.pointer (some ⟨Q,o,none⟩),.int .i64 t] w (FgA B Q o v T t w):=by
  obtain⟨ao,cap,rfl,hc1,hc2,hao,hnn,hsm⟩:=hA.own.form;have hlen:=hT.len;have hl:=tw_len T.l t;have htk:=tw_take T.l t;have c:=above_any B _ T.l t w hA.own (by omega);have cM:=hA.cM;have hp:=hT.part;have hge:=hT.ge;have hle:=hT.le;obtain⟨n,hn⟩: ∃n,n=(T.l.takeWhile (fun m=>decide (m.t≤t))).length:=⟨_,rfl⟩
  rw [←hn]at hl htk;have hlt:=hA.lt;go_enter func183,ntmps183;go_wp2_with(go_at_call 182;(with_reducible refine c.mono ?_);rintro e w' ⟨v',rfl,hO',hb',h9⟩;have h8:=h9.symm;clear h9;subst h8;obtain⟨ao',cap',rfl,hd1,hd2,_,_,_⟩:=hO'.form)
  have hsub:(T.l.length:Int)-((abv T.l t).length:Int)=(n:Int):=by omega
  have hn1:(n:Int)≤(cap:Int):=by omega
  have hn2:n≤T.l.length:=by omega
  have HV:Hid (∀w2,TAt w2 B Q o (.slice ao T.l.length cap) ⟨T.l,T.s-sumP (T.l.take n)⟩→Wr Q (fun j=>j=o∨j=o+1) none w w2→FgA B Q o (.slice ao T.l.length cap) T t w (.returned (.tuple #[])) (w2.setCell ⟨Q,o,none⟩ (.slice ao' (abv T.l t).length cap'))):=by
    intro w2 h2 hw2;have hne':(Value.slice ao' (abv T.l t).length cap').ownBlock≠some Q:=by rw [hb'];exact hA.ne
    have hO2 : MOwn w2 B (.slice ao' (abv T.l t).length cap') (abv T.l t) := own_wr hO' hw2 hne' (by
      cases (Value.slice ao' (abv T.l t).length cap').ownBlock with
      |none=>exact Or.inl rfl
      |some g=>exact Or.inr (by simp))
    have h3:=h2.setM hO2 hne';refine⟨rfl,_,?_,hb',hw2.set (Or.inl rfl) _⟩;unfold Ta.forget;rw [htk];exact h3
  clear c hO' hb' hn htk;generalize (abv T.l t).length=a' at*;go_region
  all_goals
    go_wp2_with fail
    go_loopw [27] (fun i wr=>FgR B Q o (.slice ao T.l.length cap) T n w i wr) (fun i _=>n-(intOf i).toNat)
    case atStart=>exact⟨0,by omega,rfl,by simpa [sumP]using(⟨hA.lt,hA.cM,hA.cS,hA.fM,hA.fS,Own.drew hA.own,hA.ne⟩:TAt w.drew B Q o (.slice ao T.l.length cap) T),(Wr.refl _ _ _ _).drew⟩
    case round=>
      obtain⟨k',hk',rfl,hA',hW'⟩:=hrel;have cM':=hA'.cM;have cS':=hA'.cS;have fM':=hA'.fM;have fS':=hA'.fS;have hQ':=hA'.lt;by_cases hlt':k'<n
      · have hlt2:(k':Int)<(n:Int):=by omega
        obtain⟨g,off,rfl⟩:=hao (by omega);obtain⟨m,hm⟩: ∃m,T.l[k']? =some m:=⟨T.l[k'],by simp [show k'<T.l.length by omega]⟩
        obtain⟨c0,c1,_,_,hg⟩:=own_mo hA'.own rfl hm;have hs:=sumP_take T.l k' m hm;have h1:=hp k';have h2:=hp (k'+1);rw [hs]at h2;have hq1: -9223372036854775808≤T.s-sumP (T.l.take k')-m.p:=(by omega);have hq2:T.s-sumP (T.l.take k')-m.p≤9223372036854775807:=(by omega);have hnew:Hid (TAt (((wr.setCell ⟨Q,o+1,none⟩ (.int .i64 (T.s-sumP (T.l.take k')-m.p))).alloc (.cells #[.int .i64 m.t,.int .i64 m.p] 222)).drew) B Q o (.slice (some ⟨g,off,none⟩) T.l.length cap) ⟨T.l,T.s-sumP (T.l.take (k'+1))⟩∧Wr Q (fun j=>j=o∨j=o+1) none w (((wr.setCell ⟨Q,o+1,none⟩ (.int .i64 (T.s-sumP (T.l.take k')-m.p))).alloc (.cells #[.int .i64 m.t,.int .i64 m.p] 222)).drew)):=by
          have h3:=((hA'.setS (T.s-sumP (T.l.take k')-m.p)).alloc (.cells #[.int .i64 m.t,.int .i64 m.p] 222)).drew;rw [hs,show T.s-(sumP (T.l.take k')+m.p)=T.s-sumP (T.l.take k')-m.p by omega];exact⟨h3,((hW'.set (j:=o+1) (Or.inr rfl) _).alloc hlt _).drew⟩
        clear hA' hW' hs HV hA;go_wp2_with fail
        go_region
        all_goals
          go_wp2;go_roundw
          case rel=>exact⟨k'+1,by omega,by simp,hnew.out.1,hnew.out.2⟩
          case measure=>simp [intOf];omega
      · obtain rfl:k'=n:=by omega
        have HF:Hid (FgA B Q o (.slice ao T.l.length cap) T t w (.returned (.tuple #[])) (wr.setCell ⟨Q,o,none⟩ (.slice ao' a' cap'))):=HV.out wr hA' hW';clear hA' hW' HV hA;go_wp2;go_end0;exact HF.out

def AdA (B Q o:Nat) (v:Value) (T:Ta) (now pods:Int) (w:World) (e:Ending) (w':World):Prop:=
 e=.returned (.tuple #[])∧ ∃v',TAt w' B Q o v' (T.add now pods)∧(v'.ownBlock=v.ownBlock∨ ∃g,v'.ownBlock=some g∧w.heap.size≤g)∧Wr Q (fun j=>j=o∨j=o+1) v.ownBlock w w'
theorem ada_app {B Q o:Nat} {v:Value} {T:Ta} {w:World} {x:Obj} (hA:TAt w B Q o v T) (hadd:T.add now pods=(⟨T.l++ [⟨now,pods⟩],T.s+pods⟩:Ta))
  (hO:Own w3 B 222 2 v' (T.l.length+1) (cels mc T.l++ [.int .i64 now,.int .i64 pods])) (hg:((w.setCell ⟨Q,o+1,none⟩ (.int .i64 (T.s+pods))).alloc x).grownBy w3 v.ownBlock) (hl:v'.ownBlock=v.ownBlock∨v'.ownBlock=some ((w.setCell ⟨Q,o+1,none⟩ (.int .i64 (T.s+pods))).alloc x).heap.size):
  Hid (AdA B Q o v T now pods w (.returned (.tuple #[])) (w3.setCell ⟨Q,o,none⟩ v'))∧w3.cell? ⟨Q,o,none⟩=some v∧w3.frozen? ⟨Q,o,none⟩=false:=by
 have h1:=(hA.setS (T.s+pods)).alloc x;have hW:Wr Q (fun j=>j=o∨j=o+1) v.ownBlock w ((w.setCell ⟨Q,o+1,none⟩ (.int .i64 (T.s+pods))).alloc x):=((Wr.refl Q _ _ w).set (Or.inr rfl) _).alloc hA.lt _;have hQ:=hg.block Q h1.lt (fun e=>hA.ne e.symm);have hO':MOwn w3 B v' (T.l++ [⟨now,pods⟩]):=by
  show Own w3 B _ 2 v' (T.l++ [(⟨now,pods⟩:Mo)]).length (cels mc (T.l++ [(⟨now,pods⟩:Mo)]));rw [cels_append,Xg];exact hO
 have hne:v'.ownBlock≠some Q:=by
  rcases hl with e|e
  ·rw [e];exact hA.ne
  ·rw [e];have:=h1.lt;intro h;simp only [Option.some.injEq]at h;omega
 have h3:TAt w3 B Q o v ⟨T.l,T.s+pods⟩→TAt (w3.setCell ⟨Q,o,none⟩ v') B Q o v' ⟨T.l++ [⟨now,pods⟩],T.s+pods⟩:=fun h=>h.setM hO' hne;have cM3:=(Xf (w:=(w.setCell ⟨Q,o+1,none⟩ (.int .i64 (T.s+pods))).alloc x) (a:=⟨Q,o,none⟩) hQ).trans h1.cM;have cS3:=(Xf (w:=(w.setCell ⟨Q,o+1,none⟩ (.int .i64 (T.s+pods))).alloc x) (a:=⟨Q,o+1,none⟩) hQ).trans h1.cS;have fM3:=(Xl (w:=(w.setCell ⟨Q,o+1,none⟩ (.int .i64 (T.s+pods))).alloc x) (a:=⟨Q,o,none⟩) hQ).trans h1.fM;have fS3:=(Xl (w:=(w.setCell ⟨Q,o+1,none⟩ (.int .i64 (T.s+pods))).alloc x) (a:=⟨Q,o+1,none⟩) hQ).trans h1.fS;refine⟨⟨rfl,v',?_,?_,(hW.trans (Wr.grown hg h1.lt hA.ne)).set (Or.inl rfl) _⟩,cM3,fM3⟩
 ·rw [hadd];exact⟨by simpa using Xb h1.lt hg.size,Xn _ _ _ cM3,by rw [Xd (h:=fun e=>by have:=congrArg Addr.off e;simp at this)];exact cS3,by rw [Xi];exact fM3,by rw [Xi];exact fS3,own_set hO' hne,hne⟩
 ·exact hl.imp id fun e=>⟨_,e,hW.size⟩
theorem cell_twoN {w:World} {N:Nat} (e:TypeId) (a b:Value) (hN:N=w.heap.size): ∀(j:Nat) (u:Value),[a,b][j]? =some u→(w.alloc (.cells #[a,b] e)).cell? ((⟨N,0,none⟩:Addr).add j)=some u:=by
 subst hN;exact cell_two w e a b
theorem set_last (L:List Mo) (m x:Mo) (h:L.getLast? =some m):L.dropLast++ [x]=L.set (L.length-1) x:=by
 have hs:=last_split h;generalize hd:L.dropLast=D at*;subst hs;simp
theorem cels_set (L:List Mo) (i:Nat) (t p q:Int) (h:L[i]? =some ⟨t,p⟩):cels mc (L.set i ⟨t,q⟩)=(cels mc L).set (i*2+1) (.int .i64 q):=by
 induction L generalizing i with
 |nil=>simp at h
 |cons m L ih=>
  cases i with
  |zero=>simp at h;subst h;simp [cels,mc]
  |succ i=>simp at h;simp only [ar,cels,ih i h,mc];rw [show(i+1)*2+1=i*2+1+1+1 by omega];simp
theorem ada_set {B Q o off:Nat} {T:Ta} {w:World} (hA:TAt w B Q o (.slice (some ⟨g,off,none⟩) T.l.length cap) T) (hadd:T.add now pods=⟨T.l.dropLast++ [⟨now,m.p+pods⟩],T.s+pods⟩) (hm:T.l.getLast? =some m) (ht:m.t=now) (n:Nat) (hn:T.l.length=n+1):
  AdA B Q o (.slice (some ⟨g,off,none⟩) T.l.length cap) T now pods w (.returned (.tuple #[])) ((w.setCell ⟨Q,o+1,none⟩ (.int .i64 (T.s+pods))).setCell ⟨g,off+n*2+1,none⟩ (.int .i64 (m.p+pods))):=by
 have hgQ:g≠Q:=fun e=>hA.ne (by rw [e];rfl);have h1:=hA.setS (T.s+pods);have hm':T.l[n]? =some ⟨now,m.p⟩:=by
  rw [List.getLast?_eq_getElem?,hn]at hm;rw [show n+1-1=n by omega]at hm;rw [hm,←ht]
 have hO:=(show Own _ B _ 2 _ T.l.length (cels mc T.l)from h1.own).stored (n*2+1) (.int .i64 (m.p+pods)) (by omega);rw [←cels_set T.l n now m.p _ hm',show off+(n*2+1)=off+n*2+1 by omega]at hO;have hL:T.l.dropLast++ [⟨now,m.p+pods⟩]=T.l.set n ⟨now,m.p+pods⟩:=by rw [set_last T.l m _ hm,hn];rfl
 refine⟨rfl,_,?_,Or.inl rfl,((Wr.refl Q _ _ w).set (Or.inr rfl) _).setR rfl hgQ _ _⟩;rw [hadd,hL];refine⟨by simpa using h1.lt,?_,?_,by rw [Xi];exact h1.fM,by rw [Xi];exact h1.fS,?_,hA.ne⟩
 ·rw [Xd (h:=fun e=>hgQ (congrArg Addr.block e))];exact h1.cM
 ·rw [Xd (h:=fun e=>hgQ (congrArg Addr.block e))];exact h1.cS
 ·show Own _ B _ 2 _ (T.l.set n _).length _;rw [Yg];exact hO

theorem add_any (B Q o:Nat) (v:Value) (T:Ta) (now pods:Int) (k:Nat) (w:World) (hA:TAt w B Q o v T) (hT:TaOk T k) (hk:k≤1000000) (h0:0≤pods) (h50:pods≤50) (hB:B≤w.heap.size):
  Calls prog 187 #[.pointer (some ⟨Q,o,none⟩),.int .i64 now,.int .i64 pods] w (AdA B Q o v T now pods w):=by
 by_cases hz:pods=0
 ·subst hz;have HA:Hid (AdA B Q o v T now 0 w (.returned (.tuple #[])) w):=⟨rfl,v,by simpa [Ta.add]using hA,Or.inl rfl,Wr.refl _ _ _ _⟩
  go_enter func187,ntmps187;go_wp2;(try simp only [Exit.inBlock,Exit.then]);refine bodyPost_ret (results_none rfl _ _ _) rfl ?_;exact HA.out
 ·obtain⟨i0,hi,hz0,hz1,hz2⟩:=info_parts info_mo;obtain⟨ao,cap,rfl,hc1,hc2,hao,hnn,hsm⟩:=hA.own.form;have hlen:=hT.len;have hge:=hT.ge;have hle:=hT.le;have hz':(pods==0)=false:=by simp [hz]
  have cM:=hA.cM;have cS:=hA.cS;have fM:=hA.fM;have fS:=hA.fS;have hlt:=hA.lt;have hq1:T.s+pods≤9223372036854775807:=by omega
  have h1:=hA.setS (T.s+pods);have cM1:=h1.cM;have hlt1:=h1.lt;have HA:=zh hA;have hpos:=hT.pos;have hO1:Own (w.setCell ⟨Q,o+1,none⟩ (.int .i64 (T.s+pods))) B 222 2 (.slice ao T.l.length cap) T.l.length (cels mc T.l):=h1.own;cases hg:T.l.getLast? with
  |none=>
   have hl:T.l=[]:=List.getLast?_eq_none_iff.1 hg;have hadd:T.add now pods=(⟨T.l++ [⟨now,pods⟩],T.s+pods⟩:Ta):=by unfold Ta.add;rw [if_neg hz,hg]
   have hneg: ¬0≤(T.l.length:Int)-1:=by rw [hl];decide
   have HADD:=zh hadd;clear hadd hl hA h1 hg;go_enter func187,ntmps187;go_wp2_with(at_builtin;refine wpList_at rfl _ _ 49 rfl B 222 i0 (.agg #[.int .i64 0,.int .i64 0]) 2 16 underlying49 hi hz0 hz1 hz2 rfl _ _ _ rfl (Own.alloc hO1 _) ⟨w.heap.size,0,none⟩ 1 1 [.int .i64 now,.int .i64 pods] rfl rfl (cell_twoN _ _ _ (by simp)) (fun u hu=>by simp at hu;rcases hu with rfl|rfl<;>rfl) (by decide) (by unfold maxLen;omega) (by omega) (by simp;omega) ?_;intro v' w3 hown3 hgrow3 hloc3;obtain⟨ao3,cap3,rfl,_,_,_,_,_⟩:=hown3.form;obtain⟨HF,cM3,fM3⟩:=ada_app HA.out HADD.out hown3 hgrow3 hloc3)
   (try simp only [Exit.inBlock,Exit.then]);refine bodyPost_end (results_none rfl _ _ _) rfl ?_;exact HF.out
  |some m=>
   obtain⟨n,hn⟩: ∃n,T.l.length=n+1:=by
    cases hl:T.l with
    |nil=>rw [hl]at hg;simp at hg
    |cons a l=>exact⟨l.length,rfl⟩
   have hm':T.l[n]? =some m:=by
    rw [List.getLast?_eq_getElem?,hn]at hg;exact hg
   obtain⟨g,off,rfl⟩:=hao (by omega);have hn1:(T.l.length:Int)-1=(n:Int):=by omega
   have hn2:(0:Int)≤(n:Int):=by omega
   have hn3:(n:Int)<(T.l.length:Int):=by omega
   obtain⟨c0,c1,f0,f1,hgl⟩:=own_mo h1.own rfl hm';have hgQ:g≠Q:=fun e=>hA.ne (by rw [e];rfl);have hmp:=hpos m (Xk hm');have hms:m.p≤T.s:=by
    have:=hT.part n;have h3:=sumP_take T.l n m hm';have h4:=hT.part (n+1);omega
   by_cases ht:m.t=now
   ·have hadd:T.add now pods=(⟨T.l.dropLast++ [⟨now,m.p+pods⟩],T.s+pods⟩:Ta):=by unfold Ta.add;rw [if_neg hz,hg];simp [ht]
    have HF:Hid (AdA B Q o (.slice (some ⟨g,off,none⟩) T.l.length cap) T now pods w (.returned (.tuple #[])) ((w.setCell ⟨Q,o+1,none⟩ (.int .i64 (T.s+pods))).setCell ⟨g,off+n*2+1,none⟩ (.int .i64 (m.p+pods)))):=ada_set hA hadd hg ht n hn;have ht':(m.t==now)=true:=by simp [ht]
    have hq2:m.p+pods≤9223372036854775807:=(by omega);clear hadd hA h1 hg hpos ht hn;go_enter func187,ntmps187;go_wp2;(try simp only [Exit.inBlock,Exit.then]);refine bodyPost_ret (results_none rfl _ _ _) rfl ?_;exact HF.out
   ·have hadd:T.add now pods=(⟨T.l++ [⟨now,pods⟩],T.s+pods⟩:Ta):=by unfold Ta.add;rw [if_neg hz,hg];simp [ht]
    have HADD:=zh hadd;have ht':(m.t==now)=false:=by simp [ht]
    clear hadd hA h1 hg hpos ht hn;go_enter func187,ntmps187;go_wp2_with(at_builtin;refine wpList_at rfl _ _ 49 rfl B 222 i0 (.agg #[.int .i64 0,.int .i64 0]) 2 16 underlying49 hi hz0 hz1 hz2 rfl _ _ _ rfl (Own.alloc hO1 _) ⟨w.heap.size,0,none⟩ 1 1 [.int .i64 now,.int .i64 pods] rfl rfl (cell_twoN _ _ _ (by simp)) (fun u hu=>by simp at hu;rcases hu with rfl|rfl<;>rfl) (by decide) (by unfold maxLen;omega) (by omega) (by simp;omega) ?_;intro v' w3 hown3 hgrow3 hloc3;obtain⟨ao3,cap3,rfl,_,_,_,_,_⟩:=hown3.form;obtain⟨HF,cM3,fM3⟩:=ada_app HA.out HADD.out hown3 hgrow3 hloc3)
    (try simp only [Exit.inBlock,Exit.then]);refine bodyPost_end (results_none rfl _ _ _) rfl ?_;exact HF.out

def rws (s:St):Nat→List Mo
 |0=>s.lo
 |1=>s.hi
 |2=>s.gr.l
 |_=>s.sh.l
def pos:Nat→Nat
 |0=>9
 |1=>10
 |2=>11
 |_=>13
def num (s:St):Nat→Int
 |0=>s.u.w
 |1=>s.u.n
 |2=>s.u.c
 |3=>s.u.p
 |4=>s.d.w
 |5=>s.d.n
 |6=>s.d.c
 |7=>s.d.p
 |8=>s.last
 |12=>s.gr.s
 |_=>s.sh.s
def isNum (j:Nat):Prop:=j<9∨j=12∨j=14
def updV (V:Nat→Value) (i:Nat) (v:Value):Nat→Value:=fun j=>if j=i then v else V j
def blk (Q:Nat) (V:Nat→Value) (k:Nat):Prop:=k=Q∨ ∃i,i<4∧(V i).ownBlock=some k

structure SAt (w:World) (B Q O:Nat) (V:Nat→Value) (s:St):Prop where
 lt:Q<w.heap.size
 bQ:B≤Q
 fz: ∀j,w.frozen? ⟨Q,j,none⟩=false
 num: ∀j,isNum j→w.cell? ⟨Q,O+j,none⟩=some (.int .i64 (num s j))
 row: ∀i,i<4→w.cell? ⟨Q,O+pos i,none⟩=some (V i)
 own: ∀i,i<4→MOwn w B (V i) (rws s i)
 ne: ∀i,i<4→(V i).ownBlock≠some Q
 ap: ∀i j,i<4→j<4→i≠j→ ∀g,(V i).ownBlock=some g→(V j).ownBlock≠some g
structure Step (Q O:Nat) (V V':Nat→Value) (w w':World):Prop where
 os:w'.os=w.os
 tape:w'.tape=w.tape
 output:w'.output=w.output
 size:w.heap.size≤w'.heap.size
 block: ∀k,k<w.heap.size→ ¬blk Q V k→w'.heap[k]? =w.heap[k]?
 loc: ∀k,blk Q V' k→blk Q V k∨w.heap.size≤k
 cell: ∀j,(j<O∨O+15≤j)→w'.cell? ⟨Q,j,none⟩=w.cell? ⟨Q,j,none⟩
 fz: ∀j,w'.frozen? ⟨Q,j,none⟩=w.frozen? ⟨Q,j,none⟩
section
variable {w w' w'' : World} {B Q O : Nat} {V V' V'' : Nat → Value} {s s' : St}
theorem Step.refl (Q O:Nat) (V:Nat→Value) (w:World):Step Q O V V w w:=⟨rfl,rfl,rfl,Xa _,fun _ _ _=>rfl,fun _ h=>Or.inl h,fun _ _=>rfl,fun _=>rfl⟩
theorem Step.trans (h:Step Q O V V' w w') (g:Step Q O V' V'' w' w''):Step Q O V V'' w w'':=by
 refine⟨g.os.trans h.os,g.tape.trans h.tape,g.output.trans h.output,Xc h.size g.size,fun k hk hb=> ?_,fun k hk=> ?_,fun j hj=>(g.cell j hj).trans (h.cell j hj),fun j=>(g.fz j).trans (h.fz j)⟩
 ·refine(g.block k (Xb hk h.size) (fun e=> ?_)).trans (h.block k hk hb);rcases h.loc k e with a|a
  ·exact hb a
  ·omega
 ·rcases g.loc k hk with a|a
  ·exact h.loc k a
  ·exact Or.inr (Xc h.size a)
theorem Step.of_below (hb:Below w.heap.size w w') (hQ:Q<w.heap.size):Step Q O V V w w':=⟨hb.os,hb.tape,hb.output,hb.size,fun k hk _=>hb.block k hk,fun _ h=>Or.inl h,fun j _=>Xf (a:=⟨Q,j,none⟩) (hb.block Q hQ),fun j=>Xl (a:=⟨Q,j,none⟩) (hb.block Q hQ)⟩
theorem Step.drew (h:Step Q O V V' w w'):Step Q O V V' w w'.drew:=⟨h.os,h.tape,h.output,h.size,h.block,h.loc,h.cell,h.fz⟩
theorem Step.alloc (h:Step Q O V V' w w') (hQ:Q<w.heap.size) (o:Obj):Step Q O V V' w (w'.alloc o):=h.trans (Step.of_below ((Below.refl _ _).alloc (Xa _) _) (Xb hQ h.size))
theorem SAt.blt (h:SAt w B Q O V s) (hk:blk Q V k):B≤k∧k<w.heap.size:=by
 rcases hk with rfl|⟨i,hi,e⟩
 ·exact⟨h.bQ,h.lt⟩
 ·exact(h.own i hi).lt k e
theorem Step.below (h:Step Q O V V' w w') (hA:SAt w B Q O V s) (hB:B≤w.heap.size):Below B w w':=
 ⟨h.os,h.tape,h.output,h.size,fun k hk=>h.block k (by omega) (fun e=>by have:=(hA.blt e).1;omega)⟩
theorem SAt.kept (h:SAt w B Q O V s) (hb: ∀k,blk Q V k→w'.heap[k]? =w.heap[k]?):SAt w' B Q O V s:=by
 have hQ:=hb Q (Or.inl rfl);refine⟨?_,h.bQ,fun j=>(Xl (a:=⟨Q,j,none⟩) hQ).trans (h.fz j),fun j hj=>(Xf (a:=⟨Q,O+j,none⟩) hQ).trans (h.num j hj),fun i hi=>(Xf (a:=⟨Q,O+pos i,none⟩) hQ).trans (h.row i hi),fun i hi=>Own.kept (h.own i hi) (fun g hg=>hb g (Or.inr ⟨i,hi,hg⟩)),h.ne,h.ap⟩;have:=h.lt;rw [X7 this]at hQ;exact(XM.1 hQ).1
theorem SAt.below (h:SAt w B Q O V s) (hb:Below w.heap.size w w'):SAt w' B Q O V s:=h.kept (fun k hk=>hb.block k (h.blt hk).2)
theorem SAt.drew (h:SAt w B Q O V s):SAt w.drew B Q O V s:=h.kept (fun _ _=>rfl)
theorem SAt.alloc (h:SAt w B Q O V s) (o:Obj):SAt (w.alloc o) B Q O V s:=h.below ((Below.refl _ _).alloc (Xa _) _)
theorem pos_num (hi:i<4): ¬isNum (pos i):=by
 rcases(by omega:i=0∨i=1∨i=2∨i=3)with rfl|rfl|rfl|rfl<;>simp [pos,isNum]
theorem pos_lt (i:Nat):pos i<15:=by unfold pos;split<;>decide
theorem num_lt (h:isNum j):j<15:=by unfold isNum at h;omega
theorem pos_inj (hi:i<4) (hj:j<4) (h:i≠j):pos i≠pos j:=by
 rcases(by omega:i=0∨i=1∨i=2∨i=3)with rfl|rfl|rfl|rfl<;>rcases(by omega:j=0∨j=1∨j=2∨j=3)with rfl|rfl|rfl|rfl<;>simp [pos]at h⊢
theorem SAt.upd (h:SAt w B Q O V s) (i:Nat) (hi:i<4) {J:Nat→Prop} (hJ: ∀j,J j→j=O+pos i∨ ∃n,isNum n∧j=O+n) (hw:Wr Q J (V i).ownBlock w w')
  (hrow:w'.cell? ⟨Q,O+pos i,none⟩=some v') (hown:MOwn w' B v' (rws s' i)) (hne:v'.ownBlock≠some Q) (hloc:v'.ownBlock=(V i).ownBlock∨ ∃g,v'.ownBlock=some g∧w.heap.size≤g)
  (hrest: ∀j,j<4→j≠i→rws s' j=rws s j) (hnum: ∀j,isNum j→w'.cell? ⟨Q,O+j,none⟩=some (.int .i64 (Stb.num s' j))):
  SAt w' B Q O (updV V i v') s'∧Step Q O V (updV V i v') w w':=by
 have hV: ∀j,j≠i→updV V i v' j=V j:=fun j hj=>by simp [updV,hj]
 have hVi:updV V i v' i=v':=by simp [updV]
 have hap: ∀j,j<4→j≠i→ ∀g,v'.ownBlock=some g→(V j).ownBlock≠some g:=by
  intro j hj hji g hg e;rcases hloc with a|⟨x,a,b⟩
  ·rw [a]at hg;exact h.ap i j hi hj (Ne.symm hji) g hg e
  ·rw [a]at hg;cases hg;have:=((h.own j hj).lt _ e).2;omega
 refine⟨⟨Xb h.lt hw.size,h.bQ,fun j=>(hw.fz j).trans (h.fz j),hnum,fun j hj=> ?_,fun j hj=> ?_,fun j hj=> ?_,fun a b ha hb hab g hg=> ?_⟩,⟨hw.os,hw.tape,hw.output,hw.size,fun k hk hb=>hw.block k hk (fun e=>hb (Or.inl e)) (fun e=>hb (Or.inr ⟨i,hi,e.symm⟩)),fun k hk=> ?_,fun j hj=>hw.cell j (fun e=> ?_),hw.fz⟩⟩
 ·by_cases e:j=i
  ·subst e;rw [hVi];exact hrow
  ·rw [hV j e, hw.cell (O + pos j) (fun hh => by
    rcases hJ _ hh with a|⟨n,a,a'⟩
    ·exact pos_inj hj hi e (by omega)
    ·exact pos_num hj ((by omega:pos j=n)▸a))]
   exact h.row j hj
 ·by_cases e:j=i
  ·subst e;rw [hVi];exact hown
  ·rw [hV j e,hrest j hj e];refine own_wr (h.own j hj) hw (h.ne j hj) ?_;cases hb:(V j).ownBlock with
   |none=>exact Or.inl rfl
   |some g=>exact Or.inr (fun e2=>h.ap j i hj hi e g hb e2.symm)
 ·by_cases e:j=i
  ·subst e;rw [hVi];exact hne
  ·rw [hV j e];exact h.ne j hj
 ·by_cases ea:a=i
  ·subst ea;rw [hVi]at hg;rw [hV b (Ne.symm hab)];exact hap b hb (Ne.symm hab) g hg
  ·rw [hV a ea]at hg;by_cases eb:b=i
   ·subst eb;rw [hVi];exact fun e=>hap a ha ea g e hg
   ·rw [hV b eb];exact h.ap a b ha hb hab g hg
 ·rcases hk with rfl|⟨j,hj,e⟩
  ·exact Or.inl (Or.inl rfl)
  ·by_cases ej:j=i
   ·subst ej;rw [hVi]at e;rcases hloc with a|⟨x,a,b⟩
    ·exact Or.inl (Or.inr ⟨j,hj,by rw [←a];exact e⟩)
    ·rw [a]at e;cases e;exact Or.inr b
   ·rw [hV j ej]at e;exact Or.inl (Or.inr ⟨j,hj,e⟩)
 ·have hp:=pos_lt i;rcases hJ _ e with a|⟨n,a,a'⟩
  ·omega
  ·have:=num_lt a;omega
theorem SAt.setLast (h:SAt w B Q O V s) (x:Int):SAt (w.setCell ⟨Q,O+8,none⟩ (.int .i64 x)) B Q O V { s with last:=x } ∧Step Q O V V w (w.setCell ⟨Q,O+8,none⟩ (.int .i64 x)):=by
 have hw:Wr Q (fun j=>j=O+8) none w (w.setCell ⟨Q,O+8,none⟩ (.int .i64 x)):=(Wr.refl Q (fun j=>j=O+8) none w).set (j:=O+8) rfl _;refine⟨⟨Xb h.lt hw.size,h.bQ,fun j=>(hw.fz j).trans (h.fz j),fun j hj=> ?_,fun i hi=>(hw.cell (O+pos i) (fun e=>pos_num hi (by rw [(by omega:pos i=8)];exact Or.inl (by decide)))).trans (h.row i hi),fun i hi=> ?_,h.ne,h.ap⟩,⟨hw.os,hw.tape,hw.output,hw.size,fun k hk hb=>hw.block k hk (fun e=>hb (Or.inl e)) (by simp),fun _ hk=>Or.inl hk,fun j hj=>hw.cell j (by omega),hw.fz⟩⟩
 ·by_cases e:j=8
  ·subst e;rw [Xn _ _ _ (h.num 8 (Or.inl (by decide)))];rfl
  ·rw [hw.cell (O+j) (by omega),h.num j hj];have:Stb.num { s with last:=x } j=Stb.num s j:=by
    rcases hj with hj|rfl|rfl
    ·rcases(by omega:j=0∨j=1∨j=2∨j=3∨j=4∨j=5∨j=6∨j=7)with rfl|rfl|rfl|rfl|rfl|rfl|rfl|rfl<;>rfl
    ·rfl
    ·rfl
   rw [this]
 ·have hr:rws { s with last:=x } i=rws s i:=by
   rcases(by omega:i=0∨i=1∨i=2∨i=3)with rfl|rfl|rfl|rfl<;>rfl
  rw [hr];exact own_set (h.own i hi) (h.ne i hi)
theorem SAt.talG (h:SAt w B Q O V s):TAt w B Q (O+11) (V 2) s.gr:=⟨h.lt,h.row 2 (by decide),h.num 12 (Or.inr (Or.inl rfl)),h.fz _,h.fz _,h.own 2 (by decide),h.ne 2 (by decide)⟩
theorem SAt.talS (h:SAt w B Q O V s):TAt w B Q (O+13) (V 3) s.sh:=⟨h.lt,h.row 3 (by decide),h.num 14 (Or.inr (Or.inr rfl)),h.fz _,h.fz _,h.own 3 (by decide),h.ne 3 (by decide)⟩
theorem num_cases {P:Nat→Prop} (h9: ∀j,j<9→P j) (h12:P 12) (h14:P 14): ∀j,isNum j→P j:=by
 intro j hj;rcases hj with hj|rfl|rfl
 ·exact h9 j hj
 ·exact h12
 ·exact h14
theorem num9 (s:St) (gr sh:Ta) (lo hi:List Mo) (j:Nat) (hj:j<9):Stb.num { s with lo:=lo,hi:=hi,gr:=gr,sh:=sh } j=Stb.num s j:=by
 rcases(by omega:j=0∨j=1∨j=2∨j=3∨j=4∨j=5∨j=6∨j=7∨j=8)with rfl|rfl|rfl|rfl|rfl|rfl|rfl|rfl|rfl<;>rfl
theorem SAt.newG (h:SAt w B Q O V s) {T:Ta} (hT:TAt w' B Q (O+11) v' T) (hloc:v'.ownBlock=(V 2).ownBlock∨ ∃g,v'.ownBlock=some g∧w.heap.size≤g) (hw:Wr Q (fun j=>j=O+11∨j=O+11+1) (V 2).ownBlock w w'):
  SAt w' B Q O (updV V 2 v') { s with gr:=T } ∧Step Q O V (updV V 2 v') w w':=by
 refine h.upd 2 (by decide) (fun j hj=>hj.imp id (fun e=>⟨12,Or.inr (Or.inl rfl),e⟩)) hw hT.cM hT.own hT.ne hloc (fun j hj hne=> ?_) (num_cases (fun j hj=> ?_) ?_ ?_)
 ·rcases(by omega:j=0∨j=1∨j=2∨j=3)with rfl|rfl|rfl|rfl
  ·rfl
  ·rfl
  ·exact absurd rfl hne
  ·rfl
 ·rw [hw.cell (O+j) (by omega),h.num j (Or.inl hj)];exact congrArg (fun x=>some (Value.int .i64 x)) (num9 s T s.sh s.lo s.hi j hj).symm
 ·exact hT.cS
 ·rw [hw.cell (O+14) (by omega),h.num 14 (Or.inr (Or.inr rfl))];rfl
theorem SAt.newS (h:SAt w B Q O V s) {T:Ta} (hT:TAt w' B Q (O+13) v' T) (hloc:v'.ownBlock=(V 3).ownBlock∨ ∃g,v'.ownBlock=some g∧w.heap.size≤g) (hw:Wr Q (fun j=>j=O+13∨j=O+13+1) (V 3).ownBlock w w'):
  SAt w' B Q O (updV V 3 v') { s with sh:=T } ∧Step Q O V (updV V 3 v') w w':=by
 refine h.upd 3 (by decide) (fun j hj=>hj.imp id (fun e=>⟨14,Or.inr (Or.inr rfl),e⟩)) hw hT.cM hT.own hT.ne hloc (fun j hj hne=> ?_) (num_cases (fun j hj=> ?_) ?_ ?_)
 ·rcases(by omega:j=0∨j=1∨j=2∨j=3)with rfl|rfl|rfl|rfl
  ·rfl
  ·rfl
  ·rfl
  ·exact absurd rfl hne
 ·rw [hw.cell (O+j) (by omega),h.num j (Or.inl hj)];exact congrArg (fun x=>some (Value.int .i64 x)) (num9 s s.gr T s.lo s.hi j hj).symm
 ·rw [hw.cell (O+12) (by omega),h.num 12 (Or.inr (Or.inl rfl))];rfl
 ·exact hT.cS
theorem SAt.newL (h:SAt w B Q O V s) (hr:r=(V 0).ownBlock) (hg:w.grownBy w' r) (hO:MOwn w' B v' L) (hloc:v'.ownBlock=(V 0).ownBlock∨ ∃g,v'.ownBlock=some g∧w.heap.size≤g):
  SAt (w'.setCell ⟨Q,O+9,none⟩ v') B Q O (updV V 0 v') { s with lo:=L } ∧Step Q O V (updV V 0 v') w (w'.setCell ⟨Q,O+9,none⟩ v')∧w'.cell? ⟨Q,O+9,none⟩=some (V 0)∧w'.frozen? ⟨Q,O+9,none⟩=false:=by
 subst hr;have hw0:Wr Q (fun j=>j=O+9) (V 0).ownBlock w w':=Wr.grown hg h.lt (h.ne 0 (by decide));have hw:=hw0.set (j:=O+9) rfl v';have hQ:=hg.block Q h.lt (fun e=>h.ne 0 (by decide) e.symm);have c9:=(Xf (a:=⟨Q,O+9,none⟩) hQ).trans (h.row 0 (by decide));have hne:v'.ownBlock≠some Q:=by
  rcases hloc with a|⟨g,a,b⟩
  ·rw [a];exact h.ne 0 (by decide)
  ·rw [a];have:=h.lt;intro e;cases e;omega
 have := h.upd (s' := { s with lo := L }) 0 (by decide) (fun j hj => Or.inl hj) hw (Xn _ _ _ c9) (own_set hO hne) hne hloc (fun j hj hne => by
  rcases(by omega:j=0∨j=1∨j=2∨j=3)with rfl|rfl|rfl|rfl
  ·exact absurd rfl hne
  ·rfl
  ·rfl
  ·rfl) (num_cases (fun j hj=>by rw [hw.cell (O+j) (by omega),h.num j (Or.inl hj)];exact congrArg (fun x=>some (Value.int .i64 x)) (num9 s s.gr s.sh L s.hi j hj).symm) (by rw [hw.cell (O+12) (by omega),h.num 12 (Or.inr (Or.inl rfl))];rfl) (by rw [hw.cell (O+14) (by omega),h.num 14 (Or.inr (Or.inr rfl))];rfl))
 exact⟨this.1,this.2,c9,(Xl (a:=⟨Q,O+9,none⟩) hQ).trans (h.fz (O+9))⟩
theorem SAt.newH (h:SAt w B Q O V s) (hr:r=(V 1).ownBlock) (hg:w.grownBy w' r) (hO:MOwn w' B v' L) (hloc:v'.ownBlock=(V 1).ownBlock∨ ∃g,v'.ownBlock=some g∧w.heap.size≤g):
  SAt (w'.setCell ⟨Q,O+10,none⟩ v') B Q O (updV V 1 v') { s with hi:=L } ∧Step Q O V (updV V 1 v') w (w'.setCell ⟨Q,O+10,none⟩ v')∧w'.cell? ⟨Q,O+10,none⟩=some (V 1)∧w'.frozen? ⟨Q,O+10,none⟩=false:=by
 subst hr;have hw0:Wr Q (fun j=>j=O+10) (V 1).ownBlock w w':=Wr.grown hg h.lt (h.ne 1 (by decide));have hw:=hw0.set (j:=O+10) rfl v';have hQ:=hg.block Q h.lt (fun e=>h.ne 1 (by decide) e.symm);have c9:=(Xf (a:=⟨Q,O+10,none⟩) hQ).trans (h.row 1 (by decide));have hne:v'.ownBlock≠some Q:=by
  rcases hloc with a|⟨g,a,b⟩
  ·rw [a];exact h.ne 1 (by decide)
  ·rw [a];have:=h.lt;intro e;cases e;omega
 have := h.upd (s' := { s with hi := L }) 1 (by decide) (fun j hj => Or.inl hj) hw (Xn _ _ _ c9) (own_set hO hne) hne hloc (fun j hj hne => by
  rcases(by omega:j=0∨j=1∨j=2∨j=3)with rfl|rfl|rfl|rfl
  ·rfl
  ·exact absurd rfl hne
  ·rfl
  ·rfl) (num_cases (fun j hj=>by rw [hw.cell (O+j) (by omega),h.num j (Or.inl hj)];exact congrArg (fun x=>some (Value.int .i64 x)) (num9 s s.gr s.sh s.lo L j hj).symm) (by rw [hw.cell (O+12) (by omega),h.num 12 (Or.inr (Or.inl rfl))];rfl) (by rw [hw.cell (O+14) (by omega),h.num 14 (Or.inr (Or.inr rfl))];rfl))
 exact⟨this.1,this.2,c9,(Xl (a:=⟨Q,O+10,none⟩) hQ).trans (h.fz (O+10))⟩
end
end Stb
namespace Stb
open Rw Go.RowKit Plain
variable {j:Nat} {u:Value} {L:List Mo}

structure Cm where
 u:Pc
 d:Pc
 last:Int
 ws:List Mo
 ms:List Mo
def stF (up:Bool) (t:Int) (n:Int) (m:Mo):Int:=if t<m.t∧(if up then m.p<n else n<m.p)then m.p else n
def cU1 (c:Cm) (now want:Int):Int:=(c.ws++ [(⟨now,want⟩:Mo)]).foldl (stF true (now-c.u.w)) want
def cUb (c:Cm) (now hv:Int):Int:=max (hv-sumF fup c.ms (now-c.u.p)) 0
def cU2 (c:Cm) (now hv want:Int):Int:=if bnd c.u then min (cU1 c now want) (cUb c now hv+max c.u.n (up (clip (cUb c now hv*c.u.c)) (clip 100)))else cU1 c now want
def cU (c:Cm) (now hv want:Int):Int:=max (cU2 c now hv want) hv
def cD1 (c:Cm) (now want:Int):Int:=(c.ws++ [(⟨now,want⟩:Mo)]).foldl (stF false (now-c.d.w)) want
def cDb (c:Cm) (now hv:Int):Int:=hv+sumF fdn c.ms (now-c.d.p)
def cD2 (c:Cm) (now hv want:Int):Int:=if bnd c.d then max (cD1 c now want) (cDb c now hv-max c.d.n (share (atz (clip (cDb c now hv))) (atz (clip (c.d.c*10)))))else cD1 c now want
def cD (c:Cm) (now hv want:Int):Int:=min (cD2 c now hv want) hv
def cN (c:Cm) (now hv want:Int):Int:=if okArg c.last now hv want then(if hv<want then cU c now hv want else if want<hv then cD c now hv want else hv)else 0
def cE (c:Cm) (now hv want:Int):Int:=if okArg c.last now hv want then 0 else 1
def cS (c:Cm) (now hv want:Int):Cm:=if okArg c.last now hv want then⟨c.u,c.d,now,c.ws++ [⟨now,want⟩],mov c.ms now (cN c now hv want-hv)⟩else c
def cnum (c:Cm):Nat→Int
 |0=>c.u.w
 |1=>c.u.n
 |2=>c.u.c
 |3=>c.u.p
 |4=>c.d.w
 |5=>c.d.n
 |6=>c.d.c
 |7=>c.d.p
 |_=>c.last
def cblk (D:Nat) (vw vm:Value) (k:Nat):Prop:=k=D∨vw.ownBlock=some k∨vm.ownBlock=some k
structure CAt (w:World) (B D:Nat) (vw vm:Value) (c:Cm):Prop where
 lt:D<w.heap.size
 bD:B≤D
 fz: ∀j,w.frozen? ⟨D,j,none⟩=false
 num: ∀j,j<9→w.cell? ⟨D,j,none⟩=some (.int .i64 (cnum c j))
 rW:w.cell? ⟨D,9,none⟩=some vw
 rM:w.cell? ⟨D,10,none⟩=some vm
 oW:Own w B 203 2 vw c.ws.length (cels mc c.ws)
 oM:Own w B 203 2 vm c.ms.length (cels mc c.ms)
 nW:vw.ownBlock≠some D
 nM:vm.ownBlock≠some D
 ap: ∀g,vw.ownBlock=some g→vm.ownBlock≠some g
structure CStep (D:Nat) (vw vm vw' vm':Value) (w w':World):Prop where
 os:w'.os=w.os
 tape:w'.tape=w.tape
 output:w'.output=w.output
 size:w.heap.size≤w'.heap.size
 block: ∀k,k<w.heap.size→ ¬cblk D vw vm k→w'.heap[k]? =w.heap[k]?
 loc: ∀k,cblk D vw' vm' k→cblk D vw vm k∨w.heap.size≤k
section
variable {w w' w'' : World} {B D : Nat} {vw vm vw' vm' vw'' vm'' : Value} {c : Cm}
theorem CStep.refl (D:Nat) (vw vm:Value) (w:World):CStep D vw vm vw vm w w:=⟨rfl,rfl,rfl,Xa _,fun _ _ _=>rfl,fun _ h=>Or.inl h⟩
theorem CStep.trans (h:CStep D vw vm vw' vm' w w') (g:CStep D vw' vm' vw'' vm'' w' w''):CStep D vw vm vw'' vm'' w w'':=by
 refine⟨g.os.trans h.os,g.tape.trans h.tape,g.output.trans h.output,Xc h.size g.size,fun k hk hb=> ?_,fun k hk=> ?_⟩
 ·refine(g.block k (Xb hk h.size) (fun e=> ?_)).trans (h.block k hk hb);rcases h.loc k e with a|a
  ·exact hb a
  ·omega
 ·rcases g.loc k hk with a|a
  ·exact h.loc k a
  ·exact Or.inr (Xc h.size a)
theorem CStep.of_below (hb:Below w.heap.size w w'):CStep D vw vm vw vm w w':=⟨hb.os,hb.tape,hb.output,hb.size,fun k hk _=>hb.block k hk,fun _ h=>Or.inl h⟩
theorem CAt.blt (h:CAt w B D vw vm c) {k:Nat} (hk:cblk D vw vm k):B≤k∧k<w.heap.size:=by
 rcases hk with rfl|e|e
 ·exact⟨h.bD,h.lt⟩
 ·exact h.oW.lt k e
 ·exact h.oM.lt k e
theorem CStep.below (h:CStep D vw vm vw' vm' w w') (hA:CAt w B D vw vm c) (hB:B≤w.heap.size):Below B w w':=
 ⟨h.os,h.tape,h.output,h.size,fun k hk=>h.block k (by omega) (fun e=>by have:=(hA.blt e).1;omega)⟩
theorem CAt.kept (h:CAt w B D vw vm c) (hb: ∀k,cblk D vw vm k→w'.heap[k]? =w.heap[k]?):CAt w' B D vw vm c:=by
 have hQ:=hb D (Or.inl rfl);refine⟨?_,h.bD,fun j=>(Xl (a:=⟨D,j,none⟩) hQ).trans (h.fz j),fun j hj=>(Xf (a:=⟨D,j,none⟩) hQ).trans (h.num j hj),(Xf (a:=⟨D,9,none⟩) hQ).trans h.rW,(Xf (a:=⟨D,10,none⟩) hQ).trans h.rM,h.oW.kept (fun g hg=>hb g (Or.inr (Or.inl hg))),h.oM.kept (fun g hg=>hb g (Or.inr (Or.inr hg))),h.nW,h.nM,h.ap⟩;have:=h.lt;rw [X7 this]at hQ;exact(XM.1 hQ).1
theorem CAt.below (h:CAt w B D vw vm c) (hb:Below w.heap.size w w'):CAt w' B D vw vm c:=h.kept (fun k hk=>hb.block k (h.blt hk).2)
theorem CAt.alloc (h:CAt w B D vw vm c) (o:Obj):CAt (w.alloc o) B D vw vm c:=h.below ((Below.refl _ _).alloc (Xa _) _)
theorem own_setC {e:TypeId} {v:Value} {n:Nat} {xs:List Value} (h:Own w B e 2 v n xs) (hne:v.ownBlock≠some D):Own (w.setCell ⟨D,j,none⟩ u) B e 2 v n xs:=
 h.kept (fun g hg=>Below.heap_setCell w ⟨D,j,none⟩ u g (fun e=>hne (by rw [hg];exact congrArg some e)))
theorem cell_set {i:Nat} (h:i≠j):(w.setCell ⟨D,j,none⟩ u).cell? ⟨D,i,none⟩=w.cell? ⟨D,i,none⟩:=
 Xd _ _ _ _ (fun e=>h (by have:=congrArg Addr.off e;simp at this;exact this.symm))
theorem cnum_last (c:Cm) (x:Int) (ws ms:List Mo) (j:Nat) (hj:j<9) (h8:j≠8):cnum ⟨c.u,c.d,x,ws,ms⟩ j=cnum c j:=by
 rcases(by omega:j=0∨j=1∨j=2∨j=3∨j=4∨j=5∨j=6∨j=7)with rfl|rfl|rfl|rfl|rfl|rfl|rfl|rfl<;>rfl
theorem cnum_rows (c:Cm) (ws ms:List Mo) (j:Nat) (hj:j<9):cnum ⟨c.u,c.d,c.last,ws,ms⟩ j=cnum c j:=by
 rcases(by omega:j=0∨j=1∨j=2∨j=3∨j=4∨j=5∨j=6∨j=7∨j=8)with rfl|rfl|rfl|rfl|rfl|rfl|rfl|rfl|rfl<;>rfl
theorem CAt.setLast (h:CAt w B D vw vm c) (x:Int):CAt (w.setCell ⟨D,8,none⟩ (.int .i64 x)) B D vw vm ⟨c.u,c.d,x,c.ws,c.ms⟩∧CStep D vw vm vw vm w (w.setCell ⟨D,8,none⟩ (.int .i64 x)):=by
 refine⟨⟨by simpa using h.lt,h.bD,fun j=>by rw [Xi];exact h.fz j,fun j hj=> ?_,by rw [cell_set (by decide)];exact h.rW,by rw [cell_set (by decide)];exact h.rM,own_setC h.oW h.nW,own_setC h.oM h.nM,h.nW,h.nM,h.ap⟩,⟨rfl,rfl,rfl,by simp,fun k hk hb=>Below.heap_setCell w ⟨D,8,none⟩ _ k (fun e=>hb (Or.inl e)),fun _ hk=>Or.inl hk⟩⟩;by_cases e:j=8
 ·subst e;rw [Xn _ _ _ (h.num 8 (by decide))];rfl
 ·rw [cell_set e,h.num j hj,cnum_last c x c.ws c.ms j hj e]
theorem CAt.newW (h:CAt w B D vw vm c) (hg:w.grownBy w' vw.ownBlock) (hO:Own w' B 203 2 vw' L.length (cels mc L)) (hl:vw'.ownBlock=vw.ownBlock∨ ∃g,vw'.ownBlock=some g∧w.heap.size≤g):
  CAt (w'.setCell ⟨D,9,none⟩ vw') B D vw' vm ⟨c.u,c.d,c.last,L,c.ms⟩∧CStep D vw vm vw' vm w (w'.setCell ⟨D,9,none⟩ vw')∧w'.cell? ⟨D,9,none⟩=some vw∧w'.frozen? ⟨D,9,none⟩=false:=by
 have hQ:=hg.block D h.lt (fun e=>h.nW e.symm);have cQ: ∀j,w'.cell? ⟨D,j,none⟩=w.cell? ⟨D,j,none⟩:=fun j=>Xf (a:=⟨D,j,none⟩) hQ;have fQ: ∀j,w'.frozen? ⟨D,j,none⟩=w.frozen? ⟨D,j,none⟩:=fun j=>Xl (a:=⟨D,j,none⟩) hQ;have hne:vw'.ownBlock≠some D:=by
  rcases hl with a|⟨g,a,b⟩
  ·rw [a];exact h.nW
  ·rw [a];have:=h.lt;intro e;cases e;omega
 have hM:Own w' B 203 2 vm c.ms.length (cels mc c.ms):=h.oM.kept (fun g hg'=>hg.block g (h.oM.lt g hg').2 (fun e=>h.ap g e.symm hg'));refine⟨⟨by simpa using Xb h.lt hg.size,h.bD,fun j=>by rw [Xi,fQ];exact h.fz j,fun j hj=> ?_,Xn _ _ _ ((cQ 9).trans h.rW),by rw [cell_set (by decide),cQ];exact h.rM,own_setC hO hne,own_setC hM h.nM,hne,h.nM,fun g hg' e=> ?_⟩,⟨hg.os,hg.tape,hg.output,by simpa using hg.size,fun k hk hb=>(Below.heap_setCell w' ⟨D,9,none⟩ _ k (fun e=>hb (Or.inl e))).trans (hg.block k hk (fun e=>hb (Or.inr (Or.inl e.symm)))),fun k hk=> ?_⟩,(cQ 9).trans h.rW,(fQ 9).trans (h.fz 9)⟩
 ·rw [cell_set (by omega),cQ,h.num j hj,cnum_rows c L c.ms j hj]
 ·rcases hl with a|⟨x,a,b⟩
  ·rw [a]at hg';exact h.ap g hg' e
  ·rw [a]at hg';cases hg';have:=(h.oM.lt _ e).2;omega
 ·rcases hk with a|a|a
  ·exact Or.inl (Or.inl a)
  ·rcases hl with b|⟨x,b,d⟩
   ·rw [b]at a;exact Or.inl (Or.inr (Or.inl a))
   ·rw [b]at a;cases a;exact Or.inr d
  ·exact Or.inl (Or.inr (Or.inr a))
theorem CAt.newM (h:CAt w B D vw vm c) (hg:w.grownBy w' vm.ownBlock) (hO:Own w' B 203 2 vm' L.length (cels mc L)) (hl:vm'.ownBlock=vm.ownBlock∨ ∃g,vm'.ownBlock=some g∧w.heap.size≤g):
  CAt (w'.setCell ⟨D,10,none⟩ vm') B D vw vm' ⟨c.u,c.d,c.last,c.ws,L⟩∧CStep D vw vm vw vm' w (w'.setCell ⟨D,10,none⟩ vm')∧w'.cell? ⟨D,10,none⟩=some vm∧w'.frozen? ⟨D,10,none⟩=false:=by
 have hQ:=hg.block D h.lt (fun e=>h.nM e.symm);have cQ: ∀j,w'.cell? ⟨D,j,none⟩=w.cell? ⟨D,j,none⟩:=fun j=>Xf (a:=⟨D,j,none⟩) hQ;have fQ: ∀j,w'.frozen? ⟨D,j,none⟩=w.frozen? ⟨D,j,none⟩:=fun j=>Xl (a:=⟨D,j,none⟩) hQ;have hne:vm'.ownBlock≠some D:=by
  rcases hl with a|⟨g,a,b⟩
  ·rw [a];exact h.nM
  ·rw [a];have:=h.lt;intro e;cases e;omega
 have hW:Own w' B 203 2 vw c.ws.length (cels mc c.ws):=h.oW.kept (fun g hg'=>hg.block g (h.oW.lt g hg').2 (fun e=>h.ap g hg' e.symm));refine⟨⟨by simpa using Xb h.lt hg.size,h.bD,fun j=>by rw [Xi,fQ];exact h.fz j,fun j hj=> ?_,by rw [cell_set (by decide),cQ];exact h.rW,Xn _ _ _ ((cQ 10).trans h.rM),own_setC hW h.nW,own_setC hO hne,h.nW,hne,fun g hg' e=> ?_⟩,⟨hg.os,hg.tape,hg.output,by simpa using hg.size,fun k hk hb=>(Below.heap_setCell w' ⟨D,10,none⟩ _ k (fun e=>hb (Or.inl e))).trans (hg.block k hk (fun e=>hb (Or.inr (Or.inr e.symm)))),fun k hk=> ?_⟩,(cQ 10).trans h.rM,(fQ 10).trans (h.fz 10)⟩
 ·rw [cell_set (by omega),cQ,h.num j hj,cnum_rows c c.ws L j hj]
 ·rcases hl with a|⟨x,a,b⟩
  ·rw [a]at e;exact h.ap g hg' e
  ·rw [a]at e;cases e;have:=(h.oW.lt _ hg').2;omega
 ·rcases hk with a|a|a
  ·exact Or.inl (Or.inl a)
  ·exact Or.inl (Or.inr (Or.inl a))
  ·rcases hl with b|⟨x,b,d⟩
   ·rw [b]at a;exact Or.inl (Or.inr (Or.inr a))
   ·rw [b]at a;cases a;exact Or.inr d
end
