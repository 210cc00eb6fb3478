/- What the functions on rows of moments answer: above, follow. What follow answers, with either of know's closures. What a tally's forget and add answer. What a tally's add answers. A Stable as it lies in memory: its numbers, its four rows. What know answers. What a Stable's forget answers. What mayBe, bounds, more and fewer answer. What Settle answers. -/
import Derived.Test.YtddabkmppobcdaaGreatDoorRows
import Derived.WalkKit
import Derived.ProofKit
import Derived.Test.YtddabkmppobcdaaGreatDoorPsRowMem
import Derived.OwnWalk
import Derived.Deep.Quiet
import Derived.Test.YtddabkmppobcdaaGreatDoorPsAr
import Derived.Deep.DeepCutAuto
set_option maxHeartbeats 32000000
set_option maxRecDepth 8000
namespace Go.Proofs.YtddabkmppobcdaaGreatDoor
namespace Stb
open Rw Go.RowKit

abbrev MOwn (w:World) (B:Nat) (v:Value) (L:List Mo):Prop:=Own w B 242 2 v L.length (cels mc L)
theorem own_mo {w:World} {B:Nat} {e:TypeId} {g off cap n:Nat} {L:List Mo} (h:Own w B e 2 (.slice (some ⟨g,off,none⟩) n cap) L.length (cels mc L)) (hn:n=L.length) {i:Nat} {m:Mo} (hm:L[i]?=some m):
  w.cell? ⟨g,off+i*2,none⟩=some (.int .i64 m.t)∧w.cell? ⟨g,off+i*2+1,none⟩=some (.int .i64 m.p)∧w.frozen? ⟨g,off+i*2,none⟩=false∧w.frozen? ⟨g,off+i*2+1,none⟩=false∧g<w.heap.size:=by
 subst hn
 have hi:i<L.length:=(List.getElem?_eq_some_iff.1 hm).1
 have a:=h.cell (i*2) (by omega)
 have b:=h.cell (i*2+1) (by omega)
 have c0:=cels_get mc_len L i 0 m hm (by omega)
 have c1:=cels_get mc_len L i 1 m hm (by omega)
 rw [Nat.add_zero]at c0
 rw [c0]at a
 rw [c1]at b
 exact⟨a.1,b.1,a.2.1,b.2.1,a.2.2⟩

theorem own_abv {w:World} {B:Nat} {e:TypeId} {ao:Option Addr} {cap:Nat} {L:List Mo} (h:Own w B e 2 (.slice ao L.length cap) L.length (cels mc L)) (k:Nat) (hk:k≤L.length):
  Own w B e 2 (.slice (if cap=k then ao else ao.map (·.add (k*2))) (L.length-k) (cap-k)) (L.drop k).length (cels mc (L.drop k))∧(Value.slice (if cap=k then ao else ao.map (·.add (k*2))) (L.length-k) (cap-k)).ownBlock=(Value.slice ao L.length cap).ownBlock:=by
 rw [cels_drop mc_len,List.length_drop]
 obtain⟨ao',cap',he,h1,h2,h3,h4,h5⟩:=h.form
 cases he
 cases ao with
 |none=>
  have hc:=h4 rfl
  have hl:L.length=0:=by omega
  have hk0:k=0:=by omega
  subst hk0 hc
  have hL:L=[]:=List.eq_nil_of_length_eq_zero hl
  subst hL
  exact⟨by simpa [cels]using Own.nil w B e 2,by simp⟩
 |some a=>
  obtain⟨g,off,rfl⟩:=h5 a rfl
  by_cases hc:cap=k
  ·have:=h.rest (off':=off) k hk (Or.inr ⟨hc,rfl⟩)
   rw [if_pos hc]
   exact⟨this,by simp [Value.ownBlock]⟩
  ·have:=h.rest (off':=off+k*2) k hk (Or.inl rfl)
   have hadd:(⟨g,off,none⟩:Addr).add (k*2)=⟨g,off+k*2,none⟩:=by unfold Addr.add;split<;>simp_all
   rw [if_neg hc]
   simp only [Option.map_some,hadd]
   exact⟨this,by simp [Value.ownBlock]⟩
def AbA (B:Nat) (v:Value) (L:List Mo) (t:Int) (w:World) (e:Ending) (w':World):Prop:= ∃v',e=.returned v'∧MOwn w B v' (abv L t)∧v'.ownBlock=v.ownBlock∧w'=w
theorem aba_end {B:Nat} {ao:Option Addr} {L:List Mo} {t:Int} {w:World} (hO:MOwn w B (.slice ao L.length L.length) L) (e1:abv L t=L.drop L.length):AbA B (.slice ao L.length L.length) L t w (.returned (.slice ao 0 0)) w:=by
 obtain⟨a,b⟩:=own_abv hO L.length (Nat.le_refl _)
 rw [←e1]at a
 simp only [if_true,Nat.sub_self]at a b
 exact⟨_,rfl,a,b,rfl⟩
theorem aba_mid {B g off:Nat} {cap:Nat} {L:List Mo} {t:Int} {w:World} (hO:MOwn w B (.slice (some ⟨g,off,none⟩) L.length cap) L) (k:Nat) (hk:k≤L.length) (e1:abv L t=L.drop k) (hc: ¬cap=k):
  AbA B (.slice (some ⟨g,off,none⟩) L.length cap) L t w (.returned (.slice (some ⟨g,off+k*2,none⟩) (L.length-k) (cap-k))) w:=by
 obtain⟨a,b⟩:=own_abv hO k hk
 rw [←e1]at a
 have hadd:(⟨g,off,none⟩:Addr).add (k*2)=⟨g,off+k*2,none⟩:=by unfold Addr.add;split<;>simp_all
 rw [if_neg hc]at a b
 simp only [Option.map_some,hadd]at a b
 exact⟨_,rfl,a,b,rfl⟩

def AbR (L:List Mo) (t:Int) (w:World) (i:Value) (wr:World):Prop:=
 ∃k:Nat,k≤L.length∧i=.int .i64 k∧(∀j m,j<k→L[j]?=some m→m.t≤t)∧wr=w
theorem ab_step {L:List Mo} {t:Int} {k:Nat} {m:Mo} (h: ∀j x,j<k→L[j]?=some x→x.t≤t) (hm:L[k]?=some m) (hp:m.t≤t): ∀j x,j<k+1→L[j]?=some x→x.t≤t:=by
 intro j x hj hx
 by_cases e:j=k
 ·subst e;rw [hm]at hx;cases hx;exact hp
 ·exact h j x (by omega) hx

theorem above_any (B:Nat) (v:Value) (L:List Mo) (t:Int) (w:World) (hO:MOwn w B v L) (hL:L.length≤10000000):
  Calls Tryz.prog 188 #[v,.int .i64 t] w (AbA B v L t w):=by
 obtain⟨ao,cap,rfl,hc1,hc2,hao,hnn,hsm⟩:=hO.form
 go_enter Tryz.func188,Tryz.ntmps188
 go_wp2
 go_loopw [5] (fun i wr=>AbR L t w i wr) (fun i _=>L.length-(intOf i).toNat)
 case atStart=>exact⟨0,by omega,rfl,fun j m hj=>absurd hj (by omega),rfl⟩
 case round=>
  obtain⟨k,hk,rfl,hno,rfl⟩:=hrel
  by_cases hlt:k<L.length
  ·have hlt':(k:Int)<(L.length:Int):=by omega
   obtain⟨g,off,rfl⟩:=hao (by omega)
   obtain⟨m,hm⟩: ∃m,L[k]?=some m:=⟨L[k],by simp [hlt]⟩
   obtain⟨c0,c1,_,_,hg⟩:=own_mo hO rfl hm
   by_cases hp:m.t≤t
   ·have hs:=ab_step hno hm hp
    go_wp2
    go_roundw
    case rel=>exact⟨k+1,by omega,rfl,hs,rfl⟩
    case measure=>simp [intOf];omega
   ·have hc: ¬cap=k:=by omega
    have HA:Hid (AbA B (.slice (some ⟨g,off,none⟩) L.length cap) L t wr (.returned (.slice (some ⟨g,off+k*2,none⟩) (L.length-k) (cap-k))) wr):=aba_mid (t:=t) hO k hk (abv_is L t k hk (fun i m hi=>hno i m hi) (Or.inr ⟨m,hm,hp⟩)).1 hc
    have hk2:(k:Int)≤(L.length:Int):=by omega
    clear hno
    go_wp2
    go_ret
    exact HA.out
  ·obtain rfl:k=L.length:=by omega
   have e1:=(abv_is L t L.length hk (fun i m hi=>hno i m hi) (Or.inl rfl)).1
   by_cases hc:cap=L.length
   ·subst hc
    have HA:Hid (AbA B (.slice ao L.length L.length) L t wr (.returned (.slice ao 0 0)) wr):=aba_end (t:=t) hO e1
    clear hno e1
    go_wp2
    go_ret
    exact HA.out
   ·cases ao with
    |none=>exact absurd (hnn rfl) (by omega)
    |some a=>
     obtain⟨g,off,rfl⟩:=hsm a rfl
     have hA:=aba_mid (t:=t) hO L.length hk e1 hc
     rw [Nat.sub_self]at hA
     have HA:Hid (AbA B (.slice (some ⟨g,off,none⟩) L.length cap) L t wr (.returned (.slice (some ⟨g,off+L.length*2,none⟩) 0 (cap-L.length))) wr):=hA
     clear hA
     clear hno e1
     go_wp2
     go_ret
     exact HA.out
end Stb
namespace Stb
open Rw Go.RowKit

theorem info_mo:(Tryz.prog.info? 242).map (fun i=>(i.zero,i.size,i.bytes))=some (some (.agg #[.int .i64 0,.int .i64 0]),2,16):=by kernel_rfl
theorem cell_two (w:World) (e:TypeId) (a b:Value): ∀(j:Nat) (u:Value),[a,b][j]?=some u→(w.alloc (.cells #[a,b] e)).cell? ((⟨w.heap.size,0,none⟩:Addr).add j)=some u:=by
 intro j u h
 match j,h with
 |0,h=>simp at h;subst h;simp [Addr.add]
 |1,h=>simp at h;subst h;simp [Addr.add]
 |j+2,h=>simp at h
theorem grown_trans {w w1 w2:World} {r:Option Nat} (h:w.grownBy w1 r) (g:w1.grownBy w2 r):w.grownBy w2 r:=
 ⟨g.os.trans h.os,g.tape.trans h.tape,g.output.trans h.output,Nat.le_trans h.size g.size,fun b h1 h2=>(g.block b (Nat.lt_of_lt_of_le h1 h.size) h2).trans (h.block b h1 h2)⟩
theorem grown_drew (w:World) (o:Obj) (r:Option Nat):w.grownBy (w.drew.alloc o) r:=⟨rfl,rfl,rfl,by simp,fun k hk _=>Below.heap_alloc w.drew o k hk⟩
def FolA (B:Nat) (v:Value) (q:Int→Bool) (L:List Mo) (m:Mo) (w:World) (e:Ending) (w':World):Prop:=
 ∃v',e=.returned v'∧MOwn w' B v' (fol q L m)∧w.grownBy w' v.ownBlock∧(v'.ownBlock=v.ownBlock∨ ∃g,v'.ownBlock=some g∧w.heap.size≤g)
theorem fol_is {B k:Nat} {ao:Option Addr} {cap:Nat} {q:Int→Bool} {L:List Mo} {m:Mo} {w w1 w3:World} {v':Value} (hw:w.grownBy w1 (Value.slice ao L.length cap).ownBlock) (hk:k≤L.length) (he:cutE q L=L.take k)
  (hO:Own w3 B 242 2 v' (k+1) (cels mc (L.take k)++ [.int .i64 m.t,.int .i64 m.p])) (hg:w1.grownBy w3 (Value.slice ao k cap).ownBlock) (hl:v'.ownBlock=(Value.slice ao k cap).ownBlock∨v'.ownBlock=some w1.heap.size):FolA B (.slice ao L.length cap) q L m w (.returned v') w3:=by
 have hb:(Value.slice ao k cap).ownBlock=(Value.slice ao L.length cap).ownBlock:=by cases ao<;>rfl
 rw [hb]at hg hl
 refine⟨v',rfl,?_,⟨hg.os.trans hw.os,hg.tape.trans hw.tape,hg.output.trans hw.output,Nat.le_trans hw.size hg.size,fun b h1 h2=>(hg.block b (Nat.lt_of_lt_of_le h1 hw.size) h2).trans (hw.block b h1 h2)⟩,hl.imp id fun e=>⟨_,e,hw.size⟩⟩
 have h1:(fol q L m).length=k+1:=by simp [fol,he];omega
 have h2:cels mc (fol q L m)=cels mc (L.take k)++ [.int .i64 m.t,.int .i64 m.p]:=by
  unfold fol;rw [cels_append,he];rfl
 show Own w3 B _ 2 v' _ _
 rw [h1,h2]
 exact hO
def FoR (q:Int→Bool) (L:List Mo) (w1:World) (i:Value) (wr:World):Prop:=
 ∃k:Nat,k≤L.length∧i=.int .i64 k∧(∀j m,k≤j→L[j]?=some m→q m.p=true)∧wr=w1
theorem fo_step {q:Int→Bool} {L:List Mo} {k:Nat} {m:Mo} (h: ∀j x,k+1≤j→L[j]?=some x→q x.p=true) (hm:L[k]?=some m) (hp:q m.p=true): ∀j x,k≤j→L[j]?=some x→q x.p=true:=by
 intro j x hj hx
 by_cases e:j=k
 ·subst e;rw [hm]at hx;cases hx;exact hp
 ·exact h j x (by omega) hx

theorem kn1_any (old want:Int) (C:Nat) (w:World) (hC:w.cell? ⟨C,0,none⟩=some (.int .i64 want)):
  Calls Tryz.prog 186 #[.int .i64 old,.pointer (some ⟨C,0,none⟩)] w fun e w'=>e=.returned (.bool (geq want old))∧w'=w:=by
 go_enter Tryz.func186,Tryz.ntmps186
 go_wp2
 go_ret
 exact⟨rfl,rfl⟩
theorem fol1_any (B C:Nat) (v:Value) (L:List Mo) (t p want:Int) (w:World) (hO:MOwn w B v L) (hL:L.length≤10000000) (hB:B≤w.heap.size) (hC:w.cell? ⟨C,0,none⟩=some (.int .i64 want)):
  Calls Tryz.prog 185 #[v,.agg #[.int .i64 t,.int .i64 p],.func (.func 186) #[] #[.pointer (some ⟨C,0,none⟩)]] w (FolA B v (geq want) L ⟨t,p⟩ w):=by
 obtain⟨i0,hi,hz0,hz1,hz2⟩:=info_parts info_mo
 obtain⟨ao,cap,rfl,hc1,hc2,hao,hnn,hsm⟩:=hO.form
 have hCl:=World.block_lt_of_cell? w _ hC
 simp only at hCl
 go_enter Tryz.func185,Tryz.ntmps185
 go_wp2
 have hC1:(w.alloc (.cells #[.int .i64 t,.int .i64 p] 242)).cell? ⟨C,0,none⟩=some (.int .i64 want):=(World.cell?_of_block (w:=w) (a:=⟨C,0,none⟩) (Below.heap_alloc w _ C hCl)).trans hC
 have hO1:MOwn (w.alloc (.cells #[.int .i64 t,.int .i64 p] 242)) B (.slice ao L.length cap) L:=Own.alloc hO _
 have hE0:(w.alloc (.cells #[.int .i64 t,.int .i64 p] 242)).cell? ⟨w.heap.size,0,none⟩=some (.int .i64 t):=by simp
 have hE1:(w.alloc (.cells #[.int .i64 t,.int .i64 p] 242)).cell? ⟨w.heap.size,1,none⟩=some (.int .i64 p):=by simp
 have hG1:=World.grownBy_alloc w (.cells #[.int .i64 t,.int .i64 p] 242) (Value.slice ao L.length cap).ownBlock
 have hB1:B≤(w.alloc (.cells #[.int .i64 t,.int .i64 p] 242)).heap.size:=by simp;omega
 generalize w.alloc (.cells #[.int .i64 t,.int .i64 p] 242)=w1 at*
 clear hO hC hCl
 go_loopw [7] (fun i wr=>FoR (geq want) L w1 i wr) (fun i _=>(intOf i).toNat)
 case atStart=>exact⟨L.length,Nat.le_refl _,rfl,fun j m hj hm=>absurd (List.getElem?_eq_some_iff.1 hm).1 (by omega),rfl⟩
 case round=>
  obtain⟨k,hk,rfl,hall,hwr⟩:=hrel
  subst hwr
  have hF: ∀k,k≤L.length→Own wr B 242 2 (.slice ao k cap) k (cels mc (L.take k)):=fun k hk=>by
   have:=hO1.front k hk
   rw [←cels_take mc_len]at this
   exact this
  have hfin: ∀k,k≤L.length→(∀j m,k≤j→L[j]?=some m→geq want m.p=true)→(k=0∨ ∃m,L[k-1]?=some m∧geq want m.p=false)→Hid (∀(o:Obj) (w3:World) (v':Value),Own w3 B 242 2 v' (k+1) (cels mc (L.take k)++ [.int .i64 t,.int .i64 p])→(wr.drew.alloc o).grownBy w3 (Value.slice ao k cap).ownBlock→(v'.ownBlock=(Value.slice ao k cap).ownBlock∨v'.ownBlock=some (wr.drew.alloc o).heap.size)→FolA B (.slice ao L.length cap) (geq want) L ⟨t,p⟩ w (.returned v') w3):=
   fun k hk h1 h2 o w3 v' a b c=>fol_is (m:=⟨t,p⟩) (grown_trans hG1 (grown_drew wr o _)) hk (cutE_is _ L k hk h1 h2) a b c
  cases k with
  |zero=>
   have HF:=hfin 0 (Nat.zero_le _) hall (Or.inl rfl)
   have hF0:=hF 0 (Nat.zero_le _)
   clear hfin hall hF
   have hk0:((0:Nat):Int)≤(cap:Int):=by omega
   go_wp2_with fail
   cases ao with
   |none=>
    obtain rfl:=hnn rfl
    go_region_law (refine step_at rfl (.tmp 26) (.tmp 28) 79 rfl B 242 i0 (.agg #[.int .i64 0,.int .i64 0]) 2 16 Tryz.underlying79 hi hz0 hz1 hz2 rfl _ 0 (cels mc (L.take (0))) rfl ((hF0.drew).alloc _) ⟨wr.heap.size,0,none⟩ 1 1 [.int .i64 t,.int .i64 p] rfl rfl (cell_two _ _ _ _) (fun u hu=>by simp at hu;rcases hu with rfl|rfl<;>rfl) (by decide) (by unfold maxLen;omega) (by omega) (by simp;omega) ?_;intro v' w3 hown3 hgrow3 hloc3)
    all_goals
     go_wp2
     go_ret
     exact HF.out _ w3 v' hown3 hgrow3 hloc3
   |some a=>
    obtain⟨g,off,rfl⟩:=hsm a rfl
    go_region_law (refine step_at rfl (.tmp 26) (.tmp 28) 79 rfl B 242 i0 (.agg #[.int .i64 0,.int .i64 0]) 2 16 Tryz.underlying79 hi hz0 hz1 hz2 rfl _ 0 (cels mc (L.take (0))) rfl ((hF0.drew).alloc _) ⟨wr.heap.size,0,none⟩ 1 1 [.int .i64 t,.int .i64 p] rfl rfl (cell_two _ _ _ _) (fun u hu=>by simp at hu;rcases hu with rfl|rfl<;>rfl) (by decide) (by unfold maxLen;omega) (by omega) (by simp;omega) ?_;intro v' w3 hown3 hgrow3 hloc3)
    all_goals
     go_wp2
     go_ret
     exact HF.out _ w3 v' hown3 hgrow3 hloc3
  |succ k=>
   have hlt:k<L.length:=by omega
   obtain⟨g,off,rfl⟩:=hao (by omega)
   obtain⟨m,hm⟩: ∃m,L[k]?=some m:=⟨L[k],by simp [hlt]⟩
   obtain⟨c0,c1,_,_,hg⟩:=own_mo hO1 rfl hm
   have hk1:((k+1:Nat):Int)-1=(k:Int):=by omega
   have hk2:(0:Int)<((k+1:Nat):Int):=by omega
   cases hp:geq want m.p
   ·have HF:=hfin (k+1) hk hall (Or.inr ⟨m,hm,hp⟩)
    have hF0:=hF (k+1) hk
    have hq1:(0:Int)≤(k:Int)+1:=by omega
    have hq2:(k:Int)+1≤(cap:Int):=by omega
    clear hfin hall hF
    go_wp2_with(go_at_call 186;(with_reducible refine(kn1_any m.p want C _ hC1).mono ?_);rw [hp];rintro e w' ⟨rfl,h9⟩;have h8:=h9.symm;clear h9;subst h8)
    go_region_law (refine step_at rfl (.tmp 26) (.tmp 28) 79 rfl B 242 i0 (.agg #[.int .i64 0,.int .i64 0]) 2 16 Tryz.underlying79 hi hz0 hz1 hz2 rfl _ (k+1) (cels mc (L.take ((k+1)))) rfl ((hF0.drew).alloc _) ⟨wr.heap.size,0,none⟩ 1 1 [.int .i64 t,.int .i64 p] rfl rfl (cell_two _ _ _ _) (fun u hu=>by simp at hu;rcases hu with rfl|rfl<;>rfl) (by decide) (by unfold maxLen;omega) (by omega) (by simp;omega) ?_;intro v' w3 hown3 hgrow3 hloc3)
    all_goals
     go_wp2
     go_ret
     exact HF.out _ w3 v' hown3 hgrow3 hloc3
   ·have hs:=fo_step hall hm hp
    clear hfin hall hF
    go_wp2_with(go_at_call 186;(with_reducible refine(kn1_any m.p want C _ hC1).mono ?_);rw [hp];rintro e w' ⟨rfl,h9⟩;have h8:=h9.symm;clear h9;subst h8)
    go_roundw
    case rel=>exact⟨k,by omega,by simp,hs,rfl⟩
    case measure=>simp [intOf]

theorem kn2_any (old want:Int) (C:Nat) (w:World) (hC:w.cell? ⟨C,0,none⟩=some (.int .i64 want)):
  Calls Tryz.prog 187 #[.int .i64 old,.pointer (some ⟨C,0,none⟩)] w fun e w'=>e=.returned (.bool (leq want old))∧w'=w:=by
 go_enter Tryz.func187,Tryz.ntmps187
 go_wp2
 go_ret
 exact⟨rfl,rfl⟩
theorem fol2_any (B C:Nat) (v:Value) (L:List Mo) (t p want:Int) (w:World) (hO:MOwn w B v L) (hL:L.length≤10000000) (hB:B≤w.heap.size) (hC:w.cell? ⟨C,0,none⟩=some (.int .i64 want)):
  Calls Tryz.prog 185 #[v,.agg #[.int .i64 t,.int .i64 p],.func (.func 187) #[] #[.pointer (some ⟨C,0,none⟩)]] w (FolA B v (leq want) L ⟨t,p⟩ w):=by
 obtain⟨i0,hi,hz0,hz1,hz2⟩:=info_parts info_mo
 obtain⟨ao,cap,rfl,hc1,hc2,hao,hnn,hsm⟩:=hO.form
 have hCl:=World.block_lt_of_cell? w _ hC
 simp only at hCl
 go_enter Tryz.func185,Tryz.ntmps185
 go_wp2
 have hC1:(w.alloc (.cells #[.int .i64 t,.int .i64 p] 242)).cell? ⟨C,0,none⟩=some (.int .i64 want):=(World.cell?_of_block (w:=w) (a:=⟨C,0,none⟩) (Below.heap_alloc w _ C hCl)).trans hC
 have hO1:MOwn (w.alloc (.cells #[.int .i64 t,.int .i64 p] 242)) B (.slice ao L.length cap) L:=Own.alloc hO _
 have hE0:(w.alloc (.cells #[.int .i64 t,.int .i64 p] 242)).cell? ⟨w.heap.size,0,none⟩=some (.int .i64 t):=by simp
 have hE1:(w.alloc (.cells #[.int .i64 t,.int .i64 p] 242)).cell? ⟨w.heap.size,1,none⟩=some (.int .i64 p):=by simp
 have hG1:=World.grownBy_alloc w (.cells #[.int .i64 t,.int .i64 p] 242) (Value.slice ao L.length cap).ownBlock
 have hB1:B≤(w.alloc (.cells #[.int .i64 t,.int .i64 p] 242)).heap.size:=by simp;omega
 generalize w.alloc (.cells #[.int .i64 t,.int .i64 p] 242)=w1 at*
 clear hO hC hCl
 go_loopw [7] (fun i wr=>FoR (leq want) L w1 i wr) (fun i _=>(intOf i).toNat)
 case atStart=>exact⟨L.length,Nat.le_refl _,rfl,fun j m hj hm=>absurd (List.getElem?_eq_some_iff.1 hm).1 (by omega),rfl⟩
 case round=>
  obtain⟨k,hk,rfl,hall,hwr⟩:=hrel
  subst hwr
  have hF: ∀k,k≤L.length→Own wr B 242 2 (.slice ao k cap) k (cels mc (L.take k)):=fun k hk=>by
   have:=hO1.front k hk
   rw [←cels_take mc_len]at this
   exact this
  have hfin: ∀k,k≤L.length→(∀j m,k≤j→L[j]?=some m→leq want m.p=true)→(k=0∨ ∃m,L[k-1]?=some m∧leq want m.p=false)→Hid (∀(o:Obj) (w3:World) (v':Value),Own w3 B 242 2 v' (k+1) (cels mc (L.take k)++ [.int .i64 t,.int .i64 p])→(wr.drew.alloc o).grownBy w3 (Value.slice ao k cap).ownBlock→(v'.ownBlock=(Value.slice ao k cap).ownBlock∨v'.ownBlock=some (wr.drew.alloc o).heap.size)→FolA B (.slice ao L.length cap) (leq want) L ⟨t,p⟩ w (.returned v') w3):=
   fun k hk h1 h2 o w3 v' a b c=>fol_is (m:=⟨t,p⟩) (grown_trans hG1 (grown_drew wr o _)) hk (cutE_is _ L k hk h1 h2) a b c
  cases k with
  |zero=>
   have HF:=hfin 0 (Nat.zero_le _) hall (Or.inl rfl)
   have hF0:=hF 0 (Nat.zero_le _)
   clear hfin hall hF
   have hk0:((0:Nat):Int)≤(cap:Int):=by omega
   go_wp2_with fail
   cases ao with
   |none=>
    obtain rfl:=hnn rfl
    go_region_law (refine step_at rfl (.tmp 26) (.tmp 28) 79 rfl B 242 i0 (.agg #[.int .i64 0,.int .i64 0]) 2 16 Tryz.underlying79 hi hz0 hz1 hz2 rfl _ 0 (cels mc (L.take (0))) rfl ((hF0.drew).alloc _) ⟨wr.heap.size,0,none⟩ 1 1 [.int .i64 t,.int .i64 p] rfl rfl (cell_two _ _ _ _) (fun u hu=>by simp at hu;rcases hu with rfl|rfl<;>rfl) (by decide) (by unfold maxLen;omega) (by omega) (by simp;omega) ?_;intro v' w3 hown3 hgrow3 hloc3)
    all_goals
     go_wp2
     go_ret
     exact HF.out _ w3 v' hown3 hgrow3 hloc3
   |some a=>
    obtain⟨g,off,rfl⟩:=hsm a rfl
    go_region_law (refine step_at rfl (.tmp 26) (.tmp 28) 79 rfl B 242 i0 (.agg #[.int .i64 0,.int .i64 0]) 2 16 Tryz.underlying79 hi hz0 hz1 hz2 rfl _ 0 (cels mc (L.take (0))) rfl ((hF0.drew).alloc _) ⟨wr.heap.size,0,none⟩ 1 1 [.int .i64 t,.int .i64 p] rfl rfl (cell_two _ _ _ _) (fun u hu=>by simp at hu;rcases hu with rfl|rfl<;>rfl) (by decide) (by unfold maxLen;omega) (by omega) (by simp;omega) ?_;intro v' w3 hown3 hgrow3 hloc3)
    all_goals
     go_wp2
     go_ret
     exact HF.out _ w3 v' hown3 hgrow3 hloc3
  |succ k=>
   have hlt:k<L.length:=by omega
   obtain⟨g,off,rfl⟩:=hao (by omega)
   obtain⟨m,hm⟩: ∃m,L[k]?=some m:=⟨L[k],by simp [hlt]⟩
   obtain⟨c0,c1,_,_,hg⟩:=own_mo hO1 rfl hm
   have hk1:((k+1:Nat):Int)-1=(k:Int):=by omega
   have hk2:(0:Int)<((k+1:Nat):Int):=by omega
   cases hp:leq want m.p
   ·have HF:=hfin (k+1) hk hall (Or.inr ⟨m,hm,hp⟩)
    have hF0:=hF (k+1) hk
    have hq1:(0:Int)≤(k:Int)+1:=by omega
    have hq2:(k:Int)+1≤(cap:Int):=by omega
    clear hfin hall hF
    go_wp2_with(go_at_call 187;(with_reducible refine(kn2_any m.p want C _ hC1).mono ?_);rw [hp];rintro e w' ⟨rfl,h9⟩;have h8:=h9.symm;clear h9;subst h8)
    go_region_law (refine step_at rfl (.tmp 26) (.tmp 28) 79 rfl B 242 i0 (.agg #[.int .i64 0,.int .i64 0]) 2 16 Tryz.underlying79 hi hz0 hz1 hz2 rfl _ (k+1) (cels mc (L.take ((k+1)))) rfl ((hF0.drew).alloc _) ⟨wr.heap.size,0,none⟩ 1 1 [.int .i64 t,.int .i64 p] rfl rfl (cell_two _ _ _ _) (fun u hu=>by simp at hu;rcases hu with rfl|rfl<;>rfl) (by decide) (by unfold maxLen;omega) (by omega) (by simp;omega) ?_;intro v' w3 hown3 hgrow3 hloc3)
    all_goals
     go_wp2
     go_ret
     exact HF.out _ w3 v' hown3 hgrow3 hloc3
   ·have hs:=fo_step hall hm hp
    clear hfin hall hF
    go_wp2_with(go_at_call 187;(with_reducible refine(kn2_any m.p want C _ hC1).mono ?_);rw [hp];rintro e w' ⟨rfl,h9⟩;have h8:=h9.symm;clear h9;subst h8)
    go_roundw
    case rel=>exact⟨k,by omega,by simp,hs,rfl⟩
    case measure=>simp [intOf]
end Stb
namespace Stb
open Rw Go.RowKit

/-- nothing but the cells J of the block Q and the block R has turned -/
structure Wr (Q:Nat) (J:Nat→Prop) (R:Option Nat) (w w':World):Prop where
  os:w'.os=w.os
  tape:w'.tape=w.tape
  output:w'.output=w.output
  size:w.heap.size≤w'.heap.size
  block: ∀k,k<w.heap.size→k≠Q→some k≠R→w'.heap[k]?=w.heap[k]?
  cell: ∀j,¬J j→w'.cell? ⟨Q,j,none⟩=w.cell? ⟨Q,j,none⟩
  fz: ∀j,w'.frozen? ⟨Q,j,none⟩=w.frozen? ⟨Q,j,none⟩
section
variable {Q : Nat} {J J' : Nat → Prop} {R : Option Nat} {w w1 w2 : World}
theorem Wr.refl (Q:Nat) (J:Nat→Prop) (R:Option Nat) (w:World):Wr Q J R w w:=⟨rfl,rfl,rfl,Nat.le_refl _,fun _ _ _ _=>rfl,fun _ _=>rfl,fun _=>rfl⟩
theorem Wr.trans (h:Wr Q J R w w1) (g:Wr Q J R w1 w2):Wr Q J R w w2:=
  ⟨g.os.trans h.os,g.tape.trans h.tape,g.output.trans h.output,Nat.le_trans h.size g.size,fun k a b c=>(g.block k (Nat.lt_of_lt_of_le a h.size) b c).trans (h.block k a b c),fun j hj=>(g.cell j hj).trans (h.cell j hj),fun j=>(g.fz j).trans (h.fz j)⟩
theorem Wr.mono (h:Wr Q J R w w1) (hj: ∀j,J j→J' j):Wr Q J' R w w1:=⟨h.os,h.tape,h.output,h.size,h.block,fun j a=>h.cell j (fun b=>a (hj j b)),h.fz⟩
theorem Wr.any (h:Wr Q J none w w1) (R:Option Nat):Wr Q J R w w1:=⟨h.os,h.tape,h.output,h.size,fun k a b _=>h.block k a b (fun e=>by cases e),h.cell,h.fz⟩
theorem Wr.drew (h:Wr Q J R w w1):Wr Q J R w w1.drew:=⟨h.os,h.tape,h.output,h.size,h.block,h.cell,h.fz⟩
theorem Wr.below (hb:Below w.heap.size w w1) (hQ:Q<w.heap.size):Wr Q J R w w1:=
  ⟨hb.os,hb.tape,hb.output,hb.size,fun k a _ _=>hb.block k a,fun j _=>World.cell?_of_block (a:=⟨Q,j,none⟩) (hb.block Q hQ),fun j=>World.frozen?_of_block (a:=⟨Q,j,none⟩) (hb.block Q hQ)⟩
theorem Wr.alloc (h:Wr Q J R w w1) (hQ:Q<w.heap.size) (o:Obj):Wr Q J R w (w1.alloc o):=
  h.trans (Wr.below ((Below.refl _ _).alloc (Nat.le_refl _) _) (Nat.lt_of_lt_of_le hQ h.size))
theorem Wr.grown (h:w.grownBy w1 R) (hQ:Q<w.heap.size) (hR:R≠some Q):Wr Q J R w w1:=
  ⟨h.os,h.tape,h.output,h.size,fun k a _ c=>h.block k a c,fun j _=>World.cell?_of_block (a:=⟨Q,j,none⟩) (h.block Q hQ (fun e=>hR e.symm)),fun j=>World.frozen?_of_block (a:=⟨Q,j,none⟩) (h.block Q hQ (fun e=>hR e.symm))⟩
theorem Wr.set (h:Wr Q J R w w1) {j:Nat} (hj:J j) (u:Value):Wr Q J R w (w1.setCell ⟨Q,j,none⟩ u):=
  ⟨h.os, h.tape, h.output, by simpa using h.size, fun k a b c => (Below.heap_setCell w1 ⟨Q, j, none⟩ u k b).trans (h.block k a b c),
   fun i hi=>by rw [World.cell?_setCell_other (h:=fun e=>hi (by have:=congrArg Addr.off e;simp at this;subst this;exact hj))];exact h.cell i hi,
   fun i=>by rw [World.frozen?_setCell];exact h.fz i⟩
theorem Wr.setR (h:Wr Q J R w w1) {g:Nat} (hg:R=some g) (hne:g≠Q) (j:Nat) (u:Value):Wr Q J R w (w1.setCell ⟨g,j,none⟩ u):=
  ⟨h.os, h.tape, h.output, by simpa using h.size, fun k a b c => (Below.heap_setCell w1 ⟨g, j, none⟩ u k (fun e => c (by rw [e, hg]))).trans (h.block k a b c),
   fun i hi=>by rw [World.cell?_setCell_other (h:=fun e=>hne (congrArg Addr.block e))];exact h.cell i hi,
   fun i=>by rw [World.frozen?_setCell];exact h.fz i⟩
end
/-- a tally lies at cell o of the block Q -/
structure TAt (w:World) (B Q o:Nat) (v:Value) (T:Ta):Prop where
  lt:Q<w.heap.size
  cM:w.cell? ⟨Q,o,none⟩=some v
  cS:w.cell? ⟨Q,o+1,none⟩=some (.int .i64 T.s)
  fM:w.frozen? ⟨Q,o,none⟩=false
  fS:w.frozen? ⟨Q,o+1,none⟩=false
  own:MOwn w B v T.l
  ne:v.ownBlock≠some Q
theorem own_set {w:World} {B Q j:Nat} {v u:Value} {L:List Mo} (h:MOwn w B v L) (hne:v.ownBlock≠some Q):MOwn (w.setCell ⟨Q,j,none⟩ u) B v L:=
  Own.kept h (fun g hg=>Below.heap_setCell w ⟨Q,j,none⟩ u g (fun e=>hne (by rw [hg];exact congrArg some e)))
theorem own_wr {Q B:Nat} {J:Nat→Prop} {R:Option Nat} {w w1:World} {v:Value} {L:List Mo} (h:MOwn w B v L) (hw:Wr Q J R w w1) (hne:v.ownBlock≠some Q) (hR:v.ownBlock=none∨v.ownBlock≠R):MOwn w1 B v L:=by
  refine Own.kept h (fun g hg=>hw.block g (h.lt g hg).2 (fun e=>hne (by rw [hg,e])) (fun e=> ?_))
  rcases hR with a|a
  · rw [a]at hg;cases hg
  · exact a (hg.trans e)

section
variable {w w1 : World} {B Q o : Nat} {v : Value} {T : Ta}
theorem TAt.kept (h:TAt w B Q o v T) (hb: ∀g,(g=Q∨v.ownBlock=some g)→w1.heap[g]?=w.heap[g]?):TAt w1 B Q o v T:=by
  have hQ:=hb Q (Or.inl rfl)
  refine⟨?_,(World.cell?_of_block (a:=⟨Q,o,none⟩) hQ).trans h.cM,(World.cell?_of_block (a:=⟨Q,o+1,none⟩) hQ).trans h.cS,(World.frozen?_of_block (a:=⟨Q,o,none⟩) hQ).trans h.fM,(World.frozen?_of_block (a:=⟨Q,o+1,none⟩) hQ).trans h.fS,Own.kept h.own (fun g hg=>hb g (Or.inr hg)),h.ne⟩
  have:=h.lt
  rw [Array.getElem?_eq_getElem this]at hQ
  exact(Array.getElem?_eq_some_iff.1 hQ).1
theorem TAt.drew (h:TAt w B Q o v T):TAt w.drew B Q o v T:=h.kept (fun _ _=>rfl)
theorem TAt.below (h:TAt w B Q o v T) (hb:Below w.heap.size w w1):TAt w1 B Q o v T:=h.kept (fun g hg=>hb.block g (by rcases hg with rfl|hg;exact h.lt;exact(h.own.lt g hg).2))
theorem TAt.alloc (h:TAt w B Q o v T) (x:Obj):TAt (w.alloc x) B Q o v T:=h.below ((Below.refl _ _).alloc (Nat.le_refl _) _)
theorem TAt.setS (h:TAt w B Q o v T) (x:Int):TAt (w.setCell ⟨Q,o+1,none⟩ (.int .i64 x)) B Q o v ⟨T.l,x⟩:=
  ⟨by simpa using h.lt,by rw [World.cell?_setCell_other (h:=fun e=>by have:=congrArg Addr.off e;simp at this)];exact h.cM,World.cell?_setCell_same _ _ _ h.cS,by rw [World.frozen?_setCell];exact h.fM,by rw [World.frozen?_setCell];exact h.fS,own_set h.own h.ne,h.ne⟩
theorem TAt.setM (h:TAt w B Q o v T) {v':Value} {L:List Mo} (hO:MOwn w B v' L) (hne:v'.ownBlock≠some Q):TAt (w.setCell ⟨Q,o,none⟩ v') B Q o v' ⟨L,T.s⟩:=
  ⟨by simpa using h.lt,World.cell?_setCell_same _ _ _ h.cM,by rw [World.cell?_setCell_other (h:=fun e=>by have:=congrArg Addr.off e;simp at this)];exact h.cS,by rw [World.frozen?_setCell];exact h.fM,by rw [World.frozen?_setCell];exact h.fS,own_set hO hne,hne⟩
end
/-- what forget comes to -/
def FgA (B Q o:Nat) (v:Value) (T:Ta) (t:Int) (w:World) (e:Ending) (w':World):Prop:=
  e=.returned (.tuple #[])∧ ∃v',TAt w' B Q o v' (T.forget t)∧v'.ownBlock=v.ownBlock∧Wr Q (fun j=>j=o∨j=o+1) none w w'
/-- some of what is behind is taken off -/
def FgR (B Q o:Nat) (v:Value) (T:Ta) (n:Nat) (w:World) (i:Value) (wr:World):Prop:=
  ∃k:Nat,k≤n∧i=.int .i64 k∧TAt wr B Q o v ⟨T.l,T.s-sumP (T.l.take k)⟩∧Wr Q (fun j=>j=o∨j=o+1) none w wr
theorem tw_len (L:List Mo) (t:Int):(L.takeWhile (fun m=>decide (m.t≤t))).length+(abv L t).length=L.length:=by
  rw [←List.length_append];unfold abv;rw [List.takeWhile_append_dropWhile]
theorem tw_take (L:List Mo) (t:Int):L.takeWhile (fun m=>decide (m.t≤t))=L.take (L.takeWhile (fun m=>decide (m.t≤t))).length:=by
  conv=>rhs;rw [←List.takeWhile_append_dropWhile (p:=fun m:Mo=>decide (m.t≤t)) (l:=L)]
  have h:(List.takeWhile (fun m:Mo=>decide (m.t≤t)) (List.takeWhile (fun m:Mo=>decide (m.t≤t)) L++List.dropWhile (fun m:Mo=>decide (m.t≤t)) L))=List.takeWhile (fun m:Mo=>decide (m.t≤t)) L:=by rw [List.takeWhile_append_dropWhile]
  rw [h,List.take_left']
  rfl

theorem forget_any (B Q o:Nat) (v:Value) (T:Ta) (t:Int) (k:Nat) (w:World) (hA:TAt w B Q o v T) (hT:TaOk T k) (hk:k≤1000000):
    Calls Tryz.prog 189 #[.pointer (some ⟨Q,o,none⟩),.int .i64 t] w (FgA B Q o v T t w):=by
  obtain⟨ao,cap,rfl,hc1,hc2,hao,hnn,hsm⟩:=hA.own.form
  have hlen:=hT.len
  have hl:=tw_len T.l t
  have htk:=tw_take T.l t
  have c:=above_any B _ T.l t w hA.own (by omega)
  have cM:=hA.cM
  have hp:=hT.part
  have hge:=hT.ge
  have hle:=hT.le
  obtain⟨n,hn⟩: ∃n,n=(T.l.takeWhile (fun m=>decide (m.t≤t))).length:=⟨_,rfl⟩
  rw [←hn]at hl htk
  have hlt:=hA.lt
  go_enter Tryz.func189,Tryz.ntmps189
  go_wp2_with(go_at_call 188;(with_reducible refine c.mono ?_);rintro e w' ⟨v',rfl,hO',hb',h9⟩;have h8:=h9.symm;clear h9;subst h8;obtain⟨ao',cap',rfl,hd1,hd2,_,_,_⟩:=hO'.form)
  have hsub:(T.l.length:Int)-((abv T.l t).length:Int)=(n:Int):=by omega
  have hn1:(n:Int)≤(cap:Int):=by omega
  have hn2:n≤T.l.length:=by omega
  have HV:Hid (∀w2,TAt w2 B Q o (.slice ao T.l.length cap) ⟨T.l,T.s-sumP (T.l.take n)⟩→Wr Q (fun j=>j=o∨j=o+1) none w w2→FgA B Q o (.slice ao T.l.length cap) T t w (.returned (.tuple #[])) (w2.setCell ⟨Q,o,none⟩ (.slice ao' (abv T.l t).length cap'))):=by
    intro w2 h2 hw2
    have hne':(Value.slice ao' (abv T.l t).length cap').ownBlock≠some Q:=by rw [hb'];exact hA.ne
    have hO2 : MOwn w2 B (.slice ao' (abv T.l t).length cap') (abv T.l t) := own_wr hO' hw2 hne' (by
      cases (Value.slice ao' (abv T.l t).length cap').ownBlock with
      |none=>exact Or.inl rfl
      |some g=>exact Or.inr (by simp))
    have h3:=h2.setM hO2 hne'
    refine⟨rfl,_,?_,hb',hw2.set (Or.inl rfl) _⟩
    unfold Ta.forget
    rw [htk]
    exact h3
  clear c hO' hb' hn htk
  generalize (abv T.l t).length=a' at*
  go_region
  all_goals
    go_wp2_with fail
    go_loopw [27] (fun i wr=>FgR B Q o (.slice ao T.l.length cap) T n w i wr) (fun i _=>n-(intOf i).toNat)
    case atStart=>exact⟨0,by omega,rfl,by simpa [sumP]using(⟨hA.lt,hA.cM,hA.cS,hA.fM,hA.fS,Own.drew hA.own,hA.ne⟩:TAt w.drew B Q o (.slice ao T.l.length cap) T),(Wr.refl _ _ _ _).drew⟩
    case round=>
      obtain⟨k',hk',rfl,hA',hW'⟩:=hrel
      have cM':=hA'.cM
      have cS':=hA'.cS
      have fM':=hA'.fM
      have fS':=hA'.fS
      have hQ':=hA'.lt
      by_cases hlt':k'<n
      · have hlt2:(k':Int)<(n:Int):=by omega
        obtain⟨g,off,rfl⟩:=hao (by omega)
        obtain⟨m,hm⟩: ∃m,T.l[k']?=some m:=⟨T.l[k'],by simp [show k'<T.l.length by omega]⟩
        obtain⟨c0,c1,_,_,hg⟩:=own_mo hA'.own rfl hm
        have hs:=sumP_take T.l k' m hm
        have h1:=hp k'
        have h2:=hp (k'+1)
        rw [hs]at h2
        have hq1: -9223372036854775808≤T.s-sumP (T.l.take k')-m.p:=by omega
        have hq2:T.s-sumP (T.l.take k')-m.p≤9223372036854775807:=by omega
        have hnew:Hid (TAt (((wr.setCell ⟨Q,o+1,none⟩ (.int .i64 (T.s-sumP (T.l.take k')-m.p))).alloc (.cells #[.int .i64 m.t,.int .i64 m.p] 242)).drew) B Q o (.slice (some ⟨g,off,none⟩) T.l.length cap) ⟨T.l,T.s-sumP (T.l.take (k'+1))⟩∧Wr Q (fun j=>j=o∨j=o+1) none w (((wr.setCell ⟨Q,o+1,none⟩ (.int .i64 (T.s-sumP (T.l.take k')-m.p))).alloc (.cells #[.int .i64 m.t,.int .i64 m.p] 242)).drew)):=by
          have h3:=((hA'.setS (T.s-sumP (T.l.take k')-m.p)).alloc (.cells #[.int .i64 m.t,.int .i64 m.p] 242)).drew
          rw [hs,show T.s-(sumP (T.l.take k')+m.p)=T.s-sumP (T.l.take k')-m.p by omega]
          exact⟨h3,((hW'.set (j:=o+1) (Or.inr rfl) _).alloc hlt _).drew⟩
        clear hA' hW' hs HV hA
        go_wp2_with fail
        go_region
        all_goals
          go_wp2
          go_roundw
          case rel=>exact⟨k'+1,by omega,by simp,hnew.out.1,hnew.out.2⟩
          case measure=>simp [intOf];omega
      · obtain rfl:k'=n:=by omega
        have HF:Hid (FgA B Q o (.slice ao T.l.length cap) T t w (.returned (.tuple #[])) (wr.setCell ⟨Q,o,none⟩ (.slice ao' a' cap'))):=HV.out wr hA' hW'
        clear hA' hW' HV hA
        go_wp2
        go_end0
        exact HF.out
end Stb
namespace Stb
open Rw Go.RowKit

def AdA (B Q o:Nat) (v:Value) (T:Ta) (now pods:Int) (w:World) (e:Ending) (w':World):Prop:=
 e=.returned (.tuple #[])∧ ∃v',TAt w' B Q o v' (T.add now pods)∧(v'.ownBlock=v.ownBlock∨ ∃g,v'.ownBlock=some g∧w.heap.size≤g)∧Wr Q (fun j=>j=o∨j=o+1) v.ownBlock w w'
theorem ada_app {B Q o:Nat} {v v':Value} {T:Ta} {now pods:Int} {w w3:World} {x:Obj} (hA:TAt w B Q o v T) (hadd:T.add now pods=(⟨T.l++ [⟨now,pods⟩],T.s+pods⟩:Ta))
  (hO:Own w3 B 242 2 v' (T.l.length+1) (cels mc T.l++ [.int .i64 now,.int .i64 pods])) (hg:((w.setCell ⟨Q,o+1,none⟩ (.int .i64 (T.s+pods))).alloc x).grownBy w3 v.ownBlock) (hl:v'.ownBlock=v.ownBlock∨v'.ownBlock=some ((w.setCell ⟨Q,o+1,none⟩ (.int .i64 (T.s+pods))).alloc x).heap.size):
  Hid (AdA B Q o v T now pods w (.returned (.tuple #[])) (w3.setCell ⟨Q,o,none⟩ v'))∧w3.cell? ⟨Q,o,none⟩=some v∧w3.frozen? ⟨Q,o,none⟩=false:=by
 have h1:=(hA.setS (T.s+pods)).alloc x
 have hW:Wr Q (fun j=>j=o∨j=o+1) v.ownBlock w ((w.setCell ⟨Q,o+1,none⟩ (.int .i64 (T.s+pods))).alloc x):=((Wr.refl Q _ _ w).set (Or.inr rfl) _).alloc hA.lt _
 have hQ:=hg.block Q h1.lt (fun e=>hA.ne e.symm)
 have hO':MOwn w3 B v' (T.l++ [⟨now,pods⟩]):=by
  show Own w3 B _ 2 v' (T.l++ [(⟨now,pods⟩:Mo)]).length (cels mc (T.l++ [(⟨now,pods⟩:Mo)]))
  rw [cels_append,List.length_append]
  exact hO
 have hne:v'.ownBlock≠some Q:=by
  rcases hl with e|e
  ·rw [e];exact hA.ne
  ·rw [e];have:=h1.lt;intro h;simp only [Option.some.injEq]at h;omega
 have h3:TAt w3 B Q o v ⟨T.l,T.s+pods⟩→TAt (w3.setCell ⟨Q,o,none⟩ v') B Q o v' ⟨T.l++ [⟨now,pods⟩],T.s+pods⟩:=fun h=>h.setM hO' hne
 have cM3:=(World.cell?_of_block (w:=(w.setCell ⟨Q,o+1,none⟩ (.int .i64 (T.s+pods))).alloc x) (a:=⟨Q,o,none⟩) hQ).trans h1.cM
 have cS3:=(World.cell?_of_block (w:=(w.setCell ⟨Q,o+1,none⟩ (.int .i64 (T.s+pods))).alloc x) (a:=⟨Q,o+1,none⟩) hQ).trans h1.cS
 have fM3:=(World.frozen?_of_block (w:=(w.setCell ⟨Q,o+1,none⟩ (.int .i64 (T.s+pods))).alloc x) (a:=⟨Q,o,none⟩) hQ).trans h1.fM
 have fS3:=(World.frozen?_of_block (w:=(w.setCell ⟨Q,o+1,none⟩ (.int .i64 (T.s+pods))).alloc x) (a:=⟨Q,o+1,none⟩) hQ).trans h1.fS
 refine⟨⟨rfl,v',?_,?_,(hW.trans (Wr.grown hg h1.lt hA.ne)).set (Or.inl rfl) _⟩,cM3,fM3⟩
 ·rw [hadd]
  exact⟨by simpa using Nat.lt_of_lt_of_le h1.lt hg.size,World.cell?_setCell_same _ _ _ cM3,by rw [World.cell?_setCell_other (h:=fun e=>by have:=congrArg Addr.off e;simp at this)];exact cS3,by rw [World.frozen?_setCell];exact fM3,by rw [World.frozen?_setCell];exact fS3,own_set hO' hne,hne⟩
 ·exact hl.imp id fun e=>⟨_,e,hW.size⟩
theorem cell_twoN {w:World} {N:Nat} (e:TypeId) (a b:Value) (hN:N=w.heap.size): ∀(j:Nat) (u:Value),[a,b][j]?=some u→(w.alloc (.cells #[a,b] e)).cell? ((⟨N,0,none⟩:Addr).add j)=some u:=by
 subst hN;exact cell_two w e a b
theorem set_last (L:List Mo) (m x:Mo) (h:L.getLast?=some m):L.dropLast++ [x]=L.set (L.length-1) x:=by
 have hs:=last_split h
 generalize hd:L.dropLast=D at*
 subst hs
 simp
theorem cels_set (L:List Mo) (i:Nat) (t p q:Int) (h:L[i]?=some ⟨t,p⟩):cels mc (L.set i ⟨t,q⟩)=(cels mc L).set (i*2+1) (.int .i64 q):=by
 induction L generalizing i with
 |nil=>simp at h
 |cons m L ih=>
  cases i with
  |zero=>simp at h;subst h;simp [cels,mc]
  |succ i=>simp at h;simp only [ar,cels,ih i h,mc];rw [show(i+1)*2+1=i*2+1+1+1 by omega];simp
theorem ada_set {B Q o g off cap:Nat} {T:Ta} {m:Mo} {now pods:Int} {w:World} (hA:TAt w B Q o (.slice (some ⟨g,off,none⟩) T.l.length cap) T) (hadd:T.add now pods=⟨T.l.dropLast++ [⟨now,m.p+pods⟩],T.s+pods⟩) (hm:T.l.getLast?=some m) (ht:m.t=now) (n:Nat) (hn:T.l.length=n+1):
  AdA B Q o (.slice (some ⟨g,off,none⟩) T.l.length cap) T now pods w (.returned (.tuple #[])) ((w.setCell ⟨Q,o+1,none⟩ (.int .i64 (T.s+pods))).setCell ⟨g,off+n*2+1,none⟩ (.int .i64 (m.p+pods))):=by
 have hgQ:g≠Q:=fun e=>hA.ne (by rw [e];rfl)
 have h1:=hA.setS (T.s+pods)
 have hm':T.l[n]?=some ⟨now,m.p⟩:=by
  rw [List.getLast?_eq_getElem?,hn]at hm
  rw [show n+1-1=n by omega]at hm
  rw [hm,←ht]
 have hO:=(show Own _ B _ 2 _ T.l.length (cels mc T.l)from h1.own).stored (n*2+1) (.int .i64 (m.p+pods)) (by omega)
 rw [←cels_set T.l n now m.p _ hm',show off+(n*2+1)=off+n*2+1 by omega]at hO
 have hL:T.l.dropLast++ [⟨now,m.p+pods⟩]=T.l.set n ⟨now,m.p+pods⟩:=by rw [set_last T.l m _ hm,hn];rfl
 refine⟨rfl,_,?_,Or.inl rfl,((Wr.refl Q _ _ w).set (Or.inr rfl) _).setR rfl hgQ _ _⟩
 rw [hadd,hL]
 refine⟨by simpa using h1.lt,?_,?_,by rw [World.frozen?_setCell];exact h1.fM,by rw [World.frozen?_setCell];exact h1.fS,?_,hA.ne⟩
 ·rw [World.cell?_setCell_other (h:=fun e=>hgQ (congrArg Addr.block e))];exact h1.cM
 ·rw [World.cell?_setCell_other (h:=fun e=>hgQ (congrArg Addr.block e))];exact h1.cS
 ·show Own _ B _ 2 _ (T.l.set n _).length _
  rw [List.length_set];exact hO

theorem add_any (B Q o:Nat) (v:Value) (T:Ta) (now pods:Int) (k:Nat) (w:World) (hA:TAt w B Q o v T) (hT:TaOk T k) (hk:k≤1000000) (h0:0≤pods) (h50:pods≤50) (hB:B≤w.heap.size):
  Calls Tryz.prog 193 #[.pointer (some ⟨Q,o,none⟩),.int .i64 now,.int .i64 pods] w (AdA B Q o v T now pods w):=by
 by_cases hz:pods=0
 ·subst hz
  have HA:Hid (AdA B Q o v T now 0 w (.returned (.tuple #[])) w):=⟨rfl,v,by simpa [Ta.add]using hA,Or.inl rfl,Wr.refl _ _ _ _⟩
  go_enter Tryz.func193,Tryz.ntmps193
  go_wp2
  (try simp only [Exit.inBlock,Exit.then])
  refine bodyPost_ret (results_none rfl _ _ _) rfl ?_
  exact HA.out
 ·obtain⟨i0,hi,hz0,hz1,hz2⟩:=info_parts info_mo
  obtain⟨ao,cap,rfl,hc1,hc2,hao,hnn,hsm⟩:=hA.own.form
  have hlen:=hT.len
  have hge:=hT.ge
  have hle:=hT.le
  have hz':(pods==0)=false:=by simp [hz]
  have cM:=hA.cM
  have cS:=hA.cS
  have fM:=hA.fM
  have fS:=hA.fS
  have hlt:=hA.lt
  have hq1:T.s+pods≤9223372036854775807:=by omega
  have h1:=hA.setS (T.s+pods)
  have cM1:=h1.cM
  have hlt1:=h1.lt
  have HA:Hid (TAt w B Q o (.slice ao T.l.length cap) T):=hA
  have hpos:=hT.pos
  have hO1:Own (w.setCell ⟨Q,o+1,none⟩ (.int .i64 (T.s+pods))) B 242 2 (.slice ao T.l.length cap) T.l.length (cels mc T.l):=h1.own
  cases hg:T.l.getLast? with
  |none=>
   have hl:T.l=[]:=List.getLast?_eq_none_iff.1 hg
   have hadd:T.add now pods=(⟨T.l++ [⟨now,pods⟩],T.s+pods⟩:Ta):=by unfold Ta.add;rw [if_neg hz,hg]
   have hneg: ¬0≤(T.l.length:Int)-1:=by rw [hl];decide
   have HADD:Hid (T.add now pods=(⟨T.l++ [⟨now,pods⟩],T.s+pods⟩:Ta)):=hadd
   clear hadd hl hA h1 hg
   go_enter Tryz.func193,Tryz.ntmps193
   go_wp2_with(at_builtin;refine wpList_at rfl _ _ 79 rfl B 242 i0 (.agg #[.int .i64 0,.int .i64 0]) 2 16 Tryz.underlying79 hi hz0 hz1 hz2 rfl _ _ _ rfl (Own.alloc hO1 _) ⟨w.heap.size,0,none⟩ 1 1 [.int .i64 now,.int .i64 pods] rfl rfl (cell_twoN _ _ _ (by simp)) (fun u hu=>by simp at hu;rcases hu with rfl|rfl<;>rfl) (by decide) (by unfold maxLen;omega) (by omega) (by simp;omega) ?_;intro v' w3 hown3 hgrow3 hloc3;obtain⟨ao3,cap3,rfl,_,_,_,_,_⟩:=hown3.form;obtain⟨HF,cM3,fM3⟩:=ada_app HA.out HADD.out hown3 hgrow3 hloc3)
   (try simp only [Exit.inBlock,Exit.then])
   refine bodyPost_end (results_none rfl _ _ _) rfl ?_
   exact HF.out
  |some m=>
   obtain⟨n,hn⟩: ∃n,T.l.length=n+1:=by
    cases hl:T.l with
    |nil=>rw [hl]at hg;simp at hg
    |cons a l=>exact⟨l.length,rfl⟩
   have hm':T.l[n]?=some m:=by
    rw [List.getLast?_eq_getElem?,hn]at hg
    exact hg
   obtain⟨g,off,rfl⟩:=hao (by omega)
   have hn1:(T.l.length:Int)-1=(n:Int):=by omega
   have hn2:(0:Int)≤(n:Int):=by omega
   have hn3:(n:Int)<(T.l.length:Int):=by omega
   obtain⟨c0,c1,f0,f1,hgl⟩:=own_mo h1.own rfl hm'
   have hgQ:g≠Q:=fun e=>hA.ne (by rw [e];rfl)
   have hmp:=hpos m (List.mem_of_getElem? hm')
   have hms:m.p≤T.s:=by
    have:=hT.part n
    have h3:=sumP_take T.l n m hm'
    have h4:=hT.part (n+1)
    omega
   by_cases ht:m.t=now
   ·have hadd:T.add now pods=(⟨T.l.dropLast++ [⟨now,m.p+pods⟩],T.s+pods⟩:Ta):=by unfold Ta.add;rw [if_neg hz,hg];simp [ht]
    have HF:Hid (AdA B Q o (.slice (some ⟨g,off,none⟩) T.l.length cap) T now pods w (.returned (.tuple #[])) ((w.setCell ⟨Q,o+1,none⟩ (.int .i64 (T.s+pods))).setCell ⟨g,off+n*2+1,none⟩ (.int .i64 (m.p+pods)))):=ada_set hA hadd hg ht n hn
    have ht':(m.t==now)=true:=by simp [ht]
    have hq2:m.p+pods≤9223372036854775807:=by omega
    clear hadd hA h1 hg hpos ht hn
    go_enter Tryz.func193,Tryz.ntmps193
    go_wp2
    (try simp only [Exit.inBlock,Exit.then])
    refine bodyPost_ret (results_none rfl _ _ _) rfl ?_
    exact HF.out
   ·have hadd:T.add now pods=(⟨T.l++ [⟨now,pods⟩],T.s+pods⟩:Ta):=by unfold Ta.add;rw [if_neg hz,hg];simp [ht]
    have HADD:Hid (T.add now pods=(⟨T.l++ [⟨now,pods⟩],T.s+pods⟩:Ta)):=hadd
    have ht':(m.t==now)=false:=by simp [ht]
    clear hadd hA h1 hg hpos ht hn
    go_enter Tryz.func193,Tryz.ntmps193
    go_wp2_with(at_builtin;refine wpList_at rfl _ _ 79 rfl B 242 i0 (.agg #[.int .i64 0,.int .i64 0]) 2 16 Tryz.underlying79 hi hz0 hz1 hz2 rfl _ _ _ rfl (Own.alloc hO1 _) ⟨w.heap.size,0,none⟩ 1 1 [.int .i64 now,.int .i64 pods] rfl rfl (cell_twoN _ _ _ (by simp)) (fun u hu=>by simp at hu;rcases hu with rfl|rfl<;>rfl) (by decide) (by unfold maxLen;omega) (by omega) (by simp;omega) ?_;intro v' w3 hown3 hgrow3 hloc3;obtain⟨ao3,cap3,rfl,_,_,_,_,_⟩:=hown3.form;obtain⟨HF,cM3,fM3⟩:=ada_app HA.out HADD.out hown3 hgrow3 hloc3)
    (try simp only [Exit.inBlock,Exit.then])
    refine bodyPost_end (results_none rfl _ _ _) rfl ?_
    exact HF.out
end Stb
namespace Stb
open Rw Go.RowKit

def rws (s:St):Nat→List Mo
 |0=>s.lo
 |1=>s.hi
 |2=>s.gr.l
 |_=>s.sh.l
def pos:Nat→Nat
 |0=>9
 |1=>10
 |2=>11
 |_=>13
def num (s:St):Nat→Int
 |0=>s.u.w
 |1=>s.u.n
 |2=>s.u.c
 |3=>s.u.p
 |4=>s.d.w
 |5=>s.d.n
 |6=>s.d.c
 |7=>s.d.p
 |8=>s.last
 |12=>s.gr.s
 |_=>s.sh.s
def isNum (j:Nat):Prop:=j<9∨j=12∨j=14
def updV (V:Nat→Value) (i:Nat) (v:Value):Nat→Value:=fun j=>if j=i then v else V j
def blk (Q:Nat) (V:Nat→Value) (k:Nat):Prop:=k=Q∨ ∃i,i<4∧(V i).ownBlock=some k

structure SAt (w:World) (B Q O:Nat) (V:Nat→Value) (s:St):Prop where
 lt:Q<w.heap.size
 bQ:B≤Q
 fz: ∀j,w.frozen? ⟨Q,j,none⟩=false
 num: ∀j,isNum j→w.cell? ⟨Q,O+j,none⟩=some (.int .i64 (num s j))
 row: ∀i,i<4→w.cell? ⟨Q,O+pos i,none⟩=some (V i)
 own: ∀i,i<4→MOwn w B (V i) (rws s i)
 ne: ∀i,i<4→(V i).ownBlock≠some Q
 ap: ∀i j,i<4→j<4→i≠j→ ∀g,(V i).ownBlock=some g→(V j).ownBlock≠some g
structure Step (Q O:Nat) (V V':Nat→Value) (w w':World):Prop where
 os:w'.os=w.os
 tape:w'.tape=w.tape
 output:w'.output=w.output
 size:w.heap.size≤w'.heap.size
 block: ∀k,k<w.heap.size→ ¬blk Q V k→w'.heap[k]?=w.heap[k]?
 loc: ∀k,blk Q V' k→blk Q V k∨w.heap.size≤k
 cell: ∀j,(j<O∨O+15≤j)→w'.cell? ⟨Q,j,none⟩=w.cell? ⟨Q,j,none⟩
 fz: ∀j,w'.frozen? ⟨Q,j,none⟩=w.frozen? ⟨Q,j,none⟩
section
variable {w w' w'' : World} {B Q O : Nat} {V V' V'' : Nat → Value} {s s' : St}
theorem Step.refl (Q O:Nat) (V:Nat→Value) (w:World):Step Q O V V w w:=⟨rfl,rfl,rfl,Nat.le_refl _,fun _ _ _=>rfl,fun _ h=>Or.inl h,fun _ _=>rfl,fun _=>rfl⟩
theorem Step.trans (h:Step Q O V V' w w') (g:Step Q O V' V'' w' w''):Step Q O V V'' w w'':=by
 refine⟨g.os.trans h.os,g.tape.trans h.tape,g.output.trans h.output,Nat.le_trans h.size g.size,fun k hk hb=> ?_,fun k hk=> ?_,fun j hj=>(g.cell j hj).trans (h.cell j hj),fun j=>(g.fz j).trans (h.fz j)⟩
 ·refine(g.block k (Nat.lt_of_lt_of_le hk h.size) (fun e=> ?_)).trans (h.block k hk hb)
  rcases h.loc k e with a|a
  ·exact hb a
  ·omega
 ·rcases g.loc k hk with a|a
  ·exact h.loc k a
  ·exact Or.inr (Nat.le_trans h.size a)
theorem Step.of_below (hb:Below w.heap.size w w') (hQ:Q<w.heap.size):Step Q O V V w w':=⟨hb.os,hb.tape,hb.output,hb.size,fun k hk _=>hb.block k hk,fun _ h=>Or.inl h,fun j _=>World.cell?_of_block (a:=⟨Q,j,none⟩) (hb.block Q hQ),fun j=>World.frozen?_of_block (a:=⟨Q,j,none⟩) (hb.block Q hQ)⟩
theorem Step.drew (h:Step Q O V V' w w'):Step Q O V V' w w'.drew:=⟨h.os,h.tape,h.output,h.size,h.block,h.loc,h.cell,h.fz⟩
theorem Step.alloc (h:Step Q O V V' w w') (hQ:Q<w.heap.size) (o:Obj):Step Q O V V' w (w'.alloc o):=h.trans (Step.of_below ((Below.refl _ _).alloc (Nat.le_refl _) _) (Nat.lt_of_lt_of_le hQ h.size))
theorem SAt.blt (h:SAt w B Q O V s) {k:Nat} (hk:blk Q V k):B≤k∧k<w.heap.size:=by
 rcases hk with rfl|⟨i,hi,e⟩
 ·exact⟨h.bQ,h.lt⟩
 ·exact(h.own i hi).lt k e
theorem Step.below (h:Step Q O V V' w w') (hA:SAt w B Q O V s) (hB:B≤w.heap.size):Below B w w':=
 ⟨h.os,h.tape,h.output,h.size,fun k hk=>h.block k (by omega) (fun e=>by have:=(hA.blt e).1;omega)⟩
theorem SAt.kept (h:SAt w B Q O V s) (hb: ∀k,blk Q V k→w'.heap[k]?=w.heap[k]?):SAt w' B Q O V s:=by
 have hQ:=hb Q (Or.inl rfl)
 refine⟨?_,h.bQ,fun j=>(World.frozen?_of_block (a:=⟨Q,j,none⟩) hQ).trans (h.fz j),fun j hj=>(World.cell?_of_block (a:=⟨Q,O+j,none⟩) hQ).trans (h.num j hj),fun i hi=>(World.cell?_of_block (a:=⟨Q,O+pos i,none⟩) hQ).trans (h.row i hi),fun i hi=>Own.kept (h.own i hi) (fun g hg=>hb g (Or.inr ⟨i,hi,hg⟩)),h.ne,h.ap⟩
 have:=h.lt
 rw [Array.getElem?_eq_getElem this]at hQ
 exact(Array.getElem?_eq_some_iff.1 hQ).1
theorem SAt.below (h:SAt w B Q O V s) (hb:Below w.heap.size w w'):SAt w' B Q O V s:=h.kept (fun k hk=>hb.block k (h.blt hk).2)
theorem SAt.drew (h:SAt w B Q O V s):SAt w.drew B Q O V s:=h.kept (fun _ _=>rfl)
theorem SAt.alloc (h:SAt w B Q O V s) (o:Obj):SAt (w.alloc o) B Q O V s:=h.below ((Below.refl _ _).alloc (Nat.le_refl _) _)
theorem pos_num {i:Nat} (hi:i<4): ¬isNum (pos i):=by
 rcases(by omega:i=0∨i=1∨i=2∨i=3)with rfl|rfl|rfl|rfl<;>simp [pos,isNum]
theorem pos_lt (i:Nat):pos i<15:=by unfold pos;split<;>decide
theorem num_lt {j:Nat} (h:isNum j):j<15:=by unfold isNum at h;omega
theorem pos_inj {i j:Nat} (hi:i<4) (hj:j<4) (h:i≠j):pos i≠pos j:=by
 rcases(by omega:i=0∨i=1∨i=2∨i=3)with rfl|rfl|rfl|rfl<;>rcases(by omega:j=0∨j=1∨j=2∨j=3)with rfl|rfl|rfl|rfl<;>simp [pos]at h⊢
theorem SAt.upd (h:SAt w B Q O V s) (i:Nat) (hi:i<4) {J:Nat→Prop} (hJ: ∀j,J j→j=O+pos i∨ ∃n,isNum n∧j=O+n) (hw:Wr Q J (V i).ownBlock w w') {v':Value}
  (hrow:w'.cell? ⟨Q,O+pos i,none⟩=some v') (hown:MOwn w' B v' (rws s' i)) (hne:v'.ownBlock≠some Q) (hloc:v'.ownBlock=(V i).ownBlock∨ ∃g,v'.ownBlock=some g∧w.heap.size≤g)
  (hrest: ∀j,j<4→j≠i→rws s' j=rws s j) (hnum: ∀j,isNum j→w'.cell? ⟨Q,O+j,none⟩=some (.int .i64 (Stb.num s' j))):
  SAt w' B Q O (updV V i v') s'∧Step Q O V (updV V i v') w w':=by
 have hV: ∀j,j≠i→updV V i v' j=V j:=fun j hj=>by simp [updV,hj]
 have hVi:updV V i v' i=v':=by simp [updV]
 have hap: ∀j,j<4→j≠i→ ∀g,v'.ownBlock=some g→(V j).ownBlock≠some g:=by
  intro j hj hji g hg e
  rcases hloc with a|⟨x,a,b⟩
  ·rw [a]at hg;exact h.ap i j hi hj (Ne.symm hji) g hg e
  ·rw [a]at hg;cases hg;have:=((h.own j hj).lt _ e).2;omega
 refine⟨⟨Nat.lt_of_lt_of_le h.lt hw.size,h.bQ,fun j=>(hw.fz j).trans (h.fz j),hnum,fun j hj=> ?_,fun j hj=> ?_,fun j hj=> ?_,fun a b ha hb hab g hg=> ?_⟩,⟨hw.os,hw.tape,hw.output,hw.size,fun k hk hb=>hw.block k hk (fun e=>hb (Or.inl e)) (fun e=>hb (Or.inr ⟨i,hi,e.symm⟩)),fun k hk=> ?_,fun j hj=>hw.cell j (fun e=> ?_),hw.fz⟩⟩
 ·by_cases e:j=i
  ·subst e;rw [hVi];exact hrow
  ·rw [hV j e, hw.cell (O + pos j) (fun hh => by
    rcases hJ _ hh with a|⟨n,a,a'⟩
    ·exact pos_inj hj hi e (by omega)
    ·exact pos_num hj ((by omega:pos j=n)▸a))]
   exact h.row j hj
 ·by_cases e:j=i
  ·subst e;rw [hVi];exact hown
  ·rw [hV j e,hrest j hj e]
   refine own_wr (h.own j hj) hw (h.ne j hj) ?_
   cases hb:(V j).ownBlock with
   |none=>exact Or.inl rfl
   |some g=>exact Or.inr (fun e2=>h.ap j i hj hi e g hb e2.symm)
 ·by_cases e:j=i
  ·subst e;rw [hVi];exact hne
  ·rw [hV j e];exact h.ne j hj
 ·by_cases ea:a=i
  ·subst ea
   rw [hVi]at hg
   rw [hV b (Ne.symm hab)];exact hap b hb (Ne.symm hab) g hg
  ·rw [hV a ea]at hg
   by_cases eb:b=i
   ·subst eb;rw [hVi];exact fun e=>hap a ha ea g e hg
   ·rw [hV b eb];exact h.ap a b ha hb hab g hg
 ·rcases hk with rfl|⟨j,hj,e⟩
  ·exact Or.inl (Or.inl rfl)
  ·by_cases ej:j=i
   ·subst ej
    rw [hVi]at e
    rcases hloc with a|⟨x,a,b⟩
    ·exact Or.inl (Or.inr ⟨j,hj,by rw [←a];exact e⟩)
    ·rw [a]at e;cases e;exact Or.inr b
   ·rw [hV j ej]at e
    exact Or.inl (Or.inr ⟨j,hj,e⟩)
 ·have hp:=pos_lt i
  rcases hJ _ e with a|⟨n,a,a'⟩
  ·omega
  ·have:=num_lt a;omega
theorem SAt.setLast (h:SAt w B Q O V s) (x:Int):SAt (w.setCell ⟨Q,O+8,none⟩ (.int .i64 x)) B Q O V { s with last:=x } ∧Step Q O V V w (w.setCell ⟨Q,O+8,none⟩ (.int .i64 x)):=by
 have hw:Wr Q (fun j=>j=O+8) none w (w.setCell ⟨Q,O+8,none⟩ (.int .i64 x)):=(Wr.refl Q (fun j=>j=O+8) none w).set (j:=O+8) rfl _
 refine⟨⟨Nat.lt_of_lt_of_le h.lt hw.size,h.bQ,fun j=>(hw.fz j).trans (h.fz j),fun j hj=> ?_,fun i hi=>(hw.cell (O+pos i) (fun e=>pos_num hi (by rw [(by omega:pos i=8)];exact Or.inl (by decide)))).trans (h.row i hi),fun i hi=> ?_,h.ne,h.ap⟩,⟨hw.os,hw.tape,hw.output,hw.size,fun k hk hb=>hw.block k hk (fun e=>hb (Or.inl e)) (by simp),fun _ hk=>Or.inl hk,fun j hj=>hw.cell j (by omega),hw.fz⟩⟩
 ·by_cases e:j=8
  ·subst e;rw [World.cell?_setCell_same _ _ _ (h.num 8 (Or.inl (by decide)))];rfl
  ·rw [hw.cell (O+j) (by omega),h.num j hj]
   have:Stb.num { s with last:=x } j=Stb.num s j:=by
    rcases hj with hj|rfl|rfl
    ·rcases(by omega:j=0∨j=1∨j=2∨j=3∨j=4∨j=5∨j=6∨j=7)with rfl|rfl|rfl|rfl|rfl|rfl|rfl|rfl<;>rfl
    ·rfl
    ·rfl
   rw [this]
 ·have hr:rws { s with last:=x } i=rws s i:=by
   rcases(by omega:i=0∨i=1∨i=2∨i=3)with rfl|rfl|rfl|rfl<;>rfl
  rw [hr]
  exact own_set (h.own i hi) (h.ne i hi)
theorem SAt.talG (h:SAt w B Q O V s):TAt w B Q (O+11) (V 2) s.gr:=⟨h.lt,h.row 2 (by decide),h.num 12 (Or.inr (Or.inl rfl)),h.fz _,h.fz _,h.own 2 (by decide),h.ne 2 (by decide)⟩
theorem SAt.talS (h:SAt w B Q O V s):TAt w B Q (O+13) (V 3) s.sh:=⟨h.lt,h.row 3 (by decide),h.num 14 (Or.inr (Or.inr rfl)),h.fz _,h.fz _,h.own 3 (by decide),h.ne 3 (by decide)⟩
theorem num_cases {P:Nat→Prop} (h9: ∀j,j<9→P j) (h12:P 12) (h14:P 14): ∀j,isNum j→P j:=by
 intro j hj
 rcases hj with hj|rfl|rfl
 ·exact h9 j hj
 ·exact h12
 ·exact h14
theorem num9 (s:St) (gr sh:Ta) (lo hi:List Mo) (j:Nat) (hj:j<9):Stb.num { s with lo:=lo,hi:=hi,gr:=gr,sh:=sh } j=Stb.num s j:=by
 rcases(by omega:j=0∨j=1∨j=2∨j=3∨j=4∨j=5∨j=6∨j=7∨j=8)with rfl|rfl|rfl|rfl|rfl|rfl|rfl|rfl|rfl<;>rfl
theorem SAt.newG (h:SAt w B Q O V s) {v':Value} {T:Ta} (hT:TAt w' B Q (O+11) v' T) (hloc:v'.ownBlock=(V 2).ownBlock∨ ∃g,v'.ownBlock=some g∧w.heap.size≤g) (hw:Wr Q (fun j=>j=O+11∨j=O+11+1) (V 2).ownBlock w w'):
  SAt w' B Q O (updV V 2 v') { s with gr:=T } ∧Step Q O V (updV V 2 v') w w':=by
 refine h.upd 2 (by decide) (fun j hj=>hj.imp id (fun e=>⟨12,Or.inr (Or.inl rfl),e⟩)) hw hT.cM hT.own hT.ne hloc (fun j hj hne=> ?_) (num_cases (fun j hj=> ?_) ?_ ?_)
 ·rcases(by omega:j=0∨j=1∨j=2∨j=3)with rfl|rfl|rfl|rfl
  ·rfl
  ·rfl
  ·exact absurd rfl hne
  ·rfl
 ·rw [hw.cell (O+j) (by omega),h.num j (Or.inl hj)];exact congrArg (fun x=>some (Value.int .i64 x)) (num9 s T s.sh s.lo s.hi j hj).symm
 ·exact hT.cS
 ·rw [hw.cell (O+14) (by omega),h.num 14 (Or.inr (Or.inr rfl))];rfl
theorem SAt.newS (h:SAt w B Q O V s) {v':Value} {T:Ta} (hT:TAt w' B Q (O+13) v' T) (hloc:v'.ownBlock=(V 3).ownBlock∨ ∃g,v'.ownBlock=some g∧w.heap.size≤g) (hw:Wr Q (fun j=>j=O+13∨j=O+13+1) (V 3).ownBlock w w'):
  SAt w' B Q O (updV V 3 v') { s with sh:=T } ∧Step Q O V (updV V 3 v') w w':=by
 refine h.upd 3 (by decide) (fun j hj=>hj.imp id (fun e=>⟨14,Or.inr (Or.inr rfl),e⟩)) hw hT.cM hT.own hT.ne hloc (fun j hj hne=> ?_) (num_cases (fun j hj=> ?_) ?_ ?_)
 ·rcases(by omega:j=0∨j=1∨j=2∨j=3)with rfl|rfl|rfl|rfl
  ·rfl
  ·rfl
  ·rfl
  ·exact absurd rfl hne
 ·rw [hw.cell (O+j) (by omega),h.num j (Or.inl hj)];exact congrArg (fun x=>some (Value.int .i64 x)) (num9 s s.gr T s.lo s.hi j hj).symm
 ·rw [hw.cell (O+12) (by omega),h.num 12 (Or.inr (Or.inl rfl))];rfl
 ·exact hT.cS
theorem SAt.newL (h:SAt w B Q O V s) {v':Value} {L:List Mo} {r:Option Nat} (hr:r=(V 0).ownBlock) (hg:w.grownBy w' r) (hO:MOwn w' B v' L) (hloc:v'.ownBlock=(V 0).ownBlock∨ ∃g,v'.ownBlock=some g∧w.heap.size≤g):
  SAt (w'.setCell ⟨Q,O+9,none⟩ v') B Q O (updV V 0 v') { s with lo:=L } ∧Step Q O V (updV V 0 v') w (w'.setCell ⟨Q,O+9,none⟩ v')∧w'.cell? ⟨Q,O+9,none⟩=some (V 0)∧w'.frozen? ⟨Q,O+9,none⟩=false:=by
 subst hr
 have hw0:Wr Q (fun j=>j=O+9) (V 0).ownBlock w w':=Wr.grown hg h.lt (h.ne 0 (by decide))
 have hw:=hw0.set (j:=O+9) rfl v'
 have hQ:=hg.block Q h.lt (fun e=>h.ne 0 (by decide) e.symm)
 have c9:=(World.cell?_of_block (a:=⟨Q,O+9,none⟩) hQ).trans (h.row 0 (by decide))
 have hne:v'.ownBlock≠some Q:=by
  rcases hloc with a|⟨g,a,b⟩
  ·rw [a];exact h.ne 0 (by decide)
  ·rw [a];have:=h.lt;intro e;cases e;omega
 have := h.upd (s' := { s with lo := L }) 0 (by decide) (fun j hj => Or.inl hj) hw (World.cell?_setCell_same _ _ _ c9) (own_set hO hne) hne hloc (fun j hj hne => by
  rcases(by omega:j=0∨j=1∨j=2∨j=3)with rfl|rfl|rfl|rfl
  ·exact absurd rfl hne
  ·rfl
  ·rfl
  ·rfl) (num_cases (fun j hj=>by rw [hw.cell (O+j) (by omega),h.num j (Or.inl hj)];exact congrArg (fun x=>some (Value.int .i64 x)) (num9 s s.gr s.sh L s.hi j hj).symm) (by rw [hw.cell (O+12) (by omega),h.num 12 (Or.inr (Or.inl rfl))];rfl) (by rw [hw.cell (O+14) (by omega),h.num 14 (Or.inr (Or.inr rfl))];rfl))
 exact⟨this.1,this.2,c9,(World.frozen?_of_block (a:=⟨Q,O+9,none⟩) hQ).trans (h.fz (O+9))⟩
theorem SAt.newH (h:SAt w B Q O V s) {v':Value} {L:List Mo} {r:Option Nat} (hr:r=(V 1).ownBlock) (hg:w.grownBy w' r) (hO:MOwn w' B v' L) (hloc:v'.ownBlock=(V 1).ownBlock∨ ∃g,v'.ownBlock=some g∧w.heap.size≤g):
  SAt (w'.setCell ⟨Q,O+10,none⟩ v') B Q O (updV V 1 v') { s with hi:=L } ∧Step Q O V (updV V 1 v') w (w'.setCell ⟨Q,O+10,none⟩ v')∧w'.cell? ⟨Q,O+10,none⟩=some (V 1)∧w'.frozen? ⟨Q,O+10,none⟩=false:=by
 subst hr
 have hw0:Wr Q (fun j=>j=O+10) (V 1).ownBlock w w':=Wr.grown hg h.lt (h.ne 1 (by decide))
 have hw:=hw0.set (j:=O+10) rfl v'
 have hQ:=hg.block Q h.lt (fun e=>h.ne 1 (by decide) e.symm)
 have c9:=(World.cell?_of_block (a:=⟨Q,O+10,none⟩) hQ).trans (h.row 1 (by decide))
 have hne:v'.ownBlock≠some Q:=by
  rcases hloc with a|⟨g,a,b⟩
  ·rw [a];exact h.ne 1 (by decide)
  ·rw [a];have:=h.lt;intro e;cases e;omega
 have := h.upd (s' := { s with hi := L }) 1 (by decide) (fun j hj => Or.inl hj) hw (World.cell?_setCell_same _ _ _ c9) (own_set hO hne) hne hloc (fun j hj hne => by
  rcases(by omega:j=0∨j=1∨j=2∨j=3)with rfl|rfl|rfl|rfl
  ·rfl
  ·exact absurd rfl hne
  ·rfl
  ·rfl) (num_cases (fun j hj=>by rw [hw.cell (O+j) (by omega),h.num j (Or.inl hj)];exact congrArg (fun x=>some (Value.int .i64 x)) (num9 s s.gr s.sh s.lo L j hj).symm) (by rw [hw.cell (O+12) (by omega),h.num 12 (Or.inr (Or.inl rfl))];rfl) (by rw [hw.cell (O+14) (by omega),h.num 14 (Or.inr (Or.inr rfl))];rfl))
 exact⟨this.1,this.2,c9,(World.frozen?_of_block (a:=⟨Q,O+10,none⟩) hQ).trans (h.fz (O+10))⟩
end
end Stb
namespace Stb
open Rw Go.RowKit

def KnA (B Q O:Nat) (V:Nat→Value) (s:St) (now want:Int) (w:World) (e:Ending) (w':World):Prop:=
 e=.returned (.tuple #[])∧ ∃V',SAt w' B Q O V' (know s now want)∧Step Q O V V' w w'

def KnC (B Q O C:Nat) (V:Nat→Value) (s:St) (now want:Int) (w wx:World):Prop:=
 ∃V',SAt wx B Q O V' { s with lo:=fol (geq want) s.lo ⟨now,want⟩ } ∧Step Q O V V' w wx∧wx.cell? ⟨C,0,none⟩=some (.int .i64 want)∧ ¬blk Q V' C
theorem step_cell {Q O C:Nat} {V V':Nat→Value} {w w':World} {x:Value} (h:Step Q O V V' w w') (hc:w.cell? ⟨C,0,none⟩=some x) (hb: ¬blk Q V C):w'.cell? ⟨C,0,none⟩=some x∧ ¬blk Q V' C:=by
 have hl:=World.block_lt_of_cell? w _ hc
 refine⟨(World.cell?_of_block (a:=⟨C,0,none⟩) (h.block C hl hb)).trans hc,fun e=> ?_⟩
 rcases h.loc C e with a|a
 ·exact hb a
 ·simp only at hl;omega
theorem know_any (B Q O:Nat) (V:Nat→Value) (s:St) (now want:Int) (k:Nat) (w:World) (hA:SAt w B Q O V s) (hF:Fit s k) (hk:k≤1000000) (hB:B≤w.heap.size) (hl:s.last=now):
  Calls Tryz.prog 166 #[.pointer (some ⟨Q,O,none⟩),.int .i64 now,.int .i64 want] w (KnA B Q O V s now want w):=by
 have hlt:=hA.lt
 have l1:=hF.lol
 have l2:=hF.hil
 have hA1:=hA.alloc (.cells #[.int .i64 want] 3)
 have hS1:Step Q O V V w (w.alloc (.cells #[.int .i64 want] 3)):=(Step.refl Q O V w).alloc hlt _
 have hC1:(w.alloc (.cells #[.int .i64 want] 3)).cell? ⟨w.heap.size,0,none⟩=some (.int .i64 want):=by simp
 have hB1:B≤(w.alloc (.cells #[.int .i64 want] 3)).heap.size:=by simp;omega
 have hCb: ¬blk Q V w.heap.size:=fun e=>by have:=(hA.blt e).2;omega
 have hCl:w.heap.size<(w.alloc (.cells #[.int .i64 want] 3)).heap.size:=by simp
 go_enter Tryz.func166,Tryz.ntmps166
 go_upto_region 1 with fail
 generalize w.alloc (.cells #[.int .i64 want] 3)=w1 at*
 generalize w.heap.size=C at*
 go_cut [] (fun wx=>KnC B Q O C V s now want w wx)
 case first=>
  have c9:=hA1.row 0 (by decide)
  obtain⟨ao,cap,hv,-⟩:=(hA1.own 0 (by decide)).form
  simp only [pos]at c9
  rw [hv]at c9
  have f:=fol1_any B C (V 0) s.lo now want want w1.drew (hA1.drew.own 0 (by decide)) (by omega) hB1 hC1
  rw [hv]at f
  have HA1:Hid (SAt w1 B Q O V s):=hA1
  have HV:Hid (V 0=.slice ao (rws s 0).length cap):=hv
  have hQ1:=hA1.lt
  clear hA1 hA hv
  go_region_with (go_at_call 185;(with_reducible refine f.mono ?_);rintro e w2 ⟨v2,rfl,hO2,hg2,hl2⟩;obtain⟨ao2,cap2,rfl,-⟩:=hO2.form;rw [←HV.out]at hg2 hl2;obtain⟨hA2,hS2,c92,f92⟩:=HA1.out.drew.newL rfl hg2 hO2 hl2)
  all_goals
   have hS3:=(hS1.drew).trans hS2
   obtain⟨hC3,hb3⟩:=step_cell hS2 hC1 hCb
   have HG:Hid (KnC B Q O C V s now want w _):=⟨_,hA2,hS3,hC3,hb3⟩
   clear hA2 hS2 hS3 hC3 hb3
   go_wp2_with fail
   go_meet
   exact HG.out
 case rest=>
  obtain⟨V1,hA1,hS1,hC1,hCb⟩:=hcut
  have c9:=hA1.row 1 (by decide)
  obtain⟨ao,cap,hv,-⟩:=(hA1.own 1 (by decide)).form
  simp only [pos]at c9
  rw [hv]at c9
  have hBc:B≤wc.drew.heap.size:=Nat.le_trans hA1.bQ (Nat.le_of_lt hA1.lt)
  have f:=fol2_any B C (V1 1) s.hi now want want wc.drew (hA1.drew.own 1 (by decide)) (by omega) hBc hC1
  rw [hv]at f
  have HA1:Hid (SAt wc B Q O V1 { s with lo:=fol (geq want) s.lo ⟨now,want⟩ }):=hA1
  have HV:Hid (V1 1=.slice ao (rws { s with lo:=fol (geq want) s.lo ⟨now,want⟩ } 1).length cap):=hv
  have HS1:Hid (Step Q O V V1 w wc):=hS1
  have hQ1:=hA1.lt
  have HE:Hid (({ ({ s with lo:=fol (geq want) s.lo ⟨now,want⟩ } :St)with hi:=fol (leq want) s.hi ⟨now,want⟩ } :St)=know s now want):=by unfold Hid know;rw [←hl]
  clear hA1 hA hv hl hS1
  go_wp2_with fail
  go_region_with (go_at_call 185;(with_reducible refine f.mono ?_);rintro e w2 ⟨v2,rfl,hO2,hg2,hl2⟩;obtain⟨ao2,cap2,rfl,-⟩:=hO2.form;rw [←HV.out]at hg2 hl2;obtain⟨hA2,hS2,c92,f92⟩:=HA1.out.drew.newH rfl hg2 hO2 hl2)
  all_goals
   have hS3:=(HS1.out.drew).trans hS2
   rw [HE.out]at hA2
   have HG:Hid (KnA B Q O V s now want w (.returned (.tuple #[])) _):=⟨rfl,_,hA2,hS3⟩
   clear hA2 hS2 hS3
   go_wp2
   go_end0
   exact HG.out
end Stb
namespace Stb
open Rw Go.RowKit

def FoC (B Q O:Nat) (V:Nat→Value) (s:St) (w wx:World):Prop:= ∃V',SAt wx B Q O V' s∧Step Q O V V' w wx
def SfA (B Q O:Nat) (V:Nat→Value) (s:St) (now:Int) (w:World) (e:Ending) (w':World):Prop:=
 e=.returned (.tuple #[])∧ ∃V',SAt w' B Q O V' (forget s now)∧Step Q O V V' w w'
theorem grown_refl (w:World) (r:Option Nat):w.grownBy w r:=⟨rfl,rfl,rfl,Nat.le_refl _,fun _ _ _=>rfl⟩
theorem wrap_sub {x:Int} (h1: -9223372036854775808≤x) (h2:x≤9223372036854775807):IntKind.i64.wrap x=x:=by
 rw [IntKind.wrap_i64];omega
def fg1 (s:St) (now:Int):St:= { s with lo:=abv s.lo (now-s.u.w) }
def fg2 (s:St) (now:Int):St:= { s with hi:=abv s.hi (now-s.d.w) }
def fg3 (s:St) (now:Int):St:= { s with gr:=s.gr.forget (now-s.u.p) }
theorem sforget_any (B Q O:Nat) (V:Nat→Value) (s:St) (now:Int) (k:Nat) (w:World) (hA:SAt w B Q O V s) (hF:Fit s k) (hk:k≤1000000) (h0:0≤now) (h1:now≤1099511627776):
  Calls Tryz.prog 167 #[.pointer (some ⟨Q,O,none⟩),.int .i64 now] w (SfA B Q O V s now w):=by
 have l1:=hF.lol
 have l2:=hF.hil
 have uw:=hF.u.w
 have up:=hF.u.p
 have dw:=hF.d.w
 have dp:=hF.d.p
 have HFg:Hid (TaOk s.gr k):=hF.gr
 have HFs:Hid (TaOk s.sh k):=hF.sh
 clear hF
 go_enter Tryz.func167,Tryz.ntmps167
 go_upto_region 0 with fail
 go_cut [] (fun wx=>FoC B Q O V (fg1 s now) w wx)
 case first=>
  have c9:=hA.row 0 (by decide)
  have c0:=hA.num 0 (Or.inl (by decide))
  obtain⟨ao,cap,hv,-⟩:=(hA.own 0 (by decide)).form
  simp only [pos]at c9
  simp only [num,Nat.add_zero]at c0
  rw [hv]at c9
  have HW:Hid (IntKind.i64.wrap (now-s.u.w)=now-s.u.w):=wrap_sub (by omega) (by omega)
  have f:=above_any B (V 0) s.lo (IntKind.i64.wrap (now-s.u.w)) w.drew (hA.drew.own 0 (by decide)) (by omega)
  rw [hv]at f
  have HA:Hid (SAt w B Q O V (s)):=hA
  have HV:Hid (V 0=.slice ao (rws (s) 0).length cap):=hv
  have hQ:=hA.lt
  have f9:=hA.fz (O+9)
  clear hA hv
  go_region_with (go_at_call 188;(with_reducible refine f.mono ?_);rintro e w2 ⟨v2,rfl,hO2,hb2,h9⟩;have h8:=h9.symm;clear h9;subst h8;rw [HW.out]at hO2;obtain⟨ao2,cap2,rfl,-⟩:=hO2.form;rw [←HV.out]at hb2;obtain⟨hA2,hS2,c92,f92⟩:=HA.out.drew.newL rfl (grown_refl _ _) hO2 (Or.inl hb2))
  all_goals
   have HG:Hid (FoC B Q O V (fg1 s now) w _):=⟨_,hA2,(Step.refl Q O V w).drew.trans hS2⟩
   clear hA2 hS2
   go_wp2_with fail
   go_meet
   exact HG.out
 case rest=>
  obtain⟨V1,hA,hS1⟩:=hcut
  have HS1:Hid (Step Q O V V1 w wc):=hS1
  clear hS1
  go_upto_region 1 with fail
  go_cut [] (fun wx=>FoC B Q O V (fg2 (fg1 s now) now) w wx)
  case first=>
   have c9:=hA.row 1 (by decide)
   have c0:=hA.num 4 (Or.inl (by decide))
   obtain⟨ao,cap,hv,-⟩:=(hA.own 1 (by decide)).form
   simp only [pos]at c9
   simp only [num,fg1]at c0
   rw [hv]at c9
   have HW:Hid (IntKind.i64.wrap (now-s.d.w)=now-s.d.w):=wrap_sub (by omega) (by omega)
   have f:=above_any B (V1 1) s.hi (IntKind.i64.wrap (now-s.d.w)) wc.drew (hA.drew.own 1 (by decide)) (by omega)
   rw [hv]at f
   have HA:Hid (SAt wc B Q O V1 (fg1 s now)):=hA
   have HV:Hid (V1 1=.slice ao (rws (fg1 s now) 1).length cap):=hv
   have hQ:=hA.lt
   have f9:=hA.fz (O+10)
   clear hA hv
   go_region_with (go_at_call 188;(with_reducible refine f.mono ?_);rintro e w2 ⟨v2,rfl,hO2,hb2,h9⟩;have h8:=h9.symm;clear h9;subst h8;rw [HW.out]at hO2;obtain⟨ao2,cap2,rfl,-⟩:=hO2.form;rw [←HV.out]at hb2;obtain⟨hA2,hS2,c92,f92⟩:=HA.out.drew.newH rfl (grown_refl _ _) hO2 (Or.inl hb2))
   all_goals
    have HG:Hid (FoC B Q O V (fg2 (fg1 s now) now) w _):=⟨_,hA2,(HS1.out).drew.trans hS2⟩
    clear hA2 hS2
    go_wp2_with fail
    go_meet
    exact HG.out
  case rest=>
   obtain⟨V2,hA,hS2⟩:=hcut
   have HS2:Hid (Step Q O V V2 w wc):=hS2
   clear hS2
   go_upto_region 2 with fail
   go_cut [] (fun wx=>FoC B Q O V (fg3 (fg2 (fg1 s now) now) now) w wx)
   case first=>
    have c0:=hA.num 3 (Or.inl (by decide))
    simp only [num,fg1,fg2]at c0
    have HW:Hid (IntKind.i64.wrap (now-s.u.p)=now-s.u.p):=wrap_sub (by omega) (by omega)
    have f:=forget_any B Q (O+11) (V2 2) s.gr (IntKind.i64.wrap (now-s.u.p)) k wc.drew (hA.drew.talG) HFg.out hk
    have HA:Hid (SAt wc B Q O V2 (fg2 (fg1 s now) now)):=hA
    have hQ:=hA.lt
    clear hA
    go_region_with (go_at_call 189;(with_reducible refine f.mono ?_);rintro e w2 ⟨rfl,v2,hT2,hb2,hW2⟩;rw [HW.out]at hT2;obtain⟨hA2,hS2⟩:=HA.out.drew.newG hT2 (Or.inl hb2) (hW2.any _))
    all_goals
     have HG:Hid (FoC B Q O V (fg3 (fg2 (fg1 s now) now) now) w _):=⟨_,hA2,(HS2.out).drew.trans hS2⟩
     clear hA2 hS2
     go_wp2_with fail
     go_meet
     exact HG.out
   case rest=>
    obtain⟨V3,hA,hS3⟩:=hcut
    have HS3:Hid (Step Q O V V3 w wc):=hS3
    clear hS3
    go_upto_region 3 with fail
    have c0:=hA.num 7 (Or.inl (by decide))
    simp only [num,fg1,fg2,fg3]at c0
    have HW:Hid (IntKind.i64.wrap (now-s.d.p)=now-s.d.p):=wrap_sub (by omega) (by omega)
    have f:=forget_any B Q (O+13) (V3 3) s.sh (IntKind.i64.wrap (now-s.d.p)) k wc.drew (hA.drew.talS) HFs.out hk
    have HA:Hid (SAt wc B Q O V3 (fg3 (fg2 (fg1 s now) now) now)):=hA
    have hQ:=hA.lt
    clear hA
    go_region_with (go_at_call 189;(with_reducible refine f.mono ?_);rintro e w2 ⟨rfl,v2,hT2,hb2,hW2⟩;rw [HW.out]at hT2;obtain⟨hA2,hS2⟩:=HA.out.drew.newS hT2 (Or.inl hb2) (hW2.any _))
    all_goals
     have HG:Hid (SfA B Q O V s now w (.returned (.tuple #[])) _):=⟨rfl,_,hA2,(HS3.out).drew.trans hS2⟩
     clear hA2 hS2
     go_wp2
     go_end0
     exact HG.out
end Stb
namespace Stb
open Rw Go.RowKit Plain Num

def mb (n:Int):Bool:=decide (0≤n)&&decide (n≤50)
theorem mb_iff (n:Int):mb n=true↔0≤n∧n≤50:=by simp [mb]
theorem mayBe_any (n:Int) (w:World):Calls Tryz.prog 165 #[.int .i64 n] w fun e w'=>e=.returned (.bool (mb n))∧w'=w:=by
 by_cases h1:0≤n
 ·have d1:decide (0≤n)=true:=by simp [h1]
  have HM:Hid (mb n=decide (n≤50)):=by unfold Hid mb;rw [d1];rfl
  go_enter Tryz.func165,Tryz.ntmps165
  go_wp2
  go_ret
  exact⟨by rw [HM.out];rfl,rfl⟩
 ·have d1:decide (0≤n)=false:=by simp [h1]
  have HM:Hid (mb n=false):=by unfold Hid mb;rw [d1];rfl
  go_enter Tryz.func165,Tryz.ntmps165
  go_wp2
  go_ret
  exact⟨by rw [HM.out];rfl,rfl⟩
def pcV (p:Pc):Value:=.agg #[.int .i64 p.w,.int .i64 p.n,.int .i64 p.c,.int .i64 p.p]
theorem bounds_any (p:Pc) (w:World):Calls Tryz.prog 190 #[pcV p] w fun e w'=>e=.returned (.bool (bnd p))∧Below w.heap.size w w':=by
 obtain⟨pw,pn,pc,pp⟩:=p
 unfold pcV
 by_cases h1:pp=0
 ·have d1:(pp !=0)=false:=by simp [h1]
  have HM:Hid (bnd ⟨pw,pn,pc,pp⟩=false):=by unfold Hid bnd;rw [d1];rfl
  clear h1
  go_enter Tryz.func190,Tryz.ntmps190
  go_wp2
  go_ret
  exact⟨by rw [HM.out];rfl,(Below.refl _ _).alloc (Nat.le_refl _) _⟩
 ·have d1:(pp !=0)=true:=by simp [h1]
  by_cases h2:pn=0
  ·have d2:(pn !=0)=false:=by simp [h2]
   have HM:Hid (bnd ⟨pw,pn,pc,pp⟩=(pc !=0)):=by unfold Hid bnd;rw [d1,d2];rfl
   clear h1 h2
   go_enter Tryz.func190,Tryz.ntmps190
   go_wp2
   go_ret
   exact⟨by rw [HM.out];rfl,(Below.refl _ _).alloc (Nat.le_refl _) _⟩
  ·have d2:(pn !=0)=true:=by simp [h2]
   have HM:Hid (bnd ⟨pw,pn,pc,pp⟩=true):=by unfold Hid bnd;rw [d1,d2];rfl
   clear h1 h2
   go_enter Tryz.func190,Tryz.ntmps190
   go_wp2
   go_ret
   exact⟨by rw [HM.out];rfl,(Below.refl _ _).alloc (Nat.le_refl _) _⟩

def MoA (B Q O:Nat) (V:Nat→Value) (s':St) (n:Int) (w:World) (e:Ending) (w':World):Prop:=
 e=.returned (.int .i64 n)∧ ∃V',SAt w' B Q O V' s'∧Step Q O V V' w w'
theorem partU_bd (s:St) (b:Int) (h0:0≤b) (h1:0≤s.u.c):0≤partU s b∧partU s b≤1000000000000001:=by
 unfold partU
 have hm:0≤clip (mulc (clip b) (clip s.u.c)):=by
  have a:0≤clip b:=by unfold clip;repeat (first|omega|split)
  have c:0≤clip s.u.c:=by unfold clip;repeat (first|omega|split)
  have m:0≤clip b*clip s.u.c:=Int.mul_nonneg a c
  have m2:0≤mulc (clip b) (clip s.u.c):=by unfold mulc;generalize clip b*clip s.u.c=x at m;unfold clip;repeat (first|omega|split)
  generalize mulc (clip b) (clip s.u.c)=x at m2
  unfold clip;repeat (first|omega|split)
 have hb:=clip_bd (mulc (clip b) (clip s.u.c))
 have h100:clip 100=100:=by decide
 rw [h100]
 refine⟨?_,(up_bd _ 100 (by decide) hb).2⟩
 have:=(up_ok (clip (mulc (clip b) (clip s.u.c))) 100 (by decide)).1
 omega
theorem partD_bd (s:St) (b:Int) (_h0:0≤b) (_h1:0≤s.d.c):0≤partD s b∧partD s b≤1000000000000001:=by
 unfold partD share
 have ha:=atz_bd _ (clip_bd b)
 have hm:=atz_bd _ (clip_bd (10*s.d.c))
 have hp:0≤atz (clip b)*atz (clip (10*s.d.c)):=Int.mul_nonneg ha.1 hm.1
 have hq:0≤atz (clip b)*atz (clip (10*s.d.c))/1000:=Int.ediv_nonneg hp (by decide)
 generalize atz (clip b)*atz (clip (10*s.d.c))/1000=x at hq
 have:=clip_bd x
 refine⟨?_,by omega⟩
 unfold clip;repeat (first|omega|split)
theorem more_any (B Q O:Nat) (V:Nat→Value) (s:St) (now hv want:Int) (k:Nat) (w:World) (hA:SAt w B Q O V s) (hF:Fit s k) (hk:k≤1000000) (h0:0≤hv∧hv≤50) (h1:0≤want∧want≤50):
  Calls Tryz.prog 168 #[.pointer (some ⟨Q,O,none⟩),.int .i64 now,.int .i64 hv,.int .i64 want] w (MoA B Q O V (more s now hv want) (nU s hv want) w):=by
 have hnb:=nU_bd hF h0 h1
 have hhd:=hd_bd hF.lo h1
 have hgs:=hF.gr.ge
 have hgl:=hF.gr.le
 have un:=hF.u.n
 have uc:=hF.u.c
 have c9:=hA.row 0 (by decide)
 simp only [pos]at c9
 obtain⟨ao,cap,hvv,hc1,hc2,hao,-⟩:=(hA.own 0 (by decide)).form
 rw [hvv]at c9
 have k0:=hA.num 0 (Or.inl (by decide))
 have k1:=hA.num 1 (Or.inl (by decide))
 have k2:=hA.num 2 (Or.inl (by decide))
 have k3:=hA.num 3 (Or.inl (by decide))
 simp only [num,Nat.add_zero]at k0 k1 k2 k3
 have hQ:=hA.lt
 have cB:=fun w=>bounds_any s.u w
 unfold pcV at cB
 have hO:=hA.own 0 (by decide)
 rw [hvv]at hO
 have HA:Hid (SAt w B Q O V s):=hA
 have HT:Hid (TaOk s.gr k):=hF.gr
 have hll:(rws s 0).length=s.lo.length:=rfl
 obtain⟨n0,hn0⟩: ∃n0,hd s.lo want=n0:=⟨_,rfl⟩
 rw [hn0]at hhd
 obtain⟨N,hN⟩: ∃N,nU s hv want=N:=⟨_,rfl⟩
 rw [hN]at hnb⊢
 have hBw:B≤w.heap.size:=Nat.le_trans hA.bQ (Nat.le_of_lt hQ)
 clear hvv hA hF
 by_cases hl: ¬0<s.lo.length
 ·have hq: ¬(0:Int)<((rws s 0).length:Int):=by omega
  have hw0:want=n0:=by
   cases hx:s.lo with
   |nil=>rw [hx]at hn0;exact hn0
   |cons a b=>rw [hx]at hl;simp at hl
  subst hw0
  clear hO hao
  cases hb:bnd s.u
  ·have hfold:max want hv=N:=by rw [←hN];simp only [nU,hb,hn0];rfl
   have hfold2:(if want<hv then hv else want)=N:=by rw [←hfold];split<;>omega
   clear hfold
   have HE:Hid (more s now hv want=s):=by unfold Hid more;rw [hb];rfl
   rw [hb]at cB
   clear hN hn0 hll
   go_enter Tryz.func168,Tryz.ntmps168
   go_wp2_with(go_at_call 190;(with_reducible refine(cB _).mono ?_);rintro e wb ⟨rfl,hbb⟩)
   go_ret
   exact⟨rfl,V,by rw [HE.out];exact HA.out.below hbb,Step.of_below hbb hQ⟩
  ·obtain⟨b,hbb⟩: ∃b,max (hv-s.gr.s) 0=b:=⟨_,rfl⟩
   obtain⟨pt,hpt⟩: ∃pt,partU s b=pt:=⟨_,rfl⟩
   have hb0:0≤b∧b≤60000000:=by omega
   have hpb:0≤pt∧pt≤1000000000000001:=by rw [←hpt];exact partU_bd s _ (by omega) (by omega)
   obtain⟨q,hq'⟩: ∃q,max s.u.n pt=q:=⟨_,rfl⟩
   have hqb:0≤q∧q≤1000000000000001:=by omega
   obtain⟨r,hr⟩: ∃r,min want (b+q)=r:=⟨_,rfl⟩
   have hfold:max r hv=N:=by rw [←hN,←hr,←hq',←hpt,←hbb];simp only [nU,baseU,hb,hn0,if_true]
   have e2:(if s.u.n<pt then pt else s.u.n)=q:=by rw [←hq'];split<;>omega
   have e3:(if b+q<want then b+q else want)=r:=by rw [←hr];split<;>omega
   have e4:(if r<hv then hv else r)=N:=by rw [←hfold];split<;>omega
   have e1:(if hv-s.gr.s<0 then(0:Int)else hv-s.gr.s)=b:=by rw [←hbb];split<;>omega
   have HE:Hid (more s now hv want= { s with gr:=s.gr.add now (N-hv) }):=by unfold Hid more;rw [hb,hN];rfl
   clear hq' hr hfold hbb
   obtain⟨x,hx⟩: ∃x,mulc (clip b) (clip s.u.c)=x:=⟨_,rfl⟩
   have cM:=fun w=>mul_any b s.u.c w
   have cC:=fun w=>ceil_yes x 100 w (by decide)
   rw [hx]at cM
   have hpt':up (clip x) (clip 100)=pt:=by rw [←hx];exact hpt
   rw [hpt']at cC
   clear hpt hpt' hx
   rw [hb]at cB
   clear hN hn0 hll
   go_enter Tryz.func168,Tryz.ntmps168
   go_wp2_with (first
    |(go_at_call 190;(with_reducible refine(cB _).mono ?_);rintro e wb ⟨rfl,hbb⟩;have hAb:=HA.out.below hbb;have j1:=hAb.num 1 (Or.inl (by decide));have j2:=hAb.num 2 (Or.inl (by decide));have jt:=hAb.num 12 (Or.inr (Or.inl rfl));simp only [num]at j1 j2 jt;have HB:Hid (SAt wb B Q O V s):=hAb;have HSb:Hid (Step Q O V V w wb):=Step.of_below hbb hQ;have hBb:B≤wb.heap.size:=Nat.le_trans hBw hbb.size;clear hAb hbb)
    |(go_at_call 192;(with_reducible refine(cM _).mono ?_);rintro e w2 ⟨rfl,h9⟩;have h8:=h9.symm;clear h9;subst h8)
    |(go_at_call 191;(with_reducible refine(cC _).mono ?_);rintro e w2 ⟨rfl,h9⟩;have h8:=h9.symm;clear h9;subst h8)
    |(go_at_call 193;(with_reducible refine(add_any B Q (O+11) (V 2) s.gr now (N-hv) k _ HB.out.talG HT.out hk (by omega) (by omega) hBb).mono ?_);rintro e w2 ⟨rfl,v2,hT2,hl2,hW2⟩;obtain⟨hA2,hS2⟩:=HB.out.newG hT2 hl2 hW2;rw [←HE.out]at hA2;have HF:Hid (∃V',SAt w2 B Q O V' (more s now hv want)∧Step Q O V V' w w2):=⟨_,hA2,HSb.out.trans hS2⟩;clear hT2 hl2 hW2 hA2 hS2))
   go_ret
   exact⟨rfl,HF.out⟩
 ·have hl':0<s.lo.length:=by omega
  have hq:(0:Int)<((rws s 0).length:Int):=by omega
  obtain⟨g,off,rfl⟩:=hao (by omega)
  obtain⟨m,hm,hmp⟩: ∃m,s.lo[0]?=some m∧m.p=n0:=by
   cases hx:s.lo with
   |nil=>rw [hx]at hl';simp at hl'
   |cons a b=>rw [hx]at hn0;exact⟨a,rfl,hn0⟩
  obtain⟨e0,e1,-,-,hg⟩:=own_mo hO rfl (i:=0) hm
  simp only [Nat.zero_mul,Nat.add_zero]at e0 e1
  rw [hmp]at e1
  clear hO hao
  cases hb:bnd s.u
  ·have hfold:max n0 hv=N:=by rw [←hN];simp only [nU,hb,hn0];rfl
   have hfold2:(if n0<hv then hv else n0)=N:=by rw [←hfold];split<;>omega
   clear hfold
   have HE:Hid (more s now hv want=s):=by unfold Hid more;rw [hb];rfl
   rw [hb]at cB
   clear hN hn0 hll
   go_enter Tryz.func168,Tryz.ntmps168
   go_wp2_with(go_at_call 190;(with_reducible refine(cB _).mono ?_);rintro e wb ⟨rfl,hbb⟩)
   go_ret
   exact⟨rfl,V,by rw [HE.out];exact HA.out.below hbb,Step.of_below hbb hQ⟩
  ·obtain⟨b,hbb⟩: ∃b,max (hv-s.gr.s) 0=b:=⟨_,rfl⟩
   obtain⟨pt,hpt⟩: ∃pt,partU s b=pt:=⟨_,rfl⟩
   have hb0:0≤b∧b≤60000000:=by omega
   have hpb:0≤pt∧pt≤1000000000000001:=by rw [←hpt];exact partU_bd s _ (by omega) (by omega)
   obtain⟨q,hq'⟩: ∃q,max s.u.n pt=q:=⟨_,rfl⟩
   have hqb:0≤q∧q≤1000000000000001:=by omega
   obtain⟨r,hr⟩: ∃r,min n0 (b+q)=r:=⟨_,rfl⟩
   have hfold:max r hv=N:=by rw [←hN,←hr,←hq',←hpt,←hbb];simp only [nU,baseU,hb,hn0,if_true]
   have e2:(if s.u.n<pt then pt else s.u.n)=q:=by rw [←hq'];split<;>omega
   have e3:(if b+q<n0 then b+q else n0)=r:=by rw [←hr];split<;>omega
   have e4:(if r<hv then hv else r)=N:=by rw [←hfold];split<;>omega
   have e1:(if hv-s.gr.s<0 then(0:Int)else hv-s.gr.s)=b:=by rw [←hbb];split<;>omega
   have HE:Hid (more s now hv want= { s with gr:=s.gr.add now (N-hv) }):=by unfold Hid more;rw [hb,hN];rfl
   clear hq' hr hfold hbb
   obtain⟨x,hx⟩: ∃x,mulc (clip b) (clip s.u.c)=x:=⟨_,rfl⟩
   have cM:=fun w=>mul_any b s.u.c w
   have cC:=fun w=>ceil_yes x 100 w (by decide)
   rw [hx]at cM
   have hpt':up (clip x) (clip 100)=pt:=by rw [←hx];exact hpt
   rw [hpt']at cC
   clear hpt hpt' hx
   rw [hb]at cB
   clear hN hn0 hll
   go_enter Tryz.func168,Tryz.ntmps168
   go_wp2_with (first
    |(go_at_call 190;(with_reducible refine(cB _).mono ?_);rintro e wb ⟨rfl,hbb⟩;have hAb:=HA.out.below hbb;have j1:=hAb.num 1 (Or.inl (by decide));have j2:=hAb.num 2 (Or.inl (by decide));have jt:=hAb.num 12 (Or.inr (Or.inl rfl));simp only [num]at j1 j2 jt;have HB:Hid (SAt wb B Q O V s):=hAb;have HSb:Hid (Step Q O V V w wb):=Step.of_below hbb hQ;have hBb:B≤wb.heap.size:=Nat.le_trans hBw hbb.size;clear hAb hbb)
    |(go_at_call 192;(with_reducible refine(cM _).mono ?_);rintro e w2 ⟨rfl,h9⟩;have h8:=h9.symm;clear h9;subst h8)
    |(go_at_call 191;(with_reducible refine(cC _).mono ?_);rintro e w2 ⟨rfl,h9⟩;have h8:=h9.symm;clear h9;subst h8)
    |(go_at_call 193;(with_reducible refine(add_any B Q (O+11) (V 2) s.gr now (N-hv) k _ HB.out.talG HT.out hk (by omega) (by omega) hBb).mono ?_);rintro e w2 ⟨rfl,v2,hT2,hl2,hW2⟩;obtain⟨hA2,hS2⟩:=HB.out.newG hT2 hl2 hW2;rw [←HE.out]at hA2;have HF:Hid (∃V',SAt w2 B Q O V' (more s now hv want)∧Step Q O V V' w w2):=⟨_,hA2,HSb.out.trans hS2⟩;clear hT2 hl2 hW2 hA2 hS2))
   go_ret
   exact⟨rfl,HF.out⟩
theorem fewer_any (B Q O:Nat) (V:Nat→Value) (s:St) (now hv want:Int) (k:Nat) (w:World) (hA:SAt w B Q O V s) (hF:Fit s k) (hk:k≤1000000) (h0:0≤hv∧hv≤50) (h1:0≤want∧want≤50):
  Calls Tryz.prog 169 #[.pointer (some ⟨Q,O,none⟩),.int .i64 now,.int .i64 hv,.int .i64 want] w (MoA B Q O V (fewer s now hv want) (nD s hv want) w):=by
 have hnb:=nD_bd hF h0 h1
 have hhd:=hd_bd hF.hi h1
 have hgs:=hF.sh.ge
 have hgl:=hF.sh.le
 have un:=hF.d.n
 have uc:=hF.d.c
 have c9:=hA.row 1 (by decide)
 simp only [pos]at c9
 obtain⟨ao,cap,hvv,hc1,hc2,hao,-⟩:=(hA.own 1 (by decide)).form
 rw [hvv]at c9
 have k0:=hA.num 4 (Or.inl (by decide))
 have k1:=hA.num 5 (Or.inl (by decide))
 have k2:=hA.num 6 (Or.inl (by decide))
 have k3:=hA.num 7 (Or.inl (by decide))
 simp only [num]at k0 k1 k2 k3
 have hQ:=hA.lt
 have cB:=fun w=>bounds_any s.d w
 unfold pcV at cB
 have hO:=hA.own 1 (by decide)
 rw [hvv]at hO
 have HA:Hid (SAt w B Q O V s):=hA
 have HT:Hid (TaOk s.sh k):=hF.sh
 have hll:(rws s 1).length=s.hi.length:=rfl
 obtain⟨n0,hn0⟩: ∃n0,hd s.hi want=n0:=⟨_,rfl⟩
 rw [hn0]at hhd
 obtain⟨N,hN⟩: ∃N,nD s hv want=N:=⟨_,rfl⟩
 rw [hN]at hnb⊢
 have hBw:B≤w.heap.size:=Nat.le_trans hA.bQ (Nat.le_of_lt hQ)
 clear hvv hA hF
 by_cases hl: ¬0<s.hi.length
 ·have hq: ¬(0:Int)<((rws s 1).length:Int):=by omega
  have hw0:want=n0:=by
   cases hx:s.hi with
   |nil=>rw [hx]at hn0;exact hn0
   |cons a b=>rw [hx]at hl;simp at hl
  subst hw0
  clear hO hao
  cases hb:bnd s.d
  ·have hfold:min want hv=N:=by rw [←hN];simp only [nD,hb,hn0];rfl
   have hfold2:(if hv<want then hv else want)=N:=by rw [←hfold];split<;>omega
   clear hfold
   have HE:Hid (fewer s now hv want=s):=by unfold Hid fewer;rw [hb];rfl
   rw [hb]at cB
   clear hN hn0 hll
   go_enter Tryz.func169,Tryz.ntmps169
   go_wp2_with(go_at_call 190;(with_reducible refine(cB _).mono ?_);rintro e wb ⟨rfl,hbb⟩)
   go_ret
   exact⟨rfl,V,by rw [HE.out];exact HA.out.below hbb,Step.of_below hbb hQ⟩
  ·obtain⟨b,hbb⟩: ∃b,hv+s.sh.s=b:=⟨_,rfl⟩
   obtain⟨pt,hpt⟩: ∃pt,partD s b=pt:=⟨_,rfl⟩
   have hb0:0≤b∧b≤60000000:=by omega
   have hpb:0≤pt∧pt≤1000000000000001:=by rw [←hpt];exact partD_bd s _ (by omega) (by omega)
   obtain⟨q,hq'⟩: ∃q,max s.d.n pt=q:=⟨_,rfl⟩
   have hqb:0≤q∧q≤1000000000000001:=by omega
   obtain⟨r,hr⟩: ∃r,max want (b-q)=r:=⟨_,rfl⟩
   have hfold:min r hv=N:=by rw [←hN,←hr,←hq',←hpt,←hbb];simp only [nD,hb,hn0,if_true]
   have e2:(if s.d.n<pt then pt else s.d.n)=q:=by rw [←hq'];split<;>omega
   have e3:(if want<b-q then b-q else want)=r:=by rw [←hr];split<;>omega
   have e4:(if hv<r then hv else r)=N:=by rw [←hfold];split<;>omega
   have e1:hv+s.sh.s=b:=hbb
   have HE:Hid (fewer s now hv want= { s with sh:=s.sh.add now (hv-N) }):=by unfold Hid fewer;rw [hb,hN];rfl
   clear hq' hr hfold hbb
   have cS:=fun w=>share_any b (10*s.d.c) w
   have hpt':share (atz (clip b)) (atz (clip (10*s.d.c)))=pt:=hpt
   rw [hpt']at cS
   clear hpt hpt'
   rw [hb]at cB
   clear hN hn0 hll
   go_enter Tryz.func169,Tryz.ntmps169
   go_wp2_with (first
    |(go_at_call 190;(with_reducible refine(cB _).mono ?_);rintro e wb ⟨rfl,hbb⟩;have hAb:=HA.out.below hbb;have j1:=hAb.num 5 (Or.inl (by decide));have j2:=hAb.num 6 (Or.inl (by decide));have jt:=hAb.num 14 (Or.inr (Or.inr rfl));simp only [num]at j1 j2 jt;have HB:Hid (SAt wb B Q O V s):=hAb;have HSb:Hid (Step Q O V V w wb):=Step.of_below hbb hQ;have hBb:B≤wb.heap.size:=Nat.le_trans hBw hbb.size;clear hAb hbb)
    |(go_at_call 194;(with_reducible refine(cS _).mono ?_);rintro e w2 ⟨rfl,h9⟩;have h8:=h9.symm;clear h9;subst h8)
    |(go_at_call 193;(with_reducible refine(add_any B Q (O+13) (V 3) s.sh now (hv-N) k _ HB.out.talS HT.out hk (by omega) (by omega) hBb).mono ?_);rintro e w2 ⟨rfl,v2,hT2,hl2,hW2⟩;obtain⟨hA2,hS2⟩:=HB.out.newS hT2 hl2 hW2;rw [←HE.out]at hA2;have HF:Hid (∃V',SAt w2 B Q O V' (fewer s now hv want)∧Step Q O V V' w w2):=⟨_,hA2,HSb.out.trans hS2⟩;clear hT2 hl2 hW2 hA2 hS2))
   go_ret
   exact⟨rfl,HF.out⟩
 ·have hl':0<s.hi.length:=by omega
  have hq:(0:Int)<((rws s 1).length:Int):=by omega
  obtain⟨g,off,rfl⟩:=hao (by omega)
  obtain⟨m,hm,hmp⟩: ∃m,s.hi[0]?=some m∧m.p=n0:=by
   cases hx:s.hi with
   |nil=>rw [hx]at hl';simp at hl'
   |cons a b=>rw [hx]at hn0;exact⟨a,rfl,hn0⟩
  obtain⟨e0,e1,-,-,hg⟩:=own_mo hO rfl (i:=0) hm
  simp only [Nat.zero_mul,Nat.add_zero]at e0 e1
  rw [hmp]at e1
  clear hO hao
  cases hb:bnd s.d
  ·have hfold:min n0 hv=N:=by rw [←hN];simp only [nD,hb,hn0];rfl
   have hfold2:(if hv<n0 then hv else n0)=N:=by rw [←hfold];split<;>omega
   clear hfold
   have HE:Hid (fewer s now hv want=s):=by unfold Hid fewer;rw [hb];rfl
   rw [hb]at cB
   clear hN hn0 hll
   go_enter Tryz.func169,Tryz.ntmps169
   go_wp2_with(go_at_call 190;(with_reducible refine(cB _).mono ?_);rintro e wb ⟨rfl,hbb⟩)
   go_ret
   exact⟨rfl,V,by rw [HE.out];exact HA.out.below hbb,Step.of_below hbb hQ⟩
  ·obtain⟨b,hbb⟩: ∃b,hv+s.sh.s=b:=⟨_,rfl⟩
   obtain⟨pt,hpt⟩: ∃pt,partD s b=pt:=⟨_,rfl⟩
   have hb0:0≤b∧b≤60000000:=by omega
   have hpb:0≤pt∧pt≤1000000000000001:=by rw [←hpt];exact partD_bd s _ (by omega) (by omega)
   obtain⟨q,hq'⟩: ∃q,max s.d.n pt=q:=⟨_,rfl⟩
   have hqb:0≤q∧q≤1000000000000001:=by omega
   obtain⟨r,hr⟩: ∃r,max n0 (b-q)=r:=⟨_,rfl⟩
   have hfold:min r hv=N:=by rw [←hN,←hr,←hq',←hpt,←hbb];simp only [nD,hb,hn0,if_true]
   have e2:(if s.d.n<pt then pt else s.d.n)=q:=by rw [←hq'];split<;>omega
   have e3:(if n0<b-q then b-q else n0)=r:=by rw [←hr];split<;>omega
   have e4:(if hv<r then hv else r)=N:=by rw [←hfold];split<;>omega
   have e1:hv+s.sh.s=b:=hbb
   have HE:Hid (fewer s now hv want= { s with sh:=s.sh.add now (hv-N) }):=by unfold Hid fewer;rw [hb,hN];rfl
   clear hq' hr hfold hbb
   have cS:=fun w=>share_any b (10*s.d.c) w
   have hpt':share (atz (clip b)) (atz (clip (10*s.d.c)))=pt:=hpt
   rw [hpt']at cS
   clear hpt hpt'
   rw [hb]at cB
   clear hN hn0 hll
   go_enter Tryz.func169,Tryz.ntmps169
   go_wp2_with (first
    |(go_at_call 190;(with_reducible refine(cB _).mono ?_);rintro e wb ⟨rfl,hbb⟩;have hAb:=HA.out.below hbb;have j1:=hAb.num 5 (Or.inl (by decide));have j2:=hAb.num 6 (Or.inl (by decide));have jt:=hAb.num 14 (Or.inr (Or.inr rfl));simp only [num]at j1 j2 jt;have HB:Hid (SAt wb B Q O V s):=hAb;have HSb:Hid (Step Q O V V w wb):=Step.of_below hbb hQ;have hBb:B≤wb.heap.size:=Nat.le_trans hBw hbb.size;clear hAb hbb)
    |(go_at_call 194;(with_reducible refine(cS _).mono ?_);rintro e w2 ⟨rfl,h9⟩;have h8:=h9.symm;clear h9;subst h8)
    |(go_at_call 193;(with_reducible refine(add_any B Q (O+13) (V 3) s.sh now (hv-N) k _ HB.out.talS HT.out hk (by omega) (by omega) hBb).mono ?_);rintro e w2 ⟨rfl,v2,hT2,hl2,hW2⟩;obtain⟨hA2,hS2⟩:=HB.out.newS hT2 hl2 hW2;rw [←HE.out]at hA2;have HF:Hid (∃V',SAt w2 B Q O V' (fewer s now hv want)∧Step Q O V V' w w2):=⟨_,hA2,HSb.out.trans hS2⟩;clear hT2 hl2 hW2 hA2 hS2))
   go_ret
   exact⟨rfl,HF.out⟩
end Stb
namespace Stb
open Rw Go.RowKit

def SeA (B Q O:Nat) (V:Nat→Value) (s:St) (now hv want:Int) (w:World) (e:Ending) (w':World):Prop:=
 e=.returned (.tuple #[.int .i64 (setN s now hv want),.int .i64 (setE s now hv want)])∧ ∃V',SAt w' B Q O V' (setS s now hv want)∧Step Q O V V' w w'
theorem sea_no {B Q O:Nat} {V:Nat→Value} {s:St} {now hv want:Int} {w:World} (hA:SAt w B Q O V s) (h: ¬(s.last≤now∧now≤1099511627776∧0≤hv∧hv≤50∧0≤want∧want≤50)):SeA B Q O V s now hv want w (.returned (.tuple #[.int .i64 0,.int .i64 1])) w:=by
 have ho:okArg s.last now hv want=false:=by simp only [okArg,decide_eq_false_iff_not];exact h
 refine⟨?_,V,?_,Step.refl _ _ _ _⟩
 ·simp [setN,setE,ho]
 ·simpa [setS,ho]using hA
theorem set_no (B Q O:Nat) (V:Nat→Value) (s:St) (now hv want:Int) (w:World) (hA:SAt w B Q O V s) (h: ¬(s.last≤now∧now≤1099511627776∧0≤hv∧hv≤50∧0≤want∧want≤50)):
  Calls Tryz.prog 136 #[.pointer (some ⟨Q,O,none⟩),.int .i64 now,.int .i64 hv,.int .i64 want] w (SeA B Q O V s now hv want w):=by
 have HN:Hid (SeA B Q O V s now hv want w (.returned (.tuple #[.int .i64 0,.int .i64 1])) w):=sea_no hA h
 have k8:=hA.num 8 (Or.inl (by decide))
 simp only [num]at k8
 have hQ:=hA.lt
 have m1:=fun w=>mayBe_any hv w
 have m2:=fun w=>mayBe_any want w
 by_cases h1:now<s.last
 ·clear h hA
  go_enter Tryz.func136,Tryz.ntmps136
  go_wp2
  go_ret2
  exact HN.out
 ·by_cases h2:1099511627776<now
  ·clear h hA
   go_enter Tryz.func136,Tryz.ntmps136
   go_wp2
   go_ret2
   exact HN.out
  ·cases h3:mb hv
   ·rw [h3]at m1
    clear h hA
    go_enter Tryz.func136,Tryz.ntmps136
    go_wp2_with(go_at_call 165;(with_reducible refine(m1 _).mono ?_);rintro e w2 ⟨rfl,h9⟩;have h8:=h9.symm;clear h9;subst h8)
    go_ret2
    exact HN.out
   ·cases h4:mb want
    ·have hne:hv≠want:=fun e=>by rw [e,h4]at h3;cases h3
     rw [h3]at m1
     rw [h4]at m2
     clear h hA
     go_enter Tryz.func136,Tryz.ntmps136
     go_wp2_with (first
      |(go_at_call 165;(with_reducible refine(m1 _).mono ?_);rintro e w2 ⟨rfl,h9⟩;have h8:=h9.symm;clear h9;subst h8)
      |(go_at_call 165;(with_reducible refine(m2 _).mono ?_);rintro e w2 ⟨rfl,h9⟩;have h8:=h9.symm;clear h9;subst h8))
     go_ret2
     exact HN.out
    ·exfalso
     rw [mb_iff]at h3 h4
     exact h ⟨by omega,by omega,h3.1,h3.2,h4.1,h4.2⟩
theorem set_yes (B Q O:Nat) (V:Nat→Value) (s:St) (now hv want:Int) (k:Nat) (w:World) (hA:SAt w B Q O V s) (hF:Fit s k) (hk:k≤900000) (h1:s.last≤now) (h2:now≤1099511627776) (h3:0≤hv∧hv≤50) (h4:0≤want∧want≤50):
  Calls Tryz.prog 136 #[.pointer (some ⟨Q,O,none⟩),.int .i64 now,.int .i64 hv,.int .i64 want] w (SeA B Q O V s now hv want w):=by
 have ho:okArg s.last now hv want=true:=by simp only [okArg,decide_eq_true_eq];omega
 have hl0:=hF.last
 have k8:=hA.num 8 (Or.inl (by decide))
 simp only [num]at k8
 have hQ:=hA.lt
 have f8:=hA.fz (O+8)
 have m1:=fun w=>mayBe_any hv w
 have m2:=fun w=>mayBe_any want w
 rw [(mb_iff hv).2 h3]at m1
 rw [(mb_iff want).2 h4]at m2
 have hn1: ¬now<s.last:=by omega
 have hn2: ¬1099511627776<now:=by omega
 obtain⟨hA1,hS1⟩:=hA.setLast now
 have hF1:Fit { s with last:=now } k:= { hF with last:=⟨show 0≤now by omega,h2⟩ }
 have hB1:B≤(w.setCell ⟨Q,O+8,none⟩ (.int .i64 now)).heap.size:=Nat.le_trans hA1.bQ (Nat.le_of_lt hA1.lt)
 have cK:=know_any B Q O V { s with last:=now } now want k _ hA1 hF1 (by omega) hB1 rfl
 have hF2:Fit (know s now want) (k+1):=hF.know ⟨by omega,h2⟩ h4
 have hF3:Fit (forget (know s now want) now) (k+1):=hF2.forget now
 have HF3:Hid (Fit (forget (know s now want) now) (k+1)):=hF3
 have HF2:Hid (Fit (know s now want) (k+1)):=hF2
 have HS1:Hid (Step Q O V V w (w.setCell ⟨Q,O+8,none⟩ (.int .i64 now))):=hS1
 have HO:Hid (okArg s.last now hv want=true):=ho
 have h0n:0≤now:=by omega
 clear hA hA1 hS1 hF hF1 hF2 hF3 ho hB1
 by_cases ha:hv<want
 ·have HN:Hid (setN s now hv want=nU (forget (know s now want) now) hv want∧setE s now hv want=0∧setS s now hv want=more (forget (know s now want) now) now hv want):=by
   refine⟨?_,?_,?_⟩
   ·rw [setN,if_pos HO.out,if_pos ha]
   ·rw [setE,if_pos HO.out]
   ·rw [setS,if_pos HO.out,if_pos ha]
  go_enter Tryz.func136,Tryz.ntmps136
  go_wp2_with (first
   |(go_at_call 165;(with_reducible refine(m1 _).mono ?_);rintro e w2 ⟨rfl,h9⟩;have h8:=h9.symm;clear h9;subst h8)
   |(go_at_call 165;(with_reducible refine(m2 _).mono ?_);rintro e w2 ⟨rfl,h9⟩;have h8:=h9.symm;clear h9;subst h8)
   |(go_at_call 166;(with_reducible refine cK.mono ?_);rintro e w3 ⟨rfl,V3,hA3,hS3⟩;have HA3:Hid (SAt w3 B Q O V3 (know s now want)):=hA3;have HS3:Hid (Step Q O V V3 w w3):=HS1.out.trans hS3;clear hA3 hS3)
   |(go_at_call 167;(with_reducible refine(sforget_any B Q O V3 (know s now want) now (k+1) _ HA3.out HF2.out (by omega) h0n h2).mono ?_);rintro e w4 ⟨rfl,V4,hA4,hS4⟩;have HA4:Hid (SAt w4 B Q O V4 (forget (know s now want) now)):=hA4;have HS4:Hid (Step Q O V V4 w w4):=HS3.out.trans hS4;clear hA4 hS4)
   |(go_at_call 168;(with_reducible refine(more_any B Q O V4 (forget (know s now want) now) now hv want (k+1) _ HA4.out HF3.out (by omega) h3 h4).mono ?_);rintro e w5 ⟨rfl,V5,hA5,hS5⟩;have HA5:Hid (SAt w5 B Q O V5 (more (forget (know s now want) now) now hv want)):=hA5;have HS5:Hid (Step Q O V V5 w w5):=HS4.out.trans hS5;clear hA5 hS5))
  go_ret2
  exact⟨by rw [HN.out.1,HN.out.2.1];rfl,V5,by rw [HN.out.2.2];exact HA5.out,HS5.out⟩
 ·by_cases hb:want<hv
  ·have HN:Hid (setN s now hv want=nD (forget (know s now want) now) hv want∧setE s now hv want=0∧setS s now hv want=fewer (forget (know s now want) now) now hv want):=by
    refine⟨?_,?_,?_⟩
    ·rw [setN,if_pos HO.out,if_neg ha,if_pos hb]
    ·rw [setE,if_pos HO.out]
    ·rw [setS,if_pos HO.out,if_neg ha,if_pos hb]
   go_enter Tryz.func136,Tryz.ntmps136
   go_wp2_with (first
    |(go_at_call 165;(with_reducible refine(m1 _).mono ?_);rintro e w2 ⟨rfl,h9⟩;have h8:=h9.symm;clear h9;subst h8)
    |(go_at_call 165;(with_reducible refine(m2 _).mono ?_);rintro e w2 ⟨rfl,h9⟩;have h8:=h9.symm;clear h9;subst h8)
    |(go_at_call 166;(with_reducible refine cK.mono ?_);rintro e w3 ⟨rfl,V3,hA3,hS3⟩;have HA3:Hid (SAt w3 B Q O V3 (know s now want)):=hA3;have HS3:Hid (Step Q O V V3 w w3):=HS1.out.trans hS3;clear hA3 hS3)
    |(go_at_call 167;(with_reducible refine(sforget_any B Q O V3 (know s now want) now (k+1) _ HA3.out HF2.out (by omega) h0n h2).mono ?_);rintro e w4 ⟨rfl,V4,hA4,hS4⟩;have HA4:Hid (SAt w4 B Q O V4 (forget (know s now want) now)):=hA4;have HS4:Hid (Step Q O V V4 w w4):=HS3.out.trans hS4;clear hA4 hS4)
    |(go_at_call 169;(with_reducible refine(fewer_any B Q O V4 (forget (know s now want) now) now hv want (k+1) _ HA4.out HF3.out (by omega) h3 h4).mono ?_);rintro e w5 ⟨rfl,V5,hA5,hS5⟩;have HA5:Hid (SAt w5 B Q O V5 (fewer (forget (know s now want) now) now hv want)):=hA5;have HS5:Hid (Step Q O V V5 w w5):=HS4.out.trans hS5;clear hA5 hS5))
   go_ret2
   exact⟨by rw [HN.out.1,HN.out.2.1];rfl,V5,by rw [HN.out.2.2];exact HA5.out,HS5.out⟩
  ·have HN:Hid (setN s now hv want=hv∧setE s now hv want=0∧setS s now hv want=forget (know s now want) now):=by
    refine⟨?_,?_,?_⟩
    ·rw [setN,if_pos HO.out,if_neg ha,if_neg hb]
    ·rw [setE,if_pos HO.out]
    ·rw [setS,if_pos HO.out,if_neg ha,if_neg hb]
   go_enter Tryz.func136,Tryz.ntmps136
   go_wp2_with (first
    |(go_at_call 165;(with_reducible refine(m1 _).mono ?_);rintro e w2 ⟨rfl,h9⟩;have h8:=h9.symm;clear h9;subst h8)
    |(go_at_call 165;(with_reducible refine(m2 _).mono ?_);rintro e w2 ⟨rfl,h9⟩;have h8:=h9.symm;clear h9;subst h8)
    |(go_at_call 166;(with_reducible refine cK.mono ?_);rintro e w3 ⟨rfl,V3,hA3,hS3⟩;have HA3:Hid (SAt w3 B Q O V3 (know s now want)):=hA3;have HS3:Hid (Step Q O V V3 w w3):=HS1.out.trans hS3;clear hA3 hS3)
    |(go_at_call 167;(with_reducible refine(sforget_any B Q O V3 (know s now want) now (k+1) _ HA3.out HF2.out (by omega) h0n h2).mono ?_);rintro e w4 ⟨rfl,V4,hA4,hS4⟩;have HA4:Hid (SAt w4 B Q O V4 (forget (know s now want) now)):=hA4;have HS4:Hid (Step Q O V V4 w w4):=HS3.out.trans hS4;clear hA4 hS4))
   go_ret2
   exact⟨by rw [HN.out.1,HN.out.2.1];rfl,V4,by rw [HN.out.2.2];exact HA4.out,HS4.out⟩
theorem set_any (B Q O:Nat) (V:Nat→Value) (s:St) (now hv want:Int) (k:Nat) (w:World) (hA:SAt w B Q O V s) (hF:Fit s k) (hk:k≤900000):
  Calls Tryz.prog 136 #[.pointer (some ⟨Q,O,none⟩),.int .i64 now,.int .i64 hv,.int .i64 want] w (SeA B Q O V s now hv want w):=by
 by_cases h:s.last≤now∧now≤1099511627776∧0≤hv∧hv≤50∧0≤want∧want≤50
 ·obtain⟨a,b,c,d,e,f⟩:=h
  exact set_yes B Q O V s now hv want k w hA hF hk a b ⟨c,d⟩ ⟨e,f⟩
 ·exact set_no B Q O V s now hv want w hA h
end Stb
end Go.Proofs.YtddabkmppobcdaaGreatDoor
