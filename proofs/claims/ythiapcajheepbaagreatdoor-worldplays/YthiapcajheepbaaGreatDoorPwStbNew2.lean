/- A part. -/
import Derived.Test.YthiapcajheepbaaGreatDoorPwStbNew
import Derived.Laws.EntriesVeiled
set_option linter.all false
open Go.Proofs.Tryz
set_option maxHeartbeats 32000000
set_option maxRecDepth 8000
namespace Go.Proofs.YthiapcajheepbaaGreatDoor
namespace Stb
open Rw Go.RowKit

def nilV:Nat→Value:=fun _=> .slice none 0 0
def newC (u d:Pc):Array Value:=#[.int .i64 (cl u.w),.int .i64 (cl u.n),.int .i64 (cl u.c),.int .i64 (cl u.p),.int .i64 (cl d.w),.int .i64 (cl d.n),.int .i64 (cl d.c),.int .i64 (cl d.p),.int .i64 0,.slice none 0 0,.slice none 0 0,.slice none 0 0,.int .i64 0,.slice none 0 0,.int .i64 0]
theorem new_at (w:World) (B:Nat) (e:TypeId) (u d:Pc) (hB:B≤w.heap.size):SAt (w.alloc (.cells (newC u d) e)) B w.heap.size 0 nilV (new u d):=by
 have hc: ∀j v,(newC u d)[j]? =some v→(w.alloc (.cells (newC u d) e)).cell? ⟨w.heap.size,j,none⟩=some v:=fun j v h=>by simpa using h
 refine⟨by simp,hB,fun j=>by simp,fun j hj=> ?_,fun i hi=> ?_,fun i hi=> ?_,fun i _=>by simp [nilV,Value.ownBlock],fun i j _ _ _ g h=>by simp [nilV,Value.ownBlock]at h⟩
 ·rw [Xv];refine hc j _ ?_;rcases hj with hj|rfl|rfl
  ·rcases(by omega:j=0∨j=1∨j=2∨j=3∨j=4∨j=5∨j=6∨j=7∨j=8)with rfl|rfl|rfl|rfl|rfl|rfl|rfl|rfl|rfl<;>rfl
  ·rfl
  ·rfl
 ·rw [Xv];refine hc (pos i) _ ?_;rcases(by omega:i=0∨i=1∨i=2∨i=3)with rfl|rfl|rfl|rfl<;>rfl
 ·have:rws (new u d) i=[]:=by rcases(by omega:i=0∨i=1∨i=2∨i=3)with rfl|rfl|rfl|rfl<;>rfl
  rw [this];exact Own.nil _ _ _ _
def NwA (u d:Pc) (w:World) (e:Ending) (w':World):Prop:= ∃Q,e=.returned (.pointer (some ⟨Q,0,none⟩))∧SAt w' w.heap.size Q 0 nilV (new u d)∧Below w.heap.size w w'
theorem new_any (u d:Pc) (w:World):Calls prog 59 #[pcV u,pcV d] w (NwA u d w):=by
 obtain⟨uw,un,uc,up⟩:=u;obtain⟨dw,dn,dc,dp⟩:=d;have cU:=fun K w h=>clip2_any ⟨uw,un,uc,up⟩ K w h;have cD:=fun K w h=>clip2_any ⟨dw,dn,dc,dp⟩ K w h;simp only [pcV,clP]at cU cD;unfold pcV;go_enter func59,ntmps59;go_wp2_with fail
 have p0:(((w.alloc (.cells #[.int .i64 uw,.int .i64 un,.int .i64 uc,.int .i64 up] 23)).alloc (.cells #[.int .i64 dw,.int .i64 dn,.int .i64 dc,.int .i64 dp] 23)).alloc (.cells #[.func (.func 102) #[] #[]] 151)).cell? ⟨w.heap.size,0,none⟩=some (.int .i64 uw):=by simp [go_sem]
 have p1:(((w.alloc (.cells #[.int .i64 uw,.int .i64 un,.int .i64 uc,.int .i64 up] 23)).alloc (.cells #[.int .i64 dw,.int .i64 dn,.int .i64 dc,.int .i64 dp] 23)).alloc (.cells #[.func (.func 102) #[] #[]] 151)).cell? ⟨w.heap.size,1,none⟩=some (.int .i64 un):=by simp [go_sem]
 have p2:(((w.alloc (.cells #[.int .i64 uw,.int .i64 un,.int .i64 uc,.int .i64 up] 23)).alloc (.cells #[.int .i64 dw,.int .i64 dn,.int .i64 dc,.int .i64 dp] 23)).alloc (.cells #[.func (.func 102) #[] #[]] 151)).cell? ⟨w.heap.size,2,none⟩=some (.int .i64 uc):=by simp [go_sem]
 have p3:(((w.alloc (.cells #[.int .i64 uw,.int .i64 un,.int .i64 uc,.int .i64 up] 23)).alloc (.cells #[.int .i64 dw,.int .i64 dn,.int .i64 dc,.int .i64 dp] 23)).alloc (.cells #[.func (.func 102) #[] #[]] 151)).cell? ⟨w.heap.size,3,none⟩=some (.int .i64 up):=by simp [go_sem]
 have p4:(((w.alloc (.cells #[.int .i64 uw,.int .i64 un,.int .i64 uc,.int .i64 up] 23)).alloc (.cells #[.int .i64 dw,.int .i64 dn,.int .i64 dc,.int .i64 dp] 23)).alloc (.cells #[.func (.func 102) #[] #[]] 151)).cell? ⟨w.heap.size+1,0,none⟩=some (.int .i64 dw):=by simp [go_sem]
 have p5:(((w.alloc (.cells #[.int .i64 uw,.int .i64 un,.int .i64 uc,.int .i64 up] 23)).alloc (.cells #[.int .i64 dw,.int .i64 dn,.int .i64 dc,.int .i64 dp] 23)).alloc (.cells #[.func (.func 102) #[] #[]] 151)).cell? ⟨w.heap.size+1,1,none⟩=some (.int .i64 dn):=by simp [go_sem]
 have p6:(((w.alloc (.cells #[.int .i64 uw,.int .i64 un,.int .i64 uc,.int .i64 up] 23)).alloc (.cells #[.int .i64 dw,.int .i64 dn,.int .i64 dc,.int .i64 dp] 23)).alloc (.cells #[.func (.func 102) #[] #[]] 151)).cell? ⟨w.heap.size+1,2,none⟩=some (.int .i64 dc):=by simp [go_sem]
 have p7:(((w.alloc (.cells #[.int .i64 uw,.int .i64 un,.int .i64 uc,.int .i64 up] 23)).alloc (.cells #[.int .i64 dw,.int .i64 dn,.int .i64 dc,.int .i64 dp] 23)).alloc (.cells #[.func (.func 102) #[] #[]] 151)).cell? ⟨w.heap.size+1,3,none⟩=some (.int .i64 dp):=by simp [go_sem]
 have hK:(((w.alloc (.cells #[.int .i64 uw,.int .i64 un,.int .i64 uc,.int .i64 up] 23)).alloc (.cells #[.int .i64 dw,.int .i64 dn,.int .i64 dc,.int .i64 dp] 23)).alloc (.cells #[.func (.func 102) #[] #[]] 151)).cell? ⟨w.heap.size+1+1,0,none⟩=some (.func (.func 102) #[] #[]):=by simp [go_sem]
 have hb:Below w.heap.size w (((w.alloc (.cells #[.int .i64 uw,.int .i64 un,.int .i64 uc,.int .i64 up] 23)).alloc (.cells #[.int .i64 dw,.int .i64 dn,.int .i64 dc,.int .i64 dp] 23)).alloc (.cells #[.func (.func 102) #[] #[]] 151)):=(((Below.refl _ _).alloc (Xa _) _).alloc (by simp) _).alloc (by simp;omega) _;have hsz:(((w.alloc (.cells #[.int .i64 uw,.int .i64 un,.int .i64 uc,.int .i64 up] 23)).alloc (.cells #[.int .i64 dw,.int .i64 dn,.int .i64 dc,.int .i64 dp] 23)).alloc (.cells #[.func (.func 102) #[] #[]] 151)).heap.size=w.heap.size+3:=by simp
 generalize ((w.alloc (.cells #[.int .i64 uw,.int .i64 un,.int .i64 uc,.int .i64 up] 23)).alloc (.cells #[.int .i64 dw,.int .i64 dn,.int .i64 dc,.int .i64 dp] 23)).alloc (.cells #[.func (.func 102) #[] #[]] 151)=W at*;have hKd:W.drew.cell? ⟨w.heap.size+1+1,0,none⟩=some (.func (.func 102) #[] #[]):=hK;have HB:Hid (Below w.heap.size w W):=hb;have hl1:w.heap.size+1<W.drew.heap.size:=by show _<W.heap.size;omega
 have hl2:w.heap.size+1+1<W.drew.heap.size:=by show _<W.heap.size;omega
 clear hb hsz
 go_region_with (first
  |(go_at_call 103;(with_reducible refine zg (cU _ _ hKd) fun w2 hb2=>?_);have hK2:=(hb2.cell (p:=⟨w.heap.size+1+1,0,none⟩) hl2).trans hKd;have d0:=(hb2.cell (p:=⟨w.heap.size+1,0,none⟩) hl1).trans p4;have d1:=(hb2.cell (p:=⟨w.heap.size+1,1,none⟩) hl1).trans p5;have d2:=(hb2.cell (p:=⟨w.heap.size+1,2,none⟩) hl1).trans p6;have d3:=(hb2.cell (p:=⟨w.heap.size+1,3,none⟩) hl1).trans p7)
  |(go_at_call 103;(with_reducible refine zg (cD _ _ hK2) fun w3 hb3=>?_)))
 all_goals
  have hbb:Below w.heap.size w w3:=(HB.out.drew.trans (hb2.mono (HB.out.size))).trans (hb3.mono (Xc HB.out.size hb2.size));have HN:Hid (NwA ⟨uw,un,uc,up⟩ ⟨dw,dn,dc,dp⟩ w (.returned (.pointer (some ⟨w3.heap.size,0,none⟩))) (w3.alloc (.cells (newC ⟨uw,un,uc,up⟩ ⟨dw,dn,dc,dp⟩) 53))):=⟨_,rfl,new_at w3 w.heap.size _ _ _ hbb.size,hbb.alloc hbb.size _⟩
  go_wp2;go_ret;exact HN.out
end Stb
namespace Stb
open Rw Go.RowKit Plain Num
variable {p:Pc} {A R C k:Nat} {w wr:World}

def fld (p:Pc):Nat→Int
 |0=>p.w
 |1=>p.n
 |2=>p.c
 |_=>p.p
def FxR (p:Pc) (A R C:Nat) (w:World) (i:Value) (wr:World):Prop:=
 ∃k:Nat,k≤4∧i=.int .i64 k∧(∀j,j<4→wr.cell? ⟨A,j,none⟩=some (.int .i64 (if j<k then cl (fld p j)else fld p j)))∧(∀j,j<4→wr.cell? ⟨C,j,none⟩=some (.pointer (some ⟨A,j,none⟩)))∧(∀j,j<4→wr.cell? ⟨R,j,none⟩=some (.int .i64 0))∧(∀j,wr.frozen? ⟨A,j,none⟩=false)∧(∀j,wr.frozen? ⟨R,j,none⟩=false)∧Below w.heap.size w wr
theorem fx_keep (hk:k<4) (hAR:A≠R) (hAC:A≠C) (hA:w.heap.size≤A) (v:Int) (hv:v=cl (fld p k))
  (h1: ∀j,j<4→wr.cell? ⟨A,j,none⟩=some (.int .i64 (if j<k then cl (fld p j)else fld p j))) (h2: ∀j,j<4→wr.cell? ⟨C,j,none⟩=some (.pointer (some ⟨A,j,none⟩))) (h3: ∀j,j<4→wr.cell? ⟨R,j,none⟩=some (.int .i64 0)) (h4: ∀j,wr.frozen? ⟨A,j,none⟩=false) (h5: ∀j,wr.frozen? ⟨R,j,none⟩=false) (hb:Below w.heap.size w wr):
  Hid (FxR p A R C w (.int .i64 ((k:Int)+1)) (wr.setCell ⟨A,k,none⟩ (.int .i64 v))):=by
 refine⟨k+1,by omega,by simp,fun j hj=> ?_,fun j hj=> ?_,fun j hj=> ?_,fun j=>by rw [Xi];exact h4 j,fun j=>by rw [Xi];exact h5 j,hb.setCell hA _⟩
 ·by_cases e:j=k
  ·subst e;rw [Xn _ _ _ (h1 j hj),hv,if_pos (by omega)]
  ·rw [cell_set e,h1 j hj];by_cases g:j<k
   ·rw [if_pos g,if_pos (by omega)]
   ·rw [if_neg g,if_neg (by omega)]
 ·rw [Xd _ _ _ _ (fun e=>hAC (congrArg Addr.block e))];exact h2 j hj
 ·rw [Xd _ _ _ _ (fun e=>hAR (congrArg Addr.block e))];exact h3 j hj
theorem fx_same (hk:k<4) (hv:fld p k=cl (fld p k))
  (h1: ∀j,j<4→wr.cell? ⟨A,j,none⟩=some (.int .i64 (if j<k then cl (fld p j)else fld p j))) (h2: ∀j,j<4→wr.cell? ⟨C,j,none⟩=some (.pointer (some ⟨A,j,none⟩))) (h3: ∀j,j<4→wr.cell? ⟨R,j,none⟩=some (.int .i64 0)) (h4: ∀j,wr.frozen? ⟨A,j,none⟩=false) (h5: ∀j,wr.frozen? ⟨R,j,none⟩=false) (hb:Below w.heap.size w wr):
  Hid (FxR p A R C w (.int .i64 ((k:Int)+1)) wr):=by
 refine⟨k+1,by omega,by simp,fun j hj=> ?_,h2,h3,h4,h5,hb⟩;rw [h1 j hj];by_cases g:j<k
 ·rw [if_pos g,if_pos (by omega)]
 ·by_cases e:j=k
  ·subst e;rw [if_neg g,if_pos (by omega),←hv]
  ·rw [if_neg g,if_neg (by omega)]
theorem fix_any (p:Pc) (w:World):CB 106 #[pcV p] w (pcV (clP p)):=by
 obtain⟨pw,pn,pc,pp⟩:=p;unfold pcV;go_enter func106,ntmps106;go_wp2_with fail
 have hb:Below w.heap.size w (((w.alloc (.cells #[.int .i64 pw,.int .i64 pn,.int .i64 pc,.int .i64 pp] 23)).alloc (.cells #[.int .i64 0,.int .i64 0,.int .i64 0,.int .i64 0] 23)).alloc (.cells #[.pointer (some ⟨w.heap.size,0,none⟩),.pointer (some ⟨w.heap.size,1,none⟩),.pointer (some ⟨w.heap.size,2,none⟩),.pointer (some ⟨w.heap.size,3,none⟩)] 167)):=(((Below.refl _ _).alloc (Xa _) _).alloc (by simp) _).alloc (by simp;omega) _;have h1: ∀j,j<4→(((w.alloc (.cells #[.int .i64 pw,.int .i64 pn,.int .i64 pc,.int .i64 pp] 23)).alloc (.cells #[.int .i64 0,.int .i64 0,.int .i64 0,.int .i64 0] 23)).alloc (.cells #[.pointer (some ⟨w.heap.size,0,none⟩),.pointer (some ⟨w.heap.size,1,none⟩),.pointer (some ⟨w.heap.size,2,none⟩),.pointer (some ⟨w.heap.size,3,none⟩)] 167)).cell? ⟨w.heap.size,j,none⟩=some (.int .i64 (if j<0 then cl (fld ⟨pw,pn,pc,pp⟩ j)else fld ⟨pw,pn,pc,pp⟩ j)):=by
  intro j hj;rcases(by omega:j=0∨j=1∨j=2∨j=3)with rfl|rfl|rfl|rfl<;>simp [go_sem,fld]
 have h2: ∀j,j<4→(((w.alloc (.cells #[.int .i64 pw,.int .i64 pn,.int .i64 pc,.int .i64 pp] 23)).alloc (.cells #[.int .i64 0,.int .i64 0,.int .i64 0,.int .i64 0] 23)).alloc (.cells #[.pointer (some ⟨w.heap.size,0,none⟩),.pointer (some ⟨w.heap.size,1,none⟩),.pointer (some ⟨w.heap.size,2,none⟩),.pointer (some ⟨w.heap.size,3,none⟩)] 167)).cell? ⟨w.heap.size+1+1,j,none⟩=some (.pointer (some ⟨w.heap.size,j,none⟩)):=by
  intro j hj;rcases(by omega:j=0∨j=1∨j=2∨j=3)with rfl|rfl|rfl|rfl<;>simp [go_sem]
 have h3: ∀j,j<4→(((w.alloc (.cells #[.int .i64 pw,.int .i64 pn,.int .i64 pc,.int .i64 pp] 23)).alloc (.cells #[.int .i64 0,.int .i64 0,.int .i64 0,.int .i64 0] 23)).alloc (.cells #[.pointer (some ⟨w.heap.size,0,none⟩),.pointer (some ⟨w.heap.size,1,none⟩),.pointer (some ⟨w.heap.size,2,none⟩),.pointer (some ⟨w.heap.size,3,none⟩)] 167)).cell? ⟨w.heap.size+1,j,none⟩=some (.int .i64 0):=by
  intro j hj;rcases(by omega:j=0∨j=1∨j=2∨j=3)with rfl|rfl|rfl|rfl<;>simp [go_sem]
 have h4: ∀j,(((w.alloc (.cells #[.int .i64 pw,.int .i64 pn,.int .i64 pc,.int .i64 pp] 23)).alloc (.cells #[.int .i64 0,.int .i64 0,.int .i64 0,.int .i64 0] 23)).alloc (.cells #[.pointer (some ⟨w.heap.size,0,none⟩),.pointer (some ⟨w.heap.size,1,none⟩),.pointer (some ⟨w.heap.size,2,none⟩),.pointer (some ⟨w.heap.size,3,none⟩)] 167)).frozen? ⟨w.heap.size,j,none⟩=false:=fun j=>by simp [go_sem]
 have h5: ∀j,(((w.alloc (.cells #[.int .i64 pw,.int .i64 pn,.int .i64 pc,.int .i64 pp] 23)).alloc (.cells #[.int .i64 0,.int .i64 0,.int .i64 0,.int .i64 0] 23)).alloc (.cells #[.pointer (some ⟨w.heap.size,0,none⟩),.pointer (some ⟨w.heap.size,1,none⟩),.pointer (some ⟨w.heap.size,2,none⟩),.pointer (some ⟨w.heap.size,3,none⟩)] 167)).frozen? ⟨w.heap.size+1,j,none⟩=false:=fun j=>by simp [go_sem]
 generalize ((w.alloc (.cells #[.int .i64 pw,.int .i64 pn,.int .i64 pc,.int .i64 pp] 23)).alloc (.cells #[.int .i64 0,.int .i64 0,.int .i64 0,.int .i64 0] 23)).alloc (.cells #[.pointer (some ⟨w.heap.size,0,none⟩),.pointer (some ⟨w.heap.size,1,none⟩),.pointer (some ⟨w.heap.size,2,none⟩),.pointer (some ⟨w.heap.size,3,none⟩)] 167)=W at*;have hA0:w.heap.size≤w.heap.size:=Xa _;have hAR:w.heap.size≠w.heap.size+1:=by omega
 have hAC:w.heap.size≠w.heap.size+1+1:=by omega
 have hR0:w.heap.size≤w.heap.size+1:=by omega
 generalize hCC:w.heap.size+1+1=C at*;generalize hRR:w.heap.size+1=R at*;obtain⟨A,hAA⟩: ∃A,A=w.heap.size:=⟨_,rfl⟩
 rw [←hAA]at h1 h2 h4 hAR hAC⊢;have hA1:w.heap.size≤A:=by omega
 clear hCC hRR hAA hA0;go_loopw [11] (fun i wr=>FxR ⟨pw,pn,pc,pp⟩ A R C w i wr) (fun i _=>4-(intOf i).toNat)
 case atStart=>exact⟨0,by omega,rfl,h1,h2,h3,h4,h5,hb⟩
 case round=>
  clear h1 h2 h3 h4 h5 hb;obtain⟨k,hk,rfl,h1,h2,h3,h4,h5,hb⟩:=hrel;by_cases hlt:k<4
  ·have hlt':(k:Int)<4:=by omega
   have c1:=h1 k hlt;rw [if_neg (by omega)]at c1;have c2:=h2 k hlt;have f1:=h4 k;obtain⟨x,hx⟩: ∃x,fld ⟨pw,pn,pc,pp⟩ k=x:=⟨_,rfl⟩
   have hcl:cl (fld ⟨pw,pn,pc,pp⟩ k)=cl x:=by rw [hx]
   rw [hx]at c1;have hAl:=Xj wr _ c1;simp only at hAl;by_cases d1:x<0
   ·have HR:=fx_keep (p:=⟨pw,pn,pc,pp⟩) hlt hAR hAC hA1 0 (by rw [hcl];unfold cl;omega) h1 h2 h3 h4 h5 hb;clear h1 h2 h3 h4 h5 hb hcl hx;go_wp2;go_roundw
    case rel=>exact HR.out
    case measure=>simp [intOf];omega
   ·by_cases d2:100000<x
    ·have HR:=fx_keep (p:=⟨pw,pn,pc,pp⟩) hlt hAR hAC hA1 100000 (by rw [hcl];unfold cl;omega) h1 h2 h3 h4 h5 hb;clear h1 h2 h3 h4 h5 hb hcl hx;go_wp2;go_roundw
     case rel=>exact HR.out
     case measure=>simp [intOf];omega
    ·have HR:=fx_same (p:=⟨pw,pn,pc,pp⟩) hlt (by rw [hx];unfold cl;omega) h1 h2 h3 h4 h5 hb;clear h1 h2 h3 h4 h5 hb hcl hx;go_wp2;go_roundw
     case rel=>exact HR.out
     case measure=>simp [intOf];omega
  ·obtain rfl:k=4:=by omega
   have a0:=h1 0 (by decide);have a1:=h1 1 (by decide);have a2:=h1 2 (by decide);have a3:=h1 3 (by decide);simp only [fld,Nat.reduceLT,if_true]at a0 a1 a2 a3;have r0:=h3 0 (by decide);have r1:=h3 1 (by decide);have r2:=h3 2 (by decide);have r3:=h3 3 (by decide);have f0:=h5 0;have f1:=h5 1;have f2:=h5 2;have f3:=h5 3;have HB:Hid (Below w.heap.size w wr):=hb;clear h1 h2 h3 h4 h5 hb;go_wp2;have hs:=set4 (.int .i64 (cl pw)) (.int .i64 (cl pn)) (.int .i64 (cl pc)) (.int .i64 (cl pp)) r0 r1 r2 r3;exact finP (x:=clP ⟨pw,pn,pc,pp⟩) results106 (Or.inl rfl) rfl rfl hs ⟨rfl,((((HB.out).setCell (p:=⟨R,0,none⟩) hR0 _).setCell (p:=⟨R,1,none⟩) hR0 _).setCell (p:=⟨R,2,none⟩) hR0 _).setCell (p:=⟨R,3,none⟩) hR0 _⟩
def cnewC (u d:Pc):Array Value:=#[.int .i64 (cl u.w),.int .i64 (cl u.n),.int .i64 (cl u.c),.int .i64 (cl u.p),.int .i64 (cl d.w),.int .i64 (cl d.n),.int .i64 (cl d.c),.int .i64 (cl d.p),.int .i64 0,.slice none 0 0,.slice none 0 0]
theorem cnew_at (w:World) (B:Nat) (e:TypeId) (u d:Pc) (hB:B≤w.heap.size):CAt (w.alloc (.cells (cnewC u d) e)) B w.heap.size (.slice none 0 0) (.slice none 0 0) ⟨clP u,clP d,0,[],[]⟩:=by
 have hc: ∀j v,(cnewC u d)[j]? =some v→(w.alloc (.cells (cnewC u d) e)).cell? ⟨w.heap.size,j,none⟩=some v:=fun j v h=>by simpa using h
 refine⟨by simp,hB,fun j=>by simp,fun j hj=> ?_,hc 9 _ rfl,hc 10 _ rfl,Own.nil _ _ _ _,Own.nil _ _ _ _,by simp [Value.ownBlock],by simp [Value.ownBlock],fun g h=>by simp [Value.ownBlock]at h⟩;refine hc j _ ?_;rcases(by omega:j=0∨j=1∨j=2∨j=3∨j=4∨j=5∨j=6∨j=7∨j=8)with rfl|rfl|rfl|rfl|rfl|rfl|rfl|rfl|rfl<;>rfl
def NcA (u d:Pc) (w:World) (e:Ending) (w':World):Prop:= ∃D,e=.returned (.pointer (some ⟨D,0,none⟩))∧CAt w' w.heap.size D (.slice none 0 0) (.slice none 0 0) ⟨clP u,clP d,0,[],[]⟩∧Below w.heap.size w w'
theorem cnew_any (u d:Pc) (w:World):Calls prog 61 #[pcV u,pcV d] w (NcA u d w):=by
 obtain⟨uw,un,uc,up⟩:=u;obtain⟨dw,dn,dc,dp⟩:=d;have cU:=fun w=>fix_any ⟨uw,un,uc,up⟩ w;have cD:=fun w=>fix_any ⟨dw,dn,dc,dp⟩ w;simp only [pcV,clP]at cU cD;unfold pcV;go_enter func61,ntmps61;go_upto_region 2 with fail
 have p0:((w.alloc (.cells #[.int .i64 uw,.int .i64 un,.int .i64 uc,.int .i64 up] 23)).alloc (.cells #[.int .i64 dw,.int .i64 dn,.int .i64 dc,.int .i64 dp] 23)).cell? ⟨w.heap.size,0,none⟩=some (.int .i64 uw):=by simp [go_sem]
 have p1:((w.alloc (.cells #[.int .i64 uw,.int .i64 un,.int .i64 uc,.int .i64 up] 23)).alloc (.cells #[.int .i64 dw,.int .i64 dn,.int .i64 dc,.int .i64 dp] 23)).cell? ⟨w.heap.size,1,none⟩=some (.int .i64 un):=by simp [go_sem]
 have p2:((w.alloc (.cells #[.int .i64 uw,.int .i64 un,.int .i64 uc,.int .i64 up] 23)).alloc (.cells #[.int .i64 dw,.int .i64 dn,.int .i64 dc,.int .i64 dp] 23)).cell? ⟨w.heap.size,2,none⟩=some (.int .i64 uc):=by simp [go_sem]
 have p3:((w.alloc (.cells #[.int .i64 uw,.int .i64 un,.int .i64 uc,.int .i64 up] 23)).alloc (.cells #[.int .i64 dw,.int .i64 dn,.int .i64 dc,.int .i64 dp] 23)).cell? ⟨w.heap.size,3,none⟩=some (.int .i64 up):=by simp [go_sem]
 have p4:((w.alloc (.cells #[.int .i64 uw,.int .i64 un,.int .i64 uc,.int .i64 up] 23)).alloc (.cells #[.int .i64 dw,.int .i64 dn,.int .i64 dc,.int .i64 dp] 23)).cell? ⟨w.heap.size+1,0,none⟩=some (.int .i64 dw):=by simp [go_sem]
 have p5:((w.alloc (.cells #[.int .i64 uw,.int .i64 un,.int .i64 uc,.int .i64 up] 23)).alloc (.cells #[.int .i64 dw,.int .i64 dn,.int .i64 dc,.int .i64 dp] 23)).cell? ⟨w.heap.size+1,1,none⟩=some (.int .i64 dn):=by simp [go_sem]
 have p6:((w.alloc (.cells #[.int .i64 uw,.int .i64 un,.int .i64 uc,.int .i64 up] 23)).alloc (.cells #[.int .i64 dw,.int .i64 dn,.int .i64 dc,.int .i64 dp] 23)).cell? ⟨w.heap.size+1,2,none⟩=some (.int .i64 dc):=by simp [go_sem]
 have p7:((w.alloc (.cells #[.int .i64 uw,.int .i64 un,.int .i64 uc,.int .i64 up] 23)).alloc (.cells #[.int .i64 dw,.int .i64 dn,.int .i64 dc,.int .i64 dp] 23)).cell? ⟨w.heap.size+1,3,none⟩=some (.int .i64 dp):=by simp [go_sem]
 have hb:Below w.heap.size w ((w.alloc (.cells #[.int .i64 uw,.int .i64 un,.int .i64 uc,.int .i64 up] 23)).alloc (.cells #[.int .i64 dw,.int .i64 dn,.int .i64 dc,.int .i64 dp] 23)):=((Below.refl _ _).alloc (Xa _) _).alloc (by simp) _;have hsz:((w.alloc (.cells #[.int .i64 uw,.int .i64 un,.int .i64 uc,.int .i64 up] 23)).alloc (.cells #[.int .i64 dw,.int .i64 dn,.int .i64 dc,.int .i64 dp] 23)).heap.size=w.heap.size+2:=by simp
 generalize (w.alloc (.cells #[.int .i64 uw,.int .i64 un,.int .i64 uc,.int .i64 up] 23)).alloc (.cells #[.int .i64 dw,.int .i64 dn,.int .i64 dc,.int .i64 dp] 23)=W at*;have HB:Hid (Below w.heap.size w W):=hb;have hl1:w.heap.size+1<W.drew.heap.size:=by show _<W.heap.size;omega
 clear hb hsz
 go_region_with (first
   |(go_at_call 106;(with_reducible refine zg (cU W.drew) fun w2 hb2=>?_);have d0:=(hb2.cell (p:=⟨w.heap.size+1,0,none⟩) hl1).trans p4;have d1:=(hb2.cell (p:=⟨w.heap.size+1,1,none⟩) hl1).trans p5;have d2:=(hb2.cell (p:=⟨w.heap.size+1,2,none⟩) hl1).trans p6;have d3:=(hb2.cell (p:=⟨w.heap.size+1,3,none⟩) hl1).trans p7)
   |(go_at_call 106;(with_reducible refine zg (cD w2) fun w3 hb3=>?_)))
 all_goals
  have hbb:Below w.heap.size w w3:=(HB.out.drew.trans (hb2.mono (HB.out.size))).trans (hb3.mono (Xc HB.out.size hb2.size));have HN:Hid (NcA ⟨uw,un,uc,up⟩ ⟨dw,dn,dc,dp⟩ w (.returned (.pointer (some ⟨w3.heap.size,0,none⟩))) (w3.alloc (.cells (cnewC ⟨uw,un,uc,up⟩ ⟨dw,dn,dc,dp⟩) 171))):=⟨_,rfl,cnew_at w3 w.heap.size _ _ _ hbb.size,hbb.alloc hbb.size _⟩
  go_wp2;go_ret;exact HN.out
