/- A part. -/
import Derived.Test.YthiapcajheepbaaGreatDoorRows
import Derived.ProofKit
import Derived.Deep.RegionHeld
import Derived.Deep.Onto
import Derived.BigQuiet
import Derived.Deep.DeepCutAuto
import Derived.Test.YthiapcajheepbaaGreatDoorPwRecMem
set_option linter.all false
open Go.Proofs.Tryz
set_option maxHeartbeats 32000000
set_option maxRecDepth 8000
namespace Go.Proofs.YthiapcajheepbaaGreatDoor
namespace Buf
open Go.RowKit Rw Rec
variable {i j N s:Nat} {ao:Option Addr} {u:Value} {W:World} {f':Int→Bool} {X:List Int}

theorem info_req:(prog.info? 122).map (fun i=>(i.zero,i.size,i.bytes))=some (some (.agg #[.int .i64 0,.int .i64 0,.int .i64 0,.int .i64 0,.int .i64 0]),5,40):=by kernel_rfl
theorem info_int:(prog.info? 3).map (fun i=>(i.zero,i.size,i.bytes))=some (some (.int .i64 0),1,8):=by kernel_rfl
abbrev rB:Nat→Prop:=fun j=>49≤j∧j<50
abbrev HAt0 (w:World) (B Q:Nat) (v:Value) (L:List Rq):Prop:=RAt rK w 122 B Q 0 0 [v] v L
def HAt (w:World) (B Q:Nat) (v:Value) (L:List Rq):Prop:=RAt rK w 122 B Q 49 0 [v] v L
section
variable {w w' : World} {B Q : Nat} {v v' : Value} {L L' : List Rq}
theorem HAt.lt (h:HAt w B Q v L):Q<w.heap.size:=RAt.lt h
theorem HAt.ne (h:HAt w B Q v L):v.ownBlock≠some Q:=RAt.ne h
theorem HAt.cV (h:HAt w B Q v L):w.cell? ⟨Q,49,none⟩=some v:=RAt.cQ h 0 _ rfl
theorem HAt.fz (h:HAt w B Q v L): ∀j,w.frozen? ⟨Q,j,none⟩=false:=RAt.fz h
theorem HAt.rowLt (h:HAt w B Q v L): ∀g,v.ownBlock=some g→g<w.heap.size:=RAt.rowLt h
theorem HAt.below (h:HAt w B Q v L) (hb:Below w.heap.size w w'):HAt w' B Q v L:=RAt.below h hb
theorem HAt.alloc (h:HAt w B Q v L) (o:Obj):HAt (w.alloc o) B Q v L:=RAt.alloc h o
theorem HAt.drew (h:HAt w B Q v L):HAt w.drew B Q v L:=RAt.drew h
theorem HAt.form (h:HAt w B Q v L): ∃ao cap,v=.slice ao L.length cap∧L.length≤cap∧cap≤maxLen∧(0<L.length→ ∃g,ao=some ⟨g,0,none⟩):=RAt.form h
theorem HAt.req {g n cap:Nat} {r:Rq} (h:HAt w B Q (.slice (some ⟨g,0,none⟩) n cap) L) (hn:n=L.length) (hr:L[i]? =some r):
  w.cell? ⟨g,i*5,none⟩=some (.int .i64 r.id)∧w.cell? ⟨g,i*5+1,none⟩=some (.int .i64 r.src)∧w.cell? ⟨g,i*5+2,none⟩=some (.int .i64 r.til)∧w.cell? ⟨g,i*5+3,none⟩=some (.int .i64 r.fat)∧w.cell? ⟨g,i*5+4,none⟩=some (.int .i64 r.pod)∧ ∀j,w.frozen? ⟨g,j,none⟩=false:=
 ⟨RAt.cells h hn hr 0 _ rfl,RAt.cells h hn hr 1 _ rfl,RAt.cells h hn hr 2 _ rfl,RAt.cells h hn hr 3 _ rfl,RAt.cells h hn hr 4 _ rfl,RAt.fzG h hn⟩
theorem HAt.row {ao:Option Addr} {cap:Nat} (h:HAt w B Q (.slice ao L.length cap) L):RowAt rK w ao L:=RAt.row h
theorem HAt.gQ {g n cap:Nat} (h:HAt w B Q (.slice (some ⟨g,0,none⟩) n cap) L):g≠Q:=fun e=>h.ne (by rw [e];rfl)
theorem HAt.regrown (h:HAt w B Q v L) (hQ:w'.heap[Q]? =w.heap[Q]?) (hown:w'.ownsRow B 122 5 v' L'.length (cels rK.c L')) (hv:v'.ownBlock≠some Q):HAt (w'.setCell ⟨Q,49,none⟩ v') B Q v' L':=RAt.regrown h hQ hown hv
end
theorem row_req {w:World} {L:List Rq} (h:RowAt rK w ao L) (hl:0<L.length): ∃g,ao=some ⟨g,0,none⟩∧g<w.heap.size∧ ∀(i:Nat) (r:Rq),L[i]? =some r→w.cell? ⟨g,i*5,none⟩=some (.int .i64 r.id)∧w.cell? ⟨g,i*5+1,none⟩=some (.int .i64 r.src)∧w.cell? ⟨g,i*5+2,none⟩=some (.int .i64 r.til)∧w.cell? ⟨g,i*5+3,none⟩=some (.int .i64 r.fat)∧w.cell? ⟨g,i*5+4,none⟩=some (.int .i64 r.pod):=by
 obtain⟨g,rfl,hg,hc⟩:=h hl;exact⟨g,rfl,hg,fun i m hm=>⟨hc i m hm 0 _ rfl,hc i m hm 1 _ rfl,hc i m hm 2 _ rfl,hc i m hm 3 _ rfl,hc i m hm 4 _ rfl⟩⟩
def Doth (f:Nat) (args:Nat→Array Value) (L L':List Rq) (e:Ending):Prop:=
 ∀(B Q:Nat) (v:Value) (w:World),HAt w B Q v L→Calls prog f (args Q) w fun e' w'=>e'=e∧ ∃v',HAt w' B Q v' L'∧Turn rB Q v v' w w'
theorem cell_five (w:World) (e:TypeId) (a b c d f:Value): ∀(j:Nat) (u:Value),[a,b,c,d,f][j]? =some u→(w.alloc (.cells #[a,b,c,d,f] e)).cell? ((⟨w.heap.size,0,none⟩:Addr).add j)=some u:=by
 intro j u h;match j,h with
 |0,h=>simp at h;subst h;simp [Addr.add]
 |1,h=>simp at h;subst h;simp [Addr.add]
 |2,h=>simp at h;subst h;simp [Addr.add]
 |3,h=>simp at h;subst h;simp [Addr.add]
 |4,h=>simp at h;subst h;simp [Addr.add]
 |j+5,h=>simp at h
theorem cell_u (w:World) (e:TypeId) (a:Value) (N:Nat) (hN:N=w.heap.size): ∀(j:Nat) (u:Value),[a][j]? =some u→(w.alloc (.cells #[a] e)).cell? ((⟨N,0,none⟩:Addr).add j)=some u:=by
 subst hN;intro j u h;match j,h with
 |0,h=>simp at h;subst h;simp [Addr.add]
 |j+1,h=>simp at h
def TuR (p:Rq→Bool) (f:Int) (L:List Rq) (B Q:Nat) (v:Value) (w:World) (o i:Value) (wr:World):Prop:=
 ∃k:Nat,k≤L.length∧i=.int .i64 k∧HAt wr B Q v (halfL p f L k)∧Turn rB Q v v w wr∧wr.ownsRow w.heap.size 3 1 o (turnI p (L.take k)).length (cels iK.c (turnI p (L.take k)))
structure TuS (p:Rq→Bool) (f:Int) (L:List Rq) (B Q:Nat) (v:Value) (w:World) (k:Nat) (r:Rq) (o:Value) (wr:World):Prop where
 lt:k<L.length
 hr:L[k]? =some r
 num:r.id=(k:Int)+1
 hA:HAt wr B Q v (halfL p f L k)
 hT:Turn rB Q v v w wr
 own:wr.ownsRow w.heap.size 3 1 o (turnI p (L.take k)).length (cels iK.c (turnI p (L.take k)))
 qw:Q<w.heap.size
 gw: ∀g,v.ownBlock=some g→g<w.heap.size
section
variable {p : Rq → Bool} {f : Int} {L : List Rq} {B Q g n cap k : Nat} {w wr w3 : World} {r : Rq} {o o' : Value} {ob : Obj}
theorem TuS.no {v:Value} (h:TuS p f L B Q v w k r o wr) (hp:p r=false):TuR p f L B Q v w o (.int .i64 ((k+1:Nat):Int)) wr:=by
 have e1:turnI p (L.take (k+1))=turnI p (L.take k):=by rw [turnI_step h.hr,hp];simp
 exact⟨k+1,h.lt,rfl,by rw [←halfL_same h.hr hp];exact h.hA,h.hT,by rw [e1];exact h.own⟩
theorem TuS.store {N0:Nat} {C0:List Value} (h:TuS p f L B Q (.slice (some ⟨g,0,none⟩) n cap) w k r o wr) (ho:wr.ownsRow w.heap.size 3 1 o N0 C0) :(wr.setCell ⟨g,j,none⟩ u).ownsRow w.heap.size 3 1 o N0 C0:=by
 refine owns_block ho (fun b hb=>Below.heap_setCell wr _ _ b (fun e=> ?_));have h1:=(ho.lt b hb).1;have h2:=h.gw g rfl;simp only at e;omega
theorem TuS.yes (h:TuS p f L B Q (.slice (some ⟨g,0,none⟩) L.length cap) w k r o wr) (hp:p r=true)
  (hown3:w3.ownsRow w.heap.size 3 1 o' ((turnI p (L.take k)).length+1) (cels iK.c (turnI p (L.take k))++ [.int .i64 ((k:Int)+1)]))
  (hg:((wr.setCell ⟨g,k*5+3,none⟩ (.int .i64 f)).alloc ob).grownBy w3 o.ownBlock):TuR p f L B Q (.slice (some ⟨g,0,none⟩) L.length cap) w o' (.int .i64 ((k+1:Nat):Int)) w3:=by
 have e1:turnI p (L.take (k+1))=turnI p (L.take k)++ [(k:Int)+1]:=by rw [turnI_step h.hr,hp,h.num];rfl
 have hA2:HAt (wr.setCell ⟨g,k*5+3,none⟩ (.int .i64 f)) B Q (.slice (some ⟨g,0,none⟩) L.length cap) (halfL p f L (k+1)):=by
  rw [←halfL_step h.hr];have e2:turnF p f r=⟨r.id,r.src,r.til,f,r.pod⟩:=by unfold turnF;rw [hp];rfl
  rw [e2];exact RAt.put (j:=3) h.hA (halfL_len _ _ _ _).symm (halfL_get h.hr) (by decide) rfl
 have hA3:=hA2.alloc ob;have hbo: ∀b,o.ownBlock=some b→w.heap.size≤b:=fun b hb=>(h.own.lt b hb).1;have hT2:=(h.hT.trans (Turn.setG (k*5+3) (.int .i64 f))).alloc ob;have hqw:=h.qw;refine⟨k+1,h.lt,rfl,RAt.kept hA3 (hg.block Q hA3.lt (fun e=>by have:=hbo Q e.symm;omega)) (fun b hb=>hg.block b (hA3.rowLt b hb) (fun e=>by have:=hbo b e.symm;have:=h.gw b hb;omega)),?_,?_⟩
 ·refine⟨hg.os.trans hT2.os,hg.tape.trans hT2.tape,hg.output.trans hT2.output,Xc hT2.size hg.size,fun b hb h1 h2=> ?_,fun b hb=>Or.inl hb,fun hQ hv j hj=>(Xf (a:=⟨Q,j,none⟩) (hg.block Q hA3.lt (fun e=>by have:=hbo Q e.symm;omega))).trans (hT2.rest hQ hv j hj)⟩;exact(hg.block b (Xb hb hT2.size) (fun e=>by have:=hbo b e.symm;omega)).trans (hT2.block b hb h1 h2)
 ·rw [e1,Xg,cels_append];exact hown3
end
def waitsOf (s:Int) (x:Rq):Bool:=x.src==s&&x.fat==1

def rV (r:Rq):Value:=.agg #[.int .i64 r.id,.int .i64 r.src,.int .i64 r.til,.int .i64 r.fat,.int .i64 r.pod]
def isW (r:Rq):Bool:=r.fat==1
def isR (r:Rq):Bool:=r.fat==2
def isWs (s:Int) (r:Rq):Bool:=r.fat==1&&r.src==s
theorem isW_many (L:List Rq):L.countP isW=many (-1) 1 L:=by unfold many;congr 1
theorem isR_many (L:List Rq):L.countP isR=many (-1) 2 L:=by unfold many;congr 1
theorem isWs_many (L:List Rq) (s:Int) (h:0≤s):L.countP (isWs s)=many s 1 L:=by
 unfold many;congr 1;funext r;unfold isWs isOf;have:(s== -1)=false:=by rw [beq_eq_false_iff_ne];omega
 rw [this,Ya,Bool.and_comm]
theorem countP_step {p:Rq→Bool} {L:List Rq} {k:Nat} {r:Rq} (h:L[k]? =some r):(L.take (k+1)).countP p=(L.take k).countP p+if p r then 1 else 0:=by
 rw [XB,h,List.countP_append];simp [Yp]
theorem waits_any (r:Rq) (w:World):CB 109 #[rV r] w (.bool (isW r)):=by
 unfold rV;go_enter func109,ntmps109;go_wp2;go_ret;exact⟨rfl,(Below.refl _ _).alloc (Xa _) _⟩
theorem runs_any (r:Rq) (w:World):CB 124 #[rV r] w (.bool (isR r)):=by
 unfold rV;go_enter func124,ntmps124;go_wp2;go_ret;exact⟨rfl,(Below.refl _ _).alloc (Xa _) _⟩
def tmB (now:Int):Bool:=decide (0≤now)&&decide (now≤1099511627776)
theorem isTime_any (now:Int) (w:World):CS 107 #[.int .i64 now] w (.bool (tmB now)):=by
 unfold tmB;cases h1:decide (0≤now)<;>cases h2:decide (now≤1099511627776)
 all_goals
  go_enter func107,ntmps107;go_wp2;go_ret;exact⟨rfl,rfl⟩
theorem late1_any (r:Rq) (C:Nat) (c:Int) (w:World) (hC:w.cell? ⟨C,0,none⟩=some (.int .i64 c)):
  CB 108 #[rV r,.pointer (some ⟨C,0,none⟩)] w (.bool (isLate c r)):=by
 have hl:=Xj w _ hC;simp only at hl;have c3:=fun w=>waits_any r w;have HP:Hid ((isLate c r)=(isW r&&(decide (r.til≤c)))):=rfl;simp only [rV]at c3;unfold rV;obtain⟨W,hW⟩: ∃W,W=w.alloc (.cells #[.int .i64 r.id,.int .i64 r.src,.int .i64 r.til,.int .i64 r.fat,.int .i64 r.pod] 122):=⟨_,rfl⟩
 have hb:Below w.heap.size w W:=by rw [hW];exact(Below.refl _ _).alloc (Xa _) _
 have hC1:=(zk hC hb)
 have hlW:C<W.heap.size:=Xb hl hb.size;have hsW:W.heap.size=w.heap.size+1:=by rw [hW];simp
 have x1:W.cell? ⟨w.heap.size,1,none⟩=some (.int .i64 r.src):=by rw [hW];simp
 have x2:W.cell? ⟨w.heap.size,2,none⟩=some (.int .i64 r.til):=by rw [hW];simp
 have x4:W.cell? ⟨w.heap.size,4,none⟩=some (.int .i64 r.pod):=by rw [hW];simp
 have HW:=zh hW;clear hC hW;cases h1:isW r
 ·rw [h1]at c3;have HR:Hid ((isLate c r)=false):=by unfold Hid;rw [HP.out,h1];rfl
  go_enter func108,ntmps108;go_wp2_with(go_at_call 109;rw [←HW.out];(with_reducible refine zg (c3 _) fun w3 hb3=>?_))
  go_ret;exact⟨by rw [HR.out];rfl,(zu hb hb3)⟩
 ·rw [h1]at c3;have HR:Hid ((isLate c r)=(decide (r.til≤c))):=by unfold Hid;rw [HP.out,h1];rfl
  go_enter func108,ntmps108;go_wp2_with(go_at_call 109;rw [←HW.out];(with_reducible refine zg (c3 _) fun w3 hb3=>?_);have y1:=(zk x1 hb3);have y2:=(zk x2 hb3);have y4:=(zk x4 hb3);have yC:=(zk hC1 hb3))
  go_ret;exact⟨by rw [HR.out];rfl,(zu hb hb3)⟩
theorem lost1_any (r:Rq) (C:Nat) (c:Int) (w:World) (hC:w.cell? ⟨C,0,none⟩=some (.int .i64 c)):
  CB 123 #[rV r,.pointer (some ⟨C,0,none⟩)] w (.bool (isAt c r)):=by
 have hl:=Xj w _ hC;simp only at hl;have c3:=fun w=>runs_any r w;have HP:Hid ((isAt c r)=(isR r&&(r.pod==c))):=rfl;simp only [rV]at c3;unfold rV;obtain⟨W,hW⟩: ∃W,W=w.alloc (.cells #[.int .i64 r.id,.int .i64 r.src,.int .i64 r.til,.int .i64 r.fat,.int .i64 r.pod] 122):=⟨_,rfl⟩
 have hb:Below w.heap.size w W:=by rw [hW];exact(Below.refl _ _).alloc (Xa _) _
 have hC1:=(zk hC hb)
 have hlW:C<W.heap.size:=Xb hl hb.size;have hsW:W.heap.size=w.heap.size+1:=by rw [hW];simp
 have x1:W.cell? ⟨w.heap.size,1,none⟩=some (.int .i64 r.src):=by rw [hW];simp
 have x2:W.cell? ⟨w.heap.size,2,none⟩=some (.int .i64 r.til):=by rw [hW];simp
 have x4:W.cell? ⟨w.heap.size,4,none⟩=some (.int .i64 r.pod):=by rw [hW];simp
 have HW:=zh hW;clear hC hW;cases h1:isR r
 ·rw [h1]at c3;have HR:Hid ((isAt c r)=false):=by unfold Hid;rw [HP.out,h1];rfl
  go_enter func123,ntmps123;go_wp2_with(go_at_call 124;rw [←HW.out];(with_reducible refine zg (c3 _) fun w3 hb3=>?_))
  go_ret;exact⟨by rw [HR.out];rfl,(zu hb hb3)⟩
 ·rw [h1]at c3;have HR:Hid ((isAt c r)=(r.pod==c)):=by unfold Hid;rw [HP.out,h1];rfl
  go_enter func123,ntmps123;go_wp2_with(go_at_call 124;rw [←HW.out];(with_reducible refine zg (c3 _) fun w3 hb3=>?_);have y1:=(zk x1 hb3);have y2:=(zk x2 hb3);have y4:=(zk x4 hb3);have yC:=(zk hC1 hb3))
  go_ret;exact⟨by rw [HR.out];rfl,(zu hb hb3)⟩
theorem room1_any (r:Rq) (C:Nat) (c:Int) (w:World) (hC:w.cell? ⟨C,0,none⟩=some (.int .i64 c)):
  CB 154 #[rV r,.pointer (some ⟨C,0,none⟩)] w (.bool (isWs c r)):=by
 have hl:=Xj w _ hC;simp only at hl;have c3:=fun w=>waits_any r w;have HP:Hid ((isWs c r)=(isW r&&(r.src==c))):=rfl;simp only [rV]at c3;unfold rV;obtain⟨W,hW⟩: ∃W,W=w.alloc (.cells #[.int .i64 r.id,.int .i64 r.src,.int .i64 r.til,.int .i64 r.fat,.int .i64 r.pod] 122):=⟨_,rfl⟩
 have hb:Below w.heap.size w W:=by rw [hW];exact(Below.refl _ _).alloc (Xa _) _
 have hC1:=(zk hC hb)
 have hlW:C<W.heap.size:=Xb hl hb.size;have hsW:W.heap.size=w.heap.size+1:=by rw [hW];simp
 have x1:W.cell? ⟨w.heap.size,1,none⟩=some (.int .i64 r.src):=by rw [hW];simp
 have x2:W.cell? ⟨w.heap.size,2,none⟩=some (.int .i64 r.til):=by rw [hW];simp
 have x4:W.cell? ⟨w.heap.size,4,none⟩=some (.int .i64 r.pod):=by rw [hW];simp
 have HW:=zh hW;clear hC hW;cases h1:isW r
 ·rw [h1]at c3;have HR:Hid ((isWs c r)=false):=by unfold Hid;rw [HP.out,h1];rfl
  go_enter func154,ntmps154;go_wp2_with(go_at_call 109;rw [←HW.out];(with_reducible refine zg (c3 _) fun w3 hb3=>?_))
  go_ret;exact⟨by rw [HR.out];rfl,(zu hb hb3)⟩
 ·rw [h1]at c3;have HR:Hid ((isWs c r)=(r.src==c)):=by unfold Hid;rw [HP.out,h1];rfl
  go_enter func154,ntmps154;go_wp2_with(go_at_call 109;rw [←HW.out];(with_reducible refine zg (c3 _) fun w3 hb3=>?_);have y1:=(zk x1 hb3);have y2:=(zk x2 hb3);have y4:=(zk x4 hb3);have yC:=(zk hC1 hb3))
  go_ret;exact⟨by rw [HR.out];rfl,(zu hb hb3)⟩
def CnR (p:Rq→Bool) (L:List Rq) (w:World) (d i:Value) (wr:World):Prop:= ∃k:Nat,k≤L.length∧i=.int .i64 k∧d=.int .i64 ((L.take k).countP p:Int)∧Below w.heap.size w wr
theorem count_waits (B Q:Nat) (v:Value) (L:List Rq) (w:World) (hA:HAt w B Q v L) (hL:L.length≤200):
  CB 155 #[.pointer (some ⟨Q,49,none⟩),.func (.func 109) #[] #[]] w (.int .i64 (L.countP isW:Int)):=by
 obtain⟨ao,cap,rfl,hc1,hc2,hao⟩:=hA.form;have cV:=hA.cV;have hR:=hA.row;clear hA;go_enter func155,ntmps155;go_wp2;go_loopw [5,13] (fun d i wr=>CnR isW L w d i wr) (fun _ i _=>L.length-(intOf i).toNat)
 case atStart=>exact⟨0,by omega,rfl,by simp,Below.refl _ _⟩
 case round=>
  obtain⟨k,hk,rfl,rfl,hb⟩:=hrel;by_cases hlt:k<L.length
  ·have hlt':(k:Int)<(L.length:Int):=by omega
   obtain⟨g,rfl,hg,hc⟩:=row_req (hR.below hb) (by omega);obtain⟨r,hr⟩: ∃r,L[k]? =some r:=⟨L[k],by simp [hlt]⟩
   obtain⟨c0,c1,c2,c3,c4⟩:=hc k r hr;have hs:=countP_step (p:=isW) hr;have hd:(L.take k).countP isW≤200:=Xc Yw (by rw [Xt];omega);obtain⟨W,hW⟩: ∃W,W=wr.alloc (.cells #[.int .i64 r.id,.int .i64 r.src,.int .i64 r.til,.int .i64 r.fat,.int .i64 r.pod] 122):=⟨_,rfl⟩
   have hbw:Below w.heap.size w W:=by rw [hW];exact hb.alloc hb.size _
   have cl:=waits_any r W;simp only [rV]at cl;have HW:=zh hW;have HB:=zh hbw;clear hc hR cV hb hbw hW hr;cases hp:isW r
   ·simp only [hp,XU,if_false,XD]at hs cl;go_wp2_with(go_at_call 109;rw [←HW.out];(with_reducible refine zg cl fun w3 hb3=>?_))
    go_roundw
    case rel=>exact⟨k+1,by omega,rfl,by rw [hs],(zu HB.out hb3)⟩
    case measure=>simp [intOf];omega
   ·simp only [hp,if_true]at hs cl;go_wp2_with(go_at_call 109;rw [←HW.out];(with_reducible refine zg cl fun w3 hb3=>?_))
    go_roundw
    case rel=>exact⟨k+1,by omega,rfl,by rw [hs];simp,(zu HB.out hb3)⟩
    case measure=>simp [intOf];omega
  ·obtain rfl:k=L.length:=by omega
   go_wp2;go_ret;exact⟨by rw [XC];rfl,hb⟩
theorem count_runs (B Q:Nat) (v:Value) (L:List Rq) (w:World) (hA:HAt w B Q v L) (hL:L.length≤200):
  CB 155 #[.pointer (some ⟨Q,49,none⟩),.func (.func 124) #[] #[]] w (.int .i64 (L.countP isR:Int)):=by
 obtain⟨ao,cap,rfl,hc1,hc2,hao⟩:=hA.form;have cV:=hA.cV;have hR:=hA.row;clear hA;go_enter func155,ntmps155;go_wp2;go_loopw [5,13] (fun d i wr=>CnR isR L w d i wr) (fun _ i _=>L.length-(intOf i).toNat)
 case atStart=>exact⟨0,by omega,rfl,by simp,Below.refl _ _⟩
 case round=>
  obtain⟨k,hk,rfl,rfl,hb⟩:=hrel;by_cases hlt:k<L.length
  ·have hlt':(k:Int)<(L.length:Int):=by omega
   obtain⟨g,rfl,hg,hc⟩:=row_req (hR.below hb) (by omega);obtain⟨r,hr⟩: ∃r,L[k]? =some r:=⟨L[k],by simp [hlt]⟩
   obtain⟨c0,c1,c2,c3,c4⟩:=hc k r hr;have hs:=countP_step (p:=isR) hr;have hd:(L.take k).countP isR≤200:=Xc Yw (by rw [Xt];omega);obtain⟨W,hW⟩: ∃W,W=wr.alloc (.cells #[.int .i64 r.id,.int .i64 r.src,.int .i64 r.til,.int .i64 r.fat,.int .i64 r.pod] 122):=⟨_,rfl⟩
   have hbw:Below w.heap.size w W:=by rw [hW];exact hb.alloc hb.size _
   have cl:=runs_any r W;simp only [rV]at cl;have HW:=zh hW;have HB:=zh hbw;clear hc hR cV hb hbw hW hr;cases hp:isR r
   ·simp only [hp,XU,if_false,XD]at hs cl;go_wp2_with(go_at_call 124;rw [←HW.out];(with_reducible refine zg cl fun w3 hb3=>?_))
    go_roundw
    case rel=>exact⟨k+1,by omega,rfl,by rw [hs],(zu HB.out hb3)⟩
    case measure=>simp [intOf];omega
   ·simp only [hp,if_true]at hs cl;go_wp2_with(go_at_call 124;rw [←HW.out];(with_reducible refine zg cl fun w3 hb3=>?_))
    go_roundw
    case rel=>exact⟨k+1,by omega,rfl,by rw [hs];simp,(zu HB.out hb3)⟩
    case measure=>simp [intOf];omega
  ·obtain rfl:k=L.length:=by omega
   go_wp2;go_ret;exact⟨by rw [XC];rfl,hb⟩
theorem count_room (B Q:Nat) (v:Value) (L:List Rq) (C:Nat) (c:Int) (w:World) (hA:HAt w B Q v L) (hL:L.length≤200) (hC:w.cell? ⟨C,0,none⟩=some (.int .i64 c)):
  CB 155 #[.pointer (some ⟨Q,49,none⟩),.func (.func 154) #[] #[.pointer (some ⟨C,0,none⟩)]] w (.int .i64 (L.countP (isWs c):Int)):=by
 obtain⟨ao,cap,rfl,hc1,hc2,hao⟩:=hA.form;have cV:=hA.cV;have hR:=hA.row;clear hA;have hCl:=Xj w _ hC;simp only at hCl;go_enter func155,ntmps155;go_wp2;go_loopw [5,13] (fun d i wr=>CnR (isWs c) L w d i wr) (fun _ i _=>L.length-(intOf i).toNat)
 case atStart=>exact⟨0,by omega,rfl,by simp,Below.refl _ _⟩
 case round=>
  obtain⟨k,hk,rfl,rfl,hb⟩:=hrel;by_cases hlt:k<L.length
  ·have hlt':(k:Int)<(L.length:Int):=by omega
   obtain⟨g,rfl,hg,hc⟩:=row_req (hR.below hb) (by omega);obtain⟨r,hr⟩: ∃r,L[k]? =some r:=⟨L[k],by simp [hlt]⟩
   obtain⟨c0,c1,c2,c3,c4⟩:=hc k r hr;have hs:=countP_step (p:=(isWs c)) hr;have hd:(L.take k).countP (isWs c)≤200:=Xc Yw (by rw [Xt];omega);obtain⟨W,hW⟩: ∃W,W=wr.alloc (.cells #[.int .i64 r.id,.int .i64 r.src,.int .i64 r.til,.int .i64 r.fat,.int .i64 r.pod] 122):=⟨_,rfl⟩
   have hbw:Below w.heap.size w W:=by rw [hW];exact hb.alloc hb.size _
   have hC2:=(zk hC hbw)
   have cl:=room1_any r C c W hC2;simp only [rV]at cl;have HW:=zh hW;have HB:=zh hbw;clear hc hR cV hb hbw hW hr;cases hp:isWs c r
   ·simp only [hp,XU,if_false,XD]at hs cl;go_wp2_with(go_at_call 154;rw [←HW.out];(with_reducible refine zg cl fun w3 hb3=>?_))
    go_roundw
    case rel=>exact⟨k+1,by omega,rfl,by rw [hs],(zu HB.out hb3)⟩
    case measure=>simp [intOf];omega
   ·simp only [hp,if_true]at hs cl;go_wp2_with(go_at_call 154;rw [←HW.out];(with_reducible refine zg cl fun w3 hb3=>?_))
    go_roundw
    case rel=>exact⟨k+1,by omega,rfl,by rw [hs];simp,(zu HB.out hb3)⟩
    case measure=>simp [intOf];omega
  ·obtain rfl:k=L.length:=by omega
   go_wp2;go_ret;exact⟨by rw [XC];rfl,hb⟩

theorem TuS.at {p:Rq→Bool} {f:Int} {L:List Rq} {B Q:Nat} {v:Value} {w:World} {k:Nat} {r:Rq} {o:Value} {wr:World} (h:TuS p f L B Q v w k r o wr) (hb:Below wr.heap.size wr W):TuS p f L B Q v w k r o W:=
 ⟨h.lt,h.hr,h.num,h.hA.below hb,h.hT.trans (Turn.of_below hb),owns_block h.own (fun g hg=>hb.block g (h.own.lt g hg).2),h.qw,h.gw⟩
theorem end_late (B Q:Nat) (v:Value) (L:List Rq) (C:Nat) (c f:Int) (w:World) (hA:HAt w B Q v L) (hI:Inv L) (hC:w.cell? ⟨C,0,none⟩=some (.int .i64 c)) (hCQ:C≠Q) (hCv:v.ownBlock≠some C):
  Calls prog 110 #[.pointer (some ⟨Q,49,none⟩),.func (.func 108) #[] #[.pointer (some ⟨C,0,none⟩)],.int .i64 f] w fun e w'=> ∃o,e=.returned o∧w'.ownsRow w.heap.size 3 1 o (turnI (isLate c) L).length (cels iK.c (turnI (isLate c) L))∧HAt w' B Q v (turnL (isLate c) f L)∧Turn rB Q v v w w':=by
 obtain⟨i0,hi,hz0,hz1,hz2⟩:=info_parts info_int;have hlen:=hI.len;obtain⟨ao,cap,rfl,hc1,hc2,hao⟩:=hA.form;have cV0:=hA.cV;go_enter func110,ntmps110;go_wp2;go_loopw [7,15] (fun o i wr=>TuR (isLate c) f L B Q (.slice ao L.length cap) w o i wr) (fun _ i _=>L.length-(intOf i).toNat)
 case atStart=>exact⟨0,by omega,rfl,by rw [halfL_zero];exact hA,Turn.refl _ _ _,XO _ _ _ _⟩
 case round=>
  have hQw:=hA.lt;have hgw:=hA.rowLt;clear hA cV0;obtain⟨k,hk,rfl,hA,hT,hown⟩:=hrel;have hQl:=hA.lt;by_cases hlt:k<L.length
  ·have hlt':(k:Int)<(L.length:Int):=by omega
   obtain⟨g,rfl⟩:=hao (by omega);obtain⟨r,hr⟩: ∃r,L[k]? =some r:=⟨L[k],by simp [hlt]⟩
   have hrg:=halfL_get (p:=isLate c) (f:=f) hr;obtain⟨d0,d1,d2,d3,d4,_⟩:=hA.req (halfL_len _ _ _ _).symm hrg;have hnum:=hI.num k r hr;have hgQ:=hA.gQ;have hXl:(turnI (isLate c) (L.take k)).length≤200:=Xc (turnI_le _ _) (by rw [Xt];omega);have hsz:=hT.size;have hCr:=hT.cell hC hCQ hCv;have hCl:=Xj wr _ hCr;simp only at hCl;obtain⟨W,hW⟩: ∃W,W=wr.alloc (.cells #[.int .i64 r.id,.int .i64 r.src,.int .i64 r.til,.int .i64 r.fat,.int .i64 r.pod] 122):=⟨_,rfl⟩
   have hbw:Below wr.heap.size wr W:=by rw [hW];exact(Below.refl _ _).alloc (Xa _) _
   have hsW:W.heap.size=wr.heap.size+1:=by rw [hW];simp
   have x0:W.cell? ⟨wr.heap.size,0,none⟩=some (.int .i64 r.id):=by rw [hW];simp
   rw [hnum]at x0;have hC2:=(zk hCr hbw)
   have cl:=late1_any r C c W hC2;simp only [rV]at cl;have HW:=zh hW;have HS:Hid (TuS (isLate c) f L B Q (.slice (some ⟨g,0,none⟩) L.length cap) w k r u7 W):=TuS.at ⟨hlt,hr,hnum,hA,hT,hown,hQw,hgw⟩ hbw;have HN:=zh hnum;clear hA hT hnum hrg hgw hown hr hW hbw hCr hCl hC hCQ hCv hC2;generalize hN0:(turnI (isLate c) (L.take k)).length=N0 at*;generalize hC0:cels iK.c (turnI (isLate c) (L.take k))=C0 at*;have HN0:=zh hN0;have HC0:=zh hC0;clear hN0 hC0;cases hp:isLate c r
   ·rw [hp]at cl;go_wp2_with(go_at_call 108;rw [←HW.out];(with_reducible refine zg cl fun w3 hb3=>?_))
    go_roundw
    case rel=>exact(HS.out.at hb3).no hp
    case measure=>simp [intOf];omega
   ·rw [hp]at cl
    go_wp2_with (first
     |(go_at_call 108;rw [←HW.out];(with_reducible refine zg cl fun w3 hb3=>?_);have HS3:Hid (TuS (isLate c) f L B Q (.slice (some ⟨g,0,none⟩) L.length cap) w k r u7 w3):=HS.out.at hb3;have cV3:=HS3.out.hA.cV;have y0:=(zk x0 hb3);obtain⟨_,_,_,y3,_,fz3⟩:=HS3.out.hA.req (halfL_len _ _ _ _).symm (halfL_get HS3.out.hr);have f3:=fz3 (k*5+3);have hs3:=hb3.size;have hng: ¬g=wr.heap.size:=(fun e=>by have h1:=HS.out.gw g rfl;omega);have hng2: ¬wr.heap.size=g:=(fun e=>hng e.symm);clear fz3;have HO2:Hid ((w3.setCell ⟨g,k*5+3,none⟩ (.int .i64 f)).ownsRow w.heap.size 3 1 u7 N0 C0):=HS3.out.store (by have h1:=HS3.out.own;rw [HN0.out,HC0.out]at h1;exact h1))
     |(at_builtin;refine wpList_append_own _ rfl _ _ 54 rfl w.heap.size 3 i0 (.int .i64 0) 1 8 underlying54 hi hz0 hz1 hz2 rfl (by decide) _ N0 C0 rfl (HO2.out.alloc _) ⟨w3.heap.size,0,none⟩ 1 1 [.int .i64 ((k:Int)+1)] rfl rfl (cell_u _ _ _ _ (by simp)) (fun u hu=>by simp at hu;rcases hu with rfl;rfl) (by unfold maxLen;omega) (by omega) (by simp;omega) ?_;intro v' w4 hown4 hgrow4 _))
    go_roundw
    case rel=>exact HS3.out.yes hp (by rw [HN0.out,HC0.out];exact hown4) hgrow4
    case measure=>simp [intOf];omega
  ·obtain rfl:k=L.length:=by omega
   rw [XC]at hown;rw [halfL_all]at hA;obtain⟨bo,bn,bc,hu⟩: ∃bo bn bc,u7=.slice bo bn bc:=by
    rcases hown.2 with⟨h0,_⟩|⟨_,_,_,h0,_⟩<;>exact⟨_,_,_,h0⟩
   subst hu;go_wp2;go_ret;exact⟨_,rfl,hown,hA,hT⟩
theorem end_lost (B Q:Nat) (v:Value) (L:List Rq) (C:Nat) (c f:Int) (w:World) (hA:HAt w B Q v L) (hI:Inv L) (hC:w.cell? ⟨C,0,none⟩=some (.int .i64 c)) (hCQ:C≠Q) (hCv:v.ownBlock≠some C):
  Calls prog 110 #[.pointer (some ⟨Q,49,none⟩),.func (.func 123) #[] #[.pointer (some ⟨C,0,none⟩)],.int .i64 f] w fun e w'=> ∃o,e=.returned o∧w'.ownsRow w.heap.size 3 1 o (turnI (isAt c) L).length (cels iK.c (turnI (isAt c) L))∧HAt w' B Q v (turnL (isAt c) f L)∧Turn rB Q v v w w':=by
 obtain⟨i0,hi,hz0,hz1,hz2⟩:=info_parts info_int;have hlen:=hI.len;obtain⟨ao,cap,rfl,hc1,hc2,hao⟩:=hA.form;have cV0:=hA.cV;go_enter func110,ntmps110;go_wp2;go_loopw [7,15] (fun o i wr=>TuR (isAt c) f L B Q (.slice ao L.length cap) w o i wr) (fun _ i _=>L.length-(intOf i).toNat)
 case atStart=>exact⟨0,by omega,rfl,by rw [halfL_zero];exact hA,Turn.refl _ _ _,XO _ _ _ _⟩
 case round=>
  have hQw:=hA.lt;have hgw:=hA.rowLt;clear hA cV0;obtain⟨k,hk,rfl,hA,hT,hown⟩:=hrel;have hQl:=hA.lt;by_cases hlt:k<L.length
  ·have hlt':(k:Int)<(L.length:Int):=by omega
   obtain⟨g,rfl⟩:=hao (by omega);obtain⟨r,hr⟩: ∃r,L[k]? =some r:=⟨L[k],by simp [hlt]⟩
   have hrg:=halfL_get (p:=isAt c) (f:=f) hr;obtain⟨d0,d1,d2,d3,d4,_⟩:=hA.req (halfL_len _ _ _ _).symm hrg;have hnum:=hI.num k r hr;have hgQ:=hA.gQ;have hXl:(turnI (isAt c) (L.take k)).length≤200:=Xc (turnI_le _ _) (by rw [Xt];omega);have hsz:=hT.size;have hCr:=hT.cell hC hCQ hCv;have hCl:=Xj wr _ hCr;simp only at hCl;obtain⟨W,hW⟩: ∃W,W=wr.alloc (.cells #[.int .i64 r.id,.int .i64 r.src,.int .i64 r.til,.int .i64 r.fat,.int .i64 r.pod] 122):=⟨_,rfl⟩
   have hbw:Below wr.heap.size wr W:=by rw [hW];exact(Below.refl _ _).alloc (Xa _) _
   have hsW:W.heap.size=wr.heap.size+1:=by rw [hW];simp
   have x0:W.cell? ⟨wr.heap.size,0,none⟩=some (.int .i64 r.id):=by rw [hW];simp
   rw [hnum]at x0;have hC2:=(zk hCr hbw)
   have cl:=lost1_any r C c W hC2;simp only [rV]at cl;have HW:=zh hW;have HS:Hid (TuS (isAt c) f L B Q (.slice (some ⟨g,0,none⟩) L.length cap) w k r u7 W):=TuS.at ⟨hlt,hr,hnum,hA,hT,hown,hQw,hgw⟩ hbw;have HN:=zh hnum;clear hA hT hnum hrg hgw hown hr hW hbw hCr hCl hC hCQ hCv hC2;generalize hN0:(turnI (isAt c) (L.take k)).length=N0 at*;generalize hC0:cels iK.c (turnI (isAt c) (L.take k))=C0 at*;have HN0:=zh hN0;have HC0:=zh hC0;clear hN0 hC0;cases hp:isAt c r
   ·rw [hp]at cl;go_wp2_with(go_at_call 123;rw [←HW.out];(with_reducible refine zg cl fun w3 hb3=>?_))
    go_roundw
    case rel=>exact(HS.out.at hb3).no hp
    case measure=>simp [intOf];omega
   ·rw [hp]at cl
    go_wp2_with (first
     |(go_at_call 123;rw [←HW.out];(with_reducible refine zg cl fun w3 hb3=>?_);have HS3:Hid (TuS (isAt c) f L B Q (.slice (some ⟨g,0,none⟩) L.length cap) w k r u7 w3):=HS.out.at hb3;have cV3:=HS3.out.hA.cV;have y0:=(zk x0 hb3);obtain⟨_,_,_,y3,_,fz3⟩:=HS3.out.hA.req (halfL_len _ _ _ _).symm (halfL_get HS3.out.hr);have f3:=fz3 (k*5+3);have hs3:=hb3.size;have hng: ¬g=wr.heap.size:=(fun e=>by have h1:=HS.out.gw g rfl;omega);have hng2: ¬wr.heap.size=g:=(fun e=>hng e.symm);clear fz3;have HO2:Hid ((w3.setCell ⟨g,k*5+3,none⟩ (.int .i64 f)).ownsRow w.heap.size 3 1 u7 N0 C0):=HS3.out.store (by have h1:=HS3.out.own;rw [HN0.out,HC0.out]at h1;exact h1))
     |(at_builtin;refine wpList_append_own _ rfl _ _ 54 rfl w.heap.size 3 i0 (.int .i64 0) 1 8 underlying54 hi hz0 hz1 hz2 rfl (by decide) _ N0 C0 rfl (HO2.out.alloc _) ⟨w3.heap.size,0,none⟩ 1 1 [.int .i64 ((k:Int)+1)] rfl rfl (cell_u _ _ _ _ (by simp)) (fun u hu=>by simp at hu;rcases hu with rfl;rfl) (by unfold maxLen;omega) (by omega) (by simp;omega) ?_;intro v' w4 hown4 hgrow4 _))
    go_roundw
    case rel=>exact HS3.out.yes hp (by rw [HN0.out,HC0.out];exact hown4) hgrow4
    case measure=>simp [intOf];omega
  ·obtain rfl:k=L.length:=by omega
   rw [XC]at hown;rw [halfL_all]at hA;obtain⟨bo,bn,bc,hu⟩: ∃bo bn bc,u7=.slice bo bn bc:=by
    rcases hown.2 with⟨h0,_⟩|⟨_,_,_,h0,_⟩<;>exact⟨_,_,_,h0⟩
   subst hu;go_wp2;go_ret;exact⟨_,rfl,hown,hA,hT⟩

def mayL (L:List Rq):Nat→List Int
 |0=> []
 |k+1=>mayL L k++(match L[k]? with|some r=>if runOk L k r then [(k:Int)+1]else []|none=> [])
theorem mayL_step {L:List Rq} {k:Nat} {r:Rq} (h:L[k]? =some r):mayL L (k+1)=mayL L k++if runOk L k r then [(k:Int)+1]else []:=by
 show mayL L k++_=_;rw [h]
theorem mayL_le (L:List Rq) (k:Nat):(mayL L k).length≤k:=by
 induction k with
 |zero=>simp [mayL]
 |succ k ih=>
  have:(mayL L (k+1)).length≤(mayL L k).length+1:=by
   show(mayL L k++_).length≤_;rw [Xg];cases h:L[k]? with
   |none=>simp
   |some r=>cases hr:runOk L k r<;>simp [hr]
  omega
theorem mem_mayL (L:List Rq) (k:Nat) (x:Int):x∈mayL L k↔ ∃(i:Nat) (r:Rq),i<k∧L[i]? =some r∧runOk L i r=true∧x=(i:Int)+1:=by
 induction k with
 |zero=>simp [mayL]
 |succ k ih=>
  show x∈mayL L k++_↔_;rw [Xp,ih];constructor
  ·rintro(⟨i,r,h1,h2,h3,h4⟩|h)
   ·exact⟨i,r,by omega,h2,h3,h4⟩
   ·cases hk:L[k]? with
    |none=>rw [hk]at h;simp at h
    |some r=>
     rw [hk]at h;cases hr:runOk L k r with
     |false=>simp [hr]at h
     |true=>simp [hr]at h;exact⟨k,r,by omega,hk,hr,h⟩
  ·rintro⟨i,r,h1,h2,h3,h4⟩;by_cases e:i=k
   ·subst e;refine Or.inr ?_;rw [h2];simp [h3,h4]
   ·exact Or.inl ⟨i,r,by omega,h2,h3,h4⟩
theorem mayL_mem {L:List Rq} {r:Rq} (hr:L[i]? =some r):(((i:Int)+1)∈mayL L L.length)↔runOk L i r=true:=by
 rw [mem_mayL];constructor
 ·rintro⟨j,x,h1,h2,h3,h4⟩;have:j=i:=by omega
  subst this;rw [hr]at h2;cases h2;exact h3
 ·intro h;exact⟨i,r,(Xe.1 hr).1,hr,h,rfl⟩
theorem mayL_more (L:List Rq) (k n:Nat): ∃l,mayL L (k+n)=mayL L k++l:=by
 induction n with
 |zero=>exact⟨[],by simp⟩
 |succ n ih=>
  obtain⟨l,hl⟩:=ih;refine⟨l++(match L[k+n]? with|some r=>if runOk L (k+n) r then [((k+n:Nat):Int)+1]else []|none=> []),?_⟩;show mayL L (k+n)++_=_;rw [show mayL L (k+n)=mayL L k++l from hl,X4];rfl
theorem may_next (L:List Rq):(mayL L L.length=[]∧nextN L=0∧nextB L=false)∨ ∃x l,mayL L L.length=x::l∧nextN L=x∧nextB L=true:=by
 cases hf:L.findIdx? (mayRun L)with
 |none=>
  refine Or.inl ⟨?_,by unfold nextN;rw [hf],by unfold nextB;rw [hf];rfl⟩;rw [List.findIdx?_eq_none_iff]at hf;rw [List.eq_nil_iff_forall_not_mem];intro x hx;obtain⟨i,r,h1,h2,h3,_⟩:=(mem_mayL _ _ _).1 hx;unfold runOk at h3;rw [Xq]at h3;have:=hf r (Xk h2);rw [h3.1]at this;cases this
 |some i=>
  obtain⟨hi,hp,hno⟩:=Yv.1 hf;have hr:L[i]? =some L[i]:=by simp
  have hok:runOk L i L[i]=true:=by
   unfold runOk;rw [hp,XJ,Ye];intro x hx;obtain⟨j,hj,rfl⟩:=List.mem_take_iff_getElem.1 hx;have hj2:j<i:=by omega
   have h1:=hno j hj2;cases hc:(!(L[j].src==L[i].src&&L[j].fat==1))with
   |true=>rfl
   |false=>
    simp at hc;obtain⟨c1,c2⟩:=hc;unfold mayRun at hp h1;rw [Xq]at hp;rw [c1,c2]at h1;simp at h1;exact absurd (by simpa using hp.2) h1
  have h0:mayL L i=[]:=by
   rw [List.eq_nil_iff_forall_not_mem];intro x hx;obtain⟨j,r,h1,h2,h3,_⟩:=(mem_mayL _ _ _).1 hx;unfold runOk at h3;rw [Xq]at h3;have h4:=hno j h1;have:L[j]'(by omega)=r:=by
    rw [Xz (by omega)]at h2;exact XZ h2
   rw [this,h3.1]at h4;exact absurd rfl h4
  obtain⟨l,hl⟩:=mayL_more L (i+1) (L.length-(i+1));rw [show i+1+(L.length-(i+1))=L.length by omega,mayL_step hr,h0,hok]at hl;exact Or.inr ⟨(i:Int)+1,l,by simpa using hl,by unfold nextN;rw [hf],by unfold nextB;rw [hf];rfl⟩

def bar1 (L:List Rq) (k:Nat) (s:Int):Bool:=(L.take k).any (fun x=>x.src==s&&x.fat==2)
def bar2 (L:List Rq) (k:Nat) (s:Int):Bool:=L.any (fun x=>x.src==s&&x.fat==2)||(L.take k).any (waitsOf s)
theorem bar1_step {L:List Rq} {k:Nat} {r:Rq} (h:L[k]? =some r) (s:Int):bar1 L (k+1) s=(bar1 L k s||(r.src==s&&r.fat==2)):=by
 unfold bar1;rw [XB,h,List.any_append];simp
theorem bar2_step {L:List Rq} {k:Nat} {r:Rq} (h:L[k]? =some r) (s:Int):bar2 L (k+1) s=(bar2 L k s||(r.src==s&&r.fat==1)):=by
 unfold bar2;rw [XB,h,List.any_append,Bool.or_assoc];simp [waitsOf]
theorem bar_mid (L:List Rq) (s:Int):bar2 L 0 s=bar1 L L.length s:=by
 unfold bar2 bar1;simp
theorem runOk_bar (L:List Rq) (k:Nat) (r:Rq) (hs:0≤r.src):runOk L k r=(r.fat==1&& !(bar2 L k r.src)):=by
 have e:(many r.src 2 L==0)= !(L.any (fun x=>x.src==r.src&&x.fat==2)):=by
  unfold many;have h1:isOf r.src 2=(fun x=>x.src==r.src&&x.fat==2):=by
   funext x;unfold isOf;have:(r.src== -1)=false:=by rw [beq_eq_false_iff_ne];omega
   rw [this,Ya]
  rw [h1];cases h:L.any (fun x=>x.src==r.src&&x.fat==2)with
  |true=>
   rw [List.any_eq_true]at h;rw [Bool.not_true,beq_eq_false_iff_ne];intro h0;rw [List.countP_eq_zero]at h0;obtain⟨x,hx,hp⟩:=h;exact h0 x hx hp
  |false=>
   rw [Bool.not_false,beq_iff_eq,List.countP_eq_zero];intro x hx hp;rw [List.any_eq_false]at h;exact h x hx hp
 unfold runOk mayRun bar2;rw [e,Bool.not_or,Bool.and_assoc];congr 2;rw [List.all_eq_not_any_not];congr 2;funext x;simp [waitsOf]
structure BarAt (w:World) (N:Nat) (f:Int→Bool):Prop where
 lt:N<w.heap.size
 c: ∀s:Nat,s<6→w.cell? ⟨N,s,none⟩=some (.bool (f s))
 fz: ∀j,w.frozen? ⟨N,j,none⟩=false
theorem BarAt.kept {w w':World} {f:Int→Bool} (h:BarAt w N f) (hb:w'.heap[N]? =w.heap[N]?):BarAt w' N f:=
 ⟨Rec.lt_of_block h.lt hb,fun s hs=>(Xf (w:=w) (a:=⟨N,s,none⟩) hb).trans (h.c s hs),fun j=>(Xl (w:=w) (a:=⟨N,j,none⟩) hb).trans (h.fz j)⟩
theorem BarAt.below {w w':World} {f:Int→Bool} (h:BarAt w N f) (hb:Below w.heap.size w w'):BarAt w' N f:=h.kept (hb.block N h.lt)
theorem BarAt.set {w:World} {f:Int→Bool} (h:BarAt w N f) (hs:s<6) (hf: ∀t:Nat,f' t=(f t||((s:Int)==(t:Int)))):BarAt (w.setCell ⟨N,s,none⟩ (.bool true)) N f':=by
 refine⟨by simpa using h.lt,fun t ht=> ?_,fun j=>by rw [Xi];exact h.fz j⟩;by_cases e:t=s
 ·subst e;rw [hf t];simp only [beq_self_eq_true,Bool.or_true];exact Xn _ _ _ (h.c t ht)
 ·have e2:((s:Int)==(t:Int))=false:=by rw [beq_eq_false_iff_ne];omega
  rw [hf t,e2,Bool.or_false,Xd (h:=fun e'=>e (congrArg Addr.off e').symm)];exact h.c t ht
theorem BarAt.same {w:World} {f:Int→Bool} (h:BarAt w N f) (hf: ∀t:Nat,f' t=f t):BarAt w N f':=⟨h.lt,fun s hs=>by rw [hf];exact h.c s hs,h.fz⟩

def M1R (L:List Rq) (w:World) (i:Value) (wr:World):Prop:= ∃k:Nat,k≤L.length∧i=.int .i64 k∧BarAt wr w.heap.size (bar1 L k)∧Below w.heap.size w wr
def M2R (L:List Rq) (w:World) (o i:Value) (wr:World):Prop:= ∃k:Nat,k≤L.length∧i=.int .i64 k∧BarAt wr w.heap.size (bar2 L k)∧wr.ownsRow (w.heap.size+1) 3 1 o (mayL L k).length (cels iK.c (mayL L k))∧Below w.heap.size w wr
theorem bar_new {w:World} (L:List Rq) (hW:W=w.alloc (.cells #[.bool false,.bool false,.bool false,.bool false,.bool false,.bool false] 207)):BarAt W w.heap.size (bar1 L 0):=by
 subst hW;refine⟨by simp,fun s hs=> ?_,fun j=>by simp⟩;have e:bar1 L 0 s=false:=by simp [bar1]
 rw [e];match s,hs with
 |0,_=>simp
 |1,_=>simp
 |2,_=>simp
 |3,_=>simp
 |4,_=>simp
 |5,_=>simp
theorem set_below {w:World} (h:Below N w W):Below N w (W.setCell ⟨N,j,none⟩ u):=
 ⟨h.os,h.tape,h.output,by simpa using h.size,fun k hk=>(Below.heap_setCell W ⟨N,j,none⟩ u k (by simp only;omega)).trans (h.block k hk)⟩
theorem M2R.yes {L:List Rq} {w w3 w4:World} {k:Nat} {r:Rq} {o o':Value} {ob:Obj} (hr:L[k]? =some r) (hs:r.src=(s:Int)) (hs6:s<6) (hf:r.fat=1) (hok:runOk L k r=true)
  (hB:BarAt w3 w.heap.size (bar2 L k)) (hb:Below w.heap.size w w3) (ho: ∀g,o.ownBlock=some g→w.heap.size+1≤g)
  (hg:((w3.setCell ⟨w.heap.size,s,none⟩ (.bool true)).alloc ob).grownBy w4 o.ownBlock) (hown:w4.ownsRow (w.heap.size+1) 3 1 o' ((mayL L k).length+1) (cels iK.c (mayL L k)++ [.int .i64 ((k:Int)+1)])):
  M2R L w o' (.int .i64 ((k+1:Nat):Int)) w4:=by
 have hk:k<L.length:=(Xe.1 hr).1;have e1:mayL L (k+1)=mayL L k++ [(k:Int)+1]:=by rw [mayL_step hr,hok];rfl
 have hB2:BarAt (w3.setCell ⟨w.heap.size,s,none⟩ (.bool true)) w.heap.size (bar2 L (k+1)):=hB.set hs6 (fun t=>by rw [bar2_step hr,hs,hf];simp);have hB3:=hB2.below ((Below.refl _ _).alloc (Xa _) ob);have hb2:=(set_below (j:=s) (u:=.bool true) hb).alloc (by simpa using hb.size) ob;refine⟨k+1,hk,rfl,hB3.kept (hg.block _ hB3.lt (fun e=>by have:=ho _ e.symm;omega)),by rw [e1,Xg,cels_append];exact hown,?_⟩;exact⟨hg.os.trans hb2.os,hg.tape.trans hb2.tape,hg.output.trans hb2.output,Xc hb2.size hg.size,fun j hj=>(hg.block j (Xb hj hb2.size) (fun e=>by have:=ho _ e.symm;omega)).trans (hb2.block j hj)⟩
theorem M2R.no {L:List Rq} {w w3:World} {k:Nat} {r:Rq} {o:Value} (hr:L[k]? =some r) (hok:runOk L k r=false) (hf:r.fat=1→bar2 L k r.src=true)
  (hB:BarAt w3 w.heap.size (bar2 L k)) (hb:Below w.heap.size w w3) (hown:w3.ownsRow (w.heap.size+1) 3 1 o (mayL L k).length (cels iK.c (mayL L k))):
  M2R L w o (.int .i64 ((k+1:Nat):Int)) w3:=by
 have hk:k<L.length:=(Xe.1 hr).1;have e1:mayL L (k+1)=mayL L k:=by rw [mayL_step hr,hok];simp
 refine⟨k+1,hk,rfl,hB.same (fun t=> ?_),by rw [e1];exact hown,hb⟩;rw [bar2_step hr];cases h1:(r.src==(t:Int)&&r.fat==1)with
 |false=>simp
 |true=>
  simp at h1;rw [Bool.or_true,←h1.1];exact(hf h1.2).symm
theorem may_any (B Q:Nat) (v:Value) (L:List Rq) (w:World) (hA:HAt w B Q v L) (hI:Inv L):
  Calls prog 148 #[.pointer (some ⟨Q,49,none⟩)] w fun e w'=> ∃o,e=.returned o∧w'.ownsRow w.heap.size 3 1 o (mayL L L.length).length (cels iK.c (mayL L L.length))∧Below w.heap.size w w':=by
 obtain⟨i0,hi,hz0,hz1,hz2⟩:=info_parts info_int;have hlen:=hI.len;obtain⟨ao,cap,rfl,hc1,hc2,hao⟩:=hA.form;have hR:=hA.row;have hQl:=hA.lt;have cV0:=hA.cV;obtain⟨W0,hW0⟩: ∃W0,W0=w.alloc (.cells #[.bool false,.bool false,.bool false,.bool false,.bool false,.bool false] 207):=⟨_,rfl⟩
 have hB0:=bar_new L hW0;have hb0:Below w.heap.size w W0:=by rw [hW0];exact(Below.refl _ _).alloc (Xa _) _
 have cV1:=(zk cV0 hb0)
 have HW0:=zh hW0;clear hA hW0;go_enter func148,ntmps148;go_upto_region 2 with fail
 rw [←HW0.out];clear HW0;go_wp2;go_loopw [14] (fun i wr=>M1R L w i wr) (fun i _=>L.length-(intOf i).toNat)
 case atStart=>exact⟨0,by omega,rfl,hB0,hb0⟩
 case round=>
  obtain⟨k,hk,rfl,hB,hb⟩:=hrel;clear hB0 hb0 cV1;by_cases hlt:k<L.length
  ·have hlt':(k:Int)<(L.length:Int):=by omega
   obtain⟨g,rfl,hg,hc⟩:=row_req (hR.below hb) (by omega);obtain⟨r,hr⟩: ∃r,L[k]? =some r:=⟨L[k],by simp [hlt]⟩
   obtain⟨c0,c1,c2,c3,c4⟩:=hc k r hr;have hbd:=hI.bd r (Xk hr);have hnum:=hI.num k r hr;obtain⟨s,hs⟩: ∃s:Nat,r.src=(s:Int):=⟨r.src.toNat,by have:=hbd.1;omega⟩
   have hs6:s<6:=by have:=hbd.2.1;omega
   have hs6':(s:Int)<6:=by omega
   obtain⟨W,hW⟩: ∃W,W=wr.alloc (.cells #[.int .i64 r.id,.int .i64 r.src,.int .i64 r.til,.int .i64 r.fat,.int .i64 r.pod] 122):=⟨_,rfl⟩
   have bW:Below wr.heap.size wr W:=by rw [hW];exact(Below.refl _ _).alloc (Xa _) _
   have hbw:Below w.heap.size w W:=(zu hb bW)
   have hsW:W.heap.size=wr.heap.size+1:=by rw [hW];simp
   have x0:W.cell? ⟨wr.heap.size,0,none⟩=some (.int .i64 r.id):=by rw [hW];simp
   have x1:W.cell? ⟨wr.heap.size,1,none⟩=some (.int .i64 r.src):=by rw [hW];simp
   rw [hnum]at x0;rw [hs]at x1;have HW:=zh hW;have HSr:=zh hs;have HLr:=zh hr;have hBW:=hB.below bW;have cl:=runs_any r W;simp only [rV,isR]at cl;clear hc hb hB hW hR cV0 hbd hnum hs hr;cases hp:(r.fat==2)
   ·have HR:Hid (BarAt W w.heap.size (bar1 L (k+1))):=hBW.same (fun t=>by rw [bar1_step HLr.out,hp];simp);rw [hp]at cl;go_wp2_with(go_at_call 124;rw [←HW.out];(with_reducible refine zg cl fun w3 hb3=>?_))
    go_roundw
    case rel=>exact⟨k+1,by omega,rfl,HR.out.below hb3,(zu hbw hb3)⟩
    case measure=>simp [intOf];omega
   ·have HR:Hid (∀w3,BarAt w3 w.heap.size (bar1 L k)→BarAt (w3.setCell ⟨w.heap.size,s,none⟩ (.bool true)) w.heap.size (bar1 L (k+1))):=fun w3 h=>h.set hs6 (fun t=>by rw [bar1_step HLr.out,hp,HSr.out];simp);rw [hp]at cl;go_wp2_with(go_at_call 124;rw [←HW.out];(with_reducible refine zg cl fun w3 hb3=>?_);have hB3:=hBW.below hb3;have y1:=(zk x1 hb3);have z1:=hB3.c s hs6;have f1:=hB3.fz s)
    go_roundw
    case rel=>exact⟨k+1,by omega,rfl,HR.out _ hB3,set_below (zu hbw hb3)⟩
    case measure=>simp [intOf];omega
  ·obtain rfl:k=L.length:=by omega
   have hB2:BarAt wr w.heap.size (bar2 L 0):=hB.same (fun t=>bar_mid L t);have cVr:=(zk cV0 hb)
   clear hB;go_wp2;go_loopw [6,29] (fun o i wr=>M2R L w o i wr) (fun _ i _=>L.length-(intOf i).toNat)
   case atStart=>exact⟨0,by omega,rfl,hB2,XO _ _ _ _,hb⟩
   case round=>
    clear hB2 hb cVr;obtain⟨k,hk,rfl,hB,hown,hb⟩:=hrel;by_cases hlt:k<L.length
    ·have hlt':(k:Int)<(L.length:Int):=(by omega);obtain⟨g,rfl,hg,hc⟩:=row_req (hR.below hb) (by omega);obtain⟨r,hr⟩: ∃r,L[k]? =some r:=⟨L[k],by simp [hlt]⟩
     obtain⟨c0,c1,c2,c3,c4⟩:=hc k r hr;have hbd:=hI.bd r (Xk hr);have hnum:=hI.num k r hr;obtain⟨s,hs⟩: ∃s:Nat,r.src=(s:Int):=⟨r.src.toNat,by have:=hbd.1;omega⟩
     have hs6:s<6:=by have:=hbd.2.1;omega
     have hs6':(s:Int)<6:=(by omega);obtain⟨W,hW⟩: ∃W,W=wr.alloc (.cells #[.int .i64 r.id,.int .i64 r.src,.int .i64 r.til,.int .i64 r.fat,.int .i64 r.pod] 122):=⟨_,rfl⟩
     have bW:Below wr.heap.size wr W:=by rw [hW];exact(Below.refl _ _).alloc (Xa _) _
     have hbw:Below w.heap.size w W:=(zu hb bW)
     have hsW:W.heap.size=wr.heap.size+1:=by rw [hW];simp
     have x0:W.cell? ⟨wr.heap.size,0,none⟩=some (.int .i64 r.id):=by rw [hW];simp
     have x1:W.cell? ⟨wr.heap.size,1,none⟩=some (.int .i64 r.src):=by rw [hW];simp
     rw [hnum]at x0;rw [hs]at x1;have HW:=zh hW;have HSr:=zh hs;have HLr:=zh hr;have hBW:=hB.below bW;have cl:=waits_any r W;simp only [rV,isW]at cl;have HOK:Hid (runOk L k r=(r.fat==1&& !(bar2 L k s))):=by unfold Hid;rw [runOk_bar L k r hbd.1,hs]
     have hownW:=owns_block hown (fun g hg=>bW.block g (hown.lt g hg).2);have hXl:(mayL L k).length≤200:=Xc (mayL_le L k) (by omega);have hbs:=hbw.size;have hBl:=hB.lt;have hne: ¬wr.heap.size=w.heap.size:=fun e=>by omega
     have hne2: ¬w.heap.size=wr.heap.size:=fun e=>by omega
     have HO:=zh hownW;clear hc hb hB hW hR cV0 hbd hnum hs hr hown hownW;generalize hN0:(mayL L k).length=N0 at*;generalize hC0:cels iK.c (mayL L k)=C0 at*;have HN0:=zh hN0;have HC0:=zh hC0;clear hN0 hC0;cases hp:(r.fat==1)
     ·rw [hp]at cl;have HF:Hid (runOk L k r=false):=by unfold Hid;rw [HOK.out,hp];rfl
      have HG:Hid (r.fat=1→bar2 L k r.src=true):=fun h=>by rw [h]at hp;simp at hp
      go_wp2_with(go_at_call 109;rw [←HW.out];(with_reducible refine zg cl fun w3 hb3=>?_))
      go_roundw
      case rel=>exact M2R.no HLr.out HF.out HG.out (hBW.below hb3) (zu hbw hb3) (by rw [HN0.out,HC0.out];exact owns_block HO.out (fun g hg=>hb3.block g (HO.out.lt g hg).2))
      case measure=>simp [intOf];omega
     ·rw [hp]at cl;have HP1:Hid (r.fat=1):=by unfold Hid;simpa using hp
      cases hq:bar2 L k s
      ·have HF:Hid (runOk L k r=true):=by unfold Hid;rw [HOK.out,hp,hq];rfl
       go_wp2_with (first
        |(go_at_call 109;rw [←HW.out];(with_reducible refine zg cl fun w3 hb3=>?_);have hB3:=hBW.below hb3;have y1:=(zk x1 hb3);have z1:=hB3.c s hs6;have f1:=hB3.fz s;have y0:=(zk x0 hb3);rw [hq]at z1;have hs3:=hb3.size;have HO3:Hid (w3.ownsRow (w.heap.size+1) 3 1 u6 N0 C0):=owns_block HO.out (fun g hg=>hb3.block g (HO.out.lt g hg).2);have HO2:Hid ((w3.setCell ⟨w.heap.size,s,none⟩ (.bool true)).ownsRow (w.heap.size+1) 3 1 u6 N0 C0):=owns_block HO3.out (fun g hg=>Below.heap_setCell w3 _ _ g (fun e=>by have h1:=(HO3.out.lt g hg).1;simp only at e;omega)))
        |(at_builtin;refine wpList_append_own _ rfl _ _ 54 rfl (w.heap.size+1) 3 i0 (.int .i64 0) 1 8 underlying54 hi hz0 hz1 hz2 rfl (by decide) _ N0 C0 rfl (HO2.out.alloc _) ⟨w3.heap.size,0,none⟩ 1 1 [.int .i64 ((k:Int)+1)] rfl rfl (cell_u _ _ _ _ (by simp)) (fun u hu=>by simp at hu;rcases hu with rfl;rfl) (by unfold maxLen;omega) (by omega) (by simp;omega) ?_;intro v' w4 hown4 hgrow4 _))
       go_roundw
       case rel=>exact M2R.yes HLr.out HSr.out hs6 HP1.out HF.out hB3 (zu hbw hb3) (fun g hg=>(HO3.out.lt g hg).1) hgrow4 (by rw [HN0.out,HC0.out];exact hown4)
       case measure=>simp [intOf];omega
      ·have HF:Hid (runOk L k r=false):=by unfold Hid;rw [HOK.out,hp,hq];rfl
       have HG:Hid (r.fat=1→bar2 L k r.src=true):=fun _=>by rw [HSr.out];exact hq
       go_wp2_with(go_at_call 109;rw [←HW.out];(with_reducible refine zg cl fun w3 hb3=>?_);have hB3:=hBW.below hb3;have y1:=(zk x1 hb3);have z1:=hB3.c s hs6;have f1:=hB3.fz s;rw [hq]at z1)
       go_roundw
       case rel=>exact M2R.no HLr.out HF.out HG.out hB3 (zu hbw hb3) (by rw [HN0.out,HC0.out];exact owns_block HO.out (fun g hg=>hb3.block g (HO.out.lt g hg).2))
       case measure=>simp [intOf];omega
    ·obtain rfl:k=L.length:=by omega
     obtain⟨bo,bn,bc,hu⟩: ∃bo bn bc,u6=.slice bo bn bc:=by
      rcases hown.2 with⟨h0,_⟩|⟨_,_,_,h0,_⟩<;>exact⟨_,_,_,h0⟩
     subst hu;go_wp2;go_ret;exact⟨_,rfl,World.ownsRow.mono hown (Xm _),hb⟩

theorem cell_at {cs:Array Value} {e:TypeId} {v:Value} (hN:N=W.heap.size) (hj:cs[j]? =some v):(W.alloc (.cells cs e)).cell? ⟨N,j,none⟩=some v:=by
 subst hN;simpa using hj
theorem grown_drew {w w':World} {o:Obj} {b:Option Nat} (h:(w.alloc o).grownBy w' b):(w.drew.alloc o).grownBy w' b:=⟨h.os,h.tape,h.output,h.size,h.block⟩
theorem new_any (w:World):Calls prog 16 #[] w fun e w'=>e=.returned (.pointer (some ⟨w.heap.size,0,none⟩))∧HAt0 w' w.heap.size w.heap.size (.slice none 0 0) []∧Below w.heap.size w w':=by
 go_enter func16,ntmps16;go_wp2;go_ret;refine⟨rfl,⟨by simp,Xa _,fun j u hu=> ?_,rfl,fun j=>by simp,XO _ _ _ _,by simp [Value.ownBlock]⟩,(Below.refl _ _).alloc (Xa _) _⟩;match j,hu with
 |0,hu=>simp at hu;subst hu;simp
 |j+1,hu=>simp at hu
def roomB (L:List Rq) (s:Int):Bool:=decide ((many s 1 L:Int)<20)&&decide ((many (-1) 1 L:Int)<60)&&decide ((L.length:Int)<200)
theorem hasRoom_any (B Q:Nat) (v:Value) (L:List Rq) (s:Int) (w:World) (hA:HAt w B Q v L) (hL:L.length≤200) (h0:0≤s):
  CB 125 #[.pointer (some ⟨Q,49,none⟩),.int .i64 s] w (.bool (roomB L s)):=by
 obtain⟨W,hW⟩: ∃W,W=w.alloc (.cells #[.int .i64 s] 3):=⟨_,rfl⟩
 have hAW:HAt W B Q v L:=by rw [hW];exact hA.alloc _
 have hbW:Below w.heap.size w W:=by rw [hW];exact(Below.refl _ _).alloc (Xa _) _
 have c1:=count_room B Q v L w.heap.size s W hAW hL (by rw [hW];exact cell_at rfl rfl);have c2:=fun w h=>count_waits B Q v L w h hL;rw [isWs_many L s h0]at c1;rw [isW_many]at c2;have HW:=zh hW;obtain⟨ao,cap,rfl,hc1,hc2,hao⟩:=hA.form;unfold roomB;clear hA hW hao;cases h1:decide ((many s 1 L:Int)<20)
 ·go_enter func125,ntmps125;go_wp2_with(go_at_call 155;rw [←HW.out];(with_reducible refine zg c1 fun w2 hb2=>?_))
  go_ret;exact⟨rfl,(zu hbW hb2)⟩
 ·cases h2:decide ((many (-1) 1 L:Int)<60)
  ·go_enter func125,ntmps125;go_wp2_with(go_at_call 155;first|(rw [←HW.out];(with_reducible refine zg c1 fun w2 hb2=>?_);have hA2:=hAW.below hb2;have hbw2:=(zu hbW hb2);clear HW)|((with_reducible refine zg (c2 _ hA2) fun w3 hb3=>?_)))
   go_ret;exact⟨rfl,(zu hbw2 hb3)⟩
  ·cases h3:decide ((L.length:Int)<200)
   all_goals
    go_enter func125,ntmps125;go_wp2_with(go_at_call 155;first|(rw [←HW.out];(with_reducible refine zg c1 fun w2 hb2=>?_);have hA2:=hAW.below hb2;have hbw2:=(zu hbW hb2);clear HW)|((with_reducible refine zg (c2 _ hA2) fun w3 hb3=>?_);have cV3:=(hA2.below hb3).cV))
    go_ret;exact⟨rfl,(zu hbw2 hb3)⟩
theorem ask_arg (Q:Nat) (now s t:Int) (w:World) (h: ¬((0≤now∧now≤1099511627776)∧(1≤t∧t≤100000))):
  CS 77 #[.pointer (some ⟨Q,49,none⟩),.int .i64 now,.int .i64 s,.int .i64 t] w (.tuple #[.int .i64 0,.int .i64 1]):=by
 have c:=fun w=>isTime_any now w;cases h1:tmB now
 ·rw [h1]at c;clear h;go_enter func77,ntmps77;go_wp2_with(go_at_call 107;(with_reducible refine zq (c _) ?_))
  go_ret2;exact⟨rfl,rfl⟩
 ·have h1':0≤now∧now≤1099511627776:=by unfold tmB at h1;simpa using h1
  rw [h1]at c;by_cases h2:t<1
  ·clear h h1';go_enter func77,ntmps77;go_wp2_with(go_at_call 107;(with_reducible refine zq (c _) ?_))
   go_ret2;exact⟨rfl,rfl⟩
  ·have h3:100000<t:=by omega
   clear h h1';go_enter func77,ntmps77;go_wp2_with(go_at_call 107;(with_reducible refine zq (c _) ?_))
   go_ret2;exact⟨rfl,rfl⟩
theorem ask_any (L:List Rq) (now s t:Int) (hI:Inv L):Doth 77 (fun Q=> #[.pointer (some ⟨Q,49,none⟩),.int .i64 now,.int .i64 s,.int .i64 t]) L (askL L now s t) (.returned (.tuple #[.int .i64 (askN L now s t),.int .i64 (askE L now s t)])):=by
 intro B Q v w hA;obtain⟨i0,hi,hz0,hz1,hz2⟩:=info_parts info_req;by_cases h1:(0≤now∧now≤1099511627776)∧(1≤t∧t≤100000)
 ·have c1:=fun w=>isTime_any now w;have ht:tmB now=true:=by unfold tmB;simp;exact h1.1
  rw [ht]at c1;have t1: ¬t<1:=by omega
  have t2: ¬100000<t:=by omega
  by_cases h2:0≤s∧s≤5
  ·have c3:=hasRoom_any B Q v L s w hA hI.len h2.1;have s1: ¬s<0:=by omega
   have s2: ¬6≤s:=by omega
   have hlen:=hI.len;by_cases h3:20≤many s 1 L∨60≤many (-1) 1 L∨200≤L.length
   ·have hE:askE L now s t=6:=by unfold askE;rw [if_neg (fun h=>h h1),if_neg (fun h=>h h2),if_pos h3]
    have hN:askN L now s t=0:=by unfold askN;rw [hE];rfl
    have hLL:askL L now s t=L:=by unfold askL;rw [hE];rfl
    have hr:roomB L s=false:=by unfold roomB;rw [Yb,Yb,decide_eq_false_iff_not,decide_eq_false_iff_not,decide_eq_false_iff_not];omega
    rw [hr]at c3;rw [hE,hN,hLL];have HA:=zh hA;clear hE hN hLL h1 h2 hA h3;go_enter func77,ntmps77
    go_wp2_with (first
     |(go_at_call 107;(with_reducible refine zq (c1 _) ?_))
     |(go_at_call 125;(with_reducible refine zg c3 fun w2 hb2=>?_)))
    go_ret2;exact⟨rfl,v,HA.out.below hb2,Turn.of_below hb2⟩
   ·have hE:askE L now s t=0:=by unfold askE;rw [if_neg (fun h=>h h1),if_neg (fun h=>h h2),if_neg h3]
    have hN:askN L now s t=(L.length:Int)+1:=by unfold askN;rw [hE];rfl
    have hLL:askL L now s t=L++ [⟨(L.length:Int)+1,s,now+t,1,0⟩]:=by unfold askL;rw [hE];rfl
    have hr:roomB L s=true:=by unfold roomB;rw [Xq,Xq,decide_eq_true_eq,decide_eq_true_eq,decide_eq_true_eq];omega
    rw [hr]at c3;rw [hE,hN,hLL];obtain⟨ao,cap,rfl,hc1,hc2,hao⟩:=hA.form;have HA:=zh hA;have hw1:IntKind.i64.wrap ((L.length:Int)+1)=(L.length:Int)+1:=by rw [IntKind.wrap_i64]<;>omega
    have hw2:IntKind.i64.wrap (now+t)=now+t:=by rw [IntKind.wrap_i64]<;>omega
    have h1a:=h1.1.1;have h1b:=h1.1.2;have hBs:B≤w.heap.size:=by have:=RAt.bQ hA;have:=hA.lt;omega
    have hl199:L.length<200:=(by omega);clear hE hN hLL hA h3 hao h1 ht hr;go_enter func77,ntmps77
    go_wp2_with (first
     |(go_at_call 107;(with_reducible refine zq (c1 _) ?_))
     |(go_at_call 125;(with_reducible refine zg c3 fun w2 hb2=>?_);have HA2:Hid (HAt w2 B Q (.slice ao L.length cap) L):=HA.out.below hb2;have cV2:=HA2.out.cV;have f2:=HA2.out.fz 49;have hQ2:=HA2.out.lt;have hs2:=hb2.size)
     |(at_builtin;refine wpList_append_own_at _ rfl _ _ 70 rfl B 122 i0 (.agg #[.int .i64 0,.int .i64 0,.int .i64 0,.int .i64 0,.int .i64 0]) 5 40 underlying70 hi hz0 hz1 hz2 rfl (by decide) _ L.length (cels rK.c L) rfl ((RAt.own HA2.out).alloc _) ⟨w2.heap.size,0,none⟩ 1 1 [.int .i64 ((L.length:Int)+1),.int .i64 s,.int .i64 (now+t),.int .i64 1,.int .i64 0] rfl rfl (cell_five _ _ _ _ _ _ _) (fun u hu=>by simp at hu;rcases hu with rfl|rfl|rfl|rfl|rfl<;>rfl) (by unfold maxLen;omega) (by omega) (by simp;omega) ?_;intro v' w3 hown3 hgrow0 _ hloc3;have hgrow3:=grown_drew hgrow0;clear hgrow0;obtain⟨g3,cap3,rfl⟩:=own_succ hown3;have hQ3:=RAt.appended HA2.out hgrow3;have cS3:w3.cell? ⟨Q,49,none⟩=some (.slice ao L.length cap):=(Xf (w:=w2) (a:=⟨Q,49,none⟩) hQ3).trans cV2;have f13:w3.frozen? ⟨Q,49,none⟩=false:=(Xl (w:=w2) (a:=⟨Q,49,none⟩) hQ3).trans f2))
    go_ret2;have hL':(L++ [(⟨(L.length:Int)+1,s,now+t,1,0⟩:Rq)]).length=L.length+1:=(by simp);have hC':cels rK.c L++ [.int .i64 ((L.length:Int)+1),.int .i64 s,.int .i64 (now+t),.int .i64 1,.int .i64 0]=cels rK.c (L++ [⟨(L.length:Int)+1,s,now+t,1,0⟩]):=by
     rw [cels_append];rfl
    rw [hC',←hL']at hown3;have hA3:=HAt.regrown HA2.out hQ3 hown3 (own_off HA2.out hloc3);rw [hL']at hA3;have hT3:=((Turn.of_below hb2).trans (Turn.appended (r:=rB) (Q:=Q) hgrow3 hloc3)).setRow 49 (.slice (some ⟨g3,0,none⟩) (L.length+1) cap3);exact⟨rfl,_,hA3,hT3⟩
  ·have hE:askE L now s t=4:=by unfold askE;rw [if_neg (fun h=>h h1),if_pos h2]
   have hN:askN L now s t=0:=by unfold askN;rw [hE];rfl
   have hLL:askL L now s t=L:=by unfold askL;rw [hE];rfl
   rw [hE,hN,hLL];by_cases h3:s<0
   ·clear hE hN hLL h1 h2;go_enter func77,ntmps77;go_wp2_with(go_at_call 107;(with_reducible refine zq (c1 _) ?_))
    go_ret2;exact⟨rfl,v,hA,Turn.refl _ _ _⟩
   ·have h4:6≤s:=(by omega);clear hE hN hLL h1 h2;go_enter func77,ntmps77;go_wp2_with(go_at_call 107;(with_reducible refine zq (c1 _) ?_))
    go_ret2;exact⟨rfl,v,hA,Turn.refl _ _ _⟩
 ·have hE:askE L now s t=1:=by unfold askE;rw [if_pos h1]
  have hN:askN L now s t=0:=by unfold askN;rw [hE];rfl
  have hLL:askL L now s t=L:=by unfold askL;rw [hE];rfl
  rw [hE,hN,hLL];refine(ask_arg Q now s t w h1).mono ?_;rintro e w' ⟨rfl,rfl⟩;exact⟨rfl,v,hA,Turn.refl _ _ _⟩
theorem late_any (B Q:Nat) (v:Value) (L:List Rq) (c:Int) (w:World) (hA:HAt w B Q v L) (hI:Inv L) (h0:0≤c) (h9:c≤1099511627776):
  Calls prog 62 #[.pointer (some ⟨Q,49,none⟩),.int .i64 c] w fun e w'=> ∃o,e=.returned (.tuple #[o,.int .i64 0])∧w'.ownsRow w.heap.size 3 1 o (turnI (isLate c) L).length (cels iK.c (turnI (isLate c) L))∧HAt w' B Q v (turnL (isLate c) 4 L)∧Turn rB Q v v w w':=by
 obtain⟨W,hW⟩: ∃W,W=w.alloc (.cells #[.int .i64 c] 3):=⟨_,rfl⟩
 have hAW:HAt W B Q v L:=by rw [hW];exact hA.alloc _
 have hbW:Below w.heap.size w W:=by rw [hW];exact(Below.refl _ _).alloc (Xa _) _
 have hcW:W.cell? ⟨w.heap.size,0,none⟩=some (.int .i64 c):=by rw [hW];exact cell_at rfl rfl
 have hsW:=hbW.size;have hlt:=hA.lt;have c1:=end_late B Q v L w.heap.size c 4 W hAW hI hcW (by omega) (fun e=>by have:=hA.rowLt _ e;omega);have HW:=zh hW;clear hA hW hAW hlt;have c2:=fun w=>isTime_any c w;have ht:tmB c=true:=by unfold tmB;simp;exact⟨h0,h9⟩
 rw [ht]at c2;clear ht;go_enter func62,ntmps62
 go_wp2_with (first
  |(go_at_call 107;rw [←HW.out];(with_reducible refine zq (c2 _) ?_))
  |(go_at_call 110;(with_reducible refine c1.mono ?_);rintro e w2 ⟨o,rfl,hown2,hA2,hT2⟩;obtain⟨bo,bn,bc,hu⟩: ∃bo bn bc,o=.slice bo bn bc:=(by rcases hown2.2 with⟨h0,_⟩|⟨_,_,_,h0,_⟩<;>exact⟨_,_,_,h0⟩);subst hu))
 go_ret2;exact⟨_,rfl,World.ownsRow.mono hown2 hsW,hA2,(Turn.of_below hbW).trans hT2⟩
theorem lost_any (B Q:Nat) (v:Value) (L:List Rq) (c:Int) (w:World) (hA:HAt w B Q v L) (hI:Inv L):
  Calls prog 76 #[.pointer (some ⟨Q,49,none⟩),.int .i64 c] w fun e w'=> ∃o,e=.returned (o)∧w'.ownsRow w.heap.size 3 1 o (turnI (isAt c) L).length (cels iK.c (turnI (isAt c) L))∧HAt w' B Q v (turnL (isAt c) 5 L)∧Turn rB Q v v w w':=by
 obtain⟨W,hW⟩: ∃W,W=w.alloc (.cells #[.int .i64 c] 3):=⟨_,rfl⟩
 have hAW:HAt W B Q v L:=by rw [hW];exact hA.alloc _
 have hbW:Below w.heap.size w W:=by rw [hW];exact(Below.refl _ _).alloc (Xa _) _
 have hcW:W.cell? ⟨w.heap.size,0,none⟩=some (.int .i64 c):=by rw [hW];exact cell_at rfl rfl
 have hsW:=hbW.size;have hlt:=hA.lt;have c1:=end_lost B Q v L w.heap.size c 5 W hAW hI hcW (by omega) (fun e=>by have:=hA.rowLt _ e;omega);have HW:=zh hW;clear hA hW hAW hlt;go_enter func76,ntmps76;go_wp2_with(go_at_call 110;rw [←HW.out];(with_reducible refine c1.mono ?_);rintro e w2 ⟨o,rfl,hown2,hA2,hT2⟩;obtain⟨bo,bn,bc,hu⟩: ∃bo bn bc,o=.slice bo bn bc:=(by rcases hown2.2 with⟨h0,_⟩|⟨_,_,_,h0,_⟩<;>exact⟨_,_,_,h0⟩);subst hu)
 go_ret;exact⟨_,rfl,World.ownsRow.mono hown2 hsW,hA2,(Turn.of_below hbW).trans hT2⟩
theorem has_no (B Q:Nat) (v:Value) (L:List Rq) (id:Int) (w:World) (hA:HAt w B Q v L) (h: ¬(1≤id∧id≤L.length)):
  CS 126 #[.pointer (some ⟨Q,49,none⟩),.int .i64 id] w (.bool false):=by
 obtain⟨ao,cap,rfl,hc1,hc2,hao⟩:=hA.form;have cV:=hA.cV;clear hA hao;by_cases h1:1≤id
 ·have h2: ¬id≤(L.length:Int):=fun e=>h ⟨h1,e⟩;clear h;go_enter func126,ntmps126;go_wp2;go_ret;exact⟨rfl,rfl⟩
 ·clear h;go_enter func126,ntmps126;go_wp2;go_ret;exact⟨rfl,rfl⟩
theorem has_yes (B Q:Nat) (v:Value) (L:List Rq) (id:Int) (w:World) (hA:HAt w B Q v L) (h1:1≤id) (h2:id≤L.length):
  CS 126 #[.pointer (some ⟨Q,49,none⟩),.int .i64 id] w (.bool true):=by
 obtain⟨ao,cap,rfl,hc1,hc2,hao⟩:=hA.form;have cV:=hA.cV;clear hA hao;go_enter func126,ntmps126;go_wp2;go_ret;exact⟨rfl,rfl⟩
theorem done_any (L:List Rq) (id:Int) (hI:Inv L):Doth 78 (fun Q=> #[.pointer (some ⟨Q,49,none⟩),.int .i64 id]) L (doneL L id) (.returned (.tuple #[.int .i64 (doneN L id),.int .i64 (doneE L id)])):=by
 intro B Q v w hA;have hlen:=hI.len;by_cases h:1≤id∧id≤L.length
 ·have c:=has_yes B Q v L id w hA h.1 h.2;obtain⟨ao,cap,rfl,hc1,hc2,hao⟩:=hA.form;have cV:=hA.cV;obtain⟨i,rfl,hl⟩:=id_nat h;obtain⟨r,hr⟩: ∃r,L[i]? =some r:=⟨L[i],by simp [hl]⟩
  obtain⟨g,rfl⟩:=hao (by omega);obtain⟨d0,d1,d2,d3,d4,fz⟩:=hA.req rfl hr;have hl':(i:Int)<(L.length:Int):=by omega
  have c2:=fun w=>runs_any r w;simp only [rV,isR]at c2;have HA:=zh hA;have HR:=zh hr;by_cases hf:r.fat=2
  ·obtain⟨e1,e2,e3⟩:=done_ok hr hf;rw [e1,e2,e3];have h9:(r.fat==2)=true:=by simp [hf]
   rw [h9]at c2;clear e1 e2 e3 hf hr hA fz h h9;go_enter func78,ntmps78
   go_wp2_with (first
    |(go_at_call 126;(with_reducible refine zq c ?_))
    |(go_at_call 124;(with_reducible refine zg (c2 _) fun w2 hb2=>?_);have hA2:=HA.out.below hb2;have cV2:=hA2.cV;obtain⟨x0,x1,x2,x3,x4,fz2⟩:=hA2.req rfl HR.out;have f3:=fz2 (i*5+3);have hgQ:=hA2.gQ;clear fz2))
   go_ret2;exact⟨rfl,_,RAt.put (j:=3) hA2 rfl HR.out (by decide) rfl,(Turn.of_below hb2).trans (Turn.setG _ _)⟩
  ·obtain⟨e1,e2,e3⟩:=done_state hr hf;rw [e1,e2,e3];have h9:(r.fat==2)=false:=by simp [hf]
   rw [h9]at c2;clear e1 e2 e3 hf hr hA fz h h9;go_enter func78,ntmps78
   go_wp2_with (first
    |(go_at_call 126;(with_reducible refine zq c ?_))
    |(go_at_call 124;(with_reducible refine zg (c2 _) fun w2 hb2=>?_)))
   go_ret2;exact⟨rfl,_,HA.out.below hb2,Turn.of_below hb2⟩
 ·obtain⟨e1,e2,e3⟩:=done_no h;rw [e1,e2,e3];have c:=has_no B Q v L id w hA h;clear e1 e2 e3 h;go_enter func78,ntmps78;go_wp2_with(go_at_call 126;(with_reducible refine zq c ?_))
  go_ret2;exact⟨rfl,_,hA,Turn.refl _ _ _⟩
theorem all_own (B Q:Nat) (v:Value) (L:List Rq) (w:World) (hA:HAt w B Q v L) (hL:L.length≤200):
  Calls prog 95 #[.pointer (some ⟨Q,49,none⟩)] w fun e w'=> ∃G,e=.returned (.slice (some ⟨G,0,none⟩) L.length L.length)∧w.heap.size≤G∧(∃e,w'.heap[G]? =some (.cells (cels rK.c L).toArray e (0,0)))∧Below w.heap.size w w':=by
 obtain⟨i0,hi,hz0,hz1,hz2⟩:=info_parts info_req;obtain⟨ao,cap,rfl,hc1,hc2,hao⟩:=hA.form;have hcl:(cels rK.c L).length=L.length*i0.size:=by rw [hz1];exact Rw.cels_len rK.len L
 have HC:=zh hcl;have HA:=zh hA;have cV:=hA.cV;clear hcl hA;go_enter func95,ntmps95;go_wp2_with(at_make;refine wpList_make_full _ rfl _ _ 70 rfl w.heap.size 122 i0 _ 5 underlying70 hi hz0 hz1 _ _ _ _ L.length rfl rfl rfl rfl (by rw [hz2];omega) (by unfold maxLen;omega) (Xa _) ?_;intro w2 hown2 hgrow2;have hb2:Below w.heap.size w w2:=(Below.refl _ _).grown hgrow2 (Xa _) (fun _ h=>by cases h);have hA2:=HA.out.below hb2;have cS2:=hA2.cV;obtain⟨cur2,q2,q5⟩:=own_block hown2;obtain⟨w3,hcp,hr3,hgrow3⟩:=run_copy_all (P:=prog) w2 70 70 3 122 i0 underlying70 hi w.heap.size L.length L.length cap ao cur2 (cels rK.c L) q2 (by rw [hz1];exact q5) HC.out (RAt.src hA2) (cels_one rK L);clear hown2 hgrow2 hA2)
 go_ret;have hb3:Below w.heap.size w2 w3:=⟨hgrow3.os,hgrow3.tape,hgrow3.output,hgrow3.size,fun k hk=>hgrow3.block k (Xb hk hb2.size) (fun e=>by cases e;omega)⟩
 exact⟨_,rfl,Xa _,⟨_,hr3⟩,hb2.trans hb3⟩
theorem all_any (B Q:Nat) (v:Value) (L:List Rq) (w:World) (hA:HAt w B Q v L) (hL:L.length≤200):
  Calls prog 95 #[.pointer (some ⟨Q,49,none⟩)] w fun e w'=> ∃G,e=.returned (.slice (some ⟨G,0,none⟩) L.length L.length)∧w.heap.size≤G∧RowAt rK w' (some ⟨G,0,none⟩) L∧Below w.heap.size w w':=
 (all_own B Q v L w hA hL).mono fun _ _ ⟨G,e,hG,⟨_,h⟩,hb⟩=>⟨G,e,hG,row_of_block h,hb⟩
theorem Count_any (B Q:Nat) (v:Value) (L:List Rq) (w:World) (hA:HAt w B Q v L) (hL:L.length≤200):
  CB 144 #[.pointer (some ⟨Q,49,none⟩)] w (.tuple #[.int .i64 (many (-1) 1 L:Int),.int .i64 (many (-1) 2 L:Int)]):=by
 have c1:=count_waits B Q v L w hA hL;have c2:=fun w h=>count_runs B Q v L w h hL;rw [isW_many]at c1;rw [isR_many]at c2;have HA:=zh hA;clear hA;go_enter func144,ntmps144;go_wp2_with(go_at_call 155;first|((with_reducible refine zg c1 fun w2 hb2=>?_);have hA2:=HA.out.below hb2)|((with_reducible refine zg (c2 _ hA2) fun w3 hb3=>?_)))
 go_ret2;exact⟨rfl,(zu hb2 hb3)⟩

theorem ints_row {w:World} {B:Nat} {v:Value} (h:w.ownsRow B 3 1 v X.length (cels iK.c X)): ∃ao cap,v=.slice ao X.length cap∧RowAt iK w ao X:=by
 rcases h.2 with⟨h1,h2⟩|⟨g,cap,cur,h1,h2,h3,h4⟩
 ·exact⟨none,0,by rw [h1,h2],fun hl=>by omega⟩
 ·subst h1;refine⟨_,cap,rfl,fun hl=>⟨g,rfl,(h.lt g rfl).2,fun i m hm j u hu=> ?_⟩⟩;have hi:i<X.length:=(Xe.1 hm).1;have hj:j<1:=by have:=(Xe.1 hu).1;simpa [iK]using this
  show w.cell? ⟨g,i*1+j,none⟩=some u;rw [h.cellAt _ (by omega)];rw [←hu];exact Rw.cels_get iK.len X i j m hm hj
theorem row_int {w:World} (h:RowAt iK w ao X) (hl:0<X.length): ∃g,ao=some ⟨g,0,none⟩∧g<w.heap.size∧ ∀(i:Nat) (x:Int),X[i]? =some x→w.cell? ⟨g,i,none⟩=some (.int .i64 x):=by
 obtain⟨g,rfl,hg,hc⟩:=h hl;refine⟨g,rfl,hg,fun i x hx=> ?_⟩;have:=hc i x hx 0 _ rfl;simpa [iK]using this
def IiR (X:List Int) (x:Int) (w:World) (i:Value) (wr:World):Prop:= ∃k:Nat,k≤X.length∧i=.int .i64 k∧(∀j,j<k→X[j]?≠some x)∧wr=w
theorem index_any (ao:Option Addr) (cap:Nat) (X:List Int) (x:Int) (w:World) (hR:RowAt iK w ao X) (hX:X.length≤1000):
  Calls prog 170 #[.slice ao X.length cap,.int .i64 x] w fun e w'=> ∃n:Int,e=.returned (.int .i64 n)∧(0≤n↔x∈X)∧w'=w:=by
 go_enter func170,ntmps170;go_wp2;go_loopw [8] (fun i wr=>IiR X x w i wr) (fun i _=>X.length-(intOf i).toNat)
 case atStart=>exact⟨0,by omega,rfl,fun j hj=>absurd hj (by omega),rfl⟩
 case round=>
  obtain⟨k,hk,rfl,hno,hwr⟩:=hrel;subst hwr;by_cases hlt:k<X.length
  ·have hlt':(k:Int)<(X.length:Int):=by omega
   obtain⟨g,rfl,hg,hc⟩:=row_int hR (by omega);obtain⟨y,hy⟩: ∃y,X[k]? =some y:=⟨X[k],by simp [hlt]⟩
   have c0:=hc k y hy;have HY:=zh hy;have HNo:=zh hno;clear hc hR hy hno;cases hp:(x==y)
   ·go_wp2;go_roundw
    case rel=>
     refine⟨k+1,by omega,rfl,fun j hj e=> ?_,rfl⟩;by_cases ek:j=k
     ·subst ek;rw [HY.out]at e;simp at e;subst e;simp at hp
     ·exact HNo.out j (by omega) e
    case measure=>simp [intOf];omega
   ·have hxy:x=y:=by simpa using hp
    subst hxy;go_wp2;go_ret;exact⟨k,rfl,⟨fun _=>Xk HY.out,fun _=>by omega⟩,rfl⟩
  ·obtain rfl:k=X.length:=by omega
   have HNo:=zh hno;clear hno;go_wp2;go_ret;refine⟨-1,rfl,⟨fun h=>absurd h (by omega),fun h=> ?_⟩,rfl⟩;obtain⟨j,hj,e⟩:=List.getElem_of_mem h;exact absurd (by rw [Xz hj,e]) (HNo.out j hj)
theorem contains_any (ao:Option Addr) (cap:Nat) (X:List Int) (x:Int) (w:World) (hR:RowAt iK w ao X) (hX:X.length≤1000):
  CS 151 #[.slice ao X.length cap,.int .i64 x] w (.bool (decide (x∈X))):=by
 have c:=index_any ao cap X x w hR hX;go_enter func151,ntmps151;go_wp2_with(go_at_call 170;(with_reducible refine c.mono ?_);rintro e w' ⟨n,rfl,hn,h9⟩;have h8:=h9.symm;clear h9;subst h8;have HN:=zh hn;clear hn)
 go_ret;refine⟨?_,rfl⟩;by_cases h:x∈X
 ·have h1:=HN.out.2 h;simp [h,h1]
 ·have h1: ¬0≤n:=fun e=>h (HN.out.1 e);simp [h,h1]
def EiR (n:Nat) (w:World) (i:Value) (wr:World):Prop:= ∃k q:Nat,k≤n∧i=.int .i64 k∧wr=w.drewN q
theorem equal_reqs (ao bo:Option Addr) (L:List Rq) (c d:Nat) (w:World) (hX:RowAt rK w ao L) (hY:RowAt rK w bo L) (hn:L.length≤1000):
  Calls prog 50 #[.slice ao L.length c,.slice bo L.length d] w fun e w'=>e=.returned (.bool true)∧ ∃q,w'=w.drewN q:=by
 go_enter func50,ntmps50;go_wp2;go_loopw [13] (fun i wr=>EiR L.length w i wr) (fun i _=>L.length-(intOf i).toNat)
 case atStart=>exact⟨0,0,by omega,rfl,rfl⟩
 case round=>
  obtain⟨k,q,hk,rfl,hq⟩:=hrel;have HQ:=zh hq;by_cases hlt:k<L.length
  ·have hlt':(k:Int)<(L.length:Int):=by omega
   obtain⟨g,rfl,hg,hc⟩:=row_req hX (by omega);obtain⟨h,rfl,hh,hd⟩:=row_req hY (by omega);obtain⟨m,hm⟩: ∃m,L[k]? =some m:=⟨L[k],by simp [hlt]⟩
   obtain⟨c0,c1,c2,c3,c4⟩:=hc k m hm;obtain⟨d0,d1,d2,d3,d4⟩:=hd k m hm;have x0:wr.cell? ⟨g,k*5,none⟩=some (.int .i64 m.id):=by rw [hq];exact c0
   have x1:wr.cell? ⟨g,k*5+1,none⟩=some (.int .i64 m.src):=by rw [hq];exact c1
   have x2:wr.cell? ⟨g,k*5+2,none⟩=some (.int .i64 m.til):=by rw [hq];exact c2
   have x3:wr.cell? ⟨g,k*5+3,none⟩=some (.int .i64 m.fat):=by rw [hq];exact c3
   have x4:wr.cell? ⟨g,k*5+4,none⟩=some (.int .i64 m.pod):=by rw [hq];exact c4
   have y0:wr.cell? ⟨h,k*5,none⟩=some (.int .i64 m.id):=by rw [hq];exact d0
   have y1:wr.cell? ⟨h,k*5+1,none⟩=some (.int .i64 m.src):=by rw [hq];exact d1
   have y2:wr.cell? ⟨h,k*5+2,none⟩=some (.int .i64 m.til):=by rw [hq];exact d2
   have y3:wr.cell? ⟨h,k*5+3,none⟩=some (.int .i64 m.fat):=by rw [hq];exact d3
   have y4:wr.cell? ⟨h,k*5+4,none⟩=some (.int .i64 m.pod):=by rw [hq];exact d4
   clear hq hc hd c0 c1 c2 c3 c4 d0 d1 d2 d3 d4;go_wp2_with fail
   go_quiet (fail)
   go_wp2;go_roundw
   case rel=>exact⟨k+1,q+nq,by omega,rfl,by rw [HQ.out,World.drewN_drewN]⟩
   case measure=>simp [intOf];omega
  ·obtain rfl:k=L.length:=by omega
   go_wp2;go_ret;exact⟨rfl,q,rfl⟩
theorem next_any (B Q:Nat) (v:Value) (L:List Rq) (w:World) (hA:HAt w B Q v L) (hI:Inv L):
  CB 117 #[.pointer (some ⟨Q,49,none⟩)] w (.tuple #[.int .i64 (nextN L),.bool (nextB L)]):=by
 have c:=may_any B Q v L w hA hI;rcases may_next L with⟨h1,h2,h3⟩|⟨x,l,h1,h2,h3⟩
 ·rw [h1]at c;rw [h2,h3];clear h1 h2 h3;go_enter func117,ntmps117;go_wp2_with(go_at_call 148;(with_reducible refine c.mono ?_);rintro e w2 ⟨o,rfl,hown2,hb2⟩;obtain⟨ao2,cap2,rfl,hR2⟩:=ints_row hown2)
  go_ret2;exact⟨rfl,hb2⟩
 ·rw [h1]at c;rw [h2,h3];clear h1 h2 h3;go_enter func117,ntmps117;go_wp2_with(go_at_call 148;(with_reducible refine c.mono ?_);rintro e w2 ⟨o,rfl,hown2,hb2⟩;obtain⟨ao2,cap2,rfl,hR2⟩:=ints_row hown2;obtain⟨g2,rfl,hg2,hc2⟩:=row_int hR2 (by simp);have x0:=hc2 0 x rfl;clear hc2 hR2 hown2;simp only [Xr];have hl0: ¬((l.length:Int)+1=0):=(by omega);have hl1:((l.length:Int)+1==0)=false:=(by simpa using hl0);have hl2:(0:Int)<(l.length:Int)+1:=(by omega))
  go_ret2;exact⟨rfl,hb2⟩
theorem run_any (L:List Rq) (id pod:Int) (hI:Inv L):Doth 119 (fun Q=> #[.pointer (some ⟨Q,49,none⟩),.int .i64 id,.int .i64 pod]) L (runL L id pod) (.returned (.int .i64 (runE L id))):=by
 intro B Q v w hA;have hlen:=hI.len;by_cases h:1≤id∧id≤L.length
 ·have c:=has_yes B Q v L id w hA h.1 h.2;have c1:=may_any B Q v L w hA hI;obtain⟨ao,cap,rfl,hc1,hc2,hao⟩:=hA.form;obtain⟨i,rfl,hl⟩:=id_nat h;obtain⟨r,hr⟩: ∃r,L[i]? =some r:=⟨L[i],by simp [hl]⟩
  obtain⟨g,rfl⟩:=hao (by omega);have hl':(i:Int)<(L.length:Int):=by omega
  have hml:(mayL L L.length).length≤1000:=Xc (mayL_le L L.length) (by omega);have c2:=fun ao cap w hR=>contains_any ao cap (mayL L L.length) ((i:Int)+1) w hR hml;have HA:=zh hA;have HR:=zh hr;cases hok:runOk L i r
  ·have hm:decide (((i:Int)+1)∈mayL L L.length)=false:=by rw [decide_eq_false_iff_not,mayL_mem hr,hok];simp
   rw [hm]at c2;obtain⟨r1,r2⟩:=run_state (pod:=pod) hr hok;rw [r1,r2];clear r1 r2 hm hA hr h hok hao;go_enter func119,ntmps119
   go_wp2_with (first
    |(go_at_call 126;(with_reducible refine zq c ?_))
    |(go_at_call 148;(with_reducible refine c1.mono ?_);rintro e w2 ⟨o,rfl,hown2,hb2⟩;obtain⟨ao2,cap2,rfl,hR2⟩:=ints_row hown2;clear hown2)
    |(go_at_call 151;(with_reducible refine zq (c2 _ _ _ hR2) ?_)))
   go_ret;exact⟨rfl,_,HA.out.below hb2,Turn.of_below hb2⟩
  ·have hm:decide (((i:Int)+1)∈mayL L L.length)=true:=by rw [decide_eq_true_eq,mayL_mem hr,hok]
   rw [hm]at c2;obtain⟨r1,r2⟩:=run_ok (pod:=pod) hr hok;rw [r1,r2];have HP:Hid (∀wr,HAt wr B Q (.slice (some ⟨g,0,none⟩) L.length cap) L→HAt ((wr.setCell ⟨g,i*5+3,none⟩ (.int .i64 2)).setCell ⟨g,i*5+4,none⟩ (.int .i64 pod)) B Q (.slice (some ⟨g,0,none⟩) L.length cap) (L.set i ⟨r.id,r.src,r.til,2,pod⟩)):=by
    intro wr hAr;have p1:HAt (wr.setCell ⟨g,i*5+3,none⟩ (.int .i64 2)) B Q (.slice (some ⟨g,0,none⟩) L.length cap) (L.set i ⟨r.id,r.src,r.til,2,r.pod⟩):=RAt.put (j:=3) hAr rfl hr (by decide) rfl;have p2:HAt ((wr.setCell ⟨g,i*5+3,none⟩ (.int .i64 2)).setCell ⟨g,i*5+4,none⟩ (.int .i64 pod)) B Q (.slice (some ⟨g,0,none⟩) L.length cap) ((L.set i ⟨r.id,r.src,r.til,2,r.pod⟩).set i ⟨r.id,r.src,r.til,2,pod⟩):=RAt.put (j:=4) p1 (by simp) (show(L.set i ⟨r.id,r.src,r.til,2,r.pod⟩)[i]? =some ⟨r.id,r.src,r.til,2,r.pod⟩ by simp [hl]) (by decide) rfl;rw [List.set_set]at p2;exact p2
   clear r1 r2 hm hA hr h hok hao;go_enter func119,ntmps119
   go_wp2_with (first
    |(go_at_call 126;(with_reducible refine zq c ?_))
    |(go_at_call 148;(with_reducible refine c1.mono ?_);rintro e w2 ⟨o,rfl,hown2,hb2⟩;obtain⟨ao2,cap2,rfl,hR2⟩:=ints_row hown2;clear hown2;have hA2:=HA.out.below hb2;have cV2:=hA2.cV;obtain⟨x0,x1,x2,x3,x4,fz2⟩:=hA2.req rfl HR.out;have f3:=fz2 (i*5+3);have f4:=fz2 (i*5+4);have hgQ:=hA2.gQ;clear fz2)
    |(go_at_call 151;(with_reducible refine zq (c2 _ _ _ hR2) ?_)))
   go_ret;exact⟨rfl,_,HP.out _ hA2,((Turn.of_below hb2).trans (Turn.setG _ _)).trans (Turn.setG _ _)⟩
 ·obtain⟨e1,e2⟩:=run_no (pod:=pod) h;rw [e1,e2];have c:=has_no B Q v L id w hA h;clear e1 e2 h;go_enter func119,ntmps119;go_wp2_with(go_at_call 126;(with_reducible refine zq c ?_))
  go_ret;exact⟨rfl,_,hA,Turn.refl _ _ _⟩
end Buf
namespace Hal
open Go.RowKit Rw Rec Buf
variable {j:Nat}

theorem info_req:(prog.info? 122).map (fun i=>(i.zero,i.size,i.bytes))=some (some (.agg #[.int .i64 0,.int .i64 0,.int .i64 0,.int .i64 0,.int .i64 0]),5,40):=by kernel_rfl
theorem info_int:(prog.info? 3).map (fun i=>(i.zero,i.size,i.bytes))=some (some (.int .i64 0),1,8):=by kernel_rfl
abbrev rB:Nat→Prop:=fun j=>0≤j∧j<1
abbrev HAt0 (w:World) (B Q:Nat) (v:Value) (L:List Rq):Prop:=RAt rK w 122 B Q 0 0 [v] v L
def HAt (w:World) (B Q:Nat) (v:Value) (L:List Rq):Prop:=RAt rK w 122 B Q 0 0 [v] v L
section
variable {w w' : World} {B Q : Nat} {v v' : Value} {L L' : List Rq}
theorem HAt.lt (h:HAt w B Q v L):Q<w.heap.size:=RAt.lt h
theorem HAt.ne (h:HAt w B Q v L):v.ownBlock≠some Q:=RAt.ne h
theorem HAt.cV (h:HAt w B Q v L):w.cell? ⟨Q,0,none⟩=some v:=RAt.cQ h 0 _ rfl
theorem HAt.fz (h:HAt w B Q v L): ∀j,w.frozen? ⟨Q,j,none⟩=false:=RAt.fz h
theorem HAt.rowLt (h:HAt w B Q v L): ∀g,v.ownBlock=some g→g<w.heap.size:=RAt.rowLt h
theorem HAt.below (h:HAt w B Q v L) (hb:Below w.heap.size w w'):HAt w' B Q v L:=RAt.below h hb
theorem HAt.alloc (h:HAt w B Q v L) (o:Obj):HAt (w.alloc o) B Q v L:=RAt.alloc h o
theorem HAt.drew (h:HAt w B Q v L):HAt w.drew B Q v L:=RAt.drew h
theorem HAt.form (h:HAt w B Q v L): ∃ao cap,v=.slice ao L.length cap∧L.length≤cap∧cap≤maxLen∧(0<L.length→ ∃g,ao=some ⟨g,0,none⟩):=RAt.form h
theorem HAt.req {g n cap i:Nat} {r:Rq} (h:HAt w B Q (.slice (some ⟨g,0,none⟩) n cap) L) (hn:n=L.length) (hr:L[i]? =some r):
  w.cell? ⟨g,i*5,none⟩=some (.int .i64 r.id)∧w.cell? ⟨g,i*5+1,none⟩=some (.int .i64 r.src)∧w.cell? ⟨g,i*5+2,none⟩=some (.int .i64 r.til)∧w.cell? ⟨g,i*5+3,none⟩=some (.int .i64 r.fat)∧w.cell? ⟨g,i*5+4,none⟩=some (.int .i64 r.pod)∧ ∀j,w.frozen? ⟨g,j,none⟩=false:=
 ⟨RAt.cells h hn hr 0 _ rfl,RAt.cells h hn hr 1 _ rfl,RAt.cells h hn hr 2 _ rfl,RAt.cells h hn hr 3 _ rfl,RAt.cells h hn hr 4 _ rfl,RAt.fzG h hn⟩
theorem HAt.row {ao:Option Addr} {cap:Nat} (h:HAt w B Q (.slice ao L.length cap) L):RowAt rK w ao L:=RAt.row h
theorem HAt.gQ {g n cap:Nat} (h:HAt w B Q (.slice (some ⟨g,0,none⟩) n cap) L):g≠Q:=fun e=>h.ne (by rw [e];rfl)
theorem HAt.regrown (h:HAt w B Q v L) (hQ:w'.heap[Q]? =w.heap[Q]?) (hown:w'.ownsRow B 122 5 v' L'.length (cels rK.c L')) (hv:v'.ownBlock≠some Q):HAt (w'.setCell ⟨Q,0,none⟩ v') B Q v' L':=RAt.regrown h hQ hown hv
end
theorem row_req {w:World} {ao:Option Addr} {L:List Rq} (h:RowAt rK w ao L) (hl:0<L.length): ∃g,ao=some ⟨g,0,none⟩∧g<w.heap.size∧ ∀(i:Nat) (r:Rq),L[i]? =some r→w.cell? ⟨g,i*5,none⟩=some (.int .i64 r.id)∧w.cell? ⟨g,i*5+1,none⟩=some (.int .i64 r.src)∧w.cell? ⟨g,i*5+2,none⟩=some (.int .i64 r.til)∧w.cell? ⟨g,i*5+3,none⟩=some (.int .i64 r.fat)∧w.cell? ⟨g,i*5+4,none⟩=some (.int .i64 r.pod):=by
 obtain⟨g,rfl,hg,hc⟩:=h hl;exact⟨g,rfl,hg,fun i m hm=>⟨hc i m hm 0 _ rfl,hc i m hm 1 _ rfl,hc i m hm 2 _ rfl,hc i m hm 3 _ rfl,hc i m hm 4 _ rfl⟩⟩
def Doth (f:Nat) (args:Nat→Array Value) (L L':List Rq) (e:Ending):Prop:=
 ∀(B Q:Nat) (v:Value) (w:World),HAt w B Q v L→Calls prog f (args Q) w fun e' w'=>e'=e∧ ∃v',HAt w' B Q v' L'∧Turn rB Q v v' w w'
theorem cell_five (w:World) (e:TypeId) (a b c d f:Value): ∀(j:Nat) (u:Value),[a,b,c,d,f][j]? =some u→(w.alloc (.cells #[a,b,c,d,f] e)).cell? ((⟨w.heap.size,0,none⟩:Addr).add j)=some u:=by
 intro j u h;match j,h with
 |0,h=>simp at h;subst h;simp [Addr.add]
 |1,h=>simp at h;subst h;simp [Addr.add]
 |2,h=>simp at h;subst h;simp [Addr.add]
 |3,h=>simp at h;subst h;simp [Addr.add]
 |4,h=>simp at h;subst h;simp [Addr.add]
 |j+5,h=>simp at h
theorem cell_u (w:World) (e:TypeId) (a:Value) (N:Nat) (hN:N=w.heap.size): ∀(j:Nat) (u:Value),[a][j]? =some u→(w.alloc (.cells #[a] e)).cell? ((⟨N,0,none⟩:Addr).add j)=some u:=by
 subst hN;intro j u h;match j,h with
 |0,h=>simp at h;subst h;simp [Addr.add]
 |j+1,h=>simp at h
def TuR (p:Rq→Bool) (f:Int) (L:List Rq) (B Q:Nat) (v:Value) (w:World) (o i:Value) (wr:World):Prop:=
 ∃k:Nat,k≤L.length∧i=.int .i64 k∧HAt wr B Q v (halfL p f L k)∧Turn rB Q v v w wr∧wr.ownsRow w.heap.size 3 1 o (turnI p (L.take k)).length (cels iK.c (turnI p (L.take k)))
structure TuS (p:Rq→Bool) (f:Int) (L:List Rq) (B Q:Nat) (v:Value) (w:World) (k:Nat) (r:Rq) (o:Value) (wr:World):Prop where
 lt:k<L.length
 hr:L[k]? =some r
 num:r.id=(k:Int)+1
 hA:HAt wr B Q v (halfL p f L k)
 hT:Turn rB Q v v w wr
 own:wr.ownsRow w.heap.size 3 1 o (turnI p (L.take k)).length (cels iK.c (turnI p (L.take k)))
 qw:Q<w.heap.size
 gw: ∀g,v.ownBlock=some g→g<w.heap.size
section
variable {p : Rq → Bool} {f : Int} {L : List Rq} {B Q g n cap k : Nat} {w wr w3 : World} {r : Rq} {o o' : Value} {ob : Obj}
theorem TuS.no {v:Value} (h:TuS p f L B Q v w k r o wr) (hp:p r=false):TuR p f L B Q v w o (.int .i64 ((k+1:Nat):Int)) wr:=by
 have e1:turnI p (L.take (k+1))=turnI p (L.take k):=by rw [turnI_step h.hr,hp];simp
 exact⟨k+1,h.lt,rfl,by rw [←halfL_same h.hr hp];exact h.hA,h.hT,by rw [e1];exact h.own⟩
theorem TuS.store {N0:Nat} {C0:List Value} (h:TuS p f L B Q (.slice (some ⟨g,0,none⟩) n cap) w k r o wr) (ho:wr.ownsRow w.heap.size 3 1 o N0 C0) {u:Value} :(wr.setCell ⟨g,j,none⟩ u).ownsRow w.heap.size 3 1 o N0 C0:=by
 refine owns_block ho (fun b hb=>Below.heap_setCell wr _ _ b (fun e=> ?_));have h1:=(ho.lt b hb).1;have h2:=h.gw g rfl;simp only at e;omega
theorem TuS.yes (h:TuS p f L B Q (.slice (some ⟨g,0,none⟩) L.length cap) w k r o wr) (hp:p r=true)
  (hown3:w3.ownsRow w.heap.size 3 1 o' ((turnI p (L.take k)).length+1) (cels iK.c (turnI p (L.take k))++ [.int .i64 ((k:Int)+1)]))
  (hg:((wr.setCell ⟨g,k*5+3,none⟩ (.int .i64 f)).alloc ob).grownBy w3 o.ownBlock):TuR p f L B Q (.slice (some ⟨g,0,none⟩) L.length cap) w o' (.int .i64 ((k+1:Nat):Int)) w3:=by
 have e1:turnI p (L.take (k+1))=turnI p (L.take k)++ [(k:Int)+1]:=by rw [turnI_step h.hr,hp,h.num];rfl
 have hA2:HAt (wr.setCell ⟨g,k*5+3,none⟩ (.int .i64 f)) B Q (.slice (some ⟨g,0,none⟩) L.length cap) (halfL p f L (k+1)):=by
  rw [←halfL_step h.hr];have e2:turnF p f r=⟨r.id,r.src,r.til,f,r.pod⟩:=by unfold turnF;rw [hp];rfl
  rw [e2];exact RAt.put (j:=3) h.hA (halfL_len _ _ _ _).symm (halfL_get h.hr) (by decide) rfl
 have hA3:=hA2.alloc ob;have hbo: ∀b,o.ownBlock=some b→w.heap.size≤b:=fun b hb=>(h.own.lt b hb).1;have hT2:=(h.hT.trans (Turn.setG (k*5+3) (.int .i64 f))).alloc ob;have hqw:=h.qw;refine⟨k+1,h.lt,rfl,RAt.kept hA3 (hg.block Q hA3.lt (fun e=>by have:=hbo Q e.symm;omega)) (fun b hb=>hg.block b (hA3.rowLt b hb) (fun e=>by have:=hbo b e.symm;have:=h.gw b hb;omega)),?_,?_⟩
 ·refine⟨hg.os.trans hT2.os,hg.tape.trans hT2.tape,hg.output.trans hT2.output,Xc hT2.size hg.size,fun b hb h1 h2=> ?_,fun b hb=>Or.inl hb,fun hQ hv j hj=>(Xf (a:=⟨Q,j,none⟩) (hg.block Q hA3.lt (fun e=>by have:=hbo Q e.symm;omega))).trans (hT2.rest hQ hv j hj)⟩;exact(hg.block b (Xb hb hT2.size) (fun e=>by have:=hbo b e.symm;omega)).trans (hT2.block b hb h1 h2)
 ·rw [e1,Xg,cels_append];exact hown3
end
def waitsOf (s:Int) (x:Rq):Bool:=x.src==s&&x.fat==1

theorem rin_yes (n lo hi:Int) (w:World) (h1:lo≤n) (h2:n≤hi):
  CS 6 #[.int .i64 n,.int .i64 lo,.int .i64 hi] w (.bool true):=by
 have d1:decide (lo≤n)=true:=by simp [h1]
 have d2:decide (n≤hi)=true:=by simp [h2]
 go_enter func6,ntmps6;go_wp2;go_ret;exact⟨rfl,rfl⟩
theorem rin_no (n lo hi:Int) (w:World) (h: ¬(lo≤n∧n≤hi)):
  CS 6 #[.int .i64 n,.int .i64 lo,.int .i64 hi] w (.bool false):=by
 by_cases h1:lo≤n
 ·have d1:decide (lo≤n)=true:=by simp [h1]
  have d2:decide (n≤hi)=false:=by simp;omega
  clear h;go_enter func6,ntmps6;go_wp2;go_ret;exact⟨rfl,rfl⟩
 ·have d1:decide (lo≤n)=false:=by simp;omega
  clear h;go_enter func6,ntmps6;go_wp2;go_ret;exact⟨rfl,rfl⟩

def MnR (s f:Int) (L:List Rq) (w:World) (d i:Value) (wr:World):Prop:= ∃k:Nat,k≤L.length∧i=.int .i64 k∧d=.int .i64 (many s f (L.take k):Int)∧wr=w
theorem hmany_any (B Q:Nat) (v:Value) (L:List Rq) (s f:Int) (w:World) (hA:HAt w B Q v L) (hL:L.length≤200):
  CS 83 #[.pointer (some ⟨Q,0,none⟩),.int .i64 s,.int .i64 f] w (.int .i64 (many s f L:Int)):=by
 obtain⟨ao,cap,rfl,hc1,hc2,hao⟩:=hA.form;have cV:=hA.cV;go_enter func83,ntmps83;go_wp2;go_loopw [7,8] (fun d i wr=>MnR s f L w d i wr) (fun _ i _=>L.length-(intOf i).toNat)
 case atStart=>exact⟨0,by omega,rfl,by simp [many],rfl⟩
 case round=>
  obtain⟨k,hk,rfl,rfl,hwr⟩:=hrel;subst hwr;by_cases hlt:k<L.length
  ·have hlt':(k:Int)<(L.length:Int):=by omega
   obtain⟨g,rfl⟩:=hao (by omega);obtain⟨r,hr⟩: ∃r,L[k]? =some r:=⟨L[k],by simp [hlt]⟩
   obtain⟨d0,d1,d2,d3,d4,fz⟩:=hA.req rfl hr;have hs:=many_step (s:=s) (f:=f) hr;have hd:many s f (L.take k)≤200:=Xc (many_le _ _ _) (by rw [Xt];omega);unfold isOf at hs;clear hA fz hr;cases h1:(s== -1)
   ·cases h2:(r.src==s)
    ·rw [h1,h2]at hs;simp only [Ya,Bool.false_and,XU,if_false,XD]at hs;go_wp2;go_roundw
     case rel=>exact⟨k+1,by omega,rfl,by rw [hs],rfl⟩
     case measure=>simp [intOf];omega
    ·cases h3:(r.fat==f)
     ·rw [h1,h2,h3]at hs;simp only [XP,XU,if_false,XD]at hs;go_wp2;go_roundw
      case rel=>exact⟨k+1,by omega,rfl,by rw [hs],rfl⟩
      case measure=>simp [intOf];omega
     ·rw [h1,h2,h3]at hs;simp only [Bool.or_true,Bool.and_self,if_true]at hs;go_wp2;go_roundw
      case rel=>exact⟨k+1,by omega,rfl,by rw [hs];simp,rfl⟩
      case measure=>simp [intOf];omega
   ·cases h3:(r.fat==f)
    ·rw [h1,h3]at hs;simp only [XP,XU,if_false,XD]at hs;go_wp2;go_roundw
     case rel=>exact⟨k+1,by omega,rfl,by rw [hs],rfl⟩
     case measure=>simp [intOf];omega
    ·rw [h1,h3]at hs;simp only [Bool.true_or,Bool.and_self,if_true]at hs;go_wp2;go_roundw
     case rel=>exact⟨k+1,by omega,rfl,by rw [hs];simp,rfl⟩
     case measure=>simp [intOf];omega
  ·obtain rfl:k=L.length:=by omega
   go_wp2;go_ret;exact⟨by rw [XC];rfl,rfl⟩

theorem hask_arg (Q:Nat) (now s t:Int) (w:World) (h: ¬((0≤now∧now≤1099511627776)∧(1≤t∧t≤100000))):
  CS 41 #[.pointer (some ⟨Q,0,none⟩),.int .i64 now,.int .i64 s,.int .i64 t] w (.tuple #[.int .i64 0,.int .i64 1]):=by
 by_cases h1:0≤now∧now≤1099511627776
 ·have c:=fun w=>rin_yes now 0 1099511627776 w h1.1 h1.2;have c2:=fun w=>rin_no t 1 100000 w (fun h2=>h ⟨h1,h2⟩);clear h h1;go_enter func41,ntmps41
  go_wp2_with (first
   |(go_at_call 6;(with_reducible refine zq (c _) ?_))
   |(go_at_call 6;(with_reducible refine zq (c2 _) ?_)))
  go_ret2;exact⟨rfl,rfl⟩
 ·have c:=fun w=>rin_no now 0 1099511627776 w h1;clear h h1;go_enter func41,ntmps41;go_wp2_with(go_at_call 6;(with_reducible refine zq (c _) ?_))
  go_ret2;exact⟨rfl,rfl⟩
theorem hask_any (L:List Rq) (now s t:Int) (hI:Inv L):Doth 41 (fun Q=> #[.pointer (some ⟨Q,0,none⟩),.int .i64 now,.int .i64 s,.int .i64 t]) L (askL L now s t) (.returned (.tuple #[.int .i64 (askN L now s t),.int .i64 (askE L now s t)])):=by
 intro B Q v w hA;obtain⟨i0,hi,hz0,hz1,hz2⟩:=info_parts info_req;by_cases h1:(0≤now∧now≤1099511627776)∧(1≤t∧t≤100000)
 ·have c1:=fun w=>rin_yes now 0 1099511627776 w h1.1.1 h1.1.2;have c2:=fun w=>rin_yes t 1 100000 w h1.2.1 h1.2.2;by_cases h2:0≤s∧s≤5
  ·have c3:=fun w=>rin_yes s 0 5 w h2.1 h2.2;have c4:=fun w h=>hmany_any B Q v L s 1 w h hI.len;have c5:=fun w h=>hmany_any B Q v L (-1) 1 w h hI.len;have hlen:=hI.len;by_cases h3:20≤many s 1 L∨60≤many (-1) 1 L∨200≤L.length
   ·have hE:askE L now s t=6:=by unfold askE;rw [if_neg (fun h=>h h1),if_neg (fun h=>h h2),if_pos h3]
    have hN:askN L now s t=0:=by unfold askN;rw [hE];rfl
    have hLL:askL L now s t=L:=by unfold askL;rw [hE];rfl
    rw [hE,hN,hLL];obtain⟨ao,cap,rfl,hc1,hc2,hao⟩:=hA.form;have cV:=hA.cV;have HA:=zh hA;clear hE hN hLL h1 h2 hA;by_cases h4:20≤many s 1 L
    ·have h4':(20:Int)≤(many s 1 L:Int):=(by omega);clear h3;go_enter func41,ntmps41
     go_wp2_with (first
      |(go_at_call 6;first|((with_reducible refine zq (c1 _) ?_))|((with_reducible refine zq (c2 _) ?_))|((with_reducible refine zq (c3 _) ?_)))
      |(go_at_call 83;(with_reducible refine zq (c4 _ HA.out) ?_)))
     go_ret2;exact⟨rfl,_,HA.out,Turn.refl _ _ _⟩
    ·have h4': ¬(20:Int)≤(many s 1 L:Int):=(by omega);by_cases h5:60≤many (-1) 1 L
     ·have h5':(60:Int)≤(many (-1) 1 L:Int):=(by omega);clear h3;go_enter func41,ntmps41
      go_wp2_with (first
       |(go_at_call 6;first|((with_reducible refine zq (c1 _) ?_))|((with_reducible refine zq (c2 _) ?_))|((with_reducible refine zq (c3 _) ?_)))
       |(go_at_call 83;first|((with_reducible refine zq (c4 _ HA.out) ?_))|((with_reducible refine zq (c5 _ HA.out) ?_))))
      go_ret2;exact⟨rfl,_,HA.out,Turn.refl _ _ _⟩
     ·have h5': ¬(60:Int)≤(many (-1) 1 L:Int):=(by omega);have h6:(200:Int)≤(L.length:Int):=(by omega);clear h3;go_enter func41,ntmps41
      go_wp2_with (first
       |(go_at_call 6;first|((with_reducible refine zq (c1 _) ?_))|((with_reducible refine zq (c2 _) ?_))|((with_reducible refine zq (c3 _) ?_)))
       |(go_at_call 83;first|((with_reducible refine zq (c4 _ HA.out) ?_))|((with_reducible refine zq (c5 _ HA.out) ?_))))
      go_ret2;exact⟨rfl,_,HA.out,Turn.refl _ _ _⟩
   ·have hE:askE L now s t=0:=by unfold askE;rw [if_neg (fun h=>h h1),if_neg (fun h=>h h2),if_neg h3]
    have hN:askN L now s t=(L.length:Int)+1:=by unfold askN;rw [hE];rfl
    have hLL:askL L now s t=L++ [⟨(L.length:Int)+1,s,now+t,1,0⟩]:=by unfold askL;rw [hE];rfl
    rw [hE,hN,hLL];obtain⟨ao,cap,rfl,hc1,hc2,hao⟩:=hA.form;have cV:=hA.cV;have HA:=zh hA;have h4': ¬(20:Int)≤(many s 1 L:Int):=(by omega);have h5': ¬(60:Int)≤(many (-1) 1 L:Int):=(by omega);have h6: ¬(200:Int)≤(L.length:Int):=(by omega);have hQl:=hA.lt;have hBs:B≤w.heap.size:=by have:=RAt.bQ hA;omega
    have hown:=RAt.own hA;have f0:=hA.fz 0;have hw1:IntKind.i64.wrap ((L.length:Int)+1)=(L.length:Int)+1:=by rw [IntKind.wrap_i64]<;>omega
    have hw2:IntKind.i64.wrap (now+t)=now+t:=by rw [IntKind.wrap_i64]<;>omega
    clear hE hN hLL hA h3 hao;have h1a:=h1.1.1;have h1b:=h1.1.2;have h1c:=h1.2.1;have h1d:=h1.2.2;clear h1;go_enter func41,ntmps41
    go_wp2_with (first
     |(go_at_call 6;first|((with_reducible refine zq (c1 _) ?_))|((with_reducible refine zq (c2 _) ?_))|((with_reducible refine zq (c3 _) ?_)))
     |(go_at_call 83;first|((with_reducible refine zq (c4 _ HA.out) ?_))|((with_reducible refine zq (c5 _ HA.out) ?_))))
    clear c1 c2 c3 c4 c5;go_region_law (refine step_own_at rfl (.tmp 42) (.tmp 54) 70 rfl B 122 i0 (.agg #[.int .i64 0,.int .i64 0,.int .i64 0,.int .i64 0,.int .i64 0]) 5 40 underlying70 hi hz0 hz1 hz2 rfl (by decide) _ L.length (cels rK.c L) rfl ((hown.drew).alloc _) ⟨w.heap.size,0,none⟩ 1 1 [.int .i64 ((L.length:Int)+1),.int .i64 s,.int .i64 (now+t),.int .i64 1,.int .i64 0] rfl rfl (cell_five _ _ _ _ _ _ _) (fun u hu=>by simp at hu;rcases hu with rfl|rfl|rfl|rfl|rfl<;>rfl) (by unfold maxLen;omega) (by omega) (by simp;omega) ?_;intro v' w3 hown3 hgrow3 hloc3;obtain⟨g3,cap3,rfl⟩:=own_succ hown3;have hQ3:=RAt.appended HA.out hgrow3;have cS3:w3.cell? ⟨Q,0,none⟩=some (.slice ao L.length cap):=(Xf (w:=w) (a:=⟨Q,0,none⟩) hQ3).trans cV;have f13:w3.frozen? ⟨Q,0,none⟩=false:=(Xl (w:=w) (a:=⟨Q,0,none⟩) hQ3).trans f0)
    all_goals
     have hL':(L++ [(⟨(L.length:Int)+1,s,now+t,1,0⟩:Rq)]).length=L.length+1:=(by simp);have hC':cels rK.c L++ [.int .i64 ((L.length:Int)+1),.int .i64 s,.int .i64 (now+t),.int .i64 1,.int .i64 0]=cels rK.c (L++ [⟨(L.length:Int)+1,s,now+t,1,0⟩]):=by
      rw [cels_append];rfl
     rw [hC',←hL']at hown3;have hA3:=HAt.regrown HA.out hQ3 hown3 (own_off HA.out hloc3);rw [hL']at hA3;have hT3:=(Turn.appended (r:=rB) (Q:=Q) hgrow3 hloc3).setRow 0 (.slice (some ⟨g3,0,none⟩) (L.length+1) cap3);go_wp2;go_ret2;exact⟨rfl,_,hA3,hT3⟩
  ·have hE:askE L now s t=4:=by unfold askE;rw [if_neg (fun h=>h h1),if_pos h2]
   have hN:askN L now s t=0:=by unfold askN;rw [hE];rfl
   have hLL:askL L now s t=L:=by unfold askL;rw [hE];rfl
   rw [hE,hN,hLL];have c3:=fun w=>rin_no s 0 5 w h2;clear hE hN hLL h1 h2;go_enter func41,ntmps41;go_wp2_with(go_at_call 6;first|((with_reducible refine zq (c1 _) ?_))|((with_reducible refine zq (c2 _) ?_))|((with_reducible refine zq (c3 _) ?_)))
   go_ret2;exact⟨rfl,v,hA,Turn.refl _ _ _⟩
 ·have hE:askE L now s t=1:=by unfold askE;rw [if_pos h1]
  have hN:askN L now s t=0:=by unfold askN;rw [hE];rfl
  have hLL:askL L now s t=L:=by unfold askL;rw [hE];rfl
  rw [hE,hN,hLL];refine(hask_arg Q now s t w h1).mono ?_;rintro e w' ⟨rfl,rfl⟩;exact⟨rfl,v,hA,Turn.refl _ _ _⟩
theorem hdone_any (L:List Rq) (id:Int) (hI:Inv L):Doth 42 (fun Q=> #[.pointer (some ⟨Q,0,none⟩),.int .i64 id]) L (doneL L id) (.returned (.tuple #[.int .i64 (doneN L id),.int .i64 (doneE L id)])):=by
 intro B Q v w hA;have hlen:=hI.len;obtain⟨ao,cap,rfl,hc1,hc2,hao⟩:=hA.form;have cV:=hA.cV;by_cases h:1≤id∧id≤L.length
 ·have c:=fun w=>rin_yes id 1 L.length w h.1 h.2;obtain⟨i,rfl,hl⟩:=id_nat h;obtain⟨r,hr⟩: ∃r,L[i]? =some r:=⟨L[i],by simp [hl]⟩
  obtain⟨g,rfl⟩:=hao (by omega);obtain⟨d0,d1,d2,d3,d4,fz⟩:=hA.req rfl hr;have f3:=fz (i*5+3);have hgQ:=hA.gQ;have hl':(i:Int)<(L.length:Int):=by omega
  have HA:=zh hA;have HR:=zh hr;by_cases hf:r.fat=2
  ·obtain⟨e1,e2,e3⟩:=done_ok hr hf;rw [e1,e2,e3];have h9:(r.fat !=2)=false:=by simp [hf]
   clear e1 e2 e3 hf hr hA fz h;go_enter func42,ntmps42;go_wp2_with(go_at_call 6;(with_reducible refine zq (c _) ?_))
   go_ret2;exact⟨rfl,_,RAt.put (j:=3) HA.out rfl HR.out (by decide) rfl,Turn.setG _ _⟩
  ·obtain⟨e1,e2,e3⟩:=done_state hr hf;rw [e1,e2,e3];have h9:(r.fat !=2)=true:=by simp [hf]
   clear e1 e2 e3 hf hr hA fz h;go_enter func42,ntmps42;go_wp2_with(go_at_call 6;(with_reducible refine zq (c _) ?_))
   go_ret2;exact⟨rfl,_,HA.out,Turn.refl _ _ _⟩
 ·obtain⟨e1,e2,e3⟩:=done_no h;rw [e1,e2,e3];have c:=fun w=>rin_no id 1 L.length w h;clear e1 e2 e3 h;go_enter func42,ntmps42;go_wp2_with(go_at_call 6;(with_reducible refine zq (c _) ?_))
  go_ret2;exact⟨rfl,_,hA,Turn.refl _ _ _⟩
def NxR (L:List Rq) (w:World) (i:Value) (wr:World):Prop:=
 ∃k:Nat,k≤L.length∧i=.int .i64 k∧(∀j,j<k→ ∀x,L[j]? =some x→mayRun L x=false)∧wr=w
theorem nx_step {p:Rq→Bool} {L:List Rq} {k:Nat} {m:Rq} (h: ∀j,j<k→ ∀x,L[j]? =some x→p x=false) (hm:L[k]? =some m) (hp:p m=false): ∀j,j<k+1→ ∀x,L[j]? =some x→p x=false:=by
 intro j hj x hx;by_cases e:j=k
 ·subst e;rw [hm]at hx;cases hx;exact hp
 ·exact h j (by omega) x hx
theorem hnext_any (B Q:Nat) (v:Value) (L:List Rq) (w:World) (hA:HAt w B Q v L) (hL:L.length≤200):
  CS 91 #[.pointer (some ⟨Q,0,none⟩)] w (.tuple #[.int .i64 (nextN L),.bool (nextB L)]):=by
 obtain⟨ao,cap,rfl,hc1,hc2,hao⟩:=hA.form;have cV:=hA.cV;have c:=fun s=>hmany_any B Q (.slice ao L.length cap) L s 2 w hA hL;go_enter func91,ntmps91;go_wp2;go_loopw [4] (fun i wr=>NxR L w i wr) (fun i _=>L.length-(intOf i).toNat)
 case atStart=>exact⟨0,by omega,rfl,fun j hj=>absurd hj (by omega),rfl⟩
 case round=>
  obtain⟨k,hk,rfl,hno,hwr⟩:=hrel;subst hwr;by_cases hlt:k<L.length
  ·have hlt':(k:Int)<(L.length:Int):=by omega
   obtain⟨g,rfl⟩:=hao (by omega);obtain⟨r,hr⟩: ∃r,L[k]? =some r:=⟨L[k],by simp [hlt]⟩
   obtain⟨d0,d1,d2,d3,d4,fz⟩:=hA.req rfl hr;cases h1:(r.fat==1)
   ·have hs:=nx_step hno hr (show mayRun L r=false by unfold mayRun;rw [h1];rfl);clear hA fz hr;go_wp2;go_roundw
    case rel=>exact⟨k+1,by omega,rfl,hs,rfl⟩
    case measure=>simp [intOf];omega
   ·by_cases h2:many r.src 2 L=0
    ·have hf:=Flt.find_at hno hr (show mayRun L r=true by unfold mayRun;rw [h1,h2];rfl);have HF:Hid (nextN L=(k:Int)+1∧nextB L=true):=⟨by unfold nextN;rw [hf],by unfold nextB;rw [hf];rfl⟩
     have c2:=c r.src;rw [h2]at c2;clear hA fz hr hf hno c;go_wp2_with(go_at_call 83;(with_reducible refine zq c2 ?_))
     go_ret2;rw [HF.out.1,HF.out.2];exact⟨rfl,rfl⟩
    ·have h2b:((many r.src 2 L:Int)==0)=false:=by rw [beq_eq_false_iff_ne];omega
     have h2c:(many r.src 2 L==0)=false:=by rw [beq_eq_false_iff_ne];exact h2
     have hs:=nx_step hno hr (show mayRun L r=false by unfold mayRun;rw [h1,h2c];rfl);have c2:=c r.src;clear hA fz hr c h2;go_wp2_with(go_at_call 83;(with_reducible refine zq c2 ?_))
     go_roundw
     case rel=>exact⟨k+1,by omega,rfl,hs,rfl⟩
     case measure=>simp [intOf];omega
  ·obtain rfl:k=L.length:=by omega
   have hf:=Flt.find_no hno;have HF:Hid (nextN L=0∧nextB L=false):=⟨by unfold nextN;rw [hf],by unfold nextB;rw [hf];rfl⟩
   clear hf hno;go_wp2;go_ret2;rw [HF.out.1,HF.out.2];exact⟨rfl,rfl⟩


theorem hlate_any (B Q:Nat) (v:Value) (L:List Rq) (now:Int) (w:World) (hA:HAt w B Q v L) (hI:Inv L) (h0:0≤now) (h9:now≤1099511627776):
  Calls prog 80 #[.pointer (some ⟨Q,0,none⟩),.int .i64 now] w fun e w'=> ∃o,e=.returned (.tuple #[o,.int .i64 0])∧w'.ownsRow w.heap.size 3 1 o (turnI (isLate now) L).length (cels iK.c (turnI (isLate now) L))∧HAt w' B Q v (turnL (isLate now) 4 L)∧Turn rB Q v v w w':=by
 obtain⟨i0,hi,hz0,hz1,hz2⟩:=info_parts info_int;have hlen:=hI.len;obtain⟨ao,cap,rfl,hc1,hc2,hao⟩:=hA.form;have cI:=fun w=>rin_yes now 0 1099511627776 w h0 h9;go_enter func80,ntmps80;go_wp2_with(go_at_call 6;(with_reducible refine zq (cI _) ?_))
 go_loopw [6,7] (fun o i wr=>TuR (isLate now) 4 L B Q (.slice ao L.length cap) w o i wr) (fun _ i _=>L.length-(intOf i).toNat)
 case atStart=>exact⟨0,by omega,rfl,by rw [halfL_zero];exact hA,Turn.refl _ _ _,XO _ _ _ _⟩
 case round=>
  have hQw:=hA.lt;have hgw:=hA.rowLt;clear hA;obtain⟨k,hk,rfl,hA,hT,hown⟩:=hrel;have cV:=hA.cV;have hQl:=hA.lt;by_cases hlt:k<L.length
  ·have hlt':(k:Int)<(L.length:Int):=by omega
   obtain⟨g,rfl⟩:=hao (by omega);obtain⟨r,hr⟩: ∃r,L[k]? =some r:=⟨L[k],by simp [hlt]⟩
   have hrg:=halfL_get (p:=isLate now) (f:=4) hr;obtain⟨d0,d1,d2,d3,d4,fz⟩:=hA.req (halfL_len _ _ _ _).symm hrg;have hnum:=hI.num k r hr;have f3:=fz (k*5+3);have hgQ:=hA.gQ;have hXl:(turnI (isLate now) (L.take k)).length≤200:=Xc (turnI_le _ _) (by rw [Xt];omega);have hsz:=hT.size;have HS:Hid (TuS (isLate now) 4 L B Q (.slice (some ⟨g,0,none⟩) L.length cap) w k r u6 wr):=⟨hlt,hr,hnum,hA,hT,hown,hQw,hgw⟩
   clear hA hT fz hnum hrg hgw;have HO:=zh hown;clear hown hr;generalize hN0:(turnI (isLate now) (L.take k)).length=N0 at*;generalize hC0:cels iK.c (turnI (isLate now) (L.take k))=C0 at*;have HN0:=zh hN0;have HC0:=zh hC0;clear hN0 hC0;cases h1:(r.fat==1)
   ·have hp:(isLate now) r=false:=by unfold isLate;rw [h1];rfl
    go_wp2;go_roundw
    case rel=>exact HS.out.no hp
    case measure=>simp [intOf];omega
   ·by_cases h2:r.til≤now
    ·have hp:(isLate now) r=true:=by unfold isLate;rw [h1];simp;exact h2
     have HO2:Hid ((wr.setCell ⟨g,k*5+3,none⟩ (.int .i64 4)).ownsRow w.heap.size 3 1 u6 N0 C0):=HS.out.store HO.out;go_wp2_with(at_builtin;refine wpList_append_own _ rfl _ _ 54 rfl w.heap.size 3 i0 (.int .i64 0) 1 8 underlying54 hi hz0 hz1 hz2 rfl (by decide) _ N0 C0 rfl (HO2.out.alloc _) ⟨wr.heap.size,0,none⟩ 1 1 [.int .i64 ((k:Int)+1)] rfl rfl (cell_u _ _ _ _ (by simp)) (fun u hu=>by simp at hu;rcases hu with rfl;rfl) (by unfold maxLen;omega) (by omega) (by simp;omega) ?_;intro v' w3 hown3 hgrow3 _)
     go_wp2;go_roundw
     case rel=>exact HS.out.yes hp (by rw [HN0.out,HC0.out];exact hown3) hgrow3
     case measure=>simp [intOf];omega
    ·have hp:(isLate now) r=false:=by unfold isLate;rw [h1];simp;omega
     go_wp2;go_roundw
     case rel=>exact HS.out.no hp
     case measure=>simp [intOf];omega
  ·obtain rfl:k=L.length:=by omega
   rw [XC]at hown;rw [halfL_all]at hA;obtain⟨bo,bn,bc,hu⟩: ∃bo bn bc,u6=.slice bo bn bc:=by
    rcases hown.2 with⟨h0,_⟩|⟨_,_,_,h0,_⟩<;>exact⟨_,_,_,h0⟩
   subst hu;go_wp2;go_ret2;exact⟨_,rfl,hown,hA,hT⟩

theorem hlost_any (B Q:Nat) (v:Value) (L:List Rq) (pod:Int) (w:World) (hA:HAt w B Q v L) (hI:Inv L):
  Calls prog 40 #[.pointer (some ⟨Q,0,none⟩),.int .i64 pod] w fun e w'=> ∃o,e=.returned o∧w'.ownsRow w.heap.size 3 1 o (turnI (isAt pod) L).length (cels iK.c (turnI (isAt pod) L))∧HAt w' B Q v (turnL (isAt pod) 5 L)∧Turn rB Q v v w w':=by
 obtain⟨i0,hi,hz0,hz1,hz2⟩:=info_parts info_int;have hlen:=hI.len;obtain⟨ao,cap,rfl,hc1,hc2,hao⟩:=hA.form;go_enter func40,ntmps40;go_wp2;go_loopw [5,6] (fun o i wr=>TuR (isAt pod) 5 L B Q (.slice ao L.length cap) w o i wr) (fun _ i _=>L.length-(intOf i).toNat)
 case atStart=>exact⟨0,by omega,rfl,by rw [halfL_zero];exact hA,Turn.refl _ _ _,XO _ _ _ _⟩
 case round=>
  have hQw:=hA.lt;have hgw:=hA.rowLt;clear hA;obtain⟨k,hk,rfl,hA,hT,hown⟩:=hrel;have cV:=hA.cV;have hQl:=hA.lt;by_cases hlt:k<L.length
  ·have hlt':(k:Int)<(L.length:Int):=by omega
   obtain⟨g,rfl⟩:=hao (by omega);obtain⟨r,hr⟩: ∃r,L[k]? =some r:=⟨L[k],by simp [hlt]⟩
   have hrg:=halfL_get (p:=isAt pod) (f:=5) hr;obtain⟨d0,d1,d2,d3,d4,fz⟩:=hA.req (halfL_len _ _ _ _).symm hrg;have hnum:=hI.num k r hr;have f3:=fz (k*5+3);have hgQ:=hA.gQ;have hXl:(turnI (isAt pod) (L.take k)).length≤200:=Xc (turnI_le _ _) (by rw [Xt];omega);have hsz:=hT.size;have HS:Hid (TuS (isAt pod) 5 L B Q (.slice (some ⟨g,0,none⟩) L.length cap) w k r u5 wr):=⟨hlt,hr,hnum,hA,hT,hown,hQw,hgw⟩
   clear hA hT fz hnum hrg hgw;have HO:=zh hown;clear hown hr;generalize hN0:(turnI (isAt pod) (L.take k)).length=N0 at*;generalize hC0:cels iK.c (turnI (isAt pod) (L.take k))=C0 at*;have HN0:=zh hN0;have HC0:=zh hC0;clear hN0 hC0;cases h1:(r.fat==2)
   ·have hp:(isAt pod) r=false:=by unfold isAt;rw [h1];rfl
    go_wp2;go_roundw
    case rel=>exact HS.out.no hp
    case measure=>simp [intOf];omega
   ·cases h2:(r.pod==pod);rotate_left
    ·have hp:(isAt pod) r=true:=by unfold isAt;rw [h1,h2];rfl
     have HO2:Hid ((wr.setCell ⟨g,k*5+3,none⟩ (.int .i64 5)).ownsRow w.heap.size 3 1 u5 N0 C0):=HS.out.store HO.out;go_wp2_with(at_builtin;refine wpList_append_own _ rfl _ _ 54 rfl w.heap.size 3 i0 (.int .i64 0) 1 8 underlying54 hi hz0 hz1 hz2 rfl (by decide) _ N0 C0 rfl (HO2.out.alloc _) ⟨wr.heap.size,0,none⟩ 1 1 [.int .i64 ((k:Int)+1)] rfl rfl (cell_u _ _ _ _ (by simp)) (fun u hu=>by simp at hu;rcases hu with rfl;rfl) (by unfold maxLen;omega) (by omega) (by simp;omega) ?_;intro v' w3 hown3 hgrow3 _)
     go_wp2;go_roundw
     case rel=>exact HS.out.yes hp (by rw [HN0.out,HC0.out];exact hown3) hgrow3
     case measure=>simp [intOf];omega
    ·have hp:(isAt pod) r=false:=by unfold isAt;rw [h1,h2];rfl
     go_wp2;go_roundw
     case rel=>exact HS.out.no hp
     case measure=>simp [intOf];omega
  ·obtain rfl:k=L.length:=by omega
   rw [XC]at hown;rw [halfL_all]at hA;obtain⟨bo,bn,bc,hu⟩: ∃bo bn bc,u5=.slice bo bn bc:=by
    rcases hown.2 with⟨h0,_⟩|⟨_,_,_,h0,_⟩<;>exact⟨_,_,_,h0⟩
   subst hu;go_wp2;go_ret;exact⟨_,rfl,hown,hA,hT⟩

def okTo (L:List Rq) (r:Rq) (j:Nat):Bool:=mayRun L r&&(L.take j).all (fun x=> !(waitsOf r.src x))
theorem okTo_step {L:List Rq} {r x:Rq} (h:L[j]? =some x):okTo L r (j+1)=(okTo L r j&& !(waitsOf r.src x)):=by
 unfold okTo;rw [XB,h,List.all_append];simp [Bool.and_assoc]
theorem okTo_all (L:List Rq) (r:Rq) (i:Nat):okTo L r i=runOk L i r:=rfl
def RuR (L:List Rq) (r:Rq) (i:Nat) (w:World) (ok n:Value) (wr:World):Prop:= ∃j q:Nat,j≤i∧n=.int .i64 j∧ok=.bool (okTo L r j)∧wr=w.drewN q
theorem hrun_any (L:List Rq) (id pod:Int) (hI:Inv L):Doth 93 (fun Q=> #[.pointer (some ⟨Q,0,none⟩),.int .i64 id,.int .i64 pod]) L (runL L id pod) (.returned (.int .i64 (runE L id))):=by
 intro B Q v w hA;have hlen:=hI.len;obtain⟨ao,cap,rfl,hc1,hc2,hao⟩:=hA.form;have cV:=hA.cV;by_cases h:1≤id∧id≤L.length
 ·have c:=fun w=>rin_yes id 1 L.length w h.1 h.2;obtain⟨i,rfl,hl⟩:=id_nat h;obtain⟨r,hr⟩: ∃r,L[i]? =some r:=⟨L[i],by simp [hl]⟩
  obtain⟨g,rfl⟩:=hao (by omega);obtain⟨d0,d1,d2,d3,d4,fz⟩:=hA.req rfl hr;have hl':(i:Int)<(L.length:Int):=by omega
  have hm:=hmany_any B Q (.slice (some ⟨g,0,none⟩) L.length cap) L r.src 2 w hA hI.len;have HA:=zh hA;have HR:=zh hr;clear hA fz h hr;have HK:Hid (∀W:World,(∃q,W=w.drewN q)→HAt W B Q (.slice (some ⟨g,0,none⟩) L.length cap) L):=fun W ⟨q,hq⟩=>by rw [hq];exact RAt.drewN HA.out q
  go_enter func93,ntmps93;go_upto_region 4 with(go_at_call 6;(with_reducible refine zq (c _) ?_))
  go_cut [8] (fun ok wx=>ok=.bool (mayRun L r)∧wx=w)
  case first=>
   cases h1:(r.fat==1)
   ·have HM:Hid (mayRun L r=false):=by unfold Hid mayRun;rw [h1];rfl
    go_wp2;go_meet;exact⟨by rw [HM.out],rfl⟩
   ·have HM:Hid (((many r.src 2 L:Int)==0)=mayRun L r):=by
     unfold Hid mayRun;rw [h1];by_cases h2:many r.src 2 L=0
     ·rw [h2];rfl
     ·have h2b:((many r.src 2 L:Int)==0)=false:=by rw [beq_eq_false_iff_ne];omega
      have h2c:(many r.src 2 L==0)=false:=by rw [beq_eq_false_iff_ne];exact h2
      rw [h2b,h2c];rfl
    go_wp2_with(go_at_call 83;(with_reducible refine zq hm ?_))
    go_meet;exact⟨by rw [←HM.out],rfl⟩
  case rest=>
   obtain⟨rfl,hwx⟩:=hcut;subst hwx;clear c hm;go_wp2;go_loopw [8,9] (fun ok n wr=>RuR L r i wc ok n wr) (fun _ n _=>i-(intOf n).toNat)
   case atStart=>exact⟨0,0,by omega,rfl,by simp [okTo],rfl⟩
   case round=>
    obtain⟨j,q,hj,rfl,rfl,hwr⟩:=hrel;have hAr:=HK.out wr ⟨q,hwr⟩;have cVr:=hAr.cV;obtain⟨e0,e1,e2,e3,e4,fz⟩:=hAr.req rfl HR.out;by_cases hlt:j<i
    ·have hlt':(j:Int)<(i:Int):=(by omega);obtain⟨x,hx⟩: ∃x,L[j]? =some x:=⟨L[j]'(by omega),by simp⟩
     have hjl':(j:Int)<(L.length:Int):=(by omega);obtain⟨x0,x1,x2,x3,x4,_⟩:=hAr.req rfl hx;have HS:Hid (okTo L r (j+1)=(okTo L r j&& !(waitsOf r.src x))):=okTo_step hx;have HQ:=zh hwr;clear hAr fz hx hwr;cases hok:okTo L r j
     ·have HV:Hid (okTo L r (j+1)=false):=by unfold Hid;rw [HS.out,hok];rfl
      go_wp2_with fail
      go_quiet (fail)
      go_wp2;go_roundw
      case rel=>exact⟨j+1,q+nq,by omega,rfl,by rw [HV.out],by rw [HQ.out,World.drewN_drewN]⟩
      case measure=>simp [intOf];omega
     ·cases hs:(x.src==r.src)
      ·have HV:Hid (okTo L r (j+1)=true):=by unfold Hid;rw [HS.out,hok];unfold waitsOf;rw [hs];rfl
       go_wp2_with fail
       go_quiet (fail)
       go_wp2;go_roundw
       case rel=>exact⟨j+1,q+nq,by omega,rfl,by rw [HV.out],by rw [HQ.out,World.drewN_drewN]⟩
       case measure=>simp [intOf];omega
      ·cases hf:(x.fat==1)
       ·have HV:Hid (okTo L r (j+1)=true):=by unfold Hid;rw [HS.out,hok];unfold waitsOf;rw [hs,hf];rfl
        go_wp2_with fail
        go_quiet (fail)
        go_wp2;go_roundw
        case rel=>exact⟨j+1,q+nq,by omega,rfl,by rw [HV.out],by rw [HQ.out,World.drewN_drewN]⟩
        case measure=>simp [intOf];omega
       ·have HV:Hid (okTo L r (j+1)=false):=by unfold Hid;rw [HS.out,hok];unfold waitsOf;rw [hs,hf];rfl
        go_wp2_with fail
        go_quiet (fail)
        go_wp2;go_roundw
        case rel=>exact⟨j+1,q+nq,by omega,rfl,by rw [HV.out],by rw [HQ.out,World.drewN_drewN]⟩
        case measure=>simp [intOf];omega
    ·obtain rfl:j=i:=by omega
     rw [okTo_all];have f3:=fz (j*5+3);have f4:=fz (j*5+4);have HT:Hid (Turn rB Q (.slice (some ⟨g,0,none⟩) L.length cap) (.slice (some ⟨g,0,none⟩) L.length cap) wc wr):=by unfold Hid;rw [hwr];exact(Turn.refl _ _ _).drewN q
     clear hwr;cases hok:runOk L j r
     ·obtain⟨r1,r2⟩:=run_state (pod:=pod) HR.out hok;have HE:Hid (runE L ((j:Int)+1)=7∧runL L ((j:Int)+1) pod=L):=⟨r1,r2⟩
      clear r1 r2;go_wp2;go_ret;rw [HE.out.1,HE.out.2];exact⟨rfl,_,hAr,HT.out⟩
     ·obtain⟨r1,r2⟩:=run_ok (pod:=pod) HR.out hok;have HE:Hid (runE L ((j:Int)+1)=0∧runL L ((j:Int)+1) pod=L.set j ⟨r.id,r.src,r.til,2,pod⟩):=⟨r1,r2⟩
      have HP:Hid (HAt ((wr.setCell ⟨g,j*5+3,none⟩ (.int .i64 2)).setCell ⟨g,j*5+4,none⟩ (.int .i64 pod)) B Q (.slice (some ⟨g,0,none⟩) L.length cap) (L.set j ⟨r.id,r.src,r.til,2,pod⟩)):=by
       have p1:HAt (wr.setCell ⟨g,j*5+3,none⟩ (.int .i64 2)) B Q (.slice (some ⟨g,0,none⟩) L.length cap) (L.set j ⟨r.id,r.src,r.til,2,r.pod⟩):=RAt.put (j:=3) hAr rfl HR.out (by decide) rfl;have p2:HAt ((wr.setCell ⟨g,j*5+3,none⟩ (.int .i64 2)).setCell ⟨g,j*5+4,none⟩ (.int .i64 pod)) B Q (.slice (some ⟨g,0,none⟩) L.length cap) ((L.set j ⟨r.id,r.src,r.til,2,r.pod⟩).set j ⟨r.id,r.src,r.til,2,pod⟩):=RAt.put (j:=4) p1 (by simp) (show(L.set j ⟨r.id,r.src,r.til,2,r.pod⟩)[j]? =some ⟨r.id,r.src,r.til,2,r.pod⟩ by simp [hl]) (by decide) rfl;rw [List.set_set]at p2;exact p2
      clear r1 r2 hAr;go_wp2;go_ret;rw [HE.out.1,HE.out.2];exact⟨rfl,_,HP.out,(HT.out.trans (Turn.setG _ _)).trans (Turn.setG _ _)⟩
 ·obtain⟨e1,e2⟩:=run_no (pod:=pod) h;rw [e1,e2];have c:=fun w=>rin_no id 1 L.length w h;clear e1 e2 h;go_enter func93,ntmps93;go_wp2_with(go_at_call 6;(with_reducible refine zq (c _) ?_))
  go_ret;exact⟨rfl,_,hA,Turn.refl _ _ _⟩
