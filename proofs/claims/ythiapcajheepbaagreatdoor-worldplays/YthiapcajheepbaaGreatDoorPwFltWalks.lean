/- A part. -/
import Derived.Test.YthiapcajheepbaaGreatDoorRows
import Derived.ProofKit
import Derived.Deep.QuietTactic
import Derived.Deep.RegionHeld
import Derived.Test.YthiapcajheepbaaGreatDoorPwRecMem
set_option linter.all false
open Go.Proofs.Tryz
set_option maxHeartbeats 32000000
set_option maxRecDepth 8000
namespace Go.Proofs.YthiapcajheepbaaGreatDoor
namespace Flt
open Go.RowKit Rw Rec
variable {g cap i:Nat} {m:Pd} {L:List Pd}

theorem info_pod:(prog.info? 118).map (fun i=>(i.zero,i.size,i.bytes))=some (some (.agg #[.int .i64 0,.int .i64 0,.int .i64 0]),3,24):=by kernel_rfl

abbrev rF:Nat→Prop:=fun j=>46≤j∧j<49
def FAt (w:World) (B Q:Nat) (v:Value) (F:FS):Prop:=RAt pK w 118 B Q 46 2 [.int .i64 F.most,.int .i64 F.last,v] v F.L
section
variable {w w' : World} {B Q : Nat} {v v' : Value} {F : FS}
theorem FAt.lt (h:FAt w B Q v F):Q<w.heap.size:=RAt.lt h
theorem FAt.ne (h:FAt w B Q v F):v.ownBlock≠some Q:=RAt.ne h
theorem FAt.cM (h:FAt w B Q v F):w.cell? ⟨Q,46,none⟩=some (.int .i64 F.most):=RAt.cQ h 0 _ rfl
theorem FAt.cN (h:FAt w B Q v F):w.cell? ⟨Q,47,none⟩=some (.int .i64 F.last):=RAt.cQ h 1 _ rfl
theorem FAt.cV (h:FAt w B Q v F):w.cell? ⟨Q,48,none⟩=some v:=RAt.cQ h 2 _ rfl
theorem FAt.fz (h:FAt w B Q v F): ∀j,w.frozen? ⟨Q,j,none⟩=false:=RAt.fz h
theorem FAt.rowLt (h:FAt w B Q v F): ∀g,v.ownBlock=some g→g<w.heap.size:=RAt.rowLt h
theorem FAt.below (h:FAt w B Q v F) (hb:Below w.heap.size w w'):FAt w' B Q v F:=RAt.below h hb
theorem FAt.alloc (h:FAt w B Q v F) (o:Obj):FAt (w.alloc o) B Q v F:=RAt.alloc h o
theorem FAt.drew (h:FAt w B Q v F):FAt w.drew B Q v F:=RAt.drew h
theorem FAt.form (h:FAt w B Q v F): ∃ao cap,v=.slice ao F.L.length cap∧F.L.length≤cap∧cap≤maxLen∧(0<F.L.length→ ∃g,ao=some ⟨g,0,none⟩):=RAt.form h
theorem FAt.pod {n:Nat} (h:FAt w B Q (.slice (some ⟨g,0,none⟩) n cap) F) (hn:n=F.L.length) (hm:F.L[i]? =some m):
  w.cell? ⟨g,i*3,none⟩=some (.int .i64 m.id)∧w.cell? ⟨g,i*3+1,none⟩=some (.int .i64 m.st)∧w.cell? ⟨g,i*3+2,none⟩=some (.int .i64 m.ld)∧ ∀j,w.frozen? ⟨g,j,none⟩=false:=
 ⟨RAt.cells h hn hm 0 _ rfl,RAt.cells h hn hm 1 _ rfl,RAt.cells h hn hm 2 _ rfl,RAt.fzG h hn⟩
theorem FAt.row {ao:Option Addr} {cap:Nat} (h:FAt w B Q (.slice ao F.L.length cap) F):RowAt pK w ao F.L:=RAt.row h
theorem FAt.gQ {n:Nat} (h:FAt w B Q (.slice (some ⟨g,0,none⟩) n cap) F):g≠Q:=fun e=>h.ne (by rw [e];rfl)
end
theorem row_pod {w:World} {ao:Option Addr} (h:RowAt pK w ao L) (hl:0<L.length): ∃g,ao=some ⟨g,0,none⟩∧g<w.heap.size∧ ∀i m,L[i]? =some m→w.cell? ⟨g,i*3,none⟩=some (.int .i64 m.id)∧w.cell? ⟨g,i*3+1,none⟩=some (.int .i64 m.st)∧w.cell? ⟨g,i*3+2,none⟩=some (.int .i64 m.ld):=by
 obtain⟨g,rfl,hg,hc⟩:=h hl;exact⟨g,rfl,hg,fun i m hm=>⟨hc i m hm 0 _ rfl,hc i m hm 1 _ rfl,hc i m hm 2 _ rfl⟩⟩

def pV (p:Pd):Value:=.agg #[.int .i64 p.id,.int .i64 p.st,.int .i64 p.ld]
theorem stays_any (p:Pd) (w:World):
  CB 127 #[pV p] w (.bool (stays p)):=by
 unfold pV;go_enter func127,ntmps127;go_wp2;go_ret;exact⟨rfl,(Below.refl _ _).alloc (Xa _) _⟩
theorem two_alloc (w:World) (a b:Obj):Below w.heap.size w ((w.alloc a).alloc b):=((Below.refl _ _).alloc (Xa _) a).alloc (by simp) b
theorem goes_any (p q:Pd) (w:World):
  CB 147 #[pV p,pV q] w (.bool (goes p q)):=by
 unfold pV goes;cases h1:(p.st !=q.st)
 ·cases h2:(p.ld !=q.ld)
  ·go_enter func147,ntmps147;go_wp2;go_ret;exact⟨rfl,two_alloc _ _ _⟩
  ·go_enter func147,ntmps147;go_wp2;go_ret;exact⟨rfl,two_alloc _ _ _⟩
 ·go_enter func147,ntmps147;go_wp2;go_ret;exact⟨rfl,two_alloc _ _ _⟩
theorem given_any (p q:Pd) (w:World):
  CB 150 #[pV p,pV q] w (.bool (given p q)):=by
 unfold pV given;cases h2:(p.ld !=q.ld)
 ·go_enter func150,ntmps150;go_wp2;go_ret;exact⟨rfl,two_alloc _ _ _⟩
 ·go_enter func150,ntmps150;go_wp2;go_ret;exact⟨rfl,two_alloc _ _ _⟩
theorem quiet_below {w w':World} {n:Nat} (h:Below n w w') (q:Nat):Below n w (w'.drewN q):=⟨h.os,h.tape,h.output,h.size,h.block⟩
theorem room_any (p:Pd) (C Q:Nat) (most:Int) (w:World) (hC:w.cell? ⟨C,0,none⟩=some (.pointer (some ⟨Q,46,none⟩))) (hM:w.cell? ⟨Q,46,none⟩=some (.int .i64 most)):
  CB 149 #[pV p,.pointer (some ⟨C,0,none⟩)] w (.bool (room most p)):=by
 unfold pV room;have hl:=Xj w _ hC;have hl2:=Xj w _ hM;simp only at hl hl2;cases h1:(p.st==3)
 ·go_enter func149,ntmps149;go_wp2_with fail
  go_region
  all_goals
  go_wp2;go_ret;exact⟨rfl,((Below.refl _ _).alloc (Xa _) _).drew⟩
 ·go_enter func149,ntmps149;go_wp2_with fail
  go_region
  all_goals
  go_wp2;go_ret;exact⟨rfl,((Below.refl _ _).alloc (Xa _) _).drew⟩
theorem isId_any (p:Pd) (C:Nat) (id:Int) (w:World) (hC:w.cell? ⟨C,0,none⟩=some (.int .i64 id)):
  CB 152 #[pV p,.pointer (some ⟨C,0,none⟩)] w (.bool (isId id p)):=by
 unfold pV;have hl:=Xj w _ hC;go_enter func152,ntmps152;go_wp2;go_ret;exact⟨rfl,(Below.refl _ _).alloc (Xa _) _⟩
theorem cisId_any (p:Pd) (C:Nat) (id:Int) (w:World) (hC:w.cell? ⟨C,0,none⟩=some (.int .i64 id)):
  CB 132 #[pV p,.pointer (some ⟨C,0,none⟩)] w (.bool (isId id p)):=by
 unfold pV;have hl:=Xj w _ hC;go_enter func132,ntmps132;go_wp2;go_ret;exact⟨rfl,(Below.refl _ _).alloc (Xa _) _⟩

def mostN (n:Int):Int:=if n<1 then 1 else if n>100 then 100 else n
theorem most_bd (n:Int):1≤mostN n∧mostN n≤100:=by unfold mostN;split<;>(try split)<;>omega
abbrev FAt0 (w:World) (B Q:Nat) (v:Value) (F:FS):Prop:=RAt pK w 118 B Q 0 2 [.int .i64 F.most,.int .i64 F.last,v] v F.L
theorem new_any (n:Int) (w:World):Calls prog 15 #[.int .i64 n] w fun e w'=>e=.returned (.pointer (some ⟨w.heap.size,0,none⟩))∧FAt0 w' w.heap.size w.heap.size (.slice none 0 0) ⟨mostN n,0,[]⟩∧Below w.heap.size w w':=by
 have fin: ∀m:Int,FAt0 (w.alloc (.cells #[.int .i64 m,.int .i64 0,.slice none 0 0] 67)) w.heap.size w.heap.size (.slice none 0 0) ⟨m,0,[]⟩∧Below w.heap.size w (w.alloc (.cells #[.int .i64 m,.int .i64 0,.slice none 0 0] 67)):=by
  intro m;refine⟨⟨by simp,Xa _,fun j u hu=> ?_,rfl,fun j=>by simp,XO _ _ _ _,by simp [Value.ownBlock]⟩,(Below.refl _ _).alloc (Xa _) _⟩;match j,hu with
  |0,hu=>simp at hu;subst hu;simp
  |1,hu=>simp at hu;subst hu;simp
  |2,hu=>simp at hu;subst hu;simp
  |j+3,hu=>simp at hu
 by_cases h1:n<1
 ·have e:mostN n=1:=by unfold mostN;simp [h1]
  have h2: ¬1<n:=by omega
  have h3: ¬n>1:=by omega
  rw [e];go_enter func15,ntmps15;go_wp2;go_ret;exact⟨rfl,fin _⟩
 ·by_cases h2:n>100
  ·have e:mostN n=100:=by unfold mostN;rw [if_neg h1,if_pos h2]
   rw [e];have h3:1<n:=by omega
   go_enter func15,ntmps15;go_wp2;go_ret;exact⟨rfl,fin _⟩
  ·have e:mostN n=n:=by unfold mostN;rw [if_neg h1,if_neg h2]
   rw [e];have h3:n≤100:=by omega
   have h4:1≤n:=by omega
   go_enter func15,ntmps15;go_wp2;go_ret;exact⟨rfl,fin _⟩

def CnR (L:List Pd) (w:World) (d i:Value) (wr:World):Prop:= ∃k:Nat,k≤L.length∧i=.int .i64 k∧d=.int .i64 (cnt (L.take k):Int)∧Below w.heap.size w wr
theorem count_any (B Q:Nat) (v:Value) (F:FS) (w:World) (hA:FAt w B Q v F) (hL:F.L.length≤1000000000):
  CB 113 #[.pointer (some ⟨Q,46,none⟩)] w (.int .i64 (cnt F.L:Int)):=by
 obtain⟨ao,cap,rfl,hc1,hc2,hao⟩:=hA.form;have cV:=hA.cV;have hR:=hA.row;generalize F.L=L at*;clear hA;go_enter func113,ntmps113;go_wp2;go_loopw [3,11] (fun d i wr=>CnR L w d i wr) (fun _ i _=>L.length-(intOf i).toNat)
 case atStart=>exact⟨0,by omega,rfl,by simp [cnt],Below.refl _ _⟩
 case round=>
  obtain⟨k,hk,rfl,rfl,hb⟩:=hrel;by_cases hlt:k<L.length
  ·have hlt':(k:Int)<(L.length:Int):=by omega
   obtain⟨g,rfl,hg,hc⟩:=row_pod (hR.below hb) (by omega);obtain⟨m,hm⟩: ∃m,L[k]? =some m:=⟨L[k],by simp [hlt]⟩
   obtain⟨c0,c1,c2⟩:=hc k m hm;have hs:=cnt_step hm;have hd:cnt (L.take k)≤1000000000:=Xc (cnt_le _) (by rw [Xt];omega);have c3:=fun w=>stays_any m w;simp only [pV]at c3;clear hc hR cV;have hbw:=hb.alloc hb.size (.cells #[.int .i64 m.id,.int .i64 m.st,.int .i64 m.ld] 118);have HB:=zh hbw;clear hb hbw;cases hm2:stays m
   ·simp only [hm2,XU,if_false,XD]at hs c3;go_wp2_with(go_at_call 127;(with_reducible refine zg (c3 _) fun w3 hb3=>?_))
    go_roundw
    case rel=>exact⟨k+1,by omega,rfl,by rw [hs],(zu HB.out hb3)⟩
    case measure=>simp [intOf];omega
   ·simp only [hm2,if_true]at hs c3;go_wp2_with(go_at_call 127;(with_reducible refine zg (c3 _) fun w3 hb3=>?_))
    go_roundw
    case rel=>exact⟨k+1,by omega,rfl,by rw [hs];simp,(zu HB.out hb3)⟩
    case measure=>simp [intOf];omega
  ·obtain rfl:k=L.length:=by omega
   go_wp2;go_ret;exact⟨by rw [XC];rfl,hb⟩

def IxR (p:Pd→Bool) (L:List Pd) (w:World) (i:Value) (wr:World):Prop:=
 ∃k:Nat,k≤L.length∧i=.int .i64 k∧(∀j,j<k→ ∀x,L[j]? =some x→p x=false)∧Below w.heap.size w wr
theorem ix_step {p:Pd→Bool} {k:Nat} (h: ∀j,j<k→ ∀x,L[j]? =some x→p x=false) (hm:L[k]? =some m) (hp:p m=false): ∀j,j<k+1→ ∀x,L[j]? =some x→p x=false:=by
 intro j hj x hx;by_cases e:j=k
 ·subst e;rw [hm]at hx;cases hx;exact hp
 ·exact h j (by omega) x hx

theorem findex (ao:Option Addr) (cap C:Nat) (id:Int) (L:List Pd) (w:World) (hR:RowAt pK w ao L) (hL:L.length≤1000000000) (hC:w.cell? ⟨C,0,none⟩=some (.int .i64 id)):
  CB 131 #[.slice ao L.length cap,.func (.func 152) #[] #[.pointer (some ⟨C,0,none⟩)]] w (.int .i64 (idxV (L.findIdx? (isId id)))):=by
 have hCl:=Xj w _ hC;go_enter func131,ntmps131;go_wp2;go_loopw [8] (fun i wr=>IxR (isId id) L w i wr) (fun i _=>L.length-(intOf i).toNat)
 case atStart=>exact⟨0,by omega,rfl,fun j hj=>absurd hj (by omega),Below.refl _ _⟩
 case round=>
  obtain⟨k,hk,rfl,hno,hb⟩:=hrel;by_cases hlt:k<L.length
  ·have hlt':(k:Int)<(L.length:Int):=by omega
   obtain⟨g,rfl,hg,hc⟩:=row_pod (hR.below hb) (by omega);obtain⟨m,hm⟩: ∃m,L[k]? =some m:=⟨L[k],by simp [hlt]⟩
   obtain⟨c0,c1,c2⟩:=hc k m hm;have hC2:=(hb.cell hCl).trans hC;clear hc;cases hp:isId id m
   ·have hs:=ix_step hno hm hp;go_wp2_with(go_at_call 152;refine(isId_any m C id _ hC2).mono ?_;rw [hp];rintro e w2 ⟨rfl,hb2⟩)
    go_roundw
    case rel=>exact⟨k+1,by omega,rfl,hs,(zu hb hb2)⟩
    case measure=>simp [intOf];omega
   ·have hf:=find_at hno hm hp;go_wp2_with(go_at_call 152;refine(isId_any m C id _ hC2).mono ?_;rw [hp];rintro e w2 ⟨rfl,hb2⟩)
    go_ret;exact⟨by rw [hf];rfl,(zu hb hb2)⟩
  ·obtain rfl:k=L.length:=by omega
   have hf:=find_no hno;go_wp2;go_ret;exact⟨by rw [hf];rfl,hb⟩
theorem fid_none (ao:Option Addr) (cap C:Nat) (id:Int) (L:List Pd) (w:World) (hR:RowAt pK w ao L) (hL:L.length≤1000000000) (hC:w.cell? ⟨C,0,none⟩=some (.int .i64 id)) (hn:L.findIdx? (isId id)=none):
  CB 131 #[.slice ao L.length cap,.func (.func 152) #[] #[.pointer (some ⟨C,0,none⟩)]] w (.int .i64 (-1)):=by
 refine(findex ao cap C id L w hR hL hC).mono ?_;rw [hn];exact fun _ _ h=>h
theorem fid_some (ao:Option Addr) (cap C:Nat) (id:Int) (L:List Pd) (w:World) (hR:RowAt pK w ao L) (hL:L.length≤1000000000) (hC:w.cell? ⟨C,0,none⟩=some (.int .i64 id)) (hn:L.findIdx? (isId id)=some i):
  CB 131 #[.slice ao L.length cap,.func (.func 152) #[] #[.pointer (some ⟨C,0,none⟩)]] w (.int .i64 (i:Int)):=by
 refine(findex ao cap C id L w hR hL hC).mono ?_;rw [hn];exact fun _ _ h=>h
theorem cindex (ao:Option Addr) (cap C:Nat) (id:Int) (L:List Pd) (w:World) (hR:RowAt pK w ao L) (hL:L.length≤1000000000) (hC:w.cell? ⟨C,0,none⟩=some (.int .i64 id)):
  CB 131 #[.slice ao L.length cap,.func (.func 132) #[] #[.pointer (some ⟨C,0,none⟩)]] w (.int .i64 (idxV (L.findIdx? (isId id)))):=by
 have hCl:=Xj w _ hC;go_enter func131,ntmps131;go_wp2;go_loopw [8] (fun i wr=>IxR (isId id) L w i wr) (fun i _=>L.length-(intOf i).toNat)
 case atStart=>exact⟨0,by omega,rfl,fun j hj=>absurd hj (by omega),Below.refl _ _⟩
 case round=>
  obtain⟨k,hk,rfl,hno,hb⟩:=hrel;by_cases hlt:k<L.length
  ·have hlt':(k:Int)<(L.length:Int):=by omega
   obtain⟨g,rfl,hg,hc⟩:=row_pod (hR.below hb) (by omega);obtain⟨m,hm⟩: ∃m,L[k]? =some m:=⟨L[k],by simp [hlt]⟩
   obtain⟨c0,c1,c2⟩:=hc k m hm;have hC2:=(hb.cell hCl).trans hC;clear hc;cases hp:isId id m
   ·have hs:=ix_step hno hm hp;go_wp2_with(go_at_call 132;refine(cisId_any m C id _ hC2).mono ?_;rw [hp];rintro e w2 ⟨rfl,hb2⟩)
    go_roundw
    case rel=>exact⟨k+1,by omega,rfl,hs,(zu hb hb2)⟩
    case measure=>simp [intOf];omega
   ·have hf:=find_at hno hm hp;go_wp2_with(go_at_call 132;refine(cisId_any m C id _ hC2).mono ?_;rw [hp];rintro e w2 ⟨rfl,hb2⟩)
    go_ret;exact⟨by rw [hf];rfl,(zu hb hb2)⟩
  ·obtain rfl:k=L.length:=by omega
   have hf:=find_no hno;go_wp2;go_ret;exact⟨by rw [hf];rfl,hb⟩
theorem cid_none (ao:Option Addr) (cap C:Nat) (id:Int) (L:List Pd) (w:World) (hR:RowAt pK w ao L) (hL:L.length≤1000000000) (hC:w.cell? ⟨C,0,none⟩=some (.int .i64 id)) (hn:L.findIdx? (isId id)=none):
  CB 131 #[.slice ao L.length cap,.func (.func 132) #[] #[.pointer (some ⟨C,0,none⟩)]] w (.int .i64 (-1)):=by
 refine(cindex ao cap C id L w hR hL hC).mono ?_;rw [hn];exact fun _ _ h=>h
theorem cid_some (ao:Option Addr) (cap C:Nat) (id:Int) (L:List Pd) (w:World) (hR:RowAt pK w ao L) (hL:L.length≤1000000000) (hC:w.cell? ⟨C,0,none⟩=some (.int .i64 id)) (hn:L.findIdx? (isId id)=some i):
  CB 131 #[.slice ao L.length cap,.func (.func 132) #[] #[.pointer (some ⟨C,0,none⟩)]] w (.int .i64 (i:Int)):=by
 refine(cindex ao cap C id L w hR hL hC).mono ?_;rw [hn];exact fun _ _ h=>h
