/- A part. -/
import Derived.Test.YthiapcajheepbaaGreatDoorRows
import Derived.ProofKit
import Derived.Deep.QuietTactic
import Derived.Deep.RegionWith
import Derived.Test.YthiapcajheepbaaGreatDoorPwQueMem
set_option linter.all false
open Go.Proofs.Tryz
set_option maxHeartbeats 32000000
set_option maxRecDepth 8000
namespace Go.Proofs.YthiapcajheepbaaGreatDoor
namespace Que
open Go.RowKit
variable {w:World} {ao:Option Addr} {L:List M} {i:Nat}

theorem info_msg:(prog.info? 128).map (fun i=>(i.zero,i.size,i.bytes))=some (some (.agg #[.int .i64 0,.int .i64 0,.bool false]),3,24):=by kernel_rfl

def GbR (B Q oN oS:Nat) (last:Int) (v:Value) (L:List M) (now:Int) (w:World) (i:Value) (wr:World):Prop:=
 ∃k:Nat,k≤L.length∧i=.int .i64 k∧QAt wr 128 B Q oN oS last v (half (back now) L k)∧Turn rQ Q v v w wr
theorem giveBack_yes (B Q:Nat) (last:Int) (v:Value) (L:List M) (now:Int) (w:World) (hA:QAt w 128 B Q 44 45 last v L) (h0:0≤now) (h1:now≤1099511627776) (hL:L.length≤200):
  Calls prog 68 #[.pointer (some ⟨Q,44,none⟩),.int .i64 now] w fun e w'=>e=.returned (.int .i64 0)∧QAt w' 128 B Q 44 45 last v (backL now L)∧Turn rQ Q v v w w':=by
 obtain⟨ao,cap,rfl,hc1,hc2,hao⟩:=hA.form;have cS:=hA.cS;go_enter func68,ntmps68;go_wp2;go_loopw [18] (fun i wr=>GbR B Q 44 45 last (.slice ao L.length cap) L now w i wr) (fun i _=>L.length-(intOf i).toNat)
 case atStart=>exact⟨0,by omega,rfl,by rw [half_zero];exact hA,Turn.refl _ _ _⟩
 case round=>
  clear hA cS;obtain⟨k,hk,rfl,hA,hT⟩:=hrel;by_cases hlt:k<L.length
  ·have hlt':(k:Int)<(L.length:Int):=by omega
   obtain⟨g,rfl⟩:=hao (by omega);obtain⟨m,hm⟩: ∃m,L[k]? =some m:=⟨L[k],by simp [hlt]⟩
   have hgm:=half_get (back now) L k m hm;have hgl:=hA.rowLt g rfl;have hQl:=hA.lt;have hgQ:g≠Q:=fun e=>hA.ne (by rw [e];rfl);obtain⟨c0,c1,c2,fz⟩:=hA.cells (half_len _ _ _).symm hgm;have cS:=hA.cS;have f0:=fz (k*3);have f1:=fz (k*3+1);have f2:=fz (k*3+2);have HA:=zh hA;have HT:=zh hT;clear hA hT fz;obtain⟨id,till,tk⟩:=m;simp only at c0 c1 c2;cases tk
   ·have hb:back now ⟨id,till,false⟩=⟨id,till,false⟩:=by simp [back]
    have hh:=half_same (back now) L k _ hm hb;go_wp2;go_roundw
    case rel=>exact⟨k+1,by omega,rfl,by rw [←hh];exact HA.out.alloc _,HT.out.alloc _⟩
    case measure=>simp [intOf];omega
   ·by_cases ht:till≤now
    ·have hb:back now ⟨id,till,true⟩=⟨id,0,false⟩:=by simp [back,ht]
     have hh:=half_step (back now) L k _ hm;rw [hb]at hh;go_wp2_with fail
     go_region
     all_goals
     go_wp2;go_roundw
     case rel=>
      have h3:=HA.out.set3 (half_len _ _ _).symm (by rw [half_len];exact hlt) id 0 false;rw [hh]at h3;have t3:=((HT.out.trans (Turn.setG (k*3) (.int .i64 id))).trans (Turn.setG (k*3+1) (.int .i64 0))).trans (Turn.setG (k*3+2) (.bool false));exact⟨k+1,by omega,rfl,(h3.alloc _).drew,(t3.alloc _).drew⟩
     case measure=>simp [intOf];omega
    ·have hb:back now ⟨id,till,true⟩=⟨id,till,true⟩:=by simp [back,ht]
     have hh:=half_same (back now) L k _ hm hb;go_wp2;go_roundw
     case rel=>exact⟨k+1,by omega,rfl,by rw [←hh];exact HA.out.alloc _,HT.out.alloc _⟩
     case measure=>simp [intOf];omega
  ·obtain rfl:k=L.length:=by omega
   go_wp2;go_ret;exact⟨rfl,by rw [half_all]at hA;exact hA,hT⟩

def mV (m:M):Value:=.agg #[.int .i64 m.id,.int .i64 m.till,.bool m.tk]
theorem waits_any (m:M) (w:World):
  CB 70 #[mV m] w (.bool (free m)):=by
 unfold mV;go_enter func70,ntmps70;go_wp2;go_ret;exact⟨rfl,(Below.refl _ _).alloc (Xa _) _⟩
theorem same_any (m:M) (C:Nat) (id:Int) (w:World) (hC:w.cell? ⟨C,0,none⟩=some (.int .i64 id)):
  CB 71 #[mV m,.pointer (some ⟨C,0,none⟩)] w (.bool (isId id m)):=by
 unfold mV;have hl:=Xj w _ hC;go_enter func71,ntmps71;go_wp2;go_ret;exact⟨rfl,(Below.refl _ _).alloc (Xa _) _⟩

def RowAt (w:World) (ao:Option Addr) (L:List M):Prop:=
 0<L.length→ ∃g,ao=some ⟨g,0,none⟩∧g<w.heap.size∧ ∀i m,L[i]? =some m→w.cell? ⟨g,i*3,none⟩=some (.int .i64 m.id)∧w.cell? ⟨g,i*3+1,none⟩=some (.int .i64 m.till)∧w.cell? ⟨g,i*3+2,none⟩=some (.bool m.tk)
theorem RowAt.below {w':World} (h:RowAt w ao L) (hb:Below w.heap.size w w'):RowAt w' ao L:=by
 intro hl;obtain⟨g,rfl,hg,hc⟩:=h hl;refine⟨g,rfl,Xb hg hb.size,fun i m hm=> ?_⟩;obtain⟨a,b,c⟩:=hc i m hm;exact⟨(zk a hb),(zk b hb),(zk c hb)⟩
theorem QAt.row {e:TypeId} {B Q oN oS:Nat} {last:Int} {cap:Nat} (h:QAt w e B Q oN oS last (.slice ao L.length cap) L):RowAt w ao L:=by
 intro hl;obtain⟨ao',cap',he,_,_,hg⟩:=h.form;cases he;obtain⟨g,rfl⟩:=hg hl;refine⟨g,rfl,h.rowLt g rfl,fun i m hm=> ?_⟩;obtain⟨a,b,c,_⟩:=h.cells rfl hm;exact⟨a,b,c⟩

def IxR (p:M→Bool) (L:List M) (w:World) (i:Value) (wr:World):Prop:=
 ∃k:Nat,k≤L.length∧i=.int .i64 k∧(∀j,j<k→ ∀x,L[j]? =some x→p x=false)∧Below w.heap.size w wr
theorem ix_step {p:M→Bool} {k:Nat} {m:M} (h: ∀j,j<k→ ∀x,L[j]? =some x→p x=false) (hm:L[k]? =some m) (hp:p m=false): ∀j,j<k+1→ ∀x,L[j]? =some x→p x=false:=by
 intro j hj x hx;by_cases e:j=k
 ·subst e;rw [hm]at hx;cases hx;exact hp
 ·exact h j (by omega) x hx

theorem index_free (ao:Option Addr) (cap:Nat) (L:List M) (w:World) (hR:RowAt w ao L) (hL:L.length≤200):
  CB 69 #[.slice ao L.length cap,.func (.func 70) #[] #[]] w (.int .i64 (idxV (L.findIdx? free))):=by
 go_enter func69,ntmps69;go_wp2;go_loopw [8] (fun i wr=>IxR free L w i wr) (fun i _=>L.length-(intOf i).toNat)
 case atStart=>exact⟨0,by omega,rfl,fun j hj=>absurd hj (by omega),Below.refl _ _⟩
 case round=>
  obtain⟨k,hk,rfl,hno,hb⟩:=hrel;by_cases hlt:k<L.length
  ·have hlt':(k:Int)<(L.length:Int):=by omega
   obtain⟨g,rfl,hg,hc⟩:=hR.below hb (by omega);obtain⟨m,hm⟩: ∃m,L[k]? =some m:=⟨L[k],by simp [hlt]⟩
   obtain⟨c0,c1,c2⟩:=hc k m hm;clear hc;cases hp:free m
   ·have hs:=ix_step hno hm hp;go_wp2_with(go_at_call 70;refine(waits_any m _).mono ?_;rw [hp];rintro e w2 ⟨rfl,hb2⟩)
    go_roundw
    case rel=>exact⟨k+1,by omega,rfl,hs,(zu hb hb2)⟩
    case measure=>simp [intOf];omega
   ·have hf:=find_at hno hm hp;go_wp2_with(go_at_call 70;refine(waits_any m _).mono ?_;rw [hp];rintro e w2 ⟨rfl,hb2⟩)
    go_ret;exact⟨by rw [hf];rfl,(zu hb hb2)⟩
  ·obtain rfl:k=L.length:=by omega
   have hf:=find_no hno;go_wp2;go_ret;exact⟨by rw [hf];rfl,hb⟩
theorem index_id (ao:Option Addr) (cap C:Nat) (id:Int) (L:List M) (w:World) (hR:RowAt w ao L) (hL:L.length≤200) (hC:w.cell? ⟨C,0,none⟩=some (.int .i64 id)):
  CB 69 #[.slice ao L.length cap,.func (.func 71) #[] #[.pointer (some ⟨C,0,none⟩)]] w (.int .i64 (idxV (L.findIdx? (isId id)))):=by
 have hCl:=Xj w _ hC;go_enter func69,ntmps69;go_wp2;go_loopw [8] (fun i wr=>IxR (isId id) L w i wr) (fun i _=>L.length-(intOf i).toNat)
 case atStart=>exact⟨0,by omega,rfl,fun j hj=>absurd hj (by omega),Below.refl _ _⟩
 case round=>
  obtain⟨k,hk,rfl,hno,hb⟩:=hrel;by_cases hlt:k<L.length
  ·have hlt':(k:Int)<(L.length:Int):=by omega
   obtain⟨g,rfl,hg,hc⟩:=hR.below hb (by omega);obtain⟨m,hm⟩: ∃m,L[k]? =some m:=⟨L[k],by simp [hlt]⟩
   obtain⟨c0,c1,c2⟩:=hc k m hm;have hC2:=(hb.cell hCl).trans hC;clear hc;cases hp:isId id m
   ·have hs:=ix_step hno hm hp;go_wp2_with(go_at_call 71;refine(same_any m C id _ hC2).mono ?_;rw [hp];rintro e w2 ⟨rfl,hb2⟩)
    go_roundw
    case rel=>exact⟨k+1,by omega,rfl,hs,(zu hb hb2)⟩
    case measure=>simp [intOf];omega
   ·have hf:=find_at hno hm hp;go_wp2_with(go_at_call 71;refine(same_any m C id _ hC2).mono ?_;rw [hp];rintro e w2 ⟨rfl,hb2⟩)
    go_ret;exact⟨by rw [hf];rfl,(zu hb hb2)⟩
  ·obtain rfl:k=L.length:=by omega
   have hf:=find_no hno;go_wp2;go_ret;exact⟨by rw [hf];rfl,hb⟩
theorem free_none (ao:Option Addr) (cap:Nat) (L:List M) (w:World) (hR:RowAt w ao L) (hL:L.length≤200) (hn:L.findIdx? free=none):
  CB 69 #[.slice ao L.length cap,.func (.func 70) #[] #[]] w (.int .i64 (-1)):=by
 refine(index_free ao cap L w hR hL).mono ?_;rw [hn];exact fun _ _ h=>h
theorem free_some (ao:Option Addr) (cap:Nat) (L:List M) (w:World) (hR:RowAt w ao L) (hL:L.length≤200) (hn:L.findIdx? free=some i):
  CB 69 #[.slice ao L.length cap,.func (.func 70) #[] #[]] w (.int .i64 (i:Int)):=by
 refine(index_free ao cap L w hR hL).mono ?_;rw [hn];exact fun _ _ h=>h
theorem id_none (ao:Option Addr) (cap C:Nat) (id:Int) (L:List M) (w:World) (hR:RowAt w ao L) (hL:L.length≤200) (hC:w.cell? ⟨C,0,none⟩=some (.int .i64 id)) (hn:L.findIdx? (isId id)=none):
  CB 69 #[.slice ao L.length cap,.func (.func 71) #[] #[.pointer (some ⟨C,0,none⟩)]] w (.int .i64 (-1)):=by
 refine(index_id ao cap C id L w hR hL hC).mono ?_;rw [hn];exact fun _ _ h=>h
theorem id_some (ao:Option Addr) (cap C:Nat) (id:Int) (L:List M) (w:World) (hR:RowAt w ao L) (hL:L.length≤200) (hC:w.cell? ⟨C,0,none⟩=some (.int .i64 id)) (hn:L.findIdx? (isId id)=some i):
  CB 69 #[.slice ao L.length cap,.func (.func 71) #[] #[.pointer (some ⟨C,0,none⟩)]] w (.int .i64 (i:Int)):=by
 refine(index_id ao cap C id L w hR hL hC).mono ?_;rw [hn];exact fun _ _ h=>h
