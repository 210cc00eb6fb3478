/- A part. -/
import Derived.Test.YthiapcajheepbaaGreatDoorPwTak
import Derived.Test.YthiapcajheepbaaGreatDoorPwFltWalks
set_option linter.all false
open Go.Proofs.Tryz
set_option maxHeartbeats 32000000
set_option maxRecDepth 8000
namespace Go.Proofs.YthiapcajheepbaaGreatDoor
namespace Flt
open Go.RowKit Rw Rec
variable {v:Value} {L:List Pd} {id:Int} {i:Nat} {p:Pd} {F:FS}

def chGoR (L:List Pd) (w:World) (b i:Value) (wr:World):Prop:=
 ∃(k:Nat) (bo:Option (Nat×Pd)),k≤L.length∧i=.int .i64 k∧b=.int .i64 (pickV bo)∧In (stays) L k bo∧pick (stays) goes (L.drop k) k bo=pick (stays) goes L 0 none∧Below w.heap.size w wr
theorem chGo_any (B Q:Nat) (v:Value) (F:FS) (w:World) (hA:FAt w B Q v F) (hL:F.L.length≤1000000000):
  CB 146 #[.pointer (some ⟨Q,46,none⟩),.func (.func 127) #[] #[],.func (.func 147) #[] #[]] w (.int .i64 (pickV (pick (stays) goes F.L 0 none))):=by
 obtain⟨ao,cap,rfl,hc1,hc2,hao⟩:=hA.form;have cV:=hA.cV;have hR:=hA.row;have hQl:=hA.lt;generalize F.L=L at*;clear hA;go_enter func146,ntmps146;go_wp2;go_loopw [7,15] (fun b i wr=>chGoR L w b i wr) (fun _ i _=>L.length-(intOf i).toNat)
 case atStart=>exact⟨0,none,by omega,rfl,rfl,In.none _ _ _,rfl,Below.refl _ _⟩
 case round=>
  obtain⟨k,bo,hk,rfl,rfl,hIn,hP,hb⟩:=hrel;by_cases hlt:k<L.length
  ·have hlt':(k:Int)<(L.length:Int):=by omega
   obtain⟨g,rfl,hg,hc⟩:=row_pod (hR.below hb) (by omega);obtain⟨m,hm⟩: ∃m,L[k]? =some m:=⟨L[k],by simp [hlt]⟩
   obtain⟨c0,c1,c2⟩:=hc k m hm;have hIn2:=hIn.next (ah:=goes) hm;rw [pick_step bo hm]at hP;have cVr:=(hb.cell (p:=⟨Q,48,none⟩) hQl).trans cV;have hbw:=hb.alloc hb.size (.cells #[.int .i64 m.id,.int .i64 m.st,.int .i64 m.ld] 118);obtain⟨W,hW⟩: ∃W,W=wr.alloc (.cells #[.int .i64 m.id,.int .i64 m.st,.int .i64 m.ld] 118):=⟨_,rfl⟩
   have bW:Below wr.heap.size wr W:=by rw [hW];exact(Below.refl _ _).alloc (Xa _) _
   have hQr:Q<wr.heap.size:=Xb hQl hb.size;have cW:=(bW.cell (p:=⟨Q,48,none⟩) hQr).trans cVr;rw [←hW]at hbw;have e0:W.cell? ⟨wr.heap.size,0,none⟩=some (.int .i64 m.id):=by rw [hW];simp
   have e1:W.cell? ⟨wr.heap.size,1,none⟩=some (.int .i64 m.st):=by rw [hW];simp
   have e2:W.cell? ⟨wr.heap.size,2,none⟩=some (.int .i64 m.ld):=by rw [hW];simp
   have hsW:W.drew.heap.size=wr.heap.size+1:=by rw [hW];simp
   have HB:Hid (Below w.heap.size w W.drew):=hbw.drew;have HP:Hid (pick (stays) goes (L.drop (k+1)) (k+1) (nxt (stays) goes m k bo)=pick (stays) goes L 0 none):=hP;have HI:Hid (In (stays) L (k+1) (nxt (stays) goes m k bo)):=hIn2;have HW:Hid (W=wr.alloc (.cells #[.int .i64 m.id,.int .i64 m.st,.int .i64 m.ld] 118)):=hW;clear hb hbw hP hIn2 hW hR cV;cases hm2:(stays) m
   ·have hn:nxt (stays) goes m k bo=bo:=by unfold nxt;rw [hm2];simp
    rw [hn]at HP HI;have c3:=fun w=>stays_any m w;simp only [pV,hm2]at c3;clear hc hIn;go_wp2_with fail
    rw [←HW.out];clear HW c0 c1 c2;refine Tk.sb 19 (S:=fun w'=>w'.cell? ⟨wr.heap.size,0,none⟩=some (.int .i64 m.id)∧w'.cell? ⟨wr.heap.size,1,none⟩=some (.int .i64 m.st)∧w'.cell? ⟨wr.heap.size,2,none⟩=some (.int .i64 m.ld)) (⟨e0,e1,e2⟩) (fun hHeld=> ?_)
    iterate 2
     refine Tk.gn ?_
    refine Tk.rn 2 fun K hK=> ?_;go_simp;go_wp2_with((go_at_call 127;(with_reducible refine zg (c3 _) fun w3 hb3=>?_);have x0:=(hb3.cell (p:=⟨wr.heap.size,0,none⟩) (by rw [hsW];exact Xo _)).trans e0;have x1:=(hb3.cell (p:=⟨wr.heap.size,1,none⟩) (by rw [hsW];exact Xo _)).trans e1;have x2:=(hb3.cell (p:=⟨wr.heap.size,2,none⟩) (by rw [hsW];exact Xo _)).trans e2))
    refine hK.out _ _ (⟨x0,x1,x2⟩) (fun hHeld=> ?_);clear hK K
    iterate 16
     refine Tk.gn ?_
    refine wpAnyH_done (by kernel_rfl) ?_ _;go_wp2;go_roundw
    case rel=>exact⟨k+1,bo,by omega,rfl,rfl,HI.out,HP.out,(zu HB.out hb3)⟩
    case measure=>simp [intOf];omega
   ·have c3:=fun w=>stays_any m w;simp only [pV,hm2]at c3;cases bo with
    |none=>
     have hn:nxt (stays) goes m k none=some (k,m):=by unfold nxt;rw [hm2];rfl
     rw [hn]at HP HI;clear hc hIn;simp only [pickV];go_wp2_with fail
     rw [←HW.out];clear HW c0 c1 c2;refine Tk.sb 19 (S:=fun w'=>w'.cell? ⟨wr.heap.size,0,none⟩=some (.int .i64 m.id)∧w'.cell? ⟨wr.heap.size,1,none⟩=some (.int .i64 m.st)∧w'.cell? ⟨wr.heap.size,2,none⟩=some (.int .i64 m.ld)) (⟨e0,e1,e2⟩) (fun hHeld=> ?_)
     iterate 2
      refine Tk.gn ?_
     refine Tk.rn 2 fun K hK=> ?_;go_simp;go_wp2_with((go_at_call 127;(with_reducible refine zg (c3 _) fun w3 hb3=>?_);have x0:=(hb3.cell (p:=⟨wr.heap.size,0,none⟩) (by rw [hsW];exact Xo _)).trans e0;have x1:=(hb3.cell (p:=⟨wr.heap.size,1,none⟩) (by rw [hsW];exact Xo _)).trans e1;have x2:=(hb3.cell (p:=⟨wr.heap.size,2,none⟩) (by rw [hsW];exact Xo _)).trans e2))
     refine hK.out _ _ (⟨x0,x1,x2⟩) (fun hHeld=> ?_);clear hK K
     iterate 16
      refine Tk.gn ?_
     refine wpAnyH_done (by kernel_rfl) ?_ _;go_wp2;go_roundw
     case rel=>exact⟨k+1,some (k,m),by omega,rfl,rfl,HI.out,HP.out,(zu HB.out hb3)⟩
     case measure=>simp [intOf];omega
    |some x=>
     obtain⟨j,q⟩:=x;obtain⟨hj,hq,_⟩:=hIn (j,q) rfl;simp only at hj hq;obtain⟨d0,d1,d2⟩:=hc j q hq;have d0:=(bW.cell (p:=⟨g,j*3,none⟩) hg).trans d0;have d1:=(bW.cell (p:=⟨g,j*3+1,none⟩) hg).trans d1;have d2:=(bW.cell (p:=⟨g,j*3+2,none⟩) hg).trans d2;have hjl:j<L.length:=(Xe.1 hq).1;have hjl':(j:Int)<(L.length:Int):=(by omega);have hj0: ¬(j:Int)<0:=(by omega);have c4:=fun w=>goes_any m q w;simp only [pV]at c4;cases ha:goes m q
     ·have hn:nxt (stays) goes m k (some (j,q))=some (j,q):=by unfold nxt;rw [hm2];simp [beats,ha]
      rw [hn]at HP HI;rw [ha]at c4;clear hc hIn;simp only [pickV];go_wp2_with fail
      rw [←HW.out];clear HW c0 c1 c2 cVr;refine Tk.sb 19 (S:=fun w'=>w'.cell? ⟨wr.heap.size,0,none⟩=some (.int .i64 m.id)∧w'.cell? ⟨wr.heap.size,1,none⟩=some (.int .i64 m.st)∧w'.cell? ⟨wr.heap.size,2,none⟩=some (.int .i64 m.ld)∧w'.cell? ⟨g,j*3,none⟩=some (.int .i64 q.id)∧w'.cell? ⟨g,j*3+1,none⟩=some (.int .i64 q.st)∧w'.cell? ⟨g,j*3+2,none⟩=some (.int .i64 q.ld)∧w'.cell? ⟨Q,48,none⟩=some (.slice (some ⟨g,0,none⟩) L.length cap)) (⟨e0,e1,e2,d0,d1,d2,cW⟩) (fun hHeld=> ?_)
      iterate 2
       refine Tk.gn ?_
      refine Tk.rn 2 fun K hK=> ?_;go_simp;go_wp2_with((go_at_call 127;(with_reducible refine zg (c3 _) fun w3 hb3=>?_);have x0:=(hb3.cell (p:=⟨wr.heap.size,0,none⟩) (by rw [hsW];exact Xo _)).trans e0;have x1:=(hb3.cell (p:=⟨wr.heap.size,1,none⟩) (by rw [hsW];exact Xo _)).trans e1;have x2:=(hb3.cell (p:=⟨wr.heap.size,2,none⟩) (by rw [hsW];exact Xo _)).trans e2;have y0:=(hb3.cell (p:=⟨g,j*3,none⟩) (by rw [hsW];exact Xs hg)).trans d0;have y1:=(hb3.cell (p:=⟨g,j*3+1,none⟩) (by rw [hsW];exact Xs hg)).trans d1;have y2:=(hb3.cell (p:=⟨g,j*3+2,none⟩) (by rw [hsW];exact Xs hg)).trans d2;have y3:=(hb3.cell (p:=⟨Q,48,none⟩) (by rw [hsW];exact Xs hQr)).trans cW))
      refine hK.out _ _ (⟨x0,x1,x2,y0,y1,y2,y3⟩) (fun hHeld=> ?_);clear hK K
      iterate 13
       refine Tk.gn ?_
      refine Tk.rn 16 fun K hK=> ?_;go_simp;go_wp2_with((go_at_call 147;(with_reducible refine zg (c4 _) fun w4 hb4=>?_);have z0:=(hb4.cell (p:=⟨wr.heap.size,0,none⟩) (Xb (by rw [hsW];exact Xo _) hb3.size)).trans x0;have z1:=(hb4.cell (p:=⟨wr.heap.size,1,none⟩) (Xb (by rw [hsW];exact Xo _) hb3.size)).trans x1;have z2:=(hb4.cell (p:=⟨wr.heap.size,2,none⟩) (Xb (by rw [hsW];exact Xo _) hb3.size)).trans x2;have v0:=(hb4.cell (p:=⟨g,j*3,none⟩) (Xb (by rw [hsW];exact Xs hg) hb3.size)).trans y0;have v1:=(hb4.cell (p:=⟨g,j*3+1,none⟩) (Xb (by rw [hsW];exact Xs hg) hb3.size)).trans y1;have v2:=(hb4.cell (p:=⟨g,j*3+2,none⟩) (Xb (by rw [hsW];exact Xs hg) hb3.size)).trans y2;have v3:=(hb4.cell (p:=⟨Q,48,none⟩) (Xb (by rw [hsW];exact Xs hQr) hb3.size)).trans y3))
      refine hK.out _ _ (⟨z0,z1,z2,v0,v1,v2,v3⟩) (fun hHeld=> ?_);clear hK K
      iterate 2
       refine Tk.gn ?_
      refine wpAnyH_done (by kernel_rfl) ?_ _;go_wp2;go_roundw
      case rel=>exact⟨k+1,some (j,q),by omega,rfl,rfl,HI.out,HP.out,(zu HB.out hb3).trans (hb4.mono (zu HB.out hb3).size)⟩
      case measure=>simp [intOf];omega
     ·have hn:nxt (stays) goes m k (some (j,q))=some (k,m):=by unfold nxt;rw [hm2];simp [beats,ha]
      rw [hn]at HP HI;rw [ha]at c4;clear hc hIn;simp only [pickV];go_wp2_with fail
      rw [←HW.out];clear HW c0 c1 c2 cVr;refine Tk.sb 19 (S:=fun w'=>w'.cell? ⟨wr.heap.size,0,none⟩=some (.int .i64 m.id)∧w'.cell? ⟨wr.heap.size,1,none⟩=some (.int .i64 m.st)∧w'.cell? ⟨wr.heap.size,2,none⟩=some (.int .i64 m.ld)∧w'.cell? ⟨g,j*3,none⟩=some (.int .i64 q.id)∧w'.cell? ⟨g,j*3+1,none⟩=some (.int .i64 q.st)∧w'.cell? ⟨g,j*3+2,none⟩=some (.int .i64 q.ld)∧w'.cell? ⟨Q,48,none⟩=some (.slice (some ⟨g,0,none⟩) L.length cap)) (⟨e0,e1,e2,d0,d1,d2,cW⟩) (fun hHeld=> ?_)
      iterate 2
       refine Tk.gn ?_
      refine Tk.rn 2 fun K hK=> ?_;go_simp;go_wp2_with((go_at_call 127;(with_reducible refine zg (c3 _) fun w3 hb3=>?_);have x0:=(hb3.cell (p:=⟨wr.heap.size,0,none⟩) (by rw [hsW];exact Xo _)).trans e0;have x1:=(hb3.cell (p:=⟨wr.heap.size,1,none⟩) (by rw [hsW];exact Xo _)).trans e1;have x2:=(hb3.cell (p:=⟨wr.heap.size,2,none⟩) (by rw [hsW];exact Xo _)).trans e2;have y0:=(hb3.cell (p:=⟨g,j*3,none⟩) (by rw [hsW];exact Xs hg)).trans d0;have y1:=(hb3.cell (p:=⟨g,j*3+1,none⟩) (by rw [hsW];exact Xs hg)).trans d1;have y2:=(hb3.cell (p:=⟨g,j*3+2,none⟩) (by rw [hsW];exact Xs hg)).trans d2;have y3:=(hb3.cell (p:=⟨Q,48,none⟩) (by rw [hsW];exact Xs hQr)).trans cW))
      refine hK.out _ _ (⟨x0,x1,x2,y0,y1,y2,y3⟩) (fun hHeld=> ?_);clear hK K
      iterate 13
       refine Tk.gn ?_
      refine Tk.rn 16 fun K hK=> ?_;go_simp;go_wp2_with((go_at_call 147;(with_reducible refine zg (c4 _) fun w4 hb4=>?_);have z0:=(hb4.cell (p:=⟨wr.heap.size,0,none⟩) (Xb (by rw [hsW];exact Xo _) hb3.size)).trans x0;have z1:=(hb4.cell (p:=⟨wr.heap.size,1,none⟩) (Xb (by rw [hsW];exact Xo _) hb3.size)).trans x1;have z2:=(hb4.cell (p:=⟨wr.heap.size,2,none⟩) (Xb (by rw [hsW];exact Xo _) hb3.size)).trans x2;have v0:=(hb4.cell (p:=⟨g,j*3,none⟩) (Xb (by rw [hsW];exact Xs hg) hb3.size)).trans y0;have v1:=(hb4.cell (p:=⟨g,j*3+1,none⟩) (Xb (by rw [hsW];exact Xs hg) hb3.size)).trans y1;have v2:=(hb4.cell (p:=⟨g,j*3+2,none⟩) (Xb (by rw [hsW];exact Xs hg) hb3.size)).trans y2;have v3:=(hb4.cell (p:=⟨Q,48,none⟩) (Xb (by rw [hsW];exact Xs hQr) hb3.size)).trans y3))
      refine hK.out _ _ (⟨z0,z1,z2,v0,v1,v2,v3⟩) (fun hHeld=> ?_);clear hK K
      iterate 2
       refine Tk.gn ?_
      refine wpAnyH_done (by kernel_rfl) ?_ _;go_wp2;go_roundw
      case rel=>exact⟨k+1,some (k,m),by omega,rfl,rfl,HI.out,HP.out,(zu HB.out hb3).trans (hb4.mono (zu HB.out hb3).size)⟩
      case measure=>simp [intOf];omega
  ·obtain rfl:k=L.length:=by omega
   rw [List.drop_length]at hP;have HP:Hid (pick (stays) goes [] L.length bo=pick (stays) goes L 0 none):=hP;clear hP;go_wp2;go_ret;exact⟨by rw [←HP.out];rfl,hb⟩

def chGiR (L:List Pd) (w:World) (most:Int) (b i:Value) (wr:World):Prop:=
 ∃(k:Nat) (bo:Option (Nat×Pd)),k≤L.length∧i=.int .i64 k∧b=.int .i64 (pickV bo)∧In (room most) L k bo∧pick (room most) given (L.drop k) k bo=pick (room most) given L 0 none∧Below w.heap.size w wr
theorem chGi_any (B Q:Nat) (v:Value) (F:FS) (C:Nat) (w:World) (hA:FAt w B Q v F) (hL:F.L.length≤1000000000) (hC:w.cell? ⟨C,0,none⟩=some (.pointer (some ⟨Q,46,none⟩))):
  CB 146 #[.pointer (some ⟨Q,46,none⟩),.func (.func 149) #[] #[.pointer (some ⟨C,0,none⟩)],.func (.func 150) #[] #[]] w (.int .i64 (pickV (pick (room F.most) given F.L 0 none))):=by
 obtain⟨ao,cap,rfl,hc1,hc2,hao⟩:=hA.form;have cV:=hA.cV;have hR:=hA.row;have hQl:=hA.lt;have hCl:C<w.heap.size:=Xj w _ hC;have cM:=hA.cM;generalize F.most=most at*;generalize F.L=L at*;clear hA;go_enter func146,ntmps146;go_wp2;go_loopw [7,15] (fun b i wr=>chGiR L w most b i wr) (fun _ i _=>L.length-(intOf i).toNat)
 case atStart=>exact⟨0,none,by omega,rfl,rfl,In.none _ _ _,rfl,Below.refl _ _⟩
 case round=>
  obtain⟨k,bo,hk,rfl,rfl,hIn,hP,hb⟩:=hrel;by_cases hlt:k<L.length
  ·have hlt':(k:Int)<(L.length:Int):=by omega
   obtain⟨g,rfl,hg,hc⟩:=row_pod (hR.below hb) (by omega);obtain⟨m,hm⟩: ∃m,L[k]? =some m:=⟨L[k],by simp [hlt]⟩
   obtain⟨c0,c1,c2⟩:=hc k m hm;have hIn2:=hIn.next (ah:=given) hm;rw [pick_step bo hm]at hP;have cVr:=(hb.cell (p:=⟨Q,48,none⟩) hQl).trans cV;have hbw:=hb.alloc hb.size (.cells #[.int .i64 m.id,.int .i64 m.st,.int .i64 m.ld] 118);obtain⟨W,hW⟩: ∃W,W=wr.alloc (.cells #[.int .i64 m.id,.int .i64 m.st,.int .i64 m.ld] 118):=⟨_,rfl⟩
   have bW:Below wr.heap.size wr W:=by rw [hW];exact(Below.refl _ _).alloc (Xa _) _
   have hQr:Q<wr.heap.size:=Xb hQl hb.size;have cW:=(bW.cell (p:=⟨Q,48,none⟩) hQr).trans cVr;have q1:W.drew.cell? ⟨C,0,none⟩=some (.pointer (some ⟨Q,46,none⟩)):=(bW.cell (p:=⟨C,0,none⟩) (Xb hCl hb.size)).trans ((hb.cell (p:=⟨C,0,none⟩) hCl).trans hC);have q2:W.drew.cell? ⟨Q,46,none⟩=some (.int .i64 most):=(bW.cell (p:=⟨Q,46,none⟩) hQr).trans ((hb.cell (p:=⟨Q,46,none⟩) hQl).trans cM);rw [←hW]at hbw;have e0:W.cell? ⟨wr.heap.size,0,none⟩=some (.int .i64 m.id):=by rw [hW];simp
   have e1:W.cell? ⟨wr.heap.size,1,none⟩=some (.int .i64 m.st):=by rw [hW];simp
   have e2:W.cell? ⟨wr.heap.size,2,none⟩=some (.int .i64 m.ld):=by rw [hW];simp
   have hsW:W.drew.heap.size=wr.heap.size+1:=by rw [hW];simp
   have HB:Hid (Below w.heap.size w W.drew):=hbw.drew;have HP:Hid (pick (room most) given (L.drop (k+1)) (k+1) (nxt (room most) given m k bo)=pick (room most) given L 0 none):=hP;have HI:Hid (In (room most) L (k+1) (nxt (room most) given m k bo)):=hIn2;have HW:Hid (W=wr.alloc (.cells #[.int .i64 m.id,.int .i64 m.st,.int .i64 m.ld] 118)):=hW;clear hb hbw hP hIn2 hW hR cV;cases hm2:(room most) m
   ·have hn:nxt (room most) given m k bo=bo:=by unfold nxt;rw [hm2];simp
    rw [hn]at HP HI;have c3:=fun w h1 h2=>room_any m C Q most w h1 h2;simp only [pV,hm2]at c3;clear hc hIn;go_wp2_with fail
    rw [←HW.out];clear HW c0 c1 c2;refine Tk.sb 19 (S:=fun w'=>w'.cell? ⟨wr.heap.size,0,none⟩=some (.int .i64 m.id)∧w'.cell? ⟨wr.heap.size,1,none⟩=some (.int .i64 m.st)∧w'.cell? ⟨wr.heap.size,2,none⟩=some (.int .i64 m.ld)) (⟨e0,e1,e2⟩) (fun hHeld=> ?_)
    iterate 2
     refine Tk.gn ?_
    refine Tk.rn 2 fun K hK=> ?_;go_simp;go_wp2_with((go_at_call 149;(with_reducible refine zg (c3 _ q1 q2) fun w3 hb3=>?_);have x0:=(hb3.cell (p:=⟨wr.heap.size,0,none⟩) (by rw [hsW];exact Xo _)).trans e0;have x1:=(hb3.cell (p:=⟨wr.heap.size,1,none⟩) (by rw [hsW];exact Xo _)).trans e1;have x2:=(hb3.cell (p:=⟨wr.heap.size,2,none⟩) (by rw [hsW];exact Xo _)).trans e2))
    refine hK.out _ _ (⟨x0,x1,x2⟩) (fun hHeld=> ?_);clear hK K
    iterate 16
     refine Tk.gn ?_
    refine wpAnyH_done (by kernel_rfl) ?_ _;go_wp2;go_roundw
    case rel=>exact⟨k+1,bo,by omega,rfl,rfl,HI.out,HP.out,(zu HB.out hb3)⟩
    case measure=>simp [intOf];omega
   ·have c3:=fun w h1 h2=>room_any m C Q most w h1 h2;simp only [pV,hm2]at c3;cases bo with
    |none=>
     have hn:nxt (room most) given m k none=some (k,m):=by unfold nxt;rw [hm2];rfl
     rw [hn]at HP HI;clear hc hIn;simp only [pickV];go_wp2_with fail
     rw [←HW.out];clear HW c0 c1 c2;refine Tk.sb 19 (S:=fun w'=>w'.cell? ⟨wr.heap.size,0,none⟩=some (.int .i64 m.id)∧w'.cell? ⟨wr.heap.size,1,none⟩=some (.int .i64 m.st)∧w'.cell? ⟨wr.heap.size,2,none⟩=some (.int .i64 m.ld)) (⟨e0,e1,e2⟩) (fun hHeld=> ?_)
     iterate 2
      refine Tk.gn ?_
     refine Tk.rn 2 fun K hK=> ?_;go_simp;go_wp2_with((go_at_call 149;(with_reducible refine zg (c3 _ q1 q2) fun w3 hb3=>?_);have x0:=(hb3.cell (p:=⟨wr.heap.size,0,none⟩) (by rw [hsW];exact Xo _)).trans e0;have x1:=(hb3.cell (p:=⟨wr.heap.size,1,none⟩) (by rw [hsW];exact Xo _)).trans e1;have x2:=(hb3.cell (p:=⟨wr.heap.size,2,none⟩) (by rw [hsW];exact Xo _)).trans e2))
     refine hK.out _ _ (⟨x0,x1,x2⟩) (fun hHeld=> ?_);clear hK K
     iterate 16
      refine Tk.gn ?_
     refine wpAnyH_done (by kernel_rfl) ?_ _;go_wp2;go_roundw
     case rel=>exact⟨k+1,some (k,m),by omega,rfl,rfl,HI.out,HP.out,(zu HB.out hb3)⟩
     case measure=>simp [intOf];omega
    |some x=>
     obtain⟨j,q⟩:=x;obtain⟨hj,hq,_⟩:=hIn (j,q) rfl;simp only at hj hq;obtain⟨d0,d1,d2⟩:=hc j q hq;have d0:=(bW.cell (p:=⟨g,j*3,none⟩) hg).trans d0;have d1:=(bW.cell (p:=⟨g,j*3+1,none⟩) hg).trans d1;have d2:=(bW.cell (p:=⟨g,j*3+2,none⟩) hg).trans d2;have hjl:j<L.length:=(Xe.1 hq).1;have hjl':(j:Int)<(L.length:Int):=(by omega);have hj0: ¬(j:Int)<0:=(by omega);have c4:=fun w=>given_any m q w;simp only [pV]at c4;cases ha:given m q
     ·have hn:nxt (room most) given m k (some (j,q))=some (j,q):=by unfold nxt;rw [hm2];simp [beats,ha]
      rw [hn]at HP HI;rw [ha]at c4;clear hc hIn;simp only [pickV];go_wp2_with fail
      rw [←HW.out];clear HW c0 c1 c2 cVr;refine Tk.sb 19 (S:=fun w'=>w'.cell? ⟨wr.heap.size,0,none⟩=some (.int .i64 m.id)∧w'.cell? ⟨wr.heap.size,1,none⟩=some (.int .i64 m.st)∧w'.cell? ⟨wr.heap.size,2,none⟩=some (.int .i64 m.ld)∧w'.cell? ⟨g,j*3,none⟩=some (.int .i64 q.id)∧w'.cell? ⟨g,j*3+1,none⟩=some (.int .i64 q.st)∧w'.cell? ⟨g,j*3+2,none⟩=some (.int .i64 q.ld)∧w'.cell? ⟨Q,48,none⟩=some (.slice (some ⟨g,0,none⟩) L.length cap)) (⟨e0,e1,e2,d0,d1,d2,cW⟩) (fun hHeld=> ?_)
      iterate 2
       refine Tk.gn ?_
      refine Tk.rn 2 fun K hK=> ?_;go_simp;go_wp2_with((go_at_call 149;(with_reducible refine zg (c3 _ q1 q2) fun w3 hb3=>?_);have x0:=(hb3.cell (p:=⟨wr.heap.size,0,none⟩) (by rw [hsW];exact Xo _)).trans e0;have x1:=(hb3.cell (p:=⟨wr.heap.size,1,none⟩) (by rw [hsW];exact Xo _)).trans e1;have x2:=(hb3.cell (p:=⟨wr.heap.size,2,none⟩) (by rw [hsW];exact Xo _)).trans e2;have y0:=(hb3.cell (p:=⟨g,j*3,none⟩) (by rw [hsW];exact Xs hg)).trans d0;have y1:=(hb3.cell (p:=⟨g,j*3+1,none⟩) (by rw [hsW];exact Xs hg)).trans d1;have y2:=(hb3.cell (p:=⟨g,j*3+2,none⟩) (by rw [hsW];exact Xs hg)).trans d2;have y3:=(hb3.cell (p:=⟨Q,48,none⟩) (by rw [hsW];exact Xs hQr)).trans cW))
      refine hK.out _ _ (⟨x0,x1,x2,y0,y1,y2,y3⟩) (fun hHeld=> ?_);clear hK K
      iterate 13
       refine Tk.gn ?_
      refine Tk.rn 16 fun K hK=> ?_;go_simp;go_wp2_with((go_at_call 150;(with_reducible refine zg (c4 _) fun w4 hb4=>?_);have z0:=(hb4.cell (p:=⟨wr.heap.size,0,none⟩) (Xb (by rw [hsW];exact Xo _) hb3.size)).trans x0;have z1:=(hb4.cell (p:=⟨wr.heap.size,1,none⟩) (Xb (by rw [hsW];exact Xo _) hb3.size)).trans x1;have z2:=(hb4.cell (p:=⟨wr.heap.size,2,none⟩) (Xb (by rw [hsW];exact Xo _) hb3.size)).trans x2;have v0:=(hb4.cell (p:=⟨g,j*3,none⟩) (Xb (by rw [hsW];exact Xs hg) hb3.size)).trans y0;have v1:=(hb4.cell (p:=⟨g,j*3+1,none⟩) (Xb (by rw [hsW];exact Xs hg) hb3.size)).trans y1;have v2:=(hb4.cell (p:=⟨g,j*3+2,none⟩) (Xb (by rw [hsW];exact Xs hg) hb3.size)).trans y2;have v3:=(hb4.cell (p:=⟨Q,48,none⟩) (Xb (by rw [hsW];exact Xs hQr) hb3.size)).trans y3))
      refine hK.out _ _ (⟨z0,z1,z2,v0,v1,v2,v3⟩) (fun hHeld=> ?_);clear hK K
      iterate 2
       refine Tk.gn ?_
      refine wpAnyH_done (by kernel_rfl) ?_ _;go_wp2;go_roundw
      case rel=>exact⟨k+1,some (j,q),by omega,rfl,rfl,HI.out,HP.out,(zu HB.out hb3).trans (hb4.mono (zu HB.out hb3).size)⟩
      case measure=>simp [intOf];omega
     ·have hn:nxt (room most) given m k (some (j,q))=some (k,m):=by unfold nxt;rw [hm2];simp [beats,ha]
      rw [hn]at HP HI;rw [ha]at c4;clear hc hIn;simp only [pickV];go_wp2_with fail
      rw [←HW.out];clear HW c0 c1 c2 cVr;refine Tk.sb 19 (S:=fun w'=>w'.cell? ⟨wr.heap.size,0,none⟩=some (.int .i64 m.id)∧w'.cell? ⟨wr.heap.size,1,none⟩=some (.int .i64 m.st)∧w'.cell? ⟨wr.heap.size,2,none⟩=some (.int .i64 m.ld)∧w'.cell? ⟨g,j*3,none⟩=some (.int .i64 q.id)∧w'.cell? ⟨g,j*3+1,none⟩=some (.int .i64 q.st)∧w'.cell? ⟨g,j*3+2,none⟩=some (.int .i64 q.ld)∧w'.cell? ⟨Q,48,none⟩=some (.slice (some ⟨g,0,none⟩) L.length cap)) (⟨e0,e1,e2,d0,d1,d2,cW⟩) (fun hHeld=> ?_)
      iterate 2
       refine Tk.gn ?_
      refine Tk.rn 2 fun K hK=> ?_;go_simp;go_wp2_with((go_at_call 149;(with_reducible refine zg (c3 _ q1 q2) fun w3 hb3=>?_);have x0:=(hb3.cell (p:=⟨wr.heap.size,0,none⟩) (by rw [hsW];exact Xo _)).trans e0;have x1:=(hb3.cell (p:=⟨wr.heap.size,1,none⟩) (by rw [hsW];exact Xo _)).trans e1;have x2:=(hb3.cell (p:=⟨wr.heap.size,2,none⟩) (by rw [hsW];exact Xo _)).trans e2;have y0:=(hb3.cell (p:=⟨g,j*3,none⟩) (by rw [hsW];exact Xs hg)).trans d0;have y1:=(hb3.cell (p:=⟨g,j*3+1,none⟩) (by rw [hsW];exact Xs hg)).trans d1;have y2:=(hb3.cell (p:=⟨g,j*3+2,none⟩) (by rw [hsW];exact Xs hg)).trans d2;have y3:=(hb3.cell (p:=⟨Q,48,none⟩) (by rw [hsW];exact Xs hQr)).trans cW))
      refine hK.out _ _ (⟨x0,x1,x2,y0,y1,y2,y3⟩) (fun hHeld=> ?_);clear hK K
      iterate 13
       refine Tk.gn ?_
      refine Tk.rn 16 fun K hK=> ?_;go_simp;go_wp2_with((go_at_call 150;(with_reducible refine zg (c4 _) fun w4 hb4=>?_);have z0:=(hb4.cell (p:=⟨wr.heap.size,0,none⟩) (Xb (by rw [hsW];exact Xo _) hb3.size)).trans x0;have z1:=(hb4.cell (p:=⟨wr.heap.size,1,none⟩) (Xb (by rw [hsW];exact Xo _) hb3.size)).trans x1;have z2:=(hb4.cell (p:=⟨wr.heap.size,2,none⟩) (Xb (by rw [hsW];exact Xo _) hb3.size)).trans x2;have v0:=(hb4.cell (p:=⟨g,j*3,none⟩) (Xb (by rw [hsW];exact Xs hg) hb3.size)).trans y0;have v1:=(hb4.cell (p:=⟨g,j*3+1,none⟩) (Xb (by rw [hsW];exact Xs hg) hb3.size)).trans y1;have v2:=(hb4.cell (p:=⟨g,j*3+2,none⟩) (Xb (by rw [hsW];exact Xs hg) hb3.size)).trans y2;have v3:=(hb4.cell (p:=⟨Q,48,none⟩) (Xb (by rw [hsW];exact Xs hQr) hb3.size)).trans y3))
      refine hK.out _ _ (⟨z0,z1,z2,v0,v1,v2,v3⟩) (fun hHeld=> ?_);clear hK K
      iterate 2
       refine Tk.gn ?_
      refine wpAnyH_done (by kernel_rfl) ?_ _;go_wp2;go_roundw
      case rel=>exact⟨k+1,some (k,m),by omega,rfl,rfl,HI.out,HP.out,(zu HB.out hb3).trans (hb4.mono (zu HB.out hb3).size)⟩
      case measure=>simp [intOf];omega
  ·obtain rfl:k=L.length:=by omega
   rw [List.drop_length]at hP;have HP:Hid (pick (room most) given [] L.length bo=pick (room most) given L 0 none):=hP;clear hP;go_wp2;go_ret;exact⟨by rw [←HP.out];rfl,hb⟩

theorem cell_one {W:World} {cs:Array Value} {e:TypeId} {N j:Nat} (hN:N=W.heap.size) (hj:cs[j]? =some v):(W.alloc (.cells cs e)).cell? ⟨N,j,none⟩=some v:=by
 subst hN;simpa using hj
theorem ffind_none (B Q:Nat) (v:Value) (F:FS) (id:Int) (w:World) (hA:FAt w B Q v F) (hL:F.L.length≤1000000000) (hn:F.L.findIdx? (isId id)=none):
  CB 121 #[.pointer (some ⟨Q,46,none⟩),.int .i64 id] w (.int .i64 (-1)):=by
 obtain⟨ao,cap,rfl,hc1,hc2,hao⟩:=hA.form;have hA1:=hA.alloc (.cells #[.int .i64 id] 3);have cV:=hA1.cV;have c2:=fid_none ao cap w.heap.size id F.L _ hA1.row hL (cell_one rfl rfl) hn;clear hn hao hA1 hA;go_enter func121,ntmps121;go_wp2_with(go_at_call 131;(with_reducible refine zg c2 fun w2 hb2=>?_))
 go_ret;exact⟨rfl,((Below.refl _ _).alloc (Xa _) _).trans (hb2.mono (by simp))⟩
theorem ffind_some (B Q:Nat) (v:Value) (F:FS) (id:Int) (i:Nat) (w:World) (hA:FAt w B Q v F) (hL:F.L.length≤1000000000) (hn:F.L.findIdx? (isId id)=some i):
  CB 121 #[.pointer (some ⟨Q,46,none⟩),.int .i64 id] w (.int .i64 (i:Int)):=by
 obtain⟨ao,cap,rfl,hc1,hc2,hao⟩:=hA.form;have hA1:=hA.alloc (.cells #[.int .i64 id] 3);have cV:=hA1.cV;have c2:=fid_some ao cap w.heap.size id F.L _ hA1.row hL (cell_one rfl rfl) hn;clear hn hao hA1 hA;go_enter func121,ntmps121;go_wp2_with(go_at_call 131;(with_reducible refine zg c2 fun w2 hb2=>?_))
 go_ret;exact⟨rfl,((Below.refl _ _).alloc (Xa _) _).trans (hb2.mono (by simp))⟩

theorem delete_one (B g n cap i:Nat) (xs:List Value) (w:World) (hown:w.ownsRow B 118 3 (.slice (some ⟨g,0,none⟩) n cap) n xs) (hone0: ∀u∈xs,u.oneCell'=true) (hi:i<n) (hn:n≤1000000000):
  Calls prog 153 #[.slice (some ⟨g,0,none⟩) n cap,.int .i64 (i:Int),.int .i64 ((i:Int)+1)] w fun e w'=>
   e=.returned (.slice (some ⟨g,0,none⟩) (n-1) cap)∧w'.ownsRow B 118 3 (.slice (some ⟨g,0,none⟩) (n-1) cap) (n-1) (xs.take (i*3)++xs.drop ((i+1)*3))∧w.grownBy w' (some g):=by
 obtain⟨i0,hi0,hz0,hz1,hz2⟩:=info_parts info_pod;have hi1:(i:Int)<n:=by omega
 have hp2:((i:Int)+1).toNat=i+1:=by omega
 have hp1:(i:Int)+1≤(n:Int):=by omega
 have hp0:(0:Int)≤(i:Int)+1:=by omega
 have hp3: ¬(i:Int)=(i:Int)+1:=by omega
 obtain⟨hxl,hform⟩:=hown;rcases hform with⟨h0,_⟩|⟨g',cap',cur,h0,hBg,hgr,hnc,hcm,hcs,htake⟩
 ·cases h0
 cases h0;have hgr0:=zh hgr;have hic:i≤cap:=by omega
 have hjc:i+1≤cap:=by omega
 have hcapl:cap≤9223372036854775807:=by unfold maxLen at hcm;omega
 obtain⟨news,hnews⟩: ∃news,news=xs.drop ((i+1)*3):=⟨_,rfl⟩
 have hlen:news.length=(n-(i+1))*3:=by rw [hnews,XT,hxl];omega
 have hone: ∀u∈xs,u.oneCell'=true:=hone0;obtain⟨A,hA,hsrc⟩: ∃A:Addr,(if cap=i+1 then some (⟨g,0,none⟩:Addr)else some ⟨g,(i+1)*3,none⟩)=some A∧Hid (∀t u,news[t]? =some u→w.drew.cell? (A.add t)=some u):=by
  by_cases h:cap=i+1
  ·refine⟨⟨g,0,none⟩,by simp [h],fun t u hu=> ?_⟩;have h0:news.length=0:=by rw [hlen];omega
   rw [Yy.1 h0]at hu;simp at hu
  ·refine⟨⟨g,(i+1)*3,none⟩,by simp [h],fun t u hu=> ?_⟩;have ht:t<(n-(i+1))*3:=by
    have:=(Xe.1 hu).1;rwa [hlen]at this
   rw [Addr.add_lit];show w.cell? _=some u;rw [cell_of_row w g _ cur _ (0,0) hgr];rw [hnews,Yk,←htake,List.getElem?_take,if_pos (by omega)]at hu;simpa using hu
 have hnew1:Hid (∀u∈news,u.oneCell'=true):=fun u hu=>hone u (by rw [hnews]at hu;exact List.mem_of_mem_drop hu);have hlen':Hid (news.length=(n-(i+1))*i0.size):=by unfold Hid;rw [hz1];exact hlen
 have hfit:Hid (i*i0.size+news.length≤cur.size):=by unfold Hid;rw [hz1,hlen,hcs];omega
 obtain⟨W1,hW1⟩: ∃W1,W1=w.drew.setRow g (cur.toList.take (i*i0.size)++news++cur.toList.drop (i*i0.size+news.length)).toArray:=⟨_,rfl⟩
 have hg1:W1.heap[g]? =some (.cells (cur.toList.take (i*3)++news++cur.toList.drop (i*3+news.length)).toArray 118 (0,0)):=by
  rw [hW1,hz1];exact setRow_heap w.drew g cur _ _ _ hgr
 have hs1:(cur.toList.take (i*3)++news++cur.toList.drop (i*3+news.length)).toArray.size=cap*3:=by
  simp [hlen];omega
 have ht1:(cur.toList.take (i*3)++news++cur.toList.drop (i*3+news.length)).take ((n-1)*3)=xs.take (i*3)++xs.drop ((i+1)*3):=by
  have e1:cur.toList.take (i*3)=xs.take (i*3):=by rw [←htake,List.take_take,Nat.min_eq_left (by omega)]
  rw [e1,←hnews];have hl2:(xs.take (i*3)++news).length=(n-1)*3:=by rw [Xg,Xt,hxl,hlen];omega
  rw [←hl2];exact List.take_left
 have HW:=zh hW1;have hb1:Hid (w.grownBy W1 (some g)):=by
  unfold Hid;rw [hW1];exact⟨rfl,rfl,rfl,by simp,fun k _ hk=>setRow_other w.drew g k _ (fun e=>hk (by rw [e]))⟩
 generalize (cur.toList.take (i*3)++news++cur.toList.drop (i*3+news.length))=cur1 at hg1 hs1 ht1;have hcl:=fun ty=>run_clear_row (P:=prog) W1 65 118 ty (.agg #[.int .i64 0,.int .i64 0,.int .i64 0]) underlying65 (by kernel_rfl) (by simp [Value.cells,Value.oneCell']) g ((i+(n-(i+1)))*3) (cap-(i+(n-(i+1)))) cur1.toArray hg1 (by rw [hs1];simp [Value.cells];omega);obtain⟨W2,hW2⟩: ∃W2,W2=W1.setRow g (cur1.toArray.toList.take ((i+(n-(i+1)))*3)++(Value.agg #[.int .i64 0,.int .i64 0,.int .i64 0]).cells.toList++cur1.toArray.toList.drop ((i+(n-(i+1)))*3+(Value.agg #[.int .i64 0,.int .i64 0,.int .i64 0]).cells.toList.length)).toArray:=⟨_,rfl⟩
 rw [←hW2]at hcl;have hfin:Hid (W2.ownsRow B 118 3 (.slice (some ⟨g,0,none⟩) (n-1) cap) (n-1) (xs.take (i*3)++xs.drop ((i+1)*3))∧w.grownBy W2 (some g)):=by
  have ho:(i+(n-(i+1)))*3=(n-1)*3:=by omega
  have hz3:(Value.agg #[.int .i64 0,.int .i64 0,.int .i64 0]).cells.toList.length=3:=rfl;rw [ho,hz3]at hW2;have hs1':cur1.length=cap*3:=by simpa using hs1
  refine⟨⟨?_,Or.inr ⟨g,cap,_,rfl,hBg,by rw [hW2];exact setRow_heap W1 g _ _ _ _ hg1,by omega,hcm,?_,?_⟩⟩,?_⟩
  ·rw [Xg,Xt,XT,hxl];omega
  ·simp only [List.size_toArray,Xg,Xt,XT,hz3,hs1'];omega
  ·rw [←ht1];have hl:(cur1.take ((n-1)*3)).length=(n-1)*3:=by rw [Xt,hs1'];omega
   show((cur1.take ((n-1)*3)++_++_)).take ((n-1)*3)=_;rw [X4,List.take_append_of_le_length (by omega),Yx (by omega)]
  ·have hb:=hb1.out;rw [hW2];exact⟨hb.os,hb.tape,hb.output,by simpa using hb.size,fun k h1 hk=>(setRow_other W1 g k _ (fun e=>hk (by rw [e]))).trans (hb.block k h1 hk)⟩
 have e1:n-(i+(n-(i+1)))=1:=by omega
 have e2: ¬cap=i+(n-(i+1)):=by omega
 clear hW2 hW1 hg1 hs1 ht1 hlen hnews htake hgr hxl hone;go_enter func153,ntmps153;go_wp2_with fail
 go_region_law (refine step_room rfl (.tmp 22) (.tmp 25) 65 rfl 118 i0 underlying65 hi0 g i cap cur hgr0.out (by simp [Act.eval,Act.put]) A (n-(i+1)) (cap-(i+1)) news (by simp [Act.eval,Act.put]) hlen'.out hsrc.out hnew1.out (by omega) hfit.out HW.out ?_)
 go_wp2;go_ret;exact⟨by rw [show i+(n-(i+1))=n-1 by omega];rfl,hfin.out⟩

theorem remove_any (B Q:Nat) (v:Value) (F:FS) (i:Nat) (w:World) (hA:FAt w B Q v F) (hL:F.L.length≤1000000000) (hi:i<F.L.length):
  Calls prog 122 #[.pointer (some ⟨Q,46,none⟩),.int .i64 (i:Int)] w fun e w'=>e=.returned (.tuple #[])∧ ∃v',FAt w' B Q v' ⟨F.most,F.last,F.L.eraseIdx i⟩∧Turn rF Q v v' w w':=by
 obtain⟨ao,cap,rfl,hc1,hc2,hao⟩:=hA.form;obtain⟨g,rfl⟩:=hao (by omega);have cV:=hA.cV;have c4:=delete_one B g F.L.length cap i (cels pK.c F.L) w hA.own (cels_one pK F.L) hi hL;have HA:=zh hA;have hlt:=hA.lt;have hLe:(F.L.eraseIdx i).length=F.L.length-1:=List.length_eraseIdx_of_lt hi;have HC:Hid ((cels pK.c F.L).take (i*3)++(cels pK.c F.L).drop ((i+1)*3)=cels pK.c (F.L.eraseIdx i)):=cels_erase pK F.L i;have HL:=zh hLe;clear hA hLe;go_enter func122,ntmps122;go_wp2_with(go_at_call 153;(with_reducible refine c4.mono ?_);rintro e w4 ⟨rfl,hown4,hg4⟩;have hQ4:w4.heap[Q]? =w.heap[Q]? :=hg4.block Q HA.out.lt (fun e=>HA.out.ne (by rw [e];rfl));have cS4:=(Xf (w:=w) (a:=⟨Q,48,none⟩) hQ4).trans cV;have fS4:=(Xl (w:=w) (a:=⟨Q,48,none⟩) hQ4).trans (HA.out.fz 48))
 go_end0;rw [HC.out,←HL.out]at hown4;have hA5:=RAt.regrown HA.out hQ4 hown4 (HA.out.ne);rw [HL.out]at hA5;exact⟨rfl,_,hA5,(Turn.of_grown (v:=.slice (some ⟨g,0,none⟩) F.L.length cap) (v':=.slice (some ⟨g,0,none⟩) (F.L.length-1) cap) hg4 (Or.inl rfl)).setRow 48 _⟩
theorem letGo_any (B Q:Nat) (v:Value) (F:FS) (i:Nat) (m:Pd) (w:World) (hA:FAt w B Q v F) (hL:F.L.length≤1000000000) (hm:F.L[i]? =some m):
  Calls prog 145 #[.pointer (some ⟨Q,46,none⟩),.int .i64 (i:Int)] w fun e w'=>e=.returned (.tuple #[])∧ ∃v',FAt w' B Q v' ⟨F.most,F.last,letgo F.L i m⟩∧Turn rF Q v v' w w':=by
 have hi:i<F.L.length:=(Xe.1 hm).1;have hi':(i:Int)<(F.L.length:Int):=by omega
 have c:=remove_any B Q v F i w hA hL hi;obtain⟨ao,cap,rfl,hc1,hc2,hao⟩:=hA.form;obtain⟨g,rfl⟩:=hao (by omega);have cV:=hA.cV;obtain⟨d0,d1,d2,fz⟩:=hA.pod rfl hm;have f1:=fz (i*3+1);by_cases hl:m.ld>0
 ·have hA2:FAt (w.setCell ⟨g,i*3+1,none⟩ (.int .i64 4)) B Q (.slice (some ⟨g,0,none⟩) F.L.length cap) ⟨F.most,F.last,letgo F.L i m⟩:=by
   unfold letgo;rw [if_pos hl];exact RAt.put (j:=1) hA rfl hm (by decide) rfl
  clear hA c;go_enter func145,ntmps145;go_wp2;(try simp only [Exit.inBlock,Exit.then]);refine bodyPost_ret (results_none rfl _ _ _) rfl ?_;exact⟨rfl,_,hA2,Turn.setG _ _⟩
 ·have e:letgo F.L i m=F.L.eraseIdx i:=by unfold letgo;rw [if_neg hl]
  rw [e];clear hA;go_enter func145,ntmps145;go_wp2_with(go_at_call 122;(with_reducible refine c.mono ?_);rintro e w2 ⟨rfl,v2,hA2,hT2⟩)
  go_end0;exact⟨rfl,v2,hA2,hT2⟩

def Does (f:Nat) (args:Nat→Array Value) (F F':FS) (e:Ending):Prop:=
 ∀(B Q:Nat) (v:Value) (w:World),FAt w B Q v F→Calls prog f (args Q) w fun e' w'=>e'=e∧ ∃v',FAt w' B Q v' F'∧Turn rF Q v v' w w'

def turnE (L:List Pd) (id fr:Int):Int:=match L.findIdx? (isId id)with
 |none=>4
 |some i=>match L[i]? with
  |none=>4
  |some p=>if p.st=fr then 0 else 7
def turnL (L:List Pd) (id fr:Int):List Pd:=match L.findIdx? (isId id)with
 |none=>L
 |some i=>match L[i]? with
  |none=>L
  |some p=>if p.st=fr then L.set i ⟨p.id,fr+1,p.ld⟩else L
def turnS (F:FS) (id fr:Int):FS:=⟨F.most,F.last,turnL F.L id fr⟩
theorem turn_none {fr:Int} (h:L.findIdx? (isId id)=none):turnE L id fr=4∧turnL L id fr=L:=by simp [turnE,turnL,h]
theorem turn_state {fr:Int} (h:L.findIdx? (isId id)=some i) (hp:L[i]? =some p) (hs:p.st≠fr):turnE L id fr=7∧turnL L id fr=L:=by simp [turnE,turnL,h,hp,hs]
theorem turn_ok {fr:Int} (h:L.findIdx? (isId id)=some i) (hp:L[i]? =some p) (hs:p.st=fr):turnE L id fr=0∧turnL L id fr=L.set i ⟨p.id,fr+1,p.ld⟩:=by simp [turnE,turnL,h,hp,hs]
theorem turn_inv (h:Inv F) (id fr:Int) (h1:fr=1∨fr=2):Inv (turnS F id fr):=by
 unfold turnS;cases hf:F.L.findIdx? (isId id)with
 |none=>rw [(turn_none hf).2];exact h
 |some i=>
  obtain⟨p,hp,_⟩:=find_get hf;by_cases hs:p.st=fr
  ·rw [(turn_ok hf hp hs).2];refine h.set hp rfl ?_;have:=h.at hp;unfold Okp at*;simp only;rcases h1 with rfl|rfl<;>omega
  ·rw [(turn_state hf hp hs).2];exact h

theorem advance_any (F:FS) (id fr:Int) (hL:F.L.length≤1000000000):Does 73 (fun Q=> #[.pointer (some ⟨Q,46,none⟩),.int .i64 id,.int .i64 fr,.int .i64 (fr+1)]) F (turnS F id fr) (.returned (.int .i64 (turnE F.L id fr))):=by
 intro B Q v w hA;unfold turnS;cases hn:F.L.findIdx? (isId id)with
 |none=>
  obtain⟨e1,e2⟩:=turn_none (fr:=fr) hn;rw [e1,e2];have c:=ffind_none B Q v F id w hA hL hn;clear hn e1 e2;go_enter func73,ntmps73;go_wp2_with(go_at_call 121;(with_reducible refine zg c fun w2 hb2=>?_))
  go_ret;exact⟨rfl,v,hA.below hb2,Turn.of_below hb2⟩
 |some i=>
  obtain⟨m,hm,_⟩:=find_get hn;have c:=ffind_some B Q v F id i w hA hL hn;have hi:i<F.L.length:=(Xe.1 hm).1;have hi':(i:Int)<(F.L.length:Int):=by omega
  have hi0: ¬(i:Int)<0:=by omega
  obtain⟨ao,cap,rfl,hc1,hc2,hao⟩:=hA.form;obtain⟨g,rfl⟩:=hao (by omega);by_cases hs:m.st=fr
  ·obtain⟨e1,e2⟩:=turn_ok hn hm hs;rw [e1,e2];have h9:(m.st !=fr)=false:=by simp [hs]
   have HM:=zh hm;have HA:=zh hA;clear hn e1 e2 hs hm hA;go_enter func73,ntmps73;go_wp2_with(go_at_call 121;(with_reducible refine zg c fun w2 hb2=>?_);have hA2:=HA.out.below hb2;have cV:=hA2.cV;obtain⟨d0,d1,d2,fz⟩:=hA2.pod rfl HM.out;have f1:=fz (i*3+1))
   go_ret;exact⟨rfl,_,RAt.put (j:=1) hA2 rfl HM.out (by decide) rfl,(Turn.of_below hb2).trans (Turn.setG _ _)⟩
  ·obtain⟨e1,e2⟩:=turn_state hn hm hs;rw [e1,e2];have h9:(m.st !=fr)=true:=by simp [hs]
   have HM:=zh hm;have HA:=zh hA;clear hn e1 e2 hs hm hA;go_enter func73,ntmps73;go_wp2_with(go_at_call 121;(with_reducible refine zg c fun w2 hb2=>?_);have hA2:=HA.out.below hb2;have cV:=hA2.cV;obtain⟨d0,d1,d2,fz⟩:=hA2.pod rfl HM.out;have f1:=fz (i*3+1))
   go_ret;exact⟨rfl,_,hA2,Turn.of_below hb2⟩
theorem start_any (F:FS) (id:Int) (hL:F.L.length≤1000000000):Does 26 (fun Q=> #[.pointer (some ⟨Q,46,none⟩),.int .i64 id]) F (turnS F id 1) (.returned (.int .i64 (turnE F.L id 1))):=by
 intro B Q v w hA;have c:=advance_any F id 1 hL B Q v w hA;simp only [Int.reduceAdd]at c;clear hA;go_enter func26,ntmps26;go_wp2_with(go_at_call 73;(with_reducible refine zg c fun w2 h2=>?_))
 go_ret;exact⟨rfl,h2⟩
theorem ready_any (F:FS) (id:Int) (hL:F.L.length≤1000000000):Does 74 (fun Q=> #[.pointer (some ⟨Q,46,none⟩),.int .i64 id]) F (turnS F id 2) (.returned (.int .i64 (turnE F.L id 2))):=by
 intro B Q v w hA;have c:=advance_any F id 2 hL B Q v w hA;simp only [Int.reduceAdd]at c;clear hA;go_enter func74,ntmps74;go_wp2_with(go_at_call 73;(with_reducible refine zg c fun w2 h2=>?_))
 go_ret;exact⟨rfl,h2⟩

def crashN (L:List Pd) (id:Int):Int:=match L.findIdx? (isId id)with
 |none=>0
 |some i=>match L[i]? with
  |none=>0
  |some p=>p.ld
def crashE (L:List Pd) (id:Int):Int:=match L.findIdx? (isId id)with
 |none=>4
 |some _=>0
def crashL (L:List Pd) (id:Int):List Pd:=match L.findIdx? (isId id)with
 |none=>L
 |some i=>L.eraseIdx i
def crashS (F:FS) (id:Int):FS:=⟨F.most,F.last,crashL F.L id⟩
theorem crash_none (h:L.findIdx? (isId id)=none):crashN L id=0∧crashE L id=4∧crashL L id=L:=by simp [crashN,crashE,crashL,h]
theorem crash_some (h:L.findIdx? (isId id)=some i) (hp:L[i]? =some p):crashN L id=p.ld∧crashE L id=0∧crashL L id=L.eraseIdx i:=by simp [crashN,crashE,crashL,h,hp]
theorem crash_inv (h:Inv F) (id:Int):Inv (crashS F id):=by
 unfold crashS crashL;split
 ·exact h
 ·exact h.erase _
theorem crash_any (F:FS) (id:Int) (hL:F.L.length≤1000000000):Does 75 (fun Q=> #[.pointer (some ⟨Q,46,none⟩),.int .i64 id]) F (crashS F id) (.returned (.tuple #[.int .i64 (crashN F.L id),.int .i64 (crashE F.L id)])):=by
 intro B Q v w hA;unfold crashS;cases hn:F.L.findIdx? (isId id)with
 |none=>
  obtain⟨e1,e2,e3⟩:=crash_none hn;rw [e1,e2,e3];have c:=ffind_none B Q v F id w hA hL hn;clear hn e1 e2 e3;go_enter func75,ntmps75;go_wp2_with(go_at_call 121;(with_reducible refine zg c fun w2 hb2=>?_))
  go_ret2;exact⟨rfl,v,hA.below hb2,Turn.of_below hb2⟩
 |some i=>
  obtain⟨m,hm,_⟩:=find_get hn;obtain⟨e1,e2,e3⟩:=crash_some hn hm;rw [e1,e2,e3];have c:=ffind_some B Q v F id i w hA hL hn;have hi:i<F.L.length:=(Xe.1 hm).1;have hi':(i:Int)<(F.L.length:Int):=by omega
  have hi0: ¬(i:Int)<0:=by omega
  obtain⟨ao,cap,rfl,hc1,hc2,hao⟩:=hA.form;obtain⟨g,rfl⟩:=hao (by omega);have HM:=zh hm;have HA:=zh hA;clear hn e1 e2 e3 hm hA;go_enter func75,ntmps75
  go_wp2_with (first
   |(go_at_call 121;(with_reducible refine zg c fun w2 hb2=>?_);have hA2:=HA.out.below hb2;have cV:=hA2.cV;obtain⟨d0,d1,d2,fz⟩:=hA2.pod rfl HM.out;have HA2:=zh hA2;clear hA2)
   |(go_at_call 122;(with_reducible refine(remove_any B Q _ F i w2 HA2.out hL hi).mono ?_);rintro e w3 ⟨rfl,v3,hA3,hT3⟩))
  go_ret2;exact⟨rfl,v3,hA3,(Turn.of_below hb2).trans hT3⟩

def giveS (F:FS):FS:=match pick (room F.most) given F.L 0 none with
 |none=>F
 |some x=>⟨F.most,F.last,F.L.set x.1 ⟨x.2.id,x.2.st,x.2.ld+1⟩⟩
def giveN (F:FS):Int:=match pick (room F.most) given F.L 0 none with
 |none=>0
 |some x=>x.2.id
def giveE (F:FS):Int:=match pick (room F.most) given F.L 0 none with
 |none=>4
 |some _=>0
theorem give_none (h:pick (room F.most) given F.L 0 none=none):giveS F=F∧giveN F=0∧giveE F=4:=by simp [giveS,giveN,giveE,h]
theorem give_some (h:pick (room F.most) given F.L 0 none=some (i,p)):giveS F=⟨F.most,F.last,F.L.set i ⟨p.id,p.st,p.ld+1⟩⟩∧giveN F=p.id∧giveE F=0:=by simp [giveS,giveN,giveE,h]
theorem give_inv (h:Inv F):Inv (giveS F):=by
 cases hp:pick (room F.most) given F.L 0 none with
 |none=>rw [(give_none hp).1];exact h
 |some x=>
  obtain⟨i,p⟩:=x;rw [(give_some hp).1];obtain⟨_,h2,h3⟩:=pick_mem hp;simp only at h2 h3;refine h.set h2 rfl ?_;have:=h.at h2;simp [room]at h3;unfold Okp at*;simp only;omega
theorem give_any (F:FS) (hI:Inv F) (hL:F.L.length≤1000000000):Does 118 (fun Q=> #[.pointer (some ⟨Q,46,none⟩)]) F (giveS F) (.returned (.tuple #[.int .i64 (giveN F),.int .i64 (giveE F)])):=by
 intro B Q v w hA;have hA1:=hA.alloc (.cells #[.pointer (some ⟨Q,46,none⟩)] 68);have hbC:Below w.heap.size w (w.alloc (.cells #[.pointer (some ⟨Q,46,none⟩)] 68)):=(Below.refl _ _).alloc (Xa _) _;have hC:(w.alloc (.cells #[.pointer (some ⟨Q,46,none⟩)] 68)).cell? ⟨w.heap.size,0,none⟩=some (.pointer (some ⟨Q,46,none⟩)):=cell_one rfl rfl;have hsz:(w.alloc (.cells #[.pointer (some ⟨Q,46,none⟩)] 68)).heap.size=w.heap.size+1:=by simp
 have c:=chGi_any B Q v F w.heap.size _ hA1 hL hC;obtain⟨W,hW⟩: ∃W,W=w.alloc (.cells #[.pointer (some ⟨Q,46,none⟩)] 68):=⟨_,rfl⟩
 rw [←hW]at hA1 hbC hC hsz c;have HW:=zh hW;have hCl:w.heap.size<W.heap.size:=by omega
 have hrow:=hA.rowLt;clear hW hA;cases hp:pick (room F.most) given F.L 0 none with
 |none=>
  obtain⟨e1,e2,e3⟩:=give_none hp;rw [e1,e2,e3];rw [hp]at c;simp only [pickV]at c;clear e1 e2 e3 hp;go_enter func118,ntmps118;go_wp2_with(go_at_call 146;(rw [←HW.out]);(with_reducible refine zg c fun w2 hb2=>?_))
  go_ret2;exact⟨rfl,v,hA1.below hb2,(Turn.of_below hbC).trans (Turn.of_below hb2)⟩
 |some x=>
  obtain⟨i,m⟩:=x;obtain⟨hi,hm,hr⟩:=pick_mem hp;simp only at hi hm hr;obtain⟨e1,e2,e3⟩:=give_some hp;rw [e1,e2,e3];rw [hp]at c;simp only [pickV]at c;have hi':(i:Int)<(F.L.length:Int):=by omega
  have hi0: ¬(i:Int)<0:=by omega
  have hbd:=hI.at hm;have hmo:=hI.m;unfold Okp at hbd;have hl1:0≤m.ld:=by omega
  have hl2:m.ld≤100:=by omega
  obtain⟨ao,cap,rfl,hc1,hc2,hao⟩:=hA1.form;obtain⟨g,rfl⟩:=hao (by omega);have HM:=zh hm;have HA:=zh hA1;have hgQ:=hA1.gQ;have hgC:g≠w.heap.size:=fun e=>by have:=hrow g rfl;omega
  clear e1 e2 e3 hp hm hA1 hr hbd hmo;go_enter func118,ntmps118;go_wp2_with(go_at_call 146;(rw [←HW.out]);(with_reducible refine zg c fun w2 hb2=>?_);have hA2:=HA.out.below hb2;have cV:=hA2.cV;obtain⟨d0,d1,d2,fz⟩:=hA2.pod rfl HM.out;have f2:=fz (i*3+2);have hC2:=(zk hC hb2))
  go_ret2;exact⟨rfl,_,RAt.put (j:=2) hA2 rfl HM.out (by decide) rfl,((Turn.of_below hbC).trans (Turn.of_below hb2)).trans (Turn.setG _ _)⟩

def doneL1 (L:List Pd) (i:Nat) (p:Pd):List Pd:=if p.ld=1∧p.st=4 then(L.set i ⟨p.id,p.st,p.ld-1⟩).eraseIdx i else L.set i ⟨p.id,p.st,p.ld-1⟩
def doneE (L:List Pd) (id:Int):Int:=match L.findIdx? (isId id)with
 |none=>4
 |some i=>match L[i]? with
  |none=>4
  |some p=>if p.ld=0 then 7 else 0
def doneL (L:List Pd) (id:Int):List Pd:=match L.findIdx? (isId id)with
 |none=>L
 |some i=>match L[i]? with
  |none=>L
  |some p=>if p.ld=0 then L else doneL1 L i p
def doneS (F:FS) (id:Int):FS:=⟨F.most,F.last,doneL F.L id⟩
theorem done_none (h:L.findIdx? (isId id)=none):doneE L id=4∧doneL L id=L:=by simp [doneE,doneL,h]
theorem done_state (h:L.findIdx? (isId id)=some i) (hp:L[i]? =some p) (hs:p.ld=0):doneE L id=7∧doneL L id=L:=by simp [doneE,doneL,h,hp,hs]
theorem done_ok (h:L.findIdx? (isId id)=some i) (hp:L[i]? =some p) (hs:p.ld≠0):doneE L id=0∧doneL L id=doneL1 L i p:=by simp [doneE,doneL,h,hp,hs]
theorem erase_set {α:Type} (L:List α) (i:Nat) (x:α):(L.set i x).eraseIdx i=L.eraseIdx i:=by
 by_cases h:i<L.length
 ·have hm:L[i]? =some L[i]:=by simp [h]
  rw [set_at hm,erase_at,erase_at];have hl:(L.take i).length=i:=by rw [Xt];omega
  rw [List.take_append_of_le_length (by omega),Yx (by omega),List.drop_append];simp [hl,Nat.add_sub_cancel_left]
 ·rw [List.set_eq_of_length_le (by omega)]
theorem done_inv (h:Inv F) (id:Int):Inv (doneS F id):=by
 unfold doneS;cases hf:F.L.findIdx? (isId id)with
 |none=>rw [(done_none hf).2];exact h
 |some i=>
  obtain⟨p,hp,_⟩:=find_get hf;by_cases hs:p.ld=0
  ·rw [(done_state hf hp hs).2];exact h
  ·rw [(done_ok hf hp hs).2];unfold doneL1;split
   ·rw [erase_set];exact h.erase i
   ·rename_i hn;refine h.set hp rfl ?_;have:=h.at hp;unfold Okp at*;simp only;omega
theorem done_any (F:FS) (id:Int) (hI:Inv F) (hL:F.L.length≤1000000000):Does 79 (fun Q=> #[.pointer (some ⟨Q,46,none⟩),.int .i64 id]) F (doneS F id) (.returned (.int .i64 (doneE F.L id))):=by
 intro B Q v w hA;unfold doneS;cases hn:F.L.findIdx? (isId id)with
 |none=>
  obtain⟨e1,e2⟩:=done_none hn;rw [e1,e2];have c:=ffind_none B Q v F id w hA hL hn;clear hn e1 e2;go_enter func79,ntmps79;go_wp2_with(go_at_call 121;(with_reducible refine zg c fun w2 hb2=>?_))
  go_ret;exact⟨rfl,v,hA.below hb2,Turn.of_below hb2⟩
 |some i=>
  obtain⟨m,hm,_⟩:=find_get hn;have c:=ffind_some B Q v F id i w hA hL hn;have hi:i<F.L.length:=(Xe.1 hm).1;have hi':(i:Int)<(F.L.length:Int):=by omega
  have hi0: ¬(i:Int)<0:=by omega
  have hbd:=hI.at hm;have hmo:=hI.m;unfold Okp at hbd;have hl1:0≤m.ld:=by omega
  have hl2:m.ld≤100:=by omega
  clear hbd hmo;obtain⟨ao,cap,rfl,hc1,hc2,hao⟩:=hA.form;obtain⟨g,rfl⟩:=hao (by omega);have HM:=zh hm;have HA:=zh hA;by_cases hs:m.ld=0
  ·obtain⟨e1,e2⟩:=done_state hn hm hs;rw [e1,e2];have h9:(m.ld==0)=true:=by simp [hs]
   clear hn e1 e2 hs hm hA;go_enter func79,ntmps79;go_wp2_with(go_at_call 121;(with_reducible refine zg c fun w2 hb2=>?_);have hA2:=HA.out.below hb2;have cV:=hA2.cV;obtain⟨d0,d1,d2,fz⟩:=hA2.pod rfl HM.out;have f2:=fz (i*3+2))
   go_ret;exact⟨rfl,_,hA2,Turn.of_below hb2⟩
  ·obtain⟨e1,e2⟩:=done_ok hn hm hs;rw [e1,e2];have h9:(m.ld==0)=false:=by simp [hs]
   unfold doneL1;by_cases h1:m.ld=1
   ·have h8:(m.ld-1==0)=true:=by simp;omega
    have c3:=fun w=>stays_any ⟨m.id,m.st,m.ld-1⟩ w;simp only [pV,stays]at c3;by_cases h4:m.st=4
    ·have h5:(m.st !=4)=false:=by simp [h4]
     rw [h5]at c3;rw [if_pos ⟨h1,h4⟩];have c4:=fun w h=>remove_any B Q (.slice (some ⟨g,0,none⟩) F.L.length cap) ⟨F.most,F.last,F.L.set i ⟨m.id,m.st,m.ld-1⟩⟩ i w h (by simpa using hL) (by simpa using hi);clear hn e1 e2 hs hm hA h1 h4 h5;go_enter func79,ntmps79
     go_wp2_with (first
      |(go_at_call 121;(with_reducible refine zg c fun w2 hb2=>?_);have hA2:=HA.out.below hb2;have cV:=hA2.cV;obtain⟨d0,d1,d2,fz⟩:=hA2.pod rfl HM.out;have f2:=fz (i*3+2);have hgQ:=hA2.gQ;have HA3:Hid (FAt (w2.setCell ⟨g,i*3+2,none⟩ (.int .i64 (m.ld-1))) B Q (.slice (some ⟨g,0,none⟩) F.L.length cap) ⟨F.most,F.last,F.L.set i ⟨m.id,m.st,m.ld-1⟩⟩):=RAt.put (j:=2) hA2 rfl HM.out (by decide) rfl;clear hA2)
      |(go_at_call 127;(with_reducible refine zg (c3 _) fun w3 hb3=>?_);have hA4:=HA3.out.below hb3;have cV4:=hA4.cV)
      |(go_at_call 122;(with_reducible refine(c4 _ hA4).mono ?_);rintro e w5 ⟨rfl,v5,hA5,hT5⟩))
     go_ret;exact⟨rfl,v5,hA5,(((Turn.of_below hb2).trans (Turn.setG _ _)).trans (Turn.of_below hb3)).trans hT5⟩
    ·have h5:(m.st !=4)=true:=by simp [h4]
     rw [h5]at c3;rw [if_neg (fun h=>h4 h.2)];clear hn e1 e2 hs hm hA h1 h4 h5;go_enter func79,ntmps79
     go_wp2_with (first
      |(go_at_call 121;(with_reducible refine zg c fun w2 hb2=>?_);have hA2:=HA.out.below hb2;have cV:=hA2.cV;obtain⟨d0,d1,d2,fz⟩:=hA2.pod rfl HM.out;have f2:=fz (i*3+2);have hgQ:=hA2.gQ;have HA3:Hid (FAt (w2.setCell ⟨g,i*3+2,none⟩ (.int .i64 (m.ld-1))) B Q (.slice (some ⟨g,0,none⟩) F.L.length cap) ⟨F.most,F.last,F.L.set i ⟨m.id,m.st,m.ld-1⟩⟩):=RAt.put (j:=2) hA2 rfl HM.out (by decide) rfl;clear hA2)
      |(go_at_call 127;(with_reducible refine zg (c3 _) fun w3 hb3=>?_);have hA4:=HA3.out.below hb3;have cV4:=hA4.cV))
     go_ret;exact⟨rfl,_,hA4,((Turn.of_below hb2).trans (Turn.setG _ _)).trans (Turn.of_below hb3)⟩
   ·have h8:(m.ld-1==0)=false:=by rw [beq_eq_false_iff_ne];omega
    rw [if_neg (fun h=>h1 h.1)];clear hn e1 e2 hs hm hA h1;go_enter func79,ntmps79;go_wp2_with(go_at_call 121;(with_reducible refine zg c fun w2 hb2=>?_);have hA2:=HA.out.below hb2;have cV:=hA2.cV;obtain⟨d0,d1,d2,fz⟩:=hA2.pod rfl HM.out;have f2:=fz (i*3+2);have hgQ:=hA2.gQ;have HA3:Hid (FAt (w2.setCell ⟨g,i*3+2,none⟩ (.int .i64 (m.ld-1))) B Q (.slice (some ⟨g,0,none⟩) F.L.length cap) ⟨F.most,F.last,F.L.set i ⟨m.id,m.st,m.ld-1⟩⟩):=RAt.put (j:=2) hA2 rfl HM.out (by decide) rfl;clear hA2)
    go_ret;exact⟨rfl,_,HA3.out,(Turn.of_below hb2).trans (Turn.setG _ _)⟩

theorem all_own (B Q:Nat) (v:Value) (F:FS) (w:World) (hA:FAt w B Q v F) (hL:F.L.length≤1000000000):
  Calls prog 94 #[.pointer (some ⟨Q,46,none⟩)] w fun e w'=>e=.returned (.slice (some ⟨w.heap.size,0,none⟩) F.L.length F.L.length)∧(∃e,w'.heap[w.heap.size]? =some (.cells (cels pK.c F.L).toArray e (0,0)))∧Below w.heap.size w w':=by
 obtain⟨i0,hi,hz0,hz1,hz2⟩:=info_parts info_pod;obtain⟨ao,cap,rfl,hc1,hc2,hao⟩:=hA.form;have hcl:(cels pK.c F.L).length=F.L.length*i0.size:=by rw [hz1];exact Rw.cels_len pK.len F.L
 have HC:=zh hcl;have HA:=zh hA;have cV:=hA.cV;clear hcl hA;go_enter func94,ntmps94;go_wp2_with(at_make;refine wpList_make_full _ rfl _ _ 65 rfl w.heap.size 118 i0 _ 3 underlying65 hi hz0 hz1 _ _ _ _ F.L.length rfl rfl rfl rfl (by rw [hz2];omega) (by unfold maxLen;omega) (Xa _) ?_;intro w2 hown2 hgrow2;have hb2:Below w.heap.size w w2:=(Below.refl _ _).grown hgrow2 (Xa _) (fun _ h=>by cases h);have hA2:=HA.out.below hb2;have cS2:=hA2.cV;obtain⟨cur2,q2,q5⟩:=own_block hown2;obtain⟨w3,hcp,hr3,hgrow3⟩:=run_copy_all (P:=prog) w2 65 65 3 118 i0 underlying65 hi w.heap.size F.L.length F.L.length cap ao cur2 (cels pK.c F.L) q2 (by rw [hz1];exact q5) HC.out (RAt.src hA2) (cels_one pK F.L);clear hown2 hgrow2 hA2)
 go_ret;have hb3:Below w.heap.size w2 w3:=⟨hgrow3.os,hgrow3.tape,hgrow3.output,hgrow3.size,fun k hk=>hgrow3.block k (Xb hk hb2.size) (fun e=>by cases e;omega)⟩
 exact⟨rfl,⟨_,hr3⟩,hb2.trans hb3⟩
theorem all_any (B Q:Nat) (v:Value) (F:FS) (w:World) (hA:FAt w B Q v F) (hL:F.L.length≤1000000000):
  Calls prog 94 #[.pointer (some ⟨Q,46,none⟩)] w fun e w'=>e=.returned (.slice (some ⟨w.heap.size,0,none⟩) F.L.length F.L.length)∧RowAt pK w' (some ⟨w.heap.size,0,none⟩) F.L∧Below w.heap.size w w':=
 (all_own B Q v F w hA hL).mono fun _ _ ⟨e,⟨_,h⟩,hb⟩=>⟨e,row_of_block h,hb⟩

theorem FAt.setN {w:World} {B Q:Nat} {v:Value} {F:FS} (h:FAt w B Q v F) (x:Int):FAt (w.setCell ⟨Q,47,none⟩ (.int .i64 x)) B Q v ⟨F.most,x,F.L⟩:=RAt.setN h 1 _ (by decide)
theorem FAt.regrown {w w':World} {B Q:Nat} {v v':Value} {F:FS} {L':List Pd} (h:FAt w B Q v F) (hQ:w'.heap[Q]? =w.heap[Q]?) (hown:w'.ownsRow B 118 3 v' L'.length (cels pK.c L')) (hv:v'.ownBlock≠some Q):FAt (w'.setCell ⟨Q,48,none⟩ v') B Q v' ⟨F.most,F.last,L'⟩:=RAt.regrown h hQ hown hv
theorem scale_arg (Q:Nat) (n:Int) (w:World) (h: ¬(0≤n∧n≤50)):
  CS 116 #[.pointer (some ⟨Q,46,none⟩),.int .i64 n] w (.int .i64 1):=by
 by_cases h2:n<0
 ·clear h;go_enter func116,ntmps116;go_wp2;go_ret;exact⟨rfl,rfl⟩
 ·have h3:50<n:=by omega
  clear h;go_enter func116,ntmps116;go_wp2;go_ret;exact⟨rfl,rfl⟩

def GrR (B Q:Nat) (F:FS) (N:Nat) (v:Value) (w:World) (i:Value) (wr:World):Prop:=
 ∃(k:Nat) (v':Value),k≤N∧i=.int .i64 k∧FAt wr B Q v' ⟨F.most,F.last+k,F.L++news F.last k⟩∧Turn rF Q v v' w wr
def ShR (B Q:Nat) (most last:Int) (L1:List Pd) (M:Nat) (v:Value) (w:World) (i:Value) (wr:World):Prop:=
 ∃(k:Nat) (v':Value) (L:List Pd),k≤M∧i=.int .i64 k∧FAt wr B Q v' ⟨most,last,L⟩∧Turn rF Q v v' w wr∧shrink (M-k) L=shrink M L1∧cnt L+k=cnt L1∧Inv ⟨most,last,L⟩
theorem ShR.next {B Q:Nat} {most last:Int} {L1:List Pd} {M k:Nat} {v1 v2:Value} {w wr w3:World} {x:Nat×Pd} {i:Value} (hk:k<M) (hT:Turn rF Q v v1 w wr) (hS:shrink (M-k) L=shrink M L1) (hC:cnt L+k=cnt L1) (hI:Inv ⟨most,last,L⟩) (hp:pick stays goes L 0 none=some x)
  (hA:FAt w3 B Q v2 ⟨most,last,letgo L x.1 x.2⟩) (hT3:Turn rF Q v1 v2 wr w3) (hi:i=.int .i64 ((k+1:Nat):Int)):ShR B Q most last L1 M v w i w3:=by
 obtain⟨_,h2,h3⟩:=pick_mem hp;refine⟨k+1,v2,_,by omega,hi,hA,hT.trans hT3,?_,by have:=letgo_cnt h2 h3;omega,hI.letgo h2⟩;rw [←hS,show M-k=(M-(k+1))+1 by omega,shrink_step hp]
theorem scale_yes (F:FS) (n:Int) (hI:Inv F) (hl:F.last≤900000000) (h0:0≤n) (h1:n≤50):Does 116 (fun Q=> #[.pointer (some ⟨Q,46,none⟩),.int .i64 n]) F (scaleS F n) (.returned (.int .i64 0)):=by
 intro B Q v w hA;obtain⟨i0,hi,hz0,hz1,hz2⟩:=info_parts info_pod;have hlen:=hI.len;have hcl:=cnt_le F.L;have hl0:=hI.l0;have hL:F.L.length≤1000000000:=by omega
 have c:=count_any B Q v F w hA hL;unfold scaleS;obtain⟨N,hN⟩: ∃N,N=scN F.L n:=⟨_,rfl⟩
 obtain⟨M,hM⟩: ∃M,M=scM F.L n:=⟨_,rfl⟩
 rw [←hN,←hM];have hN2:(N:Int)=max (n-cnt F.L) 0:=by rw [hN];unfold scN;omega
 have hNb:N≤50:=by omega
 have hMN:((cnt F.L+N:Nat):Int)-n=M:=by rw [hM];unfold scM;omega
 have HI:=zh hI;have HA:=zh hA;clear hN hM hI hA;generalize hcn:cnt F.L=C at*;have HN2:=zh hN2;clear hN2;go_enter func116,ntmps116;go_wp2_with(go_at_call 113;(with_reducible refine zg c fun w2 hb2=>?_))
 go_loopw [15] (fun i wr=>GrR B Q F N v w i wr) (fun i _=>N-(intOf i).toNat)
 case atStart=>exact⟨0,v,by omega,rfl,by simpa [news_zero]using HA.out.below hb2,Turn.of_below hb2⟩
 case round=>
  obtain⟨k,v1,hk,rfl,hA,hT⟩:=hrel;by_cases hlt:k<N
  ·have hlt':(k:Int)<n-C:=by have:=HN2.out;omega
   have cV:=hA.cV;have cN:=hA.cN;have f0:=hA.fz 47;have f1:=hA.fz 48;have hQl:=hA.lt;have hA1:=hA.setN (F.last+k+1);have hT1:=hT.trans (Turn.setQ 47 (.int .i64 (F.last+k+1)));clear hA hT;simp only at cN;have cV1:=hA1.cV;have cN1:=hA1.cN;have f01:=hA1.fz 47;have f11:=hA1.fz 48;simp only at cN1;clear c;go_wp2_with fail
   generalize wr.setCell ⟨Q,47,none⟩ (.int .i64 (F.last+k+1))=w1 at*;have hQ1:=hA1.lt;have hBs:B≤w1.heap.size:=by have:=RAt.bQ hA1;omega
   have hlenk:(F.L++news F.last k).length=F.L.length+k:=by rw [Xg,news_len]
   have hown:=RAt.own hA1;simp only at hown;rw [hlenk]at hown;have HA1:=zh hA1;have HT:=zh hT1;clear hA1 hT1 cV cN f0 f1 f01;go_region_law (refine step_own_at rfl (.tmp 28) (.tmp 34) 65 rfl B 118 i0 (.agg #[.int .i64 0,.int .i64 0,.int .i64 0]) 3 24 underlying65 hi hz0 hz1 hz2 rfl (by decide) _ (F.L.length+k) (cels pK.c (F.L++news F.last k)) rfl ((hown.drew).alloc _) ⟨w1.heap.size,0,none⟩ 1 1 [.int .i64 (F.last+k+1),.int .i64 1,.int .i64 0] rfl rfl (cell_three _ _ _ _ _) (fun u hu=>by simp at hu;rcases hu with rfl|rfl|rfl<;>rfl) (by unfold maxLen;omega) (by omega) (by simp;omega) ?_;intro v' w3 hown3 hgrow3 hloc3;obtain⟨g3,cap3,rfl⟩:=own_succ hown3;have hQ3:=RAt.appended HA1.out hgrow3;have cS3:w3.cell? ⟨Q,48,none⟩=some v1:=(Xf (w:=w1) (a:=⟨Q,48,none⟩) hQ3).trans cV1;have f13:w3.frozen? ⟨Q,48,none⟩=false:=(Xl (w:=w1) (a:=⟨Q,48,none⟩) hQ3).trans f11)
   all_goals
    have hL':(F.L++news F.last (k+1)).length=F.L.length+k+1:=by rw [Xg,news_len];omega
    have hC':cels pK.c (F.L++news F.last k)++ [.int .i64 (F.last+k+1),.int .i64 1,.int .i64 0]=cels pK.c (F.L++news F.last (k+1)):=by
     rw [←news_step,←X4,cels_append (F.L++news F.last k),show F.last+1+(k:Int)=F.last+k+1 by omega];rfl
    rw [hC',←hL']at hown3;have hA3:=FAt.regrown HA1.out hQ3 hown3 (own_off HA1.out hloc3);rw [hL']at hA3;have hT3:=(HT.out.trans (Turn.appended hgrow3 hloc3)).setRow 48 (.slice (some ⟨g3,0,none⟩) (F.L.length+k+1) cap3);go_wp2;go_roundw
    case rel=>exact⟨k+1,_,by omega,rfl,by rw [show F.last+((k+1:Nat):Int)=F.last+k+1 by omega];exact hA3,hT3⟩
    case measure=>simp [intOf];omega
  ·obtain rfl:k=N:=by omega
   have hlt': ¬(k:Int)<n-C:=by have:=HN2.out;omega
   have hI1:=HI.out.grow k;have hlen1:(F.L++news F.last k).length≤1000000000:=by rw [Xg,news_len];omega
   have c1:=count_any B Q v1 _ wr hA hlen1;have hcn1:cnt (F.L++news F.last k)=C+k:=by rw [cnt_append,news_cnt,hcn]
   simp only [hcn1]at c1;have HA1:=zh hA;have HT1:=zh hT;have HI1:=zh hI1;have hlast:F.last+k≤1000000000:=by omega
   clear hA hT c hI1;generalize hq1:F.L++news F.last k=L1 at*;generalize hq2:F.last+(k:Int)=last1 at*;generalize hq3:F.most=most at*;have HQ1:=zh hq1;have HQ2:=zh hq2;have HQ3:=zh hq3;clear hq1 hq2 hq3;go_wp2_with(go_at_call 113;(with_reducible refine zg c1 fun w4 hb4=>?_))
   go_loopw [43] (fun i wr=>ShR B Q most last1 L1 M v w i wr) (fun i _=>M-(intOf i).toNat)
   case atStart=>exact⟨0,v1,L1,by omega,rfl,HA1.out.below hb4,HT1.out.trans (Turn.of_below hb4),by simp,by omega,HI1.out⟩
   case round=>
    obtain⟨j,v5,L5,hj,rfl,hA5,hT5,hS5,hC5,hI5⟩:=hrel;by_cases hlt5:j<M
    ·have hlt5':(j:Int)<((C+k:Nat):Int)-n:=(by omega);obtain⟨x,hx⟩:=cnt_pos (L:=L5) (by omega);obtain⟨hx1,hx2,hx3⟩:=pick_mem hx;have hl5:=hI5.len;simp only at hl5;have hL5:L5.length≤1000000000:=(by omega);have c2:=chGo_any B Q v5 _ _ hA5 hL5;simp only [hx,pickV]at c2;have HN:Hid (∀(v2:Value) (w3:World) (i:Value),FAt w3 B Q v2 ⟨most,last1,letgo L5 x.1 x.2⟩→Turn rF Q v5 v2 _ w3→i=.int .i64 ((j+1:Nat):Int)→ShR B Q most last1 L1 M v w i w3):=fun v2 w3 i a b d=>ShR.next hlt5 hT5 hS5 hC5 hI5 hx a b d;have HA5:=zh hA5;clear hA5 hT5 hS5 hI5 hx c1
     go_wp2_with (first
      |(go_at_call 146;(with_reducible refine zg c2 fun w6 hb6=>?_);have hA6:=HA5.out.below hb6)
      |(go_at_call 145;(with_reducible refine(letGo_any B Q v5 _ x.1 x.2 w6 hA6 hL5 hx2).mono ?_);rintro e w7 ⟨rfl,v7,hA7,hT7⟩))
     go_roundw
     case rel=>exact HN.out v7 w7 _ hA7 ((Turn.of_below hb6).trans hT7) rfl
     case measure=>simp [intOf];omega
    ·obtain rfl:j=M:=by omega
     have hlt5': ¬(j:Int)<((C+k:Nat):Int)-n:=(by omega);rw [Nat.sub_self]at hS5;have HG:Hid (FAt _ B Q v5 ⟨most,last1,shrink j L1⟩∧Turn rF Q v v5 w _):=⟨by rw [←hS5];exact hA5,hT5⟩
     clear hA5 hT5 hS5 hI5 c1;go_wp2;go_ret;refine⟨rfl,v5,?_⟩;rw [HQ1.out,HQ2.out,HQ3.out];exact HG.out
def scaleE (n:Int):Int:=if 0≤n∧n≤50 then 0 else 1
def scaleF (F:FS) (n:Int):FS:=if 0≤n∧n≤50 then scaleS F n else F
theorem scaleF_inv (h:Inv F) (n:Int):Inv (scaleF F n):=by
 unfold scaleF;split
 ·exact scale_inv h n
 ·exact h
theorem scaleF_last (n:Int):(scaleF F n).last≤F.last+50:=by
 unfold scaleF;split
 ·unfold scaleS scN;simp only;omega
 ·omega
theorem scale_any (F:FS) (n:Int) (hI:Inv F) (hl:F.last≤900000000):Does 116 (fun Q=> #[.pointer (some ⟨Q,46,none⟩),.int .i64 n]) F (scaleF F n) (.returned (.int .i64 (scaleE n))):=by
 unfold scaleF scaleE;by_cases h:0≤n∧n≤50
 ·rw [if_pos h,if_pos h];exact scale_yes F n hI hl h.1 h.2
 ·rw [if_neg h,if_neg h];intro B Q v w hA;refine(scale_arg Q n w h).mono ?_;rintro e w' ⟨rfl,rfl⟩;exact⟨rfl,v,hA,Turn.refl _ _ _⟩
theorem inv_new (n:Int):Inv ⟨mostN n,0,[]⟩:=⟨most_bd n,List.Pairwise.nil,by simp,by simp⟩

def EqR (n:Nat) (w:World) (i:Value) (wr:World):Prop:= ∃k q:Nat,k≤n∧i=.int .i64 k∧wr=w.drewN q
theorem equal_pods (ao bo:Option Addr) (L:List Pd) (c d:Nat) (w:World) (hX:RowAt pK w ao L) (hY:RowAt pK w bo L) (hn:L.length≤1000000000):
  Calls prog 48 #[.slice ao L.length c,.slice bo L.length d] w fun e w'=>e=.returned (.bool true)∧ ∃q,w'=w.drewN q:=by
 go_enter func48,ntmps48;go_wp2;go_loopw [13] (fun i wr=>EqR L.length w i wr) (fun i _=>L.length-(intOf i).toNat)
 case atStart=>exact⟨0,0,by omega,rfl,rfl⟩
 case round=>
  obtain⟨k,q,hk,rfl,hq⟩:=hrel;have HQ:=zh hq;by_cases hlt:k<L.length
  ·have hlt':(k:Int)<(L.length:Int):=by omega
   obtain⟨g,rfl,hg,hc⟩:=row_pod hX (by omega);obtain⟨h,rfl,hh,hd⟩:=row_pod hY (by omega);obtain⟨m,hm⟩: ∃m,L[k]? =some m:=⟨L[k],by simp [hlt]⟩
   obtain⟨c0,c1,c2⟩:=hc k m hm;obtain⟨d0,d1,d2⟩:=hd k m hm;have x0:wr.cell? ⟨g,k*3,none⟩=some (.int .i64 m.id):=by rw [hq];exact c0
   have x1:wr.cell? ⟨g,k*3+1,none⟩=some (.int .i64 m.st):=by rw [hq];exact c1
   have x2:wr.cell? ⟨g,k*3+2,none⟩=some (.int .i64 m.ld):=by rw [hq];exact c2
   have y0:wr.cell? ⟨h,k*3,none⟩=some (.int .i64 m.id):=by rw [hq];exact d0
   have y1:wr.cell? ⟨h,k*3+1,none⟩=some (.int .i64 m.st):=by rw [hq];exact d1
   have y2:wr.cell? ⟨h,k*3+2,none⟩=some (.int .i64 m.ld):=by rw [hq];exact d2
   clear hq hc hd c0 c1 c2 d0 d1 d2;go_wp2_with fail
   go_quiet (fail)
   go_wp2;go_roundw
   case rel=>exact⟨k+1,q+nq,by omega,rfl,by rw [HQ.out,World.drewN_drewN]⟩
   case measure=>simp [intOf];omega
  ·obtain rfl:k=L.length:=by omega
   go_wp2;go_ret;exact⟨rfl,q,rfl⟩
