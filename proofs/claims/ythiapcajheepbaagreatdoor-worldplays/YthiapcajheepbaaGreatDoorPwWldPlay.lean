/- A part. -/
import Derived.Test.YthiapcajheepbaaGreatDoorPwWldHand
import Derived.Test.YthiapcajheepbaaGreatDoorPwLopPlan
set_option linter.all false
open Go.Proofs.Tryz
set_option maxHeartbeats 32000000
set_option maxRecDepth 8000
namespace Go.Proofs.YthiapcajheepbaaGreatDoor
namespace Wld
open Go.RowKit Plain Pln Frm Lpp Crn Lop



structure W2 (w:World) (B1 B2:Nat) (c1 c2:Pc) (p:Pd) (ts:List Tr) (S1 S2:WS):Prop where
 a:WAt w B1 c1 p ts S1
 b:WAt w B2 c2 p ts S2
 ap: ∀k,bk c1 ts k→ ¬bk c2 ts k
 le:B1≤B2
section
variable {w w' : World} {B B1 B2 : Nat} {c1 c2 : Pc} {p : Pd} {ts : List Tr} {S S1 S2 S' : WS} {h k : Nat}
theorem Bas.up {B B':Nat} {w:World} (h:Bas B w) (hB:B≤B'):Bas B' w:=by
 obtain⟨w0,a,b,d⟩:=h;exact⟨w0,a,Xc b hB,d⟩
theorem W2.below (h:W2 w B1 B2 c1 c2 p ts S1 S2) (g:Below w.heap.size w w'):W2 w' B1 B2 c1 c2 p ts S1 S2:=⟨h.a.below g,h.b.below g,h.ap,h.le⟩
theorem W2.left (h:W2 w B1 B2 c1 c2 p ts S1 S2) (t:Wst B1 c1 p ts S' w w'): ∃c1',W2 w' B1 B2 c1' c2 p ts S' S2∧c1'.x.D=c1.x.D∧Mm.Mv (bk c1 ts) (bk c1' ts) w w':=by
 obtain⟨c',a,d,m⟩:=t;refine⟨c',⟨a,h.b.kept (fun k hk=>m.block k (h.b.low hk).2 (fun e=>h.ap k e hk)) m.size (a.ba.up h.le),fun k hk hn=> ?_,h.le⟩,d,m⟩;rcases m.loc k hk with x|x
 ·exact h.ap k x hn
 ·have:=(h.b.low hn).2;omega
theorem W2.right (h:W2 w B1 B2 c1 c2 p ts S1 S2) (t:Wst B2 c2 p ts S' w w'): ∃c2',W2 w' B1 B2 c1 c2' p ts S1 S'∧c2'.x.D=c2.x.D∧Mm.Mv (bk c2 ts) (bk c2' ts) w w':=by
 obtain⟨c',b,d,m⟩:=t;refine⟨c',⟨h.a.kept (fun k hk=>m.block k (h.a.low hk).2 (fun e=>h.ap k hk e)) m.size (h.a.ba.mv (fun k hk=>Xc h.le (h.b.low hk).1) m),b,fun k hk hn=> ?_,h.le⟩,d,m⟩;rcases m.loc k hn with x|x
 ·exact h.ap k hk x
 ·have:=(h.a.low hk).2;omega
theorem W2.new (ha:WAt w B1 c1 p ts S1) (hb:Below w.heap.size w w') (h2:WAt w' w.heap.size c2 p ts S2):W2 w' B1 w.heap.size c1 c2 p ts S1 S2:=by
 have hl:B1≤w.heap.size:=Xw (Nat.lt_of_le_of_lt ha.bD ha.lt);refine⟨ha.below hb,h2,fun k hk hn=> ?_,hl⟩;have:=(ha.low hk).2;have:=(h2.low hn).1;omega
end
theorem rowM_mv {w w':World} {G:Nat} {L:List Que.M} {b b':Nat→Prop} (h:Que.RowAt w (some ⟨G,0,none⟩) L) (m:Mm.Mv b b' w w') (hb: ¬b G):Que.RowAt w' (some ⟨G,0,none⟩) L:=by
 intro hl;obtain⟨g,e,hg,hc⟩:=h hl;cases e;refine⟨G,rfl,Xb hg m.size,fun i x hx=> ?_⟩;obtain⟨a,d,f⟩:=hc i x hx;exact⟨m.cell a hb,m.cell d hb,m.cell f hb⟩
section
variable (B : Nat) (c : Pc) (p : Pd) (ts : List Tr) (S : WS) (h k : Nat)
theorem messages_own (w:World) (hA:WAt w B c p ts S) (hI:WI ts S h k):
  Calls prog 56 #[.pointer (some ⟨c.x.D,0,none⟩)] w fun e w'=> ∃G,e=.returned (.slice (some ⟨G,0,none⟩) (Que.backL S.now S.qL).length (Que.backL S.now S.qL).length)∧w.heap.size≤G∧(∃e,w'.heap[G]? =some (.cells (Que.cels (Que.backL S.now S.qL)).toArray e (0,0)))∧Wst B c p ts { S with qL:=Que.backL S.now S.qL } w w':=by
 have HA:Hid (WAt w.drew B c p ts S):=hA.below (Mm.bdrew w);have cA:=Que.all_own B c.x.D S.ql c.vq S.qL _ S.now w.drew HA.out.qu hI.q.len hI.nw.1 hI.nw.2 rfl;have c0:=hA.c0;clear hA hI;generalize hD:c.x.D=D at*;go_enter func56,ntmps56;go_upto_region 1 with fail
 refine Tk.sb 13 (S:=fun w'=>w'.cell? ⟨D,0,none⟩=some (.int .i64 S.now)) (c0) (fun hHeld=> ?_)
 iterate 7
  refine Tk.gn ?_
 refine Tk.rn 7 fun K hK=> ?_;go_simp;go_wp2_with((go_at_call 97;(with_reducible refine cA.mono ?_);rintro e w1 ⟨G,rfl,hG,hR,v1,_,hq1,ht1⟩;clear cA;rw [←hD]at hq1 ht1;obtain⟨c2,a2,d2,_,m2⟩:=HA.out.queue hq1 ht1;clear hq1 ht1;have HX:Hid (WAt w1 B c2 p ts { S with qL:=Que.backL S.now S.qL } ∧c2.x.D=D∧Mm.Mv (bk c ts) (bk c2 ts) w.drew w1):=⟨a2,d2.trans hD,m2⟩;have q1:=a2.c0;rw [d2,hD]at q1;clear a2 d2 m2))
 refine hK.out _ _ (q1) (fun hHeld=> ?_);clear hK K
 iterate 5
  refine Tk.gn ?_
 refine wpAnyH_done (by kernel_rfl) ?_ _;go_wp2;go_ret;exact⟨G,rfl,hG,hR,c2,HX.out.1,HX.out.2.1.trans hD.symm,(Mm.Mv.of_below (Mm.bdrew w)).trans HX.out.2.2⟩
theorem messages_any (w:World) (hA:WAt w B c p ts S) (hI:WI ts S h k):
  Calls prog 56 #[.pointer (some ⟨c.x.D,0,none⟩)] w fun e w'=> ∃G,e=.returned (.slice (some ⟨G,0,none⟩) (Que.backL S.now S.qL).length (Que.backL S.now S.qL).length)∧w.heap.size≤G∧Que.RowAt w' (some ⟨G,0,none⟩) (Que.backL S.now S.qL)∧Wst B c p ts { S with qL:=Que.backL S.now S.qL } w w':=
 (messages_own B c p ts S h k w hA hI).mono fun _ _ ⟨G,e,hG,⟨_,g⟩,r⟩=>⟨G,e,hG,Que.row_of_block g,r⟩
end
