/- A part. -/
import Derived.Test.YthiapcajheepbaaGreatDoorPwGlbOn
import Derived.Test.YthiapcajheepbaaGreatDoorPwWldPlay
import Derived.Test.YthiapcajheepbaaGreatDoorPwRefPlanZ
set_option linter.all false
open Go.Proofs.Tryz
set_option maxHeartbeats 32000000
set_option maxRecDepth 8000
namespace Go.Proofs.YthiapcajheepbaaGreatDoor
namespace Glb
open Go.RowKit Plain Pln Frm Lpp Crn Wld Lop
set_option linter.all false

structure GW (w:World) (B:Nat) (c:Pc) (g:Gc) (v:Gv) (p:Pd) (ts:List Tr) (S T:WS) (k:Nat):Prop where
 a:WAt w B c (noN p) ts S
 b:GAt w B g v p ts T k
 ap: ∀q,bk c ts q→ ¬gbk g v q
abbrev HeG (g:Gc) (vf vb:Value) (S:WS) (w:World):Prop:=w.cell? ⟨g.G,1,none⟩=some (.pointer (some ⟨g.T,0,none⟩))∧w.cell? ⟨g.G,3,none⟩=some (.pointer (some ⟨g.F,0,none⟩))∧w.cell? ⟨g.G,4,none⟩=some (.pointer (some ⟨g.H,0,none⟩))∧w.cell? ⟨g.G,7,none⟩=some (.int .i64 S.now)∧w.cell? ⟨g.G,8,none⟩=some (.int .i64 S.tg)∧w.cell? ⟨g.F,0,none⟩=some vf∧w.cell? ⟨g.H,0,none⟩=some vb
section
variable {w w' : World} {B : Nat} {c c' : Pc} {g : Gc} {v v' : Gv} {p : Pd} {ts : List Tr} {S S' T T' : WS} {k k' : Nat}
theorem HeG.of (h:GAt w B g v p ts T k):HeG g v.f v.b T w:=⟨h.ptr.t,h.ptr.f,h.ptr.h,h.cells.2.2 7 _ rfl,h.cells.2.2 8 _ rfl,Flt.DAt.cV (h.pa 4 (by decide)),Hal.HAt.cV (h.pa 5 (by decide))⟩
theorem GW.below (h:GW w B c g v p ts S T k) (hb:Below w.heap.size w w'):GW w' B c g v p ts S T k:=⟨h.a.below hb,h.b.below hb,h.ap⟩
theorem GW.right (h:GW w B c g v p ts S T k) (t:Gst B g v p ts T' k' w w'): ∃v',GW w' B c g v' p ts S T' k'∧Mm.Mv (gbk g v) (gbk g v') w w'∧Below B w w':=by
 obtain⟨v',b,m⟩:=t;refine⟨v',⟨h.a.kept (fun q hq=>m.block q (h.a.low hq).2 (h.ap q hq)) m.size b.ba,b,fun q hq hn=> ?_⟩,m,m.below (fun q hq=>(h.b.low hq).1) h.b.base⟩;rcases m.loc q hn with x|x
 ·exact h.ap q hq x
 ·have:=(h.a.low hq).2;omega
theorem GW.left (h:GW w B c g v p ts S T k) (t:Wst B c (noN p) ts S' w w'): ∃c',GW w' B c' g v p ts S' T k∧c'.x.D=c.x.D∧Mm.Mv (bk c ts) (bk c' ts) w w'∧Below B w w':=by
 obtain⟨c',a,d,m⟩:=t;refine⟨c',⟨a,h.b.kept (fun q hq=>m.block q ?_ (fun e=> ?_)) m.size a.ba,fun q hq hn=> ?_⟩,d,m,m.below (fun q hq=>(h.a.low hq).1) h.b.base⟩
 ·rcases hq with x|x
  ·exact(h.b.low x).2
  ·exact Xb x h.b.base
 ·rcases hq with x|x
  ·exact h.ap q e x
  ·have:=(h.a.low e).1;omega
 ·rcases m.loc q hq with x|x
  ·exact h.ap q x hn
  ·have:=(h.b.low hn).2;omega
end
section
variable (B : Nat) (c : Pc) (p : Pd) (ts : List Tr) (S : WS)
theorem lagsG (h k:Nat) (w:World) (hA:WAt w B c p ts S) (hI:WI ts S h k) (hh:h≤1000):Calls prog 53 #[.pointer (some ⟨c.x.D,0,none⟩)] w fun e w'=> ∃G,e=.returned (.slice (some ⟨G,0,none⟩) S.n S.n)∧w.heap.size≤G∧Top.Row1 w' G S.n (Top.dif S.E S.O)∧Below w.heap.size w w':=by
 have cX:=Top.lags_any c.x.D c.G S.n S.E S.O w hA.tp hI.n.2 (fun i hi=>by have:=hI.tb i hi;omega);clear hA hI;generalize c.x.D=D at*;go_enter func53,ntmps53;go_wp2_with(go_at_call 96;(with_reducible refine cX.mono ?_);rintro e w1 ⟨G,rfl,hG,hR,hb⟩)
 go_ret;exact⟨G,rfl,hG,hR,hb⟩
theorem row_m {w w':World} {bo:Option Addr} {L:List Que.M} {b b':Nat→Prop} (h:Que.RowAt w bo L) (m:Mm.Mv b b' w w') (hb: ∀G,bo=some ⟨G,0,none⟩→ ¬b G):Que.RowAt w' bo L:=by
 intro hl;obtain⟨G,rfl,hg,hc⟩:=h hl;exact rowM_mv h m (hb G rfl) hl
end
section
variable (B : Nat) (c : Pc) (g : Gc) (v : Gv) (p : Pd) (ts : List Tr) (S : WS) (h k : Nat)
theorem same_any (w:World) (hA:GW w B c g v p ts S S k) (hI:WI ts S h k) (hh:h≤1000) (hk:k≤1000000):
  Calls prog 10 #[.pointer (some ⟨c.x.D, 0, none⟩), .pointer (some ⟨g.G, 0, none⟩)] w fun e w' => e = .returned (.bool true) ∧ ∃ c' v', GW w' B c' g v' p ts { S with qL := Que.backL S.now S.qL } { S with qL := Que.backL S.now S.qL } k ∧ c'.x.D = c.x.D ∧ Below B w w' ∧ ∀ q j u, w.cell? ⟨q, j, none⟩ = some u → ¬ bk c ts q → ¬ gbk g v q → w'.cell? ⟨q, j, none⟩ = some u := by -- k6
 have HX:=zh hA
 have HI:=zh hI
 have hLF:S.F.L.length≤1000000000:=by have:=hI.len;omega
 have hLR:S.R.length≤200:=hI.r.len
 have hLM:(Que.backL S.now S.qL).length≤200:=(hI.q.back S.now).len
 have cA:=Que.lall_yes B g.Q S.ql v.q S.qL _ S.now w.drew ((hA.b.below (Mm.bdrew w)).pa 3 (by decide)) hI.q.len hI.nw.1 hI.nw.2 rfl
 have q2:=hA.b.ptr.q
 have n2:w.cell? ⟨g.G,7,none⟩=some (.int .i64 S.now):=hA.b.cells.2.2 7 _ rfl
 clear hA hI
 go_enter func10,ntmps10
 go_upto_region 1 with fail
 refine Tk.sb 14 (S:=fun w'=>w'.cell? ⟨g.G,2,none⟩=some (.pointer (some ⟨g.Q,0,none⟩))∧w'.cell? ⟨g.G,7,none⟩=some (.int .i64 S.now)) ⟨q2,n2⟩ (fun hHeld=> ?_)
 iterate 8
  refine Tk.gn ?_
 refine Tk.rn 8 fun K hK=> ?_
 go_simp
 go_wp2_with(go_at_call 45;(with_reducible refine cA.mono ?_);rintro e w1 ⟨bo,cb,rfl,hR,hbo,u1,_,hq,ht⟩;clear cA;obtain⟨v1,hG1,m1,hB1⟩:=(HX.out.below (Mm.bdrew w)).right ((HX.out.b.below (Mm.bdrew w)).line hq ht);have HX1:=zh hG1;have HB1:Hid (Below B w w1∧Mm.Mv (gbk g v) (gbk g v1) w.drew w1):=⟨((Mm.bdrew w).mono HX.out.b.base).trans hB1,m1⟩;have HM:Hid (Que.RowAt w1 bo (Que.backL S.now S.qL)∧ ∀o,bo=some ⟨o,0,none⟩→ ¬bk c ts o):=⟨hR,fun o e hk=>absurd (HX.out.a.low hk).2 (Nat.not_lt.2 (hbo o e))⟩;have s1:w1.cell? ⟨g.G,2,none⟩=some (.pointer (some ⟨g.Q,0,none⟩))∧w1.cell? ⟨g.G,7,none⟩=some (.int .i64 S.now):=⟨hG1.b.ptr.q,hG1.b.cells.2.2 7 _ rfl⟩;clear hG1 hB1 m1 hq ht hR hbo)
 refine hK.out _ _ s1 (fun hHeld=> ?_)
 clear hK K
 iterate 5
  refine Tk.gn ?_
 refine wpAnyH_done (by kernel_rfl) ?_ _
 clear q2 n2 s1
 obtain⟨aoF,capF,hvf,_⟩:=Flt.DAt.form (HX1.out.b.pa 4 (by decide))
 obtain⟨aoH,capH,hvh,_⟩:=Hal.HAt.form (HX1.out.b.pa 5 (by decide))
 dsimp only at hvf hvh
 have hbd:=Mm.bdrew w1
 have HY2:Hid (GW w1.drew B c g v1 p ts S { S with qL:=Que.backL S.now S.qL } k∧Below w1.heap.size w1 w1.drew):=⟨HX1.out.below hbd,hbd⟩
 have HV:Hid (v1.f=.slice aoF S.F.L.length capF∧v1.b=.slice aoH S.R.length capH):=⟨hvf,hvh⟩
 have h2:=HeG.of HY2.out.1.b
 rw [hvf,hvh]at h2
 have keep: ∀ {w':World},GAt w' B g v1 p ts { S with qL:=Que.backL S.now S.qL } k→HeG g (.slice aoF S.F.L.length capF) (.slice aoH S.R.length capH) S w':=fun h=>by
  have h3:=HeG.of h
  rw [hvf,hvh]at h3
  exact h3
 clear hvf hvh
 go_upto_region 2 with fail
 refine Tk.sb 57 (S:=fun w'=>HeG g (.slice aoF S.F.L.length capF) (.slice aoH S.R.length capH) S w') h2 (fun hHeld=> ?_)
 refine Tk.gn ?_
 refine Tk.gm 2 ?_
 refine Tk.gm 3 ?_
 refine Tk.gm 4 ?_
 refine Tk.gm 5 ?_
 refine Tk.rn 1 fun K hK=> ?_
 go_simp
 go_wp2_with(go_at_call 46;(with_reducible refine zq (now_any B c (noN p) ts S w1.drew HY2.out.1.a) ?_))
 refine hK.out _ _ hHeld (fun hHeld=> ?_)
 clear hK K
 iterate 3
  refine Tk.gn ?_
 refine Tk.gm 10 ?_
 refine Tk.gm 11 ?_
 refine Tk.gm 12 ?_
 refine Tk.gm 13 ?_
 refine Tk.rn 9 fun K hK=> ?_
 go_simp
 go_wp2_with(go_at_call 47;(with_reducible refine zq (target_any B c (noN p) ts S w1.drew HY2.out.1.a) ?_))
 refine hK.out _ _ hHeld (fun hHeld=> ?_)
 clear hK K
 iterate 4
  refine Tk.gn ?_
 refine Tk.gm 19 ?_
 refine Tk.gm 20 ?_
 refine Tk.gm 21 ?_
 refine Tk.gm 22 ?_
 refine Tk.gm 23 ?_
 refine Tk.gm 24 ?_
 refine Tk.gm 25 ?_
 refine Tk.rn 18 fun K hK=> ?_
 go_simp
 go_wp2_with(go_at_call 49;have cX:=pods_any B c (noN p) ts S w1.drew HY2.out.1.a hLF;(with_reducible refine cX.mono ?_);rintro e w3 ⟨rfl,hR3,hb3⟩;clear cX;have HY3:Hid (GW w3 B c g v1 p ts S { S with qL:=Que.backL S.now S.qL } k∧Below w1.heap.size w1 w3):=⟨HY2.out.1.below hb3,(zu HY2.out.2 hb3)⟩)
 refine hK.out _ _ (keep HY3.out.1.b) (fun hHeld=> ?_)
 clear hK K
 refine Tk.rn 26 fun K hK=> ?_
 go_simp
 go_wp2_with(go_at_call 48;have yR:Rec.RowAt Flt.pK w3 (some ⟨w1.heap.size,0,none⟩) S.F.L:=hR3;have xF:Flt.DAt w3 B g.F v1.f S.F:=HY3.out.1.b.pa 4 (by decide);rw [HV.out.1]at xF;have cX:=Flt.equal_pods _ _ S.F.L S.F.L.length capF w3 yR xF.row hLF;(with_reducible refine cX.mono ?_);rintro e w4 ⟨rfl,q4,hq4⟩;clear cX;have hb4:Below w3.heap.size w3 w4:=(by rw [hq4];exact Top.below_drewN (Below.refl _ _) _);clear hq4;have HY4:Hid (GW w4 B c g v1 p ts S { S with qL:=Que.backL S.now S.qL } k∧Below w1.heap.size w1 w4):=⟨HY3.out.1.below hb4,(zu HY3.out.2 hb4)⟩)
 refine hK.out _ _ (keep HY4.out.1.b) (fun hHeld=> ?_)
 clear hK K
 iterate 3
  refine Tk.gn ?_
 refine Tk.gm 31 ?_
 refine Tk.gm 32 ?_
 refine Tk.gm 33 ?_
 refine Tk.gm 34 ?_
 refine Tk.gm 35 ?_
 refine Tk.gm 36 ?_
 refine Tk.gm 37 ?_
 refine Tk.rn 30 fun K hK=> ?_
 go_simp
 go_wp2_with(go_at_call 51;have cX:=requests_any B c (noN p) ts S w4 HY4.out.1.a hLR;(with_reducible refine cX.mono ?_);rintro e w5 ⟨G5,rfl,_,hR5,hb5⟩;clear cX;have HY5:Hid (GW w5 B c g v1 p ts S { S with qL:=Que.backL S.now S.qL } k∧Below w1.heap.size w1 w5):=⟨HY4.out.1.below hb5,(zu HY4.out.2 hb5)⟩)
 refine hK.out _ _ (keep HY5.out.1.b) (fun hHeld=> ?_)
 clear hK K
 refine Tk.rn 38 fun K hK=> ?_
 go_simp
 go_wp2_with(go_at_call 50;have xH:Hal.HAt w5 B g.H v1.b S.R:=HY5.out.1.b.pa 5 (by decide);rw [HV.out.2]at xH;have cX:=Buf.equal_reqs _ _ S.R S.R.length capH w5 hR5 xH.row (by omega);(with_reducible refine cX.mono ?_);rintro e w6 ⟨rfl,q6,hq6⟩;clear cX;have hb6:Below w5.heap.size w5 w6:=(by rw [hq6];exact Top.below_drewN (Below.refl _ _) _);clear hq6;have HY6:Hid (GW w6 B c g v1 p ts S { S with qL:=Que.backL S.now S.qL } k∧Below w1.heap.size w1 w6):=⟨HY5.out.1.below hb6,(zu HY5.out.2 hb6)⟩)
 refine hK.out _ _ (keep HY6.out.1.b) (fun hHeld=> ?_)
 clear hK K
 iterate 3
  refine Tk.gn ?_
 refine Tk.gm 43 ?_
 refine Tk.gm 44 ?_
 refine Tk.gm 45 ?_
 refine Tk.gm 46 ?_
 refine Tk.rn 42 fun K hK=> ?_
 go_simp
 go_wp2_with(go_at_call 53;have cX:=lagsG B c (noN p) ts S h k w6 HY6.out.1.a HI.out hh;(with_reducible refine cX.mono ?_);rintro e w7 ⟨G7,rfl,_,hR7,hb7⟩;clear cX;have HY7:Hid (GW w7 B c g v1 p ts S { S with qL:=Que.backL S.now S.qL } k∧Below w1.heap.size w1 w7):=⟨HY6.out.1.below hb7,(zu HY6.out.2 hb7)⟩)
 refine hK.out _ _ (keep HY7.out.1.b) (fun hHeld=> ?_)
 clear hK K
 refine Tk.rn 47 fun K hK=> ?_
 go_simp
 go_wp2_with(go_at_call 54;have cX:=Top.bLags g.T g.P g.O S.n S.E S.O w7 (HY7.out.1.b.pa 2 (by decide)) HI.out.n.1 HI.out.n.2 (fun i hi=>by have:=HI.out.tb i hi;omega);(with_reducible refine cX.mono ?_);rintro e w8 ⟨G8,c8,rfl,_,hR8,hb8⟩;clear cX;have HY8:Hid (GW w8 B c g v1 p ts S { S with qL:=Que.backL S.now S.qL } k∧Below w1.heap.size w1 w8):=⟨HY7.out.1.below hb8,(zu HY7.out.2 hb8)⟩)
 refine hK.out _ _ (keep HY8.out.1.b) (fun hHeld=> ?_)
 clear hK K
 refine Tk.rn 48 fun K hK=> ?_
 go_simp
 go_wp2_with(go_at_call 52;have cX:=Top.equal_yes G7 G8 S.n S.n c8 _ _ w8 (hR7.below hb8 hR7.1) hR8 HI.out.n.2 (fun _ _=>rfl);(with_reducible refine cX.mono ?_);rintro e w9 ⟨rfl,q9,hq9⟩;clear cX;have hb9:Below w8.heap.size w8 w9:=(by rw [hq9];exact Top.below_drewN (Below.refl _ _) _);clear hq9;have HY9:Hid (GW w9 B c g v1 p ts S { S with qL:=Que.backL S.now S.qL } k∧Below w1.heap.size w1 w9):=⟨HY8.out.1.below hb9,(zu HY8.out.2 hb9)⟩)
 refine hK.out _ _ (keep HY9.out.1.b) (fun hHeld=> ?_)
 clear hK K
 iterate 3
  refine Tk.gn ?_
 refine Tk.gm 53 ?_
 refine Tk.rn 52 fun K hK=> ?_
 go_simp
 go_wp2_with(go_at_call 56;have cX:=messages_any B c (noN p) ts S h k w9 HY9.out.1.a HI.out;(with_reducible refine cX.mono ?_);rintro e w10 ⟨G10,rfl,_,hR10,t10⟩;clear cX;obtain⟨c2,hG2,d2,m2,hB2⟩:=HY9.out.1.left t10;have hRow:=row_m (HM.out.1.below HY9.out.2) m2 HM.out.2;have HZ:Hid (GW w10 B c2 g v1 p ts { S with qL:=Que.backL S.now S.qL } { S with qL:=Que.backL S.now S.qL } k∧c2.x.D=c.x.D∧Below B w9 w10∧Mm.Mv (bk c ts) (bk c2 ts) w9 w10):=⟨hG2,d2,hB2,m2⟩;clear hG2 d2 m2 hB2 t10)
 refine hK.out _ _ (keep HZ.out.1.b) (fun hHeld=> ?_)
 clear hK K
 refine Tk.rn 54 fun K hK=> ?_
 go_simp
 go_wp2_with(go_at_call 55;have cX:=Que.equal_msgs _ bo (Que.backL S.now S.qL) (Que.backL S.now S.qL).length cb w10 hR10 hRow hLM;(with_reducible refine cX.mono ?_);rintro e w11 ⟨rfl,q11,hq11⟩;clear cX;have hb11:Below w10.heap.size w10 w11:=(by rw [hq11];exact Top.below_drewN (Below.refl _ _) _);clear hq11;have hk11:=keep (HZ.out.1.b.below hb11))
 refine hK.out _ _ hk11 (fun hHeld=> ?_)
 clear hK K
 iterate 2
  refine Tk.gn ?_
 refine wpAnyH_done (by kernel_rfl) ?_ _
 go_wp2
 go_ret
 exact⟨rfl,c2,v1,⟨HZ.out.1.a.below hb11,HZ.out.1.b.below hb11,HZ.out.1.ap⟩,HZ.out.2.1,((HB1.out.1.trans (HY9.out.2.mono (Xc HX.out.b.base HB1.out.1.size))).trans HZ.out.2.2.1).trans (hb11.mono HZ.out.1.b.base),fun q j u h1 h2 h3=>Tk.kc (HZ.out.2.2.2.cell (Tk.kc (HB1.out.2.cell h1 h3) HY9.out.2) h2) hb11⟩
end
set_option linter.all false

theorem newE_nil {p:Pd} {ts:List Tr} {parts sec:Int} (h:newE p ts parts sec=0):chkP p ts=0∧(1≤parts∧parts≤20)∧(-10000000000≤sec∧sec≤10000000000):=by
 unfold newE at h;split at h
 ·rename_i e;exact absurd h e
 ·rename_i e;split at h
  ·rename_i g;exact⟨Decidable.of_not_not e,g⟩
  ·cases h
theorem wplays_bad (p:Pd) (ta ha:Option Addr) (tc m hcap:Nat) (ts:List Tr) (parts most sec:Int) (w:World) (hB:Lai.BdsAt w) (hi:PdI p) (hl:p.nm.length≤9223372036854775807) (hT:TrsAt w ta ts) (hU: ∀t∈ts,TrU t) (hc:newE p ts parts sec≠0):
  CB 3 #[planV p (.slice ta ts.length tc),.int .i64 parts,.int .i64 most,.int .i64 sec,.slice ha m hcap] w (.bool true):=by
 obtain⟨W0,hW0⟩: ∃W0,W0=w.alloc (.cells (planC p (.slice ta ts.length tc)) 26):=⟨_,rfl⟩
 have hpl:PlAt W0 w.heap.size p (.slice ta ts.length tc):=by rw [hW0];exact plan_new _ _ _ _
 have hb0:Below w.heap.size w W0:=by rw [hW0];exact(Below.refl _ _).alloc (Xa _) _
 have hz0:w.heap.size<W0.heap.size:=by rw [hW0];simp
 have HW0:=zh hW0;have HP0:Hid (PlAt W0 w.heap.size p (.slice ta ts.length tc)∧Below w.heap.size w W0∧w.heap.size<W0.heap.size∧TrsAt W0 ta ts∧Lai.BdsAt W0):=⟨hpl,hb0,hz0,hT.below hb0 (Xa _),hB.below hb0 (Xa _)⟩
 have cP:=fun w1 (hb:Below W0.heap.size W0 w1)=>rplan_any p ts ta tc w1 hl (HP0.out.2.2.2.1.below hb (Xa _)) hU;have cN:=new_no p ta tc ts parts most sec W0 HP0.out.2.2.2.2 hi hl HP0.out.2.2.2.1 hc;by_cases h1:chkP p ts=0
 ·have e1:newE p ts parts sec=1:=by
   unfold newE at hc⊢;rw [if_neg (by simpa using h1)]at hc⊢;split at hc
   ·exact absurd rfl hc
   ·rename_i h;rw [if_neg h]
  rw [e1]at cN;rw [h1]at cP;by_cases h2:1≤parts∧parts≤20
  ·have h3: ¬(-10000000000≤sec∧sec≤10000000000):=fun e=>hc (by unfold newE;rw [if_neg (by simpa using h1),if_pos ⟨h2,e⟩]);have cI:=fun w=>Que.rin_yes parts 1 20 w h2.1 h2.2;have cJ:=fun w=>Que.rin_no sec (-10000000000) 10000000000 w h3;clear h1 hc e1 h2 h3;clear hW0 hb0 hz0 hT hB;go_enter func3,ntmps3;go_upto_region 1 with fail
   rw [←HW0.out];clear HW0
   go_wp2_with (first
    |(with_reducible refine wp_plan hpl (by with_unfolding_all rfl) ?_)
    |(go_at_call 4;(with_reducible refine zg cN fun w1 hb1=>?_);have hpl1:=HP0.out.1.on hb1 HP0.out.2.2.1;have HB1:=zh hb1;have cP1:=cP w1 hb1;clear hb1)
    |(with_reducible refine wp_plan hpl1 (by with_unfolding_all rfl) ?_)
    |(go_at_call 5;(with_reducible refine zg cP1 fun w2 hb2=>?_);have HB2:Hid (Below W0.heap.size W0 w2):=(zu HB1.out hb2);clear hb2)
    |(go_at_call 6;(with_reducible refine zq (cI _) ?_))
    |(go_at_call 6;(with_reducible refine zq (cJ _) ?_)))
   go_ret;exact⟨by simp,HP0.out.2.1.trans (HB2.out.mono HP0.out.2.1.size)⟩
  ·have cI:=fun w=>Que.rin_no parts 1 20 w h2;clear h1 hc e1 h2;clear hW0 hb0 hz0 hT hB;go_enter func3,ntmps3;go_upto_region 1 with fail
   rw [←HW0.out];clear HW0
   go_wp2_with (first
    |(with_reducible refine wp_plan hpl (by with_unfolding_all rfl) ?_)
    |(go_at_call 4;(with_reducible refine zg cN fun w1 hb1=>?_);have hpl1:=HP0.out.1.on hb1 HP0.out.2.2.1;have HB1:=zh hb1;have cP1:=cP w1 hb1;clear hb1)
    |(with_reducible refine wp_plan hpl1 (by with_unfolding_all rfl) ?_)
    |(go_at_call 5;(with_reducible refine zg cP1 fun w2 hb2=>?_);have HB2:Hid (Below W0.heap.size W0 w2):=(zu HB1.out hb2);clear hb2)
    |(go_at_call 6;(with_reducible refine zq (cI _) ?_)))
   go_ret;exact⟨by simp,HP0.out.2.1.trans (HB2.out.mono HP0.out.2.1.size)⟩
 ·have e1:newE p ts parts sec=chkP p ts:=by unfold newE;rw [if_pos h1]
  have hn1:(chkP p ts !=0)=true:=by simp [h1]
  have hn2:(chkP p ts==0)=false:=by simp [h1]
  rw [e1]at cN;clear hc h1 e1;generalize chkP p ts=E at*;clear hW0 hb0 hz0 hT hB;go_enter func3,ntmps3;go_upto_region 1 with fail
  rw [←HW0.out];clear HW0
  go_wp2_with (first
   |(with_reducible refine wp_plan hpl (by with_unfolding_all rfl) ?_)
   |(go_at_call 4;(with_reducible refine zg cN fun w1 hb1=>?_);have hpl1:=HP0.out.1.on hb1 HP0.out.2.2.1;have HB1:=zh hb1;have cP1:=cP w1 hb1;clear hb1)
   |(with_reducible refine wp_plan hpl1 (by with_unfolding_all rfl) ?_)
   |(go_at_call 5;(with_reducible refine zg cP1 fun w2 hb2=>?_);have HB2:Hid (Below W0.heap.size W0 w2):=(zu HB1.out hb2);clear hb2))
  go_ret;exact⟨by simp,HP0.out.2.1.trans (HB2.out.mono HP0.out.2.1.size)⟩

def PWR (W0:World) (D:Nat) (g:Gc) (p:Pd) (ts:List Tr) (m:Nat) (i:Value) (wr:World):Prop:=
 ∃(j:Nat) (c:Pc) (v:Gv) (S:WS),j≤m∧i=.int .i64 j∧GW wr W0.heap.size c g v p ts S S (1000*j)∧c.x.D=D∧Below W0.heap.size W0 wr∧WI ts S j (1000*j)
theorem wplays_good (p:Pd) (ta ha:Option Addr) (tc m hcap:Nat) (ts:List Tr) (n:Nat) (most sec:Int) (X:Nat→Nat→Int) (w:World) (hB:Lai.BdsAt w) (hi:PdI p) (hl:p.nm.length≤9223372036854775807) (hT:TrsAt w ta ts) (hU: ∀t∈ts,TrU t) (hH:Frm.RowsIn w ha m 3 X) (hc:chkP p ts=0) (hn:1≤n∧n≤20) (hs: -10000000000≤sec∧sec≤10000000000):
  CB 3 #[planV p (.slice ta ts.length tc),.int .i64 (n:Int),.int .i64 most,.int .i64 sec,.slice ha m hcap] w (.bool true):=by
 obtain⟨W0,hW0⟩: ∃W0,W0=w.alloc (.cells (planC p (.slice ta ts.length tc)) 26):=⟨_,rfl⟩
 have hpl:PlAt W0 w.heap.size p (.slice ta ts.length tc):=by rw [hW0];exact plan_new _ _ _ _
 have hb0:Below w.heap.size w W0:=by rw [hW0];exact(Below.refl _ _).alloc (Xa _) _
 have hz0:w.heap.size<W0.heap.size:=by rw [hW0];simp
 have HW0:=zh hW0;have HP0:Hid (PlAt W0 w.heap.size p (.slice ta ts.length tc)∧Below w.heap.size w W0∧w.heap.size<W0.heap.size∧TrsAt W0 ta ts∧Lai.BdsAt W0):=⟨hpl,hb0,hz0,hT.below hb0 (Xa _),hB.below hb0 (Xa _)⟩
 have cP:=fun w1 (hb:Below W0.heap.size W0 w1)=>rplan_any p ts ta tc w1 hl (HP0.out.2.2.2.1.below hb (Xa _)) hU;have cN:=new_yes p ta tc ts n most sec W0 HP0.out.2.2.2.2 hi hl HP0.out.2.2.2.1 hc hn hs;have hP:=plOk_of hc;have hl5:=hP.len;have cI:=fun w=>Que.rin_yes (n:Int) 1 20 w (by omega) (by omega);have cJ:=fun w=>Que.rin_yes sec (-10000000000) 10000000000 w hs.1 hs.2;have HH:Hid (Frm.RowsIn W0 ha m 3 X):=hH.below hb0 (Xa _);have HN:Hid (WI ts (newW (noN p) ts n most sec) 0 0):=WI.new (noN p) ts n most sec hn hs;rw [hc]at cP;clear hW0 hb0 hz0 hT hB hH hc;go_enter func3,ntmps3;go_upto_region 1 with fail
 rw [←HW0.out];clear HW0
 go_upto_region 7 with (first
  |(with_reducible refine wp_plan hpl (by with_unfolding_all rfl) ?_)
  |(go_at_call 4;(with_reducible refine cN.mono ?_);rintro e w1 ⟨c,rfl,hA1,hb1⟩;have hpl1:=HP0.out.1.on hb1 HP0.out.2.2.1;have HB1:=zh hb1;have cP1:=cP w1 hb1;have HA1:=zh hA1;clear hb1 hA1)
  |(with_reducible refine wp_plan hpl1 (by with_unfolding_all rfl) ?_)
  |(go_at_call 5;(with_reducible refine zg cP1 fun w2 hb2=>?_);have HB2:=zh hb2;clear hb2)
  |(go_at_call 6;(with_reducible refine zq (cI _) ?_))
  |(go_at_call 6;(with_reducible refine zq (cJ _) ?_)))
 clear cN cP cP1 hpl hpl1 cI cJ;have HB02:Hid (Below W0.heap.size W0 w2):=(zu HB1.out HB2.out)
 by_cases h60:60<m
 ·have h60':(60:Int)<(m:Int):=by omega
  go_wp2;go_ret;exact⟨rfl,HP0.out.2.1.trans (HB02.out.mono HP0.out.2.1.size)⟩
 have h60': ¬(60:Int)<(m:Int):=by omega
 have hpl2:=HP0.out.1.on HB02.out HP0.out.2.2.1;have hA2:=HA1.out.below HB2.out
 have cG := gnew_any p ta tc ts n most sec W0.heap.size w2 hl5 (HP0.out.2.2.2.1.below HB02.out (Xa _)) hn HB02.out.size (fun hp b off e => by
  obtain⟨t,ht⟩: ∃t,ts[0]? =some t:=⟨ts[0],by simp⟩
  obtain⟨b',off',e',hlt,_⟩:=HP0.out.2.2.2.1 0 t ht;rw [e]at e';cases e';exact hlt) hA2.ba
 have HA2:=zh hA2;clear hA2
 go_upto_region 10 with (first
  |(with_reducible refine wp_plan hpl2 (by with_unfolding_all rfl) ?_)
  |(go_at_call 7;(with_reducible refine cG.mono ?_);rintro e w3 ⟨g,v,rfl,gA,_,gN,hb3⟩;clear cG;have H3:Hid (PWR W0 c.x.D g p ts m (.int .i64 ((0:Nat):Int)) w3):=⟨0,c,v,_,Xx _,rfl,⟨HA2.out.below hb3,gA,fun q hq hn=>absurd (HA2.out.low hq).2 (Nat.not_lt.2 (gN q hn))⟩,rfl,(zu HB02.out hb3),HN.out⟩;clear gA gN hb3))
 clear hpl2 HA2 HA1 HB1 HB2;go_wp2_with fail
 generalize c.x.D=D at*;go_loopw [62] (fun i wr=>PWR W0 D g p ts m i wr) (fun i _=>m-(intOf i).toNat)
 case atStart=>exact H3.out
 case round=>
  clear H3;obtain⟨j,c,v,S,hj,rfl,hG,rfl,hbr,hI⟩:=hrel;have HI:=zh hI;by_cases hlt:j<m
  ·have hlt':(j:Int)<(m:Int):=by omega
   obtain⟨gb,off,rfl,hgl,hcx⟩:=(Frm.RowsIn.below HH.out hbr (Xa _)) j hlt;have x0:=(hcx 0 (by omega)).1;have x1:=(hcx 1 (by omega)).1;have x2:=(hcx 2 (by omega)).1;simp only [XD]at x0;rw [←Nat.add_assoc]at x1 x2;obtain⟨V,hV⟩: ∃V,V=wr.alloc (.cells #[.int .i64 (X j 0),.int .i64 (X j 1),.int .i64 (X j 2)] 37):=⟨_,rfl⟩
   have hbV:Below wr.heap.size wr V:=by rw [hV];exact(Below.refl _ _).alloc (Xa _) _
   have y0:V.drew.cell? ⟨wr.heap.size,0,none⟩=some (.int .i64 (X j 0)):=by rw [hV];simp
   have y1:V.drew.cell? ⟨wr.heap.size,1,none⟩=some (.int .i64 (X j 1)):=by rw [hV];simp
   have y2:V.drew.cell? ⟨wr.heap.size,2,none⟩=some (.int .i64 (X j 2)):=by rw [hV];simp
   have HV:=zh hV;have hbd:=hbV.trans ((Mm.bdrew V).mono hbV.size);generalize hB:W0.heap.size=B at*;have HG:Hid (GW V.drew B c g v p ts S S (1000*j)∧ ¬bk c ts wr.heap.size∧ ¬gbk g v wr.heap.size):=⟨hG.below hbd,fun e=>absurd (hG.a.low e).2 (XL _),fun e=>absurd (hG.b.low e).2 (XL _)⟩
   have HBr:Hid (Below B W0 V.drew):=hbr.trans (hbd.mono hG.b.base);clear hG hbV hV hcx hI hbr hbd;go_upto_region 13 with fail
   rw [←HV.out];clear HV x0 x1 x2;generalize wr.heap.size=C at*;refine Tk.sb 13 (S:=fun w'=>w'.cell? ⟨C,0,none⟩=some (.int .i64 (X j 0))∧w'.cell? ⟨C,1,none⟩=some (.int .i64 (X j 1))∧w'.cell? ⟨C,2,none⟩=some (.int .i64 (X j 2))) ⟨y0,y1,y2⟩ (fun hHeld=> ?_);refine Tk.gm 0 ?_;refine Tk.gm 1 ?_;refine Tk.gm 3 ?_;refine Tk.gm 4 ?_;refine Tk.rn 2 fun K hK=> ?_;go_simp;go_wp2_with(go_at_call 8;have cX:=do_any B c (noN p) ts S j (1000*j) (X j 0) (X j 1) (X j 2) V.drew HG.out.1.a HI.out (by omega) (by omega) (ok_noN hP) hU;(with_reducible refine zg cX fun w4 t4=>?_);clear cX;obtain⟨c4,h4,d4,m4,b4⟩:=HG.out.1.left t4;have HG4:Hid (GW w4 B c4 g v p ts (doW (noN p) ts S (X j 0) (X j 1) (X j 2)) S (1000*j)∧c4.x.D=c.x.D∧Below B V.drew w4∧ ¬gbk g v C):=⟨h4,d4,b4,HG.out.2.2⟩;have z0:=m4.cell y0 HG.out.2.1;have z1:=m4.cell y1 HG.out.2.1;have z2:=m4.cell y2 HG.out.2.1;have hCn4: ¬bk c4 ts C:=m4.off (Xj V.drew _ y0) HG.out.2.1;clear h4 d4 m4 b4 t4)
   refine hK.out _ _ ⟨z0,z1,z2⟩ (fun hHeld=> ?_);clear hK K;refine Tk.rn 5 fun K hK=> ?_;go_simp;go_wp2_with(go_at_call 9;have cX:=gdo_any B g v p ts S j (1000*j) (X j 0) (X j 1) (X j 2) w4 HG4.out.1.b HI.out (by omega) (by omega) hP hU;(with_reducible refine zg cX fun w5 t5=>?_);clear cX;obtain⟨v5,h5,m5,b5⟩:=HG4.out.1.right t5;have HG5:Hid (GW w5 B c4 g v5 p ts (doW (noN p) ts S (X j 0) (X j 1) (X j 2)) (doW (noN p) ts S (X j 0) (X j 1) (X j 2)) (1000*(j+1))∧Below B w4 w5∧ ¬bk c4 ts C∧ ¬gbk g v5 C):=⟨h5,b5,hCn4,m5.off (Xj w4 _ z0) HG4.out.2.2.2⟩;have x0:=m5.cell z0 HG4.out.2.2.2;have x1:=m5.cell z1 HG4.out.2.2.2;have x2:=m5.cell z2 HG4.out.2.2.2;have cS:=same_any B c4 g v5 p ts (doW (noN p) ts S (X j 0) (X j 1) (X j 2)) (j+1) (1000*(j+1)) w5 HG5.out.1 (HI.out.do (ok_noN hP) _ _ _) (by omega) (by omega);rw [HG4.out.2.1]at cS;clear h5 m5 b5 t5)
   refine hK.out _ _ ⟨x0,x1,x2⟩ (fun hHeld=> ?_);clear hK K
   iterate 4
    refine Tk.gn ?_
   refine Tk.rn 10 fun K hK=> ?_;go_simp;go_wp2_with(go_at_call 10;(with_reducible refine cS.mono ?_);rintro e w6 ⟨rfl,c6,v6,h6,d6,b6,k6⟩;clear cS;have HG6:Hid (GW w6 B c6 g v6 p ts { (doW (noN p) ts S (X j 0) (X j 1) (X j 2))with qL:=Que.backL (doW (noN p) ts S (X j 0) (X j 1) (X j 2)).now (doW (noN p) ts S (X j 0) (X j 1) (X j 2)).qL } { (doW (noN p) ts S (X j 0) (X j 1) (X j 2))with qL:=Que.backL (doW (noN p) ts S (X j 0) (X j 1) (X j 2)).now (doW (noN p) ts S (X j 0) (X j 1) (X j 2)).qL } (1000*(j+1))∧c6.x.D=c.x.D∧Below B w5 w6):=⟨h6,d6,b6⟩;have s6:=And.intro (k6 C _ _ x0 HG5.out.2.2.1 HG5.out.2.2.2) (And.intro (k6 C _ _ x1 HG5.out.2.2.1 HG5.out.2.2.2) (k6 C _ _ x2 HG5.out.2.2.1 HG5.out.2.2.2));clear h6 d6 b6 k6)
   refine hK.out _ _ s6 (fun hHeld=> ?_);clear hK K
   iterate 2
    refine Tk.gn ?_
   refine wpAnyH_done (by kernel_rfl) ?_ _;go_wp2_with fail
   go_roundw
   case rel=>
    have hz:=HBr.out.size;have h2:=(HI.out.do (ok_noN hP) (X j 0) (X j 1) (X j 2))
    exact⟨j+1,c6,v6,_,hlt,rfl,by rw [hB];exact HG6.out.1,HG6.out.2.1,by rw [hB];exact((HBr.out.trans HG4.out.2.2.1).trans HG5.out.2.1).trans HG6.out.2.2,h2.que (h2.q.back _) h2.qb⟩
   case measure=>simp [intOf];omega
  ·obtain rfl:j=m:=by omega
   have cS:=same_any W0.heap.size c g v p ts S j (1000*j) wr hG hI (by omega) (by omega);have HB:=zh hbr;clear hG hI hbr;go_wp2_with(go_at_call 10;(with_reducible refine cS.mono ?_);rintro e w6 ⟨rfl,c6,v6,_,_,b6,_⟩;clear cS)
   go_ret;exact⟨rfl,HP0.out.2.1.trans ((HB.out.trans b6).mono HP0.out.2.1.size)⟩
