/- A plan told as a text does what the plan does. -/
import Derived.Test.YtddabkmppobcdaaGreatDoorPsAr
import Derived.Test.YtddabkmppobcdaaGreatDoorPsBackPlan
import Derived.Test.YtddabkmppobcdaaGreatDoorPsWldPlay
import Derived.Test.YtddabkmppobcdaaGreatDoorPsLopPlan
import Derived.Test.YtddabkmppobcdaaGreatDoorPsTak
set_option maxHeartbeats 32000000
set_option maxRecDepth 8000
namespace Go.Proofs.YtddabkmppobcdaaGreatDoor
namespace Wld
open Go.RowKit Plain Pln Frm Lpp Crn Lop

theorem bdrewT (w:World) (q:Nat):Below w.heap.size w (w.drewN q):=Top.below_drewN (Below.refl _ _) q
theorem pa_nil {rd:List UInt8→Option K} (hrd:RdOk rd) (w:World) (g:Gd w):Calls Tryz.prog 6 #[strV []] w fun e w'=>(∃p2 a2 n2 k2 n E,e=.returned (.tuple #[planV p2 (.slice a2 n2 k2),.int .i64 n,.int .i64 E]))∧Below w.heap.size w w':=by
 rcases text_ways hrd [] (by decide)with⟨n,E,_,_,_,h⟩|⟨p,ts,h,_⟩
 ·exact(h w g).mono fun e w' ⟨q,b⟩=>⟨⟨_,_,_,_,_,_,q⟩,b⟩
 ·exact(h w g).mono fun e w' ⟨⟨_,_,q,_⟩,b⟩=>⟨⟨_,_,_,_,_,_,q⟩,b⟩
section
variable (p : Pd) (ta : Option Addr) (tc : Nat) (ts : List Tr) (parts most sec : Int) (ao : Option Addr) (m cap : Nat) (X : Nat → Nat → Int) (w : World)
theorem tt_bad {rd:List UInt8→Option K} (hrd:RdOk rd) (hG:Gd w) (hT:TrsAt w ta ts) (hi:PdI p) (hl:p.nm.length≤9223372036854775807) (hc:chkP p ts≠0):
  Calls Tryz.prog 3 #[planV p (.slice ta ts.length tc),.int .i64 parts,.int .i64 most,.int .i64 sec,.slice ao m cap] w fun e w'=>e=.returned (.bool true)∧Below w.heap.size w w':=by
 obtain⟨W,hW⟩: ∃W,W=w.alloc (.cells (planC p (.slice ta ts.length tc)) 26):=⟨_,rfl⟩
 have hPl:PlAt W w.heap.size p (.slice ta ts.length tc):=by rw [hW];exact plan_new _ _ _ _
 have hbW:Below w.heap.size w W:=by rw [hW];exact(Below.refl _ _).alloc (Nat.le_refl _) _
 have hzW:w.heap.size<W.heap.size:=by rw [hW];simp
 have HW:Hid (W=w.alloc (.cells (planC p (.slice ta ts.length tc)) 26)):=hW
 have cW:=said_any W (hG.b.below hbW (Nat.le_refl _))
 have HB:Hid (Below w.heap.size w W):=hbW
 have HG:Hid (∀w',Below w.heap.size w w'→Gd w'∧TrsAt w' ta ts):=fun w' h=>⟨hG.below h,hT.below h (Nat.le_refl _)⟩
 have HN:Hid (∀w',Gd w'→TrsAt w' ta ts→Calls Tryz.prog 5 #[planV p (.slice ta ts.length tc)] w' fun e w''=>e=.returned (.tuple #[.string ⟨#[]⟩,.int .i64 (chkP p ts)])∧Below w'.heap.size w' w''):=fun w' g t=>print_bad' p ts ta tc w' g.b hi hl t _ rfl hc
 have HQ:Hid (∀w',Gd w'→Calls Tryz.prog 6 #[.string ⟨#[]⟩] w' fun e w''=>(∃p2 a2 n2 k2 n E,e=.returned (.tuple #[planV p2 (.slice a2 n2 k2),.int .i64 n,.int .i64 E]))∧Below w'.heap.size w' w''):=fun w' g=>pa_nil hrd w' g
 have dne:(chkP p ts !=0)=true:=by rw [bne_iff_ne];exact hc
 clear hW hbW hG hT hi hl hc
 generalize chkP p ts=E0 at*
 go_enter Tryz.func3,Tryz.ntmps3
 go_upto_region 1 with fail
 rw [←HW.out]
 clear HW
 go_wp2_with (first
  |(go_at_call 4;(with_reducible refine cW.mono ?_);rintro e w1 ⟨rfl,hb1⟩;clear cW;have hP1:=hPl.on hb1 hzW;have hz1:=Nat.lt_of_lt_of_le hzW hb1.size;have HB1:Hid (Below w.heap.size w w1):=HB.out.trans (hb1.mono HB.out.size);clear hPl hb1;have c2:=HN.out w1 (HG.out _ HB1.out).1 (HG.out _ HB1.out).2)
  |(with_reducible refine wp_plan hP1 (by with_unfolding_all rfl) ?_)
  |(go_at_call 5;(with_reducible refine c2.mono ?_);rintro e w2 ⟨rfl,hb2⟩;clear c2;have HB2:Hid (Below w.heap.size w w2):=HB1.out.trans (hb2.mono HB1.out.size);have c3:=HQ.out w2 (HG.out _ HB2.out).1)
  |(go_at_call 6;(with_reducible refine c3.mono ?_);rintro e w3 ⟨⟨p2,a2,n2,k2,n3,E3,rfl⟩,hb3⟩;clear c3;have HB3:Hid (Below w.heap.size w w3):=HB2.out.trans (hb3.mono HB2.out.size))
  |((with_reducible refine wp_newPx (w:=w3) (p':=p2) (v':=.slice a2 n2 k2) rfl (by with_unfolding_all rfl) (by with_unfolding_all rfl) ?_);intro w4 hX4 hb4;have HB4:Hid (Below w.heap.size w w4):=HB3.out.trans (hb4.mono HB3.out.size)))
 go_ret
 exact⟨rfl,HB4.out⟩
theorem tt_long (hG:Gd w) (hT:TrsAt w ta ts) (h1:Long1 p ts):
  Calls Tryz.prog 3 #[planV p (.slice ta ts.length tc),.int .i64 parts,.int .i64 most,.int .i64 sec,.slice ao m cap] w fun e w'=>e=.returned (.bool true)∧Below w.heap.size w w':=by
 obtain⟨T,_,_,c2,c3⟩:=h1
 obtain⟨W,hW⟩: ∃W,W=w.alloc (.cells (planC p (.slice ta ts.length tc)) 26):=⟨_,rfl⟩
 have hPl:PlAt W w.heap.size p (.slice ta ts.length tc):=by rw [hW];exact plan_new _ _ _ _
 have hbW:Below w.heap.size w W:=by rw [hW];exact(Below.refl _ _).alloc (Nat.le_refl _) _
 have hzW:w.heap.size<W.heap.size:=by rw [hW];simp
 have HW:Hid (W=w.alloc (.cells (planC p (.slice ta ts.length tc)) 26)):=hW
 have cW:=said_any W (hG.b.below hbW (Nat.le_refl _))
 have HB:Hid (Below w.heap.size w W):=hbW
 have HG:Hid (∀w',Below w.heap.size w w'→Gd w'∧TrsAt w' ta ts):=fun w' h=>⟨hG.below h,hT.below h (Nat.le_refl _)⟩
 unfold PrOk at c2;unfold PaBad at c3
 have HN:Hid (∀w',Gd w'→TrsAt w' ta ts→Calls Tryz.prog 5 #[planV p (.slice ta ts.length tc)] w' fun e w''=>e=.returned (.tuple #[strV T,.int .i64 0])∧Below w'.heap.size w' w''):=fun w' g t=>c2 ta tc w' g t
 have HQ:Hid (∀w',Gd w'→Calls Tryz.prog 6 #[strV T] w' fun e w''=>e=.returned (.tuple #[planV Pln.p0 (.slice none 0 0),.int .i64 0,.int .i64 2])∧Below w'.heap.size w' w''):=fun w' g=>c3 w' g
 clear hW hbW hG hT c2 c3
 go_enter Tryz.func3,Tryz.ntmps3
 go_upto_region 1 with fail
 rw [←HW.out]
 clear HW
 go_wp2_with (first
  |(go_at_call 4;(with_reducible refine cW.mono ?_);rintro e w1 ⟨rfl,hb1⟩;clear cW;have hP1:=hPl.on hb1 hzW;have hz1:=Nat.lt_of_lt_of_le hzW hb1.size;have HB1:Hid (Below w.heap.size w w1):=HB.out.trans (hb1.mono HB.out.size);clear hPl hb1;have c2:=HN.out w1 (HG.out _ HB1.out).1 (HG.out _ HB1.out).2)
  |(with_reducible refine wp_plan hP1 (by with_unfolding_all rfl) ?_)
  |(go_at_call 5;(with_reducible refine c2.mono ?_);rintro e w2 ⟨rfl,hb2⟩;clear c2;have HB2:Hid (Below w.heap.size w w2):=HB1.out.trans (hb2.mono HB1.out.size);have c3:=HQ.out w2 (HG.out _ HB2.out).1)
  |(go_at_call 6;(with_reducible refine c3.mono ?_);rintro e w3 ⟨rfl,hb3⟩;clear c3;have HB3:Hid (Below w.heap.size w w3):=HB2.out.trans (hb3.mono HB2.out.size))
  |((with_reducible refine wp_newPx (w:=w3) (p':=Pln.p0) (v':=.slice none 0 0) rfl (by with_unfolding_all rfl) (by with_unfolding_all rfl) ?_);intro w4 hX4 hb4;have HB4:Hid (Below w.heap.size w w4):=HB3.out.trans (hb4.mono HB3.out.size)))
 go_ret
 exact⟨rfl,HB4.out⟩
def PaR (p:Pd) (ts:List Tr) (parts most sec:Int) (X:Nat→Nat→Int) (m:Nat) (w:World) (e:Ending) (w':World):Prop:=(newE p ts parts sec=0∧m≤60→PyA p ts parts.toNat most sec X m w e w')∧(¬(newE p ts parts sec=0∧m≤60)→e=.returned (.pointer none))∧Below w.heap.size w w'
theorem py_any (hB:Lai.BdsAt w) (hi:PdI p) (hl:p.nm.length≤9223372036854775807) (hT:TrsAt w ta ts) (hU: ∀t∈ts,TrU t) (hH:Frm.RowsIn w ao m 3 X):
  Calls Tryz.prog 7 #[planV p (.slice ta ts.length tc),.int .i64 parts,.int .i64 most,.int .i64 sec,.slice ao m cap] w (PaR p ts parts most sec X m w):=by
 by_cases hc:newE p ts parts sec=0
 ·obtain⟨h1,h2,h3⟩:=newE_nul hc
  obtain⟨N,rfl⟩: ∃N:Nat,parts=(N:Int):=⟨parts.toNat,by omega⟩
  by_cases hm:m≤60
  ·exact(py_yes p ta tc ts most sec ao m cap X w N hB hi hl hT h1 hU (by omega) h3 hm hH).mono fun e w' h=>⟨fun _=>h,fun g=>absurd ⟨hc,hm⟩ g,h.choose_spec.choose_spec.2.2.2⟩
  ·exact(py_many p ta tc ts most sec ao m cap w N hB hi hl hT h1 (by omega) h3 (by omega)).mono fun e w' h=>⟨fun g=>absurd g.2 hm,fun _=>h.1,h.2⟩
 ·exact(py_no p ta tc ts parts most sec ao m cap w hB hi hl hT hc).mono fun e w' h=>⟨fun g=>absurd g.1 hc,fun _=>h.1,h.2⟩
theorem tt_ok (hG:Gd w) (hi:PdI p) (hl:p.nm.length≤9223372036854775807) (hT:TrsAt w ta ts) (hU: ∀t∈ts,TrU t) (hH:Frm.RowsIn w ao m 3 X) (h1:Short1 p ts):
  Calls Tryz.prog 3 #[planV p (.slice ta ts.length tc),.int .i64 parts,.int .i64 most,.int .i64 sec,.slice ao m cap] w fun e w'=>e=.returned (.bool true)∧Below w.heap.size w w':=by
 obtain⟨T,_,hl5,c2,c3⟩:=h1
 obtain⟨W,hW⟩: ∃W,W=w.alloc (.cells (planC p (.slice ta ts.length tc)) 26):=⟨_,rfl⟩
 have hPl:PlAt W w.heap.size p (.slice ta ts.length tc):=by rw [hW];exact plan_new _ _ _ _
 have hbW:Below w.heap.size w W:=by rw [hW];exact(Below.refl _ _).alloc (Nat.le_refl _) _
 have hzW:w.heap.size<W.heap.size:=by rw [hW];simp
 have HW:Hid (W=w.alloc (.cells (planC p (.slice ta ts.length tc)) 26)):=hW
 have cW:=said_any W (hG.b.below hbW (Nat.le_refl _))
 have HB:Hid (Below w.heap.size w W):=hbW
 have HG:Hid (∀w',Below w.heap.size w w'→Gd w'∧TrsAt w' ta ts):=fun w' h=>⟨hG.below h,hT.below h (Nat.le_refl _)⟩
 unfold PrOk at c2;unfold PaOk at c3
 have HN:Hid (∀w',Gd w'→TrsAt w' ta ts→Calls Tryz.prog 5 #[planV p (.slice ta ts.length tc)] w' fun e w''=>e=.returned (.tuple #[strV T,.int .i64 0])∧Below w'.heap.size w' w''):=fun w' g t=>c2 ta tc w' g t
 have HQ:Hid (∀w',Gd w'→Calls Tryz.prog 6 #[strV T] w' fun e w''=>(∃a cap,e=.returned (.tuple #[planV p (.slice a ts.length cap),.int .i64 0,.int .i64 0])∧TrsAt w'' a ts)∧Below w'.heap.size w' w''):=fun w' g=>c3 w' g
 have HH:Hid (Frm.RowsIn w ao m 3 X):=hH
 clear hW hbW hG hT c2 c3 hH
 go_enter Tryz.func3,Tryz.ntmps3
 go_upto_region 1 with fail
 rw [←HW.out]
 clear HW
 go_upto_region 7 with (first
  |(go_at_call 4;(with_reducible refine cW.mono ?_);rintro e w1 ⟨rfl,hb1⟩;clear cW;have hP1:=hPl.on hb1 hzW;have hz1:=Nat.lt_of_lt_of_le hzW hb1.size;have HB1:Hid (Below w.heap.size w w1):=HB.out.trans (hb1.mono HB.out.size);clear hPl hb1;have c2:=HN.out w1 (HG.out _ HB1.out).1 (HG.out _ HB1.out).2;have HP1:Hid (PlAt w1 w.heap.size p (.slice ta ts.length tc)∧w.heap.size<w1.heap.size):=⟨hP1,hz1⟩)
  |(with_reducible refine wp_plan hP1 (by with_unfolding_all rfl) ?_)
  |(go_at_call 5;(with_reducible refine c2.mono ?_);rintro e w2 ⟨rfl,hb2⟩;clear c2;have HB2:Hid (Below w.heap.size w w2):=HB1.out.trans (hb2.mono HB1.out.size);have HP2:Hid (PlAt w2 w.heap.size p (.slice ta ts.length tc)∧w.heap.size<w2.heap.size):=⟨HP1.out.1.on hb2 HP1.out.2,Nat.lt_of_lt_of_le HP1.out.2 hb2.size⟩;have c3:=HQ.out w2 (HG.out _ HB2.out).1)
  |(go_at_call 6;(with_reducible refine c3.mono ?_);rintro e w3 ⟨⟨a2,k2,rfl,hT3⟩,hb3⟩;have HP3:Hid (PlAt w3 w.heap.size p (.slice ta ts.length tc)∧w.heap.size<w3.heap.size∧TrsAt w3 a2 ts):=⟨HP2.out.1.on hb3 HP2.out.2,Nat.lt_of_lt_of_le HP2.out.2 hb3.size,hT3⟩;clear hT3;clear c3;have HB3:Hid (Below w.heap.size w w3):=HB2.out.trans (hb3.mono HB2.out.size))
  |((with_reducible refine wp_newPx (w:=w3) (p':=p) (v':=.slice a2 ts.length k2) rfl (by with_unfolding_all rfl) (by with_unfolding_all rfl) ?_);intro w4 hX4 hb4;have HB4:Hid (Below w.heap.size w w4):=HB3.out.trans (hb4.mono HB3.out.size)))
 have hP4:PlAt w4 w.heap.size p (.slice ta ts.length tc):=HP3.out.1.on hb4 HP3.out.2.1
 have hT4:TrsAt w4 a2 ts:=HP3.out.2.2.below hb4 (Nat.le_refl _)
 have hbd:Below w4.heap.size w4 w4.drew:=(Below.refl _ _).drew
 have HSt:Hid (∀X,Below w4.heap.size w4 X→X.rangeAt w.heap.size 0 [.string ⟨p.nm.toArray⟩,.int .i64 p.mn,.int .i64 p.mx,.int .i64 p.po,.int .i64 p.co,.int .i64 p.tl,.int .i64 p.bk,.int .i64 p.af,.int .i64 p.sh,.int .i64 p.uw,.int .i64 p.up,.int .i64 p.uc,.int .i64 p.ue,.int .i64 p.dw,.int .i64 p.dp,.int .i64 p.dc,.int .i64 p.de,.slice ta ts.length tc]∧X.rangeAt w3.heap.size 0 [.string ⟨p.nm.toArray⟩,.int .i64 p.mn,.int .i64 p.mx,.int .i64 p.po,.int .i64 p.co,.int .i64 p.tl,.int .i64 p.bk,.int .i64 p.af,.int .i64 p.sh,.int .i64 p.uw,.int .i64 p.up,.int .i64 p.uc,.int .i64 p.ue,.int .i64 p.dw,.int .i64 p.dp,.int .i64 p.dc,.int .i64 p.de,.slice a2 ts.length k2]):=fun X h=>⟨range_plan (hP4.on h (World.block_lt_of_cell? w4 _ hP4.c0)),range_plan (hX4.below h hX4.lt).plat⟩
 have HPY:Hid (∀a k w',Below w4.heap.size w4 w'→TrsAt w' a ts→Calls Tryz.prog 7 #[planV p (.slice a ts.length k),.int .i64 parts,.int .i64 most,.int .i64 sec,.slice ao m cap] w' (PaR p ts parts most sec X m w')):=fun a k w' hb hT=>by
  have hbw:=HB4.out.trans (hb.mono HB4.out.size)
  exact py_any p a k ts parts most sec ao m cap X w' (HG.out _ hbw).1.b hi hl hT hU (Frm.RowsIn.below HH.out hbw (Nat.le_refl _))
 have hTp:=(HG.out _ (HB4.out.trans (hbd.mono HB4.out.size))).2
 clear hP4 HP3 HP2 HP1 hb4 hb3 hb2 hP1 hz1 HB1 HB2 HB3 HN HQ HB hzW HH
 by_cases hok:newE p ts parts sec=0∧m≤60
 ·have HI:Hid (WI ts (playW (noN p) ts X (newW (noN p) ts parts.toNat most sec) m) m (1000*m)):=by
   obtain⟨h1,h2,h3⟩:=newE_nul hok.1
   exact WI.play (ok_noN (plOk_of h1)) (WI.new _ _ _ _ _ (by omega) h3) X m
  have HY:Hid (∀a k w',Below w4.heap.size w4 w'→TrsAt w' a ts→Calls Tryz.prog 7 #[planV p (.slice a ts.length k),.int .i64 parts,.int .i64 most,.int .i64 sec,.slice ao m cap] w' (fun e w''=> ∃B c,e=.returned (.pointer (some ⟨c.x.D,0,none⟩))∧w'.heap.size≤B∧WAt w'' B c (noN p) ts (playW (noN p) ts X (newW (noN p) ts parts.toNat most sec) m)∧Below w'.heap.size w' w'')):=fun a k w' hb hT=>(HPY.out a k w' hb hT).mono fun e w'' h=>h.1 hok
  generalize playW (noN p) ts X (newW (noN p) ts parts.toNat most sec) m=S0 at*
  have hm:m≤60:=hok.2
  clear HPY hok
  have c5:=HY.out ta tc w4.drew hbd hTp
  clear hTp
  refine wp_region_held_drew (S:=fun w'=>w'.rangeAt w.heap.size 0 [.string ⟨p.nm.toArray⟩,.int .i64 p.mn,.int .i64 p.mx,.int .i64 p.po,.int .i64 p.co,.int .i64 p.tl,.int .i64 p.bk,.int .i64 p.af,.int .i64 p.sh,.int .i64 p.uw,.int .i64 p.up,.int .i64 p.uc,.int .i64 p.ue,.int .i64 p.dw,.int .i64 p.dp,.int .i64 p.dc,.int .i64 p.de,.slice ta ts.length tc]∧w'.rangeAt w3.heap.size 0 [.string ⟨p.nm.toArray⟩,.int .i64 p.mn,.int .i64 p.mx,.int .i64 p.po,.int .i64 p.co,.int .i64 p.tl,.int .i64 p.bk,.int .i64 p.af,.int .i64 p.sh,.int .i64 p.uw,.int .i64 p.up,.int .i64 p.uc,.int .i64 p.ue,.int .i64 p.dw,.int .i64 p.dp,.int .i64 p.dc,.int .i64 p.de,.slice a2 ts.length k2]) (by kernel_rfl) (HSt.out _ hbd) (fun hHeld=> ?_)
  generalize w4.drew=Y at*
  refine Tk.gi 0 (v:=planV p (.slice ta ts.length tc)) ?_ (hy:=yieldsIf_load_mid (by rfl) 26 (.tmp 5) rfl w.heap.size 0 (by with_unfolding_all rfl) [.string ⟨p.nm.toArray⟩,.int .i64 p.mn,.int .i64 p.mx,.int .i64 p.po,.int .i64 p.co,.int .i64 p.tl,.int .i64 p.bk,.int .i64 p.af,.int .i64 p.sh,.int .i64 p.uw,.int .i64 p.up,.int .i64 p.uc,.int .i64 p.ue,.int .i64 p.dw,.int .i64 p.dp,.int .i64 p.dc,.int .i64 p.de,.slice ta ts.length tc] _ (fun w h=>h.1) Tryz.underlying26 rfl (by kernel_rfl))
  (try simp only [Act.put,ar,ag])
  refine Tk.gi 1 ?_
  (try simp only [Act.put,ar,ag])
  refine Tk.gi 2 ?_
  (try simp only [Act.put,ar,ag])
  refine Tk.gi 3 ?_
  (try simp only [Act.put,ar,ag])
  refine Tk.gi 4 ?_
  (try simp only [Act.put,ar,ag])
  refine Tk.gi 6 (v:=planV p (.slice a2 ts.length k2)) ?_ (hy:=yieldsIf_load_mid (by rfl) 26 (.tmp 13) rfl w3.heap.size 0 (by with_unfolding_all rfl) [.string ⟨p.nm.toArray⟩,.int .i64 p.mn,.int .i64 p.mx,.int .i64 p.po,.int .i64 p.co,.int .i64 p.tl,.int .i64 p.bk,.int .i64 p.af,.int .i64 p.sh,.int .i64 p.uw,.int .i64 p.up,.int .i64 p.uc,.int .i64 p.ue,.int .i64 p.dw,.int .i64 p.dp,.int .i64 p.dc,.int .i64 p.de,.slice a2 ts.length k2] _ (fun w h=>h.2) Tryz.underlying26 rfl (by kernel_rfl))
  (try simp only [Act.put,ar,ag])
  refine Tk.gi 7 ?_
  (try simp only [Act.put,ar,ag])
  refine Tk.gi 8 ?_
  (try simp only [Act.put,ar,ag])
  refine Tk.gi 9 ?_
  (try simp only [Act.put,ar,ag])
  refine Tk.gi 10 ?_
  (try simp only [Act.put,ar,ag])
  refine Tk.r1 5 fun K hK=> ?_
  go_simp
  go_wp2_with(go_at_call 7;(with_reducible refine c5.mono ?_);rintro e w5 ⟨B1,c1,rfl,hB1,hA5,hb5⟩;have HA5:Hid (WAt w5 B1 c1 (noN p) ts S0):=hA5;clear hA5;have hb45:Below w4.heap.size w4 w5:=hbd.trans (hb5.mono hbd.size);have c6:=HY.out a2 k2 w5 hb45 (hT4.below hb45 (Nat.le_refl _));clear c5)
  refine hK.out _ _ (HSt.out _ hb45) (fun hHeld=> ?_)
  clear hK K
  (try simp only [ar])
  refine Tk.r1 11 fun K hK=> ?_
  go_simp
  go_wp2_with(go_at_call 7;(with_reducible refine c6.mono ?_);rintro e w6 ⟨B2,c2,rfl,hB2,hA6,hb6⟩;have hb46:Below w4.heap.size w4 w6:=hb45.trans (hb6.mono hb45.size);clear c6)
  refine hK.out _ _ (HSt.out _ hb46) (fun hHeld=> ?_)
  clear hK K
  (try simp only [ar])
  refine Tk.gi 12 ?_
  (try simp only [Act.put,ar,ag])
  refine Tk.gi 13 ?_
  (try simp only [Act.put,ar,ag])
  refine wpAnyH_done (by kernel_rfl) ?_ _
  have HO6:Hid (WAt w6 B1 c1 (noN p) ts S0∧WAt w6 B2 c2 (noN p) ts S0∧Below w.heap.size w w6):=⟨HA5.out.below hb6,hA6,HB4.out.trans (hb46.mono HB4.out.size)⟩
  have hlF:S0.F.L.length≤1000000000:=by have:=HI.out.len;omega
  have hlR:S0.R.length≤200:=HI.out.r.len
  clear hA6 HA5 hb6 hb46 hb5 hb45 HSt hHeld hbd HY hT4 hX4
  generalize hD1:c1.x.D=D1 at*
  generalize hD2:c2.x.D=D2 at*
  go_wp2_with (first
   |(go_at_call 8;have cX:=target_any B1 c1 (noN p) ts S0 w6 HO6.out.1;rw [hD1]at cX;(with_reducible refine cX.mono ?_);rintro e w' ⟨rfl,h9⟩;have h8:=h9.symm;clear h9;subst h8;clear cX)
   |(go_at_call 8;have cX:=target_any B2 c2 (noN p) ts S0 w6 HO6.out.2.1;rw [hD2]at cX;(with_reducible refine cX.mono ?_);rintro e w' ⟨rfl,h9⟩;have h8:=h9.symm;clear h9;subst h8;clear cX)
   |(go_at_call 10;have cX:=pods_any B1 c1 (noN p) ts S0 w6 HO6.out.1 hlF;rw [hD1]at cX;(with_reducible refine cX.mono ?_);rintro e w7 ⟨rfl,hR7,hb7⟩;clear cX;have HO7:Hid (WAt w7 B1 c1 (noN p) ts S0∧WAt w7 B2 c2 (noN p) ts S0∧Below w.heap.size w w7):=⟨HO6.out.1.below hb7,HO6.out.2.1.below hb7,HO6.out.2.2.trans ((hb7).mono HO6.out.2.2.size)⟩)
   |(go_at_call 10;have cX:=pods_any B2 c2 (noN p) ts S0 w7 HO7.out.2.1 hlF;rw [hD2]at cX;(with_reducible refine cX.mono ?_);rintro e w8 ⟨rfl,hR8,hb8⟩;clear cX;have HO8:Hid (WAt w8 B1 c1 (noN p) ts S0∧WAt w8 B2 c2 (noN p) ts S0∧Below w.heap.size w w8):=⟨HO7.out.1.below hb8,HO7.out.2.1.below hb8,HO7.out.2.2.trans ((hb8).mono HO7.out.2.2.size)⟩)
   |(go_at_call 9;have cX:=Flt.equal_pods _ _ S0.F.L S0.F.L.length S0.F.L.length w8 (hR7.below hb8) hR8 hlF;(with_reducible refine cX.mono ?_);rintro e w9 ⟨rfl,q9,hq9⟩;clear cX;have hb9:Below w8.heap.size w8 w9:=(by rw [hq9];exact bdrewT _ _);have HO9:Hid (WAt w9 B1 c1 (noN p) ts S0∧WAt w9 B2 c2 (noN p) ts S0∧Below w.heap.size w w9):=⟨HO8.out.1.below hb9,HO8.out.2.1.below hb9,HO8.out.2.2.trans ((hb9).mono HO8.out.2.2.size)⟩;clear hq9 hR7 hR8)
   |(go_at_call 12;have cX:=requests_any B1 c1 (noN p) ts S0 w9 HO9.out.1 hlR;rw [hD1]at cX;(with_reducible refine cX.mono ?_);rintro e w10 ⟨G10,rfl,hG10,hR10,hb10⟩;clear cX;have HO10:Hid (WAt w10 B1 c1 (noN p) ts S0∧WAt w10 B2 c2 (noN p) ts S0∧Below w.heap.size w w10):=⟨HO9.out.1.below hb10,HO9.out.2.1.below hb10,HO9.out.2.2.trans ((hb10).mono HO9.out.2.2.size)⟩)
   |(go_at_call 12;have cX:=requests_any B2 c2 (noN p) ts S0 w10 HO10.out.2.1 hlR;rw [hD2]at cX;(with_reducible refine cX.mono ?_);rintro e w11 ⟨G11,rfl,hG11,hR11,hb11⟩;clear cX;have HO11:Hid (WAt w11 B1 c1 (noN p) ts S0∧WAt w11 B2 c2 (noN p) ts S0∧Below w.heap.size w w11):=⟨HO10.out.1.below hb11,HO10.out.2.1.below hb11,HO10.out.2.2.trans ((hb11).mono HO10.out.2.2.size)⟩)
   |(go_at_call 11;have cX:=Buf.equal_reqs _ _ S0.R S0.R.length S0.R.length w11 (hR10.below hb11) hR11 (by omega);(with_reducible refine cX.mono ?_);rintro e w12 ⟨rfl,q12,hq12⟩;clear cX))
  go_ret
  exact⟨rfl,HO11.out.2.2.trans ((bdrewT _ _).mono HO11.out.2.2.size)⟩
 ·have HY:Hid (∀a k w',Below w4.heap.size w4 w'→TrsAt w' a ts→Calls Tryz.prog 7 #[planV p (.slice a ts.length k),.int .i64 parts,.int .i64 most,.int .i64 sec,.slice ao m cap] w' (fun e w''=>e=.returned (.pointer none)∧Below w'.heap.size w' w'')):=fun a k w' hb hT=>(HPY.out a k w' hb hT).mono fun e w'' h=>⟨h.2.1 hok,h.2.2⟩
  clear HPY hok
  have c5:=HY.out ta tc w4.drew hbd hTp
  clear hTp
  refine wp_region_held_drew (S:=fun w'=>w'.rangeAt w.heap.size 0 [.string ⟨p.nm.toArray⟩,.int .i64 p.mn,.int .i64 p.mx,.int .i64 p.po,.int .i64 p.co,.int .i64 p.tl,.int .i64 p.bk,.int .i64 p.af,.int .i64 p.sh,.int .i64 p.uw,.int .i64 p.up,.int .i64 p.uc,.int .i64 p.ue,.int .i64 p.dw,.int .i64 p.dp,.int .i64 p.dc,.int .i64 p.de,.slice ta ts.length tc]∧w'.rangeAt w3.heap.size 0 [.string ⟨p.nm.toArray⟩,.int .i64 p.mn,.int .i64 p.mx,.int .i64 p.po,.int .i64 p.co,.int .i64 p.tl,.int .i64 p.bk,.int .i64 p.af,.int .i64 p.sh,.int .i64 p.uw,.int .i64 p.up,.int .i64 p.uc,.int .i64 p.ue,.int .i64 p.dw,.int .i64 p.dp,.int .i64 p.dc,.int .i64 p.de,.slice a2 ts.length k2]) (by kernel_rfl) (HSt.out _ hbd) (fun hHeld=> ?_)
  generalize w4.drew=Y at*
  refine Tk.gi 0 (v:=planV p (.slice ta ts.length tc)) ?_ (hy:=yieldsIf_load_mid (by rfl) 26 (.tmp 5) rfl w.heap.size 0 (by with_unfolding_all rfl) [.string ⟨p.nm.toArray⟩,.int .i64 p.mn,.int .i64 p.mx,.int .i64 p.po,.int .i64 p.co,.int .i64 p.tl,.int .i64 p.bk,.int .i64 p.af,.int .i64 p.sh,.int .i64 p.uw,.int .i64 p.up,.int .i64 p.uc,.int .i64 p.ue,.int .i64 p.dw,.int .i64 p.dp,.int .i64 p.dc,.int .i64 p.de,.slice ta ts.length tc] _ (fun w h=>h.1) Tryz.underlying26 rfl (by kernel_rfl))
  (try simp only [Act.put,ar,ag])
  refine Tk.gi 1 ?_
  (try simp only [Act.put,ar,ag])
  refine Tk.gi 2 ?_
  (try simp only [Act.put,ar,ag])
  refine Tk.gi 3 ?_
  (try simp only [Act.put,ar,ag])
  refine Tk.gi 4 ?_
  (try simp only [Act.put,ar,ag])
  refine Tk.gi 6 (v:=planV p (.slice a2 ts.length k2)) ?_ (hy:=yieldsIf_load_mid (by rfl) 26 (.tmp 13) rfl w3.heap.size 0 (by with_unfolding_all rfl) [.string ⟨p.nm.toArray⟩,.int .i64 p.mn,.int .i64 p.mx,.int .i64 p.po,.int .i64 p.co,.int .i64 p.tl,.int .i64 p.bk,.int .i64 p.af,.int .i64 p.sh,.int .i64 p.uw,.int .i64 p.up,.int .i64 p.uc,.int .i64 p.ue,.int .i64 p.dw,.int .i64 p.dp,.int .i64 p.dc,.int .i64 p.de,.slice a2 ts.length k2] _ (fun w h=>h.2) Tryz.underlying26 rfl (by kernel_rfl))
  (try simp only [Act.put,ar,ag])
  refine Tk.gi 7 ?_
  (try simp only [Act.put,ar,ag])
  refine Tk.gi 8 ?_
  (try simp only [Act.put,ar,ag])
  refine Tk.gi 9 ?_
  (try simp only [Act.put,ar,ag])
  refine Tk.gi 10 ?_
  (try simp only [Act.put,ar,ag])
  refine Tk.r1 5 fun K hK=> ?_
  go_simp
  go_wp2_with(go_at_call 7;(with_reducible refine c5.mono ?_);rintro e w5 ⟨rfl,hb5⟩;have hb45:Below w4.heap.size w4 w5:=hbd.trans (hb5.mono hbd.size);have c6:=HY.out a2 k2 w5 hb45 (hT4.below hb45 (Nat.le_refl _));clear c5)
  refine hK.out _ _ (HSt.out _ hb45) (fun hHeld=> ?_)
  clear hK K
  (try simp only [ar])
  refine Tk.r1 11 fun K hK=> ?_
  go_simp
  go_wp2_with(go_at_call 7;(with_reducible refine c6.mono ?_);rintro e w6 ⟨rfl,hb6⟩;have hb46:Below w4.heap.size w4 w6:=hb45.trans (hb6.mono hb45.size);clear c6)
  refine hK.out _ _ (HSt.out _ hb46) (fun hHeld=> ?_)
  clear hK K
  (try simp only [ar])
  refine Tk.gi 12 ?_
  (try simp only [Act.put,ar,ag])
  refine Tk.gi 13 ?_
  (try simp only [Act.put,ar,ag])
  refine wpAnyH_done (by kernel_rfl) ?_ _
  go_wp2
  go_ret
  exact⟨rfl,HB4.out.trans (hb46.mono HB4.out.size)⟩
theorem topTexts_any (hG:Gd w) (hi:PdI p) (hl:p.nm.length≤9223372036854775807) (hT:TrsAt w ta ts) (hU: ∀t∈ts,TrU t) (hH:Frm.RowsIn w ao m 3 X):
  Calls Tryz.prog 3 #[planV p (.slice ta ts.length tc),.int .i64 parts,.int .i64 most,.int .i64 sec,.slice ao m cap] w fun e w'=>e=.returned (.bool true)∧Below w.heap.size w w':=by
 obtain⟨rd,hrd⟩:=rd_exists
 by_cases hc:chkP p ts=0
 ·rcases plan_ways hrd p ts hi hU hc with h|h
  ·exact tt_long p ta tc ts parts most sec ao m cap w hG hT h
  ·exact tt_ok p ta tc ts parts most sec ao m cap X w hG hi hl hT hU hH h
 ·exact tt_bad p ta tc ts parts most sec ao m cap w hrd hG hT hi hl hc
end
end Wld
end Go.Proofs.YtddabkmppobcdaaGreatDoor
