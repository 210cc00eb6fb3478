/- Some happenings, one behind the other. A world with some happenings: tidetop.played. The clock of a world behind a happening. Two worlds side by side; messages; ticks one by one. What stands at the head of the laws of the whole: some, tick, said. -/
import Derived.Test.YtddabkmppobcdaaGreatDoorPsWldHand
import Derived.Test.YtddabkmppobcdaaGreatDoorPsLopPlan
import Derived.Test.YtddabkmppobcdaaGreatDoorPsFrame
import Derived.Test.YtddabkmppobcdaaGreatDoorPsFltWalks
import Derived.Test.YtddabkmppobcdaaGreatDoorPsTak
import Derived.BigQuiet
import Derived.Deep.RegionHeld
set_option maxHeartbeats 32000000
set_option maxRecDepth 8000
namespace Go.Proofs.YtddabkmppobcdaaGreatDoor
namespace Wld
open Go.RowKit Plain Pln Frm Lpp Crn Lop

noncomputable def playW (p:Pd) (ts:List Tr) (X:Nat→Nat→Int) (S:WS):Nat→WS
 |0=>S
 |j+1=>doW p ts (playW p ts X S j) (X j 0) (X j 1) (X j 2)
theorem WI.play {p:Pd} {ts:List Tr} {S:WS} (hP:PlOk p ts) (g:WI ts S 0 0) (X:Nat→Nat→Int): ∀j,WI ts (playW p ts X S j) j (1000*j)
 |0=>g
 |j+1=>(WI.play hP g X j).do hP _ _ _
end Wld
namespace Wld
open Go.RowKit Plain Pln Frm Lpp Crn Lop

theorem newE_nul {p:Pd} {ts:List Tr} {parts sec:Int} (h:newE p ts parts sec=0):chkP p ts=0∧(1≤parts∧parts≤20)∧(-10000000000≤sec∧sec≤10000000000):=by
 unfold newE at h
 split at h
 ·rename_i e;exact absurd h e
 ·rename_i e
  split at h
  ·rename_i g;exact⟨Decidable.of_not_not e,g⟩
  ·cases h
def PyR (w:World) (B D:Nat) (p:Pd) (ts:List Tr) (S:WS) (X:Nat→Nat→Int) (m:Nat) (i:Value) (wr:World):Prop:=
 ∃(j:Nat) (c:Pc),j≤m∧i=.int .i64 j∧WAt wr B c p ts (playW p ts X S j)∧c.x.D=D∧Below w.heap.size w wr
def PyA (p:Pd) (ts:List Tr) (N:Nat) (most sec:Int) (X:Nat→Nat→Int) (m:Nat) (w:World) (e:Ending) (w':World):Prop:=
 ∃B c,e=.returned (.pointer (some ⟨c.x.D,0,none⟩))∧w.heap.size≤B∧WAt w' B c (noN p) ts (playW (noN p) ts X (newW (noN p) ts N most sec) m)∧Below w.heap.size w w'
section
variable (p : Pd) (ta : Option Addr) (tc : Nat) (ts : List Tr) (parts most sec : Int) (ao : Option Addr) (m cap : Nat) (X : Nat → Nat → Int) (w : World)
theorem py_no (hB:Lai.BdsAt w) (hi:PdI p) (hl:p.nm.length≤9223372036854775807) (hT:TrsAt w ta ts) (hc:newE p ts parts sec≠0):
  Calls Tryz.prog 7 #[planV p (.slice ta ts.length tc),.int .i64 parts,.int .i64 most,.int .i64 sec,.slice ao m cap] w fun e w'=>e=.returned (.pointer none)∧Below w.heap.size w w':=by
 obtain⟨W,hW⟩: ∃W,W=w.alloc (.cells (planC p (.slice ta ts.length tc)) 26):=⟨_,rfl⟩
 have hPl:PlAt W w.heap.size p (.slice ta ts.length tc):=by rw [hW];exact plan_new _ _ _ _
 have hbW:Below w.heap.size w W:=by rw [hW];exact(Below.refl _ _).alloc (Nat.le_refl _) _
 have HW:Hid (W=w.alloc (.cells (planC p (.slice ta ts.length tc)) 26)):=hW
 have HB:Hid (Below w.heap.size w W):=hbW
 have HN:Hid (∀w',Below w.heap.size w w'→Calls Tryz.prog 13 #[planV p (.slice ta ts.length tc),.int .i64 parts,.int .i64 most,.int .i64 sec] w' fun e w''=>e=.returned (.tuple #[.pointer none,.int .i64 (newE p ts parts sec)])∧Below w'.heap.size w' w''):=fun w' hb=>new_no p ta tc ts parts most sec w' (hB.below hb (Nat.le_refl _)) hi hl (hT.below hb (Nat.le_refl _)) hc
 have dne:(newE p ts parts sec !=0)=true:=by rw [bne_iff_ne];exact hc
 clear hW hbW hB hi hl hT hc
 generalize newE p ts parts sec=E at*
 go_enter Tryz.func7,Tryz.ntmps7
 go_upto_region 1 with fail
 rw [←HW.out]
 clear HW
 go_wp2_with (first
  |(with_reducible refine wp_plan hPl (by with_unfolding_all rfl) ?_)
  |(go_at_call 13;have cN:=HN.out W HB.out;(with_reducible refine cN.mono ?_);rintro e w2 ⟨rfl,hb2⟩;clear cN))
 go_ret
 exact⟨rfl,HB.out.trans (hb2.mono HB.out.size)⟩
theorem py_many (N:Nat) (hB:Lai.BdsAt w) (hi:PdI p) (hl:p.nm.length≤9223372036854775807) (hT:TrsAt w ta ts) (hc:chkP p ts=0) (hn:1≤N∧N≤20) (hs: -10000000000≤sec∧sec≤10000000000) (hm:60<m):
  Calls Tryz.prog 7 #[planV p (.slice ta ts.length tc),.int .i64 (N:Int),.int .i64 most,.int .i64 sec,.slice ao m cap] w fun e w'=>e=.returned (.pointer none)∧Below w.heap.size w w':=by
 obtain⟨W,hW⟩: ∃W,W=w.alloc (.cells (planC p (.slice ta ts.length tc)) 26):=⟨_,rfl⟩
 have hPl:PlAt W w.heap.size p (.slice ta ts.length tc):=by rw [hW];exact plan_new _ _ _ _
 have hbW:Below w.heap.size w W:=by rw [hW];exact(Below.refl _ _).alloc (Nat.le_refl _) _
 have HW:Hid (W=w.alloc (.cells (planC p (.slice ta ts.length tc)) 26)):=hW
 have HB:Hid (Below w.heap.size w W):=hbW
 have HN:Hid (∀w',Below w.heap.size w w'→Calls Tryz.prog 13 #[planV p (.slice ta ts.length tc),.int .i64 (N:Int),.int .i64 most,.int .i64 sec] w' (NewWA p ts N most sec w')):=fun w' hb=>new_yes p ta tc ts N most sec w' (hB.below hb (Nat.le_refl _)) hi hl (hT.below hb (Nat.le_refl _)) hc hn hs
 have hm':(60:Int)<(m:Int):=by omega
 clear hW hbW hB hi hl hT hc
 go_enter Tryz.func7,Tryz.ntmps7
 go_upto_region 1 with fail
 rw [←HW.out]
 clear HW
 go_wp2_with (first
  |(with_reducible refine wp_plan hPl (by with_unfolding_all rfl) ?_)
  |(go_at_call 13;have cN:=HN.out W HB.out;(with_reducible refine cN.mono ?_);rintro e w2 ⟨c,rfl,hA2,hb2⟩;clear cN;have HX2:Hid (WAt w2 W.heap.size c (noN p) ts (newW (noN p) ts N most sec)∧Below w.heap.size w w2):=⟨hA2,HB.out.trans (hb2.mono HB.out.size)⟩;clear hA2 hb2))
 go_ret
 exact⟨rfl,HX2.out.2⟩
theorem py_yes (N:Nat) (hB:Lai.BdsAt w) (hi:PdI p) (hl:p.nm.length≤9223372036854775807) (hT:TrsAt w ta ts) (hc:chkP p ts=0) (hU: ∀t∈ts,TrU t) (hn:1≤N∧N≤20) (hs: -10000000000≤sec∧sec≤10000000000) (hm:m≤60) (hH:Frm.RowsIn w ao m 3 X):
  Calls Tryz.prog 7 #[planV p (.slice ta ts.length tc),.int .i64 (N:Int),.int .i64 most,.int .i64 sec,.slice ao m cap] w (PyA p ts N most sec X m w):=by
 obtain⟨W,hW⟩: ∃W,W=w.alloc (.cells (planC p (.slice ta ts.length tc)) 26):=⟨_,rfl⟩
 have hPl:PlAt W w.heap.size p (.slice ta ts.length tc):=by rw [hW];exact plan_new _ _ _ _
 have hbW:Below w.heap.size w W:=by rw [hW];exact(Below.refl _ _).alloc (Nat.le_refl _) _
 have HW:Hid (W=w.alloc (.cells (planC p (.slice ta ts.length tc)) 26)):=hW
 have HB:Hid (Below w.heap.size w W):=hbW
 have HN:Hid (∀w',Below w.heap.size w w'→Calls Tryz.prog 13 #[planV p (.slice ta ts.length tc),.int .i64 (N:Int),.int .i64 most,.int .i64 sec] w' (NewWA p ts N most sec w')):=fun w' hb=>new_yes p ta tc ts N most sec w' (hB.below hb (Nat.le_refl _)) hi hl (hT.below hb (Nat.le_refl _)) hc hn hs
 have hm': ¬(60:Int)<(m:Int):=by omega
 have hP:=ok_noN (plOk_of hc)
 have hI0:WI ts (newW (noN p) ts N most sec) 0 0:=WI.new _ _ _ _ _ hn hs
 have HH:Hid (Frm.RowsIn w ao m 3 X):=hH
 clear hW hbW hB hi hl hT hc hH
 go_enter Tryz.func7,Tryz.ntmps7
 go_upto_region 1 with fail
 rw [←HW.out]
 clear HW
 go_wp2_with (first
  |(with_reducible refine wp_plan hPl (by with_unfolding_all rfl) ?_)
  |(go_at_call 13;have cN:=HN.out W HB.out;(with_reducible refine cN.mono ?_);rintro e w2 ⟨c,rfl,hA2,hb2⟩;clear cN;have HX2:Hid (WAt w2 W.heap.size c (noN p) ts (newW (noN p) ts N most sec)∧Below w.heap.size w w2):=⟨hA2,HB.out.trans (hb2.mono HB.out.size)⟩;clear hA2 hb2))
 have HL:Hid (w.heap.size≤W.heap.size):=HB.out.size
 have HF:Hid (∀B c wr,w.heap.size≤B→WAt wr B c (noN p) ts (playW (noN p) ts X (newW (noN p) ts N most sec) m)→Below w.heap.size w wr→PyA p ts N most sec X m w (.returned (.pointer (some ⟨c.x.D,0,none⟩))) wr):=fun B c wr h1 h2 h3=>⟨B,c,rfl,h1,h2,h3⟩
 clear HN hPl HB
 generalize newW (noN p) ts N most sec=S0 at*
 generalize hD:c.x.D=D at*
 go_loopw [32] (fun i wr=>PyR w W.heap.size D (noN p) ts S0 X m i wr) (fun i _=>m-(intOf i).toNat)
 case atStart=>exact⟨0,c,by omega,rfl,HX2.out.1,hD,HX2.out.2⟩
 case round=>
  clear hD HX2 c
  obtain⟨j,c1,hj,rfl,hA,hD1,hbr⟩:=hrel
  by_cases hlt:j<m
  ·have hlt':(j:Int)<(m:Int):=by omega
   obtain⟨g,off,rfl,hgl,hcx⟩:=(Frm.RowsIn.below HH.out hbr (Nat.le_refl _)) j hlt
   have x0:=(hcx 0 (by omega)).1
   have x1:=(hcx 1 (by omega)).1
   have x2:=(hcx 2 (by omega)).1
   simp only [Nat.add_zero]at x0
   rw [←Nat.add_assoc]at x1 x2
   obtain⟨V,hV⟩: ∃V,V=wr.alloc (.cells #[.int .i64 (X j 0),.int .i64 (X j 1),.int .i64 (X j 2)] 53):=⟨_,rfl⟩
   have hbV:Below wr.heap.size wr V:=by rw [hV];exact(Below.refl _ _).alloc (Nat.le_refl _) _
   have y0:V.cell? ⟨wr.heap.size,0,none⟩=some (.int .i64 (X j 0)):=by rw [hV];simp
   have y1:V.cell? ⟨wr.heap.size,1,none⟩=some (.int .i64 (X j 1)):=by rw [hV];simp
   have y2:V.cell? ⟨wr.heap.size,2,none⟩=some (.int .i64 (X j 2)):=by rw [hV];simp
   have HV:Hid (V=wr.alloc (.cells #[.int .i64 (X j 0),.int .i64 (X j 1),.int .i64 (X j 2)] 53)):=hV
   have HX1:Hid (WAt V W.heap.size c1 (noN p) ts (playW (noN p) ts X S0 j)∧Below w.heap.size w V):=⟨hA.below hbV,hbr.trans (hbV.mono hbr.size)⟩
   have cD:=do_any W.heap.size c1 (noN p) ts (playW (noN p) ts X S0 j) j (1000*j) (X j 0) (X j 1) (X j 2) V HX1.out.1 (WI.play hP hI0 X j) (by omega) (by omega) hP hU
   rw [hD1]at cD
   clear hA hbr hbV hV hcx
   go_upto_region 7 with fail
   rw [←HV.out]
   clear HV x0 x1 x2
   generalize wr.heap.size=C at*
   go_wp2_with(go_at_call 15;(with_reducible refine cD.mono ?_);rintro e w4 ⟨rfl,c4,a4,d4,m4⟩;clear cD;have HX4:Hid (WAt w4 W.heap.size c4 (noN p) ts (playW (noN p) ts X S0 (j+1))∧c4.x.D=D∧Below w.heap.size w w4):=⟨a4,d4.trans hD1,HX1.out.2.trans (m4.below (fun k hk=>Nat.le_trans HL.out (HX1.out.1.low hk).1) HX1.out.2.size)⟩;clear a4 d4 m4)
   go_roundw
   case rel=>exact⟨j+1,c4,hlt,rfl,HX4.out.1,HX4.out.2.1,HX4.out.2.2⟩
   case measure=>simp [intOf];omega
  ·obtain rfl:j=m:=by omega
   have HG:Hid (PyA p ts N most sec X j w (.returned (.pointer (some ⟨D,0,none⟩))) wr):=by
    have h9:=HF.out W.heap.size c1 wr HL.out hA hbr
    rw [hD1]at h9
    exact h9
   go_wp2
   go_ret
   exact HG.out
end
end Wld
namespace Wld
open Go.RowKit Plain Pln Frm Lpp Crn Lop

end Wld
namespace Wld
open Go.RowKit Plain Pln Frm Lpp Crn Lop

structure W2 (w:World) (B1 B2:Nat) (c1 c2:Pc) (p:Pd) (ts:List Tr) (S1 S2:WS):Prop where
 a:WAt w B1 c1 p ts S1
 b:WAt w B2 c2 p ts S2
 ap: ∀k,bk c1 ts k→ ¬bk c2 ts k
 le:B1≤B2
section
variable {w w' : World} {B B1 B2 : Nat} {c1 c2 : Pc} {p : Pd} {ts : List Tr} {S S1 S2 S' : WS} {h k : Nat}
theorem Bas.up {B B':Nat} {w:World} (h:Bas B w) (hB:B≤B'):Bas B' w:=by
 obtain⟨w0,a,b,d⟩:=h
 exact⟨w0,a,Nat.le_trans b hB,d⟩
theorem W2.below (h:W2 w B1 B2 c1 c2 p ts S1 S2) (g:Below w.heap.size w w'):W2 w' B1 B2 c1 c2 p ts S1 S2:=⟨h.a.below g,h.b.below g,h.ap,h.le⟩
theorem W2.left (h:W2 w B1 B2 c1 c2 p ts S1 S2) (t:Wst B1 c1 p ts S' w w'): ∃c1',W2 w' B1 B2 c1' c2 p ts S' S2∧c1'.x.D=c1.x.D∧Mm.Mv (bk c1 ts) (bk c1' ts) w w':=by
 obtain⟨c',a,d,m⟩:=t
 refine⟨c',⟨a,h.b.kept (fun k hk=>m.block k (h.b.low hk).2 (fun e=>h.ap k e hk)) m.size (a.ba.up h.le),fun k hk hn=> ?_,h.le⟩,d,m⟩
 rcases m.loc k hk with x|x
 ·exact h.ap k x hn
 ·have:=(h.b.low hn).2;omega
theorem W2.right (h:W2 w B1 B2 c1 c2 p ts S1 S2) (t:Wst B2 c2 p ts S' w w'): ∃c2',W2 w' B1 B2 c1 c2' p ts S1 S'∧c2'.x.D=c2.x.D∧Mm.Mv (bk c2 ts) (bk c2' ts) w w':=by
 obtain⟨c',b,d,m⟩:=t
 refine⟨c',⟨h.a.kept (fun k hk=>m.block k (h.a.low hk).2 (fun e=>h.ap k hk e)) m.size (h.a.ba.mv (fun k hk=>Nat.le_trans h.le (h.b.low hk).1) m),b,fun k hk hn=> ?_,h.le⟩,d,m⟩
 rcases m.loc k hn with x|x
 ·exact h.ap k hk x
 ·have:=(h.a.low hk).2;omega
theorem W2.new (ha:WAt w B1 c1 p ts S1) (hb:Below w.heap.size w w') (h2:WAt w' w.heap.size c2 p ts S2):W2 w' B1 w.heap.size c1 c2 p ts S1 S2:=by
 have hl:B1≤w.heap.size:=Nat.le_of_lt (Nat.lt_of_le_of_lt ha.bD ha.lt)
 refine⟨ha.below hb,h2,fun k hk hn=> ?_,hl⟩
 have:=(ha.low hk).2
 have:=(h2.low hn).1
 omega
end
section
variable (B : Nat) (c : Pc) (p : Pd) (ts : List Tr) (S : WS) (h k : Nat)
end
end Wld
namespace Wld
open Go.RowKit Plain Pln Frm Lpp Crn Lop

theorem r0_chk:chkP Lop.p0 [Lop.t0]=0:=by kernel_rfl
theorem r0_I:PdI Lop.p0:=by constructor<;>simp [I,Lop.p0]
theorem r0_ok:PlOk (noN Lop.p0) [Lop.t0]:=ok_noN (plOk_of r0_chk)
theorem r0_k:Us Lop.k0:=by constructor<;>simp [U,Lop.k0]
theorem r0_U: ∀t∈ [Lop.t0],TrU t:=by
 intro t ht
 simp at ht
 subst ht
 exact⟨by simp [I,Lop.t0],by simp [I,Lop.t0],by simp [I,Lop.t0],r0_k,r0_k⟩
theorem some_any (w:World):Calls Tryz.prog 14 #[] w fun e w'=> ∃b,e=.returned (planV Lop.p0 (.slice (some ⟨b,0,none⟩) 1 1))∧TrsAt w' (some ⟨b,0,none⟩) [Lop.t0]∧w.heap.size≤b∧Below w.heap.size w w':=by
 have hX:=px_new w 26
 have hb2: ∀o:Obj,Below (w.alloc (.cells #[.string ⟨#[]⟩,.int .i64 0,.int .i64 0,.int .i64 0,.int .i64 0,.int .i64 0,.int .i64 0,.int .i64 0,.int .i64 0,.int .i64 0,.int .i64 0,.int .i64 0,.int .i64 0,.int .i64 0,.int .i64 0,.int .i64 0,.int .i64 0,.slice none 0 0] 26)).heap.size (w.alloc (.cells #[.string ⟨#[]⟩,.int .i64 0,.int .i64 0,.int .i64 0,.int .i64 0,.int .i64 0,.int .i64 0,.int .i64 0,.int .i64 0,.int .i64 0,.int .i64 0,.int .i64 0,.int .i64 0,.int .i64 0,.int .i64 0,.int .i64 0,.int .i64 0,.slice none 0 0] 26)) ((w.alloc (.cells #[.string ⟨#[]⟩,.int .i64 0,.int .i64 0,.int .i64 0,.int .i64 0,.int .i64 0,.int .i64 0,.int .i64 0,.int .i64 0,.int .i64 0,.int .i64 0,.int .i64 0,.int .i64 0,.int .i64 0,.int .i64 0,.int .i64 0,.int .i64 0,.slice none 0 0] 26)).alloc o):=fun o=>(Below.refl _ _).alloc (Nat.le_refl _) o
 have hX2:=fun o=>hX.below (hb2 o) (by simp)
 go_enter Tryz.func14,Tryz.ntmps14
 go_wp2_with(with_reducible refine wp_setPx (hX2 _) (p':=Lop.p0) (v':=.slice (some ⟨w.heap.size+1,0,none⟩) 1 1) rfl (by with_unfolding_all rfl) (by with_unfolding_all rfl) ?_;intro w9 hX9 ho9)
 refine finPx Tryz.results14 (Or.inl rfl) rfl rfl hX9 ⟨w.heap.size+1,rfl,?_,Nat.le_succ _,?_⟩
 ·refine trs_one (Nat.lt_of_lt_of_le (by simp) ho9.size) (fun j=> ?_)
  rw [ho9.cell (a:=⟨w.heap.size+1,j,none⟩) (by simp) (by simp)]
  simp
  rfl
 ·exact(((Below.refl _ _).alloc (Nat.le_refl _) _).alloc (by simp) _).trans (ho9.below (Nat.le_refl _) (by simp;omega))
theorem tickf_any (n:Int) (w:World):Calls Tryz.prog 16 #[.int .i64 n] w fun e w'=>e=.returned (.agg #[.int .i64 1,.int .i64 0,.int .i64 n])∧Below w.heap.size w w':=by
 go_enter Tryz.func16,Tryz.ntmps16
 go_wp2
 (try simp only [Exit.inBlock,Exit.then])
 refine bodyPost_ret (v:=.agg #[.int .i64 1,.int .i64 0,.int .i64 n]) ?_ rfl ⟨rfl,(Below.refl _ _).alloc (Nat.le_refl _) _⟩
 simp [results,Tryz.results16,go_sem]
noncomputable def s0:WS:=newW (noN Lop.p0) [Lop.t0] 1 2 0
noncomputable def s1:WS:=doW (noN Lop.p0) [Lop.t0] s0 4 0 25
noncomputable def s2:WS:=doW (noN Lop.p0) [Lop.t0] s1 1 0 1
noncomputable def sK (k:Nat):WS:= { s2 with qL:=(Que.news 0 25).drop k }
noncomputable def sE:WS:=doW (noN Lop.p0) [Lop.t0] (sK 25) 1 0 9
theorem s1_def:doW (noN Lop.p0) [Lop.t0] s0 4 0 25=s1:=by unfold s1;rfl
theorem s2_def:doW (noN Lop.p0) [Lop.t0] s1 1 0 1=s2:=by unfold s2;rfl
theorem sE_def:doW (noN Lop.p0) [Lop.t0] (sK 25) 1 0 9=sE:=by unfold sE;rfl
theorem s_E1:doE s0 4 0 25=0:=by kernel_rfl
theorem s_E2:doE s1 1 0 1=0:=by kernel_rfl
theorem s_tg:s2.tg=3:=by kernel_rfl
theorem s_len:s2.F.L.length=3:=by kernel_rfl
theorem s_q:s2.qL=Que.news 0 25:=by kernel_rfl
theorem s_zero:sK 0=s2:=by
 have e:(Que.news 0 25).drop 0=s2.qL:=by rw [s_q];rfl
 unfold sK
 rw [e]
theorem sE_tg:sE.tg=0:=by kernel_rfl
theorem sE_len:sE.F.L.length=0:=by kernel_rfl
theorem s_I0:WI [Lop.t0] s0 0 0:=WI.new _ _ _ _ _ (by omega) (by omega)
theorem s_I1:WI [Lop.t0] s1 1 1000:=by rw [←s1_def];exact s_I0.do r0_ok 4 0 25
theorem s_I2:WI [Lop.t0] s2 2 2000:=by rw [←s2_def];exact s_I1.do r0_ok 1 0 1
theorem back_free {L:List Que.M} (now:Int) (h: ∀x∈L,x.tk=false):Que.backL now L=L:=by
 unfold Que.backL
 conv=>rhs;rw [←List.map_id L]
 refine List.map_congr_left (fun x hx=> ?_)
 unfold Que.back
 rw [if_neg (by rw [h x hx];simp)]
 rfl
theorem lease_first {m:Que.M} {L:List Que.M} {now n:Int} (h: ∀x∈m::L,x.tk=false) (hn:1≤n∧n≤100000):leaseE (m::L) now n=0∧leaseL (m::L) now n=⟨m.id,now+n,true⟩::L:=by
 have hf:(m::L).findIdx? Que.free=some 0:=by rw [List.findIdx?_cons];simp [Que.free,h m (by simp)]
 unfold leaseE leaseL
 rw [if_neg (by simpa using hn),if_neg (by simpa using hn),back_free now h,hf]
 simp
theorem ack_first {id:Int} {L:List Que.M} {now n:Int} (h: ∀x∈L,x.tk=false) (hn:1≤n):ackE (⟨id,now+n,true⟩::L) now id=0∧ackL (⟨id,now+n,true⟩::L) now id=L:=by
 have hb:Que.backL now (⟨id,now+n,true⟩::L)=⟨id,now+n,true⟩::L:=by
  have:=back_free now h
  unfold Que.backL at*
  rw [List.map_cons,this]
  unfold Que.back
  rw [if_neg (by simp;omega)]
 have hf:(⟨id,now+n,true⟩::L:List Que.M).findIdx? (Que.isId id)=some 0:=by rw [List.findIdx?_cons];simp [Que.isId]
 unfold ackE ackL
 rw [hb,hf]
 simp
theorem news_free {x:Que.M} (h:x∈Que.news 0 25):x.tk=false:=by
 unfold Que.news at h
 simp at h
 obtain⟨_,_,rfl⟩:=h
 rfl
theorem news_at {k:Nat} (hk:k<25):(Que.news 0 25).drop k=⟨(k:Int)+1,0,false⟩::(Que.news 0 25).drop (k+1):=by
 have hl:(Que.news 0 25).length=25:=Que.news_len 0 25
 rw [List.drop_eq_getElem_cons (by omega)]
 congr 1
 unfold Que.news
 simp
 omega
theorem round_any {k:Nat} (hk:k<25):doE (sK k) 5 0 5=0∧doE (doW (noN Lop.p0) [Lop.t0] (sK k) 5 0 5) 6 0 ((k:Int)+1)=0∧doW (noN Lop.p0) [Lop.t0] (doW (noN Lop.p0) [Lop.t0] (sK k) 5 0 5) 6 0 ((k:Int)+1)=sK (k+1):=by
 have e0:=news_at hk
 have hf: ∀x∈(⟨(k:Int)+1,0,false⟩:Que.M)::(Que.news 0 25).drop (k+1),x.tk=false:=fun x hx=>by
  rw [←e0]at hx
  exact news_free (List.mem_of_mem_drop hx)
 obtain⟨a1,a2⟩:=lease_first (now:=s2.now) (n:=5) hf (by omega)
 obtain⟨b1,b2⟩:=ack_first (id:=(k:Int)+1) (now:=s2.now) (n:=5) (fun x hx=>hf x (List.mem_cons_of_mem _ hx)) (by omega)
 have c1:doE (sK k) 5 0 5=leaseE ((Que.news 0 25).drop k) s2.now 5:=rfl
 have c2:doW (noN Lop.p0) [Lop.t0] (sK k) 5 0 5= { s2 with qL:=leaseL ((Que.news 0 25).drop k) s2.now 5 } :=rfl
 rw [c1,c2,e0,a1,a2]
 refine⟨rfl,?_,?_⟩
 ·show ackE (⟨(k:Int)+1,s2.now+5,true⟩::(Que.news 0 25).drop (k+1)) s2.now ((k:Int)+1)=0
  exact b1
 ·show({ s2 with qL:=ackL (⟨(k:Int)+1,s2.now+5,true⟩::(Que.news 0 25).drop (k+1)) s2.now ((k:Int)+1) } :WS)=sK (k+1)
  rw [b2]
  rfl
theorem newr (b:Nat) (w:World) (hB:Lai.BdsAt w) (hT:TrsAt w (some ⟨b,0,none⟩) [Lop.t0]):Calls Tryz.prog 13 #[planV Lop.p0 (.slice (some ⟨b,0,none⟩) 1 1),.int .i64 1,.int .i64 2,.int .i64 0] w (NewWA Lop.p0 [Lop.t0] 1 2 0 w):=
 new_yes Lop.p0 (some ⟨b,0,none⟩) 1 [Lop.t0] 1 2 0 w hB r0_I (by simp [Lop.p0]) hT r0_chk (by omega) (by omega)
theorem doS {w0:World} (B:Nat) (c:Pc) (S:WS) (h k:Nat) (x a n E:Int) (w:World) (hA:WAt w B c (noN Lop.p0) [Lop.t0] S) (hI:WI [Lop.t0] S h k) (hh:h≤1000) (hk:k≤100000) (hE:doE S x a n=E) (hB:w0.heap.size≤B) (hb:Below w0.heap.size w0 w):
  Calls Tryz.prog 15 #[.pointer (some ⟨c.x.D,0,none⟩),.agg #[.int .i64 x,.int .i64 a,.int .i64 n]] w fun e w'=>e=.returned (.int .i64 E)∧ ∃c',WAt w' B c' (noN Lop.p0) [Lop.t0] (doW (noN Lop.p0) [Lop.t0] S x a n)∧c'.x.D=c.x.D∧Below w0.heap.size w0 w':=by
 refine(do_any B c (noN Lop.p0) [Lop.t0] S h k x a n w hA hI hh hk r0_ok r0_U).mono ?_
 rintro e w' ⟨rfl,c',a',d',m'⟩
 exact⟨by rw [hE],c',a',d',hb.trans (m'.below (fun k hk=>Nat.le_trans hB (hA.low hk).1) hb.size)⟩
def SdR (w:World) (B D:Nat) (i:Value) (wr:World):Prop:= ∃(k:Nat) (c1:Pc),k≤25∧i=.int .i64 ((k:Int)+1)∧WAt wr B c1 (noN Lop.p0) [Lop.t0] (sK k)∧WI [Lop.t0] (sK k) (2+2*k) (1000*(2+2*k))∧c1.x.D=D∧Below w.heap.size w wr
theorem said_any (w:World) (hB:Lai.BdsAt w):Calls Tryz.prog 4 #[] w fun e w'=>e=.returned (.bool true)∧Below w.heap.size w w':=by
 have cS:=some_any w
 have HB:Hid (Lai.BdsAt w):=hB
 clear hB
 go_enter Tryz.func4,Tryz.ntmps4
 go_wp2_with (first
  |(go_at_call 14;(with_reducible refine cS.mono ?_);rintro e w1 ⟨b,rfl,hT1,hb,hb1⟩;clear cS)
  |(go_at_call 13;have cN:=newr b w1 (HB.out.below hb1 (Nat.le_refl _)) hT1;(with_reducible refine cN.mono ?_);rintro e w2 ⟨c,rfl,hA2,hb2⟩;clear cN;have HX2:Hid (WAt w2 w1.heap.size c (noN Lop.p0) [Lop.t0] s0∧w.heap.size≤w1.heap.size∧Below w.heap.size w w2):=⟨hA2,hb1.size,hb1.trans (hb2.mono hb1.size)⟩;clear hA2 hb2 hT1;generalize hD:c.x.D=D at*)
  |(go_at_call 15;have cD:=doS (w0:=w) w1.heap.size c3 s1 1 1000 1 0 1 0 w4 HX4.out.1 s_I1 (by omega) (by omega) s_E2 HX2.out.2.1 HX4.out.2;rw [hD3,s2_def]at cD;(with_reducible refine cD.mono ?_);rintro e w5 ⟨rfl,c5,a5,d5,b5⟩;clear cD;have HX5:Hid (WAt w5 w1.heap.size c5 (noN Lop.p0) [Lop.t0] s2∧Below w.heap.size w w5):=⟨a5,b5⟩;have hD5:c5.x.D=D:=d5;clear a5 d5 b5)
  |(go_at_call 15;have cD:=doS (w0:=w) w1.heap.size c s0 0 0 4 0 25 0 w2 HX2.out.1 s_I0 (by omega) (by omega) s_E1 HX2.out.2.1 HX2.out.2.2;rw [hD,s1_def]at cD;(with_reducible refine cD.mono ?_);rintro e w3 ⟨rfl,c3,a3,d3,b3⟩;clear cD;have HX3:Hid (WAt w3 w1.heap.size c3 (noN Lop.p0) [Lop.t0] s1∧Below w.heap.size w w3):=⟨a3,b3⟩;have hD3:c3.x.D=D:=d3;clear a3 d3 b3)
  |(go_at_call 16;have cT:=tickf_any 1 w3;(with_reducible refine cT.mono ?_);rintro e w4 ⟨rfl,hb4⟩;clear cT;have HX4:Hid (WAt w4 w1.heap.size c3 (noN Lop.p0) [Lop.t0] s1∧Below w.heap.size w w4):=⟨HX3.out.1.below hb4,HX3.out.2.trans (hb4.mono HX3.out.2.size)⟩;clear hb4)
  |(go_at_call 8;have cX:=target_any w1.heap.size c5 (noN Lop.p0) [Lop.t0] s2 w5 HX5.out.1;rw [hD5,s_tg]at cX;(with_reducible refine cX.mono ?_);rintro e w' ⟨rfl,h9⟩;have h8:=h9.symm;clear h9;subst h8;clear cX)
  |(go_at_call 10;have cX:=pods_any w1.heap.size c5 (noN Lop.p0) [Lop.t0] s2 w5 HX5.out.1 (by rw [s_len];omega);rw [hD5,s_len]at cX;(with_reducible refine cX.mono ?_);rintro e w6 ⟨rfl,hR6,hb6⟩;clear cX;have HX6:Hid (WAt w6 w1.heap.size c5 (noN Lop.p0) [Lop.t0] s2∧Below w.heap.size w w6):=⟨HX5.out.1.below hb6,HX5.out.2.trans (hb6.mono HX5.out.2.size)⟩;clear hR6 hb6))
 have HL:Hid (w.heap.size≤w1.heap.size):=HX2.out.2.1
 clear hb1 hD hD3
 go_loopw [3] (fun i wr=>SdR w w1.heap.size D i wr) (fun i _=>26-(intOf i).toNat)
 case atStart=>exact⟨0,c5,by omega,rfl,by rw [s_zero];exact HX6.out.1,by rw [s_zero];exact s_I2,hD5,HX6.out.2⟩
 case round=>
  clear hD5 HX6 HX5 HX4 HX3 HX2
  obtain⟨k,c1,hk,rfl,hA,hI,hD1,hbr⟩:=hrel
  by_cases hlt:k<25
  ·have hlt':(k:Int)+1≤25:=by omega
   obtain⟨r1,r2,r3⟩:=round_any hlt
   have hI2:=hI.do r0_ok 5 0 5
   have hI3:=hI2.do r0_ok 6 0 ((k:Int)+1)
   rw [r3]at hI3
   have HX1:Hid (WAt wr w1.heap.size c1 (noN Lop.p0) [Lop.t0] (sK k)∧Below w.heap.size w wr):=⟨hA,hbr⟩
   have HI1:Hid (WI [Lop.t0] (sK k) (2+2*k) (1000*(2+2*k))):=hI
   have HI2:Hid (WI [Lop.t0] (doW (noN Lop.p0) [Lop.t0] (sK k) 5 0 5) (2+2*k+1) (1000*(2+2*k)+1000)):=hI2
   have HI3:Hid (WI [Lop.t0] (sK (k+1)) (2+2*(k+1)) (1000*(2+2*(k+1)))):=hI3.mono (by omega) (by omega)
   have HR:Hid (doE (sK k) 5 0 5=0∧doE (doW (noN Lop.p0) [Lop.t0] (sK k) 5 0 5) 6 0 ((k:Int)+1)=0∧doW (noN Lop.p0) [Lop.t0] (doW (noN Lop.p0) [Lop.t0] (sK k) 5 0 5) 6 0 ((k:Int)+1)=sK (k+1)):=⟨r1,r2,r3⟩
   clear hA hI hbr hI2 hI3 r1 r2 r3
   go_wp2_with (first
    |(go_at_call 15;have cD:=doS (w0:=w) w1.heap.size c3 (doW (noN Lop.p0) [Lop.t0] (sK k) 5 0 5) (2+2*k+1) (1000*(2+2*k)+1000) 6 0 ((k:Int)+1) 0 w3 HX3.out.1 HI2.out (by omega) (by omega) HR.out.2.1 HL.out HX3.out.2;rw [hD3,HR.out.2.2]at cD;(with_reducible refine cD.mono ?_);rintro e w5 ⟨rfl,c5,a5,d5,b5⟩;clear cD;have HX5:Hid (WAt w5 w1.heap.size c5 (noN Lop.p0) [Lop.t0] (sK (k+1))∧c5.x.D=D∧Below w.heap.size w w5):=⟨a5,d5,b5⟩;clear a5 d5 b5)
    |(go_at_call 15;have cD:=doS (w0:=w) w1.heap.size c1 (sK k) (2+2*k) (1000*(2+2*k)) 5 0 5 0 wr HX1.out.1 HI1.out (by omega) (by omega) HR.out.1 HL.out HX1.out.2;rw [hD1]at cD;(with_reducible refine cD.mono ?_);rintro e w3 ⟨rfl,c3,a3,d3,b3⟩;clear cD;have HX3:Hid (WAt w3 w1.heap.size c3 (noN Lop.p0) [Lop.t0] (doW (noN Lop.p0) [Lop.t0] (sK k) 5 0 5)∧Below w.heap.size w w3):=⟨a3,b3⟩;have hD3:c3.x.D=D:=d3;clear a3 d3 b3))
   go_roundw
   case rel=>exact⟨k+1,c5,hlt,by simp,HX5.out.1,HI3.out,HX5.out.2.1,HX5.out.2.2⟩
   case measure=>simp [intOf];omega
  ·obtain rfl:k=25:=by omega
   have HX1:Hid (WAt wr w1.heap.size c1 (noN Lop.p0) [Lop.t0] (sK 25)∧Below w.heap.size w wr):=⟨hA,hbr⟩
   have HI1:Hid (WI [Lop.t0] (sK 25) 52 52000):=hI
   clear hA hI hbr
   go_wp2_with (first
    |(go_at_call 16;have cT:=tickf_any 9 wr;(with_reducible refine cT.mono ?_);rintro e w4 ⟨rfl,hb4⟩;clear cT;have HX4:Hid (WAt w4 w1.heap.size c1 (noN Lop.p0) [Lop.t0] (sK 25)∧Below w.heap.size w w4):=⟨HX1.out.1.below hb4,HX1.out.2.trans (hb4.mono HX1.out.2.size)⟩;clear hb4)
    |(go_at_call 15;have cD:=doS (w0:=w) w1.heap.size c1 (sK 25) 52 52000 1 0 9 _ w4 HX4.out.1 HI1.out (by omega) (by omega) rfl HL.out HX4.out.2;rw [hD1,sE_def]at cD;(with_reducible refine cD.mono ?_);rintro e w5 ⟨rfl,c5,a5,d5,b5⟩;clear cD;have HX5:Hid (WAt w5 w1.heap.size c5 (noN Lop.p0) [Lop.t0] sE∧Below w.heap.size w w5):=⟨a5,b5⟩;have hD5:c5.x.D=D:=d5;clear a5 d5 b5)
    |(go_at_call 8;have cX:=target_any w1.heap.size c5 (noN Lop.p0) [Lop.t0] sE w5 HX5.out.1;rw [hD5,sE_tg]at cX;(with_reducible refine cX.mono ?_);rintro e w' ⟨rfl,h9⟩;have h8:=h9.symm;clear h9;subst h8;clear cX)
    |(go_at_call 10;have cX:=pods_any w1.heap.size c5 (noN Lop.p0) [Lop.t0] sE w5 HX5.out.1 (by rw [sE_len];omega);rw [hD5,sE_len]at cX;(with_reducible refine cX.mono ?_);rintro e w6 ⟨rfl,hR6,hb6⟩;clear cX))
   go_ret
   exact⟨rfl,HX5.out.2.trans (hb6.mono HX5.out.2.size)⟩
end Wld
end Go.Proofs.YtddabkmppobcdaaGreatDoor
