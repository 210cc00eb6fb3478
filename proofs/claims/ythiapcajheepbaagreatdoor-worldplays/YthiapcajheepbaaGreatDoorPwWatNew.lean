/- A part. -/
import Derived.Test.YthiapcajheepbaaGreatDoorPwWatchAt
import Derived.Test.YthiapcajheepbaaGreatDoorPwStbNew2
set_option linter.all false
open Go.Proofs.Tryz
set_option maxHeartbeats 32000000
set_option maxRecDepth 8000
namespace Go.Proofs.YthiapcajheepbaaGreatDoor
namespace Wat
open Go.RowKit Rw Rec Plain Pln Frm Lpp Stb Crn
variable {W w:World} {B g S:Nat} {p:Pd} {A:Array Value} {c:Cm}

theorem info_i:(prog.info? 3).map (fun i=>(i.zero,i.size,i.bytes))=some (some (.int .i64 0),1,8):=by kernel_rfl
theorem made_run (w:World) (n:Nat) (h:n≤5):(Instr.makeSlice 54 (.int .i64 (n:Int)) (.int .i64 (n:Int))).run prog w=.ok (.slice (some ⟨w.heap.size,0,none⟩) n n) (w.alloc (.cells (madeCells #[.int .i64 0] n) 3)):=by
 obtain⟨i,hi,hz0,hz1,hz2⟩:=info_parts info_i;have hr:=run_make (P:=prog) w 54 3 i _ underlying54 hi hz0 .i64 .i64 (n:Int) (n:Int) (by omega) (Xu _) (by rw [hz2];omega) (by omega);simpa [hz1,Value.cells]using hr
theorem cels_zero (n:Nat):cels nK.c (List.replicate n 0)=List.replicate n (.int .i64 0):=by
 induction n with
 |zero=>rfl
 |succ n ih=>simp only [List.replicate_succ,cels,ih];rfl
theorem made_list (n:Nat):(madeCells #[.int .i64 0] n).toList=List.replicate n (.int .i64 0):=by
 apply Yo;intro j;by_cases hj:j<n
 ·simp [madeCells,hj,Nat.mod_one]
 ·simp [madeCells,hj]
theorem own_made {n:Nat} (hB:B≤g) (hn:n≤5) (h:W.heap[g]? =some (.cells (madeCells #[.int .i64 0] n) 3 (0,0))):W.ownsRow B 3 nK.s (.slice (some ⟨g,0,none⟩) n n) (List.replicate n (0:Int)).length (cels nK.c (List.replicate n 0)):=by
 have hl:=made_list n;have hz:(madeCells #[Value.int .i64 0] n).size=n:=by rw [←Array.length_toList,hl];simp
 rw [cels_zero,List.length_replicate];refine⟨by simp [nK],Or.inr ⟨g,n,_,rfl,hB,h,Xa _,by unfold maxLen;omega,by rw [hz];simp [nK],?_⟩⟩;rw [hl];simp [nK]
theorem rat_new {sl vF:Value} {s:Lp} (hA:A=(wC p sl S vF s).toArray) (hB:B≤W.heap.size) (hO:W.ownsRow B 3 nK.s vF s.fs.length (cels nK.c s.fs)):RAt nK (W.alloc (.cells A 110)) 3 B W.heap.size 0 19 (wC p sl S vF s) vF s.fs:=by
 subst hA;refine⟨by simp,hB,fun j u hu=> ?_,rfl,fun j=>by simp,hO.alloc _,fun e=> ?_⟩
 ·have:(wC p sl S vF s).toArray[j]? =some u:=by simpa using hu
  simpa using this
 ·have:=(hO.lt _ e).2;omega
theorem plan_new (w:World) (p:Pd) (sl:Value) (ta:TypeId):PlAt (w.alloc (.cells (planC p sl) ta)) w.heap.size p sl:=by
 constructor<;>simp
theorem plan_drew {sl:Value} (h:PlAt w B p sl):PlAt w.drew B p sl:=⟨h.c0,h.c1,h.c2,h.c3,h.c4,h.c5,h.c6,h.c7,h.c8,h.c9,h.c10,h.c11,h.c12,h.c13,h.c14,h.c15,h.c16,h.c17⟩
theorem heapN (W:World) (o:Obj):(W.alloc o).heap[W.heap.size]? =some o:=by show(W.heap.push o)[W.heap.size]? =some o;simp
theorem own_base {A:Nat} {e:TypeId} {s n:Nat} {v:Value} {xs:List Value} (h:Own w B e s v n xs) (hAB:A≤B):Own w A e s v n xs:=by
 refine⟨h.1,?_⟩;rcases h.2 with a|⟨g,off,cap,cur,h1,h2,h3⟩
 ·exact Or.inl a
 ·exact Or.inr ⟨g,off,cap,cur,h1,Xc hAB h2,h3⟩
theorem cat_base {A D:Nat} {vw vm:Value} (h:CAt w B D vw vm c) (hAB:A≤B):CAt w A D vw vm c:=⟨h.lt,Xc hAB h.bD,h.fz,h.num,h.rW,h.rM,own_base h.oW hAB,own_base h.oM hAB,h.nW,h.nM,h.ap⟩
def newL (n:Nat):Lp:=⟨List.replicate n 0,false,0,0,-1⟩
theorem wat_new {w9:World} {ta:Option Addr} {tc:Nat} {ts:List Tr} (hl:ts.length≤5) (hT:TrsAt w ta ts) (hb9:Below w.heap.size w w9) (hC:CAt w9 w.heap.size S (.slice none 0 0) (.slice none 0 0) c)
  (hg:w9.heap[g]? =some (.cells (madeCells #[.int .i64 0] ts.length) 3 (0,0))) (hgB:w.heap.size≤g) (hgS:g≠S) (hA:A=(wC p (.slice ta ts.length tc) S (.slice (some ⟨g,0,none⟩) ts.length ts.length) (newL ts.length)).toArray):
  WAt (w9.alloc (.cells A 110)) w.heap.size ⟨w9.heap.size,S,.slice (some ⟨g,0,none⟩) ts.length ts.length,.slice none 0 0,.slice none 0 0⟩ p ta tc ts (newL ts.length) c∧Below w.heap.size w (w9.alloc (.cells A 110)):=by
 have hbA:=hb9.alloc hb9.size (.cells A 110);have hSl:=hC.lt;refine⟨⟨rat_new hA hb9.size (own_made hgB hl hg),hC.alloc _,hT.below hbA (Xa _),fun hp b off e=> ?_,fun h=> ?_,fun x hx h=> ?_⟩,hbA⟩
 ·obtain⟨t,ht⟩: ∃t,ts[0]? =some t:=⟨ts[0],by simp⟩
  obtain⟨b',off',e',hlt,_⟩:=hT 0 t ht;rw [e]at e';cases e';exact hlt
 ·rcases h with h|h|h
  ·dsimp only at h;omega
  ·simp [Value.ownBlock]at h
  ·simp [Value.ownBlock]at h
 ·simp [Value.ownBlock]at hx;rcases h with h|h|h
  ·dsimp only at h;exact hgS (hx.trans h)
  ·simp [Value.ownBlock]at h
  ·simp [Value.ownBlock]at h
theorem wnew_any (p:Pd) (ta:Option Addr) (tc:Nat) (ts:List Tr) (w:World) (hl:ts.length≤5) (hT:TrsAt w ta ts):
  Calls prog 18 #[planV p (.slice ta ts.length tc)] w fun e w'=> ∃D S vF,e=.returned (.pointer (some ⟨D,0,none⟩))∧WAt w' w.heap.size ⟨D,S,vF,.slice none 0 0,.slice none 0 0⟩ p ta tc ts (newL ts.length) ⟨clP ⟨p.uw,p.up,p.uc,p.ue⟩,clP ⟨p.dw,p.dp,p.dc,p.de⟩,0,[],[]⟩∧Below w.heap.size w w':=by
 obtain⟨W,hW⟩: ∃W,W=w.alloc (.cells (planC p (.slice ta ts.length tc)) 26):=⟨_,rfl⟩
 have hPl:PlAt W w.heap.size p (.slice ta ts.length tc):=by rw [hW];exact plan_new _ _ _ _
 have hbW:Below w.heap.size w W:=by rw [hW];exact(Below.refl _ _).alloc (Xa _) _
 have hzW:w.heap.size<W.heap.size:=by rw [hW];simp
 have hmk:=fun W=>made_run W ts.length hl;have cN:=fun W=>cnew_any ⟨p.uw,p.up,p.uc,p.ue⟩ ⟨p.dw,p.dp,p.dc,p.de⟩ W;simp only [pcV]at cN;have HW:=zh hW;clear hW;go_enter func18,ntmps18;go_upto_region 1 with fail
 rw [←HW.out];clear HW;refine wp_region_held_drew (S:=fun w'=>PlAt w' w.heap.size p (.slice ta ts.length tc)) (by kernel_rfl) (plan_drew hPl) (fun hHeld=> ?_);refine Tk.gi 1 ?_;(try simp only [Act.put,ar,ag]);refine wpAnyH_take (i:=2) (oi:=_) (v:= ?_) rfl (by kernel_rfl) (by kernel_rfl) (by kernel_rfl) (fun _ _ _ h=>h) (Or.inl ⟨by rfl,?_⟩) (by assumption) ?_;rotate_left
 ·intro w' hSw;(try dsimp only at hSw);have a9:=hSw.c9;have a10:=hSw.c10;have a11:=hSw.c11;have a12:=hSw.c12;go_simp;all_goals with_reducible rfl
 (try simp only [Act.put,ar,ag]);refine Tk.gi 3 ?_;(try simp only [Act.put,ar,ag]);refine wpAnyH_take (i:=4) (oi:=_) (v:= ?_) rfl (by kernel_rfl) (by kernel_rfl) (by kernel_rfl) (fun _ _ _ h=>h) (Or.inl ⟨by rfl,?_⟩) (by assumption) ?_;rotate_left
 ·intro w' hSw;(try dsimp only at hSw);have a13:=hSw.c13;have a14:=hSw.c14;have a15:=hSw.c15;have a16:=hSw.c16;go_simp;all_goals with_reducible rfl
 (try simp only [Act.put,ar,ag]);refine Tk.gi 6 ?_;(try simp only [Act.put,ar,ag]);refine wpAnyH_take (i:=7) (oi:=_) (v:= ?_) rfl (by kernel_rfl) (by kernel_rfl) (by kernel_rfl) (fun _ _ _ h=>h) (Or.inl ⟨by rfl,?_⟩) (by assumption) ?_;rotate_left
 ·intro w' hSw;(try dsimp only at hSw);have a17:=hSw.c17;go_simp;all_goals with_reducible rfl
 (try simp only [Act.put,ar,ag]);refine Tk.gi 8 ?_;(try simp only [Act.put,ar,ag]);refine Tk.gi 0 (v:=planV p (.slice ta ts.length tc)) ?_ (hy:=yieldsIf_load_mid (by rfl) 26 (.tmp 1) rfl w.heap.size 0 (by with_unfolding_all rfl) [.string ⟨p.nm.toArray⟩,.int .i64 p.mn,.int .i64 p.mx,.int .i64 p.po,.int .i64 p.co,.int .i64 p.tl,.int .i64 p.bk,.int .i64 p.af,.int .i64 p.sh,.int .i64 p.uw,.int .i64 p.up,.int .i64 p.uc,.int .i64 p.ue,.int .i64 p.dw,.int .i64 p.dp,.int .i64 p.dc,.int .i64 p.de,.slice ta ts.length tc] _ (fun W h=>range_plan h) underlying26 rfl (by kernel_rfl));(try simp only [Act.put,ar,ag]);refine wpAnyH_ready (rs:=[5,9]) (by kernel_rfl) (by simp) ?_;refine AllReadyH.cons rfl (fun K hK=> ?_) (AllReadyH.cons rfl (fun K hK=> ?_) AllReadyH.nil)
 ·go_simp;go_wp2_with(go_at_call 61;(with_reducible refine(cN _).mono ?_);rintro e w8 ⟨S8,rfl,hC8,hb8⟩;have s8:=(plan_drew hPl).on hb8 hzW)
  refine hK.out _ _ s8 (fun hHeld=> ?_);clear hK K;refine Tk.r1 9 fun K hK=> ?_;go_simp;refine hK.out _ _ (s8.on ((Below.refl w8.heap.size w8).alloc (Xa _) _) (Xb hzW hb8.size)) (fun hHeld=> ?_);clear hK K;refine Tk.gi 10 ?_;(try simp only [Act.put,ar,ag]);refine Tk.r1 11 fun K hK=> ?_;go_simp;refine hK.out _ _ ((s8.on ((Below.refl w8.heap.size w8).alloc (Xa _) (.cells (madeCells #[.int .i64 0] ts.length) 3)) (Xb hzW hb8.size)).on ((Below.refl _ _).alloc (Xa _) _) (Xb (Xb hzW hb8.size) (by simp))) (fun hHeld=> ?_);clear hK K;refine Tk.gi 12 ?_;(try simp only [Act.put,ar,ag]);refine wpAnyH_done (by kernel_rfl) ?_ _;(try go_wp2);go_ret;have hb9:Below w.heap.size w (w8.alloc (.cells (madeCells #[.int .i64 0] ts.length) 3)):=((hbW.drew).trans (hb8.mono hbW.size)).alloc (Xc hbW.size hb8.size) _;have hC9:=(hC8.alloc (.cells (madeCells #[.int .i64 0] ts.length) 3))
  have h9:=wat_new (p:=p) (tc:=tc) hl hT hb9 (cat_base hC9 hbW.size) (heapN _ _) (Xc hbW.size hb8.size) (by have:=hC8.lt;omega) rfl;have hz9:(w8.alloc (.cells (madeCells #[.int .i64 0] ts.length) 3)).heap.size=w8.heap.size+1:=by simp
  rw [hz9]at h9;exact⟨_,S8,_,rfl,h9⟩
 ·go_simp;have hbD:Below W.heap.size W (W.alloc (.cells (madeCells #[.int .i64 0] ts.length) 3)).drew:=((Below.refl _ _).alloc (Xa _) _).drew;have sD:=hPl.on hbD hzW;refine hK.out _ _ sD (fun hHeld=> ?_);clear hK K;refine Tk.r1 5 fun K hK=> ?_;go_simp;go_wp2_with(go_at_call 61;(with_reducible refine(cN _).mono ?_);rintro e w8 ⟨S8,rfl,hC8,hb8⟩;have s8:=sD.on hb8 (Xb hzW hbD.size))
  refine hK.out _ _ s8 (fun hHeld=> ?_);clear hK K;refine Tk.gi 10 ?_;(try simp only [Act.put,ar,ag]);refine Tk.r1 11 fun K hK=> ?_;go_simp;refine hK.out _ _ (s8.on ((Below.refl _ _).alloc (Xa _) _) (Xb (Xb hzW hbD.size) hb8.size)) (fun hHeld=> ?_);clear hK K;refine Tk.gi 12 ?_;(try simp only [Act.put,ar,ag]);refine wpAnyH_done (by kernel_rfl) ?_ _;(try go_wp2);go_ret;have hb9:Below w.heap.size w w8:=(zu hbW hbD).trans (hb8.mono (Xc hbW.size hbD.size));have hg8:w8.heap[W.heap.size]? =some (.cells (madeCells #[.int .i64 0] ts.length) 3 (0,0)):=(hb8.block W.heap.size (by simp)).trans (heapN _ _);have hS8:=hC8.bD;have h9:=wat_new (p:=p) (tc:=tc) hl hT hb9 (cat_base hC8 (Xc hbW.size hbD.size)) hg8 hbW.size (fun e=>by simp at hS8;omega) rfl;exact⟨_,S8,_,rfl,h9⟩
