/- A part. -/
import Derived.Test.YthiapcajheepbaaGreatDoorPwTak
import Derived.Test.YthiapcajheepbaaGreatDoorPwNeedTr
set_option linter.all false
open Go.Proofs.Tryz
set_option maxHeartbeats 32000000
set_option maxRecDepth 8000
namespace Go.Proofs.YthiapcajheepbaaGreatDoor
namespace Ned
open Go.RowKit Plain Num Pln Civ Crn Lai

theorem want_some (now tol:Int) (t:Tr) (a:Option Addr) (len cap:Nat) (X:Nat→Int) (w:World) (hk:t.k=1∨t.k=2) (h1:1≤now) (h2:now≤50) (h3:0≤tol) (h4:tol≤1000) (ht:1≤t.tg) (hm:len≤maxLen) (hX:IntsAt w a len X):
  CB 178 #[.int .i64 now,.int .i64 tol,trV t,rdV false a len cap] w (.tuple #[.int .i64 (wantF now tol t.k t.tg len X),.int .i64 0]):=by
 have cc:=fun w=>counts_any t w;have hd:decide (t.k=1∨t.k=2)=true:=by simp [hk]
 rw [hd]at cc;have hA:=fun ta o=>TrAt.two w t ta o;have co:=fun w' (hb:Below w.heap.size w w')=>ofr_yes t a len cap X w' ht hm (hX.below hb (Xa _));have cm:=fun w' (hb:Below w.heap.size w w')=>metric_any t false a len cap X w' hm (hX.below hb (Xa _));have cu:=fun w=>mul_any now t.tg w;have hmb:=metF_bd t.k len X (fun i hi=>by obtain⟨_,_,_,_,_,b⟩:=hX i hi;exact b.2);have hmg:=metF_ge t.k len X;have hu:=mul_bd (now:=now) (tg:=t.tg) (by omega) ht;have cn:=fun w=>near_any (metF t.k len X) (mulc (clip now) (clip t.tg)) tol w hmg hmb hu.1 hu.2;have HW:Hid (wantF now tol t.k t.tg len X=if nearF (metF t.k len X) (mulc (clip now) (clip t.tg)) tol=true then now else podF t.k t.tg len X):=by
  unfold Hid wantF;have:now≠0:=by omega
  simp [this]
 have d0:(now !=0)=true:=by rw [bne_iff_ne];omega
 generalize wantF now tol t.k t.tg len X=wn at HW⊢;generalize decide (t.ac<metF t.k len X)=ac at co;generalize podF t.k t.tg len X=pd at co HW;generalize nearF (metF t.k len X) (mulc (clip now) (clip t.tg)) tol=nr at cn HW;generalize metF t.k len X=me at cm cn;generalize mulc (clip now) (clip t.tg)=mu at cu cn;clear hd hk hX ht hm hmb hmg hu;cases nr
 ·go_enter func178,ntmps178
  go_wp2_with (first
   |(with_reducible refine wp_tr (hA _ _) (by with_unfolding_all rfl) ?_)
   |(go_at_call 192;(with_reducible refine zg (cc _) fun w1 hb1=>?_);have hK:=(Box2.mk2 w t false (.slice a len cap) _ _).next hb1;have hA1:=hK.tr;have r0:=hK.r0;have r1:=hK.r1)
   |(with_reducible refine wp_tr hA1 (by with_unfolding_all rfl) ?_)
   |(go_at_call 193;(with_reducible refine zg (co _ hK.bw) fun w2 hb2=>?_)))
  have hK3:=(hK.next hb2).next (balloc (w:=w2) (.cells #[.int .i64 pd,.bool ac] 178));have n0:(w2.alloc (.cells #[.int .i64 pd,.bool ac] 178)).cell? ⟨w2.heap.size,0,none⟩=some (.int .i64 pd):=cellA rfl;have nl:w2.heap.size<(w2.alloc (.cells #[.int .i64 pd,.bool ac] 178)).heap.size:=by simp
  generalize (w2.alloc (.cells #[.int .i64 pd,.bool ac] 178))=w3 at hK3 n0 nl⊢;clear hK hA1 r0 r1 hb1 hb2 hA cc co;have hKd:=hK3.next ((Below.refl _ w3).drew);have HS:(fun W:World=>TrAt W w.heap.size 0 t∧W.cell? ⟨w.heap.size+1,0,none⟩=some (.bool false)∧W.cell? ⟨w.heap.size+1,1,none⟩=some (.slice a len cap)∧W.cell? ⟨w.heap.size,1,none⟩=some (.int .i64 t.tg)) w3.drew:=⟨hKd.tr,hKd.r0,hKd.r1,hKd.tr.c1⟩
  have nd:w3.drew.cell? ⟨w2.heap.size,0,none⟩=some (.int .i64 pd):=n0;have nk:w2.heap.size<w3.drew.heap.size:=nl;clear hK3 n0 nl;refine wp_region_held_drew (S:=fun W:World=>TrAt W w.heap.size 0 t∧W.cell? ⟨w.heap.size+1,0,none⟩=some (.bool false)∧W.cell? ⟨w.heap.size+1,1,none⟩=some (.slice a len cap)∧W.cell? ⟨w.heap.size,1,none⟩=some (.int .i64 t.tg)) (by kernel_rfl) HS (fun hHeld=> ?_);clear HS;refine Tk.gi 0 ?_;(try simp only [Act.put,ar,ag]);refine Tk.gi 1 ?_;(try simp only [Act.put,ar,ag]);refine Tk.gi 2 ?_;(try simp only [Act.put,ar,ag]);refine Tk.gi 3 (v:=trV t) ?_ (hy:=yieldsIf_load_mid (by rfl) 84 (.tmp 6) rfl w.heap.size 0 (by with_unfolding_all rfl) [.int .i64 t.k,.int .i64 t.tg,.int .i64 t.ac,.int .u64 t.a.mi,.int .u64 t.a.ho,.int .u64 t.a.da,.int .u64 t.a.mn,.int .u64 t.a.we,.bool t.a.ad,.bool t.a.aw,.int .u64 t.b.mi,.int .u64 t.b.ho,.int .u64 t.b.da,.int .u64 t.b.mn,.int .u64 t.b.we,.bool t.b.ad,.bool t.b.aw] _ (fun W h=>range_tr h.1) underlying84 rfl (by kernel_rfl));(try simp only [Act.put,ar,ag]);refine Tk.gi 4 ?_;(try simp only [Act.put,ar,ag]);refine Tk.gi 6 ?_;(try simp only [Act.put,ar,ag]);refine Tk.gi 7 ?_;(try simp only [Act.put,ar,ag]);refine Tk.gi 8 ?_;(try simp only [Act.put,ar,ag]);refine Tk.gi 10 ?_;(try simp only [Act.put,ar,ag]);refine Tk.r1 5 fun K hK=> ?_;go_simp;go_wp2_with(go_at_call 196;(with_reducible refine zg (cm _ hKd.bw) fun w4 hb4=>?_);have hK4:=hKd.next hb4;have n4:=((bcell hb4).1 w2.heap.size 0 nk).trans nd)
  refine hK.out _ _ ⟨hK4.tr,hK4.r0,hK4.r1,hK4.tr.c1⟩ (fun hHeld=> ?_);clear hK K;(try simp only [Act.put,ar,ag]);refine Tk.r1 9 fun K hK=> ?_;go_simp;go_wp2_with(go_at_call 186;(with_reducible refine zq (cu _) ?_))
  refine hK.out _ _ ⟨hK4.tr,hK4.r0,hK4.r1,hK4.tr.c1⟩ (fun hHeld=> ?_);clear hK K;(try simp only [Act.put,ar,ag]);refine Tk.r1 11 fun K hK=> ?_;go_simp;go_wp2_with(go_at_call 195;(with_reducible refine zq (cn _) ?_))
  refine hK.out _ _ ⟨hK4.tr,hK4.r0,hK4.r1,hK4.tr.c1⟩ (fun hHeld=> ?_);clear hK K;(try simp only [Act.put,ar,ag]);refine Tk.gi 12 ?_;(try simp only [Act.put,ar,ag]);refine wpAnyH_done (by kernel_rfl) ?_ _;go_wp2;go_ret2;exact⟨by rw [HW.out];rfl,hK4.bw⟩
 ·go_enter func178,ntmps178
  go_wp2_with (first
   |(with_reducible refine wp_tr (hA _ _) (by with_unfolding_all rfl) ?_)
   |(go_at_call 192;(with_reducible refine zg (cc _) fun w1 hb1=>?_);have hK:=(Box2.mk2 w t false (.slice a len cap) _ _).next hb1;have hA1:=hK.tr;have r0:=hK.r0;have r1:=hK.r1)
   |(with_reducible refine wp_tr hA1 (by with_unfolding_all rfl) ?_)
   |(go_at_call 193;(with_reducible refine zg (co _ hK.bw) fun w2 hb2=>?_)))
  have hK3:=(hK.next hb2).next (balloc (w:=w2) (.cells #[.int .i64 pd,.bool ac] 178));have n0:(w2.alloc (.cells #[.int .i64 pd,.bool ac] 178)).cell? ⟨w2.heap.size,0,none⟩=some (.int .i64 pd):=cellA rfl;have nl:w2.heap.size<(w2.alloc (.cells #[.int .i64 pd,.bool ac] 178)).heap.size:=by simp
  generalize (w2.alloc (.cells #[.int .i64 pd,.bool ac] 178))=w3 at hK3 n0 nl⊢;clear hK hA1 r0 r1 hb1 hb2 hA cc co;have hKd:=hK3.next ((Below.refl _ w3).drew);have HS:(fun W:World=>TrAt W w.heap.size 0 t∧W.cell? ⟨w.heap.size+1,0,none⟩=some (.bool false)∧W.cell? ⟨w.heap.size+1,1,none⟩=some (.slice a len cap)∧W.cell? ⟨w.heap.size,1,none⟩=some (.int .i64 t.tg)) w3.drew:=⟨hKd.tr,hKd.r0,hKd.r1,hKd.tr.c1⟩
  have nd:w3.drew.cell? ⟨w2.heap.size,0,none⟩=some (.int .i64 pd):=n0;have nk:w2.heap.size<w3.drew.heap.size:=nl;clear hK3 n0 nl;refine wp_region_held_drew (S:=fun W:World=>TrAt W w.heap.size 0 t∧W.cell? ⟨w.heap.size+1,0,none⟩=some (.bool false)∧W.cell? ⟨w.heap.size+1,1,none⟩=some (.slice a len cap)∧W.cell? ⟨w.heap.size,1,none⟩=some (.int .i64 t.tg)) (by kernel_rfl) HS (fun hHeld=> ?_);clear HS;refine Tk.gi 0 ?_;(try simp only [Act.put,ar,ag]);refine Tk.gi 1 ?_;(try simp only [Act.put,ar,ag]);refine Tk.gi 2 ?_;(try simp only [Act.put,ar,ag]);refine Tk.gi 3 (v:=trV t) ?_ (hy:=yieldsIf_load_mid (by rfl) 84 (.tmp 6) rfl w.heap.size 0 (by with_unfolding_all rfl) [.int .i64 t.k,.int .i64 t.tg,.int .i64 t.ac,.int .u64 t.a.mi,.int .u64 t.a.ho,.int .u64 t.a.da,.int .u64 t.a.mn,.int .u64 t.a.we,.bool t.a.ad,.bool t.a.aw,.int .u64 t.b.mi,.int .u64 t.b.ho,.int .u64 t.b.da,.int .u64 t.b.mn,.int .u64 t.b.we,.bool t.b.ad,.bool t.b.aw] _ (fun W h=>range_tr h.1) underlying84 rfl (by kernel_rfl));(try simp only [Act.put,ar,ag]);refine Tk.gi 4 ?_;(try simp only [Act.put,ar,ag]);refine Tk.gi 6 ?_;(try simp only [Act.put,ar,ag]);refine Tk.gi 7 ?_;(try simp only [Act.put,ar,ag]);refine Tk.gi 8 ?_;(try simp only [Act.put,ar,ag]);refine Tk.gi 10 ?_;(try simp only [Act.put,ar,ag]);refine Tk.r1 5 fun K hK=> ?_;go_simp;go_wp2_with(go_at_call 196;(with_reducible refine zg (cm _ hKd.bw) fun w4 hb4=>?_);have hK4:=hKd.next hb4;have n4:=((bcell hb4).1 w2.heap.size 0 nk).trans nd)
  refine hK.out _ _ ⟨hK4.tr,hK4.r0,hK4.r1,hK4.tr.c1⟩ (fun hHeld=> ?_);clear hK K;(try simp only [Act.put,ar,ag]);refine Tk.r1 9 fun K hK=> ?_;go_simp;go_wp2_with(go_at_call 186;(with_reducible refine zq (cu _) ?_))
  refine hK.out _ _ ⟨hK4.tr,hK4.r0,hK4.r1,hK4.tr.c1⟩ (fun hHeld=> ?_);clear hK K;(try simp only [Act.put,ar,ag]);refine Tk.r1 11 fun K hK=> ?_;go_simp;go_wp2_with(go_at_call 195;(with_reducible refine zq (cn _) ?_))
  refine hK.out _ _ ⟨hK4.tr,hK4.r0,hK4.r1,hK4.tr.c1⟩ (fun hHeld=> ?_);clear hK K;(try simp only [Act.put,ar,ag]);refine Tk.gi 12 ?_;(try simp only [Act.put,ar,ag]);refine wpAnyH_done (by kernel_rfl) ?_ _;go_wp2;go_ret2;exact⟨by rw [HW.out];rfl,hK4.bw⟩
end Ned
namespace RCrn
open Go.RowKit Lai Civ Cal Crn RCiv
variable {W:World} {a:Addr} {v:Value}

theorem keep_alloc {o:Obj} (h:W.cell? a=some v):(W.alloc o).cell? a=some v:=by
 rw [World.cell?_alloc_some _ _ _ (by rw [h];rfl)];exact h
theorem keep_drew (h:W.cell? a=some v):W.drew.cell? a=some v:=h

theorem new1 (X:World) (D:Array Value) (t:TypeId) (o:Nat):(X.alloc (.cells D t)).cell? ⟨X.heap.size,o,none⟩=D[o]? :=by simp
theorem new3 (W:World) (A B C:Array Value) (ta tb tc:TypeId):
  (∀o,(((W.alloc (.cells A ta)).alloc (.cells B tb)).alloc (.cells C tc)).drew.cell? ⟨W.heap.size,o,none⟩=A[o]?)∧
  (∀o,(((W.alloc (.cells A ta)).alloc (.cells B tb)).alloc (.cells C tc)).drew.cell? ⟨W.heap.size+1,o,none⟩=B[o]?)∧
  (∀o,(((W.alloc (.cells A ta)).alloc (.cells B tb)).alloc (.cells C tc)).drew.cell? ⟨W.heap.size+1+1,o,none⟩=C[o]?)∧
  W.heap.size+1+1<(((W.alloc (.cells A ta)).alloc (.cells B tb)).alloc (.cells C tc)).drew.heap.size∧
  Below W.heap.size W (((W.alloc (.cells A ta)).alloc (.cells B tb)).alloc (.cells C tc)).drew:=by
 refine⟨fun o=> ?_,fun o=> ?_,fun o=> ?_,?_,?_⟩
 ·show(((W.alloc (.cells A ta)).alloc (.cells B tb)).alloc (.cells C tc)).cell? _=_;rw [(bcell (balloc _)).1 _ _ (by simp;omega),(bcell (balloc _)).1 _ _ (by simp)];simp
 ·show(((W.alloc (.cells A ta)).alloc (.cells B tb)).alloc (.cells C tc)).cell? _=_;rw [(bcell (balloc _)).1 _ _ (by simp)];have e:W.heap.size+1=(W.alloc (.cells A ta)).heap.size:=by simp
  rw [e];simp
 ·show(((W.alloc (.cells A ta)).alloc (.cells B tb)).alloc (.cells C tc)).cell? _=_;have e:W.heap.size+1+1=((W.alloc (.cells A ta)).alloc (.cells B tb)).heap.size:=by simp
  rw [e];exact new1 _ _ _ _
 ·show _<(((W.alloc (.cells A ta)).alloc (.cells B tb)).alloc (.cells C tc)).heap.size;simp
 ·exact((((Below.refl _ _).alloc (Xa _) _).alloc (by simp) _).alloc (by simp;omega) _).drew

theorem rsets_any (mi ho da mo we:Int) (ad aw:Bool) (w:World):
  Calls prog 104 #[cronV mi ho da mo we ad aw] w fun e w'=> ∃p q r:Nat,e=.returned (.tuple #[.slice (some ⟨p,0,none⟩) 5 5,.slice (some ⟨q,0,none⟩) 5 5,.slice (some ⟨r,0,none⟩) 5 5])∧p<w'.heap.size∧q<w'.heap.size∧r<w'.heap.size∧
   (∀o,w'.cell? ⟨p,o,none⟩=(#[Value.int .u64 mi,.int .u64 ho,.int .u64 da,.int .u64 mo,.int .u64 we])[o]?)∧
   (∀o,w'.cell? ⟨q,o,none⟩=(#[Value.int .i64 0,.int .i64 59,.int .i64 0,.int .i64 23,.int .i64 1,.int .i64 31,.int .i64 1,.int .i64 12,.int .i64 0,.int .i64 6])[o]?)∧
   (∀o,w'.cell? ⟨r,o,none⟩=(#[Value.bool false,.bool false,.bool ad,.bool false,.bool aw])[o]?)∧Below w.heap.size w w':=by
 go_enter func104,ntmps104;go_wp2;obtain⟨w0,hw0⟩: ∃w0,w0=w.alloc (Obj.cells #[Value.int .u64 mi,.int .u64 ho,.int .u64 da,.int .u64 mo,.int .u64 we,.bool ad,.bool aw] 80):=⟨_,rfl⟩
 have h0:w0.cell? ⟨w.heap.size,0,none⟩=some (.int .u64 mi):=by rw [hw0];simp
 have h1:w0.cell? ⟨w.heap.size,1,none⟩=some (.int .u64 ho):=by rw [hw0];simp
 have h2:w0.cell? ⟨w.heap.size,2,none⟩=some (.int .u64 da):=by rw [hw0];simp
 have h3:w0.cell? ⟨w.heap.size,3,none⟩=some (.int .u64 mo):=by rw [hw0];simp
 have h4:w0.cell? ⟨w.heap.size,4,none⟩=some (.int .u64 we):=by rw [hw0];simp
 have h5:w0.cell? ⟨w.heap.size,5,none⟩=some (.bool ad):=by rw [hw0];simp
 have h6:w0.cell? ⟨w.heap.size,6,none⟩=some (.bool aw):=by rw [hw0];simp
 have z0:w.heap.size<w0.heap.size:=by rw [hw0];simp
 have z1:w.heap.size<w0.heap.size+1:=by omega
 have z2:w.heap.size<w0.heap.size+1+1:=by omega
 have hbel:Hid (Below w.heap.size w w0):=by rw [hw0];exact balloc _
 rw [←hw0];clear hw0;go_region_held (fun w'=>w'.cell? ⟨w.heap.size,0,none⟩=some (.int .u64 mi)∧w'.cell? ⟨w.heap.size,1,none⟩=some (.int .u64 ho)∧w'.cell? ⟨w.heap.size,2,none⟩=some (.int .u64 da)∧w'.cell? ⟨w.heap.size,3,none⟩=some (.int .u64 mo)∧w'.cell? ⟨w.heap.size,4,none⟩=some (.int .u64 we)∧w'.cell? ⟨w.heap.size,5,none⟩=some (.bool ad)∧w'.cell? ⟨w.heap.size,6,none⟩=some (.bool aw)) ((refine⟨?_,?_,?_,?_,?_,?_,?_⟩<;>with_reducible refine keep_drew ?_)<;>((repeat with_reducible refine keep_alloc ?_)<;>assumption)) (fail)
 all_goals
  go_wp2;go_ret3
  refine⟨_,_,_,rfl,?_,?_,?_,?_,?_,?_,?_⟩
 all_goals first
  |exact(new3 w0 _ _ _ _ _ _).2.2.2.1
  |exact Nat.lt_trans (Xo _) (new3 w0 _ _ _ _ _ _).2.2.2.1
  |exact Nat.lt_trans (Xo _) (Nat.lt_trans (Xo _) (new3 w0 _ _ _ _ _ _).2.2.2.1)
  |exact(new3 w0 _ _ _ _ _ _).1
  |exact(new3 w0 _ _ _ _ _ _).2.1
  |exact(new3 w0 _ _ _ _ _ _).2.2.1
  |exact hbel.out.trans ((new3 w0 _ _ _ _ _ _).2.2.2.2.mono (Xw z0))

/-- the cells of the three slices, and the world's growth -/
def Laid3 (mi ho da mn we:Int) (ad aw:Bool) (p q r:Nat) (w wr:World):Prop:=p<wr.heap.size∧q<wr.heap.size∧r<wr.heap.size∧(∀o,wr.cell? ⟨p,o,none⟩=(#[Value.int .u64 mi,.int .u64 ho,.int .u64 da,.int .u64 mn,.int .u64 we])[o]?)∧(∀o,wr.cell? ⟨q,o,none⟩=(#[Value.int .i64 0,.int .i64 59,.int .i64 0,.int .i64 23,.int .i64 1,.int .i64 31,.int .i64 1,.int .i64 12,.int .i64 0,.int .i64 6])[o]?)∧(∀o,wr.cell? ⟨r,o,none⟩=(#[Value.bool false,.bool false,.bool ad,.bool false,.bool aw])[o]?)∧Below w.heap.size w wr
/-- the state of the round over the numbers -/
def ScanR (S lo hi mi ho da mn we:Int) (ad aw:Bool) (p q r:Nat) (w:World) (u v n:Value) (wr:World):Prop:= ∃(x y:Bool) (m:Int),u=.bool x∧v=.bool y∧n=.int .i64 m∧0≤m∧m≤64∧Scan S lo hi m x y∧Laid3 mi ho da mn we ad aw p q r w wr
theorem laid_drewN {mi ho da mn we:Int} {ad aw:Bool} {p q r:Nat} {w wr:World} (h:Laid3 mi ho da mn we ad aw p q r w wr) (n:Nat):Laid3 mi ho da mn we ad aw p q r w (wr.drewN n):=by
  obtain⟨h1,h2,h3,h4,h5,h6,h7⟩:=h;have b:Below wr.heap.size wr (wr.drewN n):=bdrewN (Below.refl _ _) n;have s:=b.size;exact⟨by omega,by omega,by omega,fun o=>((bcell b).1 _ _ h1).trans (h4 o),fun o=>((bcell b).1 _ _ h2).trans (h5 o),fun o=>((bcell b).1 _ _ h3).trans (h6 o),bdrewN h7 n⟩
theorem in_dec {n lo hi:Int} {y:Bool} (h:decide (lo≤n∧n≤hi)=y) (w:World):CS 6 #[.int .i64 n,.int .i64 lo,.int .i64 hi] w (.bool y):=by
  have:=in_any n lo hi w;rwa [show inB n lo hi=y from h]at this
theorem has_dec {s n:Int} {x:Bool} (h0:U s) (h:inS s n=x) (w:World):CS 105 #[.int .u64 s,.int .i64 n] w (.bool x):=by
  have:=rhas_any s n w h0;rwa [h]at this

theorem rcron_any (mi ho da mn we:Int) (ad aw:Bool) (w:World) (b0:U mi) (b1:U ho) (b2:U da) (b3:U mn) (b4:U we):
    CB 60 #[cronV mi ho da mn we ad aw] w (.int .i64 (chkE mi ho da mn we ad aw)):=by
  have HB:Hid (U mi∧U ho∧U da∧U mn∧U we):=⟨b0,b1,b2,b3,b4⟩
  clear b0 b1 b2 b3 b4;go_enter func60,ntmps60;go_wp2_with(go_at_call 104;(with_reducible refine(rsets_any _ _ _ _ _ _ _ _).mono ?_);rintro e w1 ⟨p,q,r,rfl,hp,hq,hr,hP,hQ,hR,hb1⟩;have hL:Hid (Laid3 mi ho da mn we ad aw p q r w w1):=⟨hp,hq,hr,hP,hQ,hR,(balloc _).trans (hb1.mono (by simp))⟩;clear hp hq hr hP hQ hR hb1)
  go_loopw [6] (fun i wr=> ∃k:Nat,k≤5∧i=.int .i64 k∧(∀j,j<k→okK mi ho da mn we ad aw j=true)∧Laid3 mi ho da mn we ad aw p q r w wr) (fun i _=>(5-intOf i).toNat)
  case atStart=>exact⟨0,by omega,rfl,fun j hj=>absurd hj (by omega),hL.out⟩
  case round=>
    clear hL;obtain⟨k,hk,rfl,hOK0,hL0⟩:=hrel;have hOK:=zh hOK0;have hL:=zh hL0;clear hOK0 hL0;have hk5:k=0∨k=1∨k=2∨k=3∨k=4∨k=5:=(by omega);rcases hk5 with rfl|rfl|rfl|rfl|rfl|rfl
    · have hS:U mi:=HB.out.1
      have hF:0≤fMin∧fMin≤18446744073709551615:=(by decide);have HS:=zh hS;clear hF hS;go_wp2;go_loopw [7,8,9] (fun u v n wr=>ScanR mi 0 59 mi ho da mn we ad aw p q r w u v n wr) (fun _ _ n _=>(64-intOf n).toNat)
      case atStart=>exact⟨false,true,0,rfl,rfl,rfl,by omega,by omega,scan_0 _ _ _,hL.out⟩
      case round=>
        clear hL;obtain⟨u,v,m,rfl,rfl,rfl,hm0,hm1,hSc0,hL0⟩:=hrel;have hSc:=zh hSc0;have hL:=zh hL0;obtain⟨hp,hq,hr,hP,hQ,hR,hb⟩:=hL0;clear hSc0 hb;by_cases hlt:m<64
        · cases hx:inS mi m<;>cases hy:decide ((0:Int)≤m∧m≤59)
          case true.false=>
            have cH:=has_dec HS.out hx;have cI:=in_dec hy;have HE:Hid (okK mi ho da mn we ad aw 0=false):=scan_bad HS.out (by decide) full_min hx hy;clear hx hy;go_wp2;go_quiet (first|(go_at_call 6;with_reducible refine Calls.quiet_of_same (cI _)))
            go_wp2_with(go_at_call 105;(with_reducible refine(cH _).mono ?_);rintro e w' ⟨rfl,rfl⟩)
            go_ret;exact⟨Civ.ret_int (chkE_bad 0 HE.out),(laid_drewN hL.out _).2.2.2.2.2.2⟩
          all_goals
            have cH:=has_dec HS.out hx;have cI:=in_dec hy;have HX:=zh hx;have HY:=zh hy;clear hx hy;cases u<;>cases v
            all_goals
              go_wp2;go_quiet (first|(go_at_call 6;with_reducible refine Calls.quiet_of_same (cI _)))
              go_wp2_with(go_at_call 105;(with_reducible refine(cH _).mono ?_);rintro e w' ⟨rfl,rfl⟩)
              refine⟨?_,?measure⟩;(repeat apply Exists.intro);refine⟨?rel,rfl⟩
              case rel=>exact⟨_,_,m+1,rfl,rfl,rfl,by omega,by omega,scan_step hSc.out HX.out HY.out rfl,laid_drewN hL.out _⟩
              case measure=>simp [intOf];omega
        · obtain rfl:m=64:=by omega
          have HE:Hid (okK mi ho da mn we ad aw 0= !(!u||(false&& !v))):=scan_end HS.out (by decide) full_min (by decide) (by decide) hSc.out;cases u<;>cases v<;>skip
          all_goals
            go_wp2
            first
              |(go_ret;exact⟨Civ.ret_int (chkE_bad 0 HE.out),hL.out.2.2.2.2.2.2⟩)
              | (go_roundw
                 case rel=>exact⟨0+1,by omega,rfl,ok_step hOK.out HE.out,hL.out⟩
                 case measure=>simp [intOf])
    · have hS:U ho:=HB.out.2.1
      have hF:0≤fHour∧fHour≤18446744073709551615:=(by decide);have HS:=zh hS;clear hF hS;go_wp2;go_loopw [7,8,9] (fun u v n wr=>ScanR ho 0 23 mi ho da mn we ad aw p q r w u v n wr) (fun _ _ n _=>(64-intOf n).toNat)
      case atStart=>exact⟨false,true,0,rfl,rfl,rfl,by omega,by omega,scan_0 _ _ _,hL.out⟩
      case round=>
        clear hL;obtain⟨u,v,m,rfl,rfl,rfl,hm0,hm1,hSc0,hL0⟩:=hrel;have hSc:=zh hSc0;have hL:=zh hL0;obtain⟨hp,hq,hr,hP,hQ,hR,hb⟩:=hL0;clear hSc0 hb;by_cases hlt:m<64
        · cases hx:inS ho m<;>cases hy:decide ((0:Int)≤m∧m≤23)
          case true.false=>
            have cH:=has_dec HS.out hx;have cI:=in_dec hy;have HE:Hid (okK mi ho da mn we ad aw 1=false):=scan_bad HS.out (by decide) full_hour hx hy;clear hx hy;go_wp2;go_quiet (first|(go_at_call 6;with_reducible refine Calls.quiet_of_same (cI _)))
            go_wp2_with(go_at_call 105;(with_reducible refine(cH _).mono ?_);rintro e w' ⟨rfl,rfl⟩)
            go_ret;exact⟨Civ.ret_int (chkE_bad 1 HE.out),(laid_drewN hL.out _).2.2.2.2.2.2⟩
          all_goals
            have cH:=has_dec HS.out hx;have cI:=in_dec hy;have HX:=zh hx;have HY:=zh hy;clear hx hy;cases u<;>cases v
            all_goals
              go_wp2;go_quiet (first|(go_at_call 6;with_reducible refine Calls.quiet_of_same (cI _)))
              go_wp2_with(go_at_call 105;(with_reducible refine(cH _).mono ?_);rintro e w' ⟨rfl,rfl⟩)
              refine⟨?_,?measure⟩;(repeat apply Exists.intro);refine⟨?rel,rfl⟩
              case rel=>exact⟨_,_,m+1,rfl,rfl,rfl,by omega,by omega,scan_step hSc.out HX.out HY.out rfl,laid_drewN hL.out _⟩
              case measure=>simp [intOf];omega
        · obtain rfl:m=64:=by omega
          have HE:Hid (okK mi ho da mn we ad aw 1= !(!u||(false&& !v))):=scan_end HS.out (by decide) full_hour (by decide) (by decide) hSc.out;cases u<;>cases v<;>skip
          all_goals
            go_wp2
            first
              |(go_ret;exact⟨Civ.ret_int (chkE_bad 1 HE.out),hL.out.2.2.2.2.2.2⟩)
              | (go_roundw
                 case rel=>exact⟨1+1,by omega,rfl,ok_step hOK.out HE.out,hL.out⟩
                 case measure=>simp [intOf])
    · have hS:U da:=HB.out.2.2.1
      have hF:0≤fDay∧fDay≤18446744073709551615:=(by decide);have HS:=zh hS;clear hF hS;go_wp2;go_loopw [7,8,9] (fun u v n wr=>ScanR da 1 31 mi ho da mn we ad aw p q r w u v n wr) (fun _ _ n _=>(64-intOf n).toNat)
      case atStart=>exact⟨false,true,0,rfl,rfl,rfl,by omega,by omega,scan_0 _ _ _,hL.out⟩
      case round=>
        clear hL;obtain⟨u,v,m,rfl,rfl,rfl,hm0,hm1,hSc0,hL0⟩:=hrel;have hSc:=zh hSc0;have hL:=zh hL0;obtain⟨hp,hq,hr,hP,hQ,hR,hb⟩:=hL0;clear hSc0 hb;by_cases hlt:m<64
        · cases hx:inS da m<;>cases hy:decide ((1:Int)≤m∧m≤31)
          case true.false=>
            have cH:=has_dec HS.out hx;have cI:=in_dec hy;have HE:Hid (okK mi ho da mn we ad aw 2=false):=scan_bad HS.out (by decide) full_day hx hy;clear hx hy;go_wp2;go_quiet (first|(go_at_call 6;with_reducible refine Calls.quiet_of_same (cI _)))
            go_wp2_with(go_at_call 105;(with_reducible refine(cH _).mono ?_);rintro e w' ⟨rfl,rfl⟩)
            go_ret;exact⟨Civ.ret_int (chkE_bad 2 HE.out),(laid_drewN hL.out _).2.2.2.2.2.2⟩
          all_goals
            have cH:=has_dec HS.out hx;have cI:=in_dec hy;have HX:=zh hx;have HY:=zh hy;clear hx hy;cases u<;>cases v
            all_goals
              go_wp2;go_quiet (first|(go_at_call 6;with_reducible refine Calls.quiet_of_same (cI _)))
              go_wp2_with(go_at_call 105;(with_reducible refine(cH _).mono ?_);rintro e w' ⟨rfl,rfl⟩)
              refine⟨?_,?measure⟩;(repeat apply Exists.intro);refine⟨?rel,rfl⟩
              case rel=>exact⟨_,_,m+1,rfl,rfl,rfl,by omega,by omega,scan_step hSc.out HX.out HY.out rfl,laid_drewN hL.out _⟩
              case measure=>simp [intOf];omega
        · obtain rfl:m=64:=by omega
          have HE:Hid (okK mi ho da mn we ad aw 2= !(!u||(ad&& !v))):=scan_end HS.out (by decide) full_day (by decide) (by decide) hSc.out;cases u<;>cases v<;>(cases ad<;>skip)
          all_goals
            go_wp2
            first
              |(go_ret;exact⟨Civ.ret_int (chkE_bad 2 HE.out),hL.out.2.2.2.2.2.2⟩)
              | (go_roundw
                 case rel=>exact⟨2+1,by omega,rfl,ok_step hOK.out HE.out,hL.out⟩
                 case measure=>simp [intOf])
    · have hS:U mn:=HB.out.2.2.2.1
      have hF:0≤fMon∧fMon≤18446744073709551615:=(by decide);have HS:=zh hS;clear hF hS;go_wp2;go_loopw [7,8,9] (fun u v n wr=>ScanR mn 1 12 mi ho da mn we ad aw p q r w u v n wr) (fun _ _ n _=>(64-intOf n).toNat)
      case atStart=>exact⟨false,true,0,rfl,rfl,rfl,by omega,by omega,scan_0 _ _ _,hL.out⟩
      case round=>
        clear hL;obtain⟨u,v,m,rfl,rfl,rfl,hm0,hm1,hSc0,hL0⟩:=hrel;have hSc:=zh hSc0;have hL:=zh hL0;obtain⟨hp,hq,hr,hP,hQ,hR,hb⟩:=hL0;clear hSc0 hb;by_cases hlt:m<64
        · cases hx:inS mn m<;>cases hy:decide ((1:Int)≤m∧m≤12)
          case true.false=>
            have cH:=has_dec HS.out hx;have cI:=in_dec hy;have HE:Hid (okK mi ho da mn we ad aw 3=false):=scan_bad HS.out (by decide) full_mon hx hy;clear hx hy;go_wp2;go_quiet (first|(go_at_call 6;with_reducible refine Calls.quiet_of_same (cI _)))
            go_wp2_with(go_at_call 105;(with_reducible refine(cH _).mono ?_);rintro e w' ⟨rfl,rfl⟩)
            go_ret;exact⟨Civ.ret_int (chkE_bad 3 HE.out),(laid_drewN hL.out _).2.2.2.2.2.2⟩
          all_goals
            have cH:=has_dec HS.out hx;have cI:=in_dec hy;have HX:=zh hx;have HY:=zh hy;clear hx hy;cases u<;>cases v
            all_goals
              go_wp2;go_quiet (first|(go_at_call 6;with_reducible refine Calls.quiet_of_same (cI _)))
              go_wp2_with(go_at_call 105;(with_reducible refine(cH _).mono ?_);rintro e w' ⟨rfl,rfl⟩)
              refine⟨?_,?measure⟩;(repeat apply Exists.intro);refine⟨?rel,rfl⟩
              case rel=>exact⟨_,_,m+1,rfl,rfl,rfl,by omega,by omega,scan_step hSc.out HX.out HY.out rfl,laid_drewN hL.out _⟩
              case measure=>simp [intOf];omega
        · obtain rfl:m=64:=by omega
          have HE:Hid (okK mi ho da mn we ad aw 3= !(!u||(false&& !v))):=scan_end HS.out (by decide) full_mon (by decide) (by decide) hSc.out;cases u<;>cases v<;>skip
          all_goals
            go_wp2
            first
              |(go_ret;exact⟨Civ.ret_int (chkE_bad 3 HE.out),hL.out.2.2.2.2.2.2⟩)
              | (go_roundw
                 case rel=>exact⟨3+1,by omega,rfl,ok_step hOK.out HE.out,hL.out⟩
                 case measure=>simp [intOf])
    · have hS:U we:=HB.out.2.2.2.2
      have hF:0≤fWeek∧fWeek≤18446744073709551615:=(by decide);have HS:=zh hS;clear hF hS;go_wp2;go_loopw [7,8,9] (fun u v n wr=>ScanR we 0 6 mi ho da mn we ad aw p q r w u v n wr) (fun _ _ n _=>(64-intOf n).toNat)
      case atStart=>exact⟨false,true,0,rfl,rfl,rfl,by omega,by omega,scan_0 _ _ _,hL.out⟩
      case round=>
        clear hL;obtain⟨u,v,m,rfl,rfl,rfl,hm0,hm1,hSc0,hL0⟩:=hrel;have hSc:=zh hSc0;have hL:=zh hL0;obtain⟨hp,hq,hr,hP,hQ,hR,hb⟩:=hL0;clear hSc0 hb;by_cases hlt:m<64
        · cases hx:inS we m<;>cases hy:decide ((0:Int)≤m∧m≤6)
          case true.false=>
            have cH:=has_dec HS.out hx;have cI:=in_dec hy;have HE:Hid (okK mi ho da mn we ad aw 4=false):=scan_bad HS.out (by decide) full_week hx hy;clear hx hy;go_wp2;go_quiet (first|(go_at_call 6;with_reducible refine Calls.quiet_of_same (cI _)))
            go_wp2_with(go_at_call 105;(with_reducible refine(cH _).mono ?_);rintro e w' ⟨rfl,rfl⟩)
            go_ret;exact⟨Civ.ret_int (chkE_bad 4 HE.out),(laid_drewN hL.out _).2.2.2.2.2.2⟩
          all_goals
            have cH:=has_dec HS.out hx;have cI:=in_dec hy;have HX:=zh hx;have HY:=zh hy;clear hx hy;cases u<;>cases v
            all_goals
              go_wp2;go_quiet (first|(go_at_call 6;with_reducible refine Calls.quiet_of_same (cI _)))
              go_wp2_with(go_at_call 105;(with_reducible refine(cH _).mono ?_);rintro e w' ⟨rfl,rfl⟩)
              refine⟨?_,?measure⟩;(repeat apply Exists.intro);refine⟨?rel,rfl⟩
              case rel=>exact⟨_,_,m+1,rfl,rfl,rfl,by omega,by omega,scan_step hSc.out HX.out HY.out rfl,laid_drewN hL.out _⟩
              case measure=>simp [intOf];omega
        · obtain rfl:m=64:=by omega
          have HE:Hid (okK mi ho da mn we ad aw 4= !(!u||(aw&& !v))):=scan_end HS.out (by decide) full_week (by decide) (by decide) hSc.out;cases u<;>cases v<;>(cases aw<;>skip)
          all_goals
            go_wp2
            first
              |(go_ret;exact⟨Civ.ret_int (chkE_bad 4 HE.out),hL.out.2.2.2.2.2.2⟩)
              | (go_roundw
                 case rel=>exact⟨4+1,by omega,rfl,ok_step hOK.out HE.out,hL.out⟩
                 case measure=>simp [intOf])
    · go_wp2
      go_ret;exact⟨Civ.ret_int (chkE_good hOK.out),hL.out.2.2.2.2.2.2⟩
end RCrn
namespace RCrn
open Go.RowKit Lai Civ Cal Crn RCiv Rst

section
variable (a b : K) (w : World)
theorem rcronK (u:Us a) (r:Int) (h:(if kc a=true then 0 else 1)=r):CB 60 #[kV a] w (.int .i64 r):=by
 have:=rcron_any a.mi a.ho a.da a.mn a.we a.ad a.aw w u.u0 u.u1 u.u2 u.u3 u.u4;rwa [show chkE a.mi a.ho a.da a.mn a.we a.ad a.aw=r from h]at this

theorem rspan_yes (ua:Us a) (ub:Us b) (ha:kc a=true) (hb:kc b=true):
  CB 17 #[spanV a b] w (.int .i64 0):=by
 have c1:=fun w=>rcronK a w ua 0 (by rw [ha];rfl);have c2:=fun w=>rcronK b w ub 0 (by rw [hb];rfl);clear ha hb ua ub;go_enter func17,ntmps17
 go_wp2_with (first
  |(go_at_call 60;(with_reducible refine zg (c1 _) fun w1 hb1=>?_);have hw1:Hid (Below w.heap.size w w1):=(balloc _).trans (hb1.mono (by simp));obtain⟨hc1,hf1⟩:=bcell hb1)
  |(go_at_call 60;(with_reducible refine zg (c2 _) fun w2 hb2=>?_)))
 go_ret;exact⟨rfl,bstep hw1 hb2⟩
theorem rspan_no (ua:Us a) (ub:Us b) (h:kc a=false∨kc b=false):
  CB 17 #[spanV a b] w (.int .i64 1):=by
 cases ha:kc a
 ·have c1:=fun w=>rcronK a w ua 1 (by rw [ha];rfl);clear ha h ua ub;go_enter func17,ntmps17
  go_wp2_with (first
   |(go_at_call 60;(with_reducible refine zg (c1 _) fun w1 hb1=>?_);have hw1:Hid (Below w.heap.size w w1):=(balloc _).trans (hb1.mono (by simp))))
  go_ret;exact⟨rfl,hw1⟩
 ·have hb:kc b=false:=by rcases h with h|h;(rw [ha]at h;cases h);exact h
  have c1:=fun w=>rcronK a w ua 0 (by rw [ha];rfl);have c2:=fun w=>rcronK b w ub 1 (by rw [hb];rfl);clear ha hb h ua ub;go_enter func17,ntmps17
  go_wp2_with (first
   |(go_at_call 60;(with_reducible refine zg (c1 _) fun w1 hb1=>?_);have hw1:Hid (Below w.heap.size w w1):=(balloc _).trans (hb1.mono (by simp));obtain⟨hc1,hf1⟩:=bcell hb1)
   |(go_at_call 60;(with_reducible refine zg (c2 _) fun w2 hb2=>?_)))
  go_ret;exact⟨rfl,bstep hw1 hb2⟩
end
