/- A part. -/
import Derived.Test.YtaekecgbdegemaaGreatDoorPtTak
import Derived.Test.YtaekecgbdegemaaGreatDoorPtPlanCheck
set_option linter.all false
open Go.Proofs.Tryz
set_option maxHeartbeats 32000000
set_option maxRecDepth 8000
namespace Go.Proofs.YtaekecgbdegemaaGreatDoor
namespace RCrn
open Go.RowKit Lai Civ Cal Crn RCiv


end RCrn
namespace Pln
open Go.RowKit Lai Civ Crn
set_option linter.unusedSimpArgs false

end Pln
namespace Ned
open Go.RowKit Plain Num Pln Civ Crn Lai

theorem want_some (now tol:Int) (t:Tr) (a:Option Addr) (len cap:Nat) (X:Nat→Int) (w:World) (hk:t.k=1∨t.k=2) (h1:1≤now) (h2:now≤50) (h3:0≤tol) (h4:tol≤1000) (ht:1≤t.tg) (hm:len≤maxLen) (hX:IntsAt w a len X):
  CB 254 #[.int .i64 now,.int .i64 tol,trV t,rdV false a len cap] w (.tuple #[.int .i64 (wantF now tol t.k t.tg len X),.int .i64 0]):=by
 have cc:=fun w=>counts_any t w;have hd:decide (t.k=1∨t.k=2)=true:=by simp [hk]
 rw [hd]at cc;have hA:=fun ta o=>TrAt.two w t ta o;have co:=fun w' (hb:Below w.heap.size w w')=>ofr_yes t a len cap X w' ht hm (hX.below hb (Xa _));have cm:=fun w' (hb:Below w.heap.size w w')=>metric_any t false a len cap X w' hm (hX.below hb (Xa _));have cu:=fun w=>mul_any now t.tg w;have hmb:=metF_bd t.k len X (fun i hi=>by obtain⟨_,_,_,_,_,b⟩:=hX i hi;exact b.2);have hmg:=metF_ge t.k len X;have hu:=mul_bd (now:=now) (tg:=t.tg) (by omega) ht;have cn:=fun w=>near_any (metF t.k len X) (mulc (clip now) (clip t.tg)) tol w hmg hmb hu.1 hu.2;have HW:Hid (wantF now tol t.k t.tg len X=if nearF (metF t.k len X) (mulc (clip now) (clip t.tg)) tol=true then now else podF t.k t.tg len X):=by
  unfold Hid wantF;have:now≠0:=by omega
  simp [this]
 have d0:(now !=0)=true:=by rw [bne_iff_ne];omega
 generalize wantF now tol t.k t.tg len X=wn at HW⊢;generalize decide (t.ac<metF t.k len X)=ac at co;generalize podF t.k t.tg len X=pd at co HW;generalize nearF (metF t.k len X) (mulc (clip now) (clip t.tg)) tol=nr at cn HW;generalize metF t.k len X=me at cm cn;generalize mulc (clip now) (clip t.tg)=mu at cu cn;clear hd hk hX ht hm hmb hmg hu;cases nr
 ·go_enter func254,ntmps254
  go_wp2_with (first
   |(with_reducible refine wp_tr (hA _ _) (by with_unfolding_all rfl) ?_)
   |(go_at_call 265;(with_reducible refine zg (cc _) fun w1 hb1=>?_);have hK:=(Box2.mk2 w t false (.slice a len cap) _ _).next hb1;have hA1:=hK.tr;have r0:=hK.r0;have r1:=hK.r1)
   |(with_reducible refine wp_tr hA1 (by with_unfolding_all rfl) ?_)
   |(go_at_call 266;(with_reducible refine zg (co _ hK.bw) fun w2 hb2=>?_)))
  have hK3:=(hK.next hb2).next (balloc (w:=w2) (.cells #[.int .i64 pd,.bool ac] 323));have n0:(w2.alloc (.cells #[.int .i64 pd,.bool ac] 323)).cell? ⟨w2.heap.size,0,none⟩=some (.int .i64 pd):=cellA rfl;have nl:w2.heap.size<(w2.alloc (.cells #[.int .i64 pd,.bool ac] 323)).heap.size:=by simp
  generalize (w2.alloc (.cells #[.int .i64 pd,.bool ac] 323))=w3 at hK3 n0 nl⊢;clear hK hA1 r0 r1 hb1 hb2 hA cc co;have hKd:=hK3.next ((Below.refl _ w3).drew);have HS:(fun W:World=>TrAt W w.heap.size 0 t∧W.cell? ⟨w.heap.size+1,0,none⟩=some (.bool false)∧W.cell? ⟨w.heap.size+1,1,none⟩=some (.slice a len cap)∧W.cell? ⟨w.heap.size,1,none⟩=some (.int .i64 t.tg)) w3.drew:=⟨hKd.tr,hKd.r0,hKd.r1,hKd.tr.c1⟩
  have nd:w3.drew.cell? ⟨w2.heap.size,0,none⟩=some (.int .i64 pd):=n0;have nk:w2.heap.size<w3.drew.heap.size:=nl;clear hK3 n0 nl;refine wp_region_held_drew (S:=fun W:World=>TrAt W w.heap.size 0 t∧W.cell? ⟨w.heap.size+1,0,none⟩=some (.bool false)∧W.cell? ⟨w.heap.size+1,1,none⟩=some (.slice a len cap)∧W.cell? ⟨w.heap.size,1,none⟩=some (.int .i64 t.tg)) (by kernel_rfl) HS (fun hHeld=> ?_);clear HS;refine wpAnyH_take (i:=0) (oi:=_) (v:= ?_) rfl (by kernel_rfl) (by kernel_rfl) (by kernel_rfl) (fun _ _ _ h=>h) (Or.inl ⟨by rfl,?_⟩) (by assumption) ?_;rotate_left
  ·intro w' hSw;obtain⟨hs0,hs1,hs2,hs3⟩:=hSw;go_simp;all_goals with_reducible rfl
  (try simp only [Act.put,ar,ag]);refine wpAnyH_take (i:=1) (oi:=_) (v:= ?_) rfl (by kernel_rfl) (by kernel_rfl) (by kernel_rfl) (fun _ _ _ h=>h) (Or.inl ⟨by rfl,?_⟩) (by assumption) ?_;rotate_left
  ·intro w' hSw;obtain⟨hs0,hs1,hs2,hs3⟩:=hSw;go_simp;all_goals with_reducible rfl
  (try simp only [Act.put,ar,ag]);refine wpAnyH_take (i:=2) (oi:=_) (v:= ?_) rfl (by kernel_rfl) (by kernel_rfl) (by kernel_rfl) (fun _ _ _ h=>h) (Or.inl ⟨by rfl,?_⟩) (by assumption) ?_;rotate_left
  ·intro w' hSw;obtain⟨hs0,hs1,hs2,hs3⟩:=hSw;go_simp;all_goals with_reducible rfl
  (try simp only [Act.put,ar,ag]);refine Tk.gi 3 (v:=trV t) ?_ (hy:=yieldsIf_load_mid (by rfl) 171 (.tmp 6) rfl w.heap.size 0 (by with_unfolding_all rfl) [.int .i64 t.k,.int .i64 t.tg,.int .i64 t.ac,.int .u64 t.a.mi,.int .u64 t.a.ho,.int .u64 t.a.da,.int .u64 t.a.mn,.int .u64 t.a.we,.bool t.a.ad,.bool t.a.aw,.int .u64 t.b.mi,.int .u64 t.b.ho,.int .u64 t.b.da,.int .u64 t.b.mn,.int .u64 t.b.we,.bool t.b.ad,.bool t.b.aw] _ (fun W h=>range_tr h.1) underlying171 rfl (by kernel_rfl));(try simp only [Act.put,ar,ag]);refine wpAnyH_take (i:=4) (oi:=_) (v:= ?_) rfl (by kernel_rfl) (by kernel_rfl) (by kernel_rfl) (fun _ _ _ h=>h) (Or.inl ⟨by rfl,?_⟩) (by assumption) ?_;rotate_left
  ·intro w' hSw;obtain⟨hs0,hs1,hs2,hs3⟩:=hSw;go_simp;all_goals with_reducible rfl
  (try simp only [Act.put,ar,ag]);refine wpAnyH_take (i:=6) (oi:=_) (v:= ?_) rfl (by kernel_rfl) (by kernel_rfl) (by kernel_rfl) (fun _ _ _ h=>h) (Or.inl ⟨by rfl,?_⟩) (by assumption) ?_;rotate_left
  ·intro w' hSw;obtain⟨hs0,hs1,hs2,hs3⟩:=hSw;go_simp;all_goals with_reducible rfl
  (try simp only [Act.put,ar,ag]);refine wpAnyH_take (i:=7) (oi:=_) (v:= ?_) rfl (by kernel_rfl) (by kernel_rfl) (by kernel_rfl) (fun _ _ _ h=>h) (Or.inl ⟨by rfl,?_⟩) (by assumption) ?_;rotate_left
  ·intro w' hSw;obtain⟨hs0,hs1,hs2,hs3⟩:=hSw;go_simp;all_goals with_reducible rfl
  (try simp only [Act.put,ar,ag]);refine wpAnyH_take (i:=8) (oi:=_) (v:= ?_) rfl (by kernel_rfl) (by kernel_rfl) (by kernel_rfl) (fun _ _ _ h=>h) (Or.inl ⟨by rfl,?_⟩) (by assumption) ?_;rotate_left
  ·intro w' hSw;obtain⟨hs0,hs1,hs2,hs3⟩:=hSw;go_simp;all_goals with_reducible rfl
  (try simp only [Act.put,ar,ag]);refine wpAnyH_take (i:=10) (oi:=_) (v:= ?_) rfl (by kernel_rfl) (by kernel_rfl) (by kernel_rfl) (fun _ _ _ h=>h) (Or.inl ⟨by rfl,?_⟩) (by assumption) ?_;rotate_left
  ·intro w' hSw;obtain⟨hs0,hs1,hs2,hs3⟩:=hSw;go_simp;all_goals with_reducible rfl
  (try simp only [Act.put,ar,ag]);refine Tk.r1 5 fun K hK=> ?_;go_simp;go_wp2_with(go_at_call 269;(with_reducible refine zg (cm _ hKd.bw) fun w4 hb4=>?_);have hK4:=hKd.next hb4;have n4:=((bcell hb4).1 w2.heap.size 0 nk).trans nd)
  refine hK.out _ _ ⟨hK4.tr,hK4.r0,hK4.r1,hK4.tr.c1⟩ (fun hHeld=> ?_);clear hK K;(try simp only [Act.put,ar,ag]);refine Tk.r1 9 fun K hK=> ?_;go_simp;go_wp2_with(go_at_call 262;(with_reducible refine zq (cu _) ?_))
  refine hK.out _ _ ⟨hK4.tr,hK4.r0,hK4.r1,hK4.tr.c1⟩ (fun hHeld=> ?_);clear hK K;(try simp only [Act.put,ar,ag]);refine Tk.r1 11 fun K hK=> ?_;go_simp;go_wp2_with(go_at_call 268;(with_reducible refine zq (cn _) ?_))
  refine hK.out _ _ ⟨hK4.tr,hK4.r0,hK4.r1,hK4.tr.c1⟩ (fun hHeld=> ?_);clear hK K;(try simp only [Act.put,ar,ag]);refine wpAnyH_take (i:=12) (oi:=_) (v:= ?_) rfl (by kernel_rfl) (by kernel_rfl) (by kernel_rfl) (fun _ _ _ h=>h) (Or.inl ⟨by rfl,?_⟩) (by assumption) ?_;rotate_left
  ·intro w' hSw;obtain⟨hs0,hs1,hs2,hs3⟩:=hSw;go_simp;all_goals with_reducible rfl
  (try simp only [Act.put,ar,ag]);refine wpAnyH_done (by kernel_rfl) ?_ _;go_wp2;go_ret2;exact⟨by rw [HW.out];rfl,hK4.bw⟩
 ·go_enter func254,ntmps254
  go_wp2_with (first
   |(with_reducible refine wp_tr (hA _ _) (by with_unfolding_all rfl) ?_)
   |(go_at_call 265;(with_reducible refine zg (cc _) fun w1 hb1=>?_);have hK:=(Box2.mk2 w t false (.slice a len cap) _ _).next hb1;have hA1:=hK.tr;have r0:=hK.r0;have r1:=hK.r1)
   |(with_reducible refine wp_tr hA1 (by with_unfolding_all rfl) ?_)
   |(go_at_call 266;(with_reducible refine zg (co _ hK.bw) fun w2 hb2=>?_)))
  have hK3:=(hK.next hb2).next (balloc (w:=w2) (.cells #[.int .i64 pd,.bool ac] 323));have n0:(w2.alloc (.cells #[.int .i64 pd,.bool ac] 323)).cell? ⟨w2.heap.size,0,none⟩=some (.int .i64 pd):=cellA rfl;have nl:w2.heap.size<(w2.alloc (.cells #[.int .i64 pd,.bool ac] 323)).heap.size:=by simp
  generalize (w2.alloc (.cells #[.int .i64 pd,.bool ac] 323))=w3 at hK3 n0 nl⊢;clear hK hA1 r0 r1 hb1 hb2 hA cc co;have hKd:=hK3.next ((Below.refl _ w3).drew);have HS:(fun W:World=>TrAt W w.heap.size 0 t∧W.cell? ⟨w.heap.size+1,0,none⟩=some (.bool false)∧W.cell? ⟨w.heap.size+1,1,none⟩=some (.slice a len cap)∧W.cell? ⟨w.heap.size,1,none⟩=some (.int .i64 t.tg)) w3.drew:=⟨hKd.tr,hKd.r0,hKd.r1,hKd.tr.c1⟩
  have nd:w3.drew.cell? ⟨w2.heap.size,0,none⟩=some (.int .i64 pd):=n0;have nk:w2.heap.size<w3.drew.heap.size:=nl;clear hK3 n0 nl;refine wp_region_held_drew (S:=fun W:World=>TrAt W w.heap.size 0 t∧W.cell? ⟨w.heap.size+1,0,none⟩=some (.bool false)∧W.cell? ⟨w.heap.size+1,1,none⟩=some (.slice a len cap)∧W.cell? ⟨w.heap.size,1,none⟩=some (.int .i64 t.tg)) (by kernel_rfl) HS (fun hHeld=> ?_);clear HS;refine wpAnyH_take (i:=0) (oi:=_) (v:= ?_) rfl (by kernel_rfl) (by kernel_rfl) (by kernel_rfl) (fun _ _ _ h=>h) (Or.inl ⟨by rfl,?_⟩) (by assumption) ?_;rotate_left
  ·intro w' hSw;obtain⟨hs0,hs1,hs2,hs3⟩:=hSw;go_simp;all_goals with_reducible rfl
  (try simp only [Act.put,ar,ag]);refine wpAnyH_take (i:=1) (oi:=_) (v:= ?_) rfl (by kernel_rfl) (by kernel_rfl) (by kernel_rfl) (fun _ _ _ h=>h) (Or.inl ⟨by rfl,?_⟩) (by assumption) ?_;rotate_left
  ·intro w' hSw;obtain⟨hs0,hs1,hs2,hs3⟩:=hSw;go_simp;all_goals with_reducible rfl
  (try simp only [Act.put,ar,ag]);refine wpAnyH_take (i:=2) (oi:=_) (v:= ?_) rfl (by kernel_rfl) (by kernel_rfl) (by kernel_rfl) (fun _ _ _ h=>h) (Or.inl ⟨by rfl,?_⟩) (by assumption) ?_;rotate_left
  ·intro w' hSw;obtain⟨hs0,hs1,hs2,hs3⟩:=hSw;go_simp;all_goals with_reducible rfl
  (try simp only [Act.put,ar,ag]);refine Tk.gi 3 (v:=trV t) ?_ (hy:=yieldsIf_load_mid (by rfl) 171 (.tmp 6) rfl w.heap.size 0 (by with_unfolding_all rfl) [.int .i64 t.k,.int .i64 t.tg,.int .i64 t.ac,.int .u64 t.a.mi,.int .u64 t.a.ho,.int .u64 t.a.da,.int .u64 t.a.mn,.int .u64 t.a.we,.bool t.a.ad,.bool t.a.aw,.int .u64 t.b.mi,.int .u64 t.b.ho,.int .u64 t.b.da,.int .u64 t.b.mn,.int .u64 t.b.we,.bool t.b.ad,.bool t.b.aw] _ (fun W h=>range_tr h.1) underlying171 rfl (by kernel_rfl));(try simp only [Act.put,ar,ag]);refine wpAnyH_take (i:=4) (oi:=_) (v:= ?_) rfl (by kernel_rfl) (by kernel_rfl) (by kernel_rfl) (fun _ _ _ h=>h) (Or.inl ⟨by rfl,?_⟩) (by assumption) ?_;rotate_left
  ·intro w' hSw;obtain⟨hs0,hs1,hs2,hs3⟩:=hSw;go_simp;all_goals with_reducible rfl
  (try simp only [Act.put,ar,ag]);refine wpAnyH_take (i:=6) (oi:=_) (v:= ?_) rfl (by kernel_rfl) (by kernel_rfl) (by kernel_rfl) (fun _ _ _ h=>h) (Or.inl ⟨by rfl,?_⟩) (by assumption) ?_;rotate_left
  ·intro w' hSw;obtain⟨hs0,hs1,hs2,hs3⟩:=hSw;go_simp;all_goals with_reducible rfl
  (try simp only [Act.put,ar,ag]);refine wpAnyH_take (i:=7) (oi:=_) (v:= ?_) rfl (by kernel_rfl) (by kernel_rfl) (by kernel_rfl) (fun _ _ _ h=>h) (Or.inl ⟨by rfl,?_⟩) (by assumption) ?_;rotate_left
  ·intro w' hSw;obtain⟨hs0,hs1,hs2,hs3⟩:=hSw;go_simp;all_goals with_reducible rfl
  (try simp only [Act.put,ar,ag]);refine wpAnyH_take (i:=8) (oi:=_) (v:= ?_) rfl (by kernel_rfl) (by kernel_rfl) (by kernel_rfl) (fun _ _ _ h=>h) (Or.inl ⟨by rfl,?_⟩) (by assumption) ?_;rotate_left
  ·intro w' hSw;obtain⟨hs0,hs1,hs2,hs3⟩:=hSw;go_simp;all_goals with_reducible rfl
  (try simp only [Act.put,ar,ag]);refine wpAnyH_take (i:=10) (oi:=_) (v:= ?_) rfl (by kernel_rfl) (by kernel_rfl) (by kernel_rfl) (fun _ _ _ h=>h) (Or.inl ⟨by rfl,?_⟩) (by assumption) ?_;rotate_left
  ·intro w' hSw;obtain⟨hs0,hs1,hs2,hs3⟩:=hSw;go_simp;all_goals with_reducible rfl
  (try simp only [Act.put,ar,ag]);refine Tk.r1 5 fun K hK=> ?_;go_simp;go_wp2_with(go_at_call 269;(with_reducible refine zg (cm _ hKd.bw) fun w4 hb4=>?_);have hK4:=hKd.next hb4;have n4:=((bcell hb4).1 w2.heap.size 0 nk).trans nd)
  refine hK.out _ _ ⟨hK4.tr,hK4.r0,hK4.r1,hK4.tr.c1⟩ (fun hHeld=> ?_);clear hK K;(try simp only [Act.put,ar,ag]);refine Tk.r1 9 fun K hK=> ?_;go_simp;go_wp2_with(go_at_call 262;(with_reducible refine zq (cu _) ?_))
  refine hK.out _ _ ⟨hK4.tr,hK4.r0,hK4.r1,hK4.tr.c1⟩ (fun hHeld=> ?_);clear hK K;(try simp only [Act.put,ar,ag]);refine Tk.r1 11 fun K hK=> ?_;go_simp;go_wp2_with(go_at_call 268;(with_reducible refine zq (cn _) ?_))
  refine hK.out _ _ ⟨hK4.tr,hK4.r0,hK4.r1,hK4.tr.c1⟩ (fun hHeld=> ?_);clear hK K;(try simp only [Act.put,ar,ag]);refine wpAnyH_take (i:=12) (oi:=_) (v:= ?_) rfl (by kernel_rfl) (by kernel_rfl) (by kernel_rfl) (fun _ _ _ h=>h) (Or.inl ⟨by rfl,?_⟩) (by assumption) ?_;rotate_left
  ·intro w' hSw;obtain⟨hs0,hs1,hs2,hs3⟩:=hSw;go_simp;all_goals with_reducible rfl
  (try simp only [Act.put,ar,ag]);refine wpAnyH_done (by kernel_rfl) ?_ _;go_wp2;go_ret2;exact⟨by rw [HW.out];rfl,hK4.bw⟩
