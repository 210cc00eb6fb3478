/- A plan's text is read back: what PlanBack leans on. The law that plans come back: its walk. What the calls of the law that plans come back answer, told apart. -/
import Derived.Test.YtddabkmppobcdaaGreatDoorPsPrintTr
import Derived.Test.YtddabkmppobcdaaGreatDoorPsPlanTrig
import Derived.Test.YtddabkmppobcdaaGreatDoorPsSamePlan
import Derived.Deep.DeepCutAuto
set_option maxRecDepth 8000
namespace Go.Proofs.YtddabkmppobcdaaGreatDoor
namespace Pln
open Go.RowKit Lai Civ Crn Pie RCrn

theorem dec_no10 (u:Nat):(10:UInt8)∉Lib.decDigits u:=fun g=>by
 have:=List.all_eq_true.1 (dec_all u).1 10 g
 cases this
theorem row_no10 (p:Int×Int):(10:UInt8)∉rowT p:=by
 unfold rowT
 split
 ·exact dec_no10 _
 ·intro g
  rcases List.mem_append.1 g with g|g
  ·rcases List.mem_append.1 g with g|g
   ·exact dec_no10 _ g
   ·simp at g
  ·exact dec_no10 _ g
theorem word_no10 (s:Int) (b:Bool):(10:UInt8)∉wordT s b:=by
 unfold wordT
 split
 ·simp
 ·refine join_no (by decide) _ fun y hy=> ?_
  obtain⟨q,_,rfl⟩:=List.mem_map.1 hy
  exact row_no10 q
theorem cron_no10 (c:K):(10:UInt8)∉kT c:=by
 unfold kT cronT
 refine join_no (by decide) _ fun y hy=> ?_
 simp only [List.mem_cons,List.not_mem_nil,or_false]at hy
 rcases hy with rfl|rfl|rfl|rfl|rfl
 ·exact word_no10 _ _
 ·exact word_no10 _ _
 ·exact word_no10 _ _
 ·exact word_no10 _ _
 ·exact word_no10 _ _
theorem text_ok {rd:List UInt8→Option K} (hrd:RdOk rd) (c:K) (u:Us c) (hc:kc c=true):TextOk rd kT c:=by
 have h1:rd (kT c)=some c:=rd_back hrd c u hc
 refine⟨h1,fun g=> ?_,cron_no10 c⟩
 rw [rd_slash hrd _ g]at h1
 cases h1
theorem back_read {rd:List UInt8→Option K} (hrd:RdOk rd) {p:Pd} {ts:List Tr} (hU: ∀t∈ts,TrU t) (h:chkP p ts=0):readL rd 0 (p0,[]) (pieces 10 (planT kT p ts))=.inr (p,ts):=by
 obtain⟨h1,_,h3,h4⟩:=chk_parts h
 refine plan_back h1 h3 fun t ht=>⟨h4 t ht,fun hk=> ?_⟩
 have hb:=h4 t ht
 unfold trB at hb
 rw [if_pos hk]at hb
 simp only [Bool.and_eq_true,decide_eq_true_eq]at hb
 exact⟨text_ok hrd _ (hU t ht).a hb.2.2.1,text_ok hrd _ (hU t ht).b hb.2.2.2⟩
theorem planT_len {p:Pd} {ts:List Tr} (hi:PdI p) (hU: ∀t∈ts,TrU t) (h:chkP p ts=0):(planT kT p ts).length≤100000:=by
 obtain⟨h1,h2,_,h4⟩:=chk_parts h
 have hln:=nm_len h1
 have m1:(wPlan++ [32]++p.nm).length≤100:=by simp;omega
 have n1:=len4 m1 (I4 hi.mn hi.mx hi.po hi.co)
 have n2:=len4 (word:=wRest) (by decide) (I4 hi.tl hi.bk hi.af hi.sh)
 have n3:=len4 (word:=wUp) (by decide) (I4 hi.uw hi.up hi.uc hi.ue)
 have n4:=len4 (word:=wDown) (by decide) (I4 hi.dw hi.dp hi.dc hi.de)
 have ht:=tail_len (fun t ht=>tr_len (hU t ht) (h4 t ht)) ts.length
 rw [List.take_length]at ht
 have e:planT kT p ts=headT p++tailT kT ts:=rfl
 rw [e,List.length_append]
 unfold headT
 rw [List.length_append,List.length_append,List.length_append]
 omega
theorem parse_back {rd:List UInt8→Option K} (hrd:RdOk rd) {p:Pd} {ts:List Tr} (hU: ∀t∈ts,TrU t) (h:chkP p ts=0) {e:Ending} {w':World} (hR:PlanR rd (planT kT p ts) e w'):
  (2048<(planT kT p ts).length∧e=.returned (.tuple #[pl0,.int .i64 0,.int .i64 2]))∨((planT kT p ts).length≤2048∧PlanEnd w' p ts e):=by
 rcases hR with hR|⟨hl,hR⟩
 ·exact Or.inl hR
 ·right
  refine⟨hl,?_⟩
  rw [back_read hrd hU h]at hR
  rcases hR with⟨g,_⟩|⟨_,g⟩
  ·exact absurd h g
  ·exact g
def pa:Pd:=⟨[97],0,3,1,9,0,0,0,0,0,0,0,0,0,0,0,0⟩
end Pln
namespace Pln
open Go.RowKit Lai Civ Crn Pie RCrn

theorem TrsAt.nil (w:World) (a:Option Addr):TrsAt w a []:=fun i t h=>by simp at h
theorem BX.plat {w:World} {R:Nat} {p:Pd} {v:Value} (h:BX w R p v):PlAt w R p v:=PlAt.of h.cel
theorem print_bad' (p:Pd) (ts:List Tr) (a:Option Addr) (cap:Nat) (w:World) (hB:BdsAt w) (hi:PdI p) (hl:p.nm.length≤9223372036854775807) (hTr:TrsAt w a ts) (E:Int) (h:chkP p ts=E) (hE:E≠0):
  Calls Tryz.prog 5 #[planV p (.slice a ts.length cap)] w fun e w'=>e=.returned (.tuple #[.string ⟨#[]⟩,.int .i64 E])∧Below w.heap.size w w':=by
 have c0:=fun w hB hTr=>check_any p ts a cap w hB hi hl hTr
 rw [h]at c0
 have hA0:=PlAt.new' w p (.slice a ts.length cap) 26
 have hB0:=fun o=>hB.below (balloc o) (Nat.le_refl _)
 have hTr0:=fun o=>hTr.below (balloc o) (Nat.le_refl _)
 have hne:(E !=0)=true:=by rw [bne_iff_ne];exact hE
 clear h
 go_enter Tryz.func5,Tryz.ntmps5
 go_wp2_with (first
  |(with_reducible refine wp_plan hA0 (by with_unfolding_all rfl) ?_)
  |(go_at_call 17;(with_reducible refine(c0 _ (hB0 _) (hTr0 _)).mono ?_);rintro e w1 ⟨rfl,hb1⟩))
 go_ret2
 exact⟨rfl,(balloc _).trans (hb1.mono (by simp))⟩
structure Gd (w:World):Prop where
 b:BdsAt w
 t:TabIs64 w
 p:PowAt w
 m:MlAt w
theorem Gd.below {w w':World} (h:Gd w) (hb:Below w.heap.size w w'):Gd w':=⟨h.b.below hb (Nat.le_refl _),h.t.below hb (Nat.le_refl _),h.p.below hb (Nat.le_refl _),h.m.below hb (Nat.le_refl _)⟩
end Pln
namespace Pln
open Go.RowKit Lai Civ Crn Pie RCrn
set_option linter.unusedVariables false

theorem readL_le {rd:List UInt8→Option K} : ∀(ls:List (List UInt8)) (i:Nat) (st:Pd×List Tr) (n:Nat),readL rd i st ls=.inl n→n≤i+ls.length+1
 | [],i,st,n,h=>by unfold readL at h;cases h;simp
 | [l],i,st,n,h=>by
  unfold readL at h
  split at h
  ·cases h
  ·cases h;simp
 |l::m::ls,i,st,n,h=>by
  unfold readL at h
  cases hl:lineS rd i st (pieces 32 l)with
  |none=>rw [hl]at h;cases h;simp
  |some st'=>
   rw [hl]at h
   have:=readL_le (m::ls) (i+1) st' n h
   simp at this⊢
   omega
def PrOk (p:Pd) (ts:List Tr) (T:List UInt8):Prop:= ∀a cap w',Gd w'→TrsAt w' a ts→Calls Tryz.prog 5 #[planV p (.slice a ts.length cap)] w' fun e w''=>e=.returned (.tuple #[strV T,.int .i64 0])∧Below w'.heap.size w' w''
def PaBad (s:List UInt8) (n E:Int):Prop:= ∀w',Gd w'→Calls Tryz.prog 6 #[strV s] w' fun e w''=>e=.returned (.tuple #[planV p0 (.slice none 0 0),.int .i64 n,.int .i64 E])∧Below w'.heap.size w' w''
def PaOk (s:List UInt8) (p:Pd) (ts:List Tr):Prop:= ∀w',Gd w'→Calls Tryz.prog 6 #[strV s] w' fun e w''=>(∃a cap,e=.returned (.tuple #[planV p (.slice a ts.length cap),.int .i64 0,.int .i64 0])∧TrsAt w'' a ts)∧Below w'.heap.size w' w''
def Long1 (p:Pd) (ts:List Tr):Prop:= ∃T:List UInt8,2048<T.length∧T.length≤100000∧PrOk p ts T∧PaBad T 0 2
def Short1 (p:Pd) (ts:List Tr):Prop:= ∃T:List UInt8,T.length≤2048∧ts.length≤5∧PrOk p ts T∧PaOk T p ts
theorem plan_ways {rd:List UInt8→Option K} (hrd:RdOk rd) (p:Pd) (ts:List Tr) (hi:PdI p) (hU: ∀t∈ts,TrU t) (h:chkP p ts=0):Long1 p ts∨Short1 p ts:=by
 have hP:PrOk p ts (planT kT p ts):=fun a cap w' g hT=>print_ok p ts a cap w' g.b g.t g.p hi hT hU h
 have hl:=planT_len hi hU h
 have hc:=fun w' (g:Gd w')=>(pparse_any hrd (planT kT p ts) w' g.b g.m (by omega)).mono fun e w'' q=>(⟨parse_back hrd hU h q.1,q.2⟩:_∧Below w'.heap.size w' w'')
 generalize planT kT p ts=T at*
 by_cases h2:T.length≤2048
 ·refine Or.inr ⟨T,h2,(chk_parts h).2.1,hP,fun w' g=>(hc w' g).mono fun e w'' q=>⟨?_,q.2⟩⟩
  rcases q.1 with⟨q1,_⟩|⟨_,a,cap,q1,q2,_,_⟩
  ·omega
  ·exact⟨a,cap,q1,q2⟩
 ·refine Or.inl ⟨T,by omega,hl,hP,fun w' g=>(hc w' g).mono fun e w'' q=>⟨?_,q.2⟩⟩
  rcases q.1 with⟨_,q1⟩|⟨q1,_⟩
  ·exact q1
  ·omega
theorem text_ways {rd:List UInt8→Option K} (hrd:RdOk rd) (s:List UInt8) (hs:s.length≤9223372036854775807):(∃n E:Int,0≤n∧n≤10000∧E≠0∧PaBad s n E)∨ ∃p ts,PaOk s p ts∧(Long1 p ts∨Short1 p ts):=by
 have hc:=fun w' (g:Gd w')=>pparse_any hrd s w' g.b g.m hs
 by_cases hl:2048<s.length
 ·refine Or.inl ⟨0,2,by omega,by omega,by decide,fun w' g=>(hc w' g).mono fun e w'' q=>⟨?_,q.2⟩⟩
  rcases q.1 with⟨_,q1⟩|⟨q1,_⟩
  ·exact q1
  ·omega
 ·cases hr:readL rd 0 (p0,[]) (pieces 10 s)with
  |inl n=>
   have hn:(n:Int)≤10000:=by
    have:=readL_le _ _ _ _ hr
    rw [pieces_len]at this
    have:=List.count_le_length (a:=(10:UInt8)) (l:=s)
    omega
   refine Or.inl ⟨n,3,by omega,hn,by decide,fun w' g=>(hc w' g).mono fun e w'' q=>⟨?_,q.2⟩⟩
   rcases q.1 with⟨q1,_⟩|⟨_,q1⟩
   ·omega
   ·rw [hr]at q1;exact q1
  |inr st=>
   obtain⟨p,ts⟩:=st
   obtain⟨hg,hu⟩:=readL_ok (fun s c h=>(hrd.yes s c h).1) _ _ _ _ _ hr good0 (fun t ht=>by cases ht)
   by_cases hE:chkP p ts=0
   ·refine Or.inr ⟨p,ts,fun w' g=>(hc w' g).mono fun e w'' q=>⟨?_,q.2⟩,plan_ways hrd p ts hg.1 hu hE⟩
    rcases q.1 with⟨q1,_⟩|⟨_,q1⟩
    ·omega
    ·rw [hr]at q1
     rcases q1 with⟨q2,_⟩|⟨_,a,cap,q2,q3,_,_⟩
     ·exact absurd hE q2
     ·exact⟨a,cap,q2,q3⟩
   ·refine Or.inl ⟨0,chkP p ts,by omega,by omega,hE,fun w' g=>(hc w' g).mono fun e w'' q=>⟨?_,q.2⟩⟩
    rcases q.1 with⟨q1,_⟩|⟨_,q1⟩
    ·omega
    ·rw [hr]at q1
     rcases q1 with⟨_,q2⟩|⟨q2,_⟩
     ·exact q2
     ·exact absurd q2 hE
end Pln
end Go.Proofs.YtddabkmppobcdaaGreatDoor
