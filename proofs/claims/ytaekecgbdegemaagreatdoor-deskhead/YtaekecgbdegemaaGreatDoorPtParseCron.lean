/- A part. -/
import Derived.Test.YtaekecgbdegemaaGreatDoorPtParseRow
import Derived.Deep.RegionHeld
set_option linter.all false
open Go.Proofs.Tryz
set_option maxHeartbeats 32000000
set_option maxRecDepth 8000
namespace Go.Proofs.YtaekecgbdegemaaGreatDoor
namespace Pie
open Go.RowKit Crn Lai
variable {ps:List (List UInt8)} {v x0 x1 x2 x3 x4 y2 y4 v0 v1 v2 v3 v4 v5 v6:Value} {W w Wf:World} {B S:Nat} {a:Act} {E:Int} {s:List UInt8}

def blo (i:Nat):Int:=bdl.getD (i*2) 0
def bhi (i:Nat):Int:=bdl.getD (i*2+1) 0
theorem bl_bd {i:Nat} (h:i<5):0≤blo i∧blo i≤bhi i∧bhi i≤63:=by
 have:i=0∨i=1∨i=2∨i=3∨i=4:=by omega
 rcases this with rfl|rfl|rfl|rfl|rfl<;>decide
def wItems (ps:List (List UInt8)) (i:Nat):Option (List (Int×Int×Int)):=wordS (blo i) (bhi i) (pieces 44 (ps.getD i []))
abbrev cron0:Value:=cronV 0 0 0 0 0 false false
def Right (ps:List (List UInt8)) (v:Value):Prop:= ∃(u:Nat→Int) (l:Nat→List (Int×Int×Int)),(∀i,i<5→wItems ps i=some (l i)∧SetIs (l i) (u i))∧v=cronV (u 0) (u 1) (u 2) (u 3) (u 4) (ps.getD 2 []==[42]) (ps.getD 4 []==[42])
theorem right_one {v':Value} (h:Right ps v) (g:Right ps v'):v=v':=by
 obtain⟨u,l,h1,rfl⟩:=h;obtain⟨u',l',g1,rfl⟩:=g;have e: ∀i,i<5→u i=u' i:=fun i hi=>by
  obtain⟨a,b⟩:=h1 i hi;obtain⟨c,d⟩:=g1 i hi;rw [a]at c;rw [←XZ c]at d;exact setIs_one b d
 rw [e 0 (by decide),e 1 (by decide),e 2 (by decide),e 3 (by decide),e 4 (by decide)]
def Wrong (ps:List (List UInt8)):Prop:=ps.length≠5∨ ∃i,i<5∧wItems ps i=none
theorem right_not (h:Right ps v): ¬ ∃i,i<5∧wItems ps i=none:=by
 obtain⟨u,l,h1,_⟩:=h;rintro⟨i,hi,hn⟩;rw [(h1 i hi).1]at hn;cases hn
def ParseAns (s:List UInt8) (e:Ending):Prop:=
 (300<s.length∧e=.returned (.tuple #[cron0,.int .i64 2]))∨(s.length≤300∧Wrong (pieces 32 s)∧e=.returned (.tuple #[cron0,.int .i64 3]))∨
 (s.length≤300∧(pieces 32 s).length=5∧ ∃v,Right (pieces 32 s) v∧e=.returned (.tuple #[v,.int .i64 0]))

theorem set7c {x5 x6:Value} (v0 v1 v2 v3 v4 v5 v6:Value) (h0:W.cell? ⟨B,0,none⟩=some x0) (h1:W.cell? ⟨B,1,none⟩=some x1) (h2:W.cell? ⟨B,2,none⟩=some x2) (h3:W.cell? ⟨B,3,none⟩=some x3) (h4:W.cell? ⟨B,4,none⟩=some x4) (h5:W.cell? ⟨B,5,none⟩=some x5) (h6:W.cell? ⟨B,6,none⟩=some x6):
  let W':=((((((W.setCell ⟨B,0,none⟩ v0).setCell ⟨B,1,none⟩ v1).setCell ⟨B,2,none⟩ v2).setCell ⟨B,3,none⟩ v3).setCell ⟨B,4,none⟩ v4).setCell ⟨B,5,none⟩ v5).setCell ⟨B,6,none⟩ v6
  W'.cell? ⟨B,0,none⟩=some v0∧W'.cell? ⟨B,1,none⟩=some v1∧W'.cell? ⟨B,2,none⟩=some v2∧W'.cell? ⟨B,3,none⟩=some v3∧W'.cell? ⟨B,4,none⟩=some v4∧W'.cell? ⟨B,5,none⟩=some v5∧W'.cell? ⟨B,6,none⟩=some v6:=by
 simp [go_sem,h0,h1,h2,h3,h4,h5,h6]
theorem keep_set {a b:Addr} {u:Value} (hne:a.block≠b.block) (h:W.cell? a=some v):(W.setCell b u).cell? a=some v:=by
 rw [Xd (h:=fun e=>hne (by rw [e]))];exact h
theorem keep7 {M:Nat} (h1:S≠B) (h2:M≠B)
  (h:W.cell? ⟨S,0,none⟩=some x0∧W.cell? ⟨S,1,none⟩=some x1∧W.cell? ⟨S,2,none⟩=some x2∧W.cell? ⟨S,3,none⟩=some x3∧W.cell? ⟨S,4,none⟩=some x4∧W.cell? ⟨M,2,none⟩=some y2∧W.cell? ⟨M,4,none⟩=some y4):
  (((((((W.setCell ⟨B,0,none⟩ v0).setCell ⟨B,1,none⟩ v1).setCell ⟨B,2,none⟩ v2).setCell ⟨B,3,none⟩ v3).setCell ⟨B,4,none⟩ v4).setCell ⟨B,5,none⟩ v5).setCell ⟨B,6,none⟩ v6).cell? ⟨S,0,none⟩=some x0∧(((((((W.setCell ⟨B,0,none⟩ v0).setCell ⟨B,1,none⟩ v1).setCell ⟨B,2,none⟩ v2).setCell ⟨B,3,none⟩ v3).setCell ⟨B,4,none⟩ v4).setCell ⟨B,5,none⟩ v5).setCell ⟨B,6,none⟩ v6).cell? ⟨S,1,none⟩=some x1∧(((((((W.setCell ⟨B,0,none⟩ v0).setCell ⟨B,1,none⟩ v1).setCell ⟨B,2,none⟩ v2).setCell ⟨B,3,none⟩ v3).setCell ⟨B,4,none⟩ v4).setCell ⟨B,5,none⟩ v5).setCell ⟨B,6,none⟩ v6).cell? ⟨S,2,none⟩=some x2∧(((((((W.setCell ⟨B,0,none⟩ v0).setCell ⟨B,1,none⟩ v1).setCell ⟨B,2,none⟩ v2).setCell ⟨B,3,none⟩ v3).setCell ⟨B,4,none⟩ v4).setCell ⟨B,5,none⟩ v5).setCell ⟨B,6,none⟩ v6).cell? ⟨S,3,none⟩=some x3∧(((((((W.setCell ⟨B,0,none⟩ v0).setCell ⟨B,1,none⟩ v1).setCell ⟨B,2,none⟩ v2).setCell ⟨B,3,none⟩ v3).setCell ⟨B,4,none⟩ v4).setCell ⟨B,5,none⟩ v5).setCell ⟨B,6,none⟩ v6).cell? ⟨S,4,none⟩=some x4∧(((((((W.setCell ⟨B,0,none⟩ v0).setCell ⟨B,1,none⟩ v1).setCell ⟨B,2,none⟩ v2).setCell ⟨B,3,none⟩ v3).setCell ⟨B,4,none⟩ v4).setCell ⟨B,5,none⟩ v5).setCell ⟨B,6,none⟩ v6).cell? ⟨M,2,none⟩=some y2∧(((((((W.setCell ⟨B,0,none⟩ v0).setCell ⟨B,1,none⟩ v1).setCell ⟨B,2,none⟩ v2).setCell ⟨B,3,none⟩ v3).setCell ⟨B,4,none⟩ v4).setCell ⟨B,5,none⟩ v5).setCell ⟨B,6,none⟩ v6).cell? ⟨M,4,none⟩=some y4:=by
 obtain⟨g0,g1,g2,g3,g4,g5,g6⟩:=h;exact⟨keep_set h1 (keep_set h1 (keep_set h1 (keep_set h1 (keep_set h1 (keep_set h1 (keep_set h1 g0)))))),keep_set h1 (keep_set h1 (keep_set h1 (keep_set h1 (keep_set h1 (keep_set h1 (keep_set h1 g1)))))),keep_set h1 (keep_set h1 (keep_set h1 (keep_set h1 (keep_set h1 (keep_set h1 (keep_set h1 g2)))))),keep_set h1 (keep_set h1 (keep_set h1 (keep_set h1 (keep_set h1 (keep_set h1 (keep_set h1 g3)))))),keep_set h1 (keep_set h1 (keep_set h1 (keep_set h1 (keep_set h1 (keep_set h1 (keep_set h1 g4)))))),keep_set h2 (keep_set h2 (keep_set h2 (keep_set h2 (keep_set h2 (keep_set h2 (keep_set h2 g5)))))),keep_set h2 (keep_set h2 (keep_set h2 (keep_set h2 (keep_set h2 (keep_set h2 (keep_set h2 g6))))))⟩
theorem kd7 {M:Nat} (h:W.cell? ⟨S,0,none⟩=some x0∧W.cell? ⟨S,1,none⟩=some x1∧W.cell? ⟨S,2,none⟩=some x2∧W.cell? ⟨S,3,none⟩=some x3∧W.cell? ⟨S,4,none⟩=some x4∧W.cell? ⟨M,2,none⟩=some y2∧W.cell? ⟨M,4,none⟩=some y4):W.drew.cell? ⟨S,0,none⟩=some x0∧W.drew.cell? ⟨S,1,none⟩=some x1∧W.drew.cell? ⟨S,2,none⟩=some x2∧W.drew.cell? ⟨S,3,none⟩=some x3∧W.drew.cell? ⟨S,4,none⟩=some x4∧W.drew.cell? ⟨M,2,none⟩=some y2∧W.drew.cell? ⟨M,4,none⟩=some y4:=h
theorem finP (hp:a.tmps[2]? =some (.pointer (some ⟨B,0,none⟩))) (he:a.tmps[3]? =some (.int .i64 E)) (ha:a.defers=[])
  (hc:Wf.cell? ⟨B,0,none⟩=some v0∧Wf.cell? ⟨B,1,none⟩=some v1∧Wf.cell? ⟨B,2,none⟩=some v2∧Wf.cell? ⟨B,3,none⟩=some v3∧Wf.cell? ⟨B,4,none⟩=some v4∧Wf.cell? ⟨B,5,none⟩=some v5∧Wf.cell? ⟨B,6,none⟩=some v6)
  (hA:ParseAns s (.returned (.tuple #[.agg #[v0,v1,v2,v3,v4,v5,v6],.int .i64 E]))) (hb:Below w.heap.size w Wf):
  bodyPost prog f59 (fun e w'=>ParseAns s e∧Below w.heap.size w w') Exit.ret a Wf:=by
 obtain⟨c0,c1,c2,c3,c4,c5,c6⟩:=hc;refine bodyPost_ret (v:=.tuple #[.agg #[v0,v1,v2,v3,v4,v5,v6],.int .i64 E]) ?_ ha ⟨hA,hb⟩;simp [results,results59,go_sem,hp,he,c0,c1,c2,c3,c4,c5,c6]

theorem finPd (hp:a.tmps[2]? =some (.pointer (some ⟨B,0,none⟩))) (he:a.tmps[3]? =some (.int .i64 E)) (ha:a.defers=[])
  (hc:Wf.cell? ⟨B,0,none⟩=some v0∧Wf.cell? ⟨B,1,none⟩=some v1∧Wf.cell? ⟨B,2,none⟩=some v2∧Wf.cell? ⟨B,3,none⟩=some v3∧Wf.cell? ⟨B,4,none⟩=some v4∧Wf.cell? ⟨B,5,none⟩=some v5∧Wf.cell? ⟨B,6,none⟩=some v6)
  (hA:ParseAns s (.returned (.tuple #[.agg #[v0,v1,v2,v3,v4,v5,v6],.int .i64 E]))) (hb:Below w.heap.size w Wf):
  bodyPost prog f59 (fun e w'=>ParseAns s e∧Below w.heap.size w w') Exit.ret a Wf.drew:=
 finP (Wf:=Wf.drew) hp he ha hc hA hb.drew

theorem parse_long (s:List UInt8) (w:World) (h:300<s.length):
  Calls prog 59 #[strV s] w fun e w'=>ParseAns s e∧Below w.heap.size w w':=by
 have hsz:(⟨s.toArray⟩:ByteArray).size=s.length:=rfl;have g:(300:Int)<((⟨s.toArray⟩:ByteArray).size:Int):=by omega
 go_enter func59,ntmps59;go_wp2;refine bodyPost_ret (v:=.tuple #[cron0,.int .i64 2]) (by simp [results,results59,go_sem]) rfl ⟨Or.inl ⟨h,rfl⟩,?_⟩;exact(Below.refl _ _).alloc (Xa _) _
theorem parse_count (s:List UInt8) (w:World) (h:s.length≤300) (hp:(pieces 32 s).length≠5):
  Calls prog 59 #[strV s] w fun e w'=>ParseAns s e∧Below w.heap.size w w':=by
 have hsz:(⟨s.toArray⟩:ByteArray).size=s.length:=rfl;have g: ¬(300:Int)<((⟨s.toArray⟩:ByteArray).size:Int):=by omega
 have cS:=fun w=>split_any s 32 w (by omega);have HA:Hid (ParseAns s (.returned (.tuple #[cron0,.int .i64 3]))):=Or.inr (Or.inl ⟨h,Or.inl hp,rfl⟩);have hne:(((pieces 32 s).length:Int) !=5)=true:=by simp;omega
 have hpl:(pieces 32 s).length≤1001:=by rw [pieces_len];have:=X6 (a:=(32:UInt8)) (l:=s);omega
 generalize pieces 32 s=ps at*;obtain⟨w0,hw⟩: ∃w0,w0=w.alloc (.cells (#[Value.int .u64 0,.int .u64 0,.int .u64 0,.int .u64 0,.int .u64 0,.bool false,.bool false]) 101):=⟨_,rfl⟩
 have hC0: ∀o,w0.cell? ⟨w.heap.size,o,none⟩=(#[Value.int .u64 0,.int .u64 0,.int .u64 0,.int .u64 0,.int .u64 0,.bool false,.bool false])[o]? :=fun o=>by rw [hw];simp
 have hF0: ∀o,w0.frozen? ⟨w.heap.size,o,none⟩=false:=fun o=>by rw [hw];simp
 have hN:w0.heap.size=w.heap.size+1:=by rw [hw];simp
 have hz0:w.heap.size<w0.heap.size:=by omega
 have hw0:Below w.heap.size w w0:=by rw [hw];exact(Below.refl _ _).alloc (Xa _) _
 go_enter func59,ntmps59;go_wp2_with(go_at_call 22;rw [←hw];(with_reducible refine(cS _).mono ?_);rintro e w1 ⟨rfl,hT1,hb1⟩;have hC1:=cells_on hC0 hb1 hz0;have hF1:=free_on hF0 hb1 hz0;have hw1:Below w.heap.size w w1:=(zu hw0 hb1);have f0:=hF1 0;have f1:=hF1 1;have f2:=hF1 2;have f3:=hF1 3;have f4:=hF1 4;have f5:=hF1 5;have f6:=hF1 6)
 exact finP (B:=w.heap.size) rfl rfl rfl (set7c (W:=w1) (B:=w.heap.size) (x0:=Value.int .u64 0) (x1:=Value.int .u64 0) (x2:=Value.int .u64 0) (x3:=Value.int .u64 0) (x4:=Value.int .u64 0) (x5:=Value.bool false) (x6:=Value.bool false) (.int .u64 0) (.int .u64 0) (.int .u64 0) (.int .u64 0) (.int .u64 0) (.bool false) (.bool false) (hC1 0) (hC1 1) (hC1 2) (hC1 3) (hC1 4) (hC1 5) (hC1 6)) HA.out ((((((((hw1.setCell (Xa _) _).setCell (Xa _) _).setCell (Xa _) _).setCell (Xa _) _).setCell (Xa _) _).setCell (Xa _) _).setCell (Xa _) _))

def PaR (ps:List (List UInt8)) (S:Nat) (w:World) (i:Value) (wr:World):Prop:= ∃(k:Nat) (u:Nat→Int) (l:Nat→List (Int×Int×Int)),k≤5∧i=.int .i64 k∧(∀j,j<k→wItems ps j=some (l j)∧SetIs (l j) (u j))∧
 (∀j,j<5→wr.cell? ⟨S,j,none⟩=some (.int .u64 (if j<k then u j else 0)))∧(∀j,wr.frozen? ⟨S,j,none⟩=false)∧S<wr.heap.size∧Texts wr (w.heap.size+1) ps∧
 (∀o,wr.cell? ⟨w.heap.size,o,none⟩=(#[Value.int .u64 0,.int .u64 0,.int .u64 0,.int .u64 0,.int .u64 0,.bool false,.bool false])[o]?)∧(∀o,wr.frozen? ⟨w.heap.size,o,none⟩=false)∧Below w.heap.size w wr
theorem word_case (t:List UInt8) (lo hi:Int) (hl:t.length≤1000) (h0:0≤lo) (h1:lo≤hi) (h2:hi≤63):(wordS lo hi (pieces 44 t)=none∧ ∀w,Calls prog 83 #[strV t,bdV lo hi] w fun e w'=> ∃v,e=.returned (.tuple #[.int .u64 v,.bool false])∧Below w.heap.size w w')∨
  ∃l,wordS lo hi (pieces 44 t)=some l∧ ∀w,Calls prog 83 #[strV t,bdV lo hi] w fun e w'=> ∃v,e=.returned (.tuple #[.int .u64 v,.bool true])∧SetIs l v∧Below w.heap.size w w':=by
 cases h:wordS lo hi (pieces 44 t)with
 |none=>
  refine Or.inl ⟨rfl,fun w=>(word_any t lo hi w hl h0 h1 h2).mono ?_⟩;rintro e w' ⟨⟨v,o,rfl,g1,g2⟩,hb⟩;cases o
  ·exact⟨v,rfl,hb⟩
  ·obtain⟨p,g,_⟩:=g1 rfl;rw [g]at h;cases h
 |some l=>
  refine Or.inr ⟨l,rfl,fun w=>(word_any t lo hi w hl h0 h1 h2).mono ?_⟩;rintro e w' ⟨⟨v,o,rfl,g1,g2⟩,hb⟩;cases o
  ·rw [g2 rfl]at h;cases h
  ·obtain⟨q,g,hs⟩:=g1 rfl;rw [g]at h;cases h;exact⟨v,rfl,hs,hb⟩

theorem parse_five (s:List UInt8) (w:World) (hB:BdsAt w) (h:s.length≤300) (hp:(pieces 32 s).length=5):
  Calls prog 59 #[strV s] w fun e w'=>ParseAns s e∧Below w.heap.size w w':=by
 have hsz:(⟨s.toArray⟩:ByteArray).size=s.length:=rfl;have g: ¬(300:Int)<((⟨s.toArray⟩:ByteArray).size:Int):=by omega
 have cS:=fun w=>split_any s 32 w (by omega);have HW:Hid ((∃i,i<5∧wItems (pieces 32 s) i=none)→ParseAns s (.returned (.tuple #[cron0,.int .i64 3]))):=fun g=>Or.inr (Or.inl ⟨h,Or.inr g,rfl⟩);have HR:Hid (∀v,Right (pieces 32 s) v→ParseAns s (.returned (.tuple #[v,.int .i64 0]))):=fun v g=>Or.inr (Or.inr ⟨h,hp,v,g,rfl⟩);have HP:Hid (∀p∈pieces 32 s,p.length≤1000):=fun p hp=>by have:=pieces_sub 32 s p hp;omega
 rw [hp]at cS;generalize pieces 32 s=ps at*;obtain⟨w0,hw⟩: ∃w0,w0=w.alloc (.cells (#[Value.int .u64 0,.int .u64 0,.int .u64 0,.int .u64 0,.int .u64 0,.bool false,.bool false]) 101):=⟨_,rfl⟩
 have hC0: ∀o,w0.cell? ⟨w.heap.size,o,none⟩=(#[Value.int .u64 0,.int .u64 0,.int .u64 0,.int .u64 0,.int .u64 0,.bool false,.bool false])[o]? :=fun o=>by rw [hw];simp
 have hF0: ∀o,w0.frozen? ⟨w.heap.size,o,none⟩=false:=fun o=>by rw [hw];simp
 have hN:w0.heap.size=w.heap.size+1:=by rw [hw];simp
 have hz0:w.heap.size<w0.heap.size:=by omega
 have hw0:Below w.heap.size w w0:=by rw [hw];exact(Below.refl _ _).alloc (Xa _) _
 go_enter func59,ntmps59;go_wp2_with(go_at_call 22;rw [←hw];(with_reducible refine(cS _).mono ?_);rintro e w1 ⟨rfl,hT1,hb1⟩;have hC1:=cells_on hC0 hb1 hz0;have hF1:=free_on hF0 hb1 hz0;have hw1:Below w.heap.size w w1:=(zu hw0 hb1);have f0:=hF1 0;have f1:=hF1 1;have f2:=hF1 2;have f3:=hF1 3;have f4:=hF1 4;have f5:=hF1 5;have f6:=hF1 6)
 clear f0 f1 f2 f3 f4 f5 f6;rw [hN]at hT1;have hz1:=hT1.1;obtain⟨W,hW⟩: ∃W,W=w1.alloc (.cells (#[Value.int .u64 0,.int .u64 0,.int .u64 0,.int .u64 0,.int .u64 0]) 151):=⟨_,rfl⟩
 have bW:Below w1.heap.size w1 W:=by rw [hW];exact(Below.refl _ _).alloc (Xa _) _
 have cW: ∀o,W.cell? ⟨w1.heap.size,o,none⟩=(#[Value.int .u64 0,.int .u64 0,.int .u64 0,.int .u64 0,.int .u64 0])[o]? :=fun o=>by rw [hW];simp
 have fW: ∀o,W.frozen? ⟨w1.heap.size,o,none⟩=false:=fun o=>by rw [hW];simp
 have zW:w1.heap.size<W.heap.size:=by rw [hW];simp
 rw [←hW];clear hW;generalize hS:w1.heap.size=S at*;go_loopw [22] (fun i wr=>PaR ps S w i wr) (fun i _=>5-(intOf i).toNat)
 case atStart=>
  refine⟨0,fun _=>0,fun _=> [],by omega,rfl,(fun j hj=>absurd hj (by omega)),fun j hj=> ?_,fW,zW,hT1.below bW (by omega),cells_on hC1 (by rw [hS];exact bW) (by omega),free_on hF1 (by rw [hS];exact bW) (by omega),hw1.trans (bW.mono (by have:=hw1.size;omega))⟩;rw [cW];have:j=0∨j=1∨j=2∨j=3∨j=4:=by omega
  rcases this with rfl|rfl|rfl|rfl|rfl<;>rfl
 case round=>
  clear hT1 hC1 hF1 hw1 bW cW fW zW;obtain⟨k,u,l,hk,rfl,hit0,hcS,hfS,hzS,hT,hC,hF,hbw⟩:=hrel;have HIt:=zh hit0;have hBr:=hB.below hbw (Xa _);clear hit0;by_cases hlt:k<5
  ·have hlt':(k:Int)<5:=by omega
   obtain⟨x,hx⟩: ∃x,ps[k]? =some x:=⟨ps[k],by simp [hp,hlt]⟩
   have cx:=hT.2 k x hx;have HX:Hid (ps.getD k []=x):=by unfold Hid;rw [Yq,hx];rfl
   have q0:wr.cell? ⟨2,k*2,none⟩=some (.int .i64 (blo k)):=hBr (k*2) (by omega);have q1:wr.cell? ⟨2,k*2+1,none⟩=some (.int .i64 (bhi k)):=hBr (k*2+1) (by omega);obtain⟨r0,r1,r2⟩:=bl_bd hlt;have cs:=hcS k hlt;have fs:=hfS k;rcases word_case x (blo k) (bhi k) (HP.out x (Xk hx)) r0 r1 r2 with⟨hi0,cI⟩|⟨p,hi0,cI⟩
   ·have HN:Hid (∃i,i<5∧wItems ps i=none):=⟨k,hlt,by unfold wItems;rw [HX.out];exact hi0⟩
    clear hi0 hx cs fs hcS hfS;generalize blo k=lo at*;generalize bhi k=hi at*;have f0:=hF 0;have f1:=hF 1;have f2:=hF 2;have f3:=hF 3;have f4:=hF 4;have f5:=hF 5;have f6:=hF 6;go_wp2_with(go_at_call 83;(with_reducible refine(cI _).mono ?_);rintro e w2 ⟨u2,rfl,hb2⟩;have hC2:=cells_on hC hb2 (by have:=hT.1;omega);have hF2:=free_on hF hb2 (by have:=hT.1;omega);have hw2:Below w.heap.size w w2:=(zu hbw hb2);have g0:=hF2 0;have g1:=hF2 1;have g2:=hF2 2;have g3:=hF2 3;have g4:=hF2 4;have g5:=hF2 5;have g6:=hF2 6)
    exact finP (B:=w.heap.size) rfl rfl rfl (set7c (W:=w2) (B:=w.heap.size) (x0:=Value.int .u64 0) (x1:=Value.int .u64 0) (x2:=Value.int .u64 0) (x3:=Value.int .u64 0) (x4:=Value.int .u64 0) (x5:=Value.bool false) (x6:=Value.bool false) (.int .u64 0) (.int .u64 0) (.int .u64 0) (.int .u64 0) (.int .u64 0) (.bool false) (.bool false) (hC2 0) (hC2 1) (hC2 2) (hC2 3) (hC2 4) (hC2 5) (hC2 6)) (HW.out HN.out) ((((((((hw2.setCell (Xa _) _).setCell (Xa _) _).setCell (Xa _) _).setCell (Xa _) _).setCell (Xa _) _).setCell (Xa _) _).setCell (Xa _) _))
   ·have HN:Hid (wItems ps k=some p):=by unfold Hid wItems;rw [HX.out];exact hi0
    clear hi0 hx cs fs;generalize blo k=lo at*;generalize bhi k=hi at*;go_wp2_with(go_at_call 83;(with_reducible refine(cI _).mono ?_);rintro e w2 ⟨u2,rfl,hu2,hb2⟩;have cs:w2.cell? ⟨S,k,none⟩=some (.int .u64 (if k<k then u k else 0)):=(hb2.cell (p:=⟨S,k,none⟩) hzS).trans (hcS k hlt);have fs:w2.frozen? ⟨S,k,none⟩=false:=(hb2.frozen (p:=⟨S,k,none⟩) hzS).trans (hfS k))
    go_roundw
    case rel=>
     have hT1:=hT.1;have bS:Below S w2 (w2.setCell ⟨S,k,none⟩ (.int .u64 u2)):=(Below.refl S w2).setCell (Xa _) _;refine⟨k+1,fun j=>if j=k then u2 else u j,fun j=>if j=k then p else l j,by omega,rfl,fun j hj=> ?_,fun j hj=> ?_,fun j=> ?_,?_,(hT.below hb2 hT.1).below bS hz1,fun o=>(bS.cell (p:=⟨w.heap.size,o,none⟩) (by show w.heap.size<S;omega)).trans (cells_on hC hb2 (by omega) o),fun o=>(bS.frozen (p:=⟨w.heap.size,o,none⟩) (by show w.heap.size<S;omega)).trans (free_on hF hb2 (by omega) o),(zu hbw hb2).setCell (by show w.heap.size≤S;omega) _⟩
     ·dsimp only;by_cases e:j=k
      ·rw [if_pos e,if_pos e,e];exact⟨HN.out,hu2⟩
      ·rw [if_neg e,if_neg e];exact HIt.out j (by omega)
     ·dsimp only;by_cases e:j=k
      ·subst e;rw [if_pos (by omega),if_pos rfl];exact Xn _ _ _ cs
      ·rw [Xd (h:=fun q=>e (by cases q;rfl)),(hb2.cell (p:=⟨S,j,none⟩) hzS).trans (hcS j hj),if_neg e];by_cases g:j<k
       ·rw [if_pos g,if_pos (by omega)]
       ·rw [if_neg g,if_neg (by omega)]
     ·rw [Xi];exact(hb2.frozen (p:=⟨S,j,none⟩) hzS).trans (hfS j)
     ·have:(w2.setCell ⟨S,k,none⟩ (.int .u64 u2)).heap.size=w2.heap.size:=by simp [World.setCell]
      rw [this];exact Xb hzS hb2.size
    case measure=>simp [intOf];omega
  ·obtain rfl:k=5:=by omega
   have hk5: ¬((5:Nat):Int)<5:=by omega
   have c0:wr.cell? ⟨S,0,none⟩=some (.int .u64 (u 0)):=hcS 0 (by decide);have c1:wr.cell? ⟨S,1,none⟩=some (.int .u64 (u 1)):=hcS 1 (by decide);have c2:wr.cell? ⟨S,2,none⟩=some (.int .u64 (u 2)):=hcS 2 (by decide);have c3:wr.cell? ⟨S,3,none⟩=some (.int .u64 (u 3)):=hcS 3 (by decide);have c4:wr.cell? ⟨S,4,none⟩=some (.int .u64 (u 4)):=hcS 4 (by decide);have d2:wr.cell? ⟨w.heap.size+1,2,none⟩=some (strV (ps.getD 2 [])):=hT.2 2 _ (by rw [Yq,Xz (show 2<ps.length by omega)];rfl);have d4:wr.cell? ⟨w.heap.size+1,4,none⟩=some (strV (ps.getD 4 [])):=hT.2 4 _ (by rw [Yq,Xz (show 4<ps.length by omega)];rfl);have HRi:Hid (Right ps (cronV (u 0) (u 1) (u 2) (u 3) (u 4) (ps.getD 2 []==[42]) (ps.getD 4 []==[42]))):=⟨u,l,HIt.out,rfl⟩
   have f0:=hF 0;have f1:=hF 1;have f2:=hF 2;have f3:=hF 3;have f4:=hF 4;have f5:=hF 5;have f6:=hF 6;have e0:wr.cell? ⟨w.heap.size,0,none⟩=some (.int .u64 0):=hC 0;have e1:wr.cell? ⟨w.heap.size,1,none⟩=some (.int .u64 0):=hC 1;have e2:wr.cell? ⟨w.heap.size,2,none⟩=some (.int .u64 0):=hC 2;have e3:wr.cell? ⟨w.heap.size,3,none⟩=some (.int .u64 0):=hC 3;have e4:wr.cell? ⟨w.heap.size,4,none⟩=some (.int .u64 0):=hC 4;have e5:wr.cell? ⟨w.heap.size,5,none⟩=some (.bool false):=hC 5;have e6:wr.cell? ⟨w.heap.size,6,none⟩=some (.bool false):=hC 6;clear hcS hfS hC hF HIt;generalize ps.getD 2 []=t2 at*;generalize ps.getD 4 []=t4 at*;have z1:S≠w.heap.size:=by omega
   have z3:w.heap.size+1≠w.heap.size:=by omega
   have HBw:=zh hbw;clear cS hBr hB hT HW HP hbw hw hN hz0 hw0 hF0 hC0 hb1;go_wp2_with fail
   go_region_held (fun w'=>w'.cell? ⟨S,0,none⟩=some (.int .u64 (u 0))∧w'.cell? ⟨S,1,none⟩=some (.int .u64 (u 1))∧w'.cell? ⟨S,2,none⟩=some (.int .u64 (u 2))∧w'.cell? ⟨S,3,none⟩=some (.int .u64 (u 3))∧w'.cell? ⟨S,4,none⟩=some (.int .u64 (u 4))∧w'.cell? ⟨w.heap.size+1,2,none⟩=some (strV t2)∧w'.cell? ⟨w.heap.size+1,4,none⟩=some (strV t4)) (first|((repeat (first|(with_reducible refine kd7 ?_)|(with_reducible refine keep7 z1 z3 ?_)));with_reducible exact⟨c0,c1,c2,c3,c4,d2,d4⟩)) (fail)
   go_wp2;exact finPd (B:=w.heap.size) rfl rfl rfl (set7c (W:=wr) (B:=w.heap.size) (x0:=Value.int .u64 0) (x1:=Value.int .u64 0) (x2:=Value.int .u64 0) (x3:=Value.int .u64 0) (x4:=Value.int .u64 0) (x5:=Value.bool false) (x6:=Value.bool false) (.int .u64 (u 0)) (.int .u64 (u 1)) (.int .u64 (u 2)) (.int .u64 (u 3)) (.int .u64 (u 4)) (.bool (t2==[42])) (.bool (t4==[42])) e0 e1 e2 e3 e4 e5 e6) (HR.out _ HRi.out) ((((((((HBw.out.setCell (Xa _) _).setCell (Xa _) _).setCell (Xa _) _).setCell (Xa _) _).setCell (Xa _) _).setCell (Xa _) _).setCell (Xa _) _))
theorem parse_any (s:List UInt8) (w:World) (hB:BdsAt w):Calls prog 59 #[strV s] w fun e w'=>ParseAns s e∧Below w.heap.size w w':=by
 by_cases h:s.length≤300
 ·by_cases hp:(pieces 32 s).length=5
  ·exact parse_five s w hB h hp
  ·exact parse_count s w h hp
 ·exact parse_long s w (by omega)
end Pie
namespace Pie
open Crn Lai

theorem full_int {full lo hi:Int} {P:Nat→Prop} [DecidablePred P] (hlo:0≤lo) (h: ∀k:Nat,inS full (k:Int)=decide (P k)) (hP: ∀k:Nat,P k↔lo≤(k:Int)∧(k:Int)≤hi) (n:Int):inS full n=decide (lo≤n∧n≤hi):=by
 by_cases g:0≤n
 ·obtain⟨k,rfl⟩:=Xh g;rw [h,decide_eq_decide];exact hP k
 ·rw [inS_neg _ _ (by omega),eq_comm,decide_eq_false_iff_not];omega
theorem in0 (n:Int):inS fMin n=decide (0≤n∧n≤59):=full_int (P:=fun k=>k≤59) (by omega) (fun k=>(full_in k).1) (fun k=>by omega) n
theorem in1 (n:Int):inS fHour n=decide (0≤n∧n≤23):=full_int (P:=fun k=>k≤23) (by omega) (fun k=>(full_in k).2.1) (fun k=>by omega) n
theorem in2 (n:Int):inS fDay n=decide (1≤n∧n≤31):=full_int (P:=fun k=>1≤k∧k≤31) (by omega) (fun k=>(full_in k).2.2.1) (fun k=>by omega) n
theorem in3 (n:Int):inS fMon n=decide (1≤n∧n≤12):=full_int (P:=fun k=>1≤k∧k≤12) (by omega) (fun k=>(full_in k).2.2.2.1) (fun k=>by omega) n
theorem in4 (n:Int):inS fWeek n=decide (0≤n∧n≤6):=full_int (P:=fun k=>k≤6) (by omega) (fun k=>(full_in k).2.2.2.2) (fun k=>by omega) n

theorem uF0:U fMin:=⟨by decide,by decide⟩
theorem uF1:U fHour:=⟨by decide,by decide⟩
theorem uF2:U fDay:=⟨by decide,by decide⟩
theorem uF3:U fMon:=⟨by decide,by decide⟩
theorem uF4:U fWeek:=⟨by decide,by decide⟩

theorem right_chk {ps:List (List UInt8)} {v:Value} (h:Right ps v): ∃(mi ho da mn we:Int) (ad aw:Bool),v=cronV mi ho da mn we ad aw∧U mi∧U ho∧U da∧U mn∧U we∧chkB mi ho da mn we ad aw=true:=by
 obtain⟨u,l,h1,rfl⟩:=h;refine⟨u 0,u 1,u 2,u 3,u 4,_,_,rfl,(h1 0 (by decide)).2.1,(h1 1 (by decide)).2.1,(h1 2 (by decide)).2.1,(h1 3 (by decide)).2.1,(h1 4 (by decide)).2.1,?_⟩;have nof: ∀t:List UInt8,(false:Bool)=true→t=[42]:=fun t h=>by cases h
 unfold chkB;simp only [Xq];exact⟨ok_read (lo:=0) (hi:=59) uF0 in0 (by decide) (h1 0 (by decide)).1 (h1 0 (by decide)).2 (nof _),ok_read (lo:=0) (hi:=23) uF1 in1 (by decide) (h1 1 (by decide)).1 (h1 1 (by decide)).2 (nof _),ok_read (lo:=1) (hi:=31) uF2 in2 (by decide) (h1 2 (by decide)).1 (h1 2 (by decide)).2 (fun e=>beq_iff_eq.1 e),ok_read (lo:=1) (hi:=12) uF3 in3 (by decide) (h1 3 (by decide)).1 (h1 3 (by decide)).2 (nof _),ok_read (lo:=0) (hi:=6) uF4 in4 (by decide) (h1 4 (by decide)).1 (h1 4 (by decide)).2 (fun e=>beq_iff_eq.1 e)⟩
end Pie
namespace Pln
open Go.RowKit Crn Lai Pie
variable {rd:List UInt8→Option K}

theorem cron_case (s:List UInt8):(∃E:Int,(E=2∨E=3)∧ ∀e,ParseAns s e→e=.returned (.tuple #[cron0,.int .i64 E]))∨
  ∃c:K,Us c∧kc c=true∧ParseAns s (.returned (.tuple #[kV c,.int .i64 0]))∧ ∀e,ParseAns s e→e=.returned (.tuple #[kV c,.int .i64 0]):=by
 by_cases hl:300<s.length
 ·refine Or.inl ⟨2,Or.inl rfl,fun e h=> ?_⟩;rcases h with⟨_,h⟩|⟨h,_⟩|⟨h,_⟩
  ·exact h
  ·omega
  ·omega
 ·by_cases hr:(pieces 32 s).length=5∧ ∃v,Right (pieces 32 s) v
  ·obtain⟨hp,v,hv⟩:=hr;obtain⟨mi,ho,da,mn,we,ad,aw,rfl,u0,u1,u2,u3,u4,hc⟩:=right_chk hv;refine Or.inr ⟨⟨mi,ho,da,mn,we,ad,aw⟩,⟨u0,u1,u2,u3,u4⟩,hc,Or.inr (Or.inr ⟨by omega,hp,_,hv,rfl⟩),fun e h=> ?_⟩;rcases h with⟨h,_⟩|⟨_,h,_⟩|⟨_,_,v',h,rfl⟩
   ·exact absurd h hl
   ·rcases h with h|h
    ·exact absurd hp h
    ·exact absurd h (right_not hv)
   ·rw [right_one h hv]
  ·refine Or.inl ⟨3,Or.inr rfl,fun e h=> ?_⟩;rcases h with⟨h,_⟩|⟨_,_,h⟩|⟨_,hp,v',h,_⟩
   ·exact absurd h hl
   ·exact h
   ·exact absurd ⟨hp,v',h⟩ hr
structure RdOk (rd:List UInt8→Option K):Prop where
 yes: ∀s c,rd s=some c→Us c∧kc c=true∧ParseAns s (.returned (.tuple #[kV c,.int .i64 0]))∧ ∀e,ParseAns s e→e=.returned (.tuple #[kV c,.int .i64 0])
 no: ∀s,rd s=none→ ∃E:Int,(E=2∨E=3)∧ ∀e,ParseAns s e→e=.returned (.tuple #[cron0,.int .i64 E])
theorem rd_exists: ∃rd,RdOk rd:=by
 classical
 have key: ∀s,∃o:Option K,(∀c,o=some c→Us c∧kc c=true∧ParseAns s (.returned (.tuple #[kV c,.int .i64 0]))∧ ∀e,ParseAns s e→e=.returned (.tuple #[kV c,.int .i64 0]))∧(o=none→ ∃E:Int,(E=2∨E=3)∧ ∀e,ParseAns s e→e=.returned (.tuple #[cron0,.int .i64 E])):=fun s=>by
  rcases cron_case s with h|⟨c,h⟩
  ·exact⟨none,fun c hc=>(by cases hc),fun _=>h⟩
  ·exact⟨some c,fun c' hc=>(by cases hc;exact h),fun hc=>(by cases hc)⟩
 exact⟨fun s=>Classical.choose (key s),fun s=>(Classical.choose_spec (key s)).1,fun s=>(Classical.choose_spec (key s)).2⟩
theorem slash_item (lo hi:Int):wordS lo hi (pieces 44 [47])=none:=by
 rw [pieces_none (by decide)];have e:itemS lo hi [47]=none:=by
  unfold itemS;rw [show cutS 47 [47]=some ([],[])from rfl];have r:rowS lo hi []=none:=by unfold rowS;rw [if_neg (by decide)];rfl
  dsimp only;rw [r]
 unfold wordS;rw [e]
theorem rd_wrong (h:RdOk rd) {s:List UInt8} (hw:Wrong (pieces 32 s)):rd s=none:=by
 cases hr:rd s with
 |none=>rfl
 |some c=>
  exfalso;obtain⟨_,_,_,h4⟩:=h.yes s c hr;by_cases hl:300<s.length
  ·have:=h4 _ (Or.inl ⟨hl,rfl⟩);simp at this
  ·have:=h4 _ (Or.inr (Or.inl ⟨by omega,hw,rfl⟩));simp at this
theorem rd_slash (h:RdOk rd) (s:List UInt8) (hs:[47]∈pieces 32 s):rd s=none:=by
 refine rd_wrong h ?_;by_cases hp:(pieces 32 s).length=5
 ·obtain⟨i,hi⟩:=Yr.1 hs;refine Or.inr ⟨i,by have:=(Xe.1 hi).1;omega,?_⟩;unfold wItems;rw [Yq,hi];exact slash_item _ _
 ·exact Or.inl hp
theorem rd_nil (h:RdOk rd):rd []=none:=rd_wrong h (Or.inl (by decide))
