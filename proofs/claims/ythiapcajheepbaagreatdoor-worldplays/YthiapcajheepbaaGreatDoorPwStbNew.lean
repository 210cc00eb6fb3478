/- A part. -/
import Derived.Test.YthiapcajheepbaaGreatDoorPwStbKnow
import Derived.Deep.RegionHeld
set_option linter.all false
open Go.Proofs.Tryz
set_option maxHeartbeats 32000000
set_option maxRecDepth 8000
namespace Go.Proofs.YthiapcajheepbaaGreatDoor
namespace Stb
open Rw Go.RowKit
variable {C N:Nat} {W:World} {f a b c d:Value}

def cl (n:Int):Int:=min (max n 0) 100000
def clP (p:Pc):Pc:=⟨cl p.w,cl p.n,cl p.c,cl p.p⟩
theorem cl_bd (n:Int):0≤cl n∧cl n≤100000:=by unfold cl;omega
theorem clP_ok (p:Pc):PcOk (clP p):=⟨cl_bd _,cl_bd _,cl_bd _,cl_bd _⟩
def new (u d:Pc):St:=⟨clP u,clP d,0,[],[],⟨[],0⟩,⟨[],0⟩⟩
theorem new_fit (u d:Pc):Fit (new u d) 0:=⟨clP_ok u,clP_ok d,⟨Xu 0,by simp [new]⟩,by simp [new],by simp [new],by simp [new],by simp [new],⟨rfl,by simp [new],by simp [new],by simp [new]⟩,⟨rfl,by simp [new],by simp [new],by simp [new]⟩⟩
theorem clip1_any (n:Int) (w:World):CS 102 #[.int .i64 n] w (.int .i64 (cl n)):=by
 obtain⟨m,hm⟩: ∃m,max n 0=m:=⟨_,rfl⟩
 have e1:(if n<0 then(0:Int)else n)=m:=by rw [←hm];split<;>omega
 have e2:(if 100000<m then(100000:Int)else m)=cl n:=by unfold cl;rw [hm];split<;>omega
 clear hm;go_enter func102,ntmps102;go_wp2;go_ret;exact⟨rfl,rfl⟩
def PcAt (w:World) (C o:Nat) (p:Pc):Prop:=w.cell? ⟨C,o,none⟩=some (.int .i64 p.w)∧w.cell? ⟨C,o+1,none⟩=some (.int .i64 p.n)∧w.cell? ⟨C,o+2,none⟩=some (.int .i64 p.c)∧w.cell? ⟨C,o+3,none⟩=some (.int .i64 p.p)
theorem range_pc {w:World} {p:Pc} (h:PcAt w C 0 p):w.rangeAt C 0 [.int .i64 p.w,.int .i64 p.n,.int .i64 p.c,.int .i64 p.p]:=by
 intro j v hv;match j,hv with
 |0,hv=>simp at hv;subst hv;simpa using h.1
 |1,hv=>simp at hv;subst hv;simpa using h.2.1
 |2,hv=>simp at hv;subst hv;simpa using h.2.2.1
 |3,hv=>simp at hv;subst hv;simpa using h.2.2.2
 |j+4,hv=>simp at hv
theorem finP {fn:Func} {p:Tmp} {Q:Ending→World→Prop} (hres:fn.results=#[.cell p 23]) {ex:Exit} (hex:ex=.ret∨ex=.normal) {a:Act} {Wf:World} {x:Pc} (hp:a.tmps[p]? =some (.pointer (some ⟨C,0,none⟩))) (ha:a.defers=[])
  (h:PcAt Wf C 0 x) (hQ:Q (.returned (pcV x)) Wf):bodyPost prog fn Q ex a Wf:=by
 have hl:=run_loadVar_mid (P:=prog) Wf C 0 23 _ _ (range_pc h) underlying23 rfl (by kernel_rfl);have hr:(results fn a.tmps).run prog Wf=.ok (pcV x) Wf:=by
  simp only [results,hres];simp [hp,asAddr,hl,pcV]
 rcases hex with rfl|rfl
 ·exact bodyPost_ret hr ha hQ
 ·exact bodyPost_end hr ha hQ
theorem ks_drew {K:Nat} (h:W.cell? ⟨K,0,none⟩=some f∧W.cell? ⟨N,0,none⟩=some a∧W.cell? ⟨N,1,none⟩=some b∧W.cell? ⟨N,2,none⟩=some c∧W.cell? ⟨N,3,none⟩=some d):
  W.drew.cell? ⟨K,0,none⟩=some f∧W.drew.cell? ⟨N,0,none⟩=some a∧W.drew.cell? ⟨N,1,none⟩=some b∧W.drew.cell? ⟨N,2,none⟩=some c∧W.drew.cell? ⟨N,3,none⟩=some d:=h
theorem ks_set {K M j:Nat} {x:Value} (h1:K≠M) (h2:N≠M) (h:W.cell? ⟨K,0,none⟩=some f∧W.cell? ⟨N,0,none⟩=some a∧W.cell? ⟨N,1,none⟩=some b∧W.cell? ⟨N,2,none⟩=some c∧W.cell? ⟨N,3,none⟩=some d):
  (W.setCell ⟨M,j,none⟩ x).cell? ⟨K,0,none⟩=some f∧(W.setCell ⟨M,j,none⟩ x).cell? ⟨N,0,none⟩=some a∧(W.setCell ⟨M,j,none⟩ x).cell? ⟨N,1,none⟩=some b∧(W.setCell ⟨M,j,none⟩ x).cell? ⟨N,2,none⟩=some c∧(W.setCell ⟨M,j,none⟩ x).cell? ⟨N,3,none⟩=some d:=by
 have o: ∀(L i:Nat),L≠M→(W.setCell ⟨M,j,none⟩ x).cell? ⟨L,i,none⟩=W.cell? ⟨L,i,none⟩:=fun L i hL=>Xd _ _ _ _ (fun e=>hL (congrArg Addr.block e).symm);rw [o K 0 h1,o N 0 h2,o N 1 h2,o N 2 h2,o N 3 h2];exact h
theorem set4 {x0 x1 x2 x3:Value} (v0 v1 v2 v3:Value) (c0:W.cell? ⟨C,0,none⟩=some x0) (c1:W.cell? ⟨C,1,none⟩=some x1) (c2:W.cell? ⟨C,2,none⟩=some x2) (c3:W.cell? ⟨C,3,none⟩=some x3):
  ((((W.setCell ⟨C,0,none⟩ v0).setCell ⟨C,1,none⟩ v1).setCell ⟨C,2,none⟩ v2).setCell ⟨C,3,none⟩ v3).cell? ⟨C,0,none⟩=some v0∧((((W.setCell ⟨C,0,none⟩ v0).setCell ⟨C,1,none⟩ v1).setCell ⟨C,2,none⟩ v2).setCell ⟨C,3,none⟩ v3).cell? ⟨C,1,none⟩=some v1∧((((W.setCell ⟨C,0,none⟩ v0).setCell ⟨C,1,none⟩ v1).setCell ⟨C,2,none⟩ v2).setCell ⟨C,3,none⟩ v3).cell? ⟨C,2,none⟩=some v2∧((((W.setCell ⟨C,0,none⟩ v0).setCell ⟨C,1,none⟩ v1).setCell ⟨C,2,none⟩ v2).setCell ⟨C,3,none⟩ v3).cell? ⟨C,3,none⟩=some v3:=by
 simp [go_sem,c0,c1,c2,c3]
theorem clip2_any (p:Pc) (K:Nat) (w:World) (hK:w.cell? ⟨K,0,none⟩=some (.func (.func 102) #[] #[])):
  CB 103 #[pcV p,.pointer (some ⟨K,0,none⟩)] w (pcV (clP p)):=by
 obtain⟨pw,pn,pc,pp⟩:=p;have hKl:=Xj w _ hK;simp only at hKl;have c:=fun n w=>clip1_any n w;unfold pcV;go_enter func103,ntmps103;go_wp2_with fail
 have hb:Below w.heap.size w ((w.alloc (.cells #[.int .i64 pw,.int .i64 pn,.int .i64 pc,.int .i64 pp] 23)).alloc (.cells #[.int .i64 0,.int .i64 0,.int .i64 0,.int .i64 0] 23)):=((Below.refl _ _).alloc (Xa _) _).alloc (by simp) _;have hK1:=(hb.cell hKl).trans hK;have p0:((w.alloc (.cells #[.int .i64 pw,.int .i64 pn,.int .i64 pc,.int .i64 pp] 23)).alloc (.cells #[.int .i64 0,.int .i64 0,.int .i64 0,.int .i64 0] 23)).cell? ⟨w.heap.size,0,none⟩=some (.int .i64 pw):=by simp [go_sem]
 have p1:((w.alloc (.cells #[.int .i64 pw,.int .i64 pn,.int .i64 pc,.int .i64 pp] 23)).alloc (.cells #[.int .i64 0,.int .i64 0,.int .i64 0,.int .i64 0] 23)).cell? ⟨w.heap.size,1,none⟩=some (.int .i64 pn):=by simp [go_sem]
 have p2:((w.alloc (.cells #[.int .i64 pw,.int .i64 pn,.int .i64 pc,.int .i64 pp] 23)).alloc (.cells #[.int .i64 0,.int .i64 0,.int .i64 0,.int .i64 0] 23)).cell? ⟨w.heap.size,2,none⟩=some (.int .i64 pc):=by simp [go_sem]
 have p3:((w.alloc (.cells #[.int .i64 pw,.int .i64 pn,.int .i64 pc,.int .i64 pp] 23)).alloc (.cells #[.int .i64 0,.int .i64 0,.int .i64 0,.int .i64 0] 23)).cell? ⟨w.heap.size,3,none⟩=some (.int .i64 pp):=by simp [go_sem]
 have r0:((w.alloc (.cells #[.int .i64 pw,.int .i64 pn,.int .i64 pc,.int .i64 pp] 23)).alloc (.cells #[.int .i64 0,.int .i64 0,.int .i64 0,.int .i64 0] 23)).cell? ⟨w.heap.size+1,0,none⟩=some (.int .i64 0):=by simp [go_sem]
 have r1:((w.alloc (.cells #[.int .i64 pw,.int .i64 pn,.int .i64 pc,.int .i64 pp] 23)).alloc (.cells #[.int .i64 0,.int .i64 0,.int .i64 0,.int .i64 0] 23)).cell? ⟨w.heap.size+1,1,none⟩=some (.int .i64 0):=by simp [go_sem]
 have r2:((w.alloc (.cells #[.int .i64 pw,.int .i64 pn,.int .i64 pc,.int .i64 pp] 23)).alloc (.cells #[.int .i64 0,.int .i64 0,.int .i64 0,.int .i64 0] 23)).cell? ⟨w.heap.size+1,2,none⟩=some (.int .i64 0):=by simp [go_sem]
 have r3:((w.alloc (.cells #[.int .i64 pw,.int .i64 pn,.int .i64 pc,.int .i64 pp] 23)).alloc (.cells #[.int .i64 0,.int .i64 0,.int .i64 0,.int .i64 0] 23)).cell? ⟨w.heap.size+1,3,none⟩=some (.int .i64 0):=by simp [go_sem]
 have f0: ∀j,((w.alloc (.cells #[.int .i64 pw,.int .i64 pn,.int .i64 pc,.int .i64 pp] 23)).alloc (.cells #[.int .i64 0,.int .i64 0,.int .i64 0,.int .i64 0] 23)).frozen? ⟨w.heap.size+1,j,none⟩=false:=fun j=>by simp [go_sem]
 generalize (w.alloc (.cells #[.int .i64 pw,.int .i64 pn,.int .i64 pc,.int .i64 pp] 23)).alloc (.cells #[.int .i64 0,.int .i64 0,.int .i64 0,.int .i64 0] 23)=W at*;have q0:=f0 0;have q1:=f0 1;have q2:=f0 2;have q3:=f0 3;have HB:=zh hb;have hn1:K≠w.heap.size+1:=by omega
 have hn2:w.heap.size≠w.heap.size+1:=by omega
 clear hK hb f0;go_region_held (fun w'=>w'.cell? ⟨K,0,none⟩=some (.func (.func 102) #[] #[])∧w'.cell? ⟨w.heap.size,0,none⟩=some (.int .i64 pw)∧w'.cell? ⟨w.heap.size,1,none⟩=some (.int .i64 pn)∧w'.cell? ⟨w.heap.size,2,none⟩=some (.int .i64 pc)∧w'.cell? ⟨w.heap.size,3,none⟩=some (.int .i64 pp)) (first|with_reducible exact ks_drew ⟨hK1,p0,p1,p2,p3⟩|with_reducible exact ks_drew (ks_set hn1 hn2 (ks_set hn1 hn2 (ks_set hn1 hn2 (ks_set hn1 hn2 ⟨hK1,p0,p1,p2,p3⟩))))) (first|(go_at_call 102;(with_reducible refine zq (c _ _) ?_)))
 all_goals
  go_wp2;have hs:=set4 (.int .i64 (cl pw)) (.int .i64 (cl pn)) (.int .i64 (cl pc)) (.int .i64 (cl pp)) r0 r1 r2 r3;exact finP (x:=clP ⟨pw,pn,pc,pp⟩) results103 (Or.inl rfl) rfl rfl hs ⟨rfl,(((((HB.out).setCell (p:=⟨w.heap.size+1,0,none⟩) (Xm _) _).setCell (p:=⟨w.heap.size+1,1,none⟩) (Xm _) _).setCell (p:=⟨w.heap.size+1,2,none⟩) (Xm _) _).setCell (p:=⟨w.heap.size+1,3,none⟩) (Xm _) _).drew⟩
