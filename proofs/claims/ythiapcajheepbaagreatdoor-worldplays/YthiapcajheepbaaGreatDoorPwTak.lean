/- A part. -/
import Derived.Test.YthiapcajheepbaaGreatDoorPwAr
import Derived.Deep.RegionHeld
set_option linter.all false
open Go.Proofs.Tryz
namespace Go.Proofs.YthiapcajheepbaaGreatDoor
namespace Tk
open Go.RowKit
variable {oi o:Oper} {v:Value} {fuel id:Nat} {listed:Array Bool} {a A:Act} {w:World} {L:List Bool}
variable {P : Program} {md : Region.Mode} {ops : Array Oper} {Q : Exit → Act → World → Prop} {S : World → Prop}

def nx:List Bool→Nat
 | []=>0
 |false::_=>0
 |true::l=>nx l+1
theorem tk {listed:List Bool} (hi:ops[nx listed]? =some oi) (hc:(Region.noSelect ops&&Region.free md ops listed.toArray (nx listed)&&(Region.ready md ops listed.toArray).contains (nx listed))=true)
  (hQ: ∀c a w,Q (.panic c) (a.put oi.dst v) w→Q (.panic c) a w) (hy:YieldsIf P ops S oi v a) (hS:S w)
  (h:wpAnyH P md ops Q S fuel (listed.set (nx listed) true).toArray (a.put oi.dst v) w):wpAnyH P md ops Q S (fuel+1) listed.toArray a w:=by
 have h1:=hc;simp only [Xq]at h1;have e:listed.toArray.setIfInBounds (nx listed) true=(listed.set (nx listed) true).toArray:=by simp
 exact wpAnyH_take hi h1.1.1 h1.1.2 h1.2 hQ hy hS (by rw [e];exact h)
theorem st (n:Nat) (l:List Bool) (hl:(ops.size==n&&List.replicate n false==l)=true) (hm:P.follows .mixedOrders=true) (hS:S w.drew)
  (h:S w.drew→wpAnyH P .any ops Q S n l.toArray a w.drew):(Code.region id ops true).wp P Q a w:=by
 simp only [Xq,beq_iff_eq]at hl;obtain⟨h1,h2⟩:=hl;refine wp_region_held_drew hm hS (fun hh=> ?_);have e:Array.replicate ops.size false=l.toArray:=by rw [h1,←h2];simp
 rw [e,h1];exact h hh
theorem aq:(nx []=0∧(∀l,nx (false::l)=0)∧(∀l,nx (true::l)=nx l+1))∧((∀(a:Act) d v,a.put (some d) v= { a with tmps:=a.tmps.setIfInBounds d v })∧(∀(a:Act) v,a.put none v=a))∧(∀(α:Type) (l:List α) (i:Nat) (a:α),l.toArray.setIfInBounds i a=(l.set i a).toArray)∧(∀(α:Type) (x:α) (l:List α) (a:α),(x::l).set 0 a=a::l)∧(∀(α:Type) (x:α) (l:List α) (i:Nat) (a:α),(x::l).set (i+1) a=x::l.set i a)∧(∀(α:Type) (l:List α) (i:Nat) (h:i<l.toArray.size),l.toArray[i]=l[i]'(by simpa using h))∧(∀(α:Type) (x:α) (l:List α) (h:0<(x::l).length),(x::l)[0]=x)∧(∀(α:Type) (x:α) (l:List α) (i:Nat) (h:i+1<(x::l).length),(x::l)[i+1]=l[i]'(by simpa using h)):=
 ⟨⟨rfl,fun _=>rfl,fun _=>rfl⟩,⟨fun _ _ _=>rfl,fun _ _=>rfl⟩,fun _ _ _ _=>List.setIfInBounds_toArray _ _ _,fun _ _ _ _=>rfl,fun _ _ _ _ _=>rfl,fun _ _ _ _=>rfl,fun _ _ _ _=>rfl,fun _ _ _ _ _=>rfl⟩
theorem sb (n:Nat) {l:List Bool} (hS:S w.drew) (h:S w.drew→wpAnyH P .any ops Q S n l.toArray a w.drew) (hl:List.replicate n false=l:=by simp only [List.replicate_succ,List.replicate_zero];rfl) (hz:(ops.size==n)=true:=by kernel_rfl) (hm:P.follows .mixedOrders=true:=by kernel_rfl):(Code.region id ops true).wp P Q a w:=
 st n l (by rw [hz,hl];simp) hm hS h
variable {P : Program} {md : Region.Mode} {ops : Array Oper} {Q : Exit → Act → World → Prop} {S : World → Prop}

theorem go {listed:List Bool}
  (h:wpAnyH P md ops Q S fuel (listed.set (nx listed) true).toArray (a.put oi.dst v) w)
  (hi:ops[nx listed]? =some oi:=by rfl) (hc:(Region.noSelect ops&&Region.free md ops listed.toArray (nx listed)&&(Region.ready md ops listed.toArray).contains (nx listed))=true:=by kernel_rfl)
  (hQ: ∀c a w,Q (.panic c) (a.put oi.dst v) w→Q (.panic c) a w:=by exact fun _ _ _ h=>h)
  (hy:YieldsIf P ops S oi v a:=by first|exact Or.inr ⟨by rfl,rfl⟩|(refine Or.inl ⟨by rfl,?_⟩;intro w' hSw;(try dsimp only at hSw);(try simp only [Tk.nx,ag]);go_simp;all_goals with_reducible rfl))
  (hS:S w:=by assumption):wpAnyH P md ops Q S (fuel+1) listed.toArray a w:=tk hi hc hQ hy hS h
theorem gi (i:Nat)
  (h:wpAnyH P md ops Q S fuel (listed.setIfInBounds i true) (a.put oi.dst v) w)
  (hi:ops[i]? =some oi:=by rfl) (hc:(Region.noSelect ops&&Region.free md ops listed i&&(Region.ready md ops listed).contains i)=true:=by kernel_rfl)
  (hQ: ∀c a w,Q (.panic c) (a.put oi.dst v) w→Q (.panic c) a w:=by exact fun _ _ _ h=>h)
  (hy:YieldsIf P ops S oi v a:=by first|exact Or.inr ⟨by rfl,rfl⟩|(refine Or.inl ⟨by rfl,?_⟩;intro w' hSw;(try dsimp only at hSw);go_simp;all_goals with_reducible rfl))
  (hS:S w:=by assumption):wpAnyH P md ops Q S (fuel+1) listed a w:=by
 have h1:=hc;simp only [Xq]at h1;exact wpAnyH_take hi h1.1.1 h1.1.2 h1.2 hQ hy hS h
theorem r1 (i:Nat)
  (h: ∀K':Act→World→Prop,Shut (∀a w,S w→(S w→wpAnyH P md ops Q S fuel (listed.setIfInBounds i true) a w)→K' a w)→if Region.wanted o (yielded ops a.tmps)=true then Oper.wp P o a w K' Q else K' (a.put o.dst undef) w)
  (ho:ops[i]? =some o:=by rfl) (hr:Region.ready md ops listed=[i]:=by kernel_rfl):wpAnyH P md ops Q S (fuel+1) listed a w:=
 wpAnyH_ready hr (by simp) (AllReadyH.cons ho h AllReadyH.nil)
theorem up {S':World→Prop} (hS: ∀w,S' w→S w): ∀ {fuel:Nat} {listed:Array Bool} {a:Act} {w:World},wpAnyH P md ops Q S' fuel listed a w→wpAnyH P md ops Q S fuel listed a w
 |0,_,_,_,h=>h
 |_+1,_,_,_,h=>⟨h.1,fun i hi=>wpOp_mono (fun _ _ h'=>⟨hS _ h'.1,up hS h'.2⟩) (h.2 i hi)⟩
theorem kc {w':World} {k j:Nat} (h:w.cell? ⟨k,j,none⟩=some v) (hb:Below w.heap.size w w'):w'.cell? ⟨k,j,none⟩=some v:=(hb.cell (p:=⟨k,j,none⟩) (Xj w _ h)).trans h
theorem gn {listed:List Bool}
  (h:wpAnyH P md ops Q S fuel L.toArray A w)
  (hi:ops[nx listed]? =some oi:=by rfl) (hc:(Region.noSelect ops&&Region.free md ops listed.toArray (nx listed)&&(Region.ready md ops listed.toArray).contains (nx listed))=true:=by kernel_rfl)
  (hQ: ∀c a w,Q (.panic c) (a.put oi.dst v) w→Q (.panic c) a w:=by exact fun _ _ _ h=>h)
  (hy:YieldsIf P ops S oi v a:=by first|exact Or.inr ⟨by rfl,rfl⟩|(refine Or.inl ⟨by rfl,?_⟩;intro w' hSw;(try dsimp only at hSw);(try simp only [Tk.nx,ag]);go_simp;all_goals with_reducible rfl))
  (hS:S w:=by assumption) (hL:listed.set (nx listed) true=L:=by simp only [Tk.aq];rfl) (hA:a.put oi.dst v=A:=by simp only [Tk.aq];rfl):wpAnyH P md ops Q S (fuel+1) listed.toArray a w:=by
 subst hL hA;exact go h hi hc hQ hy hS
theorem gm (i:Nat)
  (h:wpAnyH P md ops Q S fuel L.toArray A w)
  (hi:ops[i]? =some oi:=by rfl) (hc:(Region.noSelect ops&&Region.free md ops listed i&&(Region.ready md ops listed).contains i)=true:=by kernel_rfl)
  (hQ: ∀c a w,Q (.panic c) (a.put oi.dst v) w→Q (.panic c) a w:=by exact fun _ _ _ h=>h)
  (hy:YieldsIf P ops S oi v a:=by first|exact Or.inr ⟨by rfl,rfl⟩|(refine Or.inl ⟨by rfl,?_⟩;intro w' hSw;(try dsimp only at hSw);go_simp;all_goals with_reducible rfl))
  (hS:S w:=by assumption) (hL:listed.setIfInBounds i true=L.toArray:=by simp only [Tk.aq];rfl) (hA:a.put oi.dst v=A:=by simp only [Tk.aq];rfl):wpAnyH P md ops Q S (fuel+1) listed a w:=by
 subst hA;exact gi i (by rw [hL];exact h) hi hc hQ hy hS
theorem rn (i:Nat)
  (h: ∀K':Act→World→Prop,Shut (∀a w,S w→(S w→wpAnyH P md ops Q S fuel L.toArray a w)→K' a w)→if Region.wanted o (yielded ops a.tmps)=true then Oper.wp P o a w K' Q else K' (a.put o.dst undef) w)
  (ho:ops[i]? =some o:=by rfl) (hr:Region.ready md ops listed=[i]:=by kernel_rfl) (hL:listed.setIfInBounds i true=L.toArray:=by simp only [Tk.aq];rfl):wpAnyH P md ops Q S (fuel+1) listed a w:=
 r1 i (fun K hK=>h K (by rw [hL]at hK;exact hK)) ho hr
