/- A part. -/
import Derived.Test.YthiapcajheepbaaGreatDoorPwAr
import Derived.ProofKit
import Derived.Deep.Slices
set_option linter.all false
open Go.Proofs.Tryz
namespace Go.Proofs.YthiapcajheepbaaGreatDoor
namespace Frm
section
variable {P : Program} {w : World} {r : Reach} {base : Nat} {t : TypeId} {v : Value}

theorem cell_int {k:IntKind} (ht:P.underlying t=some (.int k)) (h:Cell.okWide P w r base t v): ∃n:Int,v=.int k n∧k.has n:=by
 simp only [ht,Cell.okWide]at h;cases v<;>simp_all [Cell.ok]
theorem cell_string (ht:P.underlying t=some .string) (h:Cell.okWide P w r base t v): ∃s:ByteArray,v=.string s∧(s.size:Int)≤9223372036854775807:=by
 simp only [ht,Cell.okWide]at h;cases v<;>simp_all [Cell.ok]

theorem val_int {k:IntKind} (ht:P.underlying t=some (.int k)) (h:Value.okWide P w r base t v): ∃n:Int,v=.int k n∧k.has n:=by
 simp only [Value.okWide,ht]at h;exact cell_int ht h
theorem bd_i64 {n:Int} (h:IntKind.i64.has n): -9223372036854775808≤n∧n≤9223372036854775807:=h
theorem agg_cells {fs:Array Field} {ts:List TypeId} (ht:P.underlying t=some (.struct fs)) (hc:P.cellTypes P.depth t=some ts) (hn:P.cellsOf t=ts.length)
  (h:Value.okWide P w r base t v): ∃cs:List Value,v=.agg cs.toArray∧cs.length=ts.length∧ ∀(i:Nat) (u:TypeId) (c:Value),ts[i]? =some u→cs[i]? =some c→Cell.okWide P w r base u c:=by
 simp only [Value.okWide,ht]at h;obtain⟨cs,rfl,hsz,ts',hts,_,hcell⟩:=h;rw [hc]at hts;cases hts;refine⟨cs.toList,by simp,by simp [hsz,hn],?_⟩;intro i u c hu hi;obtain⟨u',hu',hk⟩:=hcell i c (by simpa using hi);have hlt:i<ts.length:=by
  rcases Nat.lt_or_ge i ts.length with h|h
  ·exact h
  ·rw [YB h]at hu;cases hu
 rw [Nat.mod_eq_of_lt hlt,hu]at hu';cases hu';exact hk
end
end Frm
namespace Frm
open Go.ChangeShapes Go.WideShapes Go.Deep Go.RowKit

inductive Leaf where
 |i64|u64|bool|str
def Leaf.ok:Leaf→Value→Prop
 | .i64,v=> ∃z:Int,v=.int .i64 z∧ -9223372036854775808≤z∧z≤9223372036854775807
 | .u64,v=> ∃z:Int,v=.int .u64 z∧0≤z∧z≤18446744073709551615
 | .bool,v=> ∃b:Bool,v=.bool b
 | .str,v=> ∃s:ByteArray,v=.string s∧s.size≤maxLen

def CellsIn (W:World) (a:Option Addr) (len s:Nat) (X:Nat→Nat→Value):Prop:=
 ∀i,i<len→ ∃b off,a=some ⟨b,off,none⟩∧b<W.heap.size∧ ∀j,j<s→W.cell? ⟨b,off+(i*s+j),none⟩=some (X i j)
def LeavesIn (len:Nat) (ks:List Leaf) (X:Nat→Nat→Value):Prop:= ∀i,i<len→ ∀(j:Nat) k,ks[j]? =some k→k.ok (X i j)

theorem cell_lt {w:World} {p:Addr} {v:Value} (h:w.cell? p=some v):p.block<w.heap.size:=by
 by_cases g:p.block<w.heap.size
 ·exact g
 ·exfalso;simp only [World.cell?]at h;rw [Array.getElem?_eq_none (by omega)]at h;simp at h
theorem CellsIn.below {W W':World} {a:Option Addr} {len s n:Nat} {X:Nat→Nat→Value} (h:CellsIn W a len s X) (hb:Below n W W') (hn:W.heap.size≤n):CellsIn W' a len s X:=by
 intro i hi;obtain⟨b,off,rfl,hlt,hc⟩:=h i hi;refine⟨b,off,rfl,Xb hlt hb.size,fun j hj=> ?_⟩;rw [←hc j hj];exact hb.cell (Xb hlt hn)

section
variable {H : Type} (enc : TypeId × Value → H) (P : Program) (w : World) (base : Nat) (spare : Nat → Bool) (held : Bool)
def Leafy (e:TypeId) (ks:List Leaf):Prop:= ∀n cs x,DataW.trod enc P w base spare held n e cs=some x→ ∀(j:Nat) k,ks[j]? =some k→ ∃v,cs[j]? =some v∧k.ok v
end
section
variable {H : Type} {enc : TypeId × Value → H} {P : Program} {w : World} {base : Nat} {spare : Nat → Bool} {held : Bool} {e : TypeId}
theorem leafy_i64 (he:P.underlying e=some (.int .i64)):Leafy enc P w base spare held e [.i64]:=by
 intro n cs x h j k hk;obtain⟨z,rfl,_,hwf⟩:=DataW.trod_int he h;obtain rfl:j=0:=by have:=(Xe.1 hk).1;simp at this;exact this
 cases hk;exact⟨_,rfl,z,rfl,by have:=hwf;simp [Lit.wf]at this;exact this⟩
theorem leafy_u64 (he:P.underlying e=some (.int .u64)):Leafy enc P w base spare held e [.u64]:=by
 intro n cs x h j k hk;obtain⟨z,rfl,_,hwf⟩:=DataW.trod_int he h;obtain rfl:j=0:=by have:=(Xe.1 hk).1;simp at this;exact this
 cases hk;exact⟨_,rfl,z,rfl,by have:=hwf;simp [Lit.wf]at this;exact this⟩
theorem leafy_bool (he:P.underlying e=some .bool):Leafy enc P w base spare held e [.bool]:=by
 intro n cs x h j k hk;obtain⟨z,rfl,_⟩:=DataW.trod_bool he h;obtain rfl:j=0:=by have:=(Xe.1 hk).1;simp at this;exact this
 cases hk;exact⟨_,rfl,z,rfl⟩
theorem leafy_struct {fs:Array Field} {ks:List Leaf} (he:P.underlying e=some (.struct fs))
  (h: ∀j k,ks[j]? =some k→ ∃(i:Nat) (f:Field) (o:Nat) (ks':List Leaf),fs[i]? =some f∧j=f.offset+o∧ks'[o]? =some k∧Leafy enc P w base spare held f.type ks'):Leafy enc P w base spare held e ks:=by
 intro n cs x hx j k hk;obtain⟨i,f,o,ks',hf,rfl,ho,hl⟩:=h j k hk;obtain⟨xs,m,rfl,_,_,hlen,hall⟩:=DataW.trod_struct he hx;have hi:=hall i f hf;cases hxi:xs[i]? with
 |none=>rw [hxi]at hi;simp_all
 |some y=>
  rw [hxi]at hi;obtain⟨v,hv,hok⟩:=hl _ _ _ hi o k ho;refine⟨v,?_,hok⟩;rw [List.getElem?_take]at hv;split at hv
  ·rwa [Yk]at hv
  ·cases hv

theorem cells_open {t:TypeId} {s:Nat} {ks:List Leaf} {fuel:Nat} {v:Value} {x:DataW H×List MemPlace} (ht:P.underlying t=some (.slice e)) (hs:P.cellsOf e=s) (h0:0<s) (hk:ks.length=s)
  (hl:Leafy enc P w base spare held e ks) (h:DataW.trod enc P w base spare held fuel t [v]=some x):
  ∃(a:Option Addr) (len cap:Nat) (X:Nat→Nat→Value),v=.slice a len cap∧len≤cap∧cap≤maxLen∧CellsIn w a len s X∧LeavesIn len ks X:=by
 rcases open_slice ht h with⟨hcs,_⟩|⟨a,len,cap,m,n,D,Pl,hcs,_,hle,hm,hmm,_,hx⟩
 ·obtain rfl:v=.slice none 0 0:=by simpa using hcs
  exact⟨none,0,0,fun _ _=> .bool false,rfl,Xa _,Xx _,fun i hi=>absurd hi (Nat.not_lt_zero _),fun i hi=>absurd hi (Nat.not_lt_zero _)⟩
 ·obtain rfl:v=.slice (some a) len cap:=by simpa using hcs
  have hlm:len≤m:=by rw [hmm];split<;>omega
  have each: ∀i j,i<len→j<s→ ∃z:Value,w.cell? (a.add (i*s+j))=some z∧ ∀k,ks[j]? =some k→k.ok z:=by
   intro i j hi hj;obtain⟨cs',h1,h2⟩:=hx i (by omega);rw [hs]at h1;obtain⟨_,hlen,hcell⟩:=World.cells?_some h1;obtain⟨k,hkj⟩: ∃k,ks[j]? =some k:=⟨ks[j],by simp [hk,hj]⟩
   obtain⟨z,hz,hok⟩:=hl n cs' _ h2 j k hkj;refine⟨z,?_,fun k' hk'=>by rw [hkj]at hk';cases hk';exact hok⟩;have:=hcell j hj;rw [add_add]at this;rw [this];exact hz
  classical
  let X:Nat→Nat→Value:=fun i j=>if h:i<len∧j<s then Classical.choose (each i j h.1 h.2)else .bool false
  have hX: ∀i j,i<len→j<s→w.cell? (a.add (i*s+j))=some (X i j)∧ ∀k,ks[j]? =some k→k.ok (X i j):=by
   intro i j hi hj;have:=Classical.choose_spec (each i j hi hj);simp only [X,dif_pos (And.intro hi hj)];exact this
  refine⟨some a,len,cap,X,rfl,hle,hm,fun i hi=> ?_,fun i hi j k hj=>(hX i j hi (by have:=(Xe.1 hj).1;omega)).2 k hj⟩;obtain⟨b,off,spot⟩:=a;have hspot:spot=none:=by
   have:=World.cell?_spot (hX 0 0 (by omega) h0).1;simpa [Addr.add]using this
  subst hspot;have hpl: ∀j,(⟨b,off,none⟩:Addr).add j=⟨b,off+j,none⟩:=fun j=>add_plain b off j;refine⟨b,off,rfl,?_,fun j hj=> ?_⟩
  ·have:=cell_lt (hX i 0 hi h0).1;rw [hpl]at this;exact this
  ·rw [←hpl];exact(hX i j hi hj).1
theorem field_open {t:TypeId} {fs:Array Field} {fuel:Nat} {cs:List Value} {x:DataW H×List MemPlace} (ht:P.underlying t=some (.struct fs)) (h:DataW.trod enc P w base spare held fuel t cs=some x) {i:Nat} {f:Field} (hf:fs[i]? =some f):
  ∃n y,DataW.trod enc P w base spare held n f.type ((cs.drop f.offset).take (P.cellsOf f.type))=some y:=by
 obtain⟨xs,m,rfl,_,_,hlen,hall⟩:=DataW.trod_struct ht h;have hi:=hall i f hf;cases hxi:xs[i]? with
 |none=>rw [hxi]at hi;simp_all
 |some y=>rw [hxi]at hi;exact⟨_,_,hi⟩
end

def RowsIn (W:World) (a:Option Addr) (len s:Nat) (X:Nat→Nat→Int):Prop:=
 ∀i,i<len→ ∃b off,a=some ⟨b,off,none⟩∧b<W.heap.size∧ ∀j,j<s→W.cell? ⟨b,off+(i*s+j),none⟩=some (.int .i64 (X i j))∧ -9223372036854775808≤X i j∧X i j≤9223372036854775807

theorem cell_in {w:World} {p:Addr} {v:Value} (h:w.cell? p=some v):p.block<w.heap.size:=by
 by_cases g:p.block<w.heap.size
 ·exact g
 ·exfalso;simp only [World.cell?]at h;rw [Array.getElem?_eq_none (by omega)]at h;simp at h

theorem RowsIn.below {W W':World} {a:Option Addr} {len s n:Nat} {X:Nat→Nat→Int} (h:RowsIn W a len s X) (hb:Below n W W') (hn:W.heap.size≤n):RowsIn W' a len s X:=by
 intro i hi;obtain⟨b,off,rfl,hlt,hc⟩:=h i hi;refine⟨b,off,rfl,Xb hlt hb.size,fun j hj=>⟨?_,(hc j hj).2⟩⟩;rw [←(hc j hj).1];exact hb.cell (Xb hlt hn)

section
variable {H : Type} {enc : TypeId × Value → H} {P : Program} {w : World} {base : Nat} {spare : Nat → Bool} {held : Bool}

theorem rows_open {t e:TypeId} {s:Nat} {v:Value} {d:DataW H} {p:List MemPlace} (ht:P.underlying t=some (.slice e)) (hs:P.cellsOf e=s) (h0:0<s)
  (hv: ∃a len cap,v=.slice a len cap)
  (hint: ∀n cs x,cs.length=s→DataW.trod enc P w base spare held n e cs=some x→ ∀j,j<s→ ∃z:Int,cs[j]? =some (.int .i64 z)∧ -9223372036854775808≤z∧z≤9223372036854775807)
  (h:DataW.Trod enc P w base spare held t v d p):
  ∃(a:Option Addr) (len cap:Nat) (X:Nat→Nat→Int),v=.slice a len cap∧len≤cap∧cap≤maxLen∧RowsIn w a len s X:=by
 obtain⟨a0,len0,cap0,rfl⟩:=hv;obtain⟨fuel,hf⟩:=h;rcases open_slice ht hf with⟨hcs,_⟩|⟨a,len,cap,m,n,D,Pl,hcs,_,hl,hm,hmm,_,hx⟩
 ·simp [Value.cells]at hcs;obtain⟨rfl,rfl,rfl⟩:=hcs;exact⟨none,0,0,fun _ _=>0,rfl,Xa _,Xx _,fun i hi=>absurd hi (Nat.not_lt_zero _)⟩
 ·simp [Value.cells]at hcs;obtain⟨rfl,rfl,rfl⟩:=hcs;have hlm:len0≤m:=by rw [hmm];split<;>omega
  have each: ∀i j,i<len0→j<s→ ∃z:Int,w.cell? (a.add (i*s+j))=some (.int .i64 z)∧ -9223372036854775808≤z∧z≤9223372036854775807:=by
   intro i j hi hj;obtain⟨cs',h1,h2⟩:=hx i (by omega);rw [hs]at h1;obtain⟨_,hlen,hcell⟩:=World.cells?_some h1;obtain⟨z,hz,hb1⟩:=hint n cs' _ hlen h2 j hj;refine⟨z,?_,hb1⟩;have:=hcell j hj;rw [add_add]at this;rw [this];exact hz
  classical
  let X:Nat→Nat→Int:=fun i j=>if h:i<len0∧j<s then Classical.choose (each i j h.1 h.2)else 0
  have hX: ∀i j,i<len0→j<s→w.cell? (a.add (i*s+j))=some (.int .i64 (X i j))∧ -9223372036854775808≤X i j∧X i j≤9223372036854775807:=by
   intro i j hi hj;have:=Classical.choose_spec (each i j hi hj);simp only [X,dif_pos (And.intro hi hj)];exact this
  refine⟨some a,len0,cap0,X,rfl,hl,hm,fun i hi=> ?_⟩;obtain⟨b,off,spot⟩:=a;have hspot:spot=none:=by
   have:=World.cell?_spot (hX 0 0 (by omega) h0).1;simpa [Addr.add]using this
  subst hspot;have hpl: ∀j,(⟨b,off,none⟩:Addr).add j=⟨b,off+j,none⟩:=fun j=>add_plain b off j;refine⟨b,off,rfl,?_,fun j hj=> ?_⟩
  ·have:=cell_in (hX i 0 hi h0).1;rw [hpl]at this;exact this
  ·rw [←hpl];exact hX i j hi hj

theorem int_reads {e:TypeId} {n:Nat} {cs:List Value} {x:DataW H×List MemPlace} (he:P.underlying e=some (.int .i64)) (h:DataW.trod enc P w base spare held n e cs=some x):
  ∃z:Int,cs=[.int .i64 z]∧ -9223372036854775808≤z∧z≤9223372036854775807:=by
 obtain⟨z,hcs,_,hwf⟩:=DataW.trod_int he h;exact⟨z,hcs,by have:=hwf;simp [Lit.wf]at this;exact this⟩

theorem aggs_open {t e:TypeId} {fs:Array Field} {v:Value} {d:DataW H} {p:List MemPlace} (ht:P.underlying t=some (.slice e)) (he:P.underlying e=some (.struct fs))
  (hf: ∀(i:Nat) (f:Field),fs[i]? =some f→P.underlying f.type=some (.int .i64)∧f.offset=i∧P.cellsOf f.type=1) (hct:P.cellsOf e=fs.size) (h0:0<fs.size)
  (hv: ∃a len cap,v=.slice a len cap) (h:DataW.Trod enc P w base spare held t v d p):
  ∃(a:Option Addr) (len cap:Nat) (X:Nat→Nat→Int),v=.slice a len cap∧len≤cap∧cap≤maxLen∧RowsIn w a len fs.size X:=by
 refine rows_open ht hct h0 hv (fun n cs x hl hx j hj=> ?_) h;obtain⟨xs,m,rfl,_,_,_,hall⟩:=DataW.trod_struct he hx;obtain⟨hu,ho,hc⟩:=hf j fs[j] (by simp [hj]);have:=hall j fs[j] (by simp [hj]);rw [ho,hc]at this;cases hxj:xs[j]? with
 |none=>simp_all
 |some y=>
  rw [hxj]at this;obtain⟨z,hz,hb⟩:=int_reads hu this;refine⟨z,?_,hb⟩;have e1:=congrArg (·[0]?) hz;simpa [List.getElem?_take,Yk]using e1
end
