/- A part. -/
import Derived.Deep.RegionLaw
import Derived.Test.YthiapcajheepbaaGreatDoorPwNumPlain
set_option linter.all false
open Go.Proofs.Tryz
namespace Go.Proofs.YthiapcajheepbaaGreatDoor
namespace Rw
open Go.RowKit
variable {cap g:Nat} {ops:Array Oper} {o:Oper} {a:Act} {Q:Exit→Act→World→Prop}

section plain
variable {α : Type} {c : α → List Value} {s : Nat}
/-- a list as cells -/
def cels (c:α→List Value):List α→List Value
  | []=> []
  |m::L=>c m++cels c L
theorem cels_append (A B:List α):cels c (A++B)=cels c A++cels c B:=by
  induction A with
  |nil=>rfl
  |cons m A ih=>simp [cels,ih]
theorem cels_len (hs: ∀m,(c m).length=s) (L:List α):(cels c L).length=L.length*s:=by
  induction L with
  |nil=>simp [cels]
  |cons m L ih=>simp [cels,ih,hs,Nat.add_mul];omega
theorem cels_drop (hs: ∀m,(c m).length=s) (L:List α) (k:Nat):cels c (L.drop k)=(cels c L).drop (k*s):=by
  induction k generalizing L with
  |zero=>simp
  |succ k ih=>
    cases L with
    |nil=>simp [cels]
    |cons m L=>simp only [cels,List.drop_succ_cons,ih,Nat.succ_mul];rw [show k*s+s=(c m).length+k*s by rw [hs];omega,List.drop_append];simp
theorem cels_take (hs: ∀m,(c m).length=s) (L:List α) (k:Nat):cels c (L.take k)=(cels c L).take (k*s):=by
  induction k generalizing L with
  |zero=>simp [cels]
  |succ k ih=>
    cases L with
    |nil=>simp [cels]
    |cons m L=>simp only [cels,List.take_succ_cons,ih,Nat.succ_mul];rw [show k*s+s=(c m).length+k*s by rw [hs];omega,List.take_append,Yx (l:=c m) (by omega)];simp
theorem cels_get (hs: ∀m,(c m).length=s) (L:List α) (i j:Nat) (m:α) (hm:L[i]? =some m) (hj:j<s):(cels c L)[i*s+j]? =(c m)[j]? :=by
  have h:L.drop i=m::L.drop (i+1):=by
    obtain⟨hl,he⟩:=Xe.1 hm;rw [←he];exact Yn hl
  have:=cels_drop hs L i;rw [h]at this;rw [←Yk,←this];simp only [cels];rw [XY (by rw [hs];exact hj)]
end plain

/-- a row of n elements, s cells each, that holds xs; its block is the call's own -/
def Own (w:World) (B:Nat) (e:TypeId) (s:Nat) (v:Value) (n:Nat) (xs:List Value):Prop:=
  xs.length=n*s∧
  ((v = .slice none 0 0 ∧ n = 0) ∨
   ∃g off cap cur,v=.slice (some ⟨g,off,none⟩) n cap∧B≤g∧w.heap[g]? =some (.cells cur e (0,0))∧n≤cap∧cap≤maxLen∧off+cap*s≤cur.size∧ ∀j,j<n*s→cur[off+j]? =xs[j]?)

section
variable {w w' : World} {B : Nat} {e : TypeId} {s : Nat} {v : Value} {n : Nat} {xs : List Value}
theorem Own.nil (w:World) (B:Nat) (e:TypeId) (s:Nat):Own w B e s (.slice none 0 0) 0 []:=⟨by simp,.inl ⟨rfl,rfl⟩⟩
theorem Own.lt (h:Own w B e s v n xs): ∀k,v.ownBlock=some k→B≤k∧k<w.heap.size:=by
  intro k hk;rcases h.2 with⟨rfl,_⟩|⟨g,off,cap,cur,rfl,hb,hg,_⟩
  · simp [Value.ownBlock]at hk
  · simp [Value.ownBlock]at hk
    subst hk;exact⟨hb,(XM.1 hg).1⟩
theorem Own.kept (h:Own w B e s v n xs) (hb: ∀g,v.ownBlock=some g→w'.heap[g]? =w.heap[g]?):Own w' B e s v n xs:=by
  refine⟨h.1,?_⟩;rcases h.2 with a|⟨g,off,cap,cur,rfl,h1,h2,h3⟩
  · exact Or.inl a
  · exact Or.inr ⟨g,off,cap,cur,rfl,h1,(hb g rfl).trans h2,h3⟩
theorem Own.drew (h:Own w B e s v n xs):Own w.drew B e s v n xs:=h.kept (fun _ _=>rfl)
theorem Own.alloc (h:Own w B e s v n xs) (o:Obj):Own (w.alloc o) B e s v n xs:=h.kept (fun g hg=>Below.heap_alloc w o g (h.lt g hg).2)
theorem Own.below (h:Own w B e s v n xs) (hb:Below w.heap.size w w'):Own w' B e s v n xs:=h.kept (fun g hg=>hb.block g (h.lt g hg).2)
theorem Own.grown {r:Option Nat} (h:Own w B e s v n xs) (hb:w.grownBy w' r) (hne:v.ownBlock=none∨v.ownBlock≠r):Own w' B e s v n xs:=by
  refine h.kept (fun g hg=>hb.block g (h.lt g hg).2 (fun e=> ?_));rcases hne with a|a
  · rw [a]at hg;cases hg
  · exact a (hg.trans e)
/-- its shape -/
theorem Own.form (h:Own w B e s v n xs): ∃ao cap,v=.slice ao n cap∧n≤cap∧cap≤maxLen∧(0<n→ ∃g off,ao=some ⟨g,off,none⟩)∧(ao=none→cap=0)∧(∀a,ao=some a→ ∃g off,a=⟨g,off,none⟩):=by
  rcases h.2 with⟨a,b⟩|⟨g,off,cap,cur,a,_,_,b,c,_⟩
  · exact⟨none,0,by rw [a,b],by omega,by unfold maxLen;omega,fun h=>absurd h (by omega),fun _=>rfl,fun _ h=>by cases h⟩
  · exact⟨some ⟨g,off,none⟩,cap,a,b,c,fun _=>⟨g,off,rfl⟩,fun h=>(by cases h),fun _ h=>by cases h;exact⟨g,off,rfl⟩⟩
/-- its cells -/
theorem Own.cell {g off cap:Nat} (h:Own w B e s (.slice (some ⟨g,off,none⟩) n cap) n xs) (j:Nat) (hj:j<n*s):w.cell? ⟨g,off+j,none⟩=xs[j]?∧w.frozen? ⟨g,off+j,none⟩=false∧g<w.heap.size:=by
  rcases h.2 with⟨a,b⟩|⟨g',off',cap',cur,a,_,hg,b,c,d,f⟩
  · cases a
  · cases a
    refine⟨?_,?_,(XM.1 hg).1⟩
    · rw [cell_of_row w g (off+j) cur e (0,0) hg];exact f j hj
    · simp [World.frozen?,hg]
/-- cut behind -/
theorem Own.front {ao:Option Addr} (h:Own w B e s (.slice ao n cap) n xs) (k:Nat) (hk:k≤n):Own w B e s (.slice ao k cap) k (xs.take (k*s)):=by
  have hks:k*s≤n*s:=Yu _ hk;refine⟨by rw [Xt,h.1];omega,?_⟩;rcases h.2 with⟨a,b⟩|⟨g,off,cap',cur,a,h1,h2,h3,h4,h5,h6⟩
  · cases a;exact Or.inl ⟨by rw [show k=0 by omega],by omega⟩
  · cases a
    refine Or.inr ⟨g,off,cap,cur,rfl,h1,h2,by omega,h4,h5,fun j hj=> ?_⟩;rw [List.getElem?_take_of_lt hj];exact h6 j (by omega)
/-- cut ahead -/
theorem Own.rest {off off':Nat} (h:Own w B e s (.slice (some ⟨g,off,none⟩) n cap) n xs) (k:Nat) (hk:k≤n) (ho:off'=off+k*s∨(cap=k∧off'=off)):Own w B e s (.slice (some ⟨g,off',none⟩) (n-k) (cap-k)) (n-k) (xs.drop (k*s)):=by
  have hks:k*s≤n*s:=Yu _ hk;refine⟨by rw [XT,h.1,Nat.sub_mul],?_⟩;rcases h.2 with⟨a,b⟩|⟨g',off'',cap',cur,a,h1,h2,h3,h4,h5,h6⟩
  · cases a
  · cases a
    have hkc:k*s≤cap*s:=Yu _ (by omega);refine Or.inr ⟨g,off',cap-k,cur,rfl,h1,h2,by omega,by omega,?_,fun j hj=> ?_⟩
    · rw [Nat.sub_mul];rcases ho with e|⟨rfl,e⟩<;>omega
    · rw [Nat.sub_mul]at hj
      rcases ho with e|⟨e1,e2⟩
      · rw [Yk,e,show off+k*s+j=off+(k*s+j) by omega];exact h6 _ (by omega)
      · exfalso
        have:n=k:=(by omega);subst this;omega
/-- a cell of it is told anew -/
theorem Own.stored {off:Nat} (h:Own w B e s (.slice (some ⟨g,off,none⟩) n cap) n xs) (j:Nat) (u:Value) (hj:j<n*s):Own (w.setCell ⟨g,off+j,none⟩ u) B e s (.slice (some ⟨g,off,none⟩) n cap) n (xs.set j u):=by
  refine⟨by rw [Yg];exact h.1,?_⟩;rcases h.2 with⟨a,b⟩|⟨g',off',cap',cur,a,h1,h2,h3,h4,h5,h6⟩
  · cases a
  · cases a
    have hns:n*s≤cap*s:=Yu _ h3;refine Or.inr ⟨g,off,cap,cur.setIfInBounds (off+j) u,rfl,h1,?_,h3,h4,by simpa using h5,fun i hi=> ?_⟩
    · have hlt:g<w.heap.size:=(XM.1 h2).1
      have hv:w.heap[g]=.cells cur e (0,0):=(XM.1 h2).2;simp only [World.setCell];rw [X7 (by simpa using hlt),Array.getElem_modify];simp [hv]
    · rw [Array.getElem?_setIfInBounds,List.getElem?_set]
      by_cases e:j=i
      · subst e
        have h7:off+j<cur.size:=(by omega);have h8:j<xs.length:=by rw [h.1];exact hj
        simp [h7,h8]
      · rw [if_neg (by omega),if_neg e];exact h6 i hi
end

section
variable {P : Program} (w : World)
theorem run_append_mid (t ty e:TypeId) (i:TypeInfo) (ht:P.underlying t=some (.slice e)) (hi:P.info? e=some i)
    (g off sLen sCap:Nat) (cur:Array Value) (hg:w.heap[g]? =some (.cells cur e (0,0)))
    (a:Addr) (m c:Nat) (news:List Value) (hl:news.length=m*i.size) (hnews: ∀j u,news[j]? =some u→w.cell? (a.add j)=some u) (h1: ∀u∈news,u.oneCell'=true)
    (hroom:sLen+m≤sCap) (hfit:off+sLen*i.size+news.length≤cur.size):
    (Builtin.append_ #[t,t] ty #[.slice (some ⟨g,off,none⟩) sLen sCap,.slice (some a) m c]).run P w=
      .ok (.slice (some ⟨g,off,none⟩) (sLen+m) sCap) (w.setRow g (cur.toList.take (off+sLen*i.size)++news++cur.toList.drop (off+sLen*i.size+news.length)).toArray):=by
  have hf:=run_firstCells_some (P:=P) w i.size m a m c news hl hnews;have hst:=run_storeCells_at P g (off+sLen*i.size) e news 0 cur w hg (by simpa using hfit) h1;simp only [XD]at hst;have hadd:(⟨g,off,none⟩:Addr).add (sLen*i.size)=⟨g,off+sLen*i.size,none⟩:=by unfold Addr.add;split<;>simp_all
  simp [Builtin.append_,run_underlying ht,sizeOf,typeInfo,hi,Builtin.lenOf,hroom,hf,hadd,hst]

theorem run_append_at (B:Nat) (t ty e:TypeId) (i:TypeInfo) (z:Value) (size bytes:Nat) (ht:P.underlying t=some (.slice e)) (hi:P.info? e=some i) (hz:i.zero=some z)
    (hsize:i.size=size) (hby:i.bytes=bytes) (hzs:z.cells.size=size)
    (v:Value) (n:Nat) (xs:List Value) (hown:Own w B e size v n xs)
    (a:Addr) (m c:Nat) (news:List Value) (hl:news.length=m*size) (hnews: ∀j u,news[j]? =some u→w.cell? (a.add j)=some u) (h1: ∀u∈news,u.oneCell'=true)
    (hm:0<m) (h63:n+m≤maxLen) (hbytes:(n+m)*bytes≤140737488355328) (hbase:B≤w.heap.size):
    ∃v' w',(Builtin.append_ #[t,t] ty #[v,.slice (some a) m c]).run P w=.ok v' w'∧Own w' B e size v' (n+m) (xs++news)∧w.grownBy w' v.ownBlock∧
      (v'.ownBlock=v.ownBlock∨v'.ownBlock=some w.heap.size):=by
  subst hsize;subst hby
  have hsmall:n+m≤9223372036854775807:=by simp only [maxLen]at h63;omega
  have hlen:(xs++news).length=(n+m)*i.size:=by rw [Xg,hown.1,hl,Nat.add_mul]
  have grown: ∀(old:Nat),∀(row:Option Nat),
      Own (w.drew.alloc (.cells (xs.toArray++news.toArray++Builtin.zeroCells z.cells (grownCap w (n+m) old e-(n+m))) e)) B e i.size
        (.slice (some ⟨w.heap.size,0,none⟩) (n+m) (grownCap w (n+m) old e)) (n+m) (xs++news)∧
      w.grownBy (w.drew.alloc (.cells (xs.toArray++news.toArray++Builtin.zeroCells z.cells (grownCap w (n+m) old e-(n+m))) e)) row:=by
    intro old row;have hge:=grownCap_ge w (n+m) old e;have hcm:grownCap w (n+m) old e≤maxLen:=grownCap_le_maxLen w (n+m) old e h63;refine⟨⟨hlen,.inr ⟨w.heap.size,0,_,_,rfl,hbase,heap_alloc_new w.drew _,hge,hcm,?_,fun j hj=> ?_⟩⟩,⟨rfl,rfl,rfl,by simp,fun k hk _=>Below.heap_alloc w.drew _ k hk⟩⟩
    · simp only [Array.size_append,List.size_toArray,size_zeroCells,hzs,hown.1,hl,←Nat.add_mul]
      rw [show n+m+(grownCap w (n+m) old e-(n+m))=grownCap w (n+m) old e by omega];omega
    · rw [Xv,Array.getElem?_append_left (by simp only [Array.size_append,List.size_toArray];rw [←Xg,hlen];exact hj)]
      simp
  rcases hown.2 with⟨rfl,rfl⟩|⟨g,off,cap,cur,rfl,hbg,hg,hnc,hcm,hcs,hcur⟩
  · have hx:xs=[]:=XW (by simpa using hown.1)
    subst hx;have hr:=run_append_nil (P:=P) w t ty e i z ht hi hz a m c news hl hnews (by omega) (by omega) (by have hb:=hbytes;simp only [Xv]at hb;omega);have hgr:=grown 0 (Value.ownBlock (.slice none 0 0));simp only [Xv,Yf,Array.empty_append]at hgr⊢;exact⟨_,_,hr,hgr.1,hgr.2,Or.inr rfl⟩
  · by_cases hroom:n+m≤cap
    · have hms:(n+m)*i.size≤cap*i.size:=Yu _ hroom
      rw [Nat.add_mul]at hms;have hfit:off+n*i.size+news.length≤cur.size:=by rw [hl];omega
      have hr:=run_append_mid (P:=P) w t ty e i ht hi g off n cap cur hg a m c news hl hnews h1 hroom hfit;refine⟨_,_,hr,⟨hlen,.inr ⟨g,off,cap,_,rfl,hbg,setRow_heap w g cur _ e _ hg,hroom,hcm,?_,fun j hj=> ?_⟩⟩,⟨rfl,rfl,rfl,by simp,fun k _ hk=>setRow_other w g k _ (fun e=>hk (by simp [Value.ownBlock,e]))⟩,Or.inl rfl⟩
      · simp only [List.size_toArray,Xg,Xt,XT,Array.length_toList]
        omega
      · rw [Nat.add_mul]at hj
        simp only [List.getElem?_toArray,X4];have hlt:(cur.toList.take (off+n*i.size)).length=off+n*i.size:=by simp;omega
        by_cases hjn:j<n*i.size
        · rw [XY (by rw [hlt];omega),XY (by rw [hown.1];exact hjn),List.getElem?_take_of_lt (by omega),←hcur j hjn]
          simp
        · rw [Yh (l₁:=xs) (by rw [hown.1];omega),hown.1,Yh (l₁:=cur.toList.take (off+n*i.size)) (by rw [hlt];omega),hlt,XY (by omega),show off+j-(off+n*i.size)=j-n*i.size by omega]
    · have holds: ∀j u,xs[j]? =some u→w.cell? ((⟨g,off,none⟩:Addr).add j)=some u:=by
        intro j u hu;have hj:j<n*i.size:=by rw [←hown.1];exact(Xe.1 hu).1
        have hadd:(⟨g,off,none⟩:Addr).add j=⟨g,off+j,none⟩:=by unfold Addr.add;split<;>simp_all
        rw [hadd,cell_of_row w g (off+j) cur e (0,0) hg,hcur j hj,hu]
      have hr:=run_append_grow (P:=P) w t ty e i z ht hi hz ⟨g,off,none⟩ n cap xs hown.1 holds a m c news hl hnews (by omega) (by omega) (growslice_fits (by omega) hbytes);have hgr:=grown cap (Value.ownBlock (.slice (some ⟨g,off,none⟩) n cap));exact⟨_,_,hr,hgr.1,hgr.2,Or.inr rfl⟩
end

/-- append onto a row, as a step of a region -/
theorem step_at {P:Program} {w:World} {K:Act→World→Prop} {E:Prop}
    (hg:o.guard=none) (s x:Operand) (t:TypeId) (hop:o.op=Op.call { callee:=Callee.builtin Builtin.append,args:=#[s,x],argTypes:=#[t,t] })
    (B:Nat) (e:TypeId) (i:TypeInfo) (z:Value) (size bytes:Nat) (h1:P.underlying t=some (.slice e)) (h2:P.info? e=some i) (h3:i.zero=some z) (h4:i.size=size) (h5:i.bytes=bytes) (h6:z.cells.size=size)
    (v:Value) (n:Nat) (xs:List Value) (hs:a.eval s=v) (hown:Own w B e size v n xs)
    (ad:Addr) (m c:Nat) (news:List Value) (hx:a.eval x=.slice (some ad) m c) (hn:news.length=m*size) (hc: ∀j u,news[j]? =some u→w.cell? (ad.add j)=some u) (h1c: ∀u∈news,u.oneCell'=true)
    (hm:0<m) (b1:n+m≤maxLen) (b2:(n+m)*bytes≤140737488355328) (hb:B≤w.heap.size)
    (hK: ∀v' w',Own w' B e size v' (n+m) (xs++news)→w.grownBy w' v.ownBlock→(v'.ownBlock=v.ownBlock∨v'.ownBlock=some w.heap.size)→K (a.put o.dst v') w'):
    if Region.wanted o (yielded ops a.tmps)=true then Oper.wp P o a w K Q else E:=by
  have hw:Region.wanted o (yielded ops a.tmps)=true:=by simp [Region.wanted,hg]
  rw [if_pos hw];obtain⟨v',w',hr,g2,g3,g5⟩:=run_append_at (P:=P) w B t o.type e i z size bytes h1 h2 h3 h4 h5 h6 v n xs hown ad m c news hn hc h1c hm b1 b2 hb;unfold Oper.wp execOp;simp only [hop,resolve,invoke,builtin,XX,X8,X9,Ym,XV,X5,hs,hx,hr];exact hK v' w' g2 g3 g5
/-- append onto a row, at the operation -/
theorem wpList_at {P:Program} {rest:List Oper} {w:World} (hgd:o.guard=none) (s x:Operand) (t:TypeId)
    (ho:o.op=.call { callee:=.builtin .append,args:=#[s,x],argTypes:=#[t,t] })
    (B:Nat) (e:TypeId) (i:TypeInfo) (z:Value) (size bytes:Nat) (h1:P.underlying t=some (.slice e)) (h2:P.info? e=some i) (h3:i.zero=some z) (h4:i.size=size) (h5:i.bytes=bytes) (h6:z.cells.size=size)
    (v:Value) (n:Nat) (xs:List Value) (hs:a.eval s=v) (hown:Own w B e size v n xs)
    (ad:Addr) (m c:Nat) (news:List Value) (hx:a.eval x=.slice (some ad) m c) (hn:news.length=m*size) (hc: ∀j u,news[j]? =some u→w.cell? (ad.add j)=some u) (h1c: ∀u∈news,u.oneCell'=true)
    (hm:0<m) (b1:n+m≤maxLen) (b2:(n+m)*bytes≤140737488355328) (hb:B≤w.heap.size)
    (h: ∀v' w',Own w' B e size v' (n+m) (xs++news)→w.grownBy w' v.ownBlock→(v'.ownBlock=v.ownBlock∨v'.ownBlock=some w.heap.size)→wpList P ops Q rest (a.put o.dst v') w'):wpList P ops Q (o::rest) a w:=by
  refine wpList_plain hgd fun K hK=> ?_;obtain⟨v',w',hr,g2,g3,g5⟩:=run_append_at (P:=P) w B t o.type e i z size bytes h1 h2 h3 h4 h5 h6 v n xs hown ad m c news hn hc h1c hm b1 b2 hb;unfold Oper.wp execOp;simp only [ho,resolve,invoke,builtin,XX,X8,X9,Ym,XV,X5,hs,hx,hr];exact hK _ _ (h v' w' g2 g3 g5)
end Rw
namespace Stb
open Plain
variable {α:Type} {k:Nat} {t d hv want last now tau:Int} {q:Int→Bool} {f:Int→Int}

structure Mo where
 t:Int
 p:Int
structure Pc where
 w:Int
 n:Int
 c:Int
 p:Int
def mc (m:Mo):List Value:=[.int .i64 m.t,.int .i64 m.p]
theorem mc_len (m:Mo):(mc m).length=2:=rfl

def cutE (q:Int→Bool) (L:List Mo):List Mo:=(L.reverse.dropWhile (fun m=>q m.p)).reverse
def geq (want old:Int):Bool:=decide (want≤old)
def leq (want old:Int):Bool:=decide (old≤want)
def fol (q:Int→Bool) (L:List Mo) (m:Mo):List Mo:=cutE q L++ [m]
def abv (L:List Mo) (t:Int):List Mo:=L.dropWhile (fun m=>decide (m.t≤t))
def sumP:List Mo→Int
 | []=>0
 |m::L=>m.p+sumP L

structure Ta where
 l:List Mo
 s:Int
def Ta.forget (T:Ta) (t:Int):Ta:=⟨abv T.l t,T.s-sumP (T.l.takeWhile (fun m=>decide (m.t≤t)))⟩
def Ta.add (T:Ta) (now pods:Int):Ta:=
 if pods=0 then T else
 match T.l.getLast? with
 |some m=>if m.t=now then⟨T.l.dropLast++ [⟨now,m.p+pods⟩],T.s+pods⟩else⟨T.l++ [⟨now,pods⟩],T.s+pods⟩
 |none=>⟨T.l++ [⟨now,pods⟩],T.s+pods⟩

structure St where
 u:Pc
 d:Pc
 last:Int
 lo:List Mo
 hi:List Mo
 gr:Ta
 sh:Ta

def bnd (p:Pc):Bool:=p.p !=0&&(p.n !=0||p.c !=0)
def hd (L:List Mo) (d:Int):Int:=match L with| []=>d|m::_=>m.p
def baseU (s:St) (have_:Int):Int:=max (have_-s.gr.s) 0
def partU (s:St) (b:Int):Int:=up (clip (mulc (clip b) (clip s.u.c))) (clip 100)
def nU (s:St) (have_ want:Int):Int:=
 if bnd s.u then max (min (hd s.lo want) (baseU s have_+max s.u.n (partU s (baseU s have_)))) have_ else max (hd s.lo want) have_
def more (s:St) (now have_ want:Int):St:=if bnd s.u then { s with gr:=s.gr.add now (nU s have_ want-have_) } else s
def partD (s:St) (b:Int):Int:=share (atz (clip b)) (atz (clip (10*s.d.c)))
def nD (s:St) (have_ want:Int):Int:=
 if bnd s.d then min (max (hd s.hi want) (have_+s.sh.s-max s.d.n (partD s (have_+s.sh.s)))) have_ else min (hd s.hi want) have_
def fewer (s:St) (now have_ want:Int):St:=if bnd s.d then { s with sh:=s.sh.add now (have_-nD s have_ want) } else s

def know (s:St) (now want:Int):St:=
 { s with last:=now,lo:=fol (geq want) s.lo ⟨now,want⟩,hi:=fol (leq want) s.hi ⟨now,want⟩ }
def forget (s:St) (now:Int):St:=
 { s with lo:=abv s.lo (now-s.u.w),hi:=abv s.hi (now-s.d.w),gr:=s.gr.forget (now-s.u.p),sh:=s.sh.forget (now-s.d.p) }
def okArg (last now have_ want:Int):Bool:=decide (last≤now∧now≤1099511627776∧0≤have_∧have_≤50∧0≤want∧want≤50)
def setN (s:St) (now have_ want:Int):Int:=
 if okArg s.last now have_ want then
  (if have_<want then nU (forget (know s now want) now) have_ want else if want<have_ then nD (forget (know s now want) now) have_ want else have_)
 else 0
def setE (s:St) (now have_ want:Int):Int:=if okArg s.last now have_ want then 0 else 1
def setS (s:St) (now have_ want:Int):St:=
 if okArg s.last now have_ want then
  (if have_<want then more (forget (know s now want) now) now have_ want else if want<have_ then fewer (forget (know s now want) now) now have_ want else forget (know s now want) now)
 else s

theorem dw_all {q:α→Bool} {A B:List α} (h: ∀a∈A,q a=true):(A++B).dropWhile q=B.dropWhile q:=by
 induction A with
 |nil=>rfl
 |cons a A ih=>
  rw [XR,List.dropWhile_cons,h a (by simp)];exact ih (fun x hx=>h x (by simp [hx]))
theorem tw_all {q:α→Bool} {A B:List α} (h: ∀a∈A,q a=true):(A++B).takeWhile q=A++B.takeWhile q:=by
 induction A with
 |nil=>rfl
 |cons a A ih=>
  rw [XR,List.takeWhile_cons,h a (by simp)];simp [ih (fun x hx=>h x (by simp [hx]))]
theorem cutE_is (q:Int→Bool) (L:List Mo) (k:Nat) (hk:k≤L.length) (h1: ∀i m,k≤i→L[i]? =some m→q m.p=true) (h2:k=0∨ ∃m,L[k-1]? =some m∧q m.p=false):cutE q L=L.take k:=by
 have hL:L.reverse=(L.drop k).reverse++(L.take k).reverse:=by rw [←List.reverse_append,Yz]
 unfold cutE;rw [hL,dw_all]
 ·rcases h2 with rfl|⟨m,hm,hq⟩
  ·simp
  ·have hl:k-1<L.length:=(Xe.1 hm).1;have hk1:k≠0:=by
    intro e;subst e;have:=h1 0 m (Xa _) hm;rw [hq]at this;cases this
   have he:L.take k=L.take (k-1)++ [m]:=by
    obtain⟨hl',he⟩:=Xe.1 hm;rw [←he,List.take_append_getElem hl',Nat.sub_add_cancel (by omega)]
   rw [he,List.reverse_append];simp [hq]
 ·intro a ha;rw [List.mem_reverse]at ha;obtain⟨i,hi,he⟩:=List.getElem_of_mem ha;rw [List.getElem_drop]at he;have hi':k+i<L.length:=by simp at hi;omega
  exact h1 (k+i) a (by omega) (by rw [Xz hi',he])
theorem abv_is (L:List Mo) (t:Int) (k:Nat) (hk:k≤L.length) (h1: ∀i m,i<k→L[i]? =some m→m.t≤t) (h2:k=L.length∨ ∃m,L[k]? =some m∧ ¬m.t≤t):abv L t=L.drop k∧L.takeWhile (fun m=>decide (m.t≤t))=L.take k:=by
 have hall: ∀a∈L.take k,(fun m:Mo=>decide (m.t≤t)) a=true:=by
  intro a ha;obtain⟨i,hi,he⟩:=List.getElem_of_mem ha;rw [List.getElem_take]at he;have hi':i<k∧i<L.length:=by simp at hi;omega
  simp only [decide_eq_true_eq];exact h1 i a hi'.1 (by rw [Xz hi'.2,he])
 have hL:L=L.take k++L.drop k:=(Yz k L).symm;have e1:(L.drop k).dropWhile (fun m=>decide (m.t≤t))=L.drop k∧(L.drop k).takeWhile (fun m=>decide (m.t≤t))=[]:=by
  rcases h2 with rfl|⟨m,hm,hq⟩
  ·simp
  ·obtain⟨hl,he⟩:=Xe.1 hm;rw [Yn hl,he];simp [hq]
 refine⟨?_,?_⟩
 ·show L.dropWhile _=_;conv=>lhs;rw [hL]
  rw [dw_all hall,e1.1]
 ·conv=>lhs;rw [hL]
  rw [tw_all hall,e1.2,List.append_nil]
theorem sumP_append (A B:List Mo):sumP (A++B)=sumP A+sumP B:=by
 induction A with
 |nil=>simp [sumP]
 |cons a A ih=>simp [sumP,ih];omega
theorem sumP_take (L:List Mo) (k:Nat) (m:Mo) (h:L[k]? =some m):sumP (L.take (k+1))=sumP (L.take k)+m.p:=by
 obtain⟨hl,he⟩:=Xe.1 h;rw [←List.take_append_getElem hl,sumP_append,he];simp [sumP]

structure TaOk (T:Ta) (k:Nat):Prop where
 sum:T.s=sumP T.l
 pos: ∀m∈T.l,0≤m.p
 le:T.s≤50*k
 len:T.l.length≤k
theorem sumP_pos {L:List Mo} (h: ∀m∈L,0≤m.p):0≤sumP L:=by
 induction L with
 |nil=>simp [sumP]
 |cons a A ih=>have:=h a (by simp);have:=ih (fun m hm=>h m (by simp [hm]));simp only [sumP];omega
theorem TaOk.ge {T:Ta} (h:TaOk T k):0≤T.s:=by rw [h.sum];exact sumP_pos h.pos
theorem TaOk.part {T:Ta} (h:TaOk T k) (i:Nat):0≤sumP (T.l.take i)∧sumP (T.l.take i)≤T.s:=by
 have h1:sumP T.l=sumP (T.l.take i)+sumP (T.l.drop i):=by rw [←sumP_append,Yz]
 have h2:0≤sumP (T.l.take i):=sumP_pos (fun m hm=>h.pos m (List.mem_of_mem_take hm));have h3:0≤sumP (T.l.drop i):=sumP_pos (fun m hm=>h.pos m (List.mem_of_mem_drop hm));have:=h.sum;omega
theorem mem_abv {L:List Mo} {m:Mo} (h:m∈abv L t):m∈L:=(List.dropWhile_sublist _).subset h
theorem len_abv (L:List Mo) (t:Int):(abv L t).length≤L.length:=(List.dropWhile_sublist _).length_le
theorem mem_cutE {L:List Mo} {m:Mo} (h:m∈cutE q L):m∈L:=by
 unfold cutE at h;rw [List.mem_reverse]at h;exact List.mem_reverse.1 ((List.dropWhile_sublist _).subset h)
theorem len_cutE (q:Int→Bool) (L:List Mo):(cutE q L).length≤L.length:=by
 unfold cutE;rw [List.length_reverse];have:=(List.dropWhile_sublist (fun m:Mo=>q m.p) (l:=L.reverse)).length_le;simpa using this
theorem TaOk.forget {T:Ta} {k:Nat} (h:TaOk T k) (t:Int):TaOk (T.forget t) k:=by
 have h1:sumP T.l=sumP (T.l.takeWhile (fun m=>decide (m.t≤t)))+sumP (abv T.l t):=by
  rw [←sumP_append];unfold abv;rw [YA]
 have h2:0≤sumP (T.l.takeWhile (fun m=>decide (m.t≤t))):=sumP_pos (fun m hm=>h.pos m ((List.takeWhile_sublist _).subset hm));have h3:=h.sum;have h4:=h.le;refine⟨by simp only [Ta.forget];omega,fun m hm=>h.pos m (mem_abv hm),by simp only [Ta.forget];omega,Xc (len_abv _ _) h.len⟩
theorem last_split {L:List Mo} {m:Mo} (h:L.getLast? =some m):L=L.dropLast++ [m]:=by
 have hn:L≠ []:=by intro e;subst e;simp at h
 have:=List.dropLast_concat_getLast hn;rw [List.getLast?_eq_some_getLast hn]at h;cases h;exact this.symm
theorem TaOk.add {T:Ta} {k:Nat} (h:TaOk T k) (now pods:Int) (h0:0≤pods) (h1:pods≤50):TaOk (T.add now pods) (k+1):=by
 have hs:=h.sum;have hle:=h.le;have hlen:=h.len;unfold Ta.add;split
 ·exact⟨hs,h.pos,by omega,by omega⟩
 ·split
  ·rename_i m hm;have hsp:=last_split hm;have hmp:=h.pos m (by rw [hsp];simp);split
   ·have h5:sumP T.l=sumP T.l.dropLast+m.p:=by
     have h6:=congrArg sumP hsp;rw [sumP_append]at h6;simpa [sumP]using h6
    refine⟨by simp only [sumP_append,sumP];omega,fun x hx=> ?_,by simp only;omega,by simp;omega⟩;simp only [Xp,XA]at hx;rcases hx with hx|rfl
    ·exact h.pos x (by rw [hsp];simp [hx])
    ·simp only;omega
   ·refine⟨by simp only [sumP_append,sumP];omega,fun x hx=> ?_,by simp only;omega,by simp;omega⟩;simp only [Xp,XA]at hx;rcases hx with hx|rfl
    ·exact h.pos x hx
    ·exact h0
  ·refine⟨by simp only [sumP_append,sumP];omega,fun x hx=> ?_,by simp only;omega,by simp;omega⟩;simp only [Xp,XA]at hx;rcases hx with hx|rfl
   ·exact h.pos x hx
   ·exact h0

structure PcOk (p:Pc):Prop where
 w:0≤p.w∧p.w≤100000
 n:0≤p.n∧p.n≤100000
 c:0≤p.c∧p.c≤100000
 p:0≤p.p∧p.p≤100000
structure Fit (s:St) (k:Nat):Prop where
 u:PcOk s.u
 d:PcOk s.d
 last:0≤s.last∧s.last≤1099511627776
 lo: ∀m∈s.lo,0≤m.p∧m.p≤50
 hi: ∀m∈s.hi,0≤m.p∧m.p≤50
 lol:s.lo.length≤k
 hil:s.hi.length≤k
 gr:TaOk s.gr k
 sh:TaOk s.sh k
theorem Fit.know {s:St} {k:Nat} (h:Fit s k) {now want:Int} (h0:0≤now∧now≤1099511627776) (h1:0≤want∧want≤50):Fit (know s now want) (k+1):=by
 have l1:=h.lol;have l2:=h.hil;refine⟨h.u,h.d,h0,fun m hm=> ?_,fun m hm=> ?_,?_,?_,⟨h.gr.sum,h.gr.pos,by have:=h.gr.le;simp only [Stb.know];omega,by have:=h.gr.len;simp only [Stb.know];omega⟩,⟨h.sh.sum,h.sh.pos,by have:=h.sh.le;simp only [Stb.know];omega,by have:=h.sh.len;simp only [Stb.know];omega⟩⟩
 ·simp only [Stb.know,fol,Xp,XA]at hm;rcases hm with hm|rfl
  ·exact h.lo m (mem_cutE hm)
  ·exact h1
 ·simp only [Stb.know,fol,Xp,XA]at hm;rcases hm with hm|rfl
  ·exact h.hi m (mem_cutE hm)
  ·exact h1
 ·have:=len_cutE (geq want) s.lo;simp only [Stb.know,fol,Xg,List.length_singleton];omega
 ·have:=len_cutE (leq want) s.hi;simp only [Stb.know,fol,Xg,List.length_singleton];omega
theorem Fit.forget {s:St} {k:Nat} (h:Fit s k) (now:Int):Fit (forget s now) k:=
 ⟨h.u,h.d,h.last,fun m hm=>h.lo m (mem_abv hm),fun m hm=>h.hi m (mem_abv hm),Xc (len_abv _ _) h.lol,Xc (len_abv _ _) h.hil,h.gr.forget _,h.sh.forget _⟩
theorem hd_bd {L:List Mo} (h: ∀m∈L,0≤m.p∧m.p≤50) (hd':0≤d∧d≤50):0≤hd L d∧hd L d≤50:=by
 unfold hd;split
 ·exact hd'
 ·exact h _ (by simp)
theorem nU_bd {s:St} (h:Fit s k) (h0:0≤hv∧hv≤50) (h1:0≤want∧want≤50):hv≤nU s hv want∧nU s hv want≤50:=by
 have:=hd_bd h.lo h1;unfold nU;split<;>omega
theorem nD_bd {s:St} (h:Fit s k) (h0:0≤hv∧hv≤50) (h1:0≤want∧want≤50):0≤nD s hv want∧nD s hv want≤hv:=by
 have:=hd_bd h.hi h1;unfold nD;split<;>omega
theorem TaOk.mono {T:Ta} {l:Nat} (h:TaOk T k) (hk:k≤l):TaOk T l:=⟨h.sum,h.pos,by have:=h.le;omega,Xc h.len hk⟩
theorem Fit.mono {s:St} {k l:Nat} (h:Fit s k) (hk:k≤l):Fit s l:=⟨h.u,h.d,h.last,h.lo,h.hi,Xc h.lol hk,Xc h.hil hk,h.gr.mono hk,h.sh.mono hk⟩
theorem Fit.more {s:St} {k:Nat} (h:Fit s k) (now:Int) {hv want:Int} (h0:0≤hv∧hv≤50) (h1:0≤want∧want≤50):Fit (more s now hv want) (k+1):=by
 have hb:=nU_bd h h0 h1;unfold Stb.more;split
 ·exact { h.mono (Xm k)with gr:=h.gr.add now _ (by omega) (by omega) }
 ·exact h.mono (Xm k)
theorem Fit.fewer {s:St} {k:Nat} (h:Fit s k) (now:Int) {hv want:Int} (h0:0≤hv∧hv≤50) (h1:0≤want∧want≤50):Fit (fewer s now hv want) (k+1):=by
 have hb:=nD_bd h h0 h1;unfold Stb.fewer;split
 ·exact { h.mono (Xm k)with sh:=h.sh.add now _ (by omega) (by omega) }
 ·exact h.mono (Xm k)
theorem okArg_iff :okArg last now hv want=true↔(last≤now∧now≤1099511627776∧0≤hv∧hv≤50∧0≤want∧want≤50):=by simp [okArg]
theorem Fit.setS {s:St} {k:Nat} (h:Fit s k) (now hv want:Int):Fit (setS s now hv want) (k+2):=by
 unfold Stb.setS;split
 ·rename_i ho;obtain⟨a,b,c,d,e,f⟩:=okArg_iff.1 ho;have hl:=h.last;have hf:Fit (Stb.forget (Stb.know s now want) now) (k+1):=(h.know ⟨by omega,b⟩ ⟨e,f⟩).forget now;split
  ·exact hf.more now ⟨c,d⟩ ⟨e,f⟩
  ·split
   ·exact hf.fewer now ⟨c,d⟩ ⟨e,f⟩
   ·exact hf.mono (by omega)
 ·exact h.mono (by omega)

theorem mem_tw {q:α→Bool} {L:List α} {m:α} (h:m∈L.takeWhile q):q m=true:=by
 induction L with
 |nil=>simp at h
 |cons a L ih=>
  rw [List.takeWhile_cons]at h;split at h
  ·rcases XG.1 h with rfl|h
   ·assumption
   ·exact ih h
  ·simp at h
structure LoI (k:Int→Int) (H L:List Mo) (tau last:Int):Prop where
 st:L.Pairwise (fun a b=>a.t≤b.t)
 sp:L.Pairwise (fun a b=>k a.p<k b.p)
 mem: ∀m∈L,m∈H
 cov: ∀h∈H,tau<h.t→ ∃m∈L,h.t≤m.t∧k m.p≤k h.p
 ab: ∀m∈L,tau<m.t
 le: ∀h∈H,h.t≤last
theorem LoI.nil (k:Int→Int) (tau last:Int):LoI k [] [] tau last:=⟨.nil,.nil,by simp,by simp,by simp,by simp⟩
theorem cutE_split (q:Int→Bool) (L:List Mo): ∃E,L=cutE q L++E∧(∀m∈E,q m.p=true)∧(∀m,(cutE q L).getLast? =some m→q m.p=false):=by
 refine⟨(L.reverse.takeWhile (fun m=>q m.p)).reverse,?_,?_,?_⟩
 ·unfold cutE;rw [←List.reverse_append,YA,List.reverse_reverse]
 ·intro m hm;rw [List.mem_reverse]at hm;exact mem_tw (q:=fun m:Mo=>q m.p) hm
 ·intro m hm;unfold cutE at hm;rw [List.getLast?_reverse]at hm;have:=List.head?_dropWhile_not (fun m:Mo=>q m.p) L.reverse;rw [hm]at this;simpa using this
theorem LoI.fol {k:Int→Int} {H L:List Mo} {tau last:Int} (h:LoI k H L tau last) {q:Int→Bool} {now want:Int} (hq: ∀o,q o=decide (k want≤k o)) (hn:last≤now) (ht:tau<now):LoI k (H++ [⟨now,want⟩]) (fol q L ⟨now,want⟩) tau now:=by
 obtain⟨E,hE,hEq,hlast⟩:=cutE_split q L;have hsub: ∀m∈cutE q L,m∈L:=fun m hm=>mem_cutE hm;have hst:=h.st;have hsp:=h.sp;rw [hE]at hst hsp;have hst1:=(X3.1 hst).1;have hsp1:=(X3.1 hsp).1;have hlow: ∀m∈cutE q L,k m.p<k want:=by
  intro m hm;have hne:cutE q L≠ []:=fun e=>by rw [e]at hm;simp at hm
  have hl:=List.getLast?_eq_some_getLast hne;have hq2:=hlast _ hl;rw [hq]at hq2;have hlt:k ((cutE q L).getLast hne).p<k want:=by simpa using hq2
  have hsp2:=hsp1;rw [←List.dropLast_concat_getLast hne]at hsp2 hm;rcases Xp.1 hm with a|a
  ·have:=(X3.1 hsp2).2.2 m a ((cutE q L).getLast hne) (XA.2 rfl);omega
  ·simp only [XA]at a;rw [a];exact hlt
 refine⟨?_,?_,?_,?_,?_,?_⟩
 ·refine X3.2 ⟨hst1,by simp,fun a ha b hb=> ?_⟩;simp only [XA]at hb;subst hb;have:=h.le a (h.mem a (hsub a ha));simp only;omega
 ·refine X3.2 ⟨hsp1,by simp,fun a ha b hb=> ?_⟩;simp only [XA]at hb;subst hb;exact hlow a ha
 ·intro m hm;rcases Xp.1 hm with a|a
  ·exact Xp.2 (Or.inl (h.mem m (hsub m a)))
  ·exact Xp.2 (Or.inr a)
 ·intro x hx htx;rcases Xp.1 hx with a|a
  ·obtain⟨m,hm,h1,h2⟩:=h.cov x a htx;rw [hE]at hm;rcases Xp.1 hm with b|b
   ·exact⟨m,Xp.2 (Or.inl b),h1,h2⟩
   ·refine⟨⟨now,want⟩,Xp.2 (Or.inr (by simp)),?_,?_⟩
    ·have:=h.le x a;simp only;omega
    ·have:=hEq m b;rw [hq]at this;have:k want≤k m.p:=by simpa using this
     simp only;omega
  ·simp only [XA]at a;subst a;exact⟨⟨now,want⟩,Xp.2 (Or.inr (by simp)),Xu _,Xu _⟩
 ·intro m hm;rcases Xp.1 hm with a|a
  ·exact h.ab m (hsub m a)
  ·simp only [XA]at a;subst a;exact ht
 ·intro x hx;rcases Xp.1 hx with a|a
  ·have:=h.le x a;omega
  ·simp only [XA]at a;subst a;exact Xu _
theorem abv_split (L:List Mo) (t:Int): ∃A,L=A++abv L t∧(∀m∈A,m.t≤t)∧(∀m,(abv L t).head? =some m→t<m.t):=by
 refine⟨L.takeWhile (fun m=>decide (m.t≤t)),(YA).symm,fun m hm=> ?_,fun m hm=> ?_⟩
 ·have:=mem_tw hm;simpa using this
 ·unfold abv at hm;have:=List.head?_dropWhile_not (fun m:Mo=>decide (m.t≤t)) L;rw [hm]at this;simp at this;omega
theorem LoI.abv {k:Int→Int} {H L:List Mo} {tau last:Int} (h:LoI k H L tau last) {t:Int} (ht:tau≤t):LoI k H (abv L t) t last:=by
 obtain⟨A,hA,hAt,hhd⟩:=abv_split L t;have hst:=h.st;have hsp:=h.sp;rw [hA]at hst hsp;have hst2:=(X3.1 hst).2.1;refine⟨hst2,(X3.1 hsp).2.1,fun m hm=>h.mem m (mem_abv hm),?_,?_,h.le⟩
 ·intro x hx htx;obtain⟨m,hm,h1,h2⟩:=h.cov x hx (by omega);rw [hA]at hm;rcases Xp.1 hm with a|a
  ·have:=hAt m a;omega
  ·exact⟨m,a,h1,h2⟩
 ·intro m hm;cases hL:Stb.abv L t with
  |nil=>rw [hL]at hm;simp at hm
  |cons a r=>
   have ha:=hhd a (by rw [hL];rfl);rw [hL]at hm hst2;rcases XG.1 hm with rfl|hm
   ·exact ha
   ·have:=(List.pairwise_cons.1 hst2).1 m hm;omega
theorem LoI.next {k:Int→Int} {H L:List Mo} {W:Int} (h:LoI k H L (last-W) last) (hq: ∀o,q o=decide (k want≤k o)) (hn:last≤now) (hW:0≤W):LoI k (H++ [⟨now,want⟩]) (Stb.abv (Stb.fol q L ⟨now,want⟩) (now-W)) (now-W) now:=by
 by_cases hw:last-W<now
 ·exact(h.fol hq hn hw).abv (by omega)
 ·have hw0:W=0:=by omega
  have hln:last=now:=by omega
  subst hw0 hln;have hL: ∀m∈L,False:=fun m hm=>by have:=h.ab m hm;have:=h.le m (h.mem m hm);omega
  have hnil:L=[]:=List.eq_nil_iff_forall_not_mem.2 hL;subst hnil;have:Stb.abv (Stb.fol q [] ⟨last,want⟩) (last-0)=[]:=by simp [Stb.fol,cutE,Stb.abv]
  rw [this];refine⟨.nil,.nil,by simp,fun x hx htx=> ?_,by simp,fun x hx=> ?_⟩
  ·exfalso;rcases Xp.1 hx with a|a
   ·have:=h.le x a;omega
   ·simp only [XA]at a;subst a;simp only at htx;omega
  ·rcases Xp.1 hx with a|a
   ·exact h.le x a
   ·simp only [XA]at a;subst a;exact Xu _
theorem LoI.least {k:Int→Int} {H L:List Mo} (h:LoI k H L tau last) :(L=[]∧hd L d=d∧ ∀x∈H,¬tau<x.t)∨(∃m∈H,tau<m.t∧hd L d=m.p∧ ∀x∈H,tau<x.t→k m.p≤k x.p):=by
 cases L with
 |nil=>exact Or.inl ⟨rfl,rfl,fun x hx ht=>by obtain⟨m,hm,_⟩:=h.cov x hx ht;simp at hm⟩
 |cons m r=>
  refine Or.inr ⟨m,h.mem m (by simp),h.ab m (by simp),rfl,fun x hx ht=> ?_⟩;obtain⟨y,hy,_,h2⟩:=h.cov x hx ht;rcases XG.1 hy with rfl|hy
  ·exact h2
  ·have:=(List.pairwise_cons.1 h.sp).1 y hy;omega
def kid (x:Int):Int:=x
def kneg (x:Int):Int:= -x
theorem geq_is (want o:Int):geq want o=decide (kid want≤kid o):=rfl
theorem leq_is (want o:Int):leq want o=decide (kneg want≤kneg o):=by unfold leq kneg;rw [decide_eq_decide];omega
structure SI (H:List Mo) (s:St):Prop where
 lo:LoI kid H s.lo (s.last-s.u.w) s.last
 hi:LoI kneg H s.hi (s.last-s.d.w) s.last
theorem SI.step {H:List Mo} {s:St} (h:SI H s) (hF:Fit s k) (hn:s.last≤now):SI (H++ [⟨now,want⟩]) (forget (know s now want) now):=
 ⟨h.lo.next (geq_is want) hn hF.u.w.1,h.hi.next (leq_is want) hn hF.d.w.1⟩
theorem SI.more {H:List Mo} {s:St} (h:SI H s) (now hv want:Int):SI H (more s now hv want):=by
 unfold Stb.more;split
 ·exact⟨h.lo,h.hi⟩
 ·exact h
theorem SI.fewer {H:List Mo} {s:St} (h:SI H s) (now hv want:Int):SI H (fewer s now hv want):=by
 unfold Stb.fewer;split
 ·exact⟨h.lo,h.hi⟩
 ·exact h
theorem SI.set {H:List Mo} {s:St} (h:SI H s) (hF:Fit s k) (ho:okArg s.last now hv want=true):SI (H++ [⟨now,want⟩]) (setS s now hv want):=by
 have hs:=h.step hF (now:=now) (want:=want) (okArg_iff.1 ho).1;unfold Stb.setS;rw [if_pos ho];split
 ·exact hs.more _ _ _
 ·split
  ·exact hs.fewer _ _ _
  ·exact hs
theorem setS_pace (s:St) (now hv want:Int):(setS s now hv want).u=s.u∧(setS s now hv want).d=s.d:=by
 have hm: ∀s:St,(more s now hv want).u=s.u∧(more s now hv want).d=s.d:=fun s=>by unfold more;split<;>exact⟨rfl,rfl⟩
 have hf: ∀s:St,(fewer s now hv want).u=s.u∧(fewer s now hv want).d=s.d:=fun s=>by unfold fewer;split<;>exact⟨rfl,rfl⟩
 unfold setS;split
 ·split
  ·exact hm _
  ·split
   ·exact hf _
   ·exact⟨rfl,rfl⟩
 ·exact⟨rfl,rfl⟩
theorem between {H:List Mo} {s:St} (h:SI H s) (hF:Fit s k) (ho:okArg s.last now hv want=true):min hv want≤setN s now hv want∧setN s now hv want≤max hv want:=by
 have hs:=h.step hF (now:=now) (want:=want) (okArg_iff.1 ho).1;have hnew:(⟨now,want⟩:Mo)∈H++ [⟨now,want⟩]:=by simp
 unfold setN;rw [if_pos ho];split
 ·rename_i hlt;have hh:hd (forget (know s now want) now).lo want≤want:=by
   rcases hs.lo.least (d:=want)with⟨_,e,_⟩|⟨m,_,ht,e,hmin⟩
   ·rw [e];exact Xu _
   ·rw [e];have hw:=hF.u.w.1;by_cases hw0:0<s.u.w
    ·exact hmin _ hnew (by show now-s.u.w<now;omega)
    ·exfalso;have:m.t≤now:=hs.lo.le m (by assumption);have:now-s.u.w<m.t:=ht;omega
  unfold nU;split<;>omega
 ·split
  ·rename_i hlt;have hh:want≤hd (forget (know s now want) now).hi want:=by
    rcases hs.hi.least (d:=want)with⟨_,e,_⟩|⟨m,_,ht,e,hmin⟩
    ·rw [e];exact Xu _
    ·rw [e];have hw:=hF.d.w.1;by_cases hw0:0<s.d.w
     ·have:=hmin _ hnew (by show now-s.d.w<now;omega);unfold kneg at this;simp only at this;omega
     ·exfalso;have:m.t≤now:=hs.hi.le m (by assumption);have:now-s.d.w<m.t:=ht;omega
   unfold nD;split<;>omega
  ·omega
theorem free {H:List Mo} {s:St} (h:SI H s) (hF:Fit s k) (ho:okArg s.last now hv want=true) (hu:s.u.w=0) (hd':s.d.w=0) (bu:bnd s.u=false) (bd:bnd s.d=false):setN s now hv want=want:=by
 have hs:=h.step hF (now:=now) (want:=want) (okArg_iff.1 ho).1;have e1:hd (forget (know s now want) now).lo want=want:=by
  rcases hs.lo.least (d:=want)with⟨_,e,_⟩|⟨m,hm,ht,e,hmin⟩
  ·exact e
  ·exfalso;have h1:m.t≤now:=hs.lo.le m hm;have h2:now-s.u.w<m.t:=ht;omega
 have e2:hd (forget (know s now want) now).hi want=want:=by
  rcases hs.hi.least (d:=want)with⟨_,e,_⟩|⟨m,hm,ht,e,hmin⟩
  ·exact e
  ·exfalso;have h1:m.t≤now:=hs.hi.le m hm;have h2:now-s.d.w<m.t:=ht;omega
 have b1:bnd (forget (know s now want) now).u=false:=bu;have b2:bnd (forget (know s now want) now).d=false:=bd;unfold setN;rw [if_pos ho];unfold nU nD;rw [b1,b2,e1,e2];simp only [XU,if_false];split
 ·omega
 ·split<;>omega
theorem window {H:List Mo} {s:St} (h:SI H s) (hF:Fit s k) (ho:okArg s.last now hv want=true) (bu:bnd s.u=false) (bd:bnd s.d=false) {y:Mo} (hy:y∈H):(now-s.d.w<y.t→setN s now hv want<hv→y.p≤setN s now hv want)∧(now-s.u.w<y.t→hv<setN s now hv want→setN s now hv want≤y.p):=by
 have hs:=h.step hF (now:=now) (want:=want) (okArg_iff.1 ho).1;have hb:=between h hF ho;have hy':y∈H++ [⟨now,want⟩]:=Xp.2 (Or.inl hy);have b1:bnd (forget (know s now want) now).u=false:=bu;have b2:bnd (forget (know s now want) now).d=false:=bd;refine⟨fun ht hlt=> ?_,fun ht hlt=> ?_⟩
 ·have hwh:want<hv:=by omega
  have hn:setN s now hv want=min (hd (forget (know s now want) now).hi want) hv:=by
   unfold setN;rw [if_pos ho,if_neg (by omega),if_pos hwh];unfold nD;rw [b2];rfl
  rw [hn]at hlt⊢;have hm:y.p≤hd (forget (know s now want) now).hi want:=by
   rcases hs.hi.least (d:=want)with⟨_,_,hno⟩|⟨m,_,_,e,hmin⟩
   ·exact absurd ht (hno y hy')
   ·rw [e];have:=hmin y hy' ht;unfold kneg at this;omega
  omega
 ·have hwh:hv<want:=by omega
  have hn:setN s now hv want=max (hd (forget (know s now want) now).lo want) hv:=by
   unfold setN;rw [if_pos ho,if_pos hwh];unfold nU;rw [b1];rfl
  rw [hn]at hlt⊢;have hm:hd (forget (know s now want) now).lo want≤y.p:=by
   rcases hs.lo.least (d:=want)with⟨_,_,hno⟩|⟨m,_,_,e,hmin⟩
   ·exact absurd ht (hno y hy')
   ·rw [e];exact hmin y hy' ht
  omega

def sumF (f:Int→Int):List Mo→Int→Int
 | [],_=>0
 |m::L,t=>(if t<m.t then f m.p else 0)+sumF f L t
theorem sumF_append (f:Int→Int) (A B:List Mo) (t:Int):sumF f (A++B) t=sumF f A t+sumF f B t:=by
 induction A with
 |nil=>simp [sumF]
 |cons a A ih=>simp only [XR,sumF,ih];omega
theorem sumF_low (f:Int→Int) {A:List Mo} (h: ∀m∈A,m.t≤t):sumF f A t=0:=by
 induction A with
 |nil=>rfl
 |cons a A ih=>
  have h1:=h a (by simp);simp only [sumF];rw [if_neg (by omega),ih (fun m hm=>h m (by simp [hm]))];rfl
theorem sumF_all {A:List Mo} (h: ∀m∈A,t<m.t):sumF (fun x=>x) A t=sumP A:=by
 induction A with
 |nil=>rfl
 |cons a A ih=>
  have h1:=h a (by simp);simp only [sumF,sumP];rw [if_pos h1,ih (fun m hm=>h m (by simp [hm]))]
structure TI (f:Int→Int) (M:List Mo) (T:Ta) (tau last:Int):Prop where
 st:T.l.Pairwise (fun a b=>a.t≤b.t)
 ab: ∀m∈T.l,tau<m.t
 le: ∀m∈T.l,m.t≤last
 lm: ∀m∈M,m.t≤last
 eq: ∀t,tau≤t→sumF f M t=sumF (fun x=>x) T.l t
theorem TI.nil (f:Int→Int) (tau last:Int):TI f [] ⟨[],0⟩ tau last:=⟨.nil,by simp,by simp,by simp,fun _ _=>rfl⟩
theorem TI.sum {f:Int→Int} {M:List Mo} {T:Ta} {tau last:Int} {k:Nat} (h:TI f M T tau last) (hT:TaOk T k):T.s=sumF f M tau:=by
 rw [h.eq tau (Xu _),sumF_all h.ab,hT.sum]
theorem TI.later {M:List Mo} {T:Ta} (h:TI f M T tau last) (hn:last≤now):TI f M T tau now:=
 ⟨h.st,h.ab,fun m hm=>Yc (h.le m hm) hn,fun m hm=>Yc (h.lm m hm) hn,h.eq⟩
theorem TI.forget {f:Int→Int} {M:List Mo} {T:Ta} {tau last t:Int} (h:TI f M T tau last) (ht:tau≤t):TI f M (T.forget t) t last:=by
 obtain⟨A,hA,hAt,hhd⟩:=abv_split T.l t;have hst:=h.st;rw [hA]at hst;have hst2:=(X3.1 hst).2.1;refine⟨hst2,?_,fun m hm=>h.le m (mem_abv hm),h.lm,fun x hx=> ?_⟩
 ·intro m hm;have hm':m∈abv T.l t:=hm;cases hL:abv T.l t with
  |nil=>rw [hL]at hm';simp at hm'
  |cons a r=>
   have ha:=hhd a (by rw [hL];rfl);rw [hL]at hm' hst2;rcases XG.1 hm' with rfl|hm'
   ·exact ha
   ·have:=(List.pairwise_cons.1 hst2).1 m hm';omega
 ·rw [h.eq x (by omega)];show sumF (fun x=>x) T.l x=sumF (fun x=>x) (abv T.l t) x;conv=>lhs;rw [hA]
  rw [sumF_append,sumF_low _ (fun m hm=>by have:=hAt m hm;omega)];omega
theorem TI.add {f:Int→Int} {M:List Mo} {T:Ta} {tau last now x pods:Int} (h:TI f M T tau last) (hf:f x=pods) (ht:tau<now) (hn:last≤now):TI f (M++ [⟨now,x⟩]) (T.add now pods) tau now:=by
 have hlm: ∀m∈M++ [(⟨now,x⟩:Mo)],m.t≤now:=by
  intro m hm;rcases Xp.1 hm with a|a
  ·exact Yc (h.lm m a) hn
  ·simp only [XA]at a;subst a;exact Xu _
 have hM: ∀t,sumF f (M++ [(⟨now,x⟩:Mo)]) t=sumF f M t+(if t<now then pods else 0):=by
  intro t;rw [sumF_append];simp only [sumF,hf];omega
 have happ:TI f (M++ [⟨now,x⟩]) ⟨T.l++ [⟨now,pods⟩],T.s+pods⟩ tau now:=by
  refine⟨X3.2 ⟨h.st,by simp,fun a ha b hb=> ?_⟩,fun m hm=> ?_,fun m hm=> ?_,hlm,fun t ht'=> ?_⟩
  ·simp only [XA]at hb;subst hb;have:=h.le a ha;simp only;omega
  ·rcases Xp.1 hm with a|a
   ·exact h.ab m a
   ·simp only [XA]at a;subst a;exact ht
  ·rcases Xp.1 hm with a|a
   ·exact Yc (h.le m a) hn
   ·simp only [XA]at a;subst a;exact Xu _
  ·rw [hM,h.eq t ht'];simp only;rw [sumF_append];simp only [sumF];omega
 unfold Ta.add;split
 ·rename_i hz;refine⟨h.st,h.ab,fun m hm=>Yc (h.le m hm) hn,hlm,fun t ht'=> ?_⟩;rw [hM,h.eq t ht',hz];split<;>omega
 ·split
  ·rename_i m hm;split
   ·rename_i hmt;have hsp:=last_split hm;have hst:=h.st;rw [hsp]at hst;refine⟨X3.2 ⟨(X3.1 hst).1,by simp,fun a ha b hb=> ?_⟩,fun y hy=> ?_,fun y hy=> ?_,hlm,fun t ht'=> ?_⟩
    ·simp only [XA]at hb;subst hb;have:=h.le a (by rw [hsp];simp [ha]);simp only;omega
    ·rcases Xp.1 hy with a|a
     ·exact h.ab y (by rw [hsp];simp [a])
     ·simp only [XA]at a;subst a;exact ht
    ·rcases Xp.1 hy with a|a
     ·exact Yc (h.le y (by rw [hsp];simp [a])) hn
     ·simp only [XA]at a;subst a;exact Xu _
    ·have h5:sumF (fun x=>x) T.l t=sumF (fun x=>x) T.l.dropLast t+(if t<m.t then m.p else 0):=by
      have h6:=congrArg (fun L=>sumF (fun x=>x) L t) hsp;rw [sumF_append]at h6;simp only [sumF]at h6;omega
     rw [hM,h.eq t ht',h5,hmt];simp only;rw [sumF_append];simp only [sumF];split<;>omega
   ·exact happ
  ·exact happ
theorem TI.other {M:List Mo} {T:Ta} {x:Int} (h:TI f M T tau last) (hf:f x=0) (hn:last≤now):TI f (M++ [⟨now,x⟩]) T tau now:=by
 refine⟨h.st,h.ab,fun m hm=>Yc (h.le m hm) hn,fun m hm=> ?_,fun t ht=> ?_⟩
 ·rcases Xp.1 hm with a|a
  ·exact Yc (h.lm m a) hn
  ·simp only [XA]at a;subst a;exact Xu _
 ·rw [sumF_append,h.eq t ht];simp only [sumF,hf];split<;>omega
def fup (x:Int):Int:=max x 0
def fdn (x:Int):Int:=max (-x) 0
def mov (M:List Mo) (now d:Int):List Mo:=if d=0 then M else M++ [⟨now,d⟩]
structure MI (M:List Mo) (s:St):Prop where
 g:bnd s.u=true→TI fup M s.gr (s.last-s.u.p) s.last
 d:bnd s.d=true→TI fdn M s.sh (s.last-s.d.p) s.last
theorem bnd_per {p:Pc} (h:bnd p=true):p.p≠0:=by
 intro e;unfold bnd at h;rw [e]at h;simp at h
theorem MI.step {M:List Mo} {s:St} (h:MI M s) (hn:s.last≤now):MI M (forget (know s now want) now):=
 ⟨fun hb=>((h.g hb).forget (t:=now-s.u.p) (by omega)).later hn,fun hb=>((h.d hb).forget (t:=now-s.d.p) (by omega)).later hn⟩
theorem MI.set {M:List Mo} {s:St} (h:MI M s) (hF:Fit s k) (ho:okArg s.last now hv want=true):MI (mov M now (setN s now hv want-hv)) (setS s now hv want):=by
 obtain⟨a,b,c,d,e,f⟩:=okArg_iff.1 ho;have hs:=h.step (now:=now) (want:=want) a;have hl:=hF.last;have hf:Fit (forget (know s now want) now) (k+1):=(hF.know ⟨by omega,b⟩ ⟨e,f⟩).forget now;have hup:=hf.u.p;have hdp:=hf.d.p;generalize hs':forget (know s now want) now=s1 at*;have hl1:s1.last=now:=by rw [←hs'];rfl
 unfold Stb.setS setN;rw [if_pos ho,if_pos ho,hs'];split
 ·have hb:=nU_bd hf (hv:=hv) (want:=want) ⟨c,d⟩ ⟨e,f⟩;generalize hN:nU s1 hv want=N at*;unfold Stb.more;by_cases hz:N-hv=0
  ·rw [mov,if_pos hz,hN,hz];split
   ·exact⟨fun hb=>by have:=hs.g hb;simpa [Ta.add]using this,hs.d⟩
   ·exact hs
  ·rw [mov,if_neg hz,hN];split
   ·refine⟨fun hb=> ?_,fun hb=> ?_⟩
    ·have h1:=hs.g hb;have:=bnd_per hb;have h2:=h1.add (now:=now) (x:=N-hv) (pods:=N-hv) (by unfold fup;omega) (by rw [hl1];simp only at this;omega) (by omega);simp only;rw [hl1]at h2⊢;exact h2
    ·have h1:=(hs.d hb).other (now:=now) (x:=N-hv) (by unfold fdn;omega) (by omega);simp only;rw [hl1]at h1⊢;exact h1
   ·rename_i hbu;refine⟨fun hb=>absurd hb hbu,fun hb=> ?_⟩;have h1:=(hs.d hb).other (now:=now) (x:=N-hv) (by unfold fdn;omega) (by omega);rw [hl1]at h1⊢;exact h1
 ·split
  ·have hb:=nD_bd hf (hv:=hv) (want:=want) ⟨c,d⟩ ⟨e,f⟩;generalize hN:nD s1 hv want=N at*;unfold Stb.fewer;by_cases hz:N-hv=0
   ·have hz':hv-N=0:=(by omega);rw [mov,if_pos hz,hN,hz'];split
    ·exact⟨hs.g,fun hb=>by have:=hs.d hb;simpa [Ta.add]using this⟩
    ·exact hs
   ·rw [mov,if_neg hz,hN];split
    ·refine⟨fun hb=> ?_,fun hb=> ?_⟩
     ·have h1:=(hs.g hb).other (now:=now) (x:=N-hv) (by unfold fup;omega) (by omega);simp only;rw [hl1]at h1⊢;exact h1
     ·have h1:=hs.d hb;have:=bnd_per hb;have h2:=h1.add (now:=now) (x:=N-hv) (pods:=hv-N) (by unfold fdn;omega) (by rw [hl1];simp only at this;omega) (by omega);simp only;rw [hl1]at h2⊢;exact h2
    ·rename_i hbd;refine⟨fun hb=> ?_,fun hb=>absurd hb hbd⟩;have h1:=(hs.g hb).other (now:=now) (x:=N-hv) (by unfold fup;omega) (by omega);rw [hl1]at h1⊢;exact h1
  ·rw [mov,if_pos (by omega)];exact hs
theorem pace {M:List Mo} {s:St} {p per:Int} (h:MI M s) (hF:Fit s k) (ho:okArg s.last now hv want=true) (hu:s.u=⟨0,p,0,per⟩) (hp:1≤p) (hper:1≤per) (hlt:hv<setN s now hv want) (hw:hv<want):
  setN s now hv want-hv+sumF fup M (now-per)≤p∨setN s now hv want≤p:=by
 obtain⟨a,b,c,d,e,f⟩:=okArg_iff.1 ho;have hs:=h.step (now:=now) (want:=want) a;have hl:=hF.last;have hf:Fit (forget (know s now want) now) (k+1):=(hF.know ⟨by omega,b⟩ ⟨e,f⟩).forget now;have hu1:(forget (know s now want) now).u=⟨0,p,0,per⟩:=hu;have hl1:(forget (know s now want) now).last=now:=rfl;have hN:setN s now hv want=nU (forget (know s now want) now) hv want:=by unfold setN;rw [if_pos ho,if_pos hw]
 rw [hN]at hlt⊢;generalize forget (know s now want) now=s1 at*;have hb:bnd s1.u=true:=by
  rw [hu1];unfold bnd;have h1:(per !=0)=true:=by simp;omega
  have h2:(p !=0)=true:=by simp;omega
  simp only [h1,h2];rfl
 have hg:=(hs.g hb).sum hf.gr;rw [hu1,hl1]at hg;simp only at hg;have hpart:partU s1 (baseU s1 hv)=0:=by
  unfold partU;rw [hu1];have h0:clip 0=0:=by decide
  simp only [h0];have h1:mulc (clip (baseU s1 hv)) 0=0:=by unfold mulc;rw [Int.mul_zero];exact h0
  rw [h1,h0];decide
 have hnu:nU s1 hv want=max (min (hd s1.lo want) (baseU s1 hv+max p 0)) hv:=by
  unfold nU;rw [if_pos hb,hpart,hu1]
 rw [hnu]at hlt⊢;have hbase:baseU s1 hv=max (hv-sumF fup M (now-per)) 0:=by unfold baseU;rw [hg]
 rw [hbase]at hlt⊢;omega
theorem setS_last {s:St} (ho:okArg s.last now hv want=true):(setS s now hv want).last=now:=by
 unfold setS;rw [if_pos ho];split
 ·unfold more;split<;>rfl
 ·split
  ·unfold fewer;split<;>rfl
  ·rfl
