/- What the listed variables hold, cell by cell, out of a row's condition. A queue's messages as lists: plain mathematics. What a queue does, over lists: plain mathematics. Rows of integers in memory: one number a cell, or two. Several things side by side, each with blocks of its own: what a turn of one leaves of the others. -/
import Derived.Test.YtddabkmppobcdaaGreatDoorRows
import Derived.WalkKit
import Derived.Below
import Derived.Lib.LaidU8
namespace Go.Proofs.YtddabkmppobcdaaGreatDoor
namespace Lai
open Go.RowKit
set_option maxRecDepth 100000

def bdl : List Int := [0, 59, 0, 23, 1, 31, 1, 12, 0, 6]
/-- the five bounds lie in their variable -/
def BdsAt (w : World) : Prop := ∀ j, j < 10 → w.cell? ⟨0, j, none⟩ = some (.int .i64 (bdl.getD j 0))

theorem cell_lt {w : World} {p : Addr} {v : Value} (h : w.cell? p = some v) : p.block < w.heap.size := by
  by_cases g : p.block < w.heap.size
  · exact g
  · exfalso
    simp only [World.cell?] at h
    rw [Array.getElem?_eq_none (by omega)] at h
    simp at h

theorem BdsAt.below {w w' : World} {n : Nat} (h : BdsAt w) (hb : Below n w w') (hn : w.heap.size ≤ n) : BdsAt w' := by
  intro j hj
  have := h j hj
  have hlt := cell_lt this
  rw [← this]
  exact hb.cell (Nat.lt_of_lt_of_le hlt hn)

theorem gnB : Tryz.prog.globalNamed "tidewheel/cron.bounds" = some 0 := by kernel_rfl
theorem gtB : (Tryz.prog.globals[0]?).map (·.type) = some 162 := by kernel_rfl
theorem ceB : Tryz.prog.cellsOf 161 = 2 := by kernel_rfl
theorem ciB : Tryz.prog.cellsOf 3 = 1 := by kernel_rfl

theorem bds_pair {w : World} {cs : Array Value} {ds : List (DataW Unit)} {fuel : Nat} {p : List MemPlace}
    (h : DataW.trod (fun _ => ()) Tryz.prog w 0 (fun _ => true) false fuel 162 cs.toList = some (.agg ds, p)) (i : Nat) (hi : i < 5) (a b : Int)
    (hd : ds[i]? = some (.agg [.lit (.int .i64 a), .lit (.int .i64 b)])) : cs[2 * i]? = some (.int .i64 a) ∧ cs[2 * i + 1]? = some (.int .i64 b) := by
  obtain ⟨fuel', d, q, hdi, he⟩ := Lib.array_elem Tryz.underlying162 h i hi
  rw [hd] at hdi
  cases hdi
  rw [ceB] at he
  have hcs := Lib.ints_of_struct (zs := [a, b]) Tryz.underlying161 (fun j f hj => by
      match j, hj with
      | 0, hj => simp at hj; subst hj; exact ⟨Tryz.underlying3, rfl, ciB⟩
      | 1, hj => simp at hj; subst hj; exact ⟨Tryz.underlying3, rfl, ciB⟩
      | j + 2, hj => simp at hj) (by rw [ceB]; rfl) he
  have e0 := congrArg (·[0]?) hcs
  have e1 := congrArg (·[1]?) hcs
  simp only [List.getElem?_take, List.getElem?_drop] at e0 e1
  constructor
  · rw [← Array.getElem?_toList]
    simpa [Nat.mul_comm] using e0
  · rw [← Array.getElem?_toList]
    simpa [Nat.mul_comm] using e1

theorem bds_of {w : World} (h : Lib.VarReads Tryz.prog w "tidewheel/cron.bounds" Rows.laid_tidewheel_cron_bounds) : BdsAt w := by
  obtain ⟨g, t, cs, fuel, p, hg, hty, hvar, hd⟩ := h
  obtain rfl := Option.some.inj (gnB.symm.trans hg)
  obtain rfl := Option.some.inj (gtB.symm.trans hty)
  have h0 := bds_pair hd 0 (by decide) 0 59 rfl
  have h1 := bds_pair hd 1 (by decide) 0 23 rfl
  have h2 := bds_pair hd 2 (by decide) 1 31 rfl
  have h3 := bds_pair hd 3 (by decide) 1 12 rfl
  have h4 := bds_pair hd 4 (by decide) 0 6 rfl
  intro j hj
  rw [World.var?_cell hg hvar j]
  match j, hj with
  | 0, _ => exact h0.1
  | 1, _ => exact h0.2
  | 2, _ => exact h1.1
  | 3, _ => exact h1.2
  | 4, _ => exact h2.1
  | 5, _ => exact h2.2
  | 6, _ => exact h3.1
  | 7, _ => exact h3.2
  | 8, _ => exact h4.1
  | 9, _ => exact h4.2
  | j + 10, hj => omega
end Lai
namespace Que
open Go.RowKit

structure M where
 id:Int
 till:Int
 tk:Bool
def cel (m:M):List Value:=[.int .i64 m.id,.int .i64 m.till,.bool m.tk]
def cels (L:List M):List Value:=L.flatMap cel
theorem cels_cons (m:M) (L:List M):cels (m::L)=.int .i64 m.id:: .int .i64 m.till:: .bool m.tk::cels L:=rfl
theorem cels_append (A B:List M):cels (A++B)=cels A++cels B:=by simp [cels,List.flatMap_append]
theorem cels_len: ∀L:List M,(cels L).length=L.length*3
 | []=>rfl
 |m::L=>by rw [cels_cons];simp only [List.length_cons];rw [cels_len L];omega
theorem cels_get: ∀(L:List M) (i:Nat) (m:M),L[i]?=some m→(cels L)[i*3]?=some (.int .i64 m.id)∧(cels L)[i*3+1]?=some (.int .i64 m.till)∧(cels L)[i*3+2]?=some (.bool m.tk)
 | [],i,m,h=>by simp at h
 |x::L,0,m,h=>by simp at h;subst h;simp [cels_cons]
 |x::L,i+1,m,h=>by
  have:=cels_get L i m (by simpa using h)
  rw [cels_cons,show(i+1)*3=i*3+1+1+1 by omega]
  simpa using this
theorem cels_set: ∀(L:List M) (i:Nat) (a b:Int) (c:Bool),i<L.length→cels (L.set i ⟨a,b,c⟩)=(((cels L).set (i*3) (.int .i64 a)).set (i*3+1) (.int .i64 b)).set (i*3+2) (.bool c)
 | [],i,a,b,c,h=>by simp at h
 |x::L,0,a,b,c,h=>by simp [cels_cons]
 |x::L,i+1,a,b,c,h=>by
  rw [List.set_cons_succ,cels_cons,cels_cons,cels_set L i a b c (by simpa using h),show(i+1)*3=i*3+1+1+1 by omega]
  simp
theorem cels_set2 (L:List M) (i:Nat) (m:M) (b:Int) (c:Bool) (h:L[i]?=some m):cels (L.set i ⟨m.id,b,c⟩)=((cels L).set (i*3+2) (.bool c)).set (i*3+1) (.int .i64 b):=by
 have hi:i<L.length:=(List.getElem?_eq_some_iff.1 h).1
 rw [cels_set L i m.id b c hi]
 have h0:=(cels_get L i m h).1
 have e0:(cels L).set (i*3) (.int .i64 m.id)=cels L:=by
  apply List.ext_getElem?
  intro j
  rw [List.getElem?_set]
  split
  ·rename_i e;subst e;split
   ·exact h0.symm
   ·rename_i g;rw [List.getElem?_eq_none (by omega)]
  ·rfl
 rw [e0,List.set_comm _ _ (by omega)]
theorem cels_take: ∀(L:List M) (i:Nat),cels (L.take i)=(cels L).take (i*3)
 | [],i=>by simp [cels]
 |x::L,0=>by simp [cels]
 |x::L,i+1=>by
  rw [List.take_succ_cons,cels_cons,cels_cons,cels_take L i,show(i+1)*3=i*3+1+1+1 by omega]
  simp
theorem cels_drop: ∀(L:List M) (i:Nat),cels (L.drop i)=(cels L).drop (i*3)
 | [],i=>by simp [cels]
 |x::L,0=>by simp
 |x::L,i+1=>by
  rw [List.drop_succ_cons,cels_cons,cels_drop L i,show(i+1)*3=i*3+1+1+1 by omega]
  simp
theorem cels_one (L:List M): ∀u∈cels L,u.oneCell'=true:=by
 intro u hu
 simp only [cels,List.mem_flatMap]at hu
 obtain⟨m,_,hm⟩:=hu
 simp [cel]at hm
 rcases hm with rfl|rfl|rfl<;>rfl

def back (now:Int) (m:M):M:=if m.tk=true∧m.till≤now then⟨m.id,0,false⟩else m
def backL (now:Int) (L:List M):List M:=L.map (back now)
theorem backL_len (now:Int) (L:List M):(backL now L).length=L.length:=by simp [backL]
theorem back_id (now:Int) (m:M):(back now m).id=m.id:=by unfold back;split<;>rfl
def half (f:M→M) (L:List M) (k:Nat):List M:=(L.take k).map f++L.drop k
theorem half_len (f:M→M) (L:List M) (k:Nat):(half f L k).length=L.length:=by simp [half];omega
theorem half_zero (f:M→M) (L:List M):half f L 0=L:=by simp [half]
theorem half_all (f:M→M) (L:List M):half f L L.length=L.map f:=by simp [half]
theorem half_get (f:M→M) (L:List M) (k:Nat) (m:M) (h:L[k]?=some m):(half f L k)[k]?=some m:=by
 have hk:k<L.length:=(List.getElem?_eq_some_iff.1 h).1
 have hl:((L.take k).map f).length=k:=by simp;omega
 unfold half
 rw [List.getElem?_append_right (by omega),hl,Nat.sub_self,List.getElem?_drop]
 simpa using h
theorem half_step (f:M→M) (L:List M) (k:Nat) (m:M) (h:L[k]?=some m):(half f L k).set k (f m)=half f L (k+1):=by
 have hk:k<L.length:=(List.getElem?_eq_some_iff.1 h).1
 have hl:((L.take k).map f).length=k:=by simp;omega
 have hd:L.drop k=m::L.drop (k+1):=by
  rw [List.drop_eq_getElem_cons hk]
  rw [List.getElem?_eq_getElem hk]at h
  cases h;rfl
 unfold half
 rw [List.set_append_right _ _ (by omega),hl,Nat.sub_self,hd,List.set_cons_zero,List.take_add_one,h]
 simp
theorem half_same (f:M→M) (L:List M) (k:Nat) (m:M) (h:L[k]?=some m) (hf:f m=m):half f L k=half f L (k+1):=by
 rw [←half_step f L k m h,hf]
 have:=half_get f L k m h
 apply List.ext_getElem?
 intro j
 rw [List.getElem?_set]
 split
 ·rename_i e;subst e;split
  ·exact this
  ·rename_i g;rw [List.getElem?_eq_none (by omega)]
 ·rfl
end Que
namespace Que
open Go.RowKit

theorem find_at {p:M→Bool} {L:List M} {k:Nat} {m:M} (h: ∀j,j<k→ ∀x,L[j]?=some x→p x=false) (hk:L[k]?=some m) (hp:p m=true):L.findIdx? p=some k:=by
 obtain⟨hlt,hm⟩:=List.getElem?_eq_some_iff.1 hk
 rw [List.findIdx?_eq_some_iff_getElem]
 refine⟨hlt,by rw [hm];exact hp,fun j hj=> ?_⟩
 have:=h j hj L[j] (by simp)
 simp [this]
theorem find_no {p:M→Bool} {L:List M} (h: ∀j,j<L.length→ ∀x,L[j]?=some x→p x=false):L.findIdx? p=none:=by
 rw [List.findIdx?_eq_none_iff]
 intro x hx
 obtain⟨j,hj⟩:=List.mem_iff_getElem?.1 hx
 exact h j (List.getElem?_eq_some_iff.1 hj).1 x hj
theorem find_get {p:M→Bool} {L:List M} {k:Nat} (h:L.findIdx? p=some k): ∃m,L[k]?=some m∧p m=true:=by
 obtain⟨hlt,hm,_⟩:=List.findIdx?_eq_some_iff_getElem.1 h
 exact⟨L[k],by simp,hm⟩
def idxV:Option Nat→Int
 |none=> -1
 |some k=>k
def free (m:M):Bool:= !m.tk
def isId (id:Int) (m:M):Bool:=m.id==id
def depth (L:List M):Nat:=L.countP free
theorem depth_step {L:List M} {k:Nat} {m:M} (h:L[k]?=some m):depth (L.take (k+1))=depth (L.take k)+if free m then 1 else 0:=by
 unfold depth
 rw [List.take_add_one,h,List.countP_append]
 simp [List.countP_cons]
theorem depth_le (L:List M):depth L≤L.length:=List.countP_le_length

def news (last:Int) (n:Nat):List M:=(List.range n).map fun(i:Nat)=>⟨last+1+(i:Int),0,false⟩
theorem news_len (last:Int) (n:Nat):(news last n).length=n:=by simp [news]
theorem news_step (last:Int) (n:Nat):news last n++ [⟨last+1+(n:Int),0,false⟩]=news last (n+1):=by
 unfold news;rw [List.range_succ,List.map_append];rfl
theorem news_zero (last:Int):news last 0=[]:=rfl

def keepP (id:Int) (m:M):Bool:= !(m.id==id&&m.tk)
def ackE (id:Int) (L:List M):Int:=L.foldl (fun e m=>if m.id==id then(if m.tk then 0 else 7)else e) 4
def ackL (id:Int) (L:List M):List M:=L.filter (keepP id)
def ids (L:List M):List Int:=L.map M.id
theorem ids_back (now:Int) (L:List M):ids (backL now L)=ids L:=by
 unfold ids backL
 rw [List.map_map]
 congr 1
 funext m
 exact back_id now m

theorem split_at {L:List M} {i:Nat} {m:M} (h:L[i]?=some m):L=L.take i++m::L.drop (i+1):=by
 obtain⟨hlt,hm⟩:=List.getElem?_eq_some_iff.1 h
 conv=>lhs;rw [←List.take_append_drop i L]
 rw [List.drop_eq_getElem_cons hlt,hm]
theorem erase_at {L:List M} {i:Nat} :L.eraseIdx i=L.take i++L.drop (i+1):=List.eraseIdx_eq_take_drop_succ ..
structure Inv (L:List M) (last:Int):Prop where
 nd:(ids L).Nodup
 len:L.length≤200
 bd: ∀m∈L,1≤m.id∧m.id≤last∧0≤m.till∧m.till≤1099511727776
 l0:0≤last
theorem Inv.nil:Inv [] 0:=⟨by simp [ids],by simp,by simp,by omega⟩
theorem Inv.back {L:List M} {last:Int} (h:Inv L last) (now:Int):Inv (backL now L) last:=by
 refine⟨by rw [ids_back];exact h.nd,by rw [backL_len];exact h.len,fun m hm=> ?_,h.l0⟩
 obtain⟨x,hx,rfl⟩:=List.mem_map.1 hm
 have:=h.bd x hx
 unfold Que.back
 split
 ·simp only;omega
 ·omega
theorem mem_set {L:List M} {i:Nat} {m x:M} (h:x∈L.set i m):x=m∨x∈L:=by
 rcases List.mem_or_eq_of_mem_set h with h|h
 ·exact Or.inr h
 ·exact Or.inl h
theorem ids_set {L:List M} {i:Nat} {m:M} {b:Int} {c:Bool} (h:L[i]?=some m):ids (L.set i ⟨m.id,b,c⟩)=ids L:=by
 unfold ids
 rw [List.map_set]
 apply List.ext_getElem?
 intro j
 rw [List.getElem?_set]
 split
 ·rename_i e;subst e;split
  ·simp [h]
  ·rename_i g;rw [List.getElem?_eq_none (by omega)]
 ·rfl
theorem Inv.set {L:List M} {last:Int} (h:Inv L last) {i:Nat} {m:M} {b:Int} {c:Bool} (hm:L[i]?=some m) (hb:0≤b∧b≤1099511727776):Inv (L.set i ⟨m.id,b,c⟩) last:=by
 refine⟨by rw [ids_set hm];exact h.nd,by simpa using h.len,fun x hx=> ?_,h.l0⟩
 rcases mem_set hx with rfl|hx
 ·have:=h.bd m (List.mem_of_getElem? hm)
  simp only;omega
 ·exact h.bd x hx
theorem Inv.erase {L:List M} {last:Int} (h:Inv L last) (i:Nat):Inv (L.eraseIdx i) last:=by
 have hs:=List.eraseIdx_sublist L i
 refine⟨?_,Nat.le_trans hs.length_le h.len,fun m hm=>h.bd m (hs.subset hm),h.l0⟩
 exact(hs.map M.id).nodup h.nd
theorem Inv.put {L:List M} {last:Int} (h:Inv L last) {n:Nat} (hn:L.length+n≤200):Inv (L++news last n) (last+n):=by
 have hid:ids (news last n)=(List.range n).map fun(i:Nat)=>last+1+(i:Int):=by simp [ids,news,Function.comp_def]
 have h0:=h.l0
 refine⟨?_,by rw [List.length_append,news_len];exact hn,fun m hm=> ?_,by omega⟩
 ·have:ids (L++news last n)=ids L++ids (news last n):=by simp [ids]
  rw [this,List.nodup_append]
  refine⟨h.nd,?_,fun a ha b hb e=> ?_⟩
  ·rw [hid]
   refine List.Pairwise.map _ (fun a b hab=> ?_) List.nodup_range
   omega
  ·rw [hid]at hb
   obtain⟨i,_,rfl⟩:=List.mem_map.1 hb
   obtain⟨m,hm,rfl⟩:=List.mem_map.1 ha
   have:=h.bd m hm
   omega
 ·rcases List.mem_append.1 hm with hm|hm
  ·have:=h.bd m hm;omega
  ·unfold news at hm
   obtain⟨i,hi,rfl⟩:=List.mem_map.1 hm
   have:=List.mem_range.1 hi
   simp only;omega
end Que
namespace Top
open Go.RowKit

def upd (X:Nat→Int) (i:Nat) (x:Int):Nat→Int:=fun j=>if j=i then x else X j
theorem upd_same (X:Nat→Int) (i:Nat) (x:Int):upd X i x i=x:=by simp [upd]
theorem upd_other (X:Nat→Int) (i j:Nat) (x:Int) (h:j≠i):upd X i x j=X j:=by simp [upd,h]

def Row1 (w:World) (G n:Nat) (X:Nat→Int):Prop:=G<w.heap.size∧(∀i,i<n→w.cell? ⟨G,i,none⟩=some (.int .i64 (X i)))∧ ∀j,w.frozen? ⟨G,j,none⟩=false
def Row2 (w:World) (G n:Nat) (E O:Nat→Int):Prop:=G<w.heap.size∧(∀i,i<n→w.cell? ⟨G,i*2,none⟩=some (.int .i64 (E i))∧w.cell? ⟨G,i*2+1,none⟩=some (.int .i64 (O i)))∧ ∀j,w.frozen? ⟨G,j,none⟩=false

section
variable {w w' : World} {G n : Nat} {X E O : Nat → Int}

theorem Row1.kept (h:Row1 w G n X) (hb:w'.heap[G]?=w.heap[G]?):Row1 w' G n X:=by
 obtain⟨h0,h1,h2⟩:=h
 refine⟨?_,fun i hi=> ?_,fun j=> ?_⟩
 ·rw [Array.getElem?_eq_getElem h0]at hb
  exact(Array.getElem?_eq_some_iff.1 hb).1
 ·rw [World.cell?_of_block (w:=w) (a:=⟨G,i,none⟩) hb];exact h1 i hi
 ·rw [World.frozen?_of_block (w:=w) (a:=⟨G,j,none⟩) hb];exact h2 j
theorem Row2.kept (h:Row2 w G n E O) (hb:w'.heap[G]?=w.heap[G]?):Row2 w' G n E O:=by
 obtain⟨h0,h1,h2⟩:=h
 refine⟨?_,fun i hi=>⟨?_,?_⟩,fun j=> ?_⟩
 ·rw [Array.getElem?_eq_getElem h0]at hb
  exact(Array.getElem?_eq_some_iff.1 hb).1
 ·rw [World.cell?_of_block (w:=w) (a:=⟨G,i*2,none⟩) hb];exact(h1 i hi).1
 ·rw [World.cell?_of_block (w:=w) (a:=⟨G,i*2+1,none⟩) hb];exact(h1 i hi).2
 ·rw [World.frozen?_of_block (w:=w) (a:=⟨G,j,none⟩) hb];exact h2 j

theorem Row1.below {B:Nat} (h:Row1 w G n X) (hb:Below B w w') (hG:G<B):Row1 w' G n X:=h.kept (hb.block G hG)
theorem Row2.below {B:Nat} (h:Row2 w G n E O) (hb:Below B w w') (hG:G<B):Row2 w' G n E O:=h.kept (hb.block G hG)
theorem Row1.lt (h:Row1 w G n X):G<w.heap.size:=h.1
theorem Row2.lt (h:Row2 w G n E O):G<w.heap.size:=h.1
theorem Row1.drew (h:Row1 w G n X):Row1 w.drew G n X:=h.kept rfl
theorem Row2.drew (h:Row2 w G n E O):Row2 w.drew G n E O:=h.kept rfl
theorem Row1.alloc (h:Row1 w G n X) (o:Obj):Row1 (w.alloc o) G n X:=h.kept (Below.heap_alloc w o G h.1)
theorem Row2.alloc (h:Row2 w G n E O) (o:Obj):Row2 (w.alloc o) G n E O:=h.kept (Below.heap_alloc w o G h.1)
theorem Row1.apart (h:Row1 w G n X) (a:Addr) (u:Value) (hne:G≠a.block):Row1 (w.setCell a u) G n X:=h.kept (Below.heap_setCell w a u G hne)
theorem Row2.apart (h:Row2 w G n E O) (a:Addr) (u:Value) (hne:G≠a.block):Row2 (w.setCell a u) G n E O:=h.kept (Below.heap_setCell w a u G hne)
theorem size_setCell (a:Addr) (u:Value):(w.setCell a u).heap.size=w.heap.size:=by simp [World.setCell]

theorem off_ne {a b:Nat} (h:a≠b):(⟨G,a,none⟩:Addr)≠⟨G,b,none⟩:=fun e=>h (by cases e;rfl)

theorem Row1.set (h:Row1 w G n X) {i:Nat} (hi:i<n) (x:Int):Row1 (w.setCell ⟨G,i,none⟩ (.int .i64 x)) G n (upd X i x):=by
 obtain⟨h0,h1,h2⟩:=h
 refine⟨by rw [size_setCell];exact h0,fun j hj=> ?_,fun j=>by rw [World.frozen?_setCell];exact h2 j⟩
 by_cases e:j=i
 ·subst e;rw [upd_same];exact World.cell?_setCell_same _ _ _ (h1 j hj)
 ·rw [upd_other _ _ _ _ e,World.cell?_setCell_other (h:=off_ne (Ne.symm e))];exact h1 j hj
theorem Row2.setE (h:Row2 w G n E O) {i:Nat} (hi:i<n) (x:Int):Row2 (w.setCell ⟨G,i*2,none⟩ (.int .i64 x)) G n (upd E i x) O:=by
 obtain⟨h0,h1,h2⟩:=h
 refine⟨by rw [size_setCell];exact h0,fun j hj=>⟨?_,?_⟩,fun j=>by rw [World.frozen?_setCell];exact h2 j⟩
 ·by_cases e:j=i
  ·subst e;rw [upd_same];exact World.cell?_setCell_same _ _ _ (h1 j hj).1
  ·rw [upd_other _ _ _ _ e,World.cell?_setCell_other (h:=off_ne (by omega))];exact(h1 j hj).1
 ·rw [World.cell?_setCell_other (h:=off_ne (by omega))];exact(h1 j hj).2
theorem Row2.setO (h:Row2 w G n E O) {i:Nat} (hi:i<n) (x:Int):Row2 (w.setCell ⟨G,i*2+1,none⟩ (.int .i64 x)) G n E (upd O i x):=by
 obtain⟨h0,h1,h2⟩:=h
 refine⟨by rw [size_setCell];exact h0,fun j hj=>⟨?_,?_⟩,fun j=>by rw [World.frozen?_setCell];exact h2 j⟩
 ·rw [World.cell?_setCell_other (h:=off_ne (by omega))];exact(h1 j hj).1
 ·by_cases e:j=i
  ·subst e;rw [upd_same];exact World.cell?_setCell_same _ _ _ (h1 j hj).2
  ·rw [upd_other _ _ _ _ e,World.cell?_setCell_other (h:=off_ne (by omega))];exact(h1 j hj).2

theorem Row1.ext (h:Row1 w G n X) {Y:Nat→Int} (e: ∀i,i<n→Y i=X i):Row1 w G n Y:=⟨h.1,fun i hi=>by rw [e i hi];exact h.2.1 i hi,h.2.2⟩

theorem Row1.of_owns {base cap:Nat} {e:TypeId} {xs:List Value} (h:w.ownsRow base e 1 (.slice (some ⟨G,0,none⟩) n cap) n xs) (hx: ∀i,i<n→xs[i]?=some (.int .i64 (X i))):Row1 w G n X:=
 ⟨(h.lt G rfl).2,fun i hi=>by rw [h.cellAt i (by omega)];exact hx i hi,fun j=>h.frozenAt j⟩
theorem Row2.of_owns {base cap:Nat} {e:TypeId} {xs:List Value} (h:w.ownsRow base e 2 (.slice (some ⟨G,0,none⟩) n cap) n xs)
  (hx: ∀i,i<n→xs[i*2]?=some (.int .i64 (E i))∧xs[i*2+1]?=some (.int .i64 (O i))):Row2 w G n E O:=
 ⟨(h.lt G rfl).2,fun i hi=>⟨by rw [h.cellAt (i*2) (by omega)];exact(hx i hi).1,by rw [h.cellAt (i*2+1) (by omega)];exact(hx i hi).2⟩,fun j=>h.frozenAt j⟩
end
end Top
namespace Mm
open Go.RowKit

structure Mv (b b':Nat→Prop) (w w':World):Prop where
 os:w'.os=w.os
 tape:w'.tape=w.tape
 output:w'.output=w.output
 size:w.heap.size≤w'.heap.size
 block: ∀k,k<w.heap.size→ ¬b k→w'.heap[k]?=w.heap[k]?
 loc: ∀k,b' k→b k∨w.heap.size≤k
section
variable {w w' w'' : World} {b b' b'' : Nat → Prop}
theorem Mv.refl (b:Nat→Prop) (w:World):Mv b b w w:=⟨rfl,rfl,rfl,Nat.le_refl _,fun _ _ _=>rfl,fun _ h=>Or.inl h⟩
theorem Mv.trans (h:Mv b b' w w') (g:Mv b' b'' w' w''):Mv b b'' w w'':=by
 refine⟨g.os.trans h.os,g.tape.trans h.tape,g.output.trans h.output,Nat.le_trans h.size g.size,fun k hk hn=> ?_,fun k hk=> ?_⟩
 ·refine(g.block k (Nat.lt_of_lt_of_le hk h.size) (fun e=> ?_)).trans (h.block k hk hn)
  rcases h.loc k e with a|a
  ·exact hn a
  ·omega
 ·rcases g.loc k hk with a|a
  ·exact h.loc k a
  ·exact Or.inr (Nat.le_trans h.size a)
theorem Mv.of_below (hb:Below w.heap.size w w'):Mv b b w w':=⟨hb.os,hb.tape,hb.output,hb.size,fun k hk _=>hb.block k hk,fun _ h=>Or.inl h⟩
theorem Mv.drew (h:Mv b b' w w'):Mv b b' w w'.drew:=⟨h.os,h.tape,h.output,h.size,h.block,h.loc⟩
theorem Mv.set {k j:Nat} (h:b k) (u:Value):Mv b b w (w.setCell ⟨k,j,none⟩ u):=
 ⟨rfl,rfl,rfl,by simp,fun i _ hn=>Below.heap_setCell w ⟨k,j,none⟩ u i (fun e=>hn (e▸h)),fun _ h=>Or.inl h⟩
theorem Mv.below {n:Nat} (h:Mv b b' w w') (hb: ∀k,b k→n≤k) (hn:n≤w.heap.size):Below n w w':=
 ⟨h.os,h.tape,h.output,h.size,fun k hk=>h.block k (by omega) (fun e=>by have:=hb k e;omega)⟩
theorem Mv.off {k:Nat} (h:Mv b b' w w') (hk:k<w.heap.size) (hn: ¬b k): ¬b' k:=fun e=>by
 rcases h.loc k e with a|a
 ·exact hn a
 ·omega
theorem Mv.cell {C j:Nat} {v:Value} (m:Mv b b' w w') (h:w.cell? ⟨C,j,none⟩=some v) (hn: ¬b C):w'.cell? ⟨C,j,none⟩=some v:=
 (World.cell?_of_block (w:=w) (a:=⟨C,j,none⟩) (m.block C (World.block_lt_of_cell? w _ h) hn)).trans h
theorem Mv.as {c c':Nat→Prop} (m:Mv b b' w w') (h: ∀k,b k↔c k) (h': ∀k,b' k↔c' k):Mv c c' w w':=
 ⟨m.os,m.tape,m.output,m.size,fun k hk hn=>m.block k hk (fun e=>hn ((h k).1 e)),fun k hk=>(m.loc k ((h' k).2 hk)).imp (h k).1 id⟩
end
theorem bdrew (w:World):Below w.heap.size w w.drew:=⟨rfl,rfl,rfl,Nat.le_refl _,fun _ _=>rfl⟩
structure Fam (B I:Nat) (b:Nat→Nat→Prop) (w:World):Prop where
 lt: ∀i k,i<I→b i k→B≤k∧k<w.heap.size
 ap: ∀i j k,i<I→j<I→i≠j→b i k→ ¬b j k
def upd (b:Nat→Nat→Prop) (i:Nat) (c:Nat→Prop):Nat→Nat→Prop:=fun j=>if j=i then c else b j
section
variable {w w' : World} {B I i : Nat} {b : Nat → Nat → Prop} {c : Nat → Prop}
theorem upd_same (b:Nat→Nat→Prop) (i:Nat) (c:Nat→Prop):upd b i c i=c:=by simp [upd]
theorem upd_other (b:Nat→Nat→Prop) (c:Nat→Prop) {i j:Nat} (h:j≠i):upd b i c j=b j:=by simp [upd,h]
theorem Fam.step (h:Fam B I b w) (hB:B≤w.heap.size) (hi:i<I) (m:Mv (b i) c w w') (hc: ∀k,c k→k<w'.heap.size):Fam B I (upd b i c) w':=by
 refine⟨fun j k hj hk=> ?_,fun j l k hj hl hne hk hn=> ?_⟩
 ·by_cases e:j=i
  ·subst e
   rw [upd_same]at hk
   refine⟨?_,hc k hk⟩
   rcases m.loc k hk with a|a
   ·exact(h.lt j k hj a).1
   ·omega
  ·rw [upd_other b c e]at hk
   exact⟨(h.lt j k hj hk).1,Nat.lt_of_lt_of_le (h.lt j k hj hk).2 m.size⟩
 ·by_cases ej:j=i
  ·subst ej
   rw [upd_same]at hk
   rw [upd_other b c (Ne.symm hne)]at hn
   rcases m.loc k hk with a|a
   ·exact h.ap j l k hj hl hne a hn
   ·have:=(h.lt l k hl hn).2;omega
  ·rw [upd_other b c ej]at hk
   by_cases el:l=i
   ·subst el
    rw [upd_same]at hn
    rcases m.loc k hn with a|a
    ·exact h.ap j l k hj hl hne hk a
    ·have:=(h.lt j k hj hk).2;omega
   ·rw [upd_other b c el]at hn
    exact h.ap j l k hj hl hne hk hn
theorem Fam.low (h:Fam B I b w) (hB:B≤w.heap.size) (hi:i<I) (m:Mv (b i) c w w'):Below B w w':=m.below (fun k hk=>(h.lt i k hi hk).1) hB
theorem Fam.below (h:Fam B I b w) (hb:Below w.heap.size w w'):Fam B I b w':=⟨fun i k hi hk=>⟨(h.lt i k hi hk).1,Nat.lt_of_lt_of_le (h.lt i k hi hk).2 hb.size⟩,h.ap⟩
theorem Fam.up (h:Fam B I b w) {k:Nat} (hk:w.heap.size≤k) {i:Nat} (hi:i<I): ¬b i k:=fun e=>by have:=(h.lt i k hi e).2;omega
theorem Fam.dn (h:Fam B I b w) {k:Nat} (hk:k<B) {i:Nat} (hi:i<I): ¬b i k:=fun e=>by have:=(h.lt i k hi e).1;omega
theorem Fam.as {b':Nat→Nat→Prop} (h:Fam B I b w) (e: ∀i k,i<I→(b' i k↔b i k)):Fam B I b' w:=
 ⟨fun i k hi hk=>h.lt i k hi ((e i k hi).1 hk),fun i j k hi hj hne hk hn=>h.ap i j k hi hj hne ((e i k hi).1 hk) ((e j k hj).1 hn)⟩
end
end Mm
end Go.Proofs.YtddabkmppobcdaaGreatDoor
