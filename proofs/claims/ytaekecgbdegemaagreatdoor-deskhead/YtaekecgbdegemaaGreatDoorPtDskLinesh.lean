/- A part. -/
import Derived.Test.YtaekecgbdegemaaGreatDoorPtFldPlain
import Derived.Test.YtaekecgbdegemaaGreatDoorPtDskJoin
set_option linter.all false
open Go.Proofs.Tryz
set_option maxRecDepth 8000
namespace Go.Proofs.YtaekecgbdegemaaGreatDoor
namespace Dsk
open Go.RowKit Lai Crn Pln Pie

def cutL (l:List (List UInt8)):List (List UInt8):=if l.getLast? =some []then l.dropLast else l
theorem words_in (x:Int) (w:World):CS 24 #[.int .i32 x] w (.bool (x==32)):=by
 go_enter func24,ntmps24;go_wp2;go_ret;exact⟨rfl,rfl⟩
def wordsL (l:List UInt8):List (List UInt8):=(pieces 32 l).filter (· ≠ [])
theorem words_any (l:List UInt8) (w:World) (hl:l.length≤65536):Calls prog 12 #[strV l] w fun e w'=> ∃A,e=.returned (.slice (some ⟨A,0,none⟩) (wordsL l).length (wordsL l).length)∧TxAt w' A 0 (wordsL l)∧Below w.heap.size w w':=by
 have c0 := strings_FieldsFunc_runes 24 #[] (enters_of func24 (by kernel_rfl) rfl) (fun x => x == 32) ⟨l.toArray⟩ w (by show l.length ≤ _; omega) (fun W x _ _ => by
  refine(words_in (x:Int) W).mono fun e w' h=>⟨?_,0,h.2⟩
  rw [h.1];congr 2;show((x:Int)==32)=(x==32);by_cases hx:x=32
  ·subst hx;rfl
  ·rw [beq_eq_false_iff_ne.2 hx,beq_eq_false_iff_ne.2 (by omega)])
 have hf:(Lib.goFieldsP (fun x=>x==32) ⟨l.toArray⟩).map (fun x=>x.data.toList)=wordsL l:=Fld.fields_words l;generalize Lib.goFieldsP (fun x=>x==32) ⟨l.toArray⟩=F at*;have hn:F.length=(wordsL l).length:=by rw [←hf,XE]
 rw [hn]at c0;go_enter func12,ntmps12;go_wp2_with(go_at_call 23;(with_reducible refine c0.mono ?_);rintro e w1 ⟨A,rfl,hA,ho,hb⟩;have HX:Hid (TxAt w1 A 0 (wordsL l)):=⟨(ho.lt A rfl).2,fun j x hx=>(by rw [←hf,XQ,XH]at hx;obtain⟨y,hy,rfl⟩:=hx;have:=ho.cells rfl j (.string y) (by rw [XQ,hy];rfl);have e:((⟨A,0,none⟩:Addr).add j)=⟨A,0+j,none⟩:=(by simp [Addr.add];intro h;exact h.symm);rw [←e];exact this)⟩;clear ho)
 go_ret;exact⟨A,rfl,HX.out,hb⟩
theorem pre_any (l m:List UInt8) (w:World) (_hl:l.length≤9223372036854775807) (_hm:m.length≤9223372036854775807):CS 7 #[strV l,strV m] w (.bool (decide (m.length≤l.length)&&(l.take m.length==m))):=by
 have c0:CS 17 #[strV l,strV m] w (.bool (decide (m.length≤l.length)&&(l.take m.length==m))):=by
  by_cases h:m.length≤l.length
  ·have h':(m.length:Int)≤l.length:=by omega
   have e1:(⟨l.toArray⟩:ByteArray).extract 0 m.length=⟨(l.take m.length).toArray⟩:=by
    apply ByteArray.ext;rw [ByteArray.data_extract];simp
   rw [decide_eq_true h,XJ];go_enter func17,ntmps17;go_wp2;go_ret;exact⟨rfl,rfl⟩
  ·have h': ¬(m.length:Int)≤l.length:=by omega
   rw [decide_eq_false h,Bool.false_and];go_enter func17,ntmps17;go_wp2;go_ret;exact⟨rfl,rfl⟩
 go_enter func7,ntmps7;go_wp2_with(go_at_call 17;(with_reducible refine c0.mono ?_);rintro e w' ⟨rfl,rfl⟩)
 go_ret;exact⟨rfl,rfl⟩
theorem lines_any (l:List UInt8) (w:World) (hl:l.length≤65536):Calls prog 11 #[strV l] w fun e w'=> ∃A c,e=.returned (.slice (some ⟨A,0,none⟩) (cutL (pieces 10 l)).length c)∧TxAt w' A 0 (cutL (pieces 10 l))∧Below w.heap.size w w':=by
 have c0:=split_any l 10 w (by omega);have hne:=pieces_ne 10 l;have hlen:(pieces 10 l).length≤65537:=by rw [pieces_len];have:=X6 (a:=(10:UInt8)) (l:=l);omega
 generalize pieces 10 l=P at*;obtain⟨Q,z,rfl⟩: ∃Q z,P=Q++ [z]:=⟨P.dropLast,P.getLast hne,(List.dropLast_concat_getLast hne).symm⟩
 have hq:(Q++ [z]).length=Q.length+1:=by simp
 rw [hq]at c0 hlen;clear hne;by_cases hz:z=[]
 ·have hC:cutL (Q++ [z])=Q:=by unfold cutL;rw [if_pos (by simp [hz]),List.dropLast_concat]
  rw [hC];go_enter func11,ntmps11;go_wp2_with(go_at_call 22;(with_reducible refine c0.mono ?_);rintro e w1 ⟨rfl,hT,hb⟩;have hc:=hT.2 Q.length z (by simp);have HT:Hid (TxAt w1 w.heap.size 0 Q):=⟨hT.1,fun j x hx=>(TxAt.of hT).2 j x (by rw [XY (Xe.1 hx).1];exact hx)⟩;rw [hz]at hc;clear hT)
  go_ret;exact⟨_,_,rfl,HT.out,hb⟩
 ·have hC:cutL (Q++ [z])=Q++ [z]:=by unfold cutL;rw [if_neg (by simp [hz])]
  rw [hC,hq];have hz':(z==[])=false:=beq_eq_false_iff_ne.2 hz;go_enter func11,ntmps11;go_wp2_with(go_at_call 22;(with_reducible refine c0.mono ?_);rintro e w1 ⟨rfl,hT,hb⟩;have hc:=hT.2 Q.length z (by simp);have HT:Hid (TxAt w1 w.heap.size 0 (Q++ [z])):=TxAt.of hT;clear hT)
  go_ret;exact⟨_,_,rfl,HT.out,hb⟩

theorem rlines_any (l:List UInt8) (w:World) (hl:l.length≤65536):Calls prog 6 #[strV l] w fun e w'=> ∃A c,e=.returned (.slice (some ⟨A,0,none⟩) (cutL (pieces 10 l)).length c)∧TxAt w' A 0 (cutL (pieces 10 l))∧Below w.heap.size w w':=by
 have c0:=rpieces_c l 10 w hl;rw [show(((10:UInt8).toNat:Nat):Int)=10 from rfl]at c0;have hne:=pieces_ne 10 l;have hlen:(pieces 10 l).length≤65537:=by rw [pieces_len];have:=X6 (a:=(10:UInt8)) (l:=l);omega
 generalize pieces 10 l=P at*;obtain⟨Q,z,rfl⟩: ∃Q z,P=Q++ [z]:=⟨P.dropLast,P.getLast hne,(List.dropLast_concat_getLast hne).symm⟩
 have hq:(Q++ [z]).length=Q.length+1:=by simp
 rw [hq]at c0 hlen;have hlen':((Q.length:Nat):Int)+1≤65537:=by omega
 clear hne;by_cases hz:z=[]
 ·have hC:cutL (Q++ [z])=Q:=by unfold cutL;rw [if_pos (by simp [hz]),List.dropLast_concat]
  rw [hC];go_enter func6,ntmps6;go_wp2_with(go_at_call 16;(with_reducible refine c0.mono ?_);rintro e w1 ⟨B,cv,hcv,rfl,hB,hT,hb⟩;have hc:w1.cell? ⟨B,Q.length,none⟩=some (strV z):=hT.2 Q.length z (by simp);have HT:Hid (TxAt w1 B 0 Q):=⟨hT.1,fun j x hx=>(TxAt.of hT).2 j x (by rw [XY (Xe.1 hx).1];exact hx)⟩;rw [hz]at hc;clear hT)
  go_ret;exact⟨_,_,rfl,HT.out,hb⟩
 ·have hC:cutL (Q++ [z])=Q++ [z]:=by unfold cutL;rw [if_neg (by simp [hz])]
  rw [hC,hq];have hz':(z==[])=false:=beq_eq_false_iff_ne.2 hz;go_enter func6,ntmps6;go_wp2_with(go_at_call 16;(with_reducible refine c0.mono ?_);rintro e w1 ⟨B,cv,hcv,rfl,hB,hT,hb⟩;have hc:w1.cell? ⟨B,Q.length,none⟩=some (strV z):=hT.2 Q.length z (by simp);have HT:Hid (TxAt w1 B 0 (Q++ [z])):=TxAt.of hT;clear hT)
  go_ret;exact⟨_,_,rfl,HT.out,hb⟩
