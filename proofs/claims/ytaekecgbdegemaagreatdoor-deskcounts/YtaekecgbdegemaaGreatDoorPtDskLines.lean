/- A part. -/
import Derived.Test.YtaekecgbdegemaaGreatDoorPtFldPlain
import Derived.Test.YtaekecgbdegemaaGreatDoorPtDskJoin
set_option linter.all false
open Go.Proofs.Tryz
set_option maxHeartbeats 32000000
set_option maxRecDepth 8000
namespace Go.Proofs.YtaekecgbdegemaaGreatDoor
namespace Dsk
open Go.RowKit Lai Crn Pln Pie

def cutL (l:List (List UInt8)):List (List UInt8):=if l.getLast? =some []then l.dropLast else l
theorem words_in (x:Int) (w:World):CS 24 #[.int .i32 x] w (.bool (x==32)):=by
 go_enter func24,ntmps24;go_wp2;go_ret;exact⟨rfl,rfl⟩
def wordsL (l:List UInt8):List (List UInt8):=(pieces 32 l).filter (· ≠ [])
theorem words_any (l:List UInt8) (w:World) (hl:l.length≤65536):Calls prog 12 #[strV l] w fun e w'=> ∃A,e=.returned (.slice (some ⟨A,0,none⟩) (wordsL l).length (wordsL l).length)∧TxAt w' A 0 (wordsL l)∧Below w.heap.size w w':=by
 have c0 := strings_FieldsFunc_runes 24 #[] (enters_of func24 (by kernel_rfl) rfl) (fun x => x == 32) ⟨l.toArray⟩ w (by show l.length ≤ _; omega) (fun W x _ _ => by
  refine(words_in (x:Int) W).mono fun e w' h=>⟨?_,0,h.2⟩
  rw [h.1];congr 2;show((x:Int)==32)=(x==32);by_cases hx:x=32
  ·subst hx;rfl
  ·rw [beq_eq_false_iff_ne.2 hx,beq_eq_false_iff_ne.2 (by omega)])
 have hf:(Lib.goFieldsP (fun x=>x==32) ⟨l.toArray⟩).map (fun x=>x.data.toList)=wordsL l:=Fld.fields_words l;generalize Lib.goFieldsP (fun x=>x==32) ⟨l.toArray⟩=F at*;have hn:F.length=(wordsL l).length:=by rw [←hf,XE]
 rw [hn]at c0;go_enter func12,ntmps12;go_wp2_with(go_at_call 23;(with_reducible refine c0.mono ?_);rintro e w1 ⟨A,rfl,hA,ho,hb⟩;have HX:Hid (TxAt w1 A 0 (wordsL l)):=⟨(ho.lt A rfl).2,fun j x hx=>(by rw [←hf,XQ,XH]at hx;obtain⟨y,hy,rfl⟩:=hx;have:=ho.cells rfl j (.string y) (by rw [XQ,hy];rfl);have e:((⟨A,0,none⟩:Addr).add j)=⟨A,0+j,none⟩:=(by simp [Addr.add];intro h;exact h.symm);rw [←e];exact this)⟩;clear ho)
 go_ret;exact⟨A,rfl,HX.out,hb⟩
theorem pre_any (l m:List UInt8) (w:World) (_hl:l.length≤9223372036854775807) (_hm:m.length≤9223372036854775807):CS 7 #[strV l,strV m] w (.bool (decide (m.length≤l.length)&&(l.take m.length==m))):=by
 have c0:CS 17 #[strV l,strV m] w (.bool (decide (m.length≤l.length)&&(l.take m.length==m))):=by
  by_cases h:m.length≤l.length
  ·have h':(m.length:Int)≤l.length:=by omega
   have e1:(⟨l.toArray⟩:ByteArray).extract 0 m.length=⟨(l.take m.length).toArray⟩:=by
    apply ByteArray.ext;rw [ByteArray.data_extract];simp
   rw [decide_eq_true h,XJ];go_enter func17,ntmps17;go_wp2;go_ret;exact⟨rfl,rfl⟩
  ·have h': ¬(m.length:Int)≤l.length:=by omega
   rw [decide_eq_false h,Bool.false_and];go_enter func17,ntmps17;go_wp2;go_ret;exact⟨rfl,rfl⟩
 go_enter func7,ntmps7;go_wp2_with(go_at_call 17;(with_reducible refine c0.mono ?_);rintro e w' ⟨rfl,rfl⟩)
 go_ret;exact⟨rfl,rfl⟩
theorem lines_any (l:List UInt8) (w:World) (hl:l.length≤65536):Calls prog 11 #[strV l] w fun e w'=> ∃A c,e=.returned (.slice (some ⟨A,0,none⟩) (cutL (pieces 10 l)).length c)∧TxAt w' A 0 (cutL (pieces 10 l))∧Below w.heap.size w w':=by
 have c0:=split_any l 10 w (by omega);have hne:=pieces_ne 10 l;have hlen:(pieces 10 l).length≤65537:=by rw [pieces_len];have:=X6 (a:=(10:UInt8)) (l:=l);omega
 generalize pieces 10 l=P at*;obtain⟨Q,z,rfl⟩: ∃Q z,P=Q++ [z]:=⟨P.dropLast,P.getLast hne,(List.dropLast_concat_getLast hne).symm⟩
 have hq:(Q++ [z]).length=Q.length+1:=by simp
 rw [hq]at c0 hlen;clear hne;by_cases hz:z=[]
 ·have hC:cutL (Q++ [z])=Q:=by unfold cutL;rw [if_pos (by simp [hz]),List.dropLast_concat]
  rw [hC];go_enter func11,ntmps11;go_wp2_with(go_at_call 22;(with_reducible refine c0.mono ?_);rintro e w1 ⟨rfl,hT,hb⟩;have hc:=hT.2 Q.length z (by simp);have HT:Hid (TxAt w1 w.heap.size 0 Q):=⟨hT.1,fun j x hx=>(TxAt.of hT).2 j x (by rw [XY (Xe.1 hx).1];exact hx)⟩;rw [hz]at hc;clear hT)
  go_ret;exact⟨_,_,rfl,HT.out,hb⟩
 ·have hC:cutL (Q++ [z])=Q++ [z]:=by unfold cutL;rw [if_neg (by simp [hz])]
  rw [hC,hq];have hz':(z==[])=false:=beq_eq_false_iff_ne.2 hz;go_enter func11,ntmps11;go_wp2_with(go_at_call 22;(with_reducible refine c0.mono ?_);rintro e w1 ⟨rfl,hT,hb⟩;have hc:=hT.2 Q.length z (by simp);have HT:Hid (TxAt w1 w.heap.size 0 (Q++ [z])):=TxAt.of hT;clear hT)
  go_ret;exact⟨_,_,rfl,HT.out,hb⟩

theorem rlines_any (l:List UInt8) (w:World) (hl:l.length≤65536):Calls prog 6 #[strV l] w fun e w'=> ∃A c,e=.returned (.slice (some ⟨A,0,none⟩) (cutL (pieces 10 l)).length c)∧TxAt w' A 0 (cutL (pieces 10 l))∧Below w.heap.size w w':=by
 have c0:=rpieces_c l 10 w hl;rw [show(((10:UInt8).toNat:Nat):Int)=10 from rfl]at c0;have hne:=pieces_ne 10 l;have hlen:(pieces 10 l).length≤65537:=by rw [pieces_len];have:=X6 (a:=(10:UInt8)) (l:=l);omega
 generalize pieces 10 l=P at*;obtain⟨Q,z,rfl⟩: ∃Q z,P=Q++ [z]:=⟨P.dropLast,P.getLast hne,(List.dropLast_concat_getLast hne).symm⟩
 have hq:(Q++ [z]).length=Q.length+1:=by simp
 rw [hq]at c0 hlen;have hlen':((Q.length:Nat):Int)+1≤65537:=by omega
 clear hne;by_cases hz:z=[]
 ·have hC:cutL (Q++ [z])=Q:=by unfold cutL;rw [if_pos (by simp [hz]),List.dropLast_concat]
  rw [hC];go_enter func6,ntmps6;go_wp2_with(go_at_call 16;(with_reducible refine c0.mono ?_);rintro e w1 ⟨B,cv,hcv,rfl,hB,hT,hb⟩;have hc:w1.cell? ⟨B,Q.length,none⟩=some (strV z):=hT.2 Q.length z (by simp);have HT:Hid (TxAt w1 B 0 Q):=⟨hT.1,fun j x hx=>(TxAt.of hT).2 j x (by rw [XY (Xe.1 hx).1];exact hx)⟩;rw [hz]at hc;clear hT)
  go_ret;exact⟨_,_,rfl,HT.out,hb⟩
 ·have hC:cutL (Q++ [z])=Q++ [z]:=by unfold cutL;rw [if_neg (by simp [hz])]
  rw [hC,hq];have hz':(z==[])=false:=beq_eq_false_iff_ne.2 hz;go_enter func6,ntmps6;go_wp2_with(go_at_call 16;(with_reducible refine c0.mono ?_);rintro e w1 ⟨B,cv,hcv,rfl,hB,hT,hb⟩;have hc:w1.cell? ⟨B,Q.length,none⟩=some (strV z):=hT.2 Q.length z (by simp);have HT:Hid (TxAt w1 B 0 (Q++ [z])):=TxAt.of hT;clear hT)
  go_ret;exact⟨_,_,rfl,HT.out,hb⟩
def RwR (P:List (List UInt8)) (w1:World) (v i:Value) (wr:World):Prop:= ∃(k:Nat) (a:Option Addr) (c:Nat),k≤P.length∧v=.slice a ((P.take k).filter (· ≠ [])).length c∧i=.int .i64 k∧wr.ownsRow w1.heap.size 9 1 (.slice a ((P.take k).filter (· ≠ [])).length c) ((P.take k).filter (· ≠ [])).length (((P.take k).filter (· ≠ [])).map strV)∧Below w1.heap.size w1 wr
theorem rwords_any (l:List UInt8) (w:World) (hl:l.length≤65536):Calls prog 8 #[strV l] w fun e w'=> ∃a c,e=.returned (.slice a (wordsL l).length c)∧(∀j x,(wordsL l)[j]? =some x→ ∃g,a=some ⟨g,0,none⟩∧w'.cell? ⟨g,j,none⟩=some (strV x))∧Below w.heap.size w w':=by
 obtain⟨i0,hi,hz0,hz1,hz2⟩:=info_parts info_str;have c0:=rpieces_c l 32 w hl;rw [show(((32:UInt8).toNat:Nat):Int)=32 from rfl]at c0;have hlen:(pieces 32 l).length≤65537:=by rw [pieces_len];have:=X6 (a:=(32:UInt8)) (l:=l);omega
 have HW:Hid (wordsL l=(pieces 32 l).filter (· ≠ [])):=rfl;generalize pieces 32 l=P at*;generalize wordsL l=Q at*;go_enter func8,ntmps8;go_wp2_with(go_at_call 16;(with_reducible refine c0.mono ?_);rintro e w1 ⟨B,cv,hcv,rfl,hB,hT,hb⟩;have HT:Hid (TxAt w1 B 0 P):=TxAt.of hT;have HB:=zh hb;clear hT hb c0)
 go_loopw [3,5] (fun v i wr=>RwR P w1 v i wr) (fun _ i _=>P.length-(intOf i).toNat)
 case atStart=>exact⟨0,none,0,Xx _,rfl,rfl,XO _ _ _ _,Below.refl _ _⟩
 case round=>
  obtain⟨k,a,c,hk,rfl,rfl,ho,hbr⟩:=hrel;have hfl:((P.take k).filter (· ≠ [])).length≤k:=by
   have h1:=List.length_filter_le (fun x:List UInt8=>decide (x≠ [])) (P.take k);rw [Xt]at h1;omega
  by_cases hlt:k<P.length
  ·have hk':(k:Int)<(P.length:Int):=by omega
   obtain⟨x,hx⟩: ∃x,P[k]? =some x:=⟨_,Xz hlt⟩
   have d0:wr.cell? ⟨B,k,none⟩=some (strV x):=by have:=(HT.out.below hbr HT.out.1).2 k x hx;rwa [Xv]at this
   have HS:Hid (P.take (k+1)=P.take k++ [x]):=by unfold Hid;rw [XB,hx];rfl
   clear hx;by_cases hx0:x=[]
   ·subst hx0;have HF:Hid ((P.take (k+1)).filter (· ≠ [])=(P.take k).filter (· ≠ [])):=by unfold Hid;rw [HS.out,List.filter_append];simp
    generalize (P.take k).filter (· ≠ [])=F at*;have HR:Hid (RwR P w1 (.slice a F.length c) (.int .i64 ((k+1:Nat):Int)) wr):=⟨k+1,a,c,hlt,by rw [HF.out],rfl,by rw [HF.out];exact ho,hbr⟩
    clear ho hbr;go_wp2;go_roundw
    case rel=>exact HR.out
    case measure=>simp [intOf];omega
   ·have HF:Hid ((P.take (k+1)).filter (· ≠ [])=(P.take k).filter (· ≠ [])++ [x]):=by unfold Hid;rw [HS.out,List.filter_append];simp [hx0]
    have hxn:(x==[])=false:=beq_eq_false_iff_ne.2 hx0;generalize (P.take k).filter (· ≠ [])=F at*;have HB2:=zh hbr;have ho1:=ho.alloc (.cells #[strV x] 9);have HO:=zh ho;have hs1:=hbr.size;clear ho hbr
    go_wp2_with (at_builtin; refine wpList_append_own _ rfl _ _ 23 rfl w1.heap.size 9 i0 (.string ByteArray.empty) 1 16 underlying23 hi hz0 hz1 hz2 rfl (by decide) _ _ _ rfl ho1 ⟨wr.heap.size, 0, none⟩ 1 1 [strV x] rfl rfl (cell_1 _ _ _) (fun u hu => by simp at hu; subst hu; rfl) (by unfold maxLen; omega) (by omega) (by simp; omega) ?_; intro v' w9 hown hgrow hnil; obtain ⟨va9, vc9, rfl⟩ := own_sh hown; have HX : Hid (RwR P w1 (.slice va9 (F.length + 1) vc9) (.int .i64 ((k + 1 : Nat) : Int)) w9) := (by
      refine⟨k+1,va9,vc9,hlt,by rw [HF.out,Xg];rfl,rfl,?_,(HB2.out.alloc hs1 _).grown hgrow (by simp;omega) fun g hg=>(HO.out.lt g hg).1⟩;rw [HF.out,Xg,X2];exact hown);clear hown hgrow hnil)
    go_roundw
    case rel=>exact HX.out
    case measure=>simp [intOf];omega
  ·obtain rfl:k=P.length:=by omega
   rw [XC,←HW.out]at ho;have HO:=zh ho;have HQ:Hid (((P.take P.length).filter (· ≠ [])).length=Q.length):=by unfold Hid;rw [XC,←HW.out]
   rw [HQ.out];clear ho;go_wp2;go_ret;refine⟨a,c,rfl,fun j x hx=> ?_,(zu HB.out hbr)⟩;rcases HO.out.2 with⟨h,h0⟩|⟨g,cap,cur,h,_⟩
   ·have:=(Xe.1 hx).1;omega
   ·cases h;refine⟨g,rfl,?_⟩;rw [HO.out.cellAt j (by have:=(Xe.1 hx).1;omega),XQ,hx];rfl
