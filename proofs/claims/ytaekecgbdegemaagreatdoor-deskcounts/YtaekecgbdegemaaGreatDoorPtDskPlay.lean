/- A part. -/
import Derived.Test.YtaekecgbdegemaaGreatDoorPtDskSt
import Derived.Test.YtaekecgbdegemaaGreatDoorPtDskLines
set_option linter.all false
open Go.Proofs.Tryz
set_option maxHeartbeats 32000000
set_option maxRecDepth 8000
namespace Go.Proofs.YtaekecgbdegemaaGreatDoor
namespace Dsk
open Go.RowKit Lai Crn Pln Pie Wld Lop Lpp
variable {l x:List UInt8} {L:List (List UInt8)} {k:Nat} {rd:List UInt8→Option K}

def FF:=Nat→DS→List UInt8→List (List UInt8)→List UInt8×Option (Int×Option Int)×DS
def stp (f:FF) (n:Nat) (q:List UInt8×DS) (l:List UInt8):List UInt8×DS:=
 match wordsL l with
 | []=>q
 |x::tl=>if x.head? =some 35 then q else(q.1++(telT (f n q.2 x tl).1 (f n q.2 x tl).2.1++ [10]),(f n q.2 x tl).2.2)
def play (f:FF) (L:List (List UInt8)):Nat→List UInt8×DS
 |0=>([],⟨[],none⟩)
 |k+1=>match L[k]? with
  |none=>play f L k
  |some l=>stp f k (play f L k) l
def hasA (l:List UInt8):Bool:=match wordsL l with
 | []=>false
 |x::_=> !(x.head? ==some 35)
def FAt (f:FF) (n:Nat) (s:DS) (x:List UInt8) (tl:List (List UInt8)):Prop:=(f n s x tl).1.length≤4000000000∧ErI (f n s x tl).2.1∧DOk (f n s x tl).2.2 (n+1)∧DoIs s x tl (f n s x tl).1 (f n s x tl).2.1 (f n s x tl).2.2
def FOk (f:FF):Prop:= ∀n s x tl,n≤200→DOk s n→tl.length≤65536→(∀y∈tl,y.length≤65536)→FAt f n s x tl
theorem words_len (c:UInt8): ∀l:List UInt8,((pieces c l).filter (· ≠ [])).length≤l.length
 | []=>by simp [pieces]
 |x::r=>by
  have ih:=words_len c r
  rw [pieces_cons]
  split
  ·simp only [ne_eq,List.filter_cons,decide_not,Xr]
   simp only [ne_eq,decide_not]at ih
   simp
   omega
  ·cases h:pieces c r with
   |nil=>exact absurd h (pieces_ne c r)
   |cons a t=>
    rw [h]at ih
    rw [List.filter_cons]at ih⊢
    rw [if_pos (by simp)]
    simp only [List.headD_cons,List.tail_cons,Xr]at ih⊢
    split at ih
    ·rw [Xr]at ih;omega
    ·omega
theorem words_sub (h:x∈wordsL l):x≠ []∧x.length≤l.length:=by
 unfold wordsL at h;rw [List.mem_filter]at h;exact⟨by simpa using h.2,pieces_sub 32 l x h.1⟩
theorem play_succ {f:FF} (h:L[k]? =some l):play f L (k+1)=stp f k (play f L k) l:=by
 show(match L[k]? with|none=>_|some l=>_)=_;rw [h]
theorem dok_0:DOk ⟨[],none⟩ 0:=⟨⟨Xx _,fun _ _ _ e=>by cases e⟩,fun _ _ _ e=>by cases e⟩
theorem play_ok {f:FF} (hf:FOk f) {L:List (List UInt8)} (hL: ∀l∈L,l.length≤65536): ∀k,k≤200→DOk (play f L k).2 k∧(play f L k).1.length≤k*4000001000
 |0,_=>⟨dok_0,Xx _⟩
 |k+1,hk=>by
  obtain⟨h1,h2⟩:=play_ok hf hL k (by omega)
  rw [show(k+1)*4000001000=k*4000001000+4000001000 from Nat.succ_mul _ _]
  generalize k*4000001000=A at*
  cases hl:L[k]? with
  |none=> 
   have e:play f L (k+1)=play f L k:=by
    show(match L[k]? with|none=>_|some l=>_)=_
    rw [hl]
   rw [e]
   exact⟨h1.more,by omega⟩
  |some l=>
   rw [play_succ hl]
   have hll:=hL l (Xk hl)
   unfold stp
   cases hw:wordsL l with
   |nil=>exact⟨h1.more,by simp only;omega⟩
   |cons x tl=>
    simp only
    split
    ·exact⟨h1.more,by omega⟩
    ·have hn:(wordsL l).length≤l.length:=words_len 32 l
     rw [hw,Xr]at hn
     obtain⟨a,b,c,_⟩:=hf k _ x tl (by omega) h1 (by omega) (fun y hy=>Xc (words_sub (hw▸Xy _ hy:y∈wordsL l)).2 hll)
     refine⟨c,?_⟩
     have h3:=telT_len (f k (play f L k).2 x tl).1 _ b
     rw [Xg,Xg,Xr,XK]
     omega
theorem play_cnt (f:FF) (L:List (List UInt8)): ∀k,k≤L.length→((L.take k).filter hasA).length≤(play f L k).1.count 10∧((play f L k).1=[]∨(play f L k).1.getLast? =some 10)
 |0,_=>⟨Xx _,Or.inl rfl⟩
 |k+1,hk=>by
  obtain⟨h1,h2⟩:=play_cnt f L k (by omega)
  have h:L[k]? =some L[k]:=by simp [show k<L.length by omega]
  generalize L[k]=l at h
  rw [play_succ h,(show L.take (k+1)=L.take k++ [l] by rw [XB,h];rfl),List.filter_append,Xg]
  unfold stp
  cases hw:wordsL l with
  |nil=>
   have:hasA l=false:=by unfold hasA;rw [hw]
   exact⟨by simp [this];exact h1,h2⟩
  |cons x tl=>
   simp only
   by_cases hx:x.head? =some 35
   ·have:hasA l=false:=by unfold hasA;rw [hw];simp [hx]
    rw [if_pos hx]
    exact⟨by simp [this];exact h1,h2⟩
   ·have:hasA l=true:=by unfold hasA;rw [hw];simp [hx]
    rw [if_neg hx]
    refine⟨?_,Or.inr (by simp only [←X4];exact List.getLast?_concat)⟩
    simp only [List.count_append,List.filter_cons,this,if_true,List.filter_nil,Xr,XK]
    have:([10]:List UInt8).count 10=1:=by decide
    omega

theorem IsB.lt {B K:Nat} {xs:List UInt8} {w:World} (h:IsB B K xs w): ∀j,bb w K j→j<w.heap.size:=by
 have key: ∀p,Lib.BuilderAt 38 5 B K p (Lib.byteCells xs) w→ ∀j,bb w K j→j<w.heap.size:=by
  rintro p h j (rfl|⟨v,hv,hj⟩)
  ·exact h.lt
  ·obtain⟨_,v',h1,h2,_⟩:=h;have hv':w.cell? ⟨K,1,none⟩=some v':=by rw [Lib.cell_of_heap h1];rfl
   rw [hv]at hv';cases hv';exact(h2.lt j hj).2
 rcases h with h|h
 ·exact key _ h
 ·exact key _ h
def Both (D K:Nat) (s:DS) (t:List UInt8) (w:World):Prop:= ∃b,DAt w D s b∧IsB D K t w∧ ∀j,bb w K j→D<j∧ ¬b j
section
variable {D K : Nat} {s s' : DS} {t T a : List UInt8} {w w' : World} {er : Option (Int × Option Int)}
theorem Both.gv (h:Both D K s t w):Gv w:=by obtain⟨b,h,_⟩:=h;exact h.g.gv
theorem Both.sz (h:Both D K s t w):D≤w.heap.size:=by obtain⟨b,h,_⟩:=h;exact Xw (h.low D h.mem).2
theorem Both.below (h:Both D K s t w) (hb:Below w.heap.size w w'):Both D K s t w':=by
 obtain⟨b,h1,h2,h3⟩:=h;obtain⟨g1,g2⟩:=h2.off (Mm.Mv.of_below (b:=fun _=>False) hb) (fun _ _ e=>e);exact⟨b,h1.below hb,g1,by rw [g2];exact h3⟩
theorem Both.turn {b' b:Nat→Prop} (_:DAt w D s b) (h2:IsB D K t w) (h3: ∀j,bb w K j→D<j∧ ¬b j) (hd:DAt w' D s' b') (m:Mm.Mv b b' w w'):Both D K s' t w':=by
 obtain⟨g1,g2⟩:=h2.off m (fun k hk=>(h3 k hk).2);refine⟨b',hd,g1,fun j hj=> ?_⟩;rw [g2]at hj;exact⟨(h3 j hj).1,m.off (h2.lt j hj) (h3 j hj).2⟩
theorem both_do (h:Both D K s t w) {tl:List (List UInt8)} (hd:DoIs s x tl a er s') {A off cap:Nat} (hT:TxAt w A off (x::tl)) (h1:tl.length+1≤cap) (h2:cap≤65536):
  Calls prog 14 #[.pointer (some ⟨D,0,none⟩),.slice (some ⟨A,off,none⟩) (tl.length+1) cap] w fun e w'=>e=.returned (.tuple #[strV a,erV er])∧Both D K s' t w'∧Below D w w':=by
 obtain⟨b,g1,g2,g3⟩:=h;exact(hd D b w A off cap g1 hT h1 h2).mono fun e w' ⟨he,b',hD,m⟩=>⟨he,Both.turn g1 g2 g3 hD m,m.below (fun k hk=>(g1.low k hk).1) (Xw (g1.low D g1.mem).2)⟩
theorem both_write (h:Both D K s t w) (hl:t.length+T.length≤140737488355328):
  Calls prog 13 #[.pointer (some ⟨K,0,none⟩),strV T] w fun e w'=>e=.returned (.tuple #[.int .i64 T.length,.nilIface])∧Both D K s (t++T) w'∧Below D w w':=by
 obtain⟨b,g1,g2,g3⟩:=h;refine(write_any D K t T w g2 hl (Xw (g1.low D g1.mem).2)).mono fun e w' ⟨he,hi,m⟩=>⟨he,⟨b,g1.off m g3,hi,fun j hj=> ?_⟩,m.below (fun k hk=>Xw (g3 k hk).1) (Xw (g1.low D g1.mem).2)⟩
 rcases m.loc j hj with h|h
 ·exact g3 j h
 ·exact⟨Xb (g1.low D g1.mem).2 h,fun e=>by have:=(g1.low j e).2;omega⟩
theorem both_end (h:Both D K s t w):
  Calls prog 15 #[.pointer (some ⟨K,0,none⟩)] w fun e w'=>e=.returned (strV t)∧Below D w w':=by
 have hz:=h.sz;obtain⟨b,g1,g2,g3⟩:=h;exact Builder_String_any D K t w g2 hz
theorem both_new {w1:World} (hG:Gv w1):Both w1.heap.size (w1.heap.size+1) ⟨[],none⟩ [] ((w1.alloc (.cells #[strV [],.pointer none] 34)).alloc (.cells #[.pointer none,.slice none 0 0] 38)):=by
 have hb:Below w1.heap.size w1 ((w1.alloc (.cells #[strV [],.pointer none] 34)).alloc (.cells #[.pointer none,.slice none 0 0] 38)):=(balloc _ _).alloc (by simp) _;have hz:(w1.alloc (.cells #[strV [],.pointer none] 34)).heap.size=w1.heap.size+1:=by simp
 refine⟨(· =w1.heap.size),⟨cell_al (by simp) _,fun j=>by simp,⟨w1,hG,Xa _,hb⟩,⟨cell_al (by simp) _,rfl⟩⟩,Or.inl ⟨by omega,.slice none 0 0,by rw [←hz];exact heap_alloc_new _ _,XO _ _ _ _,by simp [Value.ownBlock]⟩,?_⟩;rintro j (rfl|⟨v,hv,hj⟩)
 ·exact⟨by omega,by omega⟩
 ·have e:((w1.alloc (.cells #[strV [],.pointer none] 34)).alloc (.cells #[.pointer none,.slice none 0 0] 38)).cell? ⟨w1.heap.size+1,1,none⟩=some (.slice none 0 0):=by rw [←hz];simp
  rw [e]at hv;cases hv;cases hj
end
theorem hash_is (x:List UInt8):(decide (([35]:List UInt8).length≤x.length)&&(x.take ([35]:List UInt8).length==[35]))=(x.head? ==some 35):=by
 cases x with
 |nil=>rfl
 |cons c r=>simp
theorem err2:telT [] (some (2,none))++ [10]=[101,114,114,111,114,32,50,10]:=by kernel_rfl
def runO (f:FF) (l:List UInt8):List UInt8:=if 65536<l.length∨200<(cutL (pieces 10 l)).length then [101,114,114,111,114,32,50,10]else(play f (cutL (pieces 10 l)) (cutL (pieces 10 l)).length).1
theorem cut_sub (h:x∈cutL (pieces 10 l)):x.length≤l.length:=by
 unfold cutL at h;split at h
 ·exact pieces_sub 10 l x (List.dropLast_subset _ h)
 ·exact pieces_sub 10 l x h
def RuR (f:FF) (L:List (List UInt8)) (w1:World) (K:Nat) (i:Value) (wr:World):Prop:= ∃k:Nat,k≤L.length∧i=.int .i64 k∧Both w1.heap.size K (play f L k).2 (play f L k).1 wr∧Below w1.heap.size w1 wr
theorem run_any {f:FF} (hf:FOk f) (l:List UInt8) (w:World) (hG:Gv w) (hl:l.length≤9223372036854775807):
  CB 5 #[strV l] w (strV (runO f l)):=by
 have HE:Hid (∀w1,Below w.heap.size w w1→CB 10 #[.string ⟨#[]⟩,.iface 31 (.agg #[.int .i64 2])] w1 (strV [101,114,114,111,114,32,50,10])):=fun w1 hb=>by
  have h:=tell_any [] (some (2,none)) ⟨by decide,by decide⟩ (by decide) w1 (hG.below hb).e (hG.below hb).g.p;rw [err2]at h;exact h
 have hsz:(⟨l.toArray⟩:ByteArray).size=l.length:=rfl;by_cases hl1:65536<l.length
 ·have hO:runO f l=[101,114,114,111,114,32,50,10]:=if_pos (Or.inl hl1);rw [hO];have cE:=HE.out w (Below.refl _ _);go_enter func5,ntmps5;go_wp2_with(go_at_call 10;(with_reducible refine zg cE fun w1 hb=>?_))
  go_ret;exact⟨rfl,hb⟩
 ·have c0:=lines_any l w (by omega);have hlen: ∀x∈cutL (pieces 10 l),x.length≤65536:=fun x hx=>Xc (cut_sub hx) (by omega);have hcn:(cutL (pieces 10 l)).length≤65537:=by
   have h1:(cutL (pieces 10 l)).length≤(pieces 10 l).length:=by
    unfold cutL;split
    ·rw [List.length_dropLast];omega
    ·exact Xa _
   rw [pieces_len]at h1;have:=X6 (a:=(10:UInt8)) (l:=l);omega
  have hO:Hid (runO f l=if 200<(cutL (pieces 10 l)).length then [101,114,114,111,114,32,50,10]else(play f (cutL (pieces 10 l)) (cutL (pieces 10 l)).length).1):=by
   show _=_;unfold runO;by_cases h:200<(cutL (pieces 10 l)).length
   ·rw [if_pos (Or.inr h),if_pos h]
   ·rw [if_neg (by omega),if_neg h]
  generalize runO f l=O at*;generalize cutL (pieces 10 l)=L at*;have hl1': ¬(65536:Int)<(l.length:Int):=by omega
  by_cases hL:200<L.length
  ·have HO:Hid (O=[101,114,114,111,114,32,50,10]):=by rw [hO.out];exact if_pos hL
   have hL':(200:Int)<(L.length:Int):=by omega
   go_enter func5,ntmps5
   go_wp2_with (first
    |(go_at_call 11;(with_reducible refine c0.mono ?_);rintro e w1 ⟨A,c,rfl,hT,hb⟩;have c2:=HE.out w1 hb)
    |(go_at_call 10;(with_reducible refine zg c2 fun w2 hb2=>?_)))
   go_ret;rw [HO.out];exact⟨rfl,(zu hb hb2)⟩
  ·have HO:Hid (O=(play f L L.length).1):=by rw [hO.out];exact if_neg hL
   have hL': ¬(200:Int)<(L.length:Int):=by omega
   have HL:=zh hlen;have HP:Hid (∀k,k≤200→DOk (play f L k).2 k∧(play f L k).1.length≤k*4000001000):=play_ok hf hlen;clear HE hO hlen;go_enter func5,ntmps5;go_wp2_with(go_at_call 11;(with_reducible refine c0.mono ?_);rintro e w1 ⟨A,c,rfl,hT,hb⟩;have HB:=zh hb;have HT:=zh hT;have HG:Hid (Gv w1):=hG.below hb;clear hT hb c0)
   have hN:=both_new HG.out;have HN:=zh hN;clear hN;go_loopw [25] (fun i wr=>RuR f L w1 (w1.heap.size+1) i wr) (fun i _=>L.length-(intOf i).toNat)
   case atStart=>exact⟨0,Xx _,rfl,HN.out,(balloc _ _).alloc (by simp) _⟩
   case round=>
    obtain⟨k,hk,rfl,hD,hbr⟩:=hrel;have HD:Hid (Both w1.heap.size (w1.heap.size+1) (play f L k).2 (play f L k).1 wr∧Below w1.heap.size w1 wr):=⟨hD,hbr⟩
    obtain⟨hok,hlen⟩:=HP.out k (by omega);by_cases hlt:k<L.length
    ·have hk':(k:Int)<(L.length:Int):=(by omega);obtain⟨x,hx⟩: ∃x,L[k]? =some x:=⟨_,Xz hlt⟩
     have hxl:=HL.out x (Xk hx);have d0:wr.cell? ⟨A,k,none⟩=some (strV x):=by have:=(HT.out.below hbr HT.out.1).2 k x hx;rwa [Xv]at this
     have HS:Hid (play f L (k+1)=stp f k (play f L k) x):=play_succ hx;have HX:Hid (∀w2,Both w1.heap.size (w1.heap.size+1) (stp f k (play f L k) x).2 (stp f k (play f L k) x).1 w2→Below w1.heap.size w1 w2→RuR f L w1 (w1.heap.size+1) (.int .i64 ((k+1:Nat):Int)) w2):=fun w2 h b=>⟨k+1,hlt,rfl,by rw [HS.out];exact h,b⟩
     have cW:=words_any x wr hxl;have hwl:(wordsL x).length≤x.length:=words_len 32 x;have hws: ∀y∈wordsL x,y.length≤65536:=fun y hy=>Xc (words_sub hy).2 hxl;clear hx hD hbr HS HL;cases hw:wordsL x with
     |nil=>
      rw [hw]at cW;have HZ:Hid (stp f k (play f L k) x=play f L k):=by unfold Hid stp;rw [hw]
      clear hwl hws hok hlen;generalize stp f k (play f L k) x=Z at*;generalize play f L k=q at*;go_wp2_with(go_at_call 12;(with_reducible refine cW.mono ?_);rintro e w2 ⟨A2,rfl,hT2,hb2⟩;have HE:=HX.out w2 (by rw [HZ.out];exact HD.out.1.below hb2) (HD.out.2.trans (hb2.mono HD.out.1.sz));have HE:=zh HE;clear hb2 hT2 cW HX)
      go_roundw
      case rel=>exact HE.out
      case measure=>simp [intOf];omega
     |cons y tl=>
      rw [hw]at cW hwl hws;simp only [Xr]at cW hwl;have hyl:y.length≤9223372036854775807:=by have:=hws y (XF ..);omega
      have hn0: ¬((tl.length:Int)+1=0):=(by omega);have hn1:(0:Int)<(tl.length:Int)+1:=(by omega);by_cases h35:y.head? =some 35
      ·have HZ:Hid (stp f k (play f L k) x=play f L k):=by unfold Hid stp;rw [hw];simp only [h35,if_true]
       have HP2:Hid (∀w2,CS 7 #[strV y,strV [35]] w2 (.bool true)):=fun w2=>by
        have h:=pre_any y [35] w2 hyl (by decide);rw [hash_is,h35]at h;exact h
       clear hwl hws hok hlen hyl;generalize stp f k (play f L k) x=Z at*;generalize play f L k=q at*
       go_wp2_with (first
        |(go_at_call 12;(with_reducible refine cW.mono ?_);rintro e w2 ⟨A2,rfl,hT2,hb2⟩;have HE:=HX.out w2 (by rw [HZ.out];exact HD.out.1.below hb2) (HD.out.2.trans (hb2.mono HD.out.1.sz));have HE:=zh HE;have z0:=hT2.2 0 y rfl;rw [XD]at z0;clear hb2 hT2 cW HX)
        |(go_at_call 7;(with_reducible refine zq (HP2.out _) ?_)))
       go_roundw
       case rel=>exact HE.out
       case measure=>simp [intOf];omega
      ·obtain⟨ha,hE,hDk,hDo⟩:=hf k (play f L k).2 y tl (by omega) hok (by omega) (fun z hz=>hws z (Xy _ hz));have HZ:Hid (stp f k (play f L k) x=((play f L k).1++(telT (f k (play f L k).2 y tl).1 (f k (play f L k).2 y tl).2.1++ [10]),(f k (play f L k).2 y tl).2.2)):=by unfold Hid stp;rw [hw];simp only [if_neg h35]
       have HP2:Hid (∀w2,CS 7 #[strV y,strV [35]] w2 (.bool false)):=fun w2=>by
        have h:=pre_any y [35] w2 hyl (by decide);rw [hash_is,beq_eq_false_iff_ne.2 h35]at h;exact h
       have htl:=telT_len (f k (play f L k).2 y tl).1 _ hE;have HT2:Hid (∀w2,Gv w2→CB 10 #[strV (f k (play f L k).2 y tl).1,erV (f k (play f L k).2 y tl).2.1] w2 (strV (telT (f k (play f L k).2 y tl).1 (f k (play f L k).2 y tl).2.1++ [10]))):=fun w2 hg=>tell_any _ _ hE ha w2 hg.e hg.g.p;have HTl:Hid ((play f L k).1.length+(telT (f k (play f L k).2 y tl).1 (f k (play f L k).2 y tl).2.1++ [10]).length≤140737488355328):=by
        unfold Hid;rw [Xg,Xr,XK];omega
       have hcap:tl.length+1≤65536:=(by omega);clear hwl hws hok hlen hyl htl hE hDk ha;generalize telT (f k (play f L k).2 y tl).1 (f k (play f L k).2 y tl).2.1++ [10]=T at*;generalize (f k (play f L k).2 y tl).2.2=s2 at*;generalize (f k (play f L k).2 y tl).2.1=er at*;generalize (f k (play f L k).2 y tl).1=a at*;generalize stp f k (play f L k) x=Z at*;generalize play f L k=q at*;have HDo:=zh hDo;have HC:=zh hcap;clear hDo hcap;obtain⟨rfl⟩:Z=(q.1++T,s2):=HZ.out;clear HZ
       go_wp2_with (first
        |(go_at_call 12;(with_reducible refine cW.mono ?_);rintro e w2 ⟨A2,rfl,hT2,hb2⟩;have h2:=HD.out.1.below hb2;have cD:=both_do h2 HDo.out hT2 (Xa _) HC.out;have HB2:Hid (Below w1.heap.size w1 w2):=HD.out.2.trans (hb2.mono HD.out.1.sz);have z0:=hT2.2 0 y rfl;rw [XD]at z0;clear hb2 hT2 cW h2)
        |(go_at_call 7;(with_reducible refine zq (HP2.out _) ?_))
        |(go_at_call 14;(with_reducible refine cD.mono ?_);rintro e w3 ⟨rfl,h3,hb3⟩;have HB3:Hid (Below w1.heap.size w1 w3∧Both w1.heap.size (w1.heap.size+1) s2 q.1 w3):=⟨HB2.out.trans hb3,h3⟩;clear h3 hb3 cD;have cT:=HT2.out w3 HB3.out.2.gv)
        |(go_at_call 10;(with_reducible refine zg cT fun w4 hb4=>?_);have h4:=HB3.out.2.below hb4;have HB4:Hid (Below w1.heap.size w1 w4):=HB3.out.1.trans (hb4.mono HB3.out.2.sz);have cS:=both_write h4 HTl.out;clear cT hb4 h4)
        |(go_at_call 13;(with_reducible refine cS.mono ?_);rintro e w5 ⟨rfl,h5,hb5⟩;have HE:=HX.out w5 h5 (HB4.out.trans hb5);have HE:=zh HE;clear cS h5 hb5 HX))
       go_roundw
       case rel=>exact HE.out
       case measure=>simp [intOf];omega
    ·obtain rfl:k=L.length:=by omega
     have cS:=both_end HD.out.1;clear hD hbr hok hlen;generalize play f L L.length=q at*;go_wp2_with(go_at_call 15;(with_reducible refine zg cS fun w2 hb2=>?_))
     go_ret;rw [HO.out];exact⟨rfl,HB.out.trans ((HD.out.2.trans hb2).mono HB.out.size)⟩

abbrev An:=List UInt8×Option (Int×Option Int)×DS
def AnOk (n:Nat) (s:DS) (x:List UInt8) (tl:List (List UInt8)) (y:An):Prop:=y.1.length≤4000000000∧ErI y.2.1∧DOk y.2.2 (n+1)∧DoIs s x tl y.1 y.2.1 y.2.2
theorem ex_f (hrd:RdOk rd) (P:Nat→DS→List UInt8→List (List UInt8)→An→Prop) (hP: ∀n s x tl y,P n s x tl y→n≤200→DOk s n→AnOk n s x tl y):
  ∃f:FF,FOk f∧ ∀n s x tl,(∃y,P n s x tl y)→P n s x tl (f n s x tl):=by
 have H: ∀n s x tl,∃y:An,((∃y,P n s x tl y)→P n s x tl y)∧(n≤200→DOk s n→tl.length≤65536→(∀z∈tl,z.length≤65536)→AnOk n s x tl y):=by
  intro n s x tl;by_cases h: ∃y,P n s x tl y
  ·obtain⟨y,hy⟩:=h;exact⟨y,fun _=>hy,fun h1 h2 _ _=>hP n s x tl y hy h1 h2⟩
  ·by_cases h2:n≤200∧DOk s n∧tl.length≤65536∧ ∀z∈tl,z.length≤65536
   ·obtain⟨a,er,s',h3⟩:=do_ex hrd s n h2.1 h2.2.1 x tl h2.2.2.1 h2.2.2.2;exact⟨(a,er,s'),fun e=>absurd e h,fun _ _ _ _=>h3⟩
   ·exact⟨([],none,s),fun e=>absurd e h,fun a b c d=>absurd ⟨a,b,c,d⟩ h2⟩
 exact⟨fun n s x tl=>Classical.choose (H n s x tl),fun n s x tl a b c d=>(Classical.choose_spec (H n s x tl)).2 a b c d,fun n s x tl=>(Classical.choose_spec (H n s x tl)).1⟩
theorem an_7 (n:Nat) (x:List UInt8) (tl:List (List UInt8)) (ns:List Int) (more:List (List UInt8)) (hR:readC (cmdC x) tl=some (ns,more)) (hC:neC (cmdC x)=true) (hk: ∀z∈tl,z.length≤65536) (s:DS) (hs:s.w=none) (h:DOk s n):AnOk n s x tl ([],some (7,none),s):=
 ⟨by simp,⟨by decide,by decide⟩,h.more,fun D b w A off cap h hT h1 h2=>do_yes D s b w h x tl A off cap hT ⟨h1,h2⟩ hk ns more hR [] (some (7,none)) s (fun _ _=>⟨rfl,rfl,rfl⟩) (fun h=>absurd hs (h hC))⟩

def hi1:List UInt8:=[35,10,10,116,105,99,107,32,49]
def tick:List UInt8:=[116,105,99,107]
theorem f_tick (hrd:RdOk rd): ∃f:FF,FOk f∧runO f hi1=[101,114,114,111,114,32,55,10]:=by
 obtain ⟨f, hf, h⟩ := ex_f hrd (fun n s x tl y => s = ⟨[], none⟩ ∧ x = tick ∧ tl = [[49]] ∧ y = ([], some (7, none), s)) (fun n s x tl y ⟨h1, h2, h3, h4⟩ _ hI => by
  subst h1 h2 h3 h4;exact an_7 n tick [[49]] [1] [] (by kernel_rfl) (by kernel_rfl) (fun z hz=>by simp at hz;subst hz;decide) _ rfl hI)
 refine⟨f,hf,?_⟩;have h2:=(h 2 ⟨[],none⟩ tick [[49]] ⟨_,rfl,rfl,rfl,rfl⟩).2.2.2;have e1:cutL (pieces 10 hi1)=[[35],[],tick++ [32,49]]:=by kernel_rfl
 have w0:wordsL [35]=[[35]]:=by kernel_rfl
 have w1:wordsL []=[]:=by kernel_rfl
 have w2:wordsL (tick++ [32,49])=[tick,[49]]:=by kernel_rfl
 unfold runO;rw [e1,if_neg (by decide)];show(stp f 2 (stp f 1 (stp f 0 ([],⟨[],none⟩) [35]) []) (tick++ [32,49])).1=_;unfold stp;rw [w0,w1,w2];simp only [List.head?_cons,if_true];rw [if_neg (by decide),h2];kernel_rfl
def cnA (L:List (List UInt8)) (k:Nat):Nat:=((L.take k).filter hasA).length
theorem cnA_le (L:List (List UInt8)) (k:Nat):cnA L k≤k:=by
 unfold cnA;have h1:=List.length_filter_le hasA (L.take k);rw [Xt]at h1;omega
theorem cnA_succ (h:L[k]? =some x):cnA L (k+1)=cnA L k+if hasA x=true then 1 else 0:=by
 unfold cnA;rw [show L.take (k+1)=L.take k++ [x] by rw [XB,h];rfl,List.filter_append,Xg];congr 1;by_cases e:hasA x=true
 ·simp [e]
 ·simp [e]
def CoR (L:List (List UInt8)) (w2:World) (v i:Value) (wr:World):Prop:= ∃k:Nat,k≤L.length∧v=.int .i64 (cnA L k:Nat)∧i=.int .i64 k∧Below w2.heap.size w2 wr
theorem counts_go {f:FF} (hf:FOk f) (h0:runO f hi1=[101,114,114,111,114,32,55,10]) (l:List UInt8) (w:World) (hG:Gv w) (hl:l.length≤9223372036854775807):
  CB 4 #[strV l] w (.bool true):=by
 have c1:CB 5 #[.string ⟨#[35,10,10,116,105,99,107,32,49]⟩] w (.string ⟨#[101,114,114,111,114,32,55,10]⟩):=by
  have h:=run_any hf hi1 w hG (by decide);rw [h0]at h;exact h
 have HR:Hid (∀w1,Below w.heap.size w w1→CB 5 #[strV l] w1 (strV (runO f l))):=fun w1 hb=>run_any hf l w1 (hG.below hb) hl;have hsz:(⟨l.toArray⟩:ByteArray).size=l.length:=rfl;by_cases hl1:65536<l.length
 ·have hO:runO f l=[101,114,114,111,114,32,50,10]:=if_pos (Or.inl hl1);rw [hO]at HR;have hl1':(65536:Int)<(l.length:Int):=by omega
  go_enter func4,ntmps4
  go_wp2_with (first
   |(go_at_call 5;(with_reducible refine zg c1 fun w1 hb=>?_);have c2:=HR.out w1 hb;clear c1)
   |(go_at_call 5;(with_reducible refine zg c2 fun w2 hb2=>?_)))
  go_ret;exact⟨rfl,(zu hb hb2)⟩
 ·have hl1': ¬(65536:Int)<(l.length:Int):=by omega
  have HQ:Hid (∀w,Calls prog 6 #[strV l] w fun e w'=> ∃A c,e=.returned (.slice (some ⟨A,0,none⟩) (cutL (pieces 10 l)).length c)∧TxAt w' A 0 (cutL (pieces 10 l))∧Below w.heap.size w w'):=fun w=>rlines_any l w (by omega);have hlen: ∀x∈cutL (pieces 10 l),x.length≤65536:=fun x hx=>Xc (cut_sub hx) (by omega);have hcn:(cutL (pieces 10 l)).length≤65537:=by
   have h1:(cutL (pieces 10 l)).length≤(pieces 10 l).length:=by
    unfold cutL;split
    ·rw [List.length_dropLast];omega
    ·exact Xa _
   rw [pieces_len]at h1;have:=X6 (a:=(10:UInt8)) (l:=l);omega
  have hO:Hid (runO f l=if 200<(cutL (pieces 10 l)).length then [101,114,114,111,114,32,50,10]else(play f (cutL (pieces 10 l)) (cutL (pieces 10 l)).length).1):=by
   show _=_;unfold runO;by_cases h:200<(cutL (pieces 10 l)).length
   ·rw [if_pos (Or.inr h),if_pos h]
   ·rw [if_neg (by omega),if_neg h]
  generalize runO f l=O at*;generalize cutL (pieces 10 l)=L at*;by_cases hL:200<L.length
  ·have hO2:O=[101,114,114,111,114,32,50,10]:=by rw [hO.out];exact if_pos hL
   subst hO2;have hL':(200:Int)<(L.length:Int):=by omega
   clear hO hlen;go_enter func4,ntmps4
   go_wp2_with (first
    |(go_at_call 5;(with_reducible refine zg c1 fun w1 hb=>?_);have c2:=HR.out w1 hb;clear c1)
    |(go_at_call 5;(with_reducible refine zg c2 fun w2 hb2=>?_);have c3:=HQ.out w2;have HB2:Hid (Below w.heap.size w w2):=(zu hb hb2))
    |(go_at_call 6;(with_reducible refine c3.mono ?_);rintro e w3 ⟨A,c,rfl,hT,hb3⟩;clear c3))
   go_ret;exact⟨rfl,(zu HB2.out hb3)⟩
  ·have hL': ¬(200:Int)<(L.length:Int):=by omega
   have hO2:O=(play f L L.length).1:=by rw [hO.out];exact if_neg hL
   obtain⟨hc1,hc2⟩:=play_cnt f L L.length (Xa _);have hOl:=(play_ok hf hlen L.length (by omega)).2;rw [←hO2]at hc1 hc2 hOl;have HC:Hid (cnA L L.length≤O.count 10):=hc1;have HO:Hid (O.length≤1000000000000):=Xc hOl (by have:L.length*4000001000≤200*4000001000:=Yu _ (by omega);omega);have HL:Hid (∀x∈L,x.length≤65536):=hlen;clear hO2 hO hc1 hOl hlen hf;have cN: ∀w,CS 9 #[strV O,.string ⟨#[10]⟩] w (.int .i64 (O.count 10:Nat)):=fun w=>strings_Count_one ⟨O.toArray⟩ 10 w;have hd1:decide ((65536:Int)<(l.length:Int))=false:=decide_eq_false hl1';have hd2:decide ((200:Int)<(L.length:Int))=false:=decide_eq_false hL';go_enter func4,ntmps4
   go_wp2_with (first
    |(go_at_call 5;(with_reducible refine zg c1 fun w1 hb=>?_);have c2:=HR.out w1 hb;clear c1)
    |(go_at_call 5;(with_reducible refine zg c2 fun w2 hb2=>?_);have c3:=HQ.out w2;have HB2:Hid (Below w.heap.size w w2):=(zu hb hb2);clear c2 hb hb2)
    |(go_at_call 6;(with_reducible refine c3.mono ?_);rintro e w3 ⟨A3,k3,rfl,hT3,hb3⟩;clear c3;have c4:=HQ.out w3;have HB3:Hid (Below w.heap.size w w3):=(zu HB2.out hb3);clear hb3 hT3)
    |(go_at_call 6;(with_reducible refine c4.mono ?_);rintro e w4 ⟨A,c,rfl,hT,hb4⟩;clear c4;have HB4:Hid (Below w.heap.size w w4):=(zu HB3.out hb4);have HT:Hid (TxAt w4 A 0 L):=hT;clear hb4 hT))
   go_loopw [4,26] (fun v i wr=>CoR L w4 v i wr) (fun _ i _=>L.length-(intOf i).toNat)
   case atStart=>exact⟨0,Xx _,rfl,rfl,Below.refl _ _⟩
   case round=>
    obtain⟨k,hk,rfl,rfl,hbr⟩:=hrel;have hck:=cnA_le L k;by_cases hlt:k<L.length
    ·have hk':(k:Int)<(L.length:Int):=(by omega);obtain⟨x,hx⟩: ∃x,L[k]? =some x:=⟨_,Xz hlt⟩
     have d0:wr.cell? ⟨A,k,none⟩=some (strV x):=by have:=(HT.out.below hbr HT.out.1).2 k x hx;rwa [Xv]at this
     have cW:=rwords_any x wr (HL.out x (Xk hx));have hS:=cnA_succ hx;have HB:Hid (Below w4.heap.size w4 wr):=hbr;cases hw:wordsL x with
     |nil=>
      rw [hw]at cW;rw [show hasA x=false by unfold hasA;rw [hw]]at hS;have HX:Hid (∀w2,Below wr.heap.size wr w2→CoR L w4 (.int .i64 (cnA L k:Nat)) (.int .i64 ((k+1:Nat):Int)) w2):=fun w2 hb=>⟨k+1,hlt,by rw [hS];rfl,rfl,(zu HB.out hb)⟩
      clear hx hS hbr;generalize cnA L k=N at*;go_wp2_with(go_at_call 8;(with_reducible refine cW.mono ?_);rintro e w5 ⟨a,c5,rfl,hc5,hb5⟩;have HE:=HX.out w5 hb5;have HE:Hid (CoR L w4 (.int .i64 (N:Nat)) (.int .i64 ((k+1:Nat):Int)) w5):=HE;clear hb5 HX hc5)
      go_roundw
      case rel=>exact HE.out
      case measure=>simp [intOf];omega
     |cons y tl=>
      obtain⟨hy0,_⟩:=words_sub (hw▸XF .. :y∈wordsL x);rw [hw]at cW;simp only [Xr]at cW;have hn1:(0:Int)<(tl.length:Int)+1:=(by omega);match y,hy0 with
      |b::r,_=>
       have hyb:((⟨(b::r).toArray⟩:ByteArray)[0]'(by show 0<(b::r).length;simp))=b:=rfl;have hys:(⟨(b::r).toArray⟩:ByteArray).size=r.length+1:=rfl;have hrl:(0:Int)<(r.length:Int)+1:=(by omega);by_cases hb:b=35
       ·have hbk:((b.toNat:Int) !=35)=false:=by subst hb;rfl
        rw [show hasA x=false by unfold hasA;rw [hw];simp [hb]]at hS;have HX:Hid (∀w2,Below wr.heap.size wr w2→CoR L w4 (.int .i64 (cnA L k:Nat)) (.int .i64 ((k+1:Nat):Int)) w2):=fun w2 hb=>⟨k+1,hlt,by rw [hS];rfl,rfl,(zu HB.out hb)⟩
        clear hx hS hbr;generalize cnA L k=N at*;go_wp2_with(go_at_call 8;(with_reducible refine cW.mono ?_);rintro e w5 ⟨a,c5,rfl,hc5,hb5⟩;obtain⟨g5,rfl,d5⟩:=hc5 0 (b::r) rfl;have HE:=HX.out w5 hb5;have HE:Hid (CoR L w4 (.int .i64 (N:Nat)) (.int .i64 ((k+1:Nat):Int)) w5):=HE;clear hb5 HX hc5)
        go_roundw
        case rel=>exact HE.out
        case measure=>simp [intOf];omega
       ·have hbk:((b.toNat:Int) !=35)=true:=by
         rw [bne_iff_ne];intro h;exact hb (UInt8.toNat_inj.1 (show b.toNat=35 by omega))
        rw [show hasA x=true by unfold hasA;rw [hw];simp [hb]]at hS;have HX:Hid (∀w2,Below wr.heap.size wr w2→CoR L w4 (.int .i64 ((cnA L k:Nat)+1)) (.int .i64 ((k+1:Nat):Int)) w2):=fun w2 hb=>⟨k+1,hlt,by rw [hS];rfl,rfl,(zu HB.out hb)⟩
        clear hx hS hbr;generalize cnA L k=N at*;go_wp2_with(go_at_call 8;(with_reducible refine cW.mono ?_);rintro e w5 ⟨a,c5,rfl,hc5,hb5⟩;obtain⟨g5,rfl,d5⟩:=hc5 0 (b::r) rfl;have HE:=HX.out w5 hb5;have HE:Hid (CoR L w4 (.int .i64 ((N:Nat)+1)) (.int .i64 ((k+1:Nat):Int)) w5):=HE;clear hb5 HX hc5)
        go_roundw
        case rel=>exact HE.out
        case measure=>simp [intOf];omega
    ·obtain rfl:k=L.length:=by omega
     have hcO:((cnA L L.length:Nat):Int)≤(O.count 10:Nat):=by have:=HC.out;omega
     have HB:Hid (Below w4.heap.size w4 wr):=hbr;clear hbr hck;generalize cnA L L.length=N at*;generalize O.count 10=M at*;rcases hc2 with h|h
     ·subst h;go_wp2_with(go_at_call 9;(with_reducible refine zq (cN _) ?_))
      go_ret;exact⟨rfl,(zu HB4.out HB.out)⟩
     ·obtain⟨T,rfl⟩: ∃T,O=T++ [10]:=List.getLast?_eq_some_iff.1 h;have hO0:(T++ [10]==[])=false:=(by simp);have hOs:(⟨(T++ [10]).toArray⟩:ByteArray).size=T.length+1:=by show(T++ [10]).toArray.size=_;simp
      have hOt:((⟨(T++ [10]).toArray⟩:ByteArray)[T.length]'(by rw [hOs];omega))=10:=by
       show(T++ [10])[T.length]=10;simp
      have hTl:(T.length:Int)≤1000000000000:=by have:=HO.out;rw [Xg]at this;omega
      go_wp2_with(go_at_call 9;(with_reducible refine zq (cN _) ?_))
      go_ret;exact⟨rfl,(zu HB4.out HB.out)⟩
