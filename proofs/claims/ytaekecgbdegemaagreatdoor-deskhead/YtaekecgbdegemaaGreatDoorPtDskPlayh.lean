/- A part. -/
import Derived.Test.YtaekecgbdegemaaGreatDoorPtDskSt
import Derived.Test.YtaekecgbdegemaaGreatDoorPtDskLinesh
set_option linter.all false
open Go.Proofs.Tryz
set_option maxHeartbeats 32000000
set_option maxRecDepth 8000
namespace Go.Proofs.YtaekecgbdegemaaGreatDoor
namespace Dsk
open Go.RowKit Lai Crn Pln Pie Wld Lop Lpp
variable {l x:List UInt8}

def FF:=Nat→DS→List UInt8→List (List UInt8)→List UInt8×Option (Int×Option Int)×DS
def stp (f:FF) (n:Nat) (q:List UInt8×DS) (l:List UInt8):List UInt8×DS:=
 match wordsL l with
 | []=>q
 |x::tl=>if x.head? =some 35 then q else(q.1++(telT (f n q.2 x tl).1 (f n q.2 x tl).2.1++ [10]),(f n q.2 x tl).2.2)
def play (f:FF) (L:List (List UInt8)):Nat→List UInt8×DS
 |0=>([],⟨[],none⟩)
 |k+1=>match L[k]? with
  |none=>play f L k
  |some l=>stp f k (play f L k) l
def FAt (f:FF) (n:Nat) (s:DS) (x:List UInt8) (tl:List (List UInt8)):Prop:=(f n s x tl).1.length≤4000000000∧ErI (f n s x tl).2.1∧DOk (f n s x tl).2.2 (n+1)∧DoIs s x tl (f n s x tl).1 (f n s x tl).2.1 (f n s x tl).2.2
def FOk (f:FF):Prop:= ∀n s x tl,n≤200→DOk s n→tl.length≤65536→(∀y∈tl,y.length≤65536)→FAt f n s x tl
theorem words_len (c:UInt8): ∀l:List UInt8,((pieces c l).filter (· ≠ [])).length≤l.length
 | []=>by simp [pieces]
 |x::r=>by
  have ih:=words_len c r
  rw [pieces_cons]
  split
  ·simp only [ne_eq,List.filter_cons,decide_not,Xr]
   simp only [ne_eq,decide_not]at ih
   simp
   omega
  ·cases h:pieces c r with
   |nil=>exact absurd h (pieces_ne c r)
   |cons a t=>
    rw [h]at ih
    rw [List.filter_cons]at ih⊢
    rw [if_pos (by simp)]
    simp only [List.headD_cons,List.tail_cons,Xr]at ih⊢
    split at ih
    ·rw [Xr]at ih;omega
    ·omega
theorem words_sub (h:x∈wordsL l):x≠ []∧x.length≤l.length:=by
 unfold wordsL at h;rw [List.mem_filter]at h;exact⟨by simpa using h.2,pieces_sub 32 l x h.1⟩
theorem play_succ {f:FF} {L:List (List UInt8)} {k:Nat} (h:L[k]? =some l):play f L (k+1)=stp f k (play f L k) l:=by
 show(match L[k]? with|none=>_|some l=>_)=_;rw [h]
theorem dok_0:DOk ⟨[],none⟩ 0:=⟨⟨Xx _,fun _ _ _ e=>by cases e⟩,fun _ _ _ e=>by cases e⟩
theorem play_ok {f:FF} (hf:FOk f) {L:List (List UInt8)} (hL: ∀l∈L,l.length≤65536): ∀k,k≤200→DOk (play f L k).2 k∧(play f L k).1.length≤k*4000001000
 |0,_=>⟨dok_0,Xx _⟩
 |k+1,hk=>by
  obtain⟨h1,h2⟩:=play_ok hf hL k (by omega)
  rw [show(k+1)*4000001000=k*4000001000+4000001000 from Nat.succ_mul _ _]
  generalize k*4000001000=A at*
  cases hl:L[k]? with
  |none=> 
   have e:play f L (k+1)=play f L k:=by
    show(match L[k]? with|none=>_|some l=>_)=_
    rw [hl]
   rw [e]
   exact⟨h1.more,by omega⟩
  |some l=>
   rw [play_succ hl]
   have hll:=hL l (Xk hl)
   unfold stp
   cases hw:wordsL l with
   |nil=>exact⟨h1.more,by simp only;omega⟩
   |cons x tl=>
    simp only
    split
    ·exact⟨h1.more,by omega⟩
    ·have hn:(wordsL l).length≤l.length:=words_len 32 l
     rw [hw,Xr]at hn
     obtain⟨a,b,c,_⟩:=hf k _ x tl (by omega) h1 (by omega) (fun y hy=>Xc (words_sub (hw▸Xy _ hy:y∈wordsL l)).2 hll)
     refine⟨c,?_⟩
     have h3:=telT_len (f k (play f L k).2 x tl).1 _ b
     rw [Xg,Xg,Xr,XK]
     omega
theorem play_app (f:FF) (L M:List (List UInt8)): ∀k,k≤L.length→play f (L++M) k=play f L k
 |0,_=>rfl
 |k+1,hk=>by
  have h:L[k]? =some L[k]:=by simp [show k<L.length by omega]
  have h2:(L++M)[k]? =some L[k]:=by rw [XY (by omega)];exact h
  rw [play_succ h,play_succ h2,play_app f L M k (by omega)]
theorem stp_pre (f:FF) (n:Nat) (q:List UInt8×DS) (l:List UInt8):q.1<+:(stp f n q l).1:=by
 unfold stp;split
 ·exact List.prefix_refl _
 ·split
  ·exact List.prefix_refl _
  ·exact List.prefix_append _ _
theorem play_pre (f:FF) (L:List (List UInt8)) {j:Nat} : ∀k,j≤k→(play f L j).1<+:(play f L k).1
 |0,h=>by
  obtain rfl:j=0:=by omega
  exact List.prefix_refl _
 |k+1,h=>by
  by_cases e:j=k+1
  ·subst e;exact List.prefix_refl _
  ·refine(play_pre f L k (by omega)).trans ?_
   show(play f L k).1<+:(match L[k]? with|none=>play f L k|some l=>stp f k (play f L k) l).1
   cases L[k]? with
   |none=>exact List.prefix_refl _
   |some l=>exact stp_pre f k _ l

theorem IsB.lt {B K:Nat} {xs:List UInt8} {w:World} (h:IsB B K xs w): ∀j,bb w K j→j<w.heap.size:=by
 have key: ∀p,Lib.BuilderAt 38 5 B K p (Lib.byteCells xs) w→ ∀j,bb w K j→j<w.heap.size:=by
  rintro p h j (rfl|⟨v,hv,hj⟩)
  ·exact h.lt
  ·obtain⟨_,v',h1,h2,_⟩:=h;have hv':w.cell? ⟨K,1,none⟩=some v':=by rw [Lib.cell_of_heap h1];rfl
   rw [hv]at hv';cases hv';exact(h2.lt j hj).2
 rcases h with h|h
 ·exact key _ h
 ·exact key _ h
def Both (D K:Nat) (s:DS) (t:List UInt8) (w:World):Prop:= ∃b,DAt w D s b∧IsB D K t w∧ ∀j,bb w K j→D<j∧ ¬b j
section
variable {D K : Nat} {s s' : DS} {t T a : List UInt8} {w w' : World} {er : Option (Int × Option Int)}
theorem Both.gv (h:Both D K s t w):Gv w:=by obtain⟨b,h,_⟩:=h;exact h.g.gv
theorem Both.sz (h:Both D K s t w):D≤w.heap.size:=by obtain⟨b,h,_⟩:=h;exact Xw (h.low D h.mem).2
theorem Both.below (h:Both D K s t w) (hb:Below w.heap.size w w'):Both D K s t w':=by
 obtain⟨b,h1,h2,h3⟩:=h;obtain⟨g1,g2⟩:=h2.off (Mm.Mv.of_below (b:=fun _=>False) hb) (fun _ _ e=>e);exact⟨b,h1.below hb,g1,by rw [g2];exact h3⟩
theorem Both.turn {b' b:Nat→Prop} (_:DAt w D s b) (h2:IsB D K t w) (h3: ∀j,bb w K j→D<j∧ ¬b j) (hd:DAt w' D s' b') (m:Mm.Mv b b' w w'):Both D K s' t w':=by
 obtain⟨g1,g2⟩:=h2.off m (fun k hk=>(h3 k hk).2);refine⟨b',hd,g1,fun j hj=> ?_⟩;rw [g2]at hj;exact⟨(h3 j hj).1,m.off (h2.lt j hj) (h3 j hj).2⟩
theorem both_do (h:Both D K s t w) {tl:List (List UInt8)} (hd:DoIs s x tl a er s') {A off cap:Nat} (hT:TxAt w A off (x::tl)) (h1:tl.length+1≤cap) (h2:cap≤65536):
  Calls prog 14 #[.pointer (some ⟨D,0,none⟩),.slice (some ⟨A,off,none⟩) (tl.length+1) cap] w fun e w'=>e=.returned (.tuple #[strV a,erV er])∧Both D K s' t w'∧Below D w w':=by
 obtain⟨b,g1,g2,g3⟩:=h;exact(hd D b w A off cap g1 hT h1 h2).mono fun e w' ⟨he,b',hD,m⟩=>⟨he,Both.turn g1 g2 g3 hD m,m.below (fun k hk=>(g1.low k hk).1) (Xw (g1.low D g1.mem).2)⟩
theorem both_write (h:Both D K s t w) (hl:t.length+T.length≤140737488355328):
  Calls prog 13 #[.pointer (some ⟨K,0,none⟩),strV T] w fun e w'=>e=.returned (.tuple #[.int .i64 T.length,.nilIface])∧Both D K s (t++T) w'∧Below D w w':=by
 obtain⟨b,g1,g2,g3⟩:=h;refine(write_any D K t T w g2 hl (Xw (g1.low D g1.mem).2)).mono fun e w' ⟨he,hi,m⟩=>⟨he,⟨b,g1.off m g3,hi,fun j hj=> ?_⟩,m.below (fun k hk=>Xw (g3 k hk).1) (Xw (g1.low D g1.mem).2)⟩
 rcases m.loc j hj with h|h
 ·exact g3 j h
 ·exact⟨Xb (g1.low D g1.mem).2 h,fun e=>by have:=(g1.low j e).2;omega⟩
theorem both_end (h:Both D K s t w):
  Calls prog 15 #[.pointer (some ⟨K,0,none⟩)] w fun e w'=>e=.returned (strV t)∧Below D w w':=by
 have hz:=h.sz;obtain⟨b,g1,g2,g3⟩:=h;exact Builder_String_any D K t w g2 hz
theorem both_new {w1:World} (hG:Gv w1):Both w1.heap.size (w1.heap.size+1) ⟨[],none⟩ [] ((w1.alloc (.cells #[strV [],.pointer none] 34)).alloc (.cells #[.pointer none,.slice none 0 0] 38)):=by
 have hb:Below w1.heap.size w1 ((w1.alloc (.cells #[strV [],.pointer none] 34)).alloc (.cells #[.pointer none,.slice none 0 0] 38)):=(balloc _ _).alloc (by simp) _;have hz:(w1.alloc (.cells #[strV [],.pointer none] 34)).heap.size=w1.heap.size+1:=by simp
 refine⟨(· =w1.heap.size),⟨cell_al (by simp) _,fun j=>by simp,⟨w1,hG,Xa _,hb⟩,⟨cell_al (by simp) _,rfl⟩⟩,Or.inl ⟨by omega,.slice none 0 0,by rw [←hz];exact heap_alloc_new _ _,XO _ _ _ _,by simp [Value.ownBlock]⟩,?_⟩;rintro j (rfl|⟨v,hv,hj⟩)
 ·exact⟨by omega,by omega⟩
 ·have e:((w1.alloc (.cells #[strV [],.pointer none] 34)).alloc (.cells #[.pointer none,.slice none 0 0] 38)).cell? ⟨w1.heap.size+1,1,none⟩=some (.slice none 0 0):=by rw [←hz];simp
  rw [e]at hv;cases hv;cases hj
end
theorem hash_is (x:List UInt8):(decide (([35]:List UInt8).length≤x.length)&&(x.take ([35]:List UInt8).length==[35]))=(x.head? ==some 35):=by
 cases x with
 |nil=>rfl
 |cons c r=>simp
theorem err2:telT [] (some (2,none))++ [10]=[101,114,114,111,114,32,50,10]:=by kernel_rfl
def runO (f:FF) (l:List UInt8):List UInt8:=if 65536<l.length∨200<(cutL (pieces 10 l)).length then [101,114,114,111,114,32,50,10]else(play f (cutL (pieces 10 l)) (cutL (pieces 10 l)).length).1
theorem cut_sub (h:x∈cutL (pieces 10 l)):x.length≤l.length:=by
 unfold cutL at h;split at h
 ·exact pieces_sub 10 l x (List.dropLast_subset _ h)
 ·exact pieces_sub 10 l x h
def RuR (f:FF) (L:List (List UInt8)) (w1:World) (K:Nat) (i:Value) (wr:World):Prop:= ∃k:Nat,k≤L.length∧i=.int .i64 k∧Both w1.heap.size K (play f L k).2 (play f L k).1 wr∧Below w1.heap.size w1 wr
theorem run_any {f:FF} (hf:FOk f) (l:List UInt8) (w:World) (hG:Gv w) (hl:l.length≤9223372036854775807):
  CB 5 #[strV l] w (strV (runO f l)):=by
 have HE:Hid (∀w1,Below w.heap.size w w1→CB 10 #[.string ⟨#[]⟩,.iface 31 (.agg #[.int .i64 2])] w1 (strV [101,114,114,111,114,32,50,10])):=fun w1 hb=>by
  have h:=tell_any [] (some (2,none)) ⟨by decide,by decide⟩ (by decide) w1 (hG.below hb).e (hG.below hb).g.p;rw [err2]at h;exact h
 have hsz:(⟨l.toArray⟩:ByteArray).size=l.length:=rfl;by_cases hl1:65536<l.length
 ·have hO:runO f l=[101,114,114,111,114,32,50,10]:=if_pos (Or.inl hl1);rw [hO];have cE:=HE.out w (Below.refl _ _);go_enter func5,ntmps5;go_wp2_with(go_at_call 10;(with_reducible refine zg cE fun w1 hb=>?_))
  go_ret;exact⟨rfl,hb⟩
 ·have c0:=lines_any l w (by omega);have hlen: ∀x∈cutL (pieces 10 l),x.length≤65536:=fun x hx=>Xc (cut_sub hx) (by omega);have hcn:(cutL (pieces 10 l)).length≤65537:=by
   have h1:(cutL (pieces 10 l)).length≤(pieces 10 l).length:=by
    unfold cutL;split
    ·rw [List.length_dropLast];omega
    ·exact Xa _
   rw [pieces_len]at h1;have:=X6 (a:=(10:UInt8)) (l:=l);omega
  have hO:Hid (runO f l=if 200<(cutL (pieces 10 l)).length then [101,114,114,111,114,32,50,10]else(play f (cutL (pieces 10 l)) (cutL (pieces 10 l)).length).1):=by
   show _=_;unfold runO;by_cases h:200<(cutL (pieces 10 l)).length
   ·rw [if_pos (Or.inr h),if_pos h]
   ·rw [if_neg (by omega),if_neg h]
  generalize runO f l=O at*;generalize cutL (pieces 10 l)=L at*;have hl1': ¬(65536:Int)<(l.length:Int):=by omega
  by_cases hL:200<L.length
  ·have HO:Hid (O=[101,114,114,111,114,32,50,10]):=by rw [hO.out];exact if_pos hL
   have hL':(200:Int)<(L.length:Int):=by omega
   go_enter func5,ntmps5
   go_wp2_with (first
    |(go_at_call 11;(with_reducible refine c0.mono ?_);rintro e w1 ⟨A,c,rfl,hT,hb⟩;have c2:=HE.out w1 hb)
    |(go_at_call 10;(with_reducible refine zg c2 fun w2 hb2=>?_)))
   go_ret;rw [HO.out];exact⟨rfl,(zu hb hb2)⟩
  ·have HO:Hid (O=(play f L L.length).1):=by rw [hO.out];exact if_neg hL
   have hL': ¬(200:Int)<(L.length:Int):=by omega
   have HL:=zh hlen;have HP:Hid (∀k,k≤200→DOk (play f L k).2 k∧(play f L k).1.length≤k*4000001000):=play_ok hf hlen;clear HE hO hlen;go_enter func5,ntmps5;go_wp2_with(go_at_call 11;(with_reducible refine c0.mono ?_);rintro e w1 ⟨A,c,rfl,hT,hb⟩;have HB:=zh hb;have HT:=zh hT;have HG:Hid (Gv w1):=hG.below hb;clear hT hb c0)
   have hN:=both_new HG.out;have HN:=zh hN;clear hN;go_loopw [25] (fun i wr=>RuR f L w1 (w1.heap.size+1) i wr) (fun i _=>L.length-(intOf i).toNat)
   case atStart=>exact⟨0,Xx _,rfl,HN.out,(balloc _ _).alloc (by simp) _⟩
   case round=>
    obtain⟨k,hk,rfl,hD,hbr⟩:=hrel;have HD:Hid (Both w1.heap.size (w1.heap.size+1) (play f L k).2 (play f L k).1 wr∧Below w1.heap.size w1 wr):=⟨hD,hbr⟩
    obtain⟨hok,hlen⟩:=HP.out k (by omega);by_cases hlt:k<L.length
    ·have hk':(k:Int)<(L.length:Int):=(by omega);obtain⟨x,hx⟩: ∃x,L[k]? =some x:=⟨_,Xz hlt⟩
     have hxl:=HL.out x (Xk hx);have d0:wr.cell? ⟨A,k,none⟩=some (strV x):=by have:=(HT.out.below hbr HT.out.1).2 k x hx;rwa [Xv]at this
     have HS:Hid (play f L (k+1)=stp f k (play f L k) x):=play_succ hx;have HX:Hid (∀w2,Both w1.heap.size (w1.heap.size+1) (stp f k (play f L k) x).2 (stp f k (play f L k) x).1 w2→Below w1.heap.size w1 w2→RuR f L w1 (w1.heap.size+1) (.int .i64 ((k+1:Nat):Int)) w2):=fun w2 h b=>⟨k+1,hlt,rfl,by rw [HS.out];exact h,b⟩
     have cW:=words_any x wr hxl;have hwl:(wordsL x).length≤x.length:=words_len 32 x;have hws: ∀y∈wordsL x,y.length≤65536:=fun y hy=>Xc (words_sub hy).2 hxl;clear hx hD hbr HS HL;cases hw:wordsL x with
     |nil=>
      rw [hw]at cW;have HZ:Hid (stp f k (play f L k) x=play f L k):=by unfold Hid stp;rw [hw]
      clear hwl hws hok hlen;generalize stp f k (play f L k) x=Z at*;generalize play f L k=q at*;go_wp2_with(go_at_call 12;(with_reducible refine cW.mono ?_);rintro e w2 ⟨A2,rfl,hT2,hb2⟩;have HE:=HX.out w2 (by rw [HZ.out];exact HD.out.1.below hb2) (HD.out.2.trans (hb2.mono HD.out.1.sz));have HE:=zh HE;clear hb2 hT2 cW HX)
      go_roundw
      case rel=>exact HE.out
      case measure=>simp [intOf];omega
     |cons y tl=>
      rw [hw]at cW hwl hws;simp only [Xr]at cW hwl;have hyl:y.length≤9223372036854775807:=by have:=hws y (XF ..);omega
      have hn0: ¬((tl.length:Int)+1=0):=(by omega);have hn1:(0:Int)<(tl.length:Int)+1:=(by omega);by_cases h35:y.head? =some 35
      ·have HZ:Hid (stp f k (play f L k) x=play f L k):=by unfold Hid stp;rw [hw];simp only [h35,if_true]
       have HP2:Hid (∀w2,CS 7 #[strV y,strV [35]] w2 (.bool true)):=fun w2=>by
        have h:=pre_any y [35] w2 hyl (by decide);rw [hash_is,h35]at h;exact h
       clear hwl hws hok hlen hyl;generalize stp f k (play f L k) x=Z at*;generalize play f L k=q at*
       go_wp2_with (first
        |(go_at_call 12;(with_reducible refine cW.mono ?_);rintro e w2 ⟨A2,rfl,hT2,hb2⟩;have HE:=HX.out w2 (by rw [HZ.out];exact HD.out.1.below hb2) (HD.out.2.trans (hb2.mono HD.out.1.sz));have HE:=zh HE;have z0:=hT2.2 0 y rfl;rw [XD]at z0;clear hb2 hT2 cW HX)
        |(go_at_call 7;(with_reducible refine zq (HP2.out _) ?_)))
       go_roundw
       case rel=>exact HE.out
       case measure=>simp [intOf];omega
      ·obtain⟨ha,hE,hDk,hDo⟩:=hf k (play f L k).2 y tl (by omega) hok (by omega) (fun z hz=>hws z (Xy _ hz));have HZ:Hid (stp f k (play f L k) x=((play f L k).1++(telT (f k (play f L k).2 y tl).1 (f k (play f L k).2 y tl).2.1++ [10]),(f k (play f L k).2 y tl).2.2)):=by unfold Hid stp;rw [hw];simp only [if_neg h35]
       have HP2:Hid (∀w2,CS 7 #[strV y,strV [35]] w2 (.bool false)):=fun w2=>by
        have h:=pre_any y [35] w2 hyl (by decide);rw [hash_is,beq_eq_false_iff_ne.2 h35]at h;exact h
       have htl:=telT_len (f k (play f L k).2 y tl).1 _ hE;have HT2:Hid (∀w2,Gv w2→CB 10 #[strV (f k (play f L k).2 y tl).1,erV (f k (play f L k).2 y tl).2.1] w2 (strV (telT (f k (play f L k).2 y tl).1 (f k (play f L k).2 y tl).2.1++ [10]))):=fun w2 hg=>tell_any _ _ hE ha w2 hg.e hg.g.p;have HTl:Hid ((play f L k).1.length+(telT (f k (play f L k).2 y tl).1 (f k (play f L k).2 y tl).2.1++ [10]).length≤140737488355328):=by
        unfold Hid;rw [Xg,Xr,XK];omega
       have hcap:tl.length+1≤65536:=(by omega);clear hwl hws hok hlen hyl htl hE hDk ha;generalize telT (f k (play f L k).2 y tl).1 (f k (play f L k).2 y tl).2.1++ [10]=T at*;generalize (f k (play f L k).2 y tl).2.2=s2 at*;generalize (f k (play f L k).2 y tl).2.1=er at*;generalize (f k (play f L k).2 y tl).1=a at*;generalize stp f k (play f L k) x=Z at*;generalize play f L k=q at*;have HDo:=zh hDo;have HC:=zh hcap;clear hDo hcap;obtain⟨rfl⟩:Z=(q.1++T,s2):=HZ.out;clear HZ
       go_wp2_with (first
        |(go_at_call 12;(with_reducible refine cW.mono ?_);rintro e w2 ⟨A2,rfl,hT2,hb2⟩;have h2:=HD.out.1.below hb2;have cD:=both_do h2 HDo.out hT2 (Xa _) HC.out;have HB2:Hid (Below w1.heap.size w1 w2):=HD.out.2.trans (hb2.mono HD.out.1.sz);have z0:=hT2.2 0 y rfl;rw [XD]at z0;clear hb2 hT2 cW h2)
        |(go_at_call 7;(with_reducible refine zq (HP2.out _) ?_))
        |(go_at_call 14;(with_reducible refine cD.mono ?_);rintro e w3 ⟨rfl,h3,hb3⟩;have HB3:Hid (Below w1.heap.size w1 w3∧Both w1.heap.size (w1.heap.size+1) s2 q.1 w3):=⟨HB2.out.trans hb3,h3⟩;clear h3 hb3 cD;have cT:=HT2.out w3 HB3.out.2.gv)
        |(go_at_call 10;(with_reducible refine zg cT fun w4 hb4=>?_);have h4:=HB3.out.2.below hb4;have HB4:Hid (Below w1.heap.size w1 w4):=HB3.out.1.trans (hb4.mono HB3.out.2.sz);have cS:=both_write h4 HTl.out;clear cT hb4 h4)
        |(go_at_call 13;(with_reducible refine cS.mono ?_);rintro e w5 ⟨rfl,h5,hb5⟩;have HE:=HX.out w5 h5 (HB4.out.trans hb5);have HE:=zh HE;clear cS h5 hb5 HX))
       go_roundw
       case rel=>exact HE.out
       case measure=>simp [intOf];omega
    ·obtain rfl:k=L.length:=by omega
     have cS:=both_end HD.out.1;clear hD hbr hok hlen;generalize play f L L.length=q at*;go_wp2_with(go_at_call 15;(with_reducible refine zg cS fun w2 hb2=>?_))
     go_ret;rw [HO.out];exact⟨rfl,HB.out.trans ((HD.out.2.trans hb2).mono HB.out.size)⟩

abbrev An:=List UInt8×Option (Int×Option Int)×DS
def AnOk (n:Nat) (s:DS) (x:List UInt8) (tl:List (List UInt8)) (y:An):Prop:=y.1.length≤4000000000∧ErI y.2.1∧DOk y.2.2 (n+1)∧DoIs s x tl y.1 y.2.1 y.2.2
theorem ex_f {rd:List UInt8→Option K} (hrd:RdOk rd) (P:Nat→DS→List UInt8→List (List UInt8)→An→Prop) (hP: ∀n s x tl y,P n s x tl y→n≤200→DOk s n→AnOk n s x tl y):
  ∃f:FF,FOk f∧ ∀n s x tl,(∃y,P n s x tl y)→P n s x tl (f n s x tl):=by
 have H: ∀n s x tl,∃y:An,((∃y,P n s x tl y)→P n s x tl y)∧(n≤200→DOk s n→tl.length≤65536→(∀z∈tl,z.length≤65536)→AnOk n s x tl y):=by
  intro n s x tl;by_cases h: ∃y,P n s x tl y
  ·obtain⟨y,hy⟩:=h;exact⟨y,fun _=>hy,fun h1 h2 _ _=>hP n s x tl y hy h1 h2⟩
  ·by_cases h2:n≤200∧DOk s n∧tl.length≤65536∧ ∀z∈tl,z.length≤65536
   ·obtain⟨a,er,s',h3⟩:=do_ex hrd s n h2.1 h2.2.1 x tl h2.2.2.1 h2.2.2.2;exact⟨(a,er,s'),fun e=>absurd e h,fun _ _ _ _=>h3⟩
   ·exact⟨([],none,s),fun e=>absurd e h,fun a b c d=>absurd ⟨a,b,c,d⟩ h2⟩
 exact⟨fun n s x tl=>Classical.choose (H n s x tl),fun n s x tl a b c d=>(Classical.choose_spec (H n s x tl)).2 a b c d,fun n s x tl=>(Classical.choose_spec (H n s x tl)).1⟩
end Dsk
namespace Dsk
open Go.RowKit Lai Crn Pln Pie Wld Lop Lpp Civ Cal RCrn

def outD:List UInt8:=[49,57,55,48,45,49,45,49,32,49,58,48,58,48,32,52]
theorem c_date (g c:Nat) (v:Value) (w:World) (hP:PowAt w) (h0:w.cell? ⟨g,0,none⟩=some (.int .i64 0)) (h1:w.cell? ⟨g,1,none⟩=some (.int .i64 60)):
  CB 33 #[.slice (some ⟨g,0,none⟩) 2 c,v] w (.tuple #[strV outD,erV none]):=by
 have e:ofv (sc 0 60)=civ 1970 1 1 1 0 0 4:=by
  obtain⟨h1,h2,h3⟩:=date_is (n:=sc 0 60/86400) (y:=1970) (m:=1) (d:=1) (by decide) (by decide);unfold ofv;rw [h1,h2,h3];rfl
 refine(date_go 0 60 g c v w h0 h1 1970 1 1 1 0 0 4 0 (fun n hn=> ?_) hP (fun w=> ?_)).mono fun e w' ⟨he,hb⟩=>⟨(he.2 rfl).trans ?_,hb⟩
 ·simp at hn;rcases hn with rfl|rfl|rfl|rfl<;>exact⟨by decide,by decide⟩
 ·rw [←e];exact of_yes 0 60 w (by decide) (by decide)
 ·rw [show Lib.join ([(1970:Int),1,1].map Lib.itoa) [45]++ [32]++Lib.join ([(1:Int),0,0].map Lib.itoa) [58]++ [32]++Lib.itoa 4=outD by kernel_rfl];rfl
def outN:List UInt8:=[50,51,52,48,48]
def txN:List UInt8:=[51,48,32,54,32,42,32,42,32,42]
abbrev c30:K:=⟨1073741824,64,4294967294,8190,127,true,true⟩
theorem set_is {v:Int} {l:List (Int×Int×Int)} (h:0≤v∧v≤18446744073709551615) (h1: ∀p∈l,0≤p.1∧p.2.1≤63) (h2: ∀n:Fin 64,inS v (n.val:Int)=l.any fun p=>inI p (n.val:Int)):SetIs l v:=by
 refine⟨h,fun n=> ?_⟩;by_cases hn:0≤n∧n≤63
 ·have:=h2 ⟨n.toNat,by omega⟩;rwa [show((⟨n.toNat,by omega⟩:Fin 64).val:Int)=n by simp;omega]at this
 ·have e1:inS v n=false:=by
   unfold inS;by_cases h0:0≤n
   ·rw [show decide (n≤63)=false from decide_eq_false (by omega)];simp
   ·rw [show decide (0≤n)=false from decide_eq_false h0];rfl
  rw [e1];symm;rw [List.any_eq_false];intro p hp;obtain⟨a,b⟩:=h1 p hp;unfold inI;simp only [decide_eq_true_eq];omega
theorem right_N:Right (pieces 32 txN) (kV c30):=by
 refine⟨fun i=>if i=0 then 1073741824 else if i=1 then 64 else if i=2 then 4294967294 else if i=3 then 8190 else 127,fun i=>if i=0 then [(30,30,1)]else if i=1 then [(6,6,1)]else if i=2 then [(1,31,1)]else if i=3 then [(1,12,1)]else [(0,6,1)],fun i hi=> ?_,rfl⟩;have:i=0∨i=1∨i=2∨i=3∨i=4:=by omega
 rcases this with rfl|rfl|rfl|rfl|rfl
 ·exact⟨by decide,set_is (by decide) (by decide) (by decide)⟩
 ·exact⟨by decide,set_is (by decide) (by decide) (by decide)⟩
 ·exact⟨by decide,set_is (by decide) (by decide) (by decide)⟩
 ·exact⟨by decide,set_is (by decide) (by decide) (by decide)⟩
 ·exact⟨by decide,set_is (by decide) (by decide) (by decide)⟩
theorem rd_N {rd:List UInt8→Option K} (h:RdOk rd):rd txN=some c30:=by
 have ha:ParseAns txN (.returned (.tuple #[kV c30,.int .i64 0])):=Or.inr (Or.inr ⟨by decide,by decide,_,right_N,rfl⟩);cases hr:rd txN with
 |none=>
  obtain⟨E,hE,g⟩:=h.no _ hr;have:=g _ ha;simp at this
 |some d=>
  obtain⟨_,_,_,g⟩:=h.yes _ d hr;have:=g _ ha;cases d;simp at this;simp [this]
theorem fit_30 {x:Int} :fitN 4294967294 8190 127 true true x=true:=by
 obtain⟨d1,d2,d3,d4,_⟩:=date_spec x;have hd:=(dim_bd (yr x) (Cal.mo x)).2;have key1: ∀n:Fin 13,1≤n.val→inS 8190 (n.val:Int)=true:=by decide
 have key2: ∀n:Fin 32,1≤n.val→inS 4294967294 (n.val:Int)=true:=by decide
 have key3: ∀n:Fin 7,inS 127 (n.val:Int)=true:=by decide
 have h1:=key1 ⟨(Cal.mo x).toNat,by omega⟩ (by show 1≤(Cal.mo x).toNat;omega);have h2:=key2 ⟨(dy x).toNat,by omega⟩ (by show 1≤(dy x).toNat;omega);have h3:=key3 ⟨((x+6)%7).toNat,by omega⟩;simp only [show(((Cal.mo x).toNat:Nat):Int)=Cal.mo x by omega]at h1;simp only [show(((dy x).toNat:Nat):Int)=dy x by omega]at h2;simp only [show((((x+6)%7).toNat:Nat):Int)=(x+6)%7 by omega]at h3;unfold fitN dayB;rw [h1,h2,h3];rfl
theorem ok_30 (x:Int) (h0:0≤x) (h1:x<1440):okM 1073741824 64 x=decide (x=390):=by
 have key1: ∀n:Fin 24,inS 64 (n.val:Int)=decide (n.val=6):=by decide
 have key2: ∀n:Fin 60,inS 1073741824 (n.val:Int)=decide (n.val=30):=by decide
 have a:=key1 ⟨(x/60).toNat,by omega⟩;have b:=key2 ⟨(x%60).toNat,by omega⟩;simp only [show(((x/60).toNat:Nat):Int)=x/60 by omega]at a;simp only [show(((x%60).toNat:Nat):Int)=x%60 by omega]at b;unfold okM;rw [a,b,←Bool.decide_and];exact decide_eq_decide.2 (by omega)
theorem next_30:NextIs 1073741824 64 4294967294 8190 127 true true (minOf 0 0) 0 23400 true:=by
 have e:minOf 0 0=3139917120:=by decide
 rw [e];refine Or.inl ⟨rfl,3139917510,by decide,by decide,by decide,by decide,?_,fun v h1 h2=> ?_⟩
 ·unfold mtN;rw [fit_30,ok_30 _ (by decide) (by decide)];rfl
 ·unfold mtN;rw [fit_30,ok_30 _ (by omega) (by omega),decide_eq_false (by omega)];rfl
theorem c_next (g c A off c':Nat) (w:World) (hG:Gd w) (h0:w.cell? ⟨g,0,none⟩=some (.int .i64 0)) (h1:w.cell? ⟨g,1,none⟩=some (.int .i64 0)) {more:List (List UInt8)} (hm:more=[[51,48],[54],[42],[42],[42]]) (hT:TxAt w A off more) (hc:more.length≤c'):
  CB 34 #[.slice (some ⟨g,0,none⟩) 2 c,.slice (some ⟨A,off,none⟩) more.length c'] w (.tuple #[strV outN,erV none]):=by
 obtain⟨rd,hrd⟩:=rd_exists;obtain⟨hu,hk,_,hA⟩:=hrd.yes _ _ (rd_N hrd);have hj:Lib.join more [32]=txN:=by rw [hm];decide
 have c:=next_go 0 0 g c more A off c' w h0 h1 hT hc (by rw [hm];decide) (by rw [hm];decide) 1073741824 64 4294967294 8190 127 true true 0 23400 true 0 hG ⟨by decide,by decide⟩ (fun w hG=>by rw [hj];exact(parse_any _ w hG.b).mono fun e w' ⟨h,hb⟩=>⟨hA e h,hb⟩)
  (fun _ w hG=>(next_yes 1073741824 64 4294967294 8190 127 true true 0 0 w hG.b hG.t hu.u0 hu.u1 hu.u2 hu.u3 hu.u4 hk (by decide) (by decide)).mono fun e w' ⟨n',ok',he,hn',hb⟩=>⟨by obtain⟨rfl,rfl⟩:=next_one next_30 hn';exact he,hb⟩)
 rwa [show nextA 0 23400 true 0=(outN,none) by kernel_rfl]at c
end Dsk
namespace Dsk
open Go.RowKit Lai Crn Pln Pie Wld Lop Lpp
variable {f:FF}

def hd2:List UInt8:=[100,97,116,101,32,48,32,54,48,10,110,101,120,116,32,48,32,48,32,51,48,32,54,32,42,32,42,32,42,10]
def sD:List UInt8:=[100,97,116,101]
def sN:List UInt8:=[110,101,120,116]
def tD:List (List UInt8):=[[48],[54,48]]
def tN:List (List UInt8):=[[48],[48],[51,48],[54],[42],[42],[42]]
def KnP (_:Nat) (s:DS) (x:List UInt8) (tl:List (List UInt8)) (y:An):Prop:=s=⟨[],none⟩∧((x=sD∧tl=tD∧y=(outD,none,s))∨(x=sN∧tl=tN∧y=(outN,none,s)))
theorem kn_ok (n:Nat) (s:DS) (x:List UInt8) (tl:List (List UInt8)) (y:An) (h:KnP n s x tl y) (hI:DOk s n):AnOk n s x tl y:=by
 obtain⟨_,⟨rfl,rfl,rfl⟩|⟨rfl,rfl,rfl⟩⟩:=h
 ·refine⟨(show outD.length≤4000000000 by decide),trivial,hI.more,do_run (by decide) (ns:=[0,60]) (more:=[]) (by kernel_rfl) (fun e=> ?_) ?_⟩
  ·exact absurd e.1 (by rw [show neC (cmdC sD)=false by kernel_rfl];decide)
  ·rw [show cmdC sD=1 by kernel_rfl];exact is_date s sD [] 0 60 outD none c_date
 ·refine⟨(show outN.length≤4000000000 by decide),trivial,hI.more,do_run (by decide) (ns:=[0,0]) (more:=[[51,48],[54],[42],[42],[42]]) (by kernel_rfl) (fun e=> ?_) ?_⟩
  ·exact absurd e.1 (by rw [show neC (cmdC sN)=false by kernel_rfl];decide)
  ·rw [show cmdC sN=2 by kernel_rfl];exact is_next s sN _ 0 0 outN none fun g c A off c' w hG h0 h1 hT hc=>c_next g c A off c' w hG h0 h1 rfl hT hc
theorem f_head {rd:List UInt8→Option K} (hrd:RdOk rd): ∃f:FF,FOk f∧runO f hd2=outD++ [10]++(outN++ [10]):=by
 obtain⟨f,hf,h⟩:=ex_f hrd KnP (fun n s x tl y h _ hI=>kn_ok n s x tl y h hI);refine⟨f,hf,?_⟩;have a0:f 0 ⟨[],none⟩ sD tD=(outD,none,⟨[],none⟩):=by
  obtain⟨_,⟨_,_,e⟩|⟨e,_⟩⟩:=h 0 ⟨[],none⟩ sD tD ⟨_,rfl,Or.inl ⟨rfl,rfl,rfl⟩⟩
  ·exact e
  ·exact absurd e (by decide)
 have a1:f 1 ⟨[],none⟩ sN tN=(outN,none,⟨[],none⟩):=by
  obtain⟨_,⟨e,_⟩|⟨_,_,e⟩⟩:=h 1 ⟨[],none⟩ sN tN ⟨_,rfl,Or.inr ⟨rfl,rfl,rfl⟩⟩
  ·exact absurd e (by decide)
  ·exact e
 have e1:cutL (pieces 10 hd2)=[sD++ [32,48,32,54,48],sN++ [32,48,32,48,32,51,48,32,54,32,42,32,42,32,42]]:=by kernel_rfl
 have w0:wordsL (sD++ [32,48,32,54,48])=sD::tD:=by kernel_rfl
 have w1:wordsL (sN++ [32,48,32,48,32,51,48,32,54,32,42,32,42,32,42])=sN::tN:=by kernel_rfl
 unfold runO;rw [e1,if_neg (by decide)];show(stp f 1 (stp f 0 ([],⟨[],none⟩) (sD++ [32,48,32,54,48])) (sN++ [32,48,32,48,32,51,48,32,54,32,42,32,42,32,42])).1=_;unfold stp;rw [w0,w1];simp only;rw [if_neg (show¬sD.head? =some 35 by decide),if_neg (show¬sN.head? =some 35 by decide)];simp only;rw [a0];simp only;rw [a1];rfl
theorem cut_app (A:List (List UInt8)) {B:List (List UInt8)} (hB:B≠ []):cutL (A++B)=A++cutL B:=by
 have e:(A++B).getLast? =B.getLast? :=by
  obtain⟨C,z,rfl⟩: ∃C z,B=C++ [z]:=⟨B.dropLast,B.getLast hB,(List.dropLast_concat_getLast hB).symm⟩
  rw [←X4,List.getLast?_concat,List.getLast?_concat]
 unfold cutL;rw [e];split
 ·rw [List.dropLast_append_of_ne_nil hB]
 ·rfl
theorem cut_pre (A:List (List UInt8)):cutL A<+:A:=by
 unfold cutL;split
 ·exact List.dropLast_prefix A
 ·exact List.prefix_refl _
theorem run_pre (f:FF) (l m:List UInt8) (h1: ¬65536<(l++10::m).length) (h2: ¬200<(cutL (pieces 10 (l++10::m))).length):runO f l<+:runO f (l++10::m):=by
 have e:cutL (pieces 10 (l++10::m))=pieces 10 l++cutL (pieces 10 m):=by rw [pieces_app,cut_app _ (pieces_ne 10 m)]
 obtain⟨T,hT⟩:cutL (pieces 10 l)<+:cutL (pieces 10 (l++10::m)):=by rw [e];exact(cut_pre _).trans (List.prefix_append _ _)
 have hl:(cutL (pieces 10 l)).length≤(cutL (pieces 10 (l++10::m))).length:=by rw [←hT,Xg];omega
 have hl2:l.length≤(l++10::m).length:=by rw [Xg];omega
 unfold runO;rw [if_neg (by omega),if_neg (by omega),←play_app f _ T _ (Xa _),hT];exact play_pre f _ _ hl
theorem runO_len (hf:FOk f) (x:List UInt8):(runO f x).length≤1000000000000:=by
 unfold runO;split
 ·decide
 ·rename_i h;have h1:=(play_ok hf (L:=cutL (pieces 10 x)) (fun y hy=>Xc (cut_sub hy) (by omega)) (cutL (pieces 10 x)).length (by omega)).2;have h2:(cutL (pieces 10 x)).length*4000001000≤200*4000001000:=Yu _ (by omega);exact Xc h1 (Xc h2 (by decide))
theorem head_go (hf:FOk f) (h0:runO f hd2=outD++ [10]++(outN++ [10])) (l m:List UInt8) (w:World) (hG:Gv w) (hl:l.length+m.length≤9000000000000000000):
  CB 3 #[strV l,strV m] w (.bool true):=by
 have c1:CB 5 #[.string ⟨#[100,97,116,101,32,48,32,54,48,10,110,101,120,116,32,48,32,48,32,51,48,32,54,32,42,32,42,32,42,10]⟩] w (.string ⟨#[49,57,55,48,45,49,45,49,32,49,58,48,58,48,32,52,10,50,51,52,48,48,10]⟩):=by
  have h:=run_any hf hd2 w hG (by decide);rw [h0]at h;exact h
 have e1:(⟨l.toArray⟩++⟨#[10]⟩++⟨m.toArray⟩:ByteArray)=⟨(l++10::m).toArray⟩:=by
  rw [show l++10::m=l++ [10]++m by simp,←str_app (l++ [10]) m,←str_app l [10]]
 have hAl:(l++10::m).length=l.length+m.length+1:=by simp;omega
 have HR:Hid (∀w1,Below w.heap.size w w1→CB 5 #[strV (l++10::m)] w1 (strV (runO f (l++10::m)))):=fun w1 hb=>run_any hf _ w1 (hG.below hb) (by omega);have HT:Hid (∀w1,Below w.heap.size w w1→CB 5 #[strV l] w1 (strV (runO f l))):=fun w1 hb=>run_any hf l w1 (hG.below hb) (by omega);have b1: ¬(9223372036854775807:Int)<l.length+1:=by omega
 have b2: ¬(9223372036854775807:Int)<l.length+1+m.length:=by omega
 have hP:=run_pre f l m;have hOl:=fun x:List UInt8=>runO_len hf x;have HQ:Hid ((l++10::m).length≤65536→ ∀w,Calls prog 6 #[strV (l++10::m)] w fun e w'=> ∃A c,e=.returned (.slice (some ⟨A,0,none⟩) (cutL (pieces 10 (l++10::m))).length c)∧TxAt w' A 0 (cutL (pieces 10 (l++10::m)))∧Below w.heap.size w w'):=fun h w=>rlines_any _ w h;generalize l++10::m=A at*;clear hAl;have HO:=zh hOl;clear hOl;by_cases hA:65536<A.length
 ·have hA':decide ((65536:Int)<(A.length:Int))=true:=decide_eq_true (by omega);clear hP;go_enter func3,ntmps3;go_wp2_with(go_at_call 5;(with_reducible refine zg c1 fun w1 hb=>?_))
  go_ret;exact⟨rfl,hb⟩
 ·have hA':decide ((65536:Int)<(A.length:Int))=false:=decide_eq_false (by omega);have HQ2:=HQ.out (by omega);have HQ2:=zh HQ2;clear HQ;have hP:=hP hA;generalize cutL (pieces 10 A)=L at*;by_cases hL:200<L.length
  ·have hL':decide ((200:Int)<(L.length:Int))=true:=decide_eq_true (by omega);clear hP;go_enter func3,ntmps3
   go_wp2_with (first
    |(go_at_call 5;(with_reducible refine zg c1 fun w1 hb=>?_);have c2:=HQ2.out w1)
    |(go_at_call 6;(with_reducible refine c2.mono ?_);rintro e w2 ⟨B,k,rfl,_,hb2⟩))
   go_ret;exact⟨rfl,(zu hb hb2)⟩
  ·have hL':decide ((200:Int)<(L.length:Int))=false:=decide_eq_false (by omega);have hP2:(decide ((runO f l).length≤(runO f A).length)&&((runO f A).take (runO f l).length==runO f l))=true:=by
    obtain⟨T,hT⟩:=hP hL;rw [←hT,Xg,List.take_left];simp
   have HX:Hid (∀w,CS 7 #[strV (runO f A),strV (runO f l)] w (.bool true)):=fun w=>by
    have h:=pre_any (runO f A) (runO f l) w (by have:=HO.out A;omega) (by have:=HO.out l;omega);rw [hP2]at h;exact h
   clear hP hP2;generalize runO f A=OA at*;generalize runO f l=OL at*;go_enter func3,ntmps3
   go_wp2_with (first
    |(go_at_call 5;(with_reducible refine zg c1 fun w1 hb=>?_);have HB1:=zh hb;have c2:=HQ2.out w1;clear hb c1)
    |(go_at_call 6;(with_reducible refine c2.mono ?_);rintro e w2 ⟨B,k,rfl,_,hb2⟩;have HB2:Hid (Below w.heap.size w w2):=(zu HB1.out hb2);have c3:=HR.out w2 HB2.out;clear hb2 c2)
    |(go_at_call 5;(with_reducible refine zg c3 fun w3 hb3=>?_);have HB3:Hid (Below w.heap.size w w3):=(zu HB2.out hb3);have c4:=HT.out w3 HB3.out;clear hb3 c3)
    |(go_at_call 5;(with_reducible refine zg c4 fun w4 hb4=>?_);have HB4:Hid (Below w.heap.size w w4):=(zu HB3.out hb4);have c5:=HX.out w4;clear hb4 c4)
    |(go_at_call 7;(with_reducible refine zq c5 ?_)))
   go_ret;exact⟨rfl,HB4.out⟩
