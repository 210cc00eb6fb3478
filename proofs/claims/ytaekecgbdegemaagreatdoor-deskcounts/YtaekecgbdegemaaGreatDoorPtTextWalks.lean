/- A part. -/
import Derived.Test.YtaekecgbdegemaaGreatDoorPtParsePlain
import Derived.Test.YtaekecgbdegemaaGreatDoorPtCronBits
import Derived.Test.YtaekecgbdegemaaGreatDoorPtShelf2
set_option linter.all false
open Go.Proofs.Tryz
set_option maxHeartbeats 32000000
set_option maxRecDepth 8000
namespace Go.Proofs.YtaekecgbdegemaaGreatDoor
namespace Crn
open Go.RowKit Lai Civ

abbrev strV (l:List UInt8):Value:=.string ⟨l.toArray⟩
theorem ret_str {a b:List UInt8} (h:a=b):Ending.returned (strV a)=.returned (strV b):=by rw [h]
theorem itoa_c (i:Int) (h:0≤i∧i<100) (w:World):CS 30 #[.int .i64 i] w (strV (Lib.decDigits i.toNat)):=by
 obtain⟨N,rfl⟩:=Xh h.1;exact strconv_Itoa_small N (by omega) w

theorem dec_len: ∀n:Nat,n<100→(Lib.decDigits n).length≤2:=by
 intro n h;by_cases g:n<10
 ·rw [Lib.decDigits_one g];simp
 ·rw [Lib.decDigits_two g h];simp

theorem row_any (a b:Int) (ha:0≤a∧a<100) (hb:0≤b∧b<100) (w:World):
  CS 216 #[.int .i64 a,.int .i64 b] w (strV (rowT (a,b))):=by
 have c1:=fun w=>itoa_c a ha w;have c2:=fun w=>itoa_c b hb w;by_cases h:a=b
 ·subst h;have HR:Hid (rowT (a,a)=Lib.decDigits a.toNat):=by unfold Hid rowT;simp
  clear ha hb c2;go_enter func216,ntmps216;go_wp2_with(go_at_call 30;(with_reducible refine(c1 _).mono ?_);rintro e w' ⟨rfl,rfl⟩)
  go_ret;exact⟨ret_str HR.out.symm,rfl⟩
 ·have HR:Hid (rowT (a,b)=Lib.decDigits a.toNat++ [45]++Lib.decDigits b.toNat):=by unfold Hid rowT;simp [h]
  have la:=dec_len a.toNat (by omega);have lb:=dec_len b.toNat (by omega);clear ha hb;go_enter func216,ntmps216
  go_wp2_with (first
   |(go_at_call 30;(with_reducible refine(c1 _).mono ?_);rintro e w' ⟨rfl,rfl⟩)
   |(go_at_call 30;(with_reducible refine(c2 _).mono ?_);rintro e w' ⟨rfl,rfl⟩))
  go_ret;exact⟨ret_str HR.out.symm,rfl⟩

theorem info_str:(prog.info? 9).map (fun i=>(i.zero,i.size,i.bytes))=some (some (.string ByteArray.empty),1,16):=by kernel_rfl
theorem frm_none (s n:Int) (h:frmB s n=false):frm s n=64:=by
 unfold frmB at h;rw [decide_eq_false_iff_not,Decidable.not_not]at h;unfold frm;rw [h];rfl
theorem rows_len (s:Int): ∀n:Nat,(rowsU s n).length≤n
 |0=>Xa _
 |n+1=>by
  have e:rowsU s (n+1)=rowsU s n++(if isSt s (n:Int)=true then [((n:Int),endOf s n)]else []):=rfl
  have:=rows_len s n
  rw [e,Xg]
  split
  ·simp;omega
  ·simp;omega
def rowsT (s:Int) (n:Nat):List (List UInt8):=(rowsU s n).map rowT
theorem tail_len (sep:List UInt8) (k:Nat): ∀r:List (List UInt8),(∀x∈r,x.length≤k)→(Lib.joinTail sep r).length≤r.length*(sep.length+k)
 | [],_=>by simp [Lib.joinTail]
 |x::r,h=>by
  have:=tail_len sep k r (fun y hy=>h y (Xy _ hy))
  have h2:=h x (XF ..)
  simp only [Lib.joinTail,XV,List.flatten_cons,Xg,Xr]at this⊢
  rw [Nat.succ_mul]
  omega
theorem join_len (sep:List UInt8) (k:Nat) (r:List (List UInt8)) (h: ∀x∈r,x.length≤k):(Lib.join r sep).length≤k+r.length*(sep.length+k):=by
 cases r with
 |nil=>simp [Lib.join_nil]
 |cons x r=>
  rw [Lib.join_cons,Xg,Xr,Nat.succ_mul];have:=tail_len sep k r (fun y hy=>h y (Xy _ hy));have:=h x (XF ..);omega
theorem not_eq (s:Int) (h:0≤s∧s≤18446744073709551615):bits .xor .u64 IntKind.u64.max s=ntS s:=by
 rw [show IntKind.u64.max=18446744073709551615 from rfl,u64_xor _ s (by omega) (by omega) h.1 (by omega)];obtain⟨S,rfl⟩:=Xh h.1;have e:ntS (S:Int)=((2^64-(S+1):Nat):Int):=by unfold ntS;omega
 rw [e];congr 1;rw [show((18446744073709551615:Int).toNat)=2^64-1 from rfl,XI];apply Nat.eq_of_testBit_eq;intro i;rw [Nat.testBit_xor,Nat.testBit_two_pow_sub_one,Nat.testBit_two_pow_sub_succ (by omega)];by_cases g:i<64
 ·rw [decide_eq_true g];cases S.testBit i<;>rfl
 ·rw [decide_eq_false g,Nat.testBit_lt_two_pow (show S<2^i from Xb (show S<2^64 by omega) (Yd (by omega) (by omega)))];rfl
theorem join_own (rows:List (List UInt8)) (sep:List UInt8) (w:World) (base:Nat) (ao:Option Addr) (cv:Nat) (hown:w.ownsRow base 9 1 (.slice ao rows.length cv) rows.length (rows.map strV)) (hl:rows.length≤100) (hk: ∀x∈rows,x.length≤1000) (hsep:sep.length≤10):
  CB 60 #[.slice ao rows.length cv,.string ⟨sep.toArray⟩] w (strV (Lib.join rows sep)):=by
 rcases hown.2 with⟨h,hn⟩|⟨g,cap,cur,h,hb,hh,hc,hm,hcs,ht⟩
 ·have hr:rows=[]:=XW hn;subst hr;exact(strings_Join_none ao cv ⟨sep.toArray⟩ w).mono fun e w' ⟨he,hw⟩=>⟨he,hw▸Below.refl _ _⟩
 ·simp only [Value.slice.injEq]at h;obtain⟨rfl,_,rfl⟩:=h;have hgl:g<w.heap.size:=by
   rcases Nat.lt_or_ge g w.heap.size with h|h
   ·exact h
   ·rw [Array.getElem?_eq_none h]at hh;cases hh
  have em:(rows.map (fun x=>(⟨x.toArray⟩:ByteArray))).map (·.data.toList)=rows:=by
   rw [List.map_map];conv=>rhs;rw [←List.map_id rows]
   exact List.map_congr_left fun x _=>by simp
  have hjl:=join_len sep 1000 rows hk;have hle:rows.length*(sep.length+1000)≤100*1010:=Nat.mul_le_mul hl (by omega)
  have := strings_Join g 0 cv (rows.map (fun x => (⟨x.toArray⟩ : ByteArray))) ⟨sep.toArray⟩ w (fun j x hj => by
   rw [XQ,XH]at hj;obtain⟨y,hy,rfl⟩:=hj;have:=hown.cells rfl j (strV y) (by rw [XQ,hy];rfl);have e:((⟨g,0,none⟩:Addr).add j)=⟨g,0+j,none⟩:=by simp [Addr.add];intro h;exact h.symm
   rw [←e];exact this) hgl (by rw [XE];omega) (by rw [XE];omega) (by rw [em];exact Xc hjl (by omega))
  rw [XE,em]at this;exact this
theorem rowT_len (s:Int) (n:Nat) (hs:U s) (h60: ∀n,inS s n=true→n≤59): ∀x∈rowsT s n,x.length≤1000:=by
 intro x hx;unfold rowsT at hx;rw [XS]at hx;obtain⟨p,hp,rfl⟩:=hx;have key: ∀k:Nat,∀p∈rowsU s k,0≤p.1∧p.1<100∧0≤p.2∧p.2<100:=by
  intro k;induction k with
  |zero=>intro p hp;cases hp
  |succ k ih=>
   intro p hp;have e:rowsU s (k+1)=rowsU s k++(if isSt s (k:Int)=true then [((k:Int),endOf s k)]else []):=rfl;rw [e,Xp]at hp;rcases hp with hp|hp
   ·exact ih p hp
   ·by_cases g:isSt s (k:Int)=true
    ·rw [if_pos g,XA]at hp;subst hp;unfold isSt at g;rw [Xq]at g;obtain⟨e1,e2,e3,_⟩:=end_spec hs h60 g.1;have:=inS_bd g.1;unfold endOf;exact⟨by omega,by omega,by omega,by omega⟩
    ·rw [if_neg g]at hp;cases hp
 obtain⟨p1,p2,p3,p4⟩:=key n p hp;have l1:=dec_len p.1.toNat (by omega);have l2:=dec_len p.2.toNat (by omega);unfold rowT;split
 ·omega
 ·simp only [Xg,Xr,XK];omega
theorem word_end {s m:Int} (hs:U s) (hm0:0≤m) (hm1:m≤60) (h:frmB s m=false):wordT s false=Lib.join (rowsT s m.toNat) [44]:=by
 have h1:=rows_to (s:=s) hm0 (show m≤64 by omega) (fun j h1 _=>frm_no s m hs hm0 h j h1);have h2:(64:Int).toNat=64:=rfl;rw [h2]at h1;unfold wordT rowsT;rw [h1];simp
theorem cell_new1 (w:World) (x:Value) (t:TypeId): ∀(j:Nat) u,([x]:List Value)[j]? =some u→(w.alloc (.cells #[x] t)).cell? ((⟨w.heap.size,0,none⟩:Addr).add j)=some u:=by
 intro j u hj;match j,hj with
 |0,hj=>simp at hj;subst hj;simp [Addr.add]
end Crn
namespace RCrn
open Go.RowKit Lai Civ Crn

theorem str_add (a b:List UInt8):((⟨a.toArray⟩:ByteArray)++(⟨b.toArray⟩:ByteArray))=⟨(a++b).toArray⟩:=by
 apply ByteArray.ext;simp

theorem own_below {w w':World} {base B:Nat} {e:TypeId} {size n:Nat} {v:Value} {xs:List Value} (h:w.ownsRow base e size v n xs) (hb:Below B w w') (hv: ∀g,v.ownBlock=some g→g<B):w'.ownsRow base e size v n xs:=by
 refine⟨h.1,?_⟩;rcases h.2 with h|⟨g,cap,cur,h1,h2,h3,h4⟩
 ·exact Or.inl h
 ·refine Or.inr ⟨g,cap,cur,h1,h2,?_,h4⟩;rw [hb.block g (hv g (by rw [h1];rfl))];exact h3
end RCrn
namespace Crn
open Go.RowKit Lai Civ
variable {wd:Nat→List UInt8} {mi ho da mn we:Int} {ad aw:Bool} {B k:Nat} {w wr:World}

def PwR (s:Int) (w:World) (v f o:Value) (wr:World):Prop:= ∃(m:Int) (ao:Option Addr) (cv:Nat),0≤m∧m≤60∧(m=0∨inS s m=false)∧f=.int .i64 (frm s m)∧o=.bool (frmB s m)∧v=.slice ao (rowsT s m.toNat).length cv∧
 wr.ownsRow w.heap.size 9 1 v (rowsT s m.toNat).length ((rowsT s m.toNat).map strV)∧Below w.heap.size w wr∧TabIs64 wr

theorem word_no (s:Int) (w:World) (hs:U s) (h60: ∀n,inS s n=true→n≤59) (hT:TabIs64 w):
  CB 184 #[.int .u64 s,.bool false] w (strV (wordT s false)):=by
 obtain⟨i0,hi,hz0,hz1,hz2⟩:=info_parts info_str;have c0:=from_any s 0 w hs (by omega) hT;have HS:=zh hs;have H60:=zh h60;have HT:=zh hT;clear hs h60 hT;go_enter func184,ntmps184;go_wp2_with(go_at_call 127;(with_reducible refine zq c0 ?_))
 clear c0;go_loopw [5,6,7] (fun v f o wr=>PwR s w v f o wr) (fun _ f _ _=>(65-intOf f).toNat)
 case atStart=>exact⟨0,none,0,by omega,by omega,Or.inl rfl,rfl,rfl,rfl,XO _ _ _ _,Below.refl _ _,HT.out⟩
 case round=>
  obtain⟨m,ao,cv,hm0,hm1,hms,rfl,rfl,rfl,hown,hnx,hTr⟩:=hrel;cases hb:frmB s m
  ·have HW:Hid (wordT s false=Lib.join (rowsT s m.toNat) [44]):=word_end HS.out hm0 hm1 hb;have hlr:(rowsT s m.toNat).length≤64:=by unfold rowsT;rw [XE];have:=rows_len s m.toNat;omega
   have cJ:=join_own (rowsT s m.toNat) [44] wr w.heap.size ao cv hown (by omega) (rowT_len s m.toNat HS.out H60.out) (by decide);clear hown hlr;go_wp2_with(go_at_call 60;(with_reducible refine zg cJ fun w5 hb5=>?_))
   go_ret;exact⟨ret_str HW.out.symm,bstep hnx hb5⟩
  ·obtain⟨f1,f2,f3,f4⟩:=frm_yes s m HS.out hm0 hb;obtain⟨e1,e2,e3,e4,e5⟩:=end_spec HS.out H60.out f3;have h59:=H60.out _ f3;have c2:CS 127 #[.int .u64 (bits .xor .u64 IntKind.u64.max s),.int .i64 (frm s m)] wr (.tuple #[.int .i64 (frm (ntS s) (frm s m)),.bool (frmB (ntS s) (frm s m))]):=by
    rw [not_eq s HS.out];exact from_any (ntS s) (frm s m) wr (ntS_u s HS.out) (by omega) hTr
   have hp:inS s (frm s m-1)=false:=by
    by_cases g:m=frm s m
    ·rcases hms with h|h
     ·rw [←g,h];exact inS_neg _ _ (by omega)
     ·rw [g,f3]at h;cases h
    ·exact f4 _ (by omega) (by omega)
   have HR:Hid (rowsT s (frm (ntS s) (frm s m)).toNat=rowsT s m.toNat++ [rowT (frm s m,frm (ntS s) (frm s m)-1)]):=by
    unfold Hid rowsT;rw [rows_on HS.out H60.out f3 hp,rows_to hm0 f1 f4,X2];rfl
   have hlr:(rowsT s m.toNat).length≤64:=by unfold rowsT;rw [XE];have:=rows_len s m.toNat;omega
   have HE:=zh e4;have HB:=zh e1;have cR:=fun w=>row_any (frm s m) (frm (ntS s) (frm s m)-1) (by omega) (by omega) w;have c3:=fun w hT=>from_any s (frm (ntS s) (frm s m)) w HS.out (by omega) hT;have HF:Hid (frm s m<frm s (frm (ntS s) (frm s m))∧frm s (frm (ntS s) (frm s m))≤64):=by
    refine⟨?_,(frm_bd s _ HS.out (by omega)).2⟩;cases g:frmB s (frm (ntS s) (frm s m))
    ·rw [frm_none _ _ g];omega
    ·have:=(frm_yes s _ HS.out (by omega) g).1;omega
   generalize frmB (ntS s) (frm s m)=bb at c2 HB;generalize hb0:frm (ntS s) (frm s m)=b at c2 HR HE cR c3 HF e2 e3 e4;have f0:0≤frm s m:=by omega
   clear e1 e4 e5 f4 f3 hp hms hb0;have hsize:=hnx.size
   go_wp2_with (first
    |(go_at_call 127;(with_reducible refine zq c2 ?_))
    |(go_at_call 216;(with_reducible refine zq (cR _) ?_))
    |(at_builtin;refine wpList_append_own _ rfl _ _ 23 rfl w.heap.size 9 i0 (.string ByteArray.empty) 1 16 underlying23 hi hz0 hz1 hz2 rfl (by decide) _ _ _ rfl (hown.alloc _) ⟨wr.heap.size,0,none⟩ 1 1 [strV (rowT (frm s m,b-1))] rfl rfl (cell_new1 _ _ _) (fun x hx=>by simp at hx;subst hx;rfl) (by unfold maxLen;omega) (by omega) (by simp;omega) ?_;intro v' w3 hown' hgrow3 hnil3;have hB3:Below w.heap.size w w3:=((hnx.alloc hsize _).grown hgrow3 (by simp;omega) (fun q hq=>(hown.lt q hq).1));have hT3:TabIs64 w3:=HT.out.below hB3 (Xa _))
    |(go_at_call 127;(with_reducible refine zq (c3 _ hT3) ?_)))
   go_roundw
   case rel=>
    obtain⟨g3,cap3,hv3⟩: ∃g3 cap3,v'=.slice (some ⟨g3,0,none⟩) ((rowsT s m.toNat).length+1) cap3:=by
     rcases hown'.2 with⟨_,h⟩|⟨g3,cap3,_,h,_⟩
     ·omega
     ·exact⟨g3,cap3,h⟩
    refine⟨b,some ⟨g3,0,none⟩,cap3,by omega,by omega,Or.inr HE.out,rfl,rfl,?_,?_,hB3,hT3⟩
    ·rw [hv3,HR.out];simp
    ·rw [HR.out,X2,Xg];exact hown'
   case measure=>have:=HF.out;simp [intOf];omega

theorem word_star (s:Int) (w:World):CB 184 #[.int .u64 s,.bool true] w (strV (wordT s true)):=by
 go_enter func184,ntmps184;go_wp2;go_ret;exact⟨ret_str (by unfold wordT;rw [if_pos rfl]),Below.refl _ _⟩
theorem word_any (s:Int) (star:Bool) (w:World) (hs:U s) (h60: ∀n,inS s n=true→n≤59) (hT:TabIs64 w):
  CB 184 #[.int .u64 s,.bool star] w (strV (wordT s star)):=by
 cases star
 ·exact word_no s w hs h60 hT
 ·exact word_star s w
def wds (mi ho da mn we:Int) (ad aw:Bool):Nat→List UInt8
 |0=>wordT mi (mi==1152921504606846975)
 |1=>wordT ho (ho==16777215)
 |2=>wordT da ad
 |3=>wordT mn (mn==8190)
 |_=>wordT we aw
structure PrW (wd:Nat→List UInt8) (mi ho da mn we:Int) (ad aw:Bool) (B k:Nat) (w wr:World):Prop where
 box: ∀o,wr.cell? ⟨w.heap.size,o,none⟩=(#[Value.int .u64 mi,.int .u64 ho,.int .u64 da,.int .u64 mn,.int .u64 we,.bool ad,.bool aw])[o]?
 z1:w.heap.size<B
 z2:B<wr.heap.size
 done: ∀j,j<k→wr.cell? ⟨B,j,none⟩=some (strV (wd j))
 rest: ∀j,k≤j→j<5→wr.cell? ⟨B,j,none⟩=some (.string ⟨#[]⟩)
 free: ∀j,wr.frozen? ⟨B,j,none⟩=false
 bel:Below w.heap.size w wr
theorem prW_call {w':World} (h:PrW wd mi ho da mn we ad aw B k w wr) (hb:Below wr.heap.size wr w'):PrW wd mi ho da mn we ad aw B k w w':=
 ⟨fun o=>(hb.cell (p:=⟨w.heap.size,o,none⟩) (Nat.lt_trans h.z1 h.z2)).trans (h.box o),h.z1,Xb h.z2 hb.size,fun j hj=>(hb.cell (p:=⟨B,j,none⟩) h.z2).trans (h.done j hj),fun j h1 h2=>(hb.cell (p:=⟨B,j,none⟩) h.z2).trans (h.rest j h1 h2),fun j=>(hb.frozen (p:=⟨B,j,none⟩) h.z2).trans (h.free j),h.bel.trans (hb.mono (Xw (Nat.lt_trans h.z1 h.z2)))⟩
theorem prW_set (h:PrW wd mi ho da mn we ad aw B k w wr) (hk:k<5):PrW wd mi ho da mn we ad aw B (k+1) w (wr.setCell ⟨B,k,none⟩ (strV (wd k))):=by
 have b:Below B wr (wr.setCell ⟨B,k,none⟩ (strV (wd k))):=(Below.refl B wr).setCell (Xa _) _;have hc:=h.rest k (Xa _) hk;refine⟨fun o=>(b.cell (p:=⟨w.heap.size,o,none⟩) h.z1).trans (h.box o),h.z1,Xb h.z2 b.size,fun j hj=> ?_,fun j h1 h2=> ?_,fun j=> ?_,h.bel.setCell (Xw h.z1) _⟩
 ·by_cases e:j=k
  ·subst e;simp [go_sem,hc]
  ·rw [Xd _ _ _ _ (fun q=>e (by cases q;rfl))];exact h.done j (by omega)
 ·rw [Xd _ _ _ _ (fun q=>by cases q;omega)];exact h.rest j (by omega) h2
 ·simp [h.free]
def PrR (wd:Nat→List UInt8) (mi ho da mn we:Int) (ad aw:Bool) (B:Nat) (w:World) (i:Value) (wr:World):Prop:= ∃k:Nat,k≤5∧i=.int .i64 k∧PrW wd mi ho da mn we ad aw B k w wr
def cronT (wd:Nat→List UInt8):List UInt8:=Lib.join [wd 0,wd 1,wd 2,wd 3,wd 4] [32]

theorem print_yes (mi ho da mn we:Int) (ad aw:Bool) (w:World) (hB:BdsAt w) (hT:TabIs64 w) (b0:U mi) (b1:U ho) (b2:U da) (b3:U mn) (b4:U we) (hc:chkB mi ho da mn we ad aw=true)
  (hlen: ∀j,(wds mi ho da mn we ad aw j).length≤1000):
  CB 137 #[cronV mi ho da mn we ad aw] w (.tuple #[strV (cronT (wds mi ho da mn we ad aw)),.int .i64 0]):=by
 have G:=good_of b0 b1 b2 b3 b4 hc;have q0:=fun w hT=>word_any mi (mi==1152921504606846975) w b0 (fun n h=>G.gmi.2 n h) hT;have q1:=fun w hT=>word_any ho (ho==16777215) w b1 (fun n h=>by have:=G.gho.2 n h;omega) hT;have q2:=fun w hT=>word_any da ad w b2 (fun n h=>by have:=G.g31 n h;omega) hT;have q3:=fun w hT=>word_any mn (mn==8190) w b3 (fun n h=>by have:=G.g12 n h;omega) hT;have q4:=fun w hT=>word_any we aw w b4 (fun n h=>by have:=G.gwe.2 n h;omega) hT;have cc:=fun w hB=>check_yes mi ho da mn we ad aw w hB hc;have HB:=zh hB;have HT:=zh hT;have HL:=zh hlen;clear G b0 b1 b2 b3 b4 hc hlen hT;generalize hwd:wds mi ho da mn we ad aw=wd at HL;have HW:=zh hwd;clear hwd;go_enter func137,ntmps137
 go_wp2_with (first
  |(go_at_call 126;(with_reducible refine zg (cc _ (hB.below (balloc _) (Xa _))) fun w1 hb1=>?_);have hz1:w.heap.size<w1.heap.size:=(by have:=hb1.size;simp at this;omega);have hC1: ∀o,w1.cell? ⟨w.heap.size,o,none⟩=(#[Value.int .u64 mi,.int .u64 ho,.int .u64 da,.int .u64 mn,.int .u64 we,.bool ad,.bool aw])[o]? :=(fun o=>by rw [(bcell hb1).1 _ _ (by simp)];simp);have hw1:Hid (Below w.heap.size w w1):=(balloc _).trans (hb1.mono (by simp)))
  |(go_at_call 173;(with_reducible refine zg (sets_any _ _ _ _ _ _ _ _) fun w2 hb2=>?_)))
 have hP0:PrW wd mi ho da mn we ad aw w1.heap.size 0 w w2:=by
  refine prW_call (wr:=w1.alloc (.cells #[.string ⟨#[]⟩,.string ⟨#[]⟩,.string ⟨#[]⟩,.string ⟨#[]⟩,.string ⟨#[]⟩] 279)) ⟨fun o=> ?_,hz1,by simp,fun j hj=>absurd hj (by omega),fun j h1 h2=> ?_,fun j=> ?_,bstep hw1 (balloc _)⟩ hb2
  ·rw [(bcell (balloc _)).1 _ _ hz1];exact hC1 o
  ·match j,h2 with
   |0,_=>simp
   |1,_=>simp
   |2,_=>simp
   |3,_=>simp
   |4,_=>simp
  ·simp
 clear hb1 hb2 hC1 hw1;go_loopw [16] (fun i wr=>PrR wd mi ho da mn we ad aw w1.heap.size w i wr) (fun i _=>5-(intOf i).toNat)
 case atStart=>exact⟨0,by omega,rfl,hP0⟩
 case round=>
  clear hP0;obtain⟨k,hk,rfl,hP⟩:=hrel;have HP:=zh hP;have hBr:BdsAt wr:=HB.out.below hP.bel (Xa _);have hTr:TabIs64 wr:=HT.out.below hP.bel (Xa _);have hbox:=hP.box;have hz2:=hP.z2;have hz0:=hP.z1;have hfr:=hP.free;have hre:=hP.rest;clear hP;obtain rfl|rfl|rfl|rfl|rfl|rfl:k=0∨k=1∨k=2∨k=3∨k=4∨k=5:=by omega
  ·have c0:wr.cell? ⟨2,0,none⟩=some (.int .i64 0):=hBr 0 (by decide);have c1:wr.cell? ⟨2,1,none⟩=some (.int .i64 59):=hBr 1 (by decide);have hi: ∀u,(Instr.index 151 (.agg #[.int .u64 mi,.int .u64 ho,.int .u64 da,.int .u64 mn,.int .u64 we]) (.int .i64 0)).run prog u=.ok (.int .u64 mi) u:=fun _=>by kernel_rfl
   clear hre hfr
   go_wp2_with (first
    |(go_at_call 174;(with_reducible refine zg (all_min _) fun w3 hb3=>?_);have HP3:Hid (PrW wd mi ho da mn we ad aw w1.heap.size 0 w w3):=prW_call HP.out hb3;have hT3:TabIs64 w3:=hTr.below hb3 (Xa _);have hbox3:=HP3.out.box;have hz3:=HP3.out.z2)
    |(go_at_call 184;(with_reducible refine zg (q0 _ hT3) fun w4 hb4=>?_);have HP4:Hid (PrW wd mi ho da mn we ad aw w1.heap.size 0 w w4):=prW_call HP3.out hb4;have hr4:=HP4.out.rest 0 (by omega) (by omega);have hf4:=HP4.out.free 0))
   go_roundw
   case rel=>exact⟨0+1,by omega,rfl,by have:=prW_set HP4.out (by omega);rw [←HW.out]at this⊢;exact this⟩
   case measure=>simp [intOf]
  ·have c0:wr.cell? ⟨2,2,none⟩=some (.int .i64 0):=hBr 2 (by decide);have c1:wr.cell? ⟨2,3,none⟩=some (.int .i64 23):=hBr 3 (by decide);have hi: ∀u,(Instr.index 151 (.agg #[.int .u64 mi,.int .u64 ho,.int .u64 da,.int .u64 mn,.int .u64 we]) (.int .i64 1)).run prog u=.ok (.int .u64 ho) u:=fun _=>by kernel_rfl
   clear hre hfr
   go_wp2_with (first
    |(go_at_call 174;(with_reducible refine zg (all_hour _) fun w3 hb3=>?_);have HP3:Hid (PrW wd mi ho da mn we ad aw w1.heap.size 1 w w3):=prW_call HP.out hb3;have hT3:TabIs64 w3:=hTr.below hb3 (Xa _);have hbox3:=HP3.out.box;have hz3:=HP3.out.z2)
    |(go_at_call 184;(with_reducible refine zg (q1 _ hT3) fun w4 hb4=>?_);have HP4:Hid (PrW wd mi ho da mn we ad aw w1.heap.size 1 w w4):=prW_call HP3.out hb4;have hr4:=HP4.out.rest 1 (by omega) (by omega);have hf4:=HP4.out.free 1))
   go_roundw
   case rel=>exact⟨1+1,by omega,rfl,by have:=prW_set HP4.out (by omega);rw [←HW.out]at this⊢;exact this⟩
   case measure=>simp [intOf]
  ·have c0:wr.cell? ⟨2,4,none⟩=some (.int .i64 1):=hBr 4 (by decide);have c1:wr.cell? ⟨2,5,none⟩=some (.int .i64 31):=hBr 5 (by decide);have hi: ∀u,(Instr.index 151 (.agg #[.int .u64 mi,.int .u64 ho,.int .u64 da,.int .u64 mn,.int .u64 we]) (.int .i64 2)).run prog u=.ok (.int .u64 da) u:=fun _=>by kernel_rfl
   clear hre hfr
   go_wp2_with (first
    |(go_at_call 174;(with_reducible refine zg (all_day _) fun w3 hb3=>?_);have HP3:Hid (PrW wd mi ho da mn we ad aw w1.heap.size 2 w w3):=prW_call HP.out hb3;have hT3:TabIs64 w3:=hTr.below hb3 (Xa _);have hbox3:=HP3.out.box;have hz3:=HP3.out.z2)
    |(go_at_call 184;(with_reducible refine zg (q2 _ hT3) fun w4 hb4=>?_);have HP4:Hid (PrW wd mi ho da mn we ad aw w1.heap.size 2 w w4):=prW_call HP3.out hb4;have hr4:=HP4.out.rest 2 (by omega) (by omega);have hf4:=HP4.out.free 2))
   go_roundw
   case rel=>exact⟨2+1,by omega,rfl,by have:=prW_set HP4.out (by omega);rw [←HW.out]at this⊢;exact this⟩
   case measure=>simp [intOf]
  ·have c0:wr.cell? ⟨2,6,none⟩=some (.int .i64 1):=hBr 6 (by decide);have c1:wr.cell? ⟨2,7,none⟩=some (.int .i64 12):=hBr 7 (by decide);have hi: ∀u,(Instr.index 151 (.agg #[.int .u64 mi,.int .u64 ho,.int .u64 da,.int .u64 mn,.int .u64 we]) (.int .i64 3)).run prog u=.ok (.int .u64 mn) u:=fun _=>by kernel_rfl
   clear hre hfr
   go_wp2_with (first
    |(go_at_call 174;(with_reducible refine zg (all_mon _) fun w3 hb3=>?_);have HP3:Hid (PrW wd mi ho da mn we ad aw w1.heap.size 3 w w3):=prW_call HP.out hb3;have hT3:TabIs64 w3:=hTr.below hb3 (Xa _);have hbox3:=HP3.out.box;have hz3:=HP3.out.z2)
    |(go_at_call 184;(with_reducible refine zg (q3 _ hT3) fun w4 hb4=>?_);have HP4:Hid (PrW wd mi ho da mn we ad aw w1.heap.size 3 w w4):=prW_call HP3.out hb4;have hr4:=HP4.out.rest 3 (by omega) (by omega);have hf4:=HP4.out.free 3))
   go_roundw
   case rel=>exact⟨3+1,by omega,rfl,by have:=prW_set HP4.out (by omega);rw [←HW.out]at this⊢;exact this⟩
   case measure=>simp [intOf]
  ·have c0:wr.cell? ⟨2,8,none⟩=some (.int .i64 0):=hBr 8 (by decide);have c1:wr.cell? ⟨2,9,none⟩=some (.int .i64 6):=hBr 9 (by decide);have hi: ∀u,(Instr.index 151 (.agg #[.int .u64 mi,.int .u64 ho,.int .u64 da,.int .u64 mn,.int .u64 we]) (.int .i64 4)).run prog u=.ok (.int .u64 we) u:=fun _=>by kernel_rfl
   clear hre hfr
   go_wp2_with (first
    |(go_at_call 174;(with_reducible refine zg (all_week _) fun w3 hb3=>?_);have HP3:Hid (PrW wd mi ho da mn we ad aw w1.heap.size 4 w w3):=prW_call HP.out hb3;have hT3:TabIs64 w3:=hTr.below hb3 (Xa _);have hbox3:=HP3.out.box;have hz3:=HP3.out.z2)
    |(go_at_call 184;(with_reducible refine zg (q4 _ hT3) fun w4 hb4=>?_);have HP4:Hid (PrW wd mi ho da mn we ad aw w1.heap.size 4 w w4):=prW_call HP3.out hb4;have hr4:=HP4.out.rest 4 (by omega) (by omega);have hf4:=HP4.out.free 4))
   go_roundw
   case rel=>exact⟨4+1,by omega,rfl,by have:=prW_set HP4.out (by omega);rw [←HW.out]at this⊢;exact this⟩
   case measure=>simp [intOf]
  ·have cJ : CB 60 #[.slice (some ⟨w1.heap.size, 0, none⟩) 5 5, .string ⟨#[32]⟩] wr (strV (cronT wd)) := strings_Join w1.heap.size 0 5 [⟨(wd 0).toArray⟩, ⟨(wd 1).toArray⟩, ⟨(wd 2).toArray⟩, ⟨(wd 3).toArray⟩, ⟨(wd 4).toArray⟩] ⟨#[32]⟩ wr (fun j x hj => by
    match j,hj with
    |0,hj=>cases hj;exact HP.out.done 0 (by omega)
    |1,hj=>cases hj;exact HP.out.done 1 (by omega)
    |2,hj=>cases hj;exact HP.out.done 2 (by omega)
    |3,hj=>cases hj;exact HP.out.done 3 (by omega)
    | 4, hj => cases hj; exact HP.out.done 4 (by omega)) hz2 (by simp) (by simp) (by
     refine Xc (join_len [32] 1000 [wd 0,wd 1,wd 2,wd 3,wd 4] (fun x hx=> ?_)) (by simp);simp only [XG,List.not_mem_nil,or_false]at hx;rcases hx with rfl|rfl|rfl|rfl|rfl<;>exact HL.out _)
   clear hre hfr;go_wp2_with(go_at_call 60;(with_reducible refine zg cJ fun w5 hb5=>?_))
   go_ret2;exact⟨rfl,bstep HP.out.bel hb5⟩
