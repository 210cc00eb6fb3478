/- A part. -/
import Derived.Test.YtaekecgbdegemaaGreatDoorPtTextWalks
import Derived.Test.YtaekecgbdegemaaGreatDoorPtRefSets
set_option linter.all false
open Go.Proofs.Tryz
set_option maxRecDepth 8000
namespace Go.Proofs.YtaekecgbdegemaaGreatDoor
namespace RCrn
open Go.RowKit Lai Civ Cal Crn RCiv
variable {k:Nat} {mi ho da mn we lo hi s:Int} {ad aw:Bool}


def sK (mi ho da mn we:Int):Nat→Int
 |0=>mi
 |1=>ho
 |2=>da
 |3=>mn
 |_=>we
def loK:Nat→Int
 |0=>0
 |1=>0
 |2=>1
 |3=>1
 |_=>0
def hiK:Nat→Int
 |0=>59
 |1=>23
 |2=>31
 |3=>12
 |_=>6
def starK (mi ho mn:Int) (ad aw:Bool):Nat→Bool
 |0=>mi==1152921504606846975
 |1=>ho==16777215
 |2=>ad
 |3=>mn==8190
 |_=>aw
theorem five (h:k<5):k=0∨k=1∨k=2∨k=3∨k=4:=by omega
theorem wds_k (h:k<5):wds mi ho da mn we ad aw k=wordT (sK mi ho da mn we k) (starK mi ho mn ad aw k):=by
 rcases five h with rfl|rfl|rfl|rfl|rfl<;>rfl
theorem lim_k (h:k<5):0≤loK k∧loK k≤1∧loK k<hiK k∧hiK k≤59:=by
 rcases five h with rfl|rfl|rfl|rfl|rfl<;>decide
theorem set_k (G:Crn.Good mi ho da mn we) (b0:U mi) (b1:U ho) (b2:U da) (b3:U mn) (b4:U we) (hk:k<5):
  U (sK mi ho da mn we k)∧ ∀n,inS (sK mi ho da mn we k) n=true→loK k≤n∧n≤hiK k:=by
 rcases five hk with rfl|rfl|rfl|rfl|rfl
 ·exact⟨b0,fun n h=>⟨(inS_bd h).1,G.gmi.2 n h⟩⟩
 ·exact⟨b1,fun n h=>⟨(inS_bd h).1,G.gho.2 n h⟩⟩
 ·exact⟨b2,fun n h=>G.g31 n h⟩
 ·exact⟨b3,fun n h=>G.g12 n h⟩
 ·exact⟨b4,fun n h=>⟨(inS_bd h).1,G.gwe.2 n h⟩⟩
theorem full_int {full:Int} {P:Nat→Prop} [DecidablePred P] (hlo:0≤lo) (h: ∀k:Nat,inS full (k:Int)=decide (P k)) (hP: ∀k:Nat,P k↔lo≤(k:Int)∧(k:Int)≤hi) (n:Int):inS full n=decide (lo≤n∧n≤hi):=by
 by_cases g:0≤n
 ·obtain⟨k,rfl⟩:=Xh g;rw [h,decide_eq_decide];exact hP k
 ·rw [inS_neg _ _ (by omega),eq_comm,decide_eq_false_iff_not];omega
theorem word_hi (hs:U s) (hlo:0≤lo) (hlh:lo<hi) (h59:hi≤59) (hsub: ∀n,inS s n=true→lo≤n∧n≤hi):wordT s false=Lib.join (rowsT s (hi+1).toNat) [44]:=by
 refine word_end hs (by omega) (by omega) ?_;cases h:frmB s (hi+1)
 ·rfl
 ·obtain⟨f1,f2,f3,f4⟩:=frm_yes s (hi+1) hs (by omega) h;have:=hsub _ f3;omega
theorem word_st (s:Int):wordT s true=[42]:=by unfold wordT;rw [if_pos rfl]

theorem row_len5 {s:Int} (hs:U s) (h60: ∀n,inS s n=true→n≤59): ∀k:Nat,∀p∈rowsU s k,(rowT p).length≤5
 |0,p,hp=>by cases hp
 |k+1,p,hp=>by
  have e:rowsU s (k+1)=rowsU s k++(if isSt s (k:Int)=true then [((k:Int),endOf s k)]else []):=rfl
  rw [e,Xp]at hp
  rcases hp with hp|hp
  ·exact row_len5 hs h60 k p hp
  ·by_cases g:isSt s (k:Int)=true
   ·rw [if_pos g,XA]at hp
    subst hp
    unfold isSt at g
    rw [Xq]at g
    obtain⟨e1,e2,e3,_⟩:=end_spec hs h60 g.1
    have:=inS_bd g.1
    have l1:=dec_len (k:Int).toNat (by omega)
    have l2:=dec_len (endOf s k).toNat (by unfold endOf;omega)
    unfold rowT
    dsimp only
    split
    ·omega
    ·simp only [Xg,Xr,XK];omega
   ·rw [if_neg g]at hp;cases hp
theorem word_len (star:Bool) (hs:U s) (hsub: ∀n,inS s n=true→lo≤n∧n≤hi) (hl:0≤lo∧lo≤1∧lo<hi∧hi≤59):(wordT s star).length≤1000:=by
 cases star
 ·rw [word_hi hs hl.1 hl.2.2.1 hl.2.2.2 hsub];have h5: ∀x∈rowsT s (hi+1).toNat,x.length≤5:=by
   intro x hx;unfold rowsT at hx;rw [XS]at hx;obtain⟨p,hp,rfl⟩:=hx;exact row_len5 hs (fun n h=>by have:=hsub n h;omega) _ p hp
  have h1:=join_len [44] 5 (rowsT s (hi+1).toNat) h5;have h2:(rowsT s (hi+1).toNat).length≤64:=by unfold rowsT;rw [XE];have:=rows_len s (hi+1).toNat;omega
  have h3:(rowsT s (hi+1).toNat).length*(([44]:List UInt8).length+5)≤64*6:=Nat.mul_le_mul h2 (by decide);omega
 ·rw [word_st];decide
theorem words_len (b0:U mi) (b1:U ho) (b2:U da) (b3:U mn) (b4:U we) (hc:chkB mi ho da mn we ad aw=true): ∀j,(wds mi ho da mn we ad aw j).length≤1000:=by
 have key: ∀k,k<5→(wds mi ho da mn we ad aw k).length≤1000:=fun k hk=>by
  obtain⟨h1,h2⟩:=set_k (good_of b0 b1 b2 b3 b4 hc) b0 b1 b2 b3 b4 hk;rw [wds_k hk];exact word_len _ h1 h2 (lim_k hk)
 intro j;match j with
 |0=>exact key 0 (by decide)
 |1=>exact key 1 (by decide)
 |2=>exact key 2 (by decide)
 |3=>exact key 3 (by decide)
 |j+4=>exact key 4 (by decide)
theorem cron_len (hl: ∀j,(wds mi ho da mn we ad aw j).length≤1000):(cronT (wds mi ho da mn we ad aw)).length≤7000:=by
 unfold cronT
 have := join_len [32] 1000 [wds mi ho da mn we ad aw 0, wds mi ho da mn we ad aw 1, wds mi ho da mn we ad aw 2, wds mi ho da mn we ad aw 3, wds mi ho da mn we ad aw 4] (fun x hx => by
  simp only [XG,List.not_mem_nil,or_false]at hx;rcases hx with rfl|rfl|rfl|rfl|rfl<;>exact hl _)
 simp only [Xr,XK]at this;omega
