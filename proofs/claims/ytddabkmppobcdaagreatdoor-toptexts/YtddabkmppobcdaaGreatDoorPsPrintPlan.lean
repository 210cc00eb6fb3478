/- What plan.Print and the document's PlanText write: numbers in decimal, lines. -/
import Derived.Test.YtddabkmppobcdaaGreatDoorPsCronMatch
import Derived.Test.YtddabkmppobcdaaGreatDoorPsParsePlain
import Derived.Test.YtddabkmppobcdaaGreatDoorPsPowLaid
import Derived.Test.YtddabkmppobcdaaGreatDoorPsShelf4
import Derived.Test.YtddabkmppobcdaaGreatDoorPsTextWalks
import Derived.Lib.AppendIntMem
set_option maxHeartbeats 32000000
set_option maxRecDepth 8000
namespace Go.Proofs.YtddabkmppobcdaaGreatDoor
namespace Pln
open Go.RowKit Lai Civ Crn RCrn

theorem grow_below (w:World) (k:Nat) (os:Array Obj):Below w.heap.size w (Go.Sort.grow (w.drewN k) os):=Lib.below_grow _ w (Nat.le_refl _) k os
theorem itoa_any (n:Int) (h:I n) (w:World) (hP:PowAt w):Calls Tryz.prog 50 #[.int .i64 n] w fun e w'=>e=.returned (strV (Lib.itoa n))∧Below w.heap.size w w':=
 (Tryz.strconv_Itoa n h.1 h.2 w hP).mono fun _ _ ⟨he,k,os,hw⟩=>⟨he,hw▸grow_below w k os⟩
theorem tail_snoc (sep x:List UInt8) (r:List (List UInt8)):Lib.joinTail sep (r++ [x])=Lib.joinTail sep r++sep++x:=by
 simp [Lib.joinTail]
def PlR (word:List UInt8) (l:List Int) (w:World) (t i:Value) (wr:World):Prop:= ∃k:Nat,k≤l.length∧i=.int .i64 k∧t=strV (lnT word (l.take k))∧Below w.heap.size w wr
theorem ln_step {word:List UInt8} {l:List Int} {k:Nat} {n:Int} (h:l[k]?=some n):lnT word (l.take (k+1))=lnT word (l.take k)++([32]++Lib.itoa n):=by
 unfold lnT
 rw [List.take_add_one,h,Option.toList_some,List.map_append,List.map_cons,List.map_nil,tail_snoc]
 simp
theorem itoa_len20 {n:Int} (h:I n):(Lib.itoa n).length≤20:=by
 have key: ∀u:Nat,u<10^19→(Lib.decDigits u).length≤19:=by
  intro u hu
  rw [Lib.decDigits_length]
  rcases Nat.lt_or_ge 19 (Lib.nDigits u)with g|g
  ·exfalso
   have step: ∀(k u:Nat),k+1≤Lib.nDigits u→k=0∨10^k≤u:=by
    intro k
    induction k with
    |zero=>intro u _;exact Or.inl rfl
    |succ k ih=>
     intro u hu
     right
     by_cases hs:u<10
     ·rw [Lib.nDigits_small hs]at hu;omega
     ·rw [Lib.nDigits_big hs]at hu
      rcases ih (u/10) (by omega)with rfl|q
      ·simp;omega
      ·rw [Nat.pow_succ];omega
   rcases step 19 u (by omega)with q|q
   ·cases q
   ·omega
  ·exact g
 unfold I at h
 have p19:(10:Nat)^19=10000000000000000000:=by decide
 unfold Lib.itoa
 split
 ·have:=key n.natAbs (by omega);simp;omega
 ·have:=key n.toNat (by omega);omega
theorem ln_len {word:List UInt8} : ∀ {l:List Int},(∀n∈l,I n)→(lnT word l).length≤word.length+21*l.length
 | [],_=>by simp [lnT,Lib.joinTail]
 |x::r,h=>by
  have ih:=ln_len (word:=word) (l:=r) (fun n hn=>h n (List.mem_cons_of_mem _ hn))
  have hx:=itoa_len20 (h x List.mem_cons_self)
  unfold lnT at ih⊢
  simp only [List.length_append,List.map_cons,Lib.joinTail,List.flatten_cons,List.length_cons,List.length_nil]at ih⊢
  omega
theorem cat3 (L D:List UInt8):Value.string ((⟨L.toArray⟩:ByteArray)++((⟨#[32]⟩:ByteArray)++(⟨D.toArray⟩:ByteArray)))=strV (L++([32]++D)):=by
 rw [show(⟨#[32]⟩:ByteArray)=⟨([32]:List UInt8).toArray⟩from rfl,str_add,str_add]
theorem ret_str' {a b:ByteArray} (h:a=b):Ending.returned (.string a)=.returned (.string b):=by rw [h]
theorem pline_any (word:List UInt8) (l:List Int) (B cap:Nat) (w:World) (hP:PowAt w) (hl:l.length≤10) (hI: ∀n∈l,I n) (hw:word.length≤100)
  (hc: ∀(j:Nat) n,l[j]?=some n→w.cell? ⟨B,j,none⟩=some (.int .i64 n)) (hB:B<w.heap.size):
  Calls Tryz.prog 19 #[strV word,.slice (some ⟨B,0,none⟩) l.length cap] w fun e w'=>e=.returned (strV (lnT word l++ [10]))∧Below w.heap.size w w':=by
 have HC:Hid (∀(j:Nat) n,l[j]?=some n→w.cell? ⟨B,j,none⟩=some (.int .i64 n)):=hc
 have HI:Hid (∀n∈l,I n):=hI
 clear hc hI
 go_enter Tryz.func19,Tryz.ntmps19
 go_wp2
 go_loopw [0,9] (fun t i wr=>PlR word l w t i wr) (fun _ i _=>l.length-(intOf i).toNat)
 case atStart=>exact⟨0,Nat.zero_le _,rfl,by simp [lnT,Lib.joinTail],Below.refl _ _⟩
 case round=>
  obtain⟨k,hk1,rfl,rfl,hbw⟩:=hrel
  have hPr:=hP.below hbw (Nat.le_refl _)
  have lk:(lnT word (l.take k)).length≤400:=by
   have:=ln_len (word:=word) (l:=l.take k) (fun n hn=>HI.out n (List.mem_of_mem_take hn))
   rw [List.length_take]at this
   omega
  by_cases hlt:k<l.length
  ·have hlt':(k:Int)<l.length:=by omega
   obtain⟨n,hx⟩: ∃x,l[k]?=some x:=⟨l[k],by simp [hlt]⟩
   have cx:wr.cell? ⟨B,k,none⟩=some (.int .i64 n):=(hbw.cell (p:=⟨B,k,none⟩) hB).trans (HC.out k n hx)
   have hin:=HI.out n (List.mem_of_getElem? hx)
   have ln:=itoa_len20 hin
   have c0:=fun w hP=>itoa_any n hin w hP
   have HT:Hid (lnT word (l.take (k+1))=lnT word (l.take k)++([32]++Lib.itoa n)):=ln_step hx
   clear hx hin
   generalize lnT word (l.take k)=L at lk HT⊢
   generalize Lib.itoa n=D at ln c0 HT
   have z1:(⟨L.toArray⟩:ByteArray).size=L.length:=rfl
   have z2:(⟨D.toArray⟩:ByteArray).size=D.length:=rfl
   go_wp2_with(go_at_call 50;(with_reducible refine(c0 _ hPr).mono ?_);rintro e w1 ⟨rfl,hb1⟩)
   go_roundw
   case rel=>
    refine⟨k+1,by omega,rfl,?_,hbw.trans (hb1.mono hbw.size)⟩
    rw [HT.out]
    exact cat3 L D
   case measure=>simp [intOf];omega
  ·obtain rfl:k=l.length:=by omega
   rw [List.take_length]at lk
   have HT:Hid (lnT word (l.take l.length)=lnT word l):=by unfold Hid;rw [List.take_length]
   rw [HT.out]
   have z1:(⟨(lnT word l).toArray⟩:ByteArray).size=(lnT word l).length:=rfl
   go_wp2
   go_ret
   exact⟨ret_str' (by rw [show(⟨#[10]⟩:ByteArray)=⟨([10]:List UInt8).toArray⟩from rfl,str_add]),hbw⟩
end Pln
end Go.Proofs.YtddabkmppobcdaaGreatDoor
