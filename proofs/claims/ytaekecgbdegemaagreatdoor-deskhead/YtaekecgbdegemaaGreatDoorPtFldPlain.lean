/- A part. -/
import Derived.Test.YtaekecgbdegemaaGreatDoorPtParsePlain
import Derived.Lib.FieldsP
import Derived.Lib.MapLaws
set_option linter.all false
open Go.Proofs.Tryz
namespace Go.Proofs.YtaekecgbdegemaaGreatDoor
namespace Fld
open Go Go.Lib Pie

def flds:List UInt8→List UInt8→List (List UInt8)
 |c,[]=>if c=[]then []else [c]
 |c,b::t=>if b=32 then(if c=[]then flds [] t else c::flds [] t)else flds (c++ [b]) t
theorem flds_skip: ∀(u t c:List UInt8),(32:UInt8)∉u→flds c (u++t)=flds (c++u) t
 | [],t,c,_=>by simp
 |b::u,t,c,h=>by
  have hb:b≠32:=fun e=>h (by simp [e])
  have:=flds_skip u t (c++ [b]) (fun e=>h (by simp [e]))
  simp only [XR,flds,if_neg hb]
  simpa using this
theorem flds_pieces: ∀(l c:List UInt8),flds c l=((c++(pieces 32 l).headD [])::(pieces 32 l).tail).filter (· ≠ [])
 | [],c=>by by_cases h:c=[]<;>simp [flds,pieces,h]
 |b::t,c=>by
  have h0:=flds_pieces t []
  have hp:pieces 32 t=(pieces 32 t).headD []::(pieces 32 t).tail:=by cases h:pieces 32 t with|nil=>exact absurd h (pieces_ne 32 t)|cons a r=>rfl
  rw [Yf,←hp]at h0
  rw [pieces_cons]
  by_cases h:b=32
  ·rw [if_pos h]
   by_cases hc:c=[]
   ·simp [flds,h,hc,h0]
   ·simp [flds,h,hc,h0]
  ·rw [if_neg h]
   have:=flds_pieces t (c++ [b])
   simpa [flds,h]using this
theorem dec_at (s:ByteArray) (i:Nat) (h:i<s.size):(Utf8.decode s i=(32,1)∧s.data.toList[i]? =some 32)∨
  (((Utf8.decode s i).1==32)=false∧1≤(Utf8.decode s i).2∧i+(Utf8.decode s i).2≤s.size∧(32:UInt8)∉(s.data.toList.drop i).take (Utf8.decode s i).2):=by
 have hg: ∀j,s.data.toList[j]? =some 32→(s.get! j).toNat=32:=fun j hj=>by
  have h1:j<s.data.size:=by
   have:=(Xe.1 hj).1;simpa using this
  have:s.get! j=32:=by
   show s.data[j]! =32;rw [Array.getElem!_eq_getD,Yi];have:s.data[j]? =some 32:=by simpa using hj
   rw [this];rfl
  rw [this];rfl
 have hn: ∀w,(∀j,j<w→(s.get! (i+j)).toNat≠32)→(32:UInt8)∉(s.data.toList.drop i).take w:=fun w hw hm=>by
  obtain⟨j,hj⟩:=List.getElem?_of_mem hm;have hjw:j<w:=by
   have:=(Xe.1 hj).1;rw [Xt]at this;omega
  rw [List.getElem?_take_of_lt hjw,Yk]at hj;exact hw j hjw (hg _ hj)
 have hs:=decodeN_shape (s.size-i) (s.get! i).toNat (s.get! (i+1)).toNat (s.get! (i+2)).toNat (s.get! (i+3)).toNat;rw [←decode_at]at hs;have h2:s.data.toList[i]? =some (s.get! i):=by
  have hi:i<s.data.toList.length:=by simpa using h
  rw [Xz hi];congr 1;show _=s.data[i]!;rw [Array.getElem!_eq_getD,Yi,X7 h];simp
 rcases hs with⟨a,e⟩|⟨a,b,c,d,e⟩|⟨a,b,c,d,f,_,e⟩|⟨a,b,c,d,f,g,_,e⟩|e
 ·by_cases hb:(s.get! i).toNat=32
  ·left;rw [e,hb,h2];have:s.get! i=32:=UInt8.toNat_inj.1 (by rw [hb];rfl);exact⟨rfl,by rw [this]⟩
  ·right;rw [e];refine⟨by simpa using hb,Xa _,h,hn 1 fun j hj=> ?_⟩;obtain rfl:j=0:=by omega
   exact hb
 ·right;rw [e];refine⟨by rw [beq_eq_false_iff_ne];simp only;omega,by simp only;omega,by simp only;omega,hn 2 fun j hj=> ?_⟩;rcases(by omega:j=0∨j=1)with rfl|rfl
  ·simp only [XD];omega
  ·omega
 ·right;rw [e];refine⟨by rw [beq_eq_false_iff_ne];simp only;omega,by simp only;omega,by simp only;omega,hn 3 fun j hj=> ?_⟩;rcases(by omega:j=0∨j=1∨j=2)with rfl|rfl|rfl
  ·simp only [XD];omega
  ·omega
  ·omega
 ·right;rw [e];refine⟨by rw [beq_eq_false_iff_ne];simp only;omega,by simp only;omega,by simp only;omega,hn 4 fun j hj=> ?_⟩;rcases(by omega:j=0∨j=1∨j=2∨j=3)with rfl|rfl|rfl|rfl
  ·simp only [XD];omega
  ·omega
  ·omega
  ·omega
 ·by_cases hb:(s.get! i).toNat=32
  ·exfalso;have:=decode_at s i;rw [e,hb]at this;simp [decodeN]at this
  ·right;rw [e];refine⟨by decide,Xa _,h,hn 1 fun j hj=> ?_⟩;obtain rfl:j=0:=by omega
   exact hb
def pc (l:List UInt8) (x:Nat×Nat):List UInt8:=(l.take x.2).drop x.1
def opn (l:List UInt8):Option Nat→Nat→List UInt8
 |none,_=> []
 |some a,i=>pc l (a,i)
theorem opn_ne {l:List UInt8} {a i:Nat} (h:a<i) (hi:i≤l.length):pc l (a,i)≠ []:=fun e=>by
 have:=congrArg List.length e
 simp [pc]at this;omega
theorem opn_more (l:List UInt8) (st:Option Nat) (i w:Nat) (h: ∀a,st=some a→a<i) (hi:i+w≤l.length):opn l st i++(l.drop i).take w=pc l (st.getD i,i+w):=by
 have e:l.take (i+w)=l.take i++(l.drop i).take w:=by rw [List.take_add]
 cases st with
 |none=>
  have hz:(l.take i).length=i:=by rw [Xt];omega
  show []++_=(l.take (i+w)).drop i;rw [e,List.drop_append_of_le_length (Nat.le_of_eq hz.symm),List.drop_eq_nil_of_le (Nat.le_of_eq hz)]
 |some a=>
  have ha:=h a rfl;show(l.take i).drop a++_=(l.take (i+w)).drop a;rw [e,List.drop_append_of_le_length (by rw [Xt];omega)]
theorem spans_flds (s:ByteArray): ∀(f i:Nat) (st:Option Nat) (acc:List (Nat×Nat)),s.size≤i+f→i≤s.size→(∀a,st=some a→a<i)→
  (closeSpans s (spansFromP (fun x=>x==32) s f i st acc)).map (pc s.data.toList)=acc.map (pc s.data.toList)++flds (opn s.data.toList st i) (s.data.toList.drop i):=by
 have hsz:s.data.toList.length=s.size:=by simp
 have close: ∀st acc,(∀a,st=some a→a<s.size)→(closeSpans s (acc,st)).map (pc s.data.toList)=acc.map (pc s.data.toList)++flds (opn s.data.toList st s.size) (s.data.toList.drop s.size):=fun st acc h=>by
  rw [List.drop_eq_nil_of_le (by omega)];cases st with
  |none=>simp [closeSpans,opn,flds]
  |some a=>simp [closeSpans,opn,flds,opn_ne (h a rfl) (Nat.le_of_eq hsz.symm)]
 intro f;induction f with
 |zero=>
  intro i st acc h hi hst;obtain rfl:i=s.size:=by omega
  exact close st acc hst
 |succ f ih=>
  intro i st acc h hi hst;by_cases hlt:i<s.size
  ·rcases dec_at s i hlt with⟨e,h32⟩|⟨e1,e2,e3,e4⟩
   ·have hd:s.data.toList.drop i=32::s.data.toList.drop (i+1):=by
     obtain⟨hl,hv⟩:=Xe.1 h32;rw [Yn hl,hv]
    simp only [spansFromP,if_pos hlt,e,hd,flds];cases st with
    |none=>simpa [opn]using ih (i+1) none acc (by omega) (by omega) (fun a h=>by cases h)
    |some a=>simpa [opn,opn_ne (hst a rfl) (by omega:i≤s.data.toList.length)]using ih (i+1) none (acc++ [(a,i)]) (by omega) (by omega) (fun a h=>by cases h)
   ·have hd:s.data.toList.drop i=(s.data.toList.drop i).take (Utf8.decode s i).2++s.data.toList.drop (i+(Utf8.decode s i).2):=by
     rw [←List.drop_drop,Yz]
    rw [hd,flds_skip _ _ _ e4,opn_more _ _ _ _ hst (by omega)];simp only [spansFromP,if_pos hlt,e1]
    have := ih (i + (Utf8.decode s i).2) (some (st.getD i)) acc (by omega) e3 (fun a h => by
     cases h;cases st with
     |none=>show i<_;omega
     |some b=>have:=hst b rfl;show b<_;omega)
    cases st<;>simpa [opn]using this
  ·obtain rfl:i=s.size:=by omega
   rw [spansFromP_end _ _ _ _ _ _ hlt];exact close st acc hst
theorem fields_words (l:List UInt8):(goFieldsP (fun x=>x==32) ⟨l.toArray⟩).map (fun x=>x.data.toList)=(pieces 32 l).filter (· ≠ []):=by
 have h:=spans_flds ⟨l.toArray⟩ l.length 0 none [] (by show l.length≤_;omega) (Xx _) (fun a h=>by cases h);have h2:=flds_pieces l [];have hp:pieces 32 l=(pieces 32 l).headD []::(pieces 32 l).tail:=by cases h:pieces 32 l with|nil=>exact absurd h (pieces_ne 32 l)|cons a r=>rfl
 rw [Yf,←hp]at h2;simp only [opn,X5,Yf,List.drop_zero]at h;rw [←h2,←h];unfold goFieldsP spansOfP;rw [List.map_map];refine List.map_congr_left fun x _=> ?_;simp [pc,ByteArray.data_extract,List.drop_take]
